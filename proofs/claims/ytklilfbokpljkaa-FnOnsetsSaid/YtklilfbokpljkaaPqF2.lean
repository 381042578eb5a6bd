/- Picks: what holds of a list after a revision. -/
import Derived.Test.YtklilfbokpljkaaPqX
import Derived.Test.YtklilfbokpljkaaPqS
namespace Go.Proofs.Ytklilfbokpljkaa
open Go.ChangeShapes Go.WideShapes Go.ChangeAt Go.RowKit Go.ChangeMaps
set_option linter.unusedSimpArgs false
set_option linter.unusedVariables false

theorem look_snoc {xs : List GPick} {p : GPick} {i : Int} (h : i < p.pId) : lookP (xs ++ [p]) i = lookP xs i := by
  have e : (List.find? (fun q : GPick => decide (q.pId = i)) [p]) = none := by
    rw [List.find?_eq_none]
    intro q hq
    rw [List.mem_singleton] at hq
    subst hq
    simp; omega
  unfold lookP
  rw [List.find?_append, e, Option.or_none]
theorem histF_snoc {xs : List GPick} {p : GPick} (ho : okP xs) : ∀ (n : Nat) (i : Int), i < p.pId → histF (xs ++ [p]) n i = histF xs n i
  | 0, _, _ => rfl
  | n + 1, i, h => by
    cases hq : lookP xs i with
    | none => rw [histF_none hq, histF_none (by rw [look_snoc h]; exact hq)]
    | some q =>
      obtain ⟨hm, hi⟩ := look_mem hq
      have h1 := okP_mem ho hm
      unfold oneP at h1
      rw [histF_some hq, histF_some (by rw [look_snoc h]; exact hq), histF_snoc ho n q.pAfter (by omega)]
theorem cur_mem {xs : List GPick} {i : Int} (h : i ∈ resCur xs) : curB xs i = true ∧ ∃ p ∈ xs, p.pId = i := by
  unfold resCur at h
  split at h
  · obtain ⟨p, hp, rfl⟩ := List.mem_map.1 h
    have h2 := (ordC_perm xs).subset hp
    have h3 := (List.mem_filter.1 h2)
    exact ⟨h3.2, p, h3.1, rfl⟩
  · simp at h
theorem mem_cur {xs : List GPick} {p : GPick} (hg : goodP xs = true) (hp : p ∈ xs) (hc : curB xs p.pId = true) : p.pId ∈ resCur xs := by
  rw [resCur_yes hg]
  exact List.mem_map.2 ⟨p, (ordC_perm xs).symm.subset (List.mem_filter.2 ⟨hp, hc⟩), rfl⟩
theorem okP_wf {xs : List GPick} (h : okP xs) : ∀ s ∈ xs, wfPick s := fun s hs => by
  have := okP_mem h hs
  unfold oneP at this
  unfold wfPick I64
  omega
theorem rev_facts {xs : List GPick} {id tick err by_ : Int} (h : okRev xs id tick err by_ = true) :
    (goodP (resRev xs id tick err by_) = true ∧ (∀ s ∈ resRev xs id tick err by_, wfPick s) ∧ I64 (nextRev xs id tick err by_)) ∧ (nextRev xs id tick err by_ ∈ resCur (resRev xs id tick err by_) ∧ id ∉ resCur (resRev xs id tick err by_)) ∧
      (okH (resRev xs id tick err by_) (nextRev xs id tick err by_) = true ∧ okH xs id = true ∧ (resH (resRev xs id tick err by_) (nextRev xs id tick err by_)).length = (resH xs id).length + 1) ∧
      (okWd (resRev xs id tick err by_) = true ∧ resWd (resRev xs id tick err by_) = xs) := by
  obtain ⟨ys, hy⟩ := @of_decide_eq_true _ (Classical.propDecidable _) h
  obtain ⟨_, e1, e2⟩ := rev_yes hy
  rw [e1, e2]
  obtain ⟨hg, q, hq, rfl, hg2⟩ := hy
  obtain ⟨np, hnp⟩ : ∃ p, newP q (lastId xs + 1) tick err by_ = p := ⟨_, rfl⟩
  have hid : np.pId = lastId xs + 1 := by rw [← hnp]; rfl
  have haf : np.pAfter = q.pId := by rw [← hnp]; rfl
  rw [hnp] at hg2 ⊢
  rw [← hid]
  have ho := goodP_yes hg
  have ho2 := goodP_yes hg2
  obtain ⟨hm, hi⟩ := look_mem hq
  have hmem : np ∈ xs ++ [np] := by simp
  have hl : ∀ s ∈ xs, s.pId < np.pId := fun s hs => (List.pairwise_append.1 (ids_asc ho2)).2.2 s hs np (by simp)
  have hn1 := okP_mem ho2 hmem
  have hat : (xs ++ [np])[xs.length]? = some np := by simp
  have hlk := look_at ho2 hat
  have hidl : id < np.pId := by have := hl q hm; omega
  refine ⟨⟨hg2, okP_wf ho2, ?_⟩, ⟨?_, ?_⟩, ⟨(h_yes hg2 hlk).1, (h_yes hg hq).1, ?_⟩, ?_⟩
  · unfold oneP at hn1; unfold I64; omega
  · refine mem_cur hg2 hmem (cur_yes fun s hs e => ?_)
    have h1 := okP_mem ho2 hs
    unfold oneP at h1
    rcases List.mem_append.1 hs with h2 | h2
    · have := hl s h2; omega
    · rw [List.mem_singleton] at h2; subst h2; omega
  · intro hc
    have h1 := (cur_mem hc).1
    rw [cur_no hmem (by rw [haf, hi])] at h1
    cases h1
  · rw [(h_yes hg2 hlk).2, (h_yes hg hq).2, histP_some ho2 hlk, haf, hi, List.length_cons]
    unfold histP
    rw [histF_snoc ho _ _ hidl]
  · obtain ⟨h1, h2⟩ := wd_yes hg2 (by simp)
    refine ⟨h1, ?_⟩
    rw [h2]
    simp
end Go.Proofs.Ytklilfbokpljkaa
