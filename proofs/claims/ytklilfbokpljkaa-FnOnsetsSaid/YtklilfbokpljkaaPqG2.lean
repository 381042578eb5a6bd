/- Picks: what holds of pairs, windows and revisions. -/
import Derived.Test.YtklilfbokpljkaaPqF2
import Derived.Test.YtklilfbokpljkaaPqD2
import Derived.Test.YtklilfbokpljkaaPqB2
namespace Go.Proofs.Ytklilfbokpljkaa
open Go.ChangeShapes Go.WideShapes Go.ChangeAt Go.RowKit Go.ChangeMaps
set_option linter.unusedSimpArgs false
set_option linter.unusedVariables false

theorem pr_facts {xs : List GPick} {st : Int} {r : List Int} (h : r ∈ resPr xs st) : ∃ a b : Int, r = [a, b] ∧ (I64 a ∧ I64 b) ∧ (a ∈ resCur xs ∧ b ∈ resCur xs) ∧ (okWin xs a = true ∧ okWin xs b = true) ∧ hiWin xs a < loWin xs b := by
  unfold resPr at h
  split at h
  case isFalse => simp at h
  next hk =>
  have hg : goodP xs = true := by
    unfold okPr at hk
    rw [Bool.and_eq_true] at hk
    exact hk.1
  have ho := goodP_yes hg
  unfold pairsP at h
  obtain ⟨p, hp, hr⟩ := List.mem_flatMap.1 h
  obtain ⟨hp1, hp2⟩ := List.mem_filter.1 hp
  unfold rowP at hr
  obtain ⟨s, hs, rfl⟩ := List.mem_map.1 hr
  obtain ⟨hs1, hs2⟩ := List.mem_filter.1 hs
  rw [Bool.and_eq_true] at hs2
  obtain ⟨hs2, hb⟩ := hs2
  have mp := List.mem_of_mem_take hp1
  have ms := List.mem_of_mem_take hs1
  unfold selP at hp2 hs2
  rw [Bool.and_eq_true] at hp2 hs2
  have op := okP_mem ho mp
  have os := okP_mem ho ms
  unfold oneP at op os
  obtain ⟨j, hj⟩ := List.mem_iff_getElem?.1 mp
  obtain ⟨k, hk2⟩ := List.mem_iff_getElem?.1 ms
  have lp := look_at ho hj
  have ls := look_at ho hk2
  obtain ⟨w1, w2, w3⟩ := win_yes hg lp
  obtain ⟨w4, w5, w6⟩ := win_yes hg ls
  unfold befP at hb
  have hb2 := of_decide_eq_true hb
  refine ⟨p.pId, s.pId, rfl, ⟨by unfold I64; omega, by unfold I64; omega⟩, ⟨mem_cur hg mp hp2.1, mem_cur hg ms hs2.1⟩, ⟨w1, w4⟩, ?_⟩
  rw [w3, w5]
  omega
theorem win_facts {xs : List GPick} {i : Int} (h : okWin xs i = true) : ∀ s ∈ xs, s.pId = i → ¬ s.pTick < loWin xs i ∧ ¬ hiWin xs i < s.pTick := by
  intro s hs hi
  have hg : goodP xs = true := by
    unfold okWin at h
    rw [Bool.and_eq_true] at h
    exact h.1
  have ho := goodP_yes hg
  obtain ⟨j, hj⟩ := List.mem_iff_getElem?.1 hs
  have ls := look_at ho hj
  rw [hi] at ls
  obtain ⟨_, w2, w3⟩ := win_yes hg ls
  have os := okP_mem ho hs
  unfold oneP at os
  rw [w2, w3]
  omega
theorem cur_good {xs : List GPick} {i : Int} (h : i ∈ resCur xs) : goodP xs = true := by
  cases hg : goodP xs with
  | true => rfl
  | false => rw [resCur_no hg] at h; simp at h
theorem hum_facts (xs : List GPick) : ¬ allR xs < humR xs := by
  unfold allR humR
  have := hum_le (revsP xs xs.length)
  split <;> omega
theorem mov_facts (xs : List GPick) : okM xs = (goodP xs && decide (0 < allR xs)) := by
  unfold okM allR
  cases hg : goodP xs with
  | false => rfl
  | true =>
    cases hr : revsP xs xs.length with
    | nil => rfl
    | cons a l => first | (simp; done) | (simp; omega)
end Go.Proofs.Ytklilfbokpljkaa
