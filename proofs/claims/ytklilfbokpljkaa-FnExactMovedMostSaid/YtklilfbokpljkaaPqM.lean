/- Picks and their history: the mathematics. -/
import Derived.Test.YtklilfbokpljkaaFPick
import Derived.Test.YtklilfbokpljkaaStaW
import Derived.Test.YtklilfbokpljkaaRed
namespace Go.Proofs.Ytklilfbokpljkaa
open Go.ChangeShapes Go.WideShapes Go.ChangeAt Go.RowKit Go.ChangeMaps
set_option linter.unusedSimpArgs false
set_option linter.unusedVariables false

theorem inB_iff {x a b : Int} : inB x a b = true ↔ a ≤ x ∧ x ≤ b := by unfold inB; exact decide_eq_true_iff
def oneP (p : GPick) : Prop := (1 ≤ p.pId ∧ p.pId ≤ 9999) ∧ (1 ≤ p.pStation ∧ p.pStation ≤ 99) ∧ (0 ≤ p.pWave ∧ p.pWave ≤ 1) ∧ (0 ≤ p.pTick ∧ p.pTick ≤ 1000000) ∧ (0 ≤ p.pError ∧ p.pError ≤ 1000) ∧ (0 ≤ p.pBy ∧ p.pBy ≤ 50) ∧ (0 ≤ p.pAfter ∧ p.pAfter ≤ p.pId - 1)
/-- The first pick with an Id. -/
def lookP (xs : List GPick) (id : Int) : Option GPick := xs.find? fun p => decide (p.pId = id)
/-- No pick has this Id in its After. -/
def curB (xs : List GPick) (id : Int) : Bool := xs.all fun p => !decide (p.pAfter = id)
/-- Pick p at place k replaces nothing, or the current one with that Id before it. -/
def repP (pre : List GPick) (p : GPick) : Prop := ∃ q, lookP pre p.pAfter = some q ∧ (curB pre p.pAfter = true ∧ q.pStation = p.pStation) ∧ q.pWave = p.pWave
def atP (xs : List GPick) (k : Nat) (p : GPick) : Prop := oneP p ∧ (∀ q, 0 < k → xs[k - 1]? = some q → q.pId < p.pId) ∧ (p.pAfter = 0 ∨ repP (xs.take k) p)
def uptoP (xs : List GPick) (k : Nat) : Prop := ∀ i p, i < k → xs[i]? = some p → atP xs i p
def okP (xs : List GPick) : Prop := xs.length ≤ 12 ∧ uptoP xs xs.length
noncomputable def goodP (xs : List GPick) : Bool := @decide (okP xs) (Classical.propDecidable _)
theorem goodP_yes {xs : List GPick} (h : goodP xs = true) : okP xs := @of_decide_eq_true _ (Classical.propDecidable _) h
theorem goodP_mk {xs : List GPick} (h : okP xs) : goodP xs = true := @decide_eq_true _ (Classical.propDecidable _) h
theorem goodP_no {xs : List GPick} (h : ¬ okP xs) : goodP xs = false := @decide_eq_false _ (Classical.propDecidable _) h
theorem uptoP_zero (xs : List GPick) : uptoP xs 0 := fun _ _ h => by omega
theorem uptoP_succ {xs : List GPick} {k : Nat} {p : GPick} (h : uptoP xs k) (hp : xs[k]? = some p) (ha : atP xs k p) : uptoP xs (k + 1) := fun i q hi hq => by
  by_cases e : i = k
  · subst e; rw [hp] at hq; cases hq; exact ha
  · exact h i q (by omega) hq
theorem okP_at {xs : List GPick} (h : okP xs) {k : Nat} {p : GPick} (hp : xs[k]? = some p) : atP xs k p := h.2 k p (List.getElem?_eq_some_iff.1 hp).1 hp
/-- The place of the first pick with an Id, or -1. -/
def isIdx (xs : List GPick) (id r : Int) : Prop := (r = -1 ∧ (∀ s ∈ xs, s.pId ≠ id) ∧ lookP xs id = none) ∨ ∃ (k : Nat) (s : GPick), r = k ∧ xs[k]? = some s ∧ s.pId = id ∧ (∀ j t, xs[j]? = some t → j < k → t.pId ≠ id) ∧ lookP xs id = some s
theorem look_none {xs : List GPick} {id : Int} (h : ∀ s ∈ xs, s.pId ≠ id) : lookP xs id = none := by
  unfold lookP
  rw [List.find?_eq_none]
  intro x hx
  have := h x hx
  simpa using this
theorem look_first {xs : List GPick} {id : Int} {k : Nat} {s : GPick} (hs : xs[k]? = some s) (he : s.pId = id) (hf : ∀ j t, xs[j]? = some t → j < k → t.pId ≠ id) : lookP xs id = some s := by
  unfold lookP
  rw [List.find?_eq_some_iff_getElem]
  obtain ⟨hl, hv⟩ := List.getElem?_eq_some_iff.1 hs
  refine ⟨by simpa using he, k, hl, hv, fun j hj => ?_⟩
  have := hf j _ (List.getElem?_eq_getElem (by omega)) hj
  simpa using this
theorem look_some {xs : List GPick} {id : Int} {s : GPick} (h : lookP xs id = some s) : ∃ k : Nat, xs[k]? = some s ∧ s.pId = id ∧ ∀ j t, xs[j]? = some t → j < k → t.pId ≠ id := by
  unfold lookP at h
  rw [List.find?_eq_some_iff_getElem] at h
  obtain ⟨he, k, hl, hv, hf⟩ := h
  refine ⟨k, List.getElem?_eq_some_iff.2 ⟨hl, hv⟩, by simpa using he, fun j t ht hj => ?_⟩
  have := hf j hj
  obtain ⟨h1, h2⟩ := List.getElem?_eq_some_iff.1 ht
  rw [h2] at this
  simpa using this
theorem look_nil {xs : List GPick} {id : Int} (h : lookP xs id = none) : ∀ s ∈ xs, s.pId ≠ id := by
  unfold lookP at h
  rw [List.find?_eq_none] at h
  intro s hs
  have := h s hs
  simpa using this
theorem idx_of_first {xs : List GPick} {id : Int} {k : Nat} {s : GPick} (hs : xs[k]? = some s) (he : s.pId = id) (hf : ∀ j t, xs[j]? = some t → j < k → t.pId ≠ id) : isIdx xs id k := Or.inr ⟨k, s, rfl, hs, he, hf, look_first hs he hf⟩
theorem idx_of_none {xs : List GPick} {id : Int} (h : ∀ s ∈ xs, s.pId ≠ id) : isIdx xs id (-1) := Or.inl ⟨rfl, h, look_none h⟩
theorem isIdx_ex (xs : List GPick) (id : Int) : ∃ r, isIdx xs id r := by
  cases h : lookP xs id with
  | none => exact ⟨-1, idx_of_none (look_nil h)⟩
  | some s =>
    obtain ⟨k, h1, h2, h3⟩ := look_some h
    exact ⟨k, idx_of_first h1 h2 h3⟩
theorem isIdx_uniq {xs : List GPick} {id r q : Int} (h : isIdx xs id r) (g : isIdx xs id q) : r = q := by
  rcases h with ⟨rfl, hn, _⟩ | ⟨k, s, rfl, hk, hi, hf, _⟩
  · rcases g with ⟨rfl, _⟩ | ⟨k, s, rfl, hk, hi, _⟩
    · rfl
    · exact absurd hi (hn s (List.mem_of_getElem? hk))
  · rcases g with ⟨rfl, hn, _⟩ | ⟨j, t, rfl, hj, hi2, hf2, _⟩
    · exact absurd hi (hn s (List.mem_of_getElem? hk))
    · rcases Nat.lt_trichotomy k j with e | e | e
      · exact absurd hi (hf2 k s hk e)
      · rw [e]
      · exact absurd hi2 (hf j t hj e)
theorem cur_yes {xs : List GPick} {id : Int} (h : ∀ s ∈ xs, s.pAfter ≠ id) : curB xs id = true := by
  unfold curB
  rw [List.all_eq_true]
  intro x hx
  have := h x hx
  simpa using this
theorem cur_no {xs : List GPick} {id : Int} {s : GPick} (hs : s ∈ xs) (h : s.pAfter = id) : curB xs id = false := by
  unfold curB
  rw [List.all_eq_false]
  exact ⟨s, hs, by simpa using h⟩
/-- Ids ascend. -/
theorem ids_asc {xs : List GPick} (h : okP xs) : xs.Pairwise fun a b => a.pId < b.pId := by
  rw [List.pairwise_iff_getElem]
  intro i j hi hj hij
  induction j with
  | zero => omega
  | succ j ih =>
    have h1 := (okP_at h (List.getElem?_eq_getElem hj)).2.1 (xs[j]'(by omega)) (by omega) (List.getElem?_eq_getElem (by omega))
    rcases Nat.lt_or_ge i j with q | q
    · have := ih (by omega) q
      omega
    · have : i = j := by omega
      subst this; exact h1
theorem id_inj {xs : List GPick} (h : okP xs) {i j : Nat} {a b : GPick} (ha : xs[i]? = some a) (hb : xs[j]? = some b) (e : a.pId = b.pId) : i = j := by
  obtain ⟨hi, rfl⟩ := List.getElem?_eq_some_iff.1 ha
  obtain ⟨hj, rfl⟩ := List.getElem?_eq_some_iff.1 hb
  have hp := List.pairwise_iff_getElem.1 (ids_asc h)
  rcases Nat.lt_trichotomy i j with q | q | q
  · have := hp i j hi hj q; omega
  · exact q
  · have := hp j i hj hi q; omega
theorem look_at {xs : List GPick} (h : okP xs) {k : Nat} {p : GPick} (hp : xs[k]? = some p) : lookP xs p.pId = some p := look_first hp rfl fun j t ht hj e => by
  have := id_inj h ht hp e; omega
theorem look_mem {xs : List GPick} {id : Int} {s : GPick} (h : lookP xs id = some s) : s ∈ xs ∧ s.pId = id := let ⟨_, h1, h2, _⟩ := look_some h; ⟨List.mem_of_getElem? h1, h2⟩
theorem look_take {xs : List GPick} {k : Nat} {id : Int} {q : GPick} (h : lookP (xs.take k) id = some q) : lookP xs id = some q := by
  obtain ⟨j, h1, h2, h3⟩ := look_some h
  have hj : j < (xs.take k).length := (List.getElem?_eq_some_iff.1 h1).1
  rw [List.length_take] at hj
  rw [List.getElem?_take, if_pos (by omega)] at h1
  refine look_first h1 h2 fun i t ht hi => h3 i t ?_ hi
  rw [List.getElem?_take, if_pos (by omega)]; exact ht
theorem okP_mem {xs : List GPick} (h : okP xs) {p : GPick} (hp : p ∈ xs) : oneP p := by
  obtain ⟨k, hk⟩ := List.mem_iff_getElem?.1 hp
  exact (okP_at h hk).1
theorem look_zero {xs : List GPick} (h : okP xs) {id : Int} (hi : id ≤ 0) : lookP xs id = none := look_none fun s hs => by
  have := (okP_mem h hs).1; omega
/-- What a pick of a list replaces. -/
theorem after_some {xs : List GPick} (h : okP xs) {p : GPick} (hp : p ∈ xs) (ha : p.pAfter ≠ 0) : ∃ q, lookP xs p.pAfter = some q ∧ q.pStation = p.pStation ∧ q.pWave = p.pWave ∧ q.pId < p.pId := by
  obtain ⟨k, hk⟩ := List.mem_iff_getElem?.1 hp
  obtain ⟨h1, _, h3⟩ := okP_at h hk
  rcases h3 with h3 | ⟨q, h3, h4, h5⟩
  · exact absurd h3 ha
  · have h6 := look_take h3
    have h7 := (look_mem h6).2
    unfold oneP at h1
    exact ⟨q, h6, h4.2, h5, by omega⟩
theorem okP_take {xs : List GPick} (h : okP xs) (k : Nat) : okP (xs.take k) := by
  refine ⟨by have := h.1; rw [List.length_take]; omega, fun i p hi hp => ?_⟩
  rw [List.length_take] at hi
  rw [List.getElem?_take, if_pos (by omega)] at hp
  obtain ⟨h1, h2, h3⟩ := okP_at h hp
  refine ⟨h1, fun q hi0 hq => h2 q hi0 ?_, ?_⟩
  · rw [List.getElem?_take, if_pos (by omega)] at hq; exact hq
  · rw [List.take_take, Nat.min_eq_left (by omega)]; exact h3
/-- What a pick replaced: every pick that replaces one, and that one. -/
def pairP (xs : List GPick) (p : GPick) : Option (GPick × GPick) := (lookP xs p.pAfter).map fun q => (p, q)
def revsP (xs : List GPick) (k : Nat) : List (GPick × GPick) := (xs.take k).filterMap (pairP xs)
theorem revs_zero (xs : List GPick) : revsP xs 0 = [] := by simp [revsP]
theorem revs_none {xs : List GPick} {k : Nat} {p : GPick} (hp : xs[k]? = some p) (hn : lookP xs p.pAfter = none) : revsP xs (k + 1) = revsP xs k := by
  have e : xs.take (k + 1) = xs.take k ++ [p] := take_snoc hp
  unfold revsP
  rw [e, List.filterMap_append]
  simp [pairP, hn]
theorem revs_some {xs : List GPick} {k : Nat} {p q : GPick} (hp : xs[k]? = some p) (hq : lookP xs p.pAfter = some q) : revsP xs (k + 1) = revsP xs k ++ [(p, q)] := by
  have e : xs.take (k + 1) = xs.take k ++ [p] := take_snoc hp
  unfold revsP
  rw [e, List.filterMap_append]
  simp [pairP, hq]
theorem revs_len (xs : List GPick) (k : Nat) : (revsP xs k).length ≤ xs.length := by
  unfold revsP
  have := List.length_filterMap_le (pairP xs) (xs.take k)
  rw [List.length_take] at this
  omega
theorem revs_mem {xs : List GPick} {k : Nat} {r : GPick × GPick} (h : r ∈ revsP xs k) : r.1 ∈ xs ∧ r.2 ∈ xs := by
  unfold revsP at h
  rw [List.mem_filterMap] at h
  obtain ⟨p, hp, e⟩ := h
  unfold pairP at e
  cases hq : lookP xs p.pAfter with
  | none => rw [hq] at e; cases e
  | some q => rw [hq] at e; cases e; exact ⟨List.mem_of_mem_take hp, (look_mem hq).1⟩
def manP (r : GPick × GPick) : Bool := decide (r.2.pBy = 0) && !decide (r.1.pBy = 0)
def humP (l : List (GPick × GPick)) : Nat := (l.filter manP).length
theorem hum_nil : humP [] = 0 := rfl
theorem hum_snoc (l : List (GPick × GPick)) (r : GPick × GPick) : humP (l ++ [r]) = humP l + (if manP r = true then 1 else 0) := by
  unfold humP
  rw [List.filter_append, List.length_append]
  by_cases h : manP r = true
  · rw [if_pos h]; simp [h]
  · rw [if_neg h]; simp [h]
theorem hum_le (l : List (GPick × GPick)) : humP l ≤ l.length := List.length_filter_le _ _
/-- The greatest move, and whose it is. -/
def movP (r : GPick × GPick) : Int := ab (r.1.pTick - r.2.pTick)
def mvStep (a : Int × Int) (r : GPick × GPick) : Int × Int := if a.2 < movP r then (r.1.pId, movP r) else a
def mvP (l : List (GPick × GPick)) : Int × Int := l.foldl mvStep (0, -1)
theorem mv_nil : mvP [] = (0, -1) := rfl
theorem mv_snoc (l : List (GPick × GPick)) (r : GPick × GPick) : mvP (l ++ [r]) = mvStep (mvP l) r := by unfold mvP; rw [List.foldl_append]; rfl
theorem ab_nn (x : Int) : 0 ≤ ab x := by unfold ab; split <;> omega
/-- No pick yet, or a valid one with its move. -/
theorem mv_form (xs : List GPick) (h : okP xs) (k : Nat) : (revsP xs k = [] ∧ mvP (revsP xs k) = (0, -1)) ∨ (revsP xs k ≠ [] ∧ 1 ≤ (mvP (revsP xs k)).1 ∧ (mvP (revsP xs k)).1 ≤ 9999 ∧ 0 ≤ (mvP (revsP xs k)).2 ∧ (mvP (revsP xs k)).2 ≤ 1000000) := by
  have H : ∀ l : List (GPick × GPick), (∀ r ∈ l, oneP r.1 ∧ oneP r.2) → ∀ a : Int × Int, (a = (0, -1) ∧ l = [] ∧ l.foldl mvStep a = (0, -1)) ∨ (1 ≤ (l.foldl mvStep a).1 ∧ (l.foldl mvStep a).1 ≤ 9999 ∧ 0 ≤ (l.foldl mvStep a).2 ∧ (l.foldl mvStep a).2 ≤ 1000000) ∨ ¬ (a = (0, -1) ∨ (1 ≤ a.1 ∧ a.1 ≤ 9999 ∧ 0 ≤ a.2 ∧ a.2 ≤ 1000000)) := by
    intro l
    induction l with
    | nil =>
      intro _ a
      by_cases e : a = (0, -1)
      · exact Or.inl ⟨e, rfl, e⟩
      · by_cases g : 1 ≤ a.1 ∧ a.1 ≤ 9999 ∧ 0 ≤ a.2 ∧ a.2 ≤ 1000000
        · exact Or.inr (Or.inl g)
        · exact Or.inr (Or.inr fun q => q.elim e g)
    | cons r l ih =>
      intro hr a
      by_cases hA : a = (0, -1) ∨ (1 ≤ a.1 ∧ a.1 ≤ 9999 ∧ 0 ≤ a.2 ∧ a.2 ≤ 1000000)
      · have hs : 1 ≤ (mvStep a r).1 ∧ (mvStep a r).1 ≤ 9999 ∧ 0 ≤ (mvStep a r).2 ∧ (mvStep a r).2 ≤ 1000000 := by
          have ⟨o1, o2⟩ := hr r (List.mem_cons_self ..)
          unfold oneP at o1 o2
          have h0 := ab_nn (r.1.pTick - r.2.pTick)
          have h1 : ab (r.1.pTick - r.2.pTick) ≤ 1000000 := by unfold ab; split <;> omega
          unfold mvStep movP
          split
          · exact ⟨o1.1.1, o1.1.2, h0, h1⟩
          · next hn =>
            rcases hA with rfl | hA
            · exfalso; apply hn; show (-1 : Int) < _; omega
            · exact hA
        rw [List.foldl_cons]
        rcases ih (fun r' h' => hr r' (List.mem_cons_of_mem _ h')) (mvStep a r) with ⟨e, _⟩ | g | g
        · rw [e] at hs; simp at hs
        · exact Or.inr (Or.inl g)
        · exact absurd (Or.inr hs) g
      · exact Or.inr (Or.inr hA)
  have h1 : ∀ r ∈ revsP xs k, oneP r.1 ∧ oneP r.2 := fun r hr => let ⟨a, b⟩ := revs_mem hr; ⟨okP_mem h a, okP_mem h b⟩
  rcases H _ h1 (0, -1) with ⟨_, e, e2⟩ | g | g
  · exact Or.inl ⟨e, e2⟩
  · refine Or.inr ⟨fun e => ?_, g⟩
    rw [e] at g
    simp at g
  · exact absurd (Or.inl rfl) g
/-- The history of a pick, n steps at most. -/
def histF (xs : List GPick) : Nat → Int → List Int
  | 0, _ => []
  | n + 1, id => match lookP xs id with
    | none => []
    | some q => id :: histF xs n q.pAfter
theorem histF_none {xs : List GPick} {id : Int} (h : lookP xs id = none) (n : Nat) : histF xs n id = [] := by
  cases n with
  | zero => rfl
  | succ n => rw [histF, h]
theorem histF_some {xs : List GPick} {id : Int} {q : GPick} (h : lookP xs id = some q) (n : Nat) : histF xs (n + 1) id = id :: histF xs n q.pAfter := by rw [histF, h]
theorem histF_len (xs : List GPick) : ∀ (n : Nat) (id : Int), (histF xs n id).length ≤ n
  | 0, _ => by simp [histF]
  | n + 1, id => by
    rw [histF]
    split
    · simp
    · rw [List.length_cons]
      have := histF_len xs n
      exact Nat.succ_le_succ (this _)
/-- Enough steps are enough. -/
theorem histF_more {xs : List GPick} (h : okP xs) : ∀ (n m : Nat) (id : Int), id ≤ n → id ≤ m → histF xs n id = histF xs m id
  | 0, m, id, h1, _ => by rw [histF_none (look_zero h (by omega)), histF_none (look_zero h (by omega))]
  | n + 1, 0, id, _, h2 => by rw [histF_none (look_zero h (by omega)), histF_none (look_zero h (by omega))]
  | n + 1, m + 1, id, h1, h2 => by
    cases hq : lookP xs id with
    | none => rw [histF_none hq, histF_none hq]
    | some q =>
      obtain ⟨hm, hi⟩ := look_mem hq
      have ho := okP_mem h hm
      unfold oneP at ho
      rw [histF_some hq, histF_some hq, histF_more h n m q.pAfter (by omega) (by omega)]
def histP (xs : List GPick) (id : Int) : List Int := histF xs 9999 id
theorem histP_none {xs : List GPick} {id : Int} (h : lookP xs id = none) : histP xs id = [] := histF_none h _
theorem histP_some {xs : List GPick} (ho : okP xs) {id : Int} {q : GPick} (h : lookP xs id = some q) : histP xs id = id :: histP xs q.pAfter := by
  obtain ⟨hm, hi⟩ := look_mem h
  have h1 := okP_mem ho hm
  unfold oneP at h1
  unfold histP
  rw [histF_some (n := 9998) h, histF_more ho 9998 9999 q.pAfter (by omega) (by omega)]
theorem histP_len (xs : List GPick) (id : Int) : (histP xs id).length ≤ 9999 := histF_len xs 9999 id
end Go.Proofs.Ytklilfbokpljkaa
