/- The distances of all pairs: what is to come out, and where the next pair goes. -/
import Derived.Test.YtjiaejempfhheaaStaO
namespace Go.Proofs.Ytjiaejempfhheaa
open Go.ChangeShapes Go.WideShapes Go.ChangeAt Go.RowKit Go.ChangeMaps Go.Sort
set_option linter.unusedSimpArgs false
set_option linter.unusedVariables false

abbrev GPair := GStation × GStation
def dP (p : GPair) : Int := sqd p.1 p.2.pX p.2.pY
def ltP (p q : GPair) : Prop := dP p < dP q ∨ (dP p = dP q ∧ (p.1.pId < q.1.pId ∨ (p.1.pId = q.1.pId ∧ p.2.pId < q.2.pId)))
def rowP (p : GPair) : List Int := [p.1.pId, p.2.pId, dP p]
theorem ltP_asymm {p q : GPair} (h : ltP p q) (k : ltP q p) : False := by unfold ltP at *; omega
def rowL (xs : List GStation) (s : GStation) (i : Nat) : List GPair := (xs.drop (i + 1)).map fun t => (s, t)
/-- The pairs whose first station stands before number i. -/
def fullP (xs : List GStation) (i : Nat) : List GPair := (List.range i).flatMap fun p => match xs[p]? with | some s => rowL xs s p | none => []
def prs (xs : List GStation) : List GPair := fullP xs xs.length
theorem fullP_succ {xs : List GStation} {i : Nat} {s : GStation} (h : xs[i]? = some s) : fullP xs (i + 1) = fullP xs i ++ rowL xs s i := by
  unfold fullP; rw [List.range_succ, List.flatMap_append]; simp [h]
theorem fullP_mem {xs : List GStation} {i : Nat} {p : GPair} (h : p ∈ fullP xs i) : ∃ j m, j < i ∧ xs[j]? = some p.1 ∧ xs[m]? = some p.2 ∧ j < m := by
  unfold fullP at h
  obtain ⟨j, hj, hp⟩ := List.mem_flatMap.1 h
  have hji := List.mem_range.1 hj
  cases hx : xs[j]? with
  | none => rw [hx] at hp; simp at hp
  | some s =>
    rw [hx] at hp
    unfold rowL at hp
    obtain ⟨t, ht, rfl⟩ := List.mem_map.1 hp
    obtain ⟨m, hm⟩ := List.mem_iff_getElem?.1 ht
    rw [List.getElem?_drop] at hm
    exact ⟨j, _, hji, hx, hm, by omega⟩
/-- The list so far: all pairs before (i, i + 1 + m), the nearest first. -/
def soFarP (xs : List GStation) (s : GStation) (i m : Nat) (ol : List GPair) : Prop := ol.Perm (fullP xs i ++ ((xs.drop (i + 1)).take m).map fun t => (s, t)) ∧ ol.Pairwise ltP
theorem soFarP_mem {xs : List GStation} {s : GStation} {i m : Nat} {ol : List GPair} (hs : xs[i]? = some s) (h : soFarP xs s i m ol) {p : GPair} (hp : p ∈ ol) : p.1 ∈ xs ∧ p.2 ∈ xs := by
  rcases List.mem_append.1 (h.1.subset hp) with q | q
  · obtain ⟨j, m, _, h1, h2, _⟩ := fullP_mem q
    exact ⟨List.mem_of_getElem? h1, List.mem_of_getElem? h2⟩
  · obtain ⟨t, ht, rfl⟩ := List.mem_map.1 q
    exact ⟨List.mem_of_getElem? hs, List.mem_of_mem_drop (List.mem_of_mem_take ht)⟩
theorem soFarP_id {xs : List GStation} (hg : goodL xs = true) {s t : GStation} {i m : Nat} {ol : List GPair} (hs : xs[i]? = some s) (ht : xs[i + 1 + m]? = some t) (h : soFarP xs s i m ol) {p : GPair} (hp : p ∈ ol) : p.1.pId < s.pId ∨ (p.1.pId = s.pId ∧ p.2.pId < t.pId) := by
  have hpw := List.pairwise_iff_getElem.1 (ids_nodup hg)
  have hs' := List.getElem?_eq_some_iff.1 hs
  have ht' := List.getElem?_eq_some_iff.1 ht
  rcases List.mem_append.1 (h.1.subset hp) with q | q
  · obtain ⟨j, m', hj, h1, h2, _⟩ := fullP_mem q
    have h1' := List.getElem?_eq_some_iff.1 h1
    have := hpw j i h1'.1 hs'.1 hj
    rw [h1'.2, hs'.2] at this
    exact Or.inl this
  · obtain ⟨u, hu, rfl⟩ := List.mem_map.1 q
    obtain ⟨j, hj⟩ := List.mem_iff_getElem?.1 hu
    rw [List.getElem?_take] at hj
    split at hj
    · rename_i hjm
      rw [List.getElem?_drop] at hj
      have hj' := List.getElem?_eq_some_iff.1 hj
      have := hpw (i + 1 + j) (i + 1 + m) hj'.1 ht'.1 (by omega)
      rw [hj'.2, ht'.2] at this
      exact Or.inr ⟨rfl, this⟩
    · cases hj
theorem soFarP_zero (xs : List GStation) (s : GStation) : soFarP xs s 0 0 [] := by
  refine ⟨?_, List.Pairwise.nil⟩
  simp [fullP]
theorem soFarP_next {xs : List GStation} {s s' : GStation} {i m : Nat} {ol : List GPair} (hs : xs[i]? = some s) (hm : xs.length ≤ i + 1 + m) (h : soFarP xs s i m ol) : soFarP xs s' (i + 1) 0 ol := by
  refine ⟨?_, h.2⟩
  rw [fullP_succ hs]
  have h1 := h.1
  rw [List.take_of_length_le (by rw [List.length_drop]; omega)] at h1
  simpa [rowL] using h1
/-- The same between two stations. -/
def soFar0 (xs : List GStation) (i : Nat) (ol : List GPair) : Prop := ol.Perm (fullP xs i) ∧ ol.Pairwise ltP
theorem soFar0_zero (xs : List GStation) : soFar0 xs 0 [] := ⟨by simp [fullP], List.Pairwise.nil⟩
theorem soFar0_start {xs : List GStation} {i : Nat} {ol : List GPair} (s : GStation) (h : soFar0 xs i ol) : soFarP xs s i 0 ol := ⟨by simpa using h.1, h.2⟩
theorem soFar0_next {xs : List GStation} {s : GStation} {i m : Nat} {ol : List GPair} (hs : xs[i]? = some s) (hm : xs.length ≤ i + 1 + m) (h : soFarP xs s i m ol) : soFar0 xs (i + 1) ol := by
  have h1 := (soFarP_next (s' := s) hs hm h)
  exact ⟨by simpa using h1.1, h1.2⟩
theorem fullP_len (xs : List GStation) : ∀ i, (fullP xs i).length ≤ i * xs.length
  | 0 => by simp [fullP]
  | i + 1 => by
    have ih := fullP_len xs i
    unfold fullP at ih ⊢
    rw [List.range_succ, List.flatMap_append, List.length_append, Nat.add_mul, Nat.one_mul]
    have : (List.flatMap (fun p => match xs[p]? with | some s => rowL xs s p | none => []) [i]).length ≤ xs.length := by
      rw [List.flatMap_singleton]
      cases xs[i]? with
      | none => simp
      | some s => simp [rowL]
    omega
theorem soFarP_len {xs : List GStation} {s : GStation} {i m : Nat} {ol : List GPair} (h : soFarP xs s i m ol) (hl : xs.length ≤ 10) (hi : i ≤ 10) : ol.length ≤ 110 := by
  have h1 := h.1.length_eq
  rw [List.length_append, List.length_map, List.length_take, List.length_drop] at h1
  have h2 := fullP_len xs i
  have h3 : i * xs.length ≤ 10 * 10 := Nat.mul_le_mul hi hl
  omega
theorem soFar0_len {xs : List GStation} {i : Nat} {ol : List GPair} (h : soFar0 xs i ol) (hl : xs.length ≤ 10) (hi : i ≤ 10) : ol.length ≤ 110 := by
  have h1 := h.1.length_eq
  have h2 := fullP_len xs i
  have h3 : i * xs.length ≤ 10 * 10 := Nat.mul_le_mul hi hl
  omega
theorem soFarP_end {xs : List GStation} {s : GStation} {ol : List GPair} (h : soFarP xs s xs.length 0 ol) : ol.Perm (prs xs) := by
  simpa [prs] using h.1
theorem soFarP_succ {xs : List GStation} {ol : List GPair} {i m k : Nat} {s t : GStation} (hg : goodL xs = true) (h : soFarP xs s i m ol) (hs : xs[i]? = some s) (ht : xs[i + 1 + m]? = some t)
    (h1 : ∀ j p, ol[j]? = some p → k ≤ j → dP (s, t) < dP p) (h2 : ∀ p, ol[k - 1]? = some p → 0 < k → dP p ≤ dP (s, t)) (hk : k ≤ ol.length) : soFarP xs s i (m + 1) (ol.take k ++ (s, t) :: ol.drop k) := by
  refine ⟨?_, asc_ins h.2 (fun a ha => ?_) (fun a ha => ?_)⟩
  · have e : (xs.drop (i + 1)).take (m + 1) = (xs.drop (i + 1)).take m ++ [t] := take_snoc (by rw [List.getElem?_drop]; exact ht)
    rw [e, List.map_append, ← List.append_assoc]
    exact (perm_ins ol (s, t) k).trans (h.1.append_right [(s, t)])
  · obtain ⟨j, hj⟩ := List.mem_iff_getElem?.1 ha
    rw [List.getElem?_take] at hj
    split at hj
    · rename_i hjk
      obtain ⟨p, hp⟩ := get_of_lt (l := ol) (k := k - 1) (by omega)
      have h3 := h2 p hp (by omega)
      have hid := soFarP_id hg hs ht h (List.mem_of_mem_take ha)
      have h4 : dP a ≤ dP p := by
        by_cases e : j = k - 1
        · subst e; rw [hj] at hp; cases hp; omega
        · have hj' := (List.getElem?_eq_some_iff.1 hj)
          have hp' := (List.getElem?_eq_some_iff.1 hp)
          have := (List.pairwise_iff_getElem.1 h.2) j (k - 1) hj'.1 hp'.1 (by omega)
          rw [hj'.2, hp'.2] at this
          unfold ltP at this; omega
      unfold ltP
      show dP a < dP (s, t) ∨ (dP a = dP (s, t) ∧ (a.1.pId < s.pId ∨ (a.1.pId = s.pId ∧ a.2.pId < t.pId)))
      omega
    · cases hj
  · obtain ⟨j, hj⟩ := List.mem_iff_getElem?.1 ha
    rw [List.getElem?_drop] at hj
    exact Or.inl (h1 (k + j) a hj (by omega))
/-- The pairs, the nearest first. -/
def leP (p q : GPair) : Bool := decide (dP p < dP q) || (decide (dP p = dP q) && (decide (p.1.pId < q.1.pId) || (decide (p.1.pId = q.1.pId) && decide (p.2.pId ≤ q.2.pId))))
def pairL (xs : List GStation) : List GPair := (prs xs).mergeSort leP
theorem leP_iff {p q : GPair} : leP p q = true ↔ dP p < dP q ∨ (dP p = dP q ∧ (p.1.pId < q.1.pId ∨ (p.1.pId = q.1.pId ∧ p.2.pId ≤ q.2.pId))) := by
  unfold leP; simp only [Bool.or_eq_true, Bool.and_eq_true, decide_eq_true_eq]
theorem pairL_perm (xs : List GStation) : (pairL xs).Perm (prs xs) := List.mergeSort_perm _ _
/-- Whatever ascends and has the same pairs is it. -/
theorem pairL_uniq {xs : List GStation} {ol : List GPair} (hp : ol.Perm (prs xs)) (ha : ol.Pairwise ltP) : ol = pairL xs := by
  have hq : (pairL xs).Pairwise (fun p q => leP p q = true) := List.pairwise_mergeSort (fun a b c h k => by rw [leP_iff] at *; omega) (fun a b => by rw [Bool.or_eq_true, leP_iff, leP_iff]; omega) _
  have hne : (pairL xs).Pairwise (fun p q => ltP p q ∨ ltP q p) := by
    refine (hp.trans (pairL_perm xs).symm).pairwise (R := fun p q => ltP p q ∨ ltP q p) (ha.imp Or.inl) (fun h => h.symm)
  refine asc_uniq (fun _ _ => ltP_asymm) _ _ (hp.trans (pairL_perm xs).symm) ha ((List.Pairwise.and hq hne).imp ?_)
  rintro p q ⟨h1, h2 | h2⟩
  · exact h2
  · rw [leP_iff] at h1
    unfold ltP at *
    omega
noncomputable def resPair (xs : List GStation) : List (List Int) := if goodL xs then (pairL xs).map rowP else []
end Go.Proofs.Ytjiaejempfhheaa
