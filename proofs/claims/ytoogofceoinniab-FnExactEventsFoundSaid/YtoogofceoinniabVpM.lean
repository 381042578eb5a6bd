/- Votes: the mathematics of spans: the most votes at a place, by spans in ascending order. -/
import Derived.Test.YtoogofceoinniabVoD
namespace Go.Proofs.Ytoogofceoinniab
open Go.ChangeShapes Go.WideShapes Go.ChangeAt Go.RowKit Go.ChangeMaps
set_option linter.unusedSimpArgs false
set_option linter.unusedVariables false
set_option linter.unusedSimpArgs false
set_option linter.unusedVariables false

def spL (xs : List GArrival) (x y : Int) : List (Int × Int) := (xs.filter (fun a => decide (loT a x y ≤ hiT a x y))).map (fun a => (loT a x y, hiT a x y))
def inS (s : Int × Int) (p : Int) : Bool := decide (s.1 ≤ p ∧ p ≤ s.2)
def cntS (S : List (Int × Int)) (p : Int) : Nat := S.countP (fun s => inS s p)
theorem spL_take {xs : List GArrival} {k : Nat} {a : GArrival} (h : xs[k]? = some a) (x y : Int) : spL (xs.take (k + 1)) x y = if loT a x y ≤ hiT a x y then spL (xs.take k) x y ++ [(loT a x y, hiT a x y)] else spL (xs.take k) x y := by
  unfold spL
  rw [take_snoc h, List.filter_append, List.map_append]
  by_cases q : loT a x y ≤ hiT a x y
  · rw [if_pos q]; simp [q]
  · rw [if_neg q]; simp [q]
theorem spL_len (xs : List GArrival) (x y : Int) : (spL xs x y).length ≤ xs.length := by unfold spL; rw [List.length_map]; exact List.length_filter_le _ _
theorem spL_ok {xs : List GArrival} {x y : Int} {s : Int × Int} (h : s ∈ spL xs x y) : s.1 ≤ s.2 := by
  unfold spL at h
  obtain ⟨a, ha, rfl⟩ := List.mem_map.1 h
  exact of_decide_eq_true (List.mem_filter.1 ha).2
theorem spL_bd {xs : List GArrival} (h : okArs xs) {x y : Int} (hx : 0 ≤ x ∧ x ≤ 999) (hy : 0 ≤ y ∧ y ≤ 999) {s : Int × Int} (hs : s ∈ spL xs x y) : (0 ≤ s.1 ∧ s.1 ≤ 1000000) ∧ (-28258 ≤ s.2 ∧ s.2 ≤ 1000000) := by
  unfold spL at hs
  obtain ⟨a, ha, rfl⟩ := List.mem_map.1 hs
  exact ticks_bd (okArs_mem h (List.mem_filter.1 ha).1) hx hy
theorem cnt_vot {xs : List GArrival} (h : okArs xs) {x y t : Int} (hx : 0 ≤ x ∧ x ≤ 999) (hy : 0 ≤ y ∧ y ≤ 999) (ht : 0 ≤ t ∧ t ≤ 1000000) : (votV xs ⟨x, y, t⟩).length = cntS (spL xs x y) t := by
  unfold votV cntS spL
  rw [List.length_map, ← List.countP_eq_length_filter, List.countP_map, List.countP_filter]
  refine List.countP_congr fun a ha => ?_
  rw [fit_ticks (okArs_mem h ha) (o := ⟨x, y, t⟩) ⟨⟨hx, hy⟩, ht⟩]
  show decide (loT a x y ≤ t ∧ t ≤ hiT a x y) = true ↔ (inS (loT a x y, hiT a x y) t && decide (loT a x y ≤ hiT a x y)) = true
  unfold inS
  rw [Bool.and_eq_true, decide_eq_true_eq, decide_eq_true_eq]
  show _ ↔ (loT a x y ≤ t ∧ t ≤ hiT a x y) ∧ _
  omega
theorem cnt_pos {S : List (Int × Int)} {s : Int × Int} (hs : s ∈ S) (h : s.1 ≤ s.2) : 1 ≤ cntS S s.1 := by
  unfold cntS
  exact List.countP_pos_iff.2 ⟨s, hs, decide_eq_true ⟨Int.le_refl _, h⟩⟩
theorem cnt_perm {S T : List (Int × Int)} (h : S.Perm T) (p : Int) : cntS S p = cntS T p := h.countP_eq _
theorem cntS_le (S : List (Int × Int)) (p : Int) : cntS S p ≤ S.length := List.countP_le_length
/-- The most votes of some spans, and their smallest tick. -/
def isTop (S T : List (Int × Int)) (b : Int × Int) : Prop := (T = [] ∧ b = (0, 0)) ∨ ((∃ s, s ∈ T ∧ (cntS S s.1 : Int) = b.1 ∧ s.1 = b.2) ∧ ∀ s, s ∈ T → (cntS S s.1 : Int) ≤ b.1 ∧ ((cntS S s.1 : Int) = b.1 → b.2 ≤ s.1))
theorem isTop_uniq {S S' T T' : List (Int × Int)} {b c : Int × Int} (hS : S.Perm S') (hT : T.Perm T') (h : isTop S T b) (g : isTop S' T' c) : b = c := by
  have hc := fun p => cnt_perm hS p
  rcases h with ⟨h1, h2⟩ | ⟨⟨s, hs, h1, h2⟩, h3⟩
  · rcases g with ⟨g1, g2⟩ | ⟨⟨s, hs, -⟩, -⟩
    · rw [h2, g2]
    · rw [h1] at hT
      have := hT.mem_iff.2 hs
      cases this
  · rcases g with ⟨g1, g2⟩ | ⟨⟨s', hs', g1, g2⟩, g3⟩
    · rw [g1] at hT
      have := hT.mem_iff.1 hs
      cases this
    · have a1 := h3 s' (hT.mem_iff.2 hs')
      have a2 := g3 s (hT.mem_iff.1 hs)
      rw [hc] at h1 a1
      obtain ⟨b1, b2⟩ := b
      obtain ⟨c1, c2⟩ := c
      simp only at *
      have e1 : b1 = c1 := by omega
      subst e1
      have e2 := a1.2 g1
      have e3 := a2.2 h1
      have : b2 = c2 := by omega
      rw [this]
theorem top_new {S T : List (Int × Int)} {b : Int × Int} {s : Int × Int} {n : Int} (h : isTop S T b) (hn : (cntS S s.1 : Int) = n) (h1 : 1 ≤ n) (hb : b.1 < n ∨ n = b.1 ∧ s.1 < b.2) : isTop S (T ++ [s]) (n, s.1) := by
  refine Or.inr ⟨⟨s, by simp, hn, rfl⟩, fun r hr => ?_⟩
  rcases List.mem_append.1 hr with q | q
  · rcases h with ⟨h1, -⟩ | ⟨-, h3⟩
    · rw [h1] at q; cases q
    · have := h3 r q
      show (cntS S r.1 : Int) ≤ n ∧ ((cntS S r.1 : Int) = n → s.1 ≤ r.1)
      refine ⟨by omega, fun e => ?_⟩
      have := this.2
      omega
  · rw [List.mem_singleton] at q
    subst q
    exact ⟨by show (cntS S r.1 : Int) ≤ n; omega, fun _ => Int.le_refl _⟩
theorem top_old {S T : List (Int × Int)} {b : Int × Int} {s : Int × Int} {n : Int} (h : isTop S T b) (hn : (cntS S s.1 : Int) = n) (h1 : 1 ≤ n) (hb : n ≤ b.1 ∧ (n = b.1 → b.2 ≤ s.1)) : isTop S (T ++ [s]) b := by
  rcases h with ⟨h2, h3⟩ | ⟨⟨r, hr, h2, h3⟩, h4⟩
  · rw [h3] at hb
    have : n ≤ 0 := hb.1
    omega
  · refine Or.inr ⟨⟨r, by simp [hr], h2, h3⟩, fun q hq => ?_⟩
    rcases List.mem_append.1 hq with e | e
    · exact h4 q e
    · rw [List.mem_singleton] at e
      subst e
      rw [hn]
      exact hb
theorem mostV_top {xs : List GArrival} (h : okArs xs) {x y : Int} (hx : 0 ≤ x ∧ x ≤ 999) (hy : 0 ≤ y ∧ y ≤ 999) : ∀ k, k ≤ xs.length → isTop (spL xs x y) (spL (xs.take k) x y) (mostV xs x y k)
  | 0, _ => Or.inl ⟨rfl, rfl⟩
  | k + 1, hk => by
    have i := mostV_top h hx hy k (by omega)
    obtain ⟨a, ha⟩ := get_of_lt (l := xs) (k := k) (by omega)
    have hm := List.mem_of_getElem? ha
    have tb := ticks_bd (okArs_mem h hm) hx hy
    rw [mostV_succ ha, spL_take ha]
    unfold stepV
    by_cases q : loT a x y ≤ hiT a x y
    · rw [if_pos q, if_pos q, cnt_vot h hx hy tb.1]
      have hs : (loT a x y, hiT a x y) ∈ spL xs x y := List.mem_map.2 ⟨a, List.mem_filter.2 ⟨hm, decide_eq_true q⟩, rfl⟩
      have h1 := cnt_pos hs q
      have h1' : 1 ≤ ((cntS (spL xs x y) (loT a x y) : Nat) : Int) := by
        have : 1 ≤ cntS (spL xs x y) (loT a x y) := h1
        omega
      split
      · rename_i c
        exact top_new (s := (loT a x y, hiT a x y)) i rfl h1' c
      · rename_i c
        exact top_old (s := (loT a x y, hiT a x y)) i rfl h1' ⟨by
          show ((cntS (spL xs x y) (loT a x y) : Nat) : Int) ≤ _
          omega, fun e => by
          show _ ≤ loT a x y
          have e' : ((cntS (spL xs x y) (loT a x y) : Nat) : Int) = (mostV xs x y k).1 := e
          omega⟩
    · rw [if_neg q, if_neg q]
      exact i
def stpS (S : List (Int × Int)) (b : Int × Int) (s : Int × Int) : Int × Int := if b.1 < (cntS S s.1 : Int) then ((cntS S s.1 : Int), s.1) else b
def topS (T : List (Int × Int)) (k : Nat) : Int × Int := (T.take k).foldl (stpS T) (0, 0)
theorem topS_succ {T : List (Int × Int)} {k : Nat} {s : Int × Int} (h : T[k]? = some s) : topS T (k + 1) = stpS T (topS T k) s := by
  unfold topS
  rw [take_snoc h, List.foldl_append]
  rfl
def ascP (T : List (Int × Int)) : Prop := T.Pairwise fun a b => a.1 ≤ b.1
theorem topS_top {T : List (Int × Int)} (hs : ascP T) (hok : ∀ s ∈ T, s.1 ≤ s.2) : ∀ k, k ≤ T.length → isTop T (T.take k) (topS T k)
  | 0, _ => Or.inl ⟨rfl, rfl⟩
  | k + 1, hk => by
    have i := topS_top hs hok k (by omega)
    obtain ⟨s, hs1⟩ := get_of_lt (l := T) (k := k) (by omega)
    have hm := List.mem_of_getElem? hs1
    have h1 := cnt_pos hm (hok s hm)
    rw [topS_succ hs1, take_snoc hs1]
    unfold stpS
    split
    · rename_i c
      exact top_new i rfl (by omega) (Or.inl c)
    · rename_i c
      refine top_old i rfl (by omega) ⟨by omega, fun e => ?_⟩
      rcases i with ⟨i1, i2⟩ | ⟨⟨r, hr, i1, i2⟩, -⟩
      · rw [i2] at e
        have : ((cntS T s.1 : Nat) : Int) = 0 := e
        omega
      · rw [← i2]
        obtain ⟨j, hj⟩ := List.mem_iff_getElem?.1 hr
        rw [List.getElem?_take] at hj
        split at hj
        · rename_i hjk
          obtain ⟨hj1, e1⟩ := List.getElem?_eq_some_iff.1 hj
          obtain ⟨hk1, e2⟩ := List.getElem?_eq_some_iff.1 hs1
          have := List.pairwise_iff_getElem.1 hs j k hj1 hk1 hjk
          rw [e1, e2] at this
          exact this
        · cases hj
theorem topS_most {xs : List GArrival} (h : okArs xs) {x y : Int} (hx : 0 ≤ x ∧ x ≤ 999) (hy : 0 ≤ y ∧ y ≤ 999) {T : List (Int × Int)} (hp : T.Perm (spL xs x y)) (hs : ascP T) : topS T T.length = mostV xs x y xs.length := by
  have a := topS_top hs (fun s hs => spL_ok (hp.mem_iff.1 hs)) T.length (Nat.le_refl _)
  have b := mostV_top h hx hy xs.length (Nat.le_refl _)
  rw [List.take_length] at a b
  exact isTop_uniq hp hp a b
theorem topS_bd {T : List (Int × Int)} (hl : T.length ≤ 8) (hb : ∀ s ∈ T, 0 ≤ s.1 ∧ s.1 ≤ 1000000) : ∀ k, k ≤ T.length → (0 ≤ (topS T k).1 ∧ (topS T k).1 ≤ 8) ∧ (0 ≤ (topS T k).2 ∧ (topS T k).2 ≤ 1000000)
  | 0, _ => by show ((0 : Int) ≤ 0 ∧ (0 : Int) ≤ 8) ∧ ((0 : Int) ≤ 0 ∧ (0 : Int) ≤ 1000000); omega
  | k + 1, hk => by
    have i := topS_bd hl hb k (by omega)
    obtain ⟨s, hs1⟩ := get_of_lt (l := T) (k := k) (by omega)
    have := hb s (List.mem_of_getElem? hs1)
    have := cntS_le T s.1
    rw [topS_succ hs1]
    unfold stpS
    split
    · show (0 ≤ ((cntS T s.1 : Nat) : Int) ∧ ((cntS T s.1 : Nat) : Int) ≤ 8) ∧ (0 ≤ s.1 ∧ s.1 ≤ 1000000)
      omega
    · exact i
theorem cnt_take {T : List (Int × Int)} {k : Nat} {s : Int × Int} (h : T[k]? = some s) (p : Int) : cntS (T.take (k + 1)) p = if inS s p then cntS (T.take k) p + 1 else cntS (T.take k) p := by
  unfold cntS
  rw [take_snoc h, List.countP_append]
  cases q : inS s p <;> simp [q]
/-- The ballot at a place. -/
def topB (xs : List GArrival) (x y : Int) : GOrigin × Int := if (mostV xs x y xs.length).1 = 0 then (⟨0, 0, 0⟩, 0) else (⟨x, y, (mostV xs x y xs.length).2⟩, (mostV xs x y xs.length).1)
/-- The ballot of a pair of votes and tick. -/
def balB (x y : Int) (b : Int × Int) : GOrigin × Int := if b.1 = 0 then (⟨0, 0, 0⟩, 0) else (⟨x, y, b.2⟩, b.1)
theorem topB_eq (xs : List GArrival) (x y : Int) : topB xs x y = balB x y (mostV xs x y xs.length) := rfl
theorem balB_two (x y : Int) (b : Int × Int) : (balB x y b).2 = b.1 := by
  unfold balB
  split
  · rename_i h; exact h.symm
  · rfl
theorem pick_top {xs : List GArrival} {x y : Int} {b : GOrigin × Int} (hb : 0 ≤ b.2) : pickV xs x y b = if b.2 < (topB xs x y).2 then topB xs x y else b := by
  rw [topB_eq, balB_two]
  unfold pickV
  by_cases q : b.2 < (mostV xs x y xs.length).1
  · rw [if_pos q, if_pos q]
    unfold balB
    rw [if_neg (by omega)]
  · rw [if_neg q, if_neg q]
end Go.Proofs.Ytoogofceoinniab
