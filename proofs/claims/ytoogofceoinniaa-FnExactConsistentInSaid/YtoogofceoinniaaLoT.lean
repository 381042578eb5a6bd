/- Location by boxes: lists of parts, how long they get; trees of cubes in memory. -/
import Derived.Test.YtoogofceoinniaaLoD
namespace Go.Proofs.Ytoogofceoinniaa
open Go.ChangeShapes Go.WideShapes Go.ChangeAt Go.RowKit Go.ChangeMaps
set_option linter.unusedSimpArgs false
set_option linter.unusedVariables false
set_option linter.unusedSimpArgs false
set_option linter.unusedVariables false

theorem splitV_most (b : GCube) : (splitV b).length ≤ 4 := by
  unfold splitV
  refine Nat.le_trans (List.length_filter_le _ _) ?_
  rw [List.length_map, List.length_range]
  exact Nat.le_refl _
theorem flat_most {α β : Type} {f : α → List β} {M : Nat} : ∀ (l : List α), (∀ a ∈ l, (f a).length ≤ M) → (l.flatMap f).length ≤ l.length * M
  | [], _ => by simp
  | a :: l, h => by
    rw [List.flatMap_cons, List.length_append, List.length_cons, Nat.add_mul, Nat.one_mul]
    have h1 := h a (by simp)
    have h2 := flat_most l (fun c hc => h c (by simp [hc]))
    omega
theorem allV_most (xs : List GArrival) : ∀ (e : Nat) (b : GCube), (allV xs e b).length ≤ 4 ^ e
  | 0, b => by
    unfold allV
    split <;> simp
  | e + 1, b => by
    unfold allV
    split
    · have h1 := flat_most (f := allV xs e) (M := 4 ^ e) (splitV b) (fun a _ => allV_most xs e a)
      have h2 := splitV_most b
      have h3 := Nat.mul_le_mul_right (4 ^ e) h2
      rw [Nat.pow_succ]
      omega
    · simp
theorem pow_nine {e : Nat} (h : e ≤ 9) : 4 ^ e ≤ 262144 := Nat.pow_le_pow_right (n := 4) (by omega) h
theorem exp_nine {b : GCube} (hb : okCb b) {s : Int} (hs : okSide s) {e : Nat} (h : b.pSide = s * 2 ^ e) : e ≤ 9 := by
  have h1 := (okSide_bd hb.1).2
  have h2 := (okSide_bd hs).1
  rcases Nat.lt_or_ge 9 e with q | q
  · exfalso
    have p : (2 : Nat) ^ 10 ≤ 2 ^ e := Nat.pow_le_pow_right (by omega) (by omega)
    have p1 : ((2 ^ 10 : Nat) : Int) ≤ ((2 ^ e : Nat) : Int) := Int.ofNat_le.2 p
    rw [Int.natCast_pow] at p1
    rw [Int.natCast_pow] at p1
    have p2 : (1024 : Int) ≤ 2 ^ e := p1
    have p3 : (1 : Int) * 1024 ≤ s * 2 ^ e := Int.mul_le_mul h2 p2 (by omega) (by omega)
    omega
  · exact q
/-- A cube's halves. -/
theorem exp_half {b : GCube} {s : Int} (hs : okSide s) {e : Nat} (h : b.pSide = s * 2 ^ (e + 1)) : b.pSide ≠ 1 ∧ b.pSide / 2 = s * 2 ^ e ∧ b.pSide ≠ s := by
  have sb := okSide_bd hs
  have e1 : s * 2 ^ (e + 1) = 2 * (s * 2 ^ e) := by rw [Int.pow_succ]; grind
  have hh : b.pSide / 2 = s * 2 ^ e := by rw [h, e1]; exact Int.mul_ediv_cancel_left _ (by omega)
  have p0 : (0 : Int) < 2 ^ e := Int.pow_pos (by omega)
  have p1 : s * 1 ≤ s * 2 ^ e := Int.mul_le_mul_of_nonneg_left (show (1 : Int) ≤ 2 ^ e by omega) (by omega)
  omega
theorem exp_zero {b : GCube} {s : Int} (h : b.pSide = s * 2 ^ 0) : b.pSide = s := by rw [h]; simp
theorem split_ok {b p : GCube} {s : Int} (hb : okCb b) (hs : okSide s) {e : Nat} (h : b.pSide = s * 2 ^ (e + 1)) (hp : p ∈ splitV b) : okCb p ∧ p.pSide = s * 2 ^ e := by
  obtain ⟨h1, h2, h3⟩ := exp_half hs h
  obtain ⟨k, hk, rfl, ho⟩ := splitV_mem.1 hp
  exact ⟨(part_ok hb h1 hk).2 ho, h2⟩
theorem allV_no {xs : List GArrival} {b : GCube} (h : canV xs b = false) : ∀ e, allV xs e b = []
  | 0 => by unfold allV; rw [h]; rfl
  | e + 1 => by unfold allV; rw [h]; rfl
theorem allV_leaf {xs : List GArrival} {b : GCube} (h : canV xs b = true) : allV xs 0 b = [b] := by unfold allV; rw [h]; rfl
theorem allV_node {xs : List GArrival} {b : GCube} (h : canV xs b = true) (e : Nat) : allV xs (e + 1) b = (splitV b).flatMap (allV xs e) := by
  conv => lhs; unfold allV
  rw [if_pos h]
/-- What came of the first parts. -/
def someV (xs : List GArrival) (e : Nat) (b : GCube) (k : Nat) : List GCube := ((splitV b).take k).flatMap (allV xs e)
theorem someV_zero (xs : List GArrival) (e : Nat) (b : GCube) : someV xs e b 0 = [] := rfl
theorem someV_succ {xs : List GArrival} {e : Nat} {b p : GCube} {k : Nat} (h : (splitV b)[k]? = some p) : someV xs e b (k + 1) = someV xs e b k ++ allV xs e p := by
  unfold someV
  rw [take_snoc h, List.flatMap_append, List.flatMap_singleton]
theorem someV_all {xs : List GArrival} {b : GCube} (h : canV xs b = true) (e : Nat) : someV xs e b (splitV b).length = allV xs (e + 1) b := by
  unfold someV
  rw [List.take_length, allV_node h]
theorem someV_rest {xs : List GArrival} {b : GCube} (h : canV xs b = true) (e k : Nat) : ∃ t, allV xs (e + 1) b = someV xs e b k ++ t := by
  refine ⟨((splitV b).drop k).flatMap (allV xs e), ?_⟩
  unfold someV
  rw [← List.flatMap_append, List.take_append_drop, allV_node h]
theorem someV_most {xs : List GArrival} {b : GCube} {e : Nat} (k : Nat) : (someV xs e b k).length ≤ 4 ^ (e + 1) := by
  have h1 := flat_most (f := allV xs e) (M := 4 ^ e) ((splitV b).take k) (fun a _ => allV_most xs e a)
  have h2 := splitV_most b
  have h4 : ((splitV b).take k).length ≤ 4 := by rw [List.length_take]; omega
  have h3 := Nat.mul_le_mul_right (4 ^ e) h4
  unfold someV
  rw [Nat.pow_succ]
  omega
theorem cutC_most {r a : List GCube} {m M : Nat} (h : cutC r a m) (hl : a.length ≤ M) : r.length ≤ M := Nat.le_trans h.1.length_le hl
theorem cutC_nil (m : Nat) : cutC [] [] m := cutC_self [] m
theorem cut_some {xs : List GArrival} {b : GCube} {e k : Nat} (h : canV xs b = true) {r : List GCube} (hr : cutC r (someV xs e b k) 64) (hl : 64 < r.length) : cutC r (allV xs (e + 1) b) 64 := by
  obtain ⟨t, ht⟩ := someV_rest h e k
  rw [ht]
  exact cutC_more hr hl t

/-! Trees. -/
def nilP : Value := .pointer none
def encT (b : GCube) (ps : List Value) (n : Int) : List Value := [.int .i64 b.pWest, .int .i64 b.pSouth, .int .i64 b.pSide, .int .i64 b.pFrom, .int .i64 b.pTo] ++ (ps ++ [.int .i64 n])
def TreeV (w : World) (L B : Nat) (s : Int) : Nat → Value → List GCube → Prop
  | 0, v, r => (v = nilP ∧ r = []) ∨ ∃ (g : Nat) (b : GCube), v = .pointer (some ⟨g, 0, none⟩) ∧ L ≤ g ∧ g < B ∧ Bx w g (encT b [nilP, nilP, nilP, nilP] 1) ∧ b.pSide = s ∧ r = [b]
  | e + 1, v, r => (v = nilP ∧ r = []) ∨ ∃ (g : Nat) (b : GCube) (ps : List Value) (rs : List (List GCube)), v = .pointer (some ⟨g, 0, none⟩) ∧ L ≤ g ∧ g < B ∧ Bx w g (encT b ps r.length) ∧ b.pSide ≠ s ∧ ps.length = 4 ∧ rs.length = 4 ∧ r = rs.flatten ∧ ∀ (i : Nat) (p : Value) (q : List GCube), ps[i]? = some p → rs[i]? = some q → TreeV w L B s e p q
theorem TreeV.nil (w : World) (L B : Nat) (s : Int) : ∀ e, TreeV w L B s e nilP []
  | 0 => Or.inl ⟨rfl, rfl⟩
  | e + 1 => Or.inl ⟨rfl, rfl⟩
theorem TreeV.keep {w w' : World} {L B : Nat} {s : Int} (hk : ∀ g cs, L ≤ g → g < B → Bx w g cs → Bx w' g cs) {L' B' : Nat} (hL : L' ≤ L) (hB : B ≤ B') : ∀ (e : Nat) (v : Value) (r : List GCube), TreeV w L B s e v r → TreeV w' L' B' s e v r
  | 0, v, r, h => by
    rcases h with h | ⟨g, b, h1, h2, h3, h4, h5, h6⟩
    · exact Or.inl h
    · exact Or.inr ⟨g, b, h1, by omega, by omega, hk g _ h2 h3 h4, h5, h6⟩
  | e + 1, v, r, h => by
    rcases h with h | ⟨g, b, ps, rs, h1, h2, h3, h4, h5, h6, h7, h8, h9⟩
    · exact Or.inl h
    · exact Or.inr ⟨g, b, ps, rs, h1, by omega, by omega, hk g _ h2 h3 h4, h5, h6, h7, h8, fun i p q hp hq => TreeV.keep hk hL hB e p q (h9 i p q hp hq)⟩
theorem TreeV.below {w w' : World} {L B : Nat} {s : Int} {e : Nat} {v : Value} {r : List GCube} (h : TreeV w L B s e v r) (hb : Below B w w') (hB : B ≤ w.heap.size) : TreeV w' L B s e v r :=
  TreeV.keep (fun g cs _ hg hx => hx.block (hb.block g hg) hb.size) (Nat.le_refl _) (Nat.le_refl _) e v r h
theorem TreeV.mono {w : World} {L B L' B' : Nat} {s : Int} {e : Nat} {v : Value} {r : List GCube} (h : TreeV w L B s e v r) (hL : L' ≤ L) (hB : B ≤ B') : TreeV w L' B' s e v r :=
  TreeV.keep (fun g cs _ _ hx => hx) hL hB e v r h
theorem TreeV.set {w : World} {L B : Nat} {s : Int} {e : Nat} {v : Value} {r : List GCube} (h : TreeV w L B s e v r) {p : Addr} (hp : p.block < L) (u : Value) : TreeV (w.setCell p u) L B s e v r :=
  TreeV.keep (fun g cs hg _ hx => hx.setOther (by omega) u) (Nat.le_refl _) (Nat.le_refl _) e v r h
/-- What a tree is: nothing, or a block that tells how many there are. -/
theorem TreeV.open {w : World} {L B : Nat} {s : Int} : ∀ {e : Nat} {v : Value} {r : List GCube}, TreeV w L B s e v r → (v = nilP ∧ r = []) ∨ ∃ g, v = .pointer (some ⟨g, 0, none⟩) ∧ L ≤ g ∧ g < B ∧ w.cell? ⟨g, 9, none⟩ = some (.int .i64 r.length)
  | 0, v, r, h => by
    rcases h with h | ⟨g, b, h1, h2, h3, h4, h5, h6⟩
    · exact Or.inl h
    · subst h6
      exact Or.inr ⟨g, h1, h2, h3, h4.2 9 _ rfl⟩
  | e + 1, v, r, h => by
    rcases h with h | ⟨g, b, ps, rs, h1, h2, h3, h4, h5, h6, h7, h8, h9⟩
    · exact Or.inl h
    · refine Or.inr ⟨g, h1, h2, h3, h4.2 9 _ ?_⟩
      unfold encT
      rw [List.getElem?_append_right (by simp), List.getElem?_append_right (by simp [h6])]
      simp [h6]
theorem flat_put {α : Type} : ∀ (rs : List (List α)) (k : Nat) (q : List α), k < rs.length → (∀ j x, k ≤ j → rs[j]? = some x → x = []) → (rs.set k q).flatten = rs.flatten ++ q
  | [], k, q, h, _ => by simp at h
  | r :: rs, 0, q, _, h0 => by
    have h1 : rs.flatten = [] := by
      rw [List.flatten_eq_nil_iff]
      intro l hl
      obtain ⟨j, hj⟩ := List.mem_iff_getElem?.1 hl
      exact h0 (j + 1) l (by omega) (by simpa using hj)
    have h2 : r = [] := h0 0 r (by omega) rfl
    simp [h1, h2]
  | r :: rs, k + 1, q, h, h0 => by
    have := flat_put rs k q (by simpa using h) (fun j x hj hx => h0 (j + 1) x (by omega) (by simpa using hx))
    simp [this]
theorem encT_part {b : GCube} {ps : List Value} {n : Int} (hl : ps.length = 4) {k : Nat} {p : Value} (hp : ps[k]? = some p) : (encT b ps n)[5 + k]? = some p := by
  have hk := (List.getElem?_eq_some_iff.1 hp).1
  unfold encT
  rw [List.getElem?_append_right (by simp), List.getElem?_append_left (by simp; omega)]
  simpa using hp
theorem encT_num {b : GCube} {ps : List Value} {n : Int} (hl : ps.length = 4) : (encT b ps n)[9]? = some (.int .i64 n) := by
  unfold encT
  rw [List.getElem?_append_right (by simp), List.getElem?_append_right (by simp [hl])]
  simp [hl]
theorem encT_len {b : GCube} {ps : List Value} {n : Int} (hl : ps.length = 4) : (encT b ps n).length = 10 := by unfold encT; simp [hl]
theorem encT_setP {b : GCube} {ps : List Value} {n : Int} (hl : ps.length = 4) {k : Nat} (hk : k < 4) (p : Value) : (encT b ps n).set (5 + k) p = encT b (ps.set k p) n := by
  unfold encT
  rw [List.set_append_right _ _ (by simp), List.set_append_left _ _ (by simp [hl]; omega)]
  simp
theorem encT_setN {b : GCube} {ps : List Value} {n : Int} (hl : ps.length = 4) (m : Int) : (encT b ps n).set 9 (.int .i64 m) = encT b ps m := by
  unfold encT
  rw [List.set_append_right _ _ (by simp), List.set_append_right _ _ (by simp [hl])]
  simp [hl]
/-- A tree that is being made: the parts below number k have come. -/
def MadeT (w : World) (L B : Nat) (s : Int) (e k : Nat) (ps : List Value) (rs : List (List GCube)) : Prop :=
  ps.length = 4 ∧ rs.length = 4 ∧ (∀ j x, k ≤ j → rs[j]? = some x → x = []) ∧ ∀ (i : Nat) (p : Value) (q : List GCube), ps[i]? = some p → rs[i]? = some q → TreeV w L B s e p q
theorem MadeT.zero (w : World) (L B : Nat) (s : Int) (e : Nat) : MadeT w L B s e 0 [nilP, nilP, nilP, nilP] [[], [], [], []] := by
  refine ⟨rfl, rfl, fun j x _ hx => ?_, fun i p q hp hq => ?_⟩
  · have := List.mem_of_getElem? hx
    simpa using this
  · have h1 := List.mem_of_getElem? hp
    have h2 := List.mem_of_getElem? hq
    simp at h1 h2
    subst h1 h2
    exact TreeV.nil _ _ _ _ _
theorem MadeT.keep {w w' : World} {L B : Nat} {s : Int} {e k : Nat} {ps : List Value} {rs : List (List GCube)} (h : MadeT w L B s e k ps rs) (hk : ∀ g cs, L ≤ g → g < B → Bx w g cs → Bx w' g cs) {B' : Nat} (hB : B ≤ B') : MadeT w' L B' s e k ps rs :=
  ⟨h.1, h.2.1, h.2.2.1, fun i p q hp hq => TreeV.keep hk (Nat.le_refl _) hB e p q (h.2.2.2 i p q hp hq)⟩
theorem MadeT.below {w w' : World} {L B : Nat} {s : Int} {e k : Nat} {ps : List Value} {rs : List (List GCube)} (h : MadeT w L B s e k ps rs) (hb : Below B w w') {B' : Nat} (hB : B ≤ B') : MadeT w' L B' s e k ps rs :=
  h.keep (fun g cs _ hg hx => hx.block (hb.block g hg) hb.size) hB
theorem MadeT.set {w : World} {L B : Nat} {s : Int} {e k : Nat} {ps : List Value} {rs : List (List GCube)} (h : MadeT w L B s e k ps rs) {p : Addr} (hp : p.block < L) (u : Value) : MadeT (w.setCell p u) L B s e k ps rs :=
  h.keep (fun g cs hg _ hx => hx.setOther (by omega) u) (Nat.le_refl _)
theorem MadeT.skip {w : World} {L B : Nat} {s : Int} {e k : Nat} {ps : List Value} {rs : List (List GCube)} (h : MadeT w L B s e k ps rs) : MadeT w L B s e (k + 1) ps rs :=
  ⟨h.1, h.2.1, fun j x hj hx => h.2.2.1 j x (by omega) hx, h.2.2.2⟩
theorem MadeT.put {w : World} {L B : Nat} {s : Int} {e k : Nat} {ps : List Value} {rs : List (List GCube)} (h : MadeT w L B s e k ps rs) (hk : k < 4) {p : Value} {q : List GCube} (hp : TreeV w L B s e p q) : MadeT w L B s e (k + 1) (ps.set k p) (rs.set k q) ∧ (rs.set k q).flatten = rs.flatten ++ q := by
  obtain ⟨h1, h2, h3, h4⟩ := h
  refine ⟨⟨by simpa using h1, by simpa using h2, fun j x hj hx => ?_, fun i p' q' hp' hq' => ?_⟩, flat_put rs k q (by omega) h3⟩
  · rw [List.getElem?_set_ne (by omega)] at hx
    exact h3 j x (by omega) hx
  · by_cases e : k = i
    · subst e
      rw [List.getElem?_set_self (by omega)] at hp' hq'
      cases hp'; cases hq'
      exact hp
    · rw [List.getElem?_set_ne e] at hp' hq'
      exact h4 i p' q' hp' hq'
theorem MadeT.tree {w : World} {L B g : Nat} {s : Int} {e k : Nat} {b : GCube} {ps : List Value} {rs : List (List GCube)} {r : List GCube} (h : MadeT w L B s e k ps rs) (hr : r = rs.flatten) (hx : Bx w g (encT b ps r.length)) (hs : b.pSide ≠ s) {L' : Nat} (h1 : L' ≤ g) (h2 : g < B) (h3 : L' ≤ L) : TreeV w L' B s (e + 1) (.pointer (some ⟨g, 0, none⟩)) r :=
  Or.inr ⟨g, b, ps, rs, rfl, h1, h2, hx, hs, h.1, h.2.1, hr, fun i p q hp hq => (h.2.2.2 i p q hp hq).mono h3 (Nat.le_refl _)⟩
end Go.Proofs.Ytoogofceoinniaa
