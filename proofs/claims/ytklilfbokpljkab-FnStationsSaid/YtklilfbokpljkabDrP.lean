/- The specification's draws of places and stations. -/
import Derived.Test.YtklilfbokpljkabCurB
import Derived.Test.YtklilfbokpljkabFStation
import Derived.Test.YtklilfbokpljkabAcc
import Derived.Deep.RegionHeld3
namespace Go.Proofs.Ytklilfbokpljkab
open Go.ChangeShapes Go.WideShapes Go.ChangeAt Go.RowKit Go.ChangeMaps
set_option linter.unusedSimpArgs false
set_option linter.unusedVariables false

theorem OfInts.grown {w w' : World} {b : Nat} {v : Value} {xs : List Int} (h : OfInts w b v xs) (hg : w.grownBy w' (some b)) : OfInts w' b v xs := by
  obtain ⟨bb, off, cap, h1, h2, h3, h4⟩ := h
  exact ⟨bb, off, cap, h1, h2, Nat.lt_of_lt_of_le h3 hg.size, fun i x hi => (grown_cell hg h2 h3).trans (h4 i x hi)⟩
theorem OfInts.take {w : World} {b : Nat} {a : Option Addr} {n cap : Nat} {xs : List Int} (h : OfInts w b (.slice a n cap) xs) (m : Nat) (hm : m ≤ xs.length) : OfInts w b (.slice a m cap) (xs.take m) := by
  obtain ⟨bb, off, cap, h1, h2, h3, h4⟩ := h
  simp only [Value.slice.injEq] at h1
  obtain ⟨rfl, -, rfl⟩ := h1
  refine ⟨bb, off, _, by rw [List.length_take, Nat.min_eq_left hm], h2, h3, fun i x hi => h4 i x ?_⟩
  rw [List.getElem?_take] at hi
  split at hi
  · exact hi
  · cases hi
theorem mem_take_all {P : Int → Prop} {xs : List Int} (h : ∀ x ∈ xs, P x) {m : Nat} {x : Int} (hx : x ∈ xs.take m) : P x := h x (List.mem_of_mem_take hx)
set_option maxRecDepth 100000 in
set_option maxHeartbeats 1000000 in
theorem cur_place (w : World) (B b k : Nat) (h : Cur w B b k) (hk : k ≤ 800000) :
    Calls Try.prog 95 #[.pointer (some ⟨b, 0, none⟩)] w fun e w' => ∃ x y : Int, e = .returned (.tuple #[.int .i64 x, .int .i64 y]) ∧ (-1 ≤ x ∧ x ≤ 1000) ∧ (-1 ≤ y ∧ y ≤ 1000) ∧ Cur w' B b (k + 8) ∧ w.grownBy w' (some b) := by
  have hbw := h.lt
  go_enter Try.func95, Try.ntmps95
  go_wp2_with fail
  refine (cur_pick _ B b k 30 (h.alloc _) (by omega) (by omega) (by omega)).mono ?_
  rintro e w1 ⟨r, rfl, hr0, hr1, hc1, hg1⟩
  have hl1 := (ints_lit w b hbw 3 7 [0, 3, 10, 50, 999, -1, 1000]).grown hg1
  have G1 := (grown_alloc w _ _).trans hg1
  obtain ⟨q, hq, hq2⟩ : ∃ q : Nat, r.tdiv 14 = q ∧ q ≤ 2 := ⟨(r / 14).toNat, by rw [Int.tdiv_eq_ediv_of_nonneg hr0]; omega, by omega⟩
  clear hg1
  go_wp2_with fail
  refine (cur_among _ B b _ hc1 (by omega) _ _ (hl1.take (5 + q) (by simp; omega)) (by simp; omega) (by simp; omega)).mono ?_
  rintro e w2 ⟨x, rfl, hx, hc2, hg2⟩
  have hx2 : -1 ≤ x ∧ x ≤ 1000 := mem_take_all (P := fun x => -1 ≤ x ∧ x ≤ 1000) (by decide) hx
  have G2 := G1.trans hg2
  have z2 := hc2.lt
  clear hx hg2 hl1 hc1 G1 hq
  go_wp2_with fail
  refine (cur_pick _ B b _ 30 (hc2.alloc _) (by omega) (by omega) (by omega)).mono ?_
  rintro e w3 ⟨s, rfl, hs0, hs1, hc3, hg3⟩
  have hl3 := (ints_lit w2 b z2 3 7 [0, 4, 10, 50, 999, -1, 1000]).grown hg3
  have G3 := G2.trans ((grown_alloc w2 _ _).trans hg3)
  obtain ⟨p, hp, hp2⟩ : ∃ q : Nat, s.tdiv 14 = q ∧ q ≤ 2 := ⟨(s / 14).toNat, by rw [Int.tdiv_eq_ediv_of_nonneg hs0]; omega, by omega⟩
  clear hg3 hc2 G2
  go_wp2_with fail
  refine (cur_among _ B b _ hc3 (by omega) _ _ (hl3.take (5 + p) (by simp; omega)) (by simp; omega) (by simp; omega)).mono ?_
  rintro e w4 ⟨y, rfl, hy, hc4, hg4⟩
  have hy2 : -1 ≤ y ∧ y ≤ 1000 := mem_take_all (P := fun x => -1 ≤ x ∧ x ≤ 1000) (by decide) hy
  go_wp2
  go_ret2
  exact ⟨x, y, rfl, hx2, hy2, hc4, G3.trans hg4⟩

theorem of_lit1 (w : World) (o : Obj) (b : Nat) (hb : b < w.heap.size) (T : TypeId) (cap : Nat) (xs : List ByteArray) :
    Of ((w.alloc o).alloc (.cells (xs.map Value.string).toArray T)) b (.slice (some ⟨w.heap.size + 1, 0, none⟩) xs.length cap) xs := by
  have h := of_lit (w.alloc o) b (by simp; omega) T cap xs
  rwa [World.size_alloc] at h
theorem setP {a w : World} {b : Nat} (h : a.grownBy w (some b)) {p : Addr} (hp : a.heap.size ≤ p.block) (u : Value) : a.grownBy (w.setCell p u) (some b) :=
  ⟨h.os, h.tape, h.output, by simpa [World.setCell] using h.size, fun i hi hne => (Below.heap_setCell w p u i (by rintro rfl; omega)).trans (h.block i hi hne)⟩
theorem curSet {w : World} {B b k : Nat} (h : Cur w B b k) {p : Addr} (hp : b < p.block) (u : Value) : Cur (w.setCell p u) B b k :=
  h.keep (row := some p.block) ⟨rfl, rfl, rfl, by simp [World.setCell], fun i hi hne => Below.heap_setCell w p u i (fun e => hne (by rw [e]))⟩ (fun g e => by cases e; exact hp)
theorem Bx.setAt {w : World} {b : Nat} {cs : List Value} (h : Bx w b cs) (i : Nat) (hi : i < cs.length) (u : Value) : Bx (w.setCell ⟨b, i, none⟩ u) b (cs.set i u) := by
  refine ⟨⟨by simpa using h.1.1, fun i => by rw [World.frozen?_setCell]; exact h.1.2 i⟩, fun j c hj => ?_⟩
  by_cases e : i = j
  · subst e
    rw [List.getElem?_set_self hi] at hj
    cases hj
    obtain ⟨c', hc'⟩ := get_of_lt hi
    exact World.cell?_setCell_same' _ _ _ (by rw [h.2 i c' hc']; rfl)
  · rw [List.getElem?_set_ne e] at hj
    rw [World.cell?_setCell_other _ _ _ _ (by first | omega | (simp; done) | (simp; omega))]
    exact h.2 j c hj
/-- A station as a draw gives it. -/
def BdS (s : GStation) : Prop := (-2000000 ≤ s.pId ∧ s.pId ≤ 2000000) ∧ s.pName.size ≤ 16 ∧ (-2000000 ≤ s.pX ∧ s.pX ≤ 2000000) ∧ (-2000000 ≤ s.pY ∧ s.pY ≤ 2000000) ∧ (-2000000 ≤ s.pGain ∧ s.pGain ≤ 2000000) ∧ (-2000000 ≤ s.pLow ∧ s.pLow ≤ 2000000) ∧ (-2000000 ≤ s.pHigh ∧ s.pHigh ≤ 2000000) ∧ (-2000000 ≤ s.pUntil ∧ s.pUntil ≤ 2000000)
set_option maxRecDepth 100000 in
set_option maxHeartbeats 4000000 in
theorem cur_station (w : World) (B b k : Nat) (id : Int) (h : Cur w B b k) (hk : k ≤ 700000) (hid : 0 ≤ id ∧ id ≤ 1000) :
    Calls Try.prog 111 #[.pointer (some ⟨b, 0, none⟩), .int .i64 id] w fun e w' => ∃ s : GStation, e = .returned (.agg #[.int .i64 s.pId, .string s.pName, .int .i64 s.pX, .int .i64 s.pY, .int .i64 s.pGain, .int .i64 s.pLow, .int .i64 s.pHigh, .int .i64 s.pUntil]) ∧ BdS s ∧ Cur w' B b (k + 40) ∧ w.grownBy w' (some b) := by
  have hbw := h.lt
  go_enter Try.func111, Try.ntmps111
  go_wp2_with fail
  refine (cur_of _ B b k ((h.alloc _).alloc _) (by omega) _ _ (of_lit1 w (.cells #[.int .i64 0, .string .empty, .int .i64 0, .int .i64 0, .int .i64 0, .int .i64 0, .int .i64 0, .int .i64 0] 60) b hbw 9 6 [⟨#[97, 108, 109]⟩, ⟨#[98, 101, 114, 103]⟩, ⟨#[100, 111, 114, 102]⟩, ⟨#[107, 108, 97, 109, 109]⟩, ⟨#[115, 101, 101]⟩, ⟨#[116, 117, 114, 109]⟩]) (by simp) (by simp)).mono ?_
  rintro e w1 ⟨nm, rfl, hnm, hc1, hg1⟩
  have hnm2 : nm.size ≤ 16 := by
    revert nm
    decide
  have d1 := ((Bx.new w [.int .i64 0, .string .empty, .int .i64 0, .int .i64 0, .int .i64 0, .int .i64 0, .int .i64 0, .int .i64 0] 60).alloc _).grown hg1 (by simp; omega)
  have G1 := (grown_alloc w _ _).trans ((grown_alloc _ _ _).trans hg1)
  have z1 := hc1.lt
  have y1 : w.heap.size + 1 ≤ w1.heap.size := by have := hg1.size; simp at this; omega
  clear hnm hg1
  go_wp2_with fail
  refine (cur_among _ B b _ (hc1.alloc _) (by omega) _ _ (ints_lit w1 b z1 3 4 [1, 6, 1000, 10000]) (by simp) (by simp)).mono ?_
  rintro e w2 ⟨gn, rfl, hx, hc2, hg2⟩
  have hgn2 : -2000000 ≤ gn ∧ gn ≤ 2000000 := by
    revert gn
    decide
  have d2 := (d1.alloc _).grown hg2 (by simp; omega)
  have G2 := G1.trans ((grown_alloc _ _ _).trans hg2)
  have z2 := hc2.lt
  have y2 : w.heap.size + 1 ≤ w2.heap.size := by have := hg2.size; simp at this; omega
  clear hx hg2 hc1 d1 G1
  go_wp2_with fail
  refine (cur_among _ B b _ (hc2.alloc _) (by omega) _ _ (ints_lit w2 b z2 3 4 [1, 5, 100, 2000]) (by simp) (by simp)).mono ?_
  rintro e w3 ⟨lo, rfl, hx, hc3, hg3⟩
  have hlo2 : -2000000 ≤ lo ∧ lo ≤ 2000000 := by
    revert lo
    decide
  have d3 := (d2.alloc _).grown hg3 (by simp; omega)
  have G3 := G2.trans ((grown_alloc _ _ _).trans hg3)
  have z3 := hc3.lt
  have y3 : w.heap.size + 1 ≤ w3.heap.size := by have := hg3.size; simp at this; omega
  clear hx hg3 hc2 d2 G2
  go_wp2_with fail
  refine (cur_among _ B b _ (hc3.alloc _) (by omega) _ _ (ints_lit w3 b z3 3 4 [2, 1500, 2500, 5000]) (by simp) (by simp)).mono ?_
  rintro e w4 ⟨hi, rfl, hx, hc4, hg4⟩
  have hhi2 : -2000000 ≤ hi ∧ hi ≤ 2000000 := by
    revert hi
    decide
  have d4 := (d3.alloc _).grown hg4 (by simp; omega)
  have G4 := G3.trans ((grown_alloc _ _ _).trans hg4)
  have z4 := hc4.lt
  have y4 : w.heap.size + 1 ≤ w4.heap.size := by have := hg4.size; simp at this; omega
  clear hx hg4 hc3 d3 G3
  go_wp2_with fail
  refine (cur_among _ B b _ (hc4.alloc _) (by omega) _ _ (ints_lit w4 b z4 3 4 [0, 500, 500, 1000000]) (by simp) (by simp)).mono ?_
  rintro e w5 ⟨un, rfl, hx, hc5, hg5⟩
  have hun2 : -2000000 ≤ un ∧ un ≤ 2000000 := by
    revert un
    decide
  have d5 := (d4.alloc _).grown hg5 (by simp; omega)
  have G5 := G4.trans ((grown_alloc _ _ _).trans hg5)
  have z5 := hc5.lt
  have y5 : w.heap.size + 1 ≤ w5.heap.size := by have := hg5.size; simp at this; omega
  clear hx hg5 hc4 d4 G4
  have n5 := Bx.new w5 [.int .i64 id, .string nm, .int .i64 0, .int .i64 0, .int .i64 gn, .int .i64 lo, .int .i64 hi, .int .i64 un] 60
  go_wp2_with fail
  refine (cur_place _ B b _ (hc5.alloc _) (by omega)).mono ?_
  rintro e w6 ⟨x, y, rfl, hx, hy, hc6, hg6⟩
  have n6 := ((n5.grown hg6 (by simp; omega)).setAt 2 (by simp) (.int .i64 x)).setAt 3 (by simp) (.int .i64 y)
  have s6 := n5.grown hg6 (by simp; omega)
  have s62 := s6.2 2 _ rfl
  have s63 := s6.2 3 _ rfl
  have s6f := s6.1.2
  have d6 := ((((d5.alloc _).grown hg6 (by simp; omega)).setOther (p := ⟨w5.heap.size, 2, none⟩) (by simp; omega) (.int .i64 x)).setOther (p := ⟨w5.heap.size, 3, none⟩) (by simp; omega) (.int .i64 y))
  have G6 := setP (setP (G5.trans ((grown_alloc _ _ _).trans hg6)) (p := ⟨w5.heap.size, 2, none⟩) (by simp; omega) (.int .i64 x)) (p := ⟨w5.heap.size, 3, none⟩) (by simp; omega) (.int .i64 y)
  have c6 := curSet (curSet hc6 (p := ⟨w5.heap.size, 2, none⟩) z5 (.int .i64 x)) (p := ⟨w5.heap.size, 3, none⟩) z5 (.int .i64 y)
  have y6 : w5.heap.size + 1 ≤ w6.heap.size := by have := hg6.size; simpa using this
  clear n5 hg6 hc6 d5 G5 hc5 s6
  go_wp2_with fail
  refine (cur_pick _ B b _ 80 c6 (by omega) (by omega) (by omega)).mono ?_
  rintro e w7 ⟨c, rfl, hcc0, hcc1, hc7, hg7⟩
  have n7 : Bx w7 w5.heap.size [.int .i64 id, .string nm, .int .i64 x, .int .i64 y, .int .i64 gn, .int .i64 lo, .int .i64 hi, .int .i64 un] := n6.grown hg7 (by simp; omega)
  have d7 := d6.grown hg7 (by simp; omega)
  have G7 := G6.trans hg7
  have y7 : w6.heap.size ≤ w7.heap.size := by have := hg7.size; simpa [World.setCell] using this
  clear n6 hg7 d6 G6 c6 s62 s63 s6f
  have ne1 : ¬ w.heap.size = w5.heap.size := by omega
  have ne2 : ¬ w5.heap.size = w.heap.size := by omega
  have hcc : c = 0 ∨ c = 1 ∨ c = 2 ∨ c = 3 ∨ c = 4 ∨ c = 5 ∨ 5 < c := by omega
  clear hcc0 hcc1
  rcases hcc with rfl | rfl | rfl | rfl | rfl | rfl | hcd
  · have y8 := hc7.lt
    have qh := n7.2 6 _ rfl
    go_wp2_with fail
    refine (cur_among _ B b _ (hc7.alloc _) (by omega) _ _ (ints_lit w7 b y8 3 3 [0, 99, 100]) (by simp) (by simp)).mono ?_
    rintro e w8 ⟨i2, rfl, hx, hc8, hg8⟩
    have hv2 : -2000000 ≤ i2 ∧ i2 ≤ 2000000 := by
      revert i2
      decide
    have n8 := (n7.alloc _).grown hg8 (by simp; omega)
    have d8 := (d7.alloc _).grown hg8 (by simp; omega)
    have G8 := G7.trans ((grown_alloc _ _ _).trans hg8)
    have y9 : w7.heap.size + 1 ≤ w8.heap.size := by have := hg8.size; simpa using this
    have m8 := n8.setAt 0 (by simp) (.int .i64 i2)
    have e8 := d8.setOther (p := ⟨w5.heap.size, 0, none⟩) (by simp; omega) (.int .i64 i2)
    have H8 := setP G8 (p := ⟨w5.heap.size, 0, none⟩) (by simp; omega) (.int .i64 i2)
    have c8 := curSet hc8 (p := ⟨w5.heap.size, 0, none⟩) z5 (.int .i64 i2)
    have p8 := n8.2 0 _ rfl
    have pf := n8.1.2
    clear n7 d7 G7 hc7 hg8 hx qh
    have q0 := m8.2 0 _ rfl
    have q1 := m8.2 1 _ rfl
    have q2 := m8.2 2 _ rfl
    have q3 := m8.2 3 _ rfl
    have q4 := m8.2 4 _ rfl
    have q5 := m8.2 5 _ rfl
    have q6 := m8.2 6 _ rfl
    have q7 := m8.2 7 _ rfl
    have x0 := e8.2 0 _ rfl
    have x1 := e8.2 1 _ rfl
    have x2 := e8.2 2 _ rfl
    have x3 := e8.2 3 _ rfl
    have x4 := e8.2 4 _ rfl
    have x5 := e8.2 5 _ rfl
    have x6 := e8.2 6 _ rfl
    have x7 := e8.2 7 _ rfl
    have xf := e8.1.2
    go_wp2
    refine bodyPost_ret (v := .agg #[.int .i64 i2, .string nm, .int .i64 x, .int .i64 y, .int .i64 gn, .int .i64 lo, .int .i64 hi, .int .i64 un]) (by simp [results, Try.results111, go_sem, x0, x1, x2, x3, x4, x5, x6, x7]) rfl ⟨⟨i2, nm, x, y, gn, lo, hi, un⟩, rfl, ?_, ?_, ?_⟩
    · unfold BdS; simp only; omega
    · exact (curSet (curSet (curSet (curSet (curSet (curSet (curSet (curSet (c8) (by simp; omega) _) (by simp; omega) _) (by simp; omega) _) (by simp; omega) _) (by simp; omega) _) (by simp; omega) _) (by simp; omega) _) (by simp; omega) _).mono (by omega)
    · exact setP (setP (setP (setP (setP (setP (setP (setP (H8) (by simp) _) (by simp) _) (by simp) _) (by simp) _) (by simp) _) (by simp) _) (by simp) _) (by simp) _
  · have y8 := hc7.lt
    have qh := n7.2 6 _ rfl
    go_wp2_with fail
    refine (cur_of _ B b _ (hc7.alloc _) (by omega) _ _ (of_lit w7 b y8 9 3 [⟨#[]⟩, ⟨#[65]⟩, ⟨#[97, 98, 99, 100, 101, 102, 103, 104, 105, 106, 107]⟩]) (by simp) (by simp)).mono ?_
    rintro e w8 ⟨n2, rfl, hx, hc8, hg8⟩
    have hv2 : n2.size ≤ 16 := by
      revert n2
      decide
    have n8 := (n7.alloc _).grown hg8 (by simp; omega)
    have d8 := (d7.alloc _).grown hg8 (by simp; omega)
    have G8 := G7.trans ((grown_alloc _ _ _).trans hg8)
    have y9 : w7.heap.size + 1 ≤ w8.heap.size := by have := hg8.size; simpa using this
    have m8 := n8.setAt 1 (by simp) (.string n2)
    have e8 := d8.setOther (p := ⟨w5.heap.size, 1, none⟩) (by simp; omega) (.string n2)
    have H8 := setP G8 (p := ⟨w5.heap.size, 1, none⟩) (by simp; omega) (.string n2)
    have c8 := curSet hc8 (p := ⟨w5.heap.size, 1, none⟩) z5 (.string n2)
    have p8 := n8.2 1 _ rfl
    have pf := n8.1.2
    clear n7 d7 G7 hc7 hg8 hx qh
    have q0 := m8.2 0 _ rfl
    have q1 := m8.2 1 _ rfl
    have q2 := m8.2 2 _ rfl
    have q3 := m8.2 3 _ rfl
    have q4 := m8.2 4 _ rfl
    have q5 := m8.2 5 _ rfl
    have q6 := m8.2 6 _ rfl
    have q7 := m8.2 7 _ rfl
    have x0 := e8.2 0 _ rfl
    have x1 := e8.2 1 _ rfl
    have x2 := e8.2 2 _ rfl
    have x3 := e8.2 3 _ rfl
    have x4 := e8.2 4 _ rfl
    have x5 := e8.2 5 _ rfl
    have x6 := e8.2 6 _ rfl
    have x7 := e8.2 7 _ rfl
    have xf := e8.1.2
    go_wp2
    refine bodyPost_ret (v := .agg #[.int .i64 id, .string n2, .int .i64 x, .int .i64 y, .int .i64 gn, .int .i64 lo, .int .i64 hi, .int .i64 un]) (by simp [results, Try.results111, go_sem, x0, x1, x2, x3, x4, x5, x6, x7]) rfl ⟨⟨id, n2, x, y, gn, lo, hi, un⟩, rfl, ?_, ?_, ?_⟩
    · unfold BdS; simp only; omega
    · exact (curSet (curSet (curSet (curSet (curSet (curSet (curSet (curSet (c8) (by simp; omega) _) (by simp; omega) _) (by simp; omega) _) (by simp; omega) _) (by simp; omega) _) (by simp; omega) _) (by simp; omega) _) (by simp; omega) _).mono (by omega)
    · exact setP (setP (setP (setP (setP (setP (setP (setP (H8) (by simp) _) (by simp) _) (by simp) _) (by simp) _) (by simp) _) (by simp) _) (by simp) _) (by simp) _
  · have y8 := hc7.lt
    have qh := n7.2 6 _ rfl
    go_wp2_with fail
    refine (cur_among _ B b _ (hc7.alloc _) (by omega) _ _ (ints_lit w7 b y8 3 2 [0, 10001]) (by simp) (by simp)).mono ?_
    rintro e w8 ⟨g2, rfl, hx, hc8, hg8⟩
    have hv2 : -2000000 ≤ g2 ∧ g2 ≤ 2000000 := by
      revert g2
      decide
    have n8 := (n7.alloc _).grown hg8 (by simp; omega)
    have d8 := (d7.alloc _).grown hg8 (by simp; omega)
    have G8 := G7.trans ((grown_alloc _ _ _).trans hg8)
    have y9 : w7.heap.size + 1 ≤ w8.heap.size := by have := hg8.size; simpa using this
    have m8 := n8.setAt 4 (by simp) (.int .i64 g2)
    have e8 := d8.setOther (p := ⟨w5.heap.size, 4, none⟩) (by simp; omega) (.int .i64 g2)
    have H8 := setP G8 (p := ⟨w5.heap.size, 4, none⟩) (by simp; omega) (.int .i64 g2)
    have c8 := curSet hc8 (p := ⟨w5.heap.size, 4, none⟩) z5 (.int .i64 g2)
    have p8 := n8.2 4 _ rfl
    have pf := n8.1.2
    clear n7 d7 G7 hc7 hg8 hx qh
    have q0 := m8.2 0 _ rfl
    have q1 := m8.2 1 _ rfl
    have q2 := m8.2 2 _ rfl
    have q3 := m8.2 3 _ rfl
    have q4 := m8.2 4 _ rfl
    have q5 := m8.2 5 _ rfl
    have q6 := m8.2 6 _ rfl
    have q7 := m8.2 7 _ rfl
    have x0 := e8.2 0 _ rfl
    have x1 := e8.2 1 _ rfl
    have x2 := e8.2 2 _ rfl
    have x3 := e8.2 3 _ rfl
    have x4 := e8.2 4 _ rfl
    have x5 := e8.2 5 _ rfl
    have x6 := e8.2 6 _ rfl
    have x7 := e8.2 7 _ rfl
    have xf := e8.1.2
    go_wp2
    refine bodyPost_ret (v := .agg #[.int .i64 id, .string nm, .int .i64 x, .int .i64 y, .int .i64 g2, .int .i64 lo, .int .i64 hi, .int .i64 un]) (by simp [results, Try.results111, go_sem, x0, x1, x2, x3, x4, x5, x6, x7]) rfl ⟨⟨id, nm, x, y, g2, lo, hi, un⟩, rfl, ?_, ?_, ?_⟩
    · unfold BdS; simp only; omega
    · exact (curSet (curSet (curSet (curSet (curSet (curSet (curSet (curSet (c8) (by simp; omega) _) (by simp; omega) _) (by simp; omega) _) (by simp; omega) _) (by simp; omega) _) (by simp; omega) _) (by simp; omega) _) (by simp; omega) _).mono (by omega)
    · exact setP (setP (setP (setP (setP (setP (setP (setP (H8) (by simp) _) (by simp) _) (by simp) _) (by simp) _) (by simp) _) (by simp) _) (by simp) _) (by simp) _
  · have y8 := hc7.lt
    have qh := n7.2 6 _ rfl
    go_wp2_with fail
    refine (cur_among _ B b _ (hc7.alloc _) (by omega) _ _ (ints_lit w7 b y8 3 2 [0, hi]) (by simp) (by simp)).mono ?_
    rintro e w8 ⟨l2, rfl, hx, hc8, hg8⟩
    have hv2 : -2000000 ≤ l2 ∧ l2 ≤ 2000000 := by
      simp only [List.mem_cons, List.not_mem_nil, or_false] at hx
      omega
    have n8 := (n7.alloc _).grown hg8 (by simp; omega)
    have d8 := (d7.alloc _).grown hg8 (by simp; omega)
    have G8 := G7.trans ((grown_alloc _ _ _).trans hg8)
    have y9 : w7.heap.size + 1 ≤ w8.heap.size := by have := hg8.size; simpa using this
    have m8 := n8.setAt 5 (by simp) (.int .i64 l2)
    have e8 := d8.setOther (p := ⟨w5.heap.size, 5, none⟩) (by simp; omega) (.int .i64 l2)
    have H8 := setP G8 (p := ⟨w5.heap.size, 5, none⟩) (by simp; omega) (.int .i64 l2)
    have c8 := curSet hc8 (p := ⟨w5.heap.size, 5, none⟩) z5 (.int .i64 l2)
    have p8 := n8.2 5 _ rfl
    have pf := n8.1.2
    clear n7 d7 G7 hc7 hg8 hx qh
    have q0 := m8.2 0 _ rfl
    have q1 := m8.2 1 _ rfl
    have q2 := m8.2 2 _ rfl
    have q3 := m8.2 3 _ rfl
    have q4 := m8.2 4 _ rfl
    have q5 := m8.2 5 _ rfl
    have q6 := m8.2 6 _ rfl
    have q7 := m8.2 7 _ rfl
    have x0 := e8.2 0 _ rfl
    have x1 := e8.2 1 _ rfl
    have x2 := e8.2 2 _ rfl
    have x3 := e8.2 3 _ rfl
    have x4 := e8.2 4 _ rfl
    have x5 := e8.2 5 _ rfl
    have x6 := e8.2 6 _ rfl
    have x7 := e8.2 7 _ rfl
    have xf := e8.1.2
    go_wp2
    refine bodyPost_ret (v := .agg #[.int .i64 id, .string nm, .int .i64 x, .int .i64 y, .int .i64 gn, .int .i64 l2, .int .i64 hi, .int .i64 un]) (by simp [results, Try.results111, go_sem, x0, x1, x2, x3, x4, x5, x6, x7]) rfl ⟨⟨id, nm, x, y, gn, l2, hi, un⟩, rfl, ?_, ?_, ?_⟩
    · unfold BdS; simp only; omega
    · exact (curSet (curSet (curSet (curSet (curSet (curSet (curSet (curSet (c8) (by simp; omega) _) (by simp; omega) _) (by simp; omega) _) (by simp; omega) _) (by simp; omega) _) (by simp; omega) _) (by simp; omega) _) (by simp; omega) _).mono (by omega)
    · exact setP (setP (setP (setP (setP (setP (setP (setP (H8) (by simp) _) (by simp) _) (by simp) _) (by simp) _) (by simp) _) (by simp) _) (by simp) _) (by simp) _
  · have y8 := hc7.lt
    have m7 := n7.setAt 6 (by simp) (.int .i64 5001)
    have e7 := d7.setOther (p := ⟨w5.heap.size, 6, none⟩) (by simp; omega) (.int .i64 5001)
    have H7 := setP G7 (p := ⟨w5.heap.size, 6, none⟩) (by simp; omega) (.int .i64 5001)
    have c7 := curSet hc7 (p := ⟨w5.heap.size, 6, none⟩) z5 (.int .i64 5001)
    have p7 := n7.2 6 _ rfl
    have pf := n7.1.2
    have q0 := m7.2 0 _ rfl
    have q1 := m7.2 1 _ rfl
    have q2 := m7.2 2 _ rfl
    have q3 := m7.2 3 _ rfl
    have q4 := m7.2 4 _ rfl
    have q5 := m7.2 5 _ rfl
    have q6 := m7.2 6 _ rfl
    have q7 := m7.2 7 _ rfl
    have x0 := e7.2 0 _ rfl
    have x1 := e7.2 1 _ rfl
    have x2 := e7.2 2 _ rfl
    have x3 := e7.2 3 _ rfl
    have x4 := e7.2 4 _ rfl
    have x5 := e7.2 5 _ rfl
    have x6 := e7.2 6 _ rfl
    have x7 := e7.2 7 _ rfl
    have xf := e7.1.2
    go_wp2
    refine bodyPost_ret (v := .agg #[.int .i64 id, .string nm, .int .i64 x, .int .i64 y, .int .i64 gn, .int .i64 lo, .int .i64 5001, .int .i64 un]) (by simp [results, Try.results111, go_sem, x0, x1, x2, x3, x4, x5, x6, x7]) rfl ⟨⟨id, nm, x, y, gn, lo, 5001, un⟩, rfl, ?_, ?_, ?_⟩
    · unfold BdS; simp only; omega
    · exact (curSet (curSet (curSet (curSet (curSet (curSet (curSet (curSet (c7) (by simp; omega) _) (by simp; omega) _) (by simp; omega) _) (by simp; omega) _) (by simp; omega) _) (by simp; omega) _) (by simp; omega) _) (by simp; omega) _).mono (by omega)
    · exact setP (setP (setP (setP (setP (setP (setP (setP (H7) (by simp) _) (by simp) _) (by simp) _) (by simp) _) (by simp) _) (by simp) _) (by simp) _) (by simp) _
  · have y8 := hc7.lt
    have qh := n7.2 6 _ rfl
    go_wp2_with fail
    refine (cur_among _ B b _ (hc7.alloc _) (by omega) _ _ (ints_lit w7 b y8 3 2 [-1, 1000001]) (by simp) (by simp)).mono ?_
    rintro e w8 ⟨u2, rfl, hx, hc8, hg8⟩
    have hv2 : -2000000 ≤ u2 ∧ u2 ≤ 2000000 := by
      revert u2
      decide
    have n8 := (n7.alloc _).grown hg8 (by simp; omega)
    have d8 := (d7.alloc _).grown hg8 (by simp; omega)
    have G8 := G7.trans ((grown_alloc _ _ _).trans hg8)
    have y9 : w7.heap.size + 1 ≤ w8.heap.size := by have := hg8.size; simpa using this
    have m8 := n8.setAt 7 (by simp) (.int .i64 u2)
    have e8 := d8.setOther (p := ⟨w5.heap.size, 7, none⟩) (by simp; omega) (.int .i64 u2)
    have H8 := setP G8 (p := ⟨w5.heap.size, 7, none⟩) (by simp; omega) (.int .i64 u2)
    have c8 := curSet hc8 (p := ⟨w5.heap.size, 7, none⟩) z5 (.int .i64 u2)
    have p8 := n8.2 7 _ rfl
    have pf := n8.1.2
    clear n7 d7 G7 hc7 hg8 hx qh
    have q0 := m8.2 0 _ rfl
    have q1 := m8.2 1 _ rfl
    have q2 := m8.2 2 _ rfl
    have q3 := m8.2 3 _ rfl
    have q4 := m8.2 4 _ rfl
    have q5 := m8.2 5 _ rfl
    have q6 := m8.2 6 _ rfl
    have q7 := m8.2 7 _ rfl
    have x0 := e8.2 0 _ rfl
    have x1 := e8.2 1 _ rfl
    have x2 := e8.2 2 _ rfl
    have x3 := e8.2 3 _ rfl
    have x4 := e8.2 4 _ rfl
    have x5 := e8.2 5 _ rfl
    have x6 := e8.2 6 _ rfl
    have x7 := e8.2 7 _ rfl
    have xf := e8.1.2
    go_wp2
    refine bodyPost_ret (v := .agg #[.int .i64 id, .string nm, .int .i64 x, .int .i64 y, .int .i64 gn, .int .i64 lo, .int .i64 hi, .int .i64 u2]) (by simp [results, Try.results111, go_sem, x0, x1, x2, x3, x4, x5, x6, x7]) rfl ⟨⟨id, nm, x, y, gn, lo, hi, u2⟩, rfl, ?_, ?_, ?_⟩
    · unfold BdS; simp only; omega
    · exact (curSet (curSet (curSet (curSet (curSet (curSet (curSet (curSet (c8) (by simp; omega) _) (by simp; omega) _) (by simp; omega) _) (by simp; omega) _) (by simp; omega) _) (by simp; omega) _) (by simp; omega) _) (by simp; omega) _).mono (by omega)
    · exact setP (setP (setP (setP (setP (setP (setP (setP (H8) (by simp) _) (by simp) _) (by simp) _) (by simp) _) (by simp) _) (by simp) _) (by simp) _) (by simp) _
  · have y8 := hc7.lt
    have q0 := n7.2 0 _ rfl
    have q1 := n7.2 1 _ rfl
    have q2 := n7.2 2 _ rfl
    have q3 := n7.2 3 _ rfl
    have q4 := n7.2 4 _ rfl
    have q5 := n7.2 5 _ rfl
    have q6 := n7.2 6 _ rfl
    have q7 := n7.2 7 _ rfl
    have x0 := d7.2 0 _ rfl
    have x1 := d7.2 1 _ rfl
    have x2 := d7.2 2 _ rfl
    have x3 := d7.2 3 _ rfl
    have x4 := d7.2 4 _ rfl
    have x5 := d7.2 5 _ rfl
    have x6 := d7.2 6 _ rfl
    have x7 := d7.2 7 _ rfl
    have xf := d7.1.2
    go_wp2
    refine bodyPost_ret (v := .agg #[.int .i64 id, .string nm, .int .i64 x, .int .i64 y, .int .i64 gn, .int .i64 lo, .int .i64 hi, .int .i64 un]) (by simp [results, Try.results111, go_sem, x0, x1, x2, x3, x4, x5, x6, x7]) rfl ⟨⟨id, nm, x, y, gn, lo, hi, un⟩, rfl, ?_, ?_, ?_⟩
    · unfold BdS; simp only; omega
    · exact (curSet (curSet (curSet (curSet (curSet (curSet (curSet (curSet (hc7) (by simp; omega) _) (by simp; omega) _) (by simp; omega) _) (by simp; omega) _) (by simp; omega) _) (by simp; omega) _) (by simp; omega) _) (by simp; omega) _).mono (by omega)
    · exact setP (setP (setP (setP (setP (setP (setP (setP (G7) (by simp) _) (by simp) _) (by simp) _) (by simp) _) (by simp) _) (by simp) _) (by simp) _) (by simp) _
end Go.Proofs.Ytklilfbokpljkab
