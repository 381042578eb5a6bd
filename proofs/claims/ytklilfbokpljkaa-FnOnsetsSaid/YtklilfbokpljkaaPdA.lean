/- The specification's draws of a pick. -/
import Derived.Test.YtklilfbokpljkaaCurG
import Derived.Test.YtklilfbokpljkaaFPick
namespace Go.Proofs.Ytklilfbokpljkaa
open Go.ChangeShapes Go.WideShapes Go.ChangeAt Go.RowKit Go.ChangeMaps
set_option linter.unusedSimpArgs false
set_option linter.unusedVariables false

/-- A pick as a draw gives it. -/
def BdK (s : GPick) : Prop := (-2000000 ≤ s.pId ∧ s.pId ≤ 2000000) ∧ (-2000000 ≤ s.pStation ∧ s.pStation ≤ 2000000) ∧ (-2000000 ≤ s.pWave ∧ s.pWave ≤ 2000000) ∧ (-2000000 ≤ s.pTick ∧ s.pTick ≤ 2000000) ∧ (-2000000 ≤ s.pError ∧ s.pError ≤ 2000000) ∧ (-2000000 ≤ s.pBy ∧ s.pBy ≤ 2000000) ∧ (-2000000 ≤ s.pAfter ∧ s.pAfter ≤ 2000000)
set_option maxRecDepth 100000 in
set_option maxHeartbeats 4000000 in
theorem cur_onset (w : World) (B b k : Nat) (id : Int) (h : Cur w B b k) (hk : k ≤ 700000) (hid : -1000000 ≤ id ∧ id ≤ 1000000) :
    Calls Try.prog 173 #[.pointer (some ⟨b, 0, none⟩), .int .i64 id] w fun e w' => ∃ s : GPick, e = .returned (.agg #[.int .i64 s.pId, .int .i64 s.pStation, .int .i64 s.pWave, .int .i64 s.pTick, .int .i64 s.pError, .int .i64 s.pBy, .int .i64 s.pAfter]) ∧ BdK s ∧ Cur w' B b (k + 20) ∧ w.grownBy w' (some b) := by
  have hbw := h.lt
  go_enter Try.func173, Try.ntmps173
  have d0 := Bx.new w [.int .i64 0, .int .i64 0, .int .i64 0, .int .i64 0, .int .i64 0, .int .i64 0, .int .i64 0] 76
  have G0 := grown_alloc w (.cells #[.int .i64 0, .int .i64 0, .int .i64 0, .int .i64 0, .int .i64 0, .int .i64 0, .int .i64 0] 76) (some b)
  have hc0 := h.alloc (.cells #[.int .i64 0, .int .i64 0, .int .i64 0, .int .i64 0, .int .i64 0, .int .i64 0, .int .i64 0] 76)
  go_wp2_with fail
  refine (cur_among _ B b _ (hc0.alloc _) (by omega) _ _ (by simpa using ints_lit (w.alloc (.cells #[.int .i64 0, .int .i64 0, .int .i64 0, .int .i64 0, .int .i64 0, .int .i64 0, .int .i64 0] 76)) b (by simp; omega) 3 4 [1, 1, 2, 99]) (by simp) (by simp)).mono ?_
  rintro e w1 ⟨st, rfl, hx, hc1, hg1⟩
  have hst2 : -2000000 ≤ st ∧ st ≤ 2000000 := by
    revert st
    decide
  have d1 := (d0.alloc _).grown hg1 (by simp; omega)
  have G1 := G0.trans ((grown_alloc _ _ _).trans hg1)
  clear hx
  have z1 := hc1.lt
  have y1 : w.heap.size + 1 ≤ w1.heap.size := by have q := hg1.size; (try simp only [World.size_alloc] at q); omega
  clear hg1 hc0 d0 G0
  go_wp2_with fail
  refine (cur_pick _ B b _ 2 hc1 (by omega) (by omega) (by omega)).mono ?_
  rintro e w2 ⟨wv, rfl, hx0, hx1, hc2, hg2⟩
  have hwv2 : -2000000 ≤ wv ∧ wv ≤ 2000000 := by omega
  have d2 := d1.grown hg2 (by simp; omega)
  have G2 := G1.trans hg2
  clear hx0 hx1
  have z2 := hc2.lt
  have y2 : w.heap.size + 1 ≤ w2.heap.size := by have q := hg2.size; (try simp only [World.size_alloc] at q); omega
  clear hg2 hc1 d1 G1
  go_wp2_with fail
  refine (cur_among _ B b _ (hc2.alloc _) (by omega) _ _ (ints_lit w2 b z2 3 6 [0, 100, 105, 300, 999990, 1000000]) (by simp) (by simp)).mono ?_
  rintro e w3 ⟨tk, rfl, hx, hc3, hg3⟩
  have htk2 : -2000000 ≤ tk ∧ tk ≤ 2000000 := by
    revert tk
    decide
  have d3 := (d2.alloc _).grown hg3 (by simp; omega)
  have G3 := G2.trans ((grown_alloc _ _ _).trans hg3)
  clear hx
  have z3 := hc3.lt
  have y3 : w.heap.size + 1 ≤ w3.heap.size := by have q := hg3.size; (try simp only [World.size_alloc] at q); omega
  clear hg3 hc2 d2 G2
  go_wp2_with fail
  refine (cur_among _ B b _ (hc3.alloc _) (by omega) _ _ (ints_lit w3 b z3 3 4 [0, 2, 20, 1000]) (by simp) (by simp)).mono ?_
  rintro e w4 ⟨er, rfl, hx, hc4, hg4⟩
  have her2 : -2000000 ≤ er ∧ er ≤ 2000000 := by
    revert er
    decide
  have d4 := (d3.alloc _).grown hg4 (by simp; omega)
  have G4 := G3.trans ((grown_alloc _ _ _).trans hg4)
  clear hx
  have z4 := hc4.lt
  have y4 : w.heap.size + 1 ≤ w4.heap.size := by have q := hg4.size; (try simp only [World.size_alloc] at q); omega
  clear hg4 hc3 d3 G3
  go_wp2_with fail
  refine (cur_among _ B b _ (hc4.alloc _) (by omega) _ _ (ints_lit w4 b z4 3 4 [0, 0, 1, 50]) (by simp) (by simp)).mono ?_
  rintro e w5 ⟨by1, rfl, hx, hc5, hg5⟩
  have hby12 : -2000000 ≤ by1 ∧ by1 ≤ 2000000 := by
    revert by1
    decide
  have d5 := (d4.alloc _).grown hg5 (by simp; omega)
  have G5 := G4.trans ((grown_alloc _ _ _).trans hg5)
  clear hx
  have z5 := hc5.lt
  have y5 : w.heap.size + 1 ≤ w5.heap.size := by have q := hg5.size; (try simp only [World.size_alloc] at q); omega
  clear hg5 hc4 d4 G4
  have n5 := Bx.new w5 [.int .i64 id, .int .i64 st, .int .i64 wv, .int .i64 tk, .int .i64 er, .int .i64 by1, .int .i64 0] 76
  have d5a := d5.alloc (.cells #[.int .i64 id, .int .i64 st, .int .i64 wv, .int .i64 tk, .int .i64 er, .int .i64 by1, .int .i64 0] 76)
  have G5a := G5.trans (grown_alloc w5 (.cells #[.int .i64 id, .int .i64 st, .int .i64 wv, .int .i64 tk, .int .i64 er, .int .i64 by1, .int .i64 0] 76) (some b))
  have hc5a := hc5.alloc (.cells #[.int .i64 id, .int .i64 st, .int .i64 wv, .int .i64 tk, .int .i64 er, .int .i64 by1, .int .i64 0] 76)
  go_wp2_with fail
  refine (cur_pick _ B b _ 80 hc5a (by omega) (by omega) (by omega)).mono ?_
  rintro e w7 ⟨c, rfl, hcc0, hcc1, hc7, hg7⟩
  have n7 : Bx w7 w5.heap.size [.int .i64 id, .int .i64 st, .int .i64 wv, .int .i64 tk, .int .i64 er, .int .i64 by1, .int .i64 0] := n5.grown hg7 (by simp; omega)
  have d7 := d5a.grown hg7 (by simp; omega)
  have G7 := G5a.trans hg7
  have y7 : w5.heap.size + 1 ≤ w7.heap.size := by have := hg7.size; simpa using this
  clear n5 hg7 d5 d5a G5 G5a hc5 hc5a
  have ne1 : ¬ w.heap.size = w5.heap.size := by omega
  have ne2 : ¬ w5.heap.size = w.heap.size := by omega
  have hcc : c = 0 ∨ c = 1 ∨ c = 2 ∨ c = 3 ∨ c = 4 ∨ c = 5 ∨ c = 6 ∨ 6 < c := by omega
  clear hcc0 hcc1
  rcases hcc with rfl | rfl | rfl | rfl | rfl | rfl | rfl | hcd
  · have y8 := hc7.lt
    have qh := n7.2 0 _ rfl
    go_wp2_with fail
    refine (cur_among _ B b _ (hc7.alloc _) (by omega) _ _ (ints_lit w7 b y8 3 3 [0, 9999, 10000]) (by simp) (by simp)).mono ?_
    rintro e w8 ⟨i2, rfl, hx, hc8, hg8⟩
    have hv2 : -2000000 ≤ i2 ∧ i2 ≤ 2000000 := by
      revert i2
      decide
    have n8 := (n7.alloc _).grown hg8 (by simp; omega)
    have d8 := (d7.alloc _).grown hg8 (by simp; omega)
    have G8 := G7.trans ((grown_alloc _ _ _).trans hg8)
    have y9 : w7.heap.size + 1 ≤ w8.heap.size := by have := hg8.size; simpa using this
    have m8 := n8.setAt 0 (by simp) (.int .i64 i2)
    have e8 := d8.setOther (p := ⟨w5.heap.size, 0, none⟩) (by simp; omega) (.int .i64 i2)
    have H8 := setP G8 (p := ⟨w5.heap.size, 0, none⟩) (by simp; omega) (.int .i64 i2)
    have c8 := curSet hc8 (p := ⟨w5.heap.size, 0, none⟩) z5 (.int .i64 i2)
    have p8 := n8.2 0 _ rfl
    have pf := n8.1.2
    clear n7 d7 G7 hc7 hg8 hx qh
    have q0 := m8.2 0 _ rfl
    have q1 := m8.2 1 _ rfl
    have q2 := m8.2 2 _ rfl
    have q3 := m8.2 3 _ rfl
    have q4 := m8.2 4 _ rfl
    have q5 := m8.2 5 _ rfl
    have q6 := m8.2 6 _ rfl
    have x0 := e8.2 0 _ rfl
    have x1 := e8.2 1 _ rfl
    have x2 := e8.2 2 _ rfl
    have x3 := e8.2 3 _ rfl
    have x4 := e8.2 4 _ rfl
    have x5 := e8.2 5 _ rfl
    have x6 := e8.2 6 _ rfl
    have xf := e8.1.2
    go_wp2
    refine bodyPost_ret (v := .agg #[.int .i64 i2, .int .i64 st, .int .i64 wv, .int .i64 tk, .int .i64 er, .int .i64 by1, .int .i64 0]) (by simp [results, Try.results173, go_sem, x0, x1, x2, x3, x4, x5, x6]) rfl ⟨⟨i2, st, wv, tk, er, by1, 0⟩, rfl, ?_, ?_, ?_⟩
    · unfold BdK; simp only; omega
    · exact (curSet (curSet (curSet (curSet (curSet (curSet (curSet (c8) (by simp; omega) _) (by simp; omega) _) (by simp; omega) _) (by simp; omega) _) (by simp; omega) _) (by simp; omega) _) (by simp; omega) _).mono (by omega)
    · exact setP (setP (setP (setP (setP (setP (setP (H8) (by simp) _) (by simp) _) (by simp) _) (by simp) _) (by simp) _) (by simp) _) (by simp) _
  · have y8 := hc7.lt
    have qh := n7.2 0 _ rfl
    go_wp2_with fail
    refine (cur_among _ B b _ (hc7.alloc _) (by omega) _ _ (ints_lit w7 b y8 3 2 [0, 100]) (by simp) (by simp)).mono ?_
    rintro e w8 ⟨s2, rfl, hx, hc8, hg8⟩
    have hv2 : -2000000 ≤ s2 ∧ s2 ≤ 2000000 := by
      revert s2
      decide
    have n8 := (n7.alloc _).grown hg8 (by simp; omega)
    have d8 := (d7.alloc _).grown hg8 (by simp; omega)
    have G8 := G7.trans ((grown_alloc _ _ _).trans hg8)
    have y9 : w7.heap.size + 1 ≤ w8.heap.size := by have := hg8.size; simpa using this
    have m8 := n8.setAt 1 (by simp) (.int .i64 s2)
    have e8 := d8.setOther (p := ⟨w5.heap.size, 1, none⟩) (by simp; omega) (.int .i64 s2)
    have H8 := setP G8 (p := ⟨w5.heap.size, 1, none⟩) (by simp; omega) (.int .i64 s2)
    have c8 := curSet hc8 (p := ⟨w5.heap.size, 1, none⟩) z5 (.int .i64 s2)
    have p8 := n8.2 1 _ rfl
    have pf := n8.1.2
    clear n7 d7 G7 hc7 hg8 hx qh
    have q0 := m8.2 0 _ rfl
    have q1 := m8.2 1 _ rfl
    have q2 := m8.2 2 _ rfl
    have q3 := m8.2 3 _ rfl
    have q4 := m8.2 4 _ rfl
    have q5 := m8.2 5 _ rfl
    have q6 := m8.2 6 _ rfl
    have x0 := e8.2 0 _ rfl
    have x1 := e8.2 1 _ rfl
    have x2 := e8.2 2 _ rfl
    have x3 := e8.2 3 _ rfl
    have x4 := e8.2 4 _ rfl
    have x5 := e8.2 5 _ rfl
    have x6 := e8.2 6 _ rfl
    have xf := e8.1.2
    go_wp2
    refine bodyPost_ret (v := .agg #[.int .i64 id, .int .i64 s2, .int .i64 wv, .int .i64 tk, .int .i64 er, .int .i64 by1, .int .i64 0]) (by simp [results, Try.results173, go_sem, x0, x1, x2, x3, x4, x5, x6]) rfl ⟨⟨id, s2, wv, tk, er, by1, 0⟩, rfl, ?_, ?_, ?_⟩
    · unfold BdK; simp only; omega
    · exact (curSet (curSet (curSet (curSet (curSet (curSet (curSet (c8) (by simp; omega) _) (by simp; omega) _) (by simp; omega) _) (by simp; omega) _) (by simp; omega) _) (by simp; omega) _) (by simp; omega) _).mono (by omega)
    · exact setP (setP (setP (setP (setP (setP (setP (H8) (by simp) _) (by simp) _) (by simp) _) (by simp) _) (by simp) _) (by simp) _) (by simp) _
  · have y8 := hc7.lt
    have qh := n7.2 0 _ rfl
    go_wp2_with fail
    refine (cur_among _ B b _ (hc7.alloc _) (by omega) _ _ (ints_lit w7 b y8 3 2 [-1, 2]) (by simp) (by simp)).mono ?_
    rintro e w8 ⟨v2, rfl, hx, hc8, hg8⟩
    have hv2 : -2000000 ≤ v2 ∧ v2 ≤ 2000000 := by
      revert v2
      decide
    have n8 := (n7.alloc _).grown hg8 (by simp; omega)
    have d8 := (d7.alloc _).grown hg8 (by simp; omega)
    have G8 := G7.trans ((grown_alloc _ _ _).trans hg8)
    have y9 : w7.heap.size + 1 ≤ w8.heap.size := by have := hg8.size; simpa using this
    have m8 := n8.setAt 2 (by simp) (.int .i64 v2)
    have e8 := d8.setOther (p := ⟨w5.heap.size, 2, none⟩) (by simp; omega) (.int .i64 v2)
    have H8 := setP G8 (p := ⟨w5.heap.size, 2, none⟩) (by simp; omega) (.int .i64 v2)
    have c8 := curSet hc8 (p := ⟨w5.heap.size, 2, none⟩) z5 (.int .i64 v2)
    have p8 := n8.2 2 _ rfl
    have pf := n8.1.2
    clear n7 d7 G7 hc7 hg8 hx qh
    have q0 := m8.2 0 _ rfl
    have q1 := m8.2 1 _ rfl
    have q2 := m8.2 2 _ rfl
    have q3 := m8.2 3 _ rfl
    have q4 := m8.2 4 _ rfl
    have q5 := m8.2 5 _ rfl
    have q6 := m8.2 6 _ rfl
    have x0 := e8.2 0 _ rfl
    have x1 := e8.2 1 _ rfl
    have x2 := e8.2 2 _ rfl
    have x3 := e8.2 3 _ rfl
    have x4 := e8.2 4 _ rfl
    have x5 := e8.2 5 _ rfl
    have x6 := e8.2 6 _ rfl
    have xf := e8.1.2
    go_wp2
    refine bodyPost_ret (v := .agg #[.int .i64 id, .int .i64 st, .int .i64 v2, .int .i64 tk, .int .i64 er, .int .i64 by1, .int .i64 0]) (by simp [results, Try.results173, go_sem, x0, x1, x2, x3, x4, x5, x6]) rfl ⟨⟨id, st, v2, tk, er, by1, 0⟩, rfl, ?_, ?_, ?_⟩
    · unfold BdK; simp only; omega
    · exact (curSet (curSet (curSet (curSet (curSet (curSet (curSet (c8) (by simp; omega) _) (by simp; omega) _) (by simp; omega) _) (by simp; omega) _) (by simp; omega) _) (by simp; omega) _) (by simp; omega) _).mono (by omega)
    · exact setP (setP (setP (setP (setP (setP (setP (H8) (by simp) _) (by simp) _) (by simp) _) (by simp) _) (by simp) _) (by simp) _) (by simp) _
  · have y8 := hc7.lt
    have qh := n7.2 0 _ rfl
    go_wp2_with fail
    refine (cur_among _ B b _ (hc7.alloc _) (by omega) _ _ (ints_lit w7 b y8 3 2 [-1, 1000001]) (by simp) (by simp)).mono ?_
    rintro e w8 ⟨t2, rfl, hx, hc8, hg8⟩
    have hv2 : -2000000 ≤ t2 ∧ t2 ≤ 2000000 := by
      revert t2
      decide
    have n8 := (n7.alloc _).grown hg8 (by simp; omega)
    have d8 := (d7.alloc _).grown hg8 (by simp; omega)
    have G8 := G7.trans ((grown_alloc _ _ _).trans hg8)
    have y9 : w7.heap.size + 1 ≤ w8.heap.size := by have := hg8.size; simpa using this
    have m8 := n8.setAt 3 (by simp) (.int .i64 t2)
    have e8 := d8.setOther (p := ⟨w5.heap.size, 3, none⟩) (by simp; omega) (.int .i64 t2)
    have H8 := setP G8 (p := ⟨w5.heap.size, 3, none⟩) (by simp; omega) (.int .i64 t2)
    have c8 := curSet hc8 (p := ⟨w5.heap.size, 3, none⟩) z5 (.int .i64 t2)
    have p8 := n8.2 3 _ rfl
    have pf := n8.1.2
    clear n7 d7 G7 hc7 hg8 hx qh
    have q0 := m8.2 0 _ rfl
    have q1 := m8.2 1 _ rfl
    have q2 := m8.2 2 _ rfl
    have q3 := m8.2 3 _ rfl
    have q4 := m8.2 4 _ rfl
    have q5 := m8.2 5 _ rfl
    have q6 := m8.2 6 _ rfl
    have x0 := e8.2 0 _ rfl
    have x1 := e8.2 1 _ rfl
    have x2 := e8.2 2 _ rfl
    have x3 := e8.2 3 _ rfl
    have x4 := e8.2 4 _ rfl
    have x5 := e8.2 5 _ rfl
    have x6 := e8.2 6 _ rfl
    have xf := e8.1.2
    go_wp2
    refine bodyPost_ret (v := .agg #[.int .i64 id, .int .i64 st, .int .i64 wv, .int .i64 t2, .int .i64 er, .int .i64 by1, .int .i64 0]) (by simp [results, Try.results173, go_sem, x0, x1, x2, x3, x4, x5, x6]) rfl ⟨⟨id, st, wv, t2, er, by1, 0⟩, rfl, ?_, ?_, ?_⟩
    · unfold BdK; simp only; omega
    · exact (curSet (curSet (curSet (curSet (curSet (curSet (curSet (c8) (by simp; omega) _) (by simp; omega) _) (by simp; omega) _) (by simp; omega) _) (by simp; omega) _) (by simp; omega) _) (by simp; omega) _).mono (by omega)
    · exact setP (setP (setP (setP (setP (setP (setP (H8) (by simp) _) (by simp) _) (by simp) _) (by simp) _) (by simp) _) (by simp) _) (by simp) _
  · have y8 := hc7.lt
    have qh := n7.2 0 _ rfl
    go_wp2_with fail
    refine (cur_among _ B b _ (hc7.alloc _) (by omega) _ _ (ints_lit w7 b y8 3 2 [-1, 1001]) (by simp) (by simp)).mono ?_
    rintro e w8 ⟨e2, rfl, hx, hc8, hg8⟩
    have hv2 : -2000000 ≤ e2 ∧ e2 ≤ 2000000 := by
      revert e2
      decide
    have n8 := (n7.alloc _).grown hg8 (by simp; omega)
    have d8 := (d7.alloc _).grown hg8 (by simp; omega)
    have G8 := G7.trans ((grown_alloc _ _ _).trans hg8)
    have y9 : w7.heap.size + 1 ≤ w8.heap.size := by have := hg8.size; simpa using this
    have m8 := n8.setAt 4 (by simp) (.int .i64 e2)
    have e8 := d8.setOther (p := ⟨w5.heap.size, 4, none⟩) (by simp; omega) (.int .i64 e2)
    have H8 := setP G8 (p := ⟨w5.heap.size, 4, none⟩) (by simp; omega) (.int .i64 e2)
    have c8 := curSet hc8 (p := ⟨w5.heap.size, 4, none⟩) z5 (.int .i64 e2)
    have p8 := n8.2 4 _ rfl
    have pf := n8.1.2
    clear n7 d7 G7 hc7 hg8 hx qh
    have q0 := m8.2 0 _ rfl
    have q1 := m8.2 1 _ rfl
    have q2 := m8.2 2 _ rfl
    have q3 := m8.2 3 _ rfl
    have q4 := m8.2 4 _ rfl
    have q5 := m8.2 5 _ rfl
    have q6 := m8.2 6 _ rfl
    have x0 := e8.2 0 _ rfl
    have x1 := e8.2 1 _ rfl
    have x2 := e8.2 2 _ rfl
    have x3 := e8.2 3 _ rfl
    have x4 := e8.2 4 _ rfl
    have x5 := e8.2 5 _ rfl
    have x6 := e8.2 6 _ rfl
    have xf := e8.1.2
    go_wp2
    refine bodyPost_ret (v := .agg #[.int .i64 id, .int .i64 st, .int .i64 wv, .int .i64 tk, .int .i64 e2, .int .i64 by1, .int .i64 0]) (by simp [results, Try.results173, go_sem, x0, x1, x2, x3, x4, x5, x6]) rfl ⟨⟨id, st, wv, tk, e2, by1, 0⟩, rfl, ?_, ?_, ?_⟩
    · unfold BdK; simp only; omega
    · exact (curSet (curSet (curSet (curSet (curSet (curSet (curSet (c8) (by simp; omega) _) (by simp; omega) _) (by simp; omega) _) (by simp; omega) _) (by simp; omega) _) (by simp; omega) _) (by simp; omega) _).mono (by omega)
    · exact setP (setP (setP (setP (setP (setP (setP (H8) (by simp) _) (by simp) _) (by simp) _) (by simp) _) (by simp) _) (by simp) _) (by simp) _
  · have y8 := hc7.lt
    have qh := n7.2 0 _ rfl
    go_wp2_with fail
    refine (cur_among _ B b _ (hc7.alloc _) (by omega) _ _ (ints_lit w7 b y8 3 2 [-1, 51]) (by simp) (by simp)).mono ?_
    rintro e w8 ⟨b2, rfl, hx, hc8, hg8⟩
    have hv2 : -2000000 ≤ b2 ∧ b2 ≤ 2000000 := by
      revert b2
      decide
    have n8 := (n7.alloc _).grown hg8 (by simp; omega)
    have d8 := (d7.alloc _).grown hg8 (by simp; omega)
    have G8 := G7.trans ((grown_alloc _ _ _).trans hg8)
    have y9 : w7.heap.size + 1 ≤ w8.heap.size := by have := hg8.size; simpa using this
    have m8 := n8.setAt 5 (by simp) (.int .i64 b2)
    have e8 := d8.setOther (p := ⟨w5.heap.size, 5, none⟩) (by simp; omega) (.int .i64 b2)
    have H8 := setP G8 (p := ⟨w5.heap.size, 5, none⟩) (by simp; omega) (.int .i64 b2)
    have c8 := curSet hc8 (p := ⟨w5.heap.size, 5, none⟩) z5 (.int .i64 b2)
    have p8 := n8.2 5 _ rfl
    have pf := n8.1.2
    clear n7 d7 G7 hc7 hg8 hx qh
    have q0 := m8.2 0 _ rfl
    have q1 := m8.2 1 _ rfl
    have q2 := m8.2 2 _ rfl
    have q3 := m8.2 3 _ rfl
    have q4 := m8.2 4 _ rfl
    have q5 := m8.2 5 _ rfl
    have q6 := m8.2 6 _ rfl
    have x0 := e8.2 0 _ rfl
    have x1 := e8.2 1 _ rfl
    have x2 := e8.2 2 _ rfl
    have x3 := e8.2 3 _ rfl
    have x4 := e8.2 4 _ rfl
    have x5 := e8.2 5 _ rfl
    have x6 := e8.2 6 _ rfl
    have xf := e8.1.2
    go_wp2
    refine bodyPost_ret (v := .agg #[.int .i64 id, .int .i64 st, .int .i64 wv, .int .i64 tk, .int .i64 er, .int .i64 b2, .int .i64 0]) (by simp [results, Try.results173, go_sem, x0, x1, x2, x3, x4, x5, x6]) rfl ⟨⟨id, st, wv, tk, er, b2, 0⟩, rfl, ?_, ?_, ?_⟩
    · unfold BdK; simp only; omega
    · exact (curSet (curSet (curSet (curSet (curSet (curSet (curSet (c8) (by simp; omega) _) (by simp; omega) _) (by simp; omega) _) (by simp; omega) _) (by simp; omega) _) (by simp; omega) _) (by simp; omega) _).mono (by omega)
    · exact setP (setP (setP (setP (setP (setP (setP (H8) (by simp) _) (by simp) _) (by simp) _) (by simp) _) (by simp) _) (by simp) _) (by simp) _
  · have y8 := hc7.lt
    have qh := n7.2 0 _ rfl
    go_wp2_with fail
    refine (cur_among _ B b _ (hc7.alloc _) (by omega) _ _ (ints_lit w7 b y8 3 3 [-1, id, id - 1]) (by simp) (by simp)).mono ?_
    rintro e w8 ⟨a2, rfl, hx, hc8, hg8⟩
    have hv2 : -2000000 ≤ a2 ∧ a2 ≤ 2000000 := by
      simp only [List.mem_cons, List.not_mem_nil, or_false] at hx
      omega
    have n8 := (n7.alloc _).grown hg8 (by simp; omega)
    have d8 := (d7.alloc _).grown hg8 (by simp; omega)
    have G8 := G7.trans ((grown_alloc _ _ _).trans hg8)
    have y9 : w7.heap.size + 1 ≤ w8.heap.size := by have := hg8.size; simpa using this
    have m8 := n8.setAt 6 (by simp) (.int .i64 a2)
    have e8 := d8.setOther (p := ⟨w5.heap.size, 6, none⟩) (by simp; omega) (.int .i64 a2)
    have H8 := setP G8 (p := ⟨w5.heap.size, 6, none⟩) (by simp; omega) (.int .i64 a2)
    have c8 := curSet hc8 (p := ⟨w5.heap.size, 6, none⟩) z5 (.int .i64 a2)
    have p8 := n8.2 6 _ rfl
    have pf := n8.1.2
    clear n7 d7 G7 hc7 hg8 hx qh
    have q0 := m8.2 0 _ rfl
    have q1 := m8.2 1 _ rfl
    have q2 := m8.2 2 _ rfl
    have q3 := m8.2 3 _ rfl
    have q4 := m8.2 4 _ rfl
    have q5 := m8.2 5 _ rfl
    have q6 := m8.2 6 _ rfl
    have x0 := e8.2 0 _ rfl
    have x1 := e8.2 1 _ rfl
    have x2 := e8.2 2 _ rfl
    have x3 := e8.2 3 _ rfl
    have x4 := e8.2 4 _ rfl
    have x5 := e8.2 5 _ rfl
    have x6 := e8.2 6 _ rfl
    have xf := e8.1.2
    go_wp2
    refine bodyPost_ret (v := .agg #[.int .i64 id, .int .i64 st, .int .i64 wv, .int .i64 tk, .int .i64 er, .int .i64 by1, .int .i64 a2]) (by simp [results, Try.results173, go_sem, x0, x1, x2, x3, x4, x5, x6]) rfl ⟨⟨id, st, wv, tk, er, by1, a2⟩, rfl, ?_, ?_, ?_⟩
    · unfold BdK; simp only; omega
    · exact (curSet (curSet (curSet (curSet (curSet (curSet (curSet (c8) (by simp; omega) _) (by simp; omega) _) (by simp; omega) _) (by simp; omega) _) (by simp; omega) _) (by simp; omega) _) (by simp; omega) _).mono (by omega)
    · exact setP (setP (setP (setP (setP (setP (setP (H8) (by simp) _) (by simp) _) (by simp) _) (by simp) _) (by simp) _) (by simp) _) (by simp) _
  · have y8 := hc7.lt
    have q0 := n7.2 0 _ rfl
    have q1 := n7.2 1 _ rfl
    have q2 := n7.2 2 _ rfl
    have q3 := n7.2 3 _ rfl
    have q4 := n7.2 4 _ rfl
    have q5 := n7.2 5 _ rfl
    have q6 := n7.2 6 _ rfl
    have x0 := d7.2 0 _ rfl
    have x1 := d7.2 1 _ rfl
    have x2 := d7.2 2 _ rfl
    have x3 := d7.2 3 _ rfl
    have x4 := d7.2 4 _ rfl
    have x5 := d7.2 5 _ rfl
    have x6 := d7.2 6 _ rfl
    have xf := d7.1.2
    go_wp2
    refine bodyPost_ret (v := .agg #[.int .i64 id, .int .i64 st, .int .i64 wv, .int .i64 tk, .int .i64 er, .int .i64 by1, .int .i64 0]) (by simp [results, Try.results173, go_sem, x0, x1, x2, x3, x4, x5, x6]) rfl ⟨⟨id, st, wv, tk, er, by1, 0⟩, rfl, ?_, ?_, ?_⟩
    · unfold BdK; simp only; omega
    · exact (curSet (curSet (curSet (curSet (curSet (curSet (curSet (hc7) (by simp; omega) _) (by simp; omega) _) (by simp; omega) _) (by simp; omega) _) (by simp; omega) _) (by simp; omega) _) (by simp; omega) _).mono (by omega)
    · exact setP (setP (setP (setP (setP (setP (setP (G7) (by simp) _) (by simp) _) (by simp) _) (by simp) _) (by simp) _) (by simp) _) (by simp) _
end Go.Proofs.Ytklilfbokpljkaa
