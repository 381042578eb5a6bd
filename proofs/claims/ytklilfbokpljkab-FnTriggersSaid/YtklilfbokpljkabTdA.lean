/- The specification's draws of a setting. -/
import Derived.Test.YtklilfbokpljkabCurG
import Derived.Test.YtklilfbokpljkabFSetting
namespace Go.Proofs.Ytklilfbokpljkab
open Go.ChangeShapes Go.WideShapes Go.ChangeAt Go.RowKit Go.ChangeMaps
set_option linter.unusedSimpArgs false
set_option linter.unusedVariables false

/-- A setting as a draw gives it. -/
def BdS (s : GSetting) : Prop := (0 ≤ s.pShort ∧ s.pShort ≤ 6) ∧ (1 ≤ s.pLong ∧ s.pLong ≤ 21) ∧ (9 ≤ s.pOn ∧ s.pOn ≤ 1001) ∧ (9 ≤ s.pOff ∧ s.pOff ≤ 40)
theorem BdS.wf {s : GSetting} (h : BdS s) : wfSetting s := by unfold BdS at h; unfold wfSetting I64; omega
set_option maxRecDepth 100000 in
set_option maxHeartbeats 4000000 in
theorem cur_setting (w : World) (B b k : Nat) (h : Cur w B b k) (hk : k ≤ 700000) :
    Calls Try.prog 87 #[.pointer (some ⟨b, 0, none⟩)] w fun e w' => ∃ s : GSetting, e = .returned (.agg #[.int .i64 s.pShort, .int .i64 s.pLong, .int .i64 s.pOn, .int .i64 s.pOff]) ∧ BdS s ∧ Cur w' B b (k + 20) ∧ w.grownBy w' (some b) := by
  have hbw := h.lt
  go_enter Try.func87, Try.ntmps87
  have d0 := Bx.new w [.int .i64 0, .int .i64 0, .int .i64 0, .int .i64 0] 28
  have G0 := grown_alloc w (.cells #[.int .i64 0, .int .i64 0, .int .i64 0, .int .i64 0] 28) (some b)
  have hc0 := h.alloc (.cells #[.int .i64 0, .int .i64 0, .int .i64 0, .int .i64 0] 28)
  go_wp2_with fail
  refine (cur_among _ B b _ (hc0.alloc _) (by omega) _ _ (by simpa using ints_lit (w.alloc (.cells #[.int .i64 0, .int .i64 0, .int .i64 0, .int .i64 0] 28)) b (by simp; omega) 3 4 [1, 1, 2, 3]) (by simp) (by simp)).mono ?_
  rintro e w1 ⟨sh, rfl, hx, hc1, hg1⟩
  have hsh2 : 0 ≤ sh ∧ sh ≤ 6 := by
    revert sh
    decide
  have d1 := (d0.alloc _).grown hg1 (by simp; omega)
  have G1 := G0.trans ((grown_alloc _ _ _).trans hg1)
  clear hx
  have z1 := hc1.lt
  have y1 : w.heap.size + 1 ≤ w1.heap.size := by have q := hg1.size; (try simp only [World.size_alloc] at q); omega
  clear hg1 hc0 d0 G0
  go_wp2_with fail
  refine (cur_among _ B b _ (hc1.alloc _) (by omega) _ _ (ints_lit w1 b z1 3 4 [4, 5, 6, 10]) (by simp) (by simp)).mono ?_
  rintro e w2 ⟨lo, rfl, hx, hc2, hg2⟩
  have hlo2 : 1 ≤ lo ∧ lo ≤ 21 := by
    revert lo
    decide
  have d2 := (d1.alloc _).grown hg2 (by simp; omega)
  have G2 := G1.trans ((grown_alloc _ _ _).trans hg2)
  clear hx
  have z2 := hc2.lt
  have y2 : w.heap.size + 1 ≤ w2.heap.size := by have q := hg2.size; (try simp only [World.size_alloc] at q); omega
  clear hg2 hc1 d1 G1
  go_wp2_with fail
  refine (cur_among _ B b _ (hc2.alloc _) (by omega) _ _ (ints_lit w2 b z2 3 5 [10, 12, 15, 20, 30]) (by simp) (by simp)).mono ?_
  rintro e w3 ⟨on, rfl, hx, hc3, hg3⟩
  have hon2 : 9 ≤ on ∧ on ≤ 1001 := by
    revert on
    decide
  have d3 := (d2.alloc _).grown hg3 (by simp; omega)
  have G3 := G2.trans ((grown_alloc _ _ _).trans hg3)
  clear hx
  have z3 := hc3.lt
  have y3 : w.heap.size + 1 ≤ w3.heap.size := by have q := hg3.size; (try simp only [World.size_alloc] at q); omega
  clear hg3 hc2 d2 G2
  go_wp2_with fail
  refine (cur_among _ B b _ (hc3.alloc _) (by omega) _ _ (ints_lit w3 b z3 3 4 [10, 10, 11, 12]) (by simp) (by simp)).mono ?_
  rintro e w4 ⟨of1, rfl, hx, hc4, hg4⟩
  have hof12 : 9 ≤ of1 ∧ of1 ≤ 40 := by
    revert of1
    decide
  have d4 := (d3.alloc _).grown hg4 (by simp; omega)
  have G4 := G3.trans ((grown_alloc _ _ _).trans hg4)
  clear hx
  have z4 := hc4.lt
  have y4 : w.heap.size + 1 ≤ w4.heap.size := by have q := hg4.size; (try simp only [World.size_alloc] at q); omega
  clear hg4 hc3 d3 G3
  have n5 := Bx.new w4 [.int .i64 sh, .int .i64 lo, .int .i64 on, .int .i64 of1] 28
  have d5a := d4.alloc (.cells #[.int .i64 sh, .int .i64 lo, .int .i64 on, .int .i64 of1] 28)
  have G5a := G4.trans (grown_alloc w4 (.cells #[.int .i64 sh, .int .i64 lo, .int .i64 on, .int .i64 of1] 28) (some b))
  have hc5a := hc4.alloc (.cells #[.int .i64 sh, .int .i64 lo, .int .i64 on, .int .i64 of1] 28)
  go_wp2_with fail
  refine (cur_pick _ B b _ 32 hc5a (by omega) (by omega) (by omega)).mono ?_
  rintro e w7 ⟨c, rfl, hcc0, hcc1, hc7, hg7⟩
  have n7 : Bx w7 w4.heap.size [.int .i64 sh, .int .i64 lo, .int .i64 on, .int .i64 of1] := n5.grown hg7 (by simp; omega)
  have d7 := d5a.grown hg7 (by simp; omega)
  have G7 := G5a.trans hg7
  have y7 : w4.heap.size + 1 ≤ w7.heap.size := by have := hg7.size; simpa using this
  clear n5 hg7 d4 d5a G4 G5a hc4 hc5a
  have ne1 : ¬ w.heap.size = w4.heap.size := by omega
  have ne2 : ¬ w4.heap.size = w.heap.size := by omega
  have hcc : c = 0 ∨ c = 1 ∨ c = 2 ∨ c = 3 ∨ 3 < c := by omega
  clear hcc0 hcc1
  rcases hcc with rfl | rfl | rfl | rfl | hcd
  · have y8 := hc7.lt
    go_wp2_with fail
    refine (cur_among _ B b _ (hc7.alloc _) (by omega) _ _ (ints_lit w7 b y8 3 3 [0, 5, 6]) (by simp) (by simp)).mono ?_
    rintro e w8 ⟨s2, rfl, hx, hc8, hg8⟩
    have hv2 : 0 ≤ s2 ∧ s2 ≤ 6 := by
      revert s2
      decide
    have n8 := (n7.alloc _).grown hg8 (by simp; omega)
    have d8 := (d7.alloc _).grown hg8 (by simp; omega)
    have G8 := G7.trans ((grown_alloc _ _ _).trans hg8)
    have y9 : w7.heap.size + 1 ≤ w8.heap.size := by have := hg8.size; simpa using this
    have m8 := n8.setAt 0 (by simp) (.int .i64 s2)
    have e8 := d8.setOther (p := ⟨w4.heap.size, 0, none⟩) (by simp; omega) (.int .i64 s2)
    have H8 := setP G8 (p := ⟨w4.heap.size, 0, none⟩) (by simp; omega) (.int .i64 s2)
    have c8 := curSet hc8 (p := ⟨w4.heap.size, 0, none⟩) z4 (.int .i64 s2)
    have p8 := n8.2 0 _ rfl
    have pf := n8.1.2
    clear n7 d7 G7 hc7 hg8 hx
    have q0 := m8.2 0 _ rfl
    have q1 := m8.2 1 _ rfl
    have q2 := m8.2 2 _ rfl
    have q3 := m8.2 3 _ rfl
    have x0 := e8.2 0 _ rfl
    have x1 := e8.2 1 _ rfl
    have x2 := e8.2 2 _ rfl
    have x3 := e8.2 3 _ rfl
    have xf := e8.1.2
    go_wp2
    refine bodyPost_ret (v := .agg #[.int .i64 s2, .int .i64 lo, .int .i64 on, .int .i64 of1]) (by simp [results, Try.results87, go_sem, x0, x1, x2, x3]) rfl ⟨⟨s2, lo, on, of1⟩, rfl, ?_, ?_, ?_⟩
    · unfold BdS; simp only; omega
    · exact (curSet (curSet (curSet (curSet (c8) (by simp; omega) _) (by simp; omega) _) (by simp; omega) _) (by simp; omega) _).mono (by omega)
    · exact setP (setP (setP (setP (H8) (by simp) _) (by simp) _) (by simp) _) (by simp) _
  · have y8 := hc7.lt
    go_wp2_with fail
    refine (cur_among _ B b _ (hc7.alloc _) (by omega) _ _ (ints_lit w7 b y8 3 3 [1, 20, 21]) (by simp) (by simp)).mono ?_
    rintro e w8 ⟨l2, rfl, hx, hc8, hg8⟩
    have hv2 : 1 ≤ l2 ∧ l2 ≤ 21 := by
      revert l2
      decide
    have n8 := (n7.alloc _).grown hg8 (by simp; omega)
    have d8 := (d7.alloc _).grown hg8 (by simp; omega)
    have G8 := G7.trans ((grown_alloc _ _ _).trans hg8)
    have y9 : w7.heap.size + 1 ≤ w8.heap.size := by have := hg8.size; simpa using this
    have m8 := n8.setAt 1 (by simp) (.int .i64 l2)
    have e8 := d8.setOther (p := ⟨w4.heap.size, 1, none⟩) (by simp; omega) (.int .i64 l2)
    have H8 := setP G8 (p := ⟨w4.heap.size, 1, none⟩) (by simp; omega) (.int .i64 l2)
    have c8 := curSet hc8 (p := ⟨w4.heap.size, 1, none⟩) z4 (.int .i64 l2)
    have p8 := n8.2 1 _ rfl
    have pf := n8.1.2
    clear n7 d7 G7 hc7 hg8 hx
    have q0 := m8.2 0 _ rfl
    have q1 := m8.2 1 _ rfl
    have q2 := m8.2 2 _ rfl
    have q3 := m8.2 3 _ rfl
    have x0 := e8.2 0 _ rfl
    have x1 := e8.2 1 _ rfl
    have x2 := e8.2 2 _ rfl
    have x3 := e8.2 3 _ rfl
    have xf := e8.1.2
    go_wp2
    refine bodyPost_ret (v := .agg #[.int .i64 sh, .int .i64 l2, .int .i64 on, .int .i64 of1]) (by simp [results, Try.results87, go_sem, x0, x1, x2, x3]) rfl ⟨⟨sh, l2, on, of1⟩, rfl, ?_, ?_, ?_⟩
    · unfold BdS; simp only; omega
    · exact (curSet (curSet (curSet (curSet (c8) (by simp; omega) _) (by simp; omega) _) (by simp; omega) _) (by simp; omega) _).mono (by omega)
    · exact setP (setP (setP (setP (H8) (by simp) _) (by simp) _) (by simp) _) (by simp) _
  · have y8 := hc7.lt
    go_wp2_with fail
    refine (cur_among _ B b _ (hc7.alloc _) (by omega) _ _ (ints_lit w7 b y8 3 3 [9, 1000, 1001]) (by simp) (by simp)).mono ?_
    rintro e w8 ⟨o2, rfl, hx, hc8, hg8⟩
    have hv2 : 9 ≤ o2 ∧ o2 ≤ 1001 := by
      revert o2
      decide
    have n8 := (n7.alloc _).grown hg8 (by simp; omega)
    have d8 := (d7.alloc _).grown hg8 (by simp; omega)
    have G8 := G7.trans ((grown_alloc _ _ _).trans hg8)
    have y9 : w7.heap.size + 1 ≤ w8.heap.size := by have := hg8.size; simpa using this
    have m8 := n8.setAt 2 (by simp) (.int .i64 o2)
    have e8 := d8.setOther (p := ⟨w4.heap.size, 2, none⟩) (by simp; omega) (.int .i64 o2)
    have H8 := setP G8 (p := ⟨w4.heap.size, 2, none⟩) (by simp; omega) (.int .i64 o2)
    have c8 := curSet hc8 (p := ⟨w4.heap.size, 2, none⟩) z4 (.int .i64 o2)
    have p8 := n8.2 2 _ rfl
    have pf := n8.1.2
    clear n7 d7 G7 hc7 hg8 hx
    have q0 := m8.2 0 _ rfl
    have q1 := m8.2 1 _ rfl
    have q2 := m8.2 2 _ rfl
    have q3 := m8.2 3 _ rfl
    have x0 := e8.2 0 _ rfl
    have x1 := e8.2 1 _ rfl
    have x2 := e8.2 2 _ rfl
    have x3 := e8.2 3 _ rfl
    have xf := e8.1.2
    go_wp2
    refine bodyPost_ret (v := .agg #[.int .i64 sh, .int .i64 lo, .int .i64 o2, .int .i64 of1]) (by simp [results, Try.results87, go_sem, x0, x1, x2, x3]) rfl ⟨⟨sh, lo, o2, of1⟩, rfl, ?_, ?_, ?_⟩
    · unfold BdS; simp only; omega
    · exact (curSet (curSet (curSet (curSet (c8) (by simp; omega) _) (by simp; omega) _) (by simp; omega) _) (by simp; omega) _).mono (by omega)
    · exact setP (setP (setP (setP (H8) (by simp) _) (by simp) _) (by simp) _) (by simp) _
  · have y8 := hc7.lt
    go_wp2_with fail
    refine (cur_among _ B b _ (hc7.alloc _) (by omega) _ _ (ints_lit w7 b y8 3 2 [9, 40]) (by simp) (by simp)).mono ?_
    rintro e w8 ⟨f2, rfl, hx, hc8, hg8⟩
    have hv2 : 9 ≤ f2 ∧ f2 ≤ 40 := by
      revert f2
      decide
    have n8 := (n7.alloc _).grown hg8 (by simp; omega)
    have d8 := (d7.alloc _).grown hg8 (by simp; omega)
    have G8 := G7.trans ((grown_alloc _ _ _).trans hg8)
    have y9 : w7.heap.size + 1 ≤ w8.heap.size := by have := hg8.size; simpa using this
    have m8 := n8.setAt 3 (by simp) (.int .i64 f2)
    have e8 := d8.setOther (p := ⟨w4.heap.size, 3, none⟩) (by simp; omega) (.int .i64 f2)
    have H8 := setP G8 (p := ⟨w4.heap.size, 3, none⟩) (by simp; omega) (.int .i64 f2)
    have c8 := curSet hc8 (p := ⟨w4.heap.size, 3, none⟩) z4 (.int .i64 f2)
    have p8 := n8.2 3 _ rfl
    have pf := n8.1.2
    clear n7 d7 G7 hc7 hg8 hx
    have q0 := m8.2 0 _ rfl
    have q1 := m8.2 1 _ rfl
    have q2 := m8.2 2 _ rfl
    have q3 := m8.2 3 _ rfl
    have x0 := e8.2 0 _ rfl
    have x1 := e8.2 1 _ rfl
    have x2 := e8.2 2 _ rfl
    have x3 := e8.2 3 _ rfl
    have xf := e8.1.2
    go_wp2
    refine bodyPost_ret (v := .agg #[.int .i64 sh, .int .i64 lo, .int .i64 on, .int .i64 f2]) (by simp [results, Try.results87, go_sem, x0, x1, x2, x3]) rfl ⟨⟨sh, lo, on, f2⟩, rfl, ?_, ?_, ?_⟩
    · unfold BdS; simp only; omega
    · exact (curSet (curSet (curSet (curSet (c8) (by simp; omega) _) (by simp; omega) _) (by simp; omega) _) (by simp; omega) _).mono (by omega)
    · exact setP (setP (setP (setP (H8) (by simp) _) (by simp) _) (by simp) _) (by simp) _
  · have y8 := hc7.lt
    have q0 := n7.2 0 _ rfl
    have q1 := n7.2 1 _ rfl
    have q2 := n7.2 2 _ rfl
    have q3 := n7.2 3 _ rfl
    have x0 := d7.2 0 _ rfl
    have x1 := d7.2 1 _ rfl
    have x2 := d7.2 2 _ rfl
    have x3 := d7.2 3 _ rfl
    have xf := d7.1.2
    go_wp2
    refine bodyPost_ret (v := .agg #[.int .i64 sh, .int .i64 lo, .int .i64 on, .int .i64 of1]) (by simp [results, Try.results87, go_sem, x0, x1, x2, x3]) rfl ⟨⟨sh, lo, on, of1⟩, rfl, ?_, ?_, ?_⟩
    · unfold BdS; simp only; omega
    · exact (curSet (curSet (curSet (curSet (hc7) (by simp; omega) _) (by simp; omega) _) (by simp; omega) _) (by simp; omega) _).mono (by omega)
    · exact setP (setP (setP (setP (G7) (by simp) _) (by simp) _) (by simp) _) (by simp) _
end Go.Proofs.Ytklilfbokpljkab
