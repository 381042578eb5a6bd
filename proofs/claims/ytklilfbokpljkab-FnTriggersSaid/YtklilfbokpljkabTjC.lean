/- Triggers: loud and quiet places. -/
import Derived.Test.YtklilfbokpljkabTjB
namespace Go.Proofs.Ytklilfbokpljkab
open Go.ChangeShapes Go.WideShapes Go.ChangeAt Go.RowKit Go.ChangeMaps Go.Sort
set_option linter.unusedSimpArgs false
set_option linter.unusedVariables false
set_option linter.unusedSimpArgs false
set_option linter.unusedVariables false

set_option maxRecDepth 100000 in
set_option maxHeartbeats 2000000 in
theorem loudAtT (xs : List Int) (ao : Option Addr) (cap : Nat) (s : GSetting) (p : Nat) (u : Bool) (w : World) (B : Nat) (h : Lst (Value.int .i64) w B (.slice ao xs.length cap) xs) (hB : B ≤ w.heap.size) (hx : okL xs = true) (hs : okS s)
    (h0 : s.pLong ≤ (p : Int) + 1) (hp : p < xs.length) (hu : loudT xs s s.pOn p = u) :
    Calls Try.prog 116 #[aggT ao xs.length cap s, .int .i64 p] w fun e w' => e = .returned (.bool u) ∧ Below w.heap.size w w' := by
  obtain ⟨hx1, hx2⟩ := okL_yes hx
  obtain ⟨-, -, ⟨c1, c2⟩, ⟨d1, d2⟩⟩ := id hs
  have HB := nT_bd hx1 hs h0 hp
  obtain ⟨W0, hW0⟩ : ∃ W0, w.alloc (.cells #[.slice ao xs.length cap, .int .i64 s.pShort, .int .i64 s.pLong, .int .i64 s.pOn, .int .i64 s.pOff] 78) = W0 := ⟨_, rfl⟩
  have N0 : Below w.heap.size w W0 := hW0 ▸ (Below.refl w.heap.size w).alloc (Nat.le_refl _) _
  have bx : Bx W0 w.heap.size (celT ao xs.length cap s) := hW0 ▸ Bx.new w (celT ao xs.length cap s) 78
  have cr : ∀ d os, Calls Try.prog 77 #[aggT ao xs.length cap s, .int .i64 p] (grow (redrawn W0 d) os) fun e w'' => e = .returned (.agg #[.int .i64 (numR (nT xs s p) (dT xs s p)), .int .i64 (denR (nT xs s p) (dT xs s p))]) ∧ ∃ q : Regrown, w'' = grow (redrawn W0 q.d) q.os := fun d os =>
    Calls.regrown_of (ratioT xs ao cap s p _ _ _ B (h.below ((N0.mono hB).trans ((below_regrown W0 d os).mono (Nat.le_trans hB N0.size)))) (Nat.le_trans (Nat.le_trans hB N0.size) (below_regrown W0 d os).size) hx hs h0 hp rfl rfl)
  have rb := red_bdQ (n := nT xs s p) (d := dT xs s p) (N := 10000000) HB.2.1 HB.1.1 HB.1.2
  have hu2 : decide (s.pOn * denR (nT xs s p) (dT xs s p) ≤ 10 * numR (nT xs s p) (dT xs s p)) = u := by
    rw [← hu]
    unfold loudT
    rw [decide_eq_decide]
    exact red_leQ HB.2.1 10 s.pOn
  generalize numR (nT xs s p) (dT xs s p) = n at *
  generalize denR (nT xs s p) (dT xs s p) = d at *
  have cc : ∀ d' os, Calls Try.prog 82 #[.agg #[.int .i64 n, .int .i64 d], .int .i64 s.pOn] (grow (redrawn W0 d') os) fun e w'' => e = .returned (.bool u) ∧ ∃ q : Regrown, w'' = grow (redrawn W0 q.d) q.os := fun d' os =>
    Calls.regrown_of (leastOfT n d s.pOn u _ (by omega) hu2)
  have c0 := cell_regrown (bx.2 0 _ rfl)
  have c1 := cell_regrown (bx.2 1 _ rfl)
  have c2 := cell_regrown (bx.2 2 _ rfl)
  have c3 := cell_regrown (bx.2 3 _ rfl)
  have c4 := cell_regrown (bx.2 4 _ rfl)
  clear h hx hs hu hu2 HB rb
  go_enter Try.func116, Try.ntmps116
  go_wp2
  refine wp_region_quiet_below (by kernel_rfl) (by kernel_rfl) ?_
  repeat (go_big_quiet_step (first | with_reducible exact cr _ _ | with_reducible exact cc _ _))
  refine wpQuiet_nil ?_
  intro _ hw'
  obtain ⟨⟨dq, osq⟩, hw''⟩ := hw'
  subst hw''
  have hb := below_regrown (W0) dq osq
  generalize grow (redrawn (W0) dq) osq = w1 at *
  go_wp2
  go_ret
  exact ⟨rfl, N0.trans (hb.mono N0.size)⟩
set_option maxRecDepth 100000 in
set_option maxHeartbeats 2000000 in
theorem quietAtT (xs : List Int) (ao : Option Addr) (cap : Nat) (s : GSetting) (p : Nat) (u : Bool) (w : World) (B : Nat) (h : Lst (Value.int .i64) w B (.slice ao xs.length cap) xs) (hB : B ≤ w.heap.size) (hx : okL xs = true) (hs : okS s)
    (h0 : s.pLong ≤ (p : Int) + 1) (hp : p < xs.length) (hu : quietT xs s s.pOff p = u) :
    Calls Try.prog 120 #[aggT ao xs.length cap s, .int .i64 p] w fun e w' => e = .returned (.bool u) ∧ Below w.heap.size w w' := by
  obtain ⟨hx1, hx2⟩ := okL_yes hx
  obtain ⟨-, -, ⟨c1, c2⟩, ⟨d1, d2⟩⟩ := id hs
  have HB := nT_bd hx1 hs h0 hp
  obtain ⟨W0, hW0⟩ : ∃ W0, w.alloc (.cells #[.slice ao xs.length cap, .int .i64 s.pShort, .int .i64 s.pLong, .int .i64 s.pOn, .int .i64 s.pOff] 78) = W0 := ⟨_, rfl⟩
  have N0 : Below w.heap.size w W0 := hW0 ▸ (Below.refl w.heap.size w).alloc (Nat.le_refl _) _
  have bx : Bx W0 w.heap.size (celT ao xs.length cap s) := hW0 ▸ Bx.new w (celT ao xs.length cap s) 78
  have cr : ∀ d os, Calls Try.prog 77 #[aggT ao xs.length cap s, .int .i64 p] (grow (redrawn W0 d) os) fun e w'' => e = .returned (.agg #[.int .i64 (numR (nT xs s p) (dT xs s p)), .int .i64 (denR (nT xs s p) (dT xs s p))]) ∧ ∃ q : Regrown, w'' = grow (redrawn W0 q.d) q.os := fun d os =>
    Calls.regrown_of (ratioT xs ao cap s p _ _ _ B (h.below ((N0.mono hB).trans ((below_regrown W0 d os).mono (Nat.le_trans hB N0.size)))) (Nat.le_trans (Nat.le_trans hB N0.size) (below_regrown W0 d os).size) hx hs h0 hp rfl rfl)
  have rb := red_bdQ (n := nT xs s p) (d := dT xs s p) (N := 10000000) HB.2.1 HB.1.1 HB.1.2
  have hu2 : decide (10 * numR (nT xs s p) (dT xs s p) ≤ s.pOff * denR (nT xs s p) (dT xs s p)) = u := by
    rw [← hu]
    unfold quietT
    rw [decide_eq_decide]
    exact red_geQ HB.2.1 10 s.pOff
  generalize numR (nT xs s p) (dT xs s p) = n at *
  generalize denR (nT xs s p) (dT xs s p) = d at *
  have cc : ∀ d' os, Calls Try.prog 136 #[.agg #[.int .i64 n, .int .i64 d], .int .i64 s.pOff] (grow (redrawn W0 d') os) fun e w'' => e = .returned (.bool u) ∧ ∃ q : Regrown, w'' = grow (redrawn W0 q.d) q.os := fun d' os =>
    Calls.regrown_of (mostOfT n d s.pOff u _ (by omega) hu2)
  have c0 := cell_regrown (bx.2 0 _ rfl)
  have c1 := cell_regrown (bx.2 1 _ rfl)
  have c2 := cell_regrown (bx.2 2 _ rfl)
  have c3 := cell_regrown (bx.2 3 _ rfl)
  have c4 := cell_regrown (bx.2 4 _ rfl)
  clear h hx hs hu hu2 HB rb
  go_enter Try.func120, Try.ntmps120
  go_wp2
  refine wp_region_quiet_below (by kernel_rfl) (by kernel_rfl) ?_
  repeat (go_big_quiet_step (first | with_reducible exact cr _ _ | with_reducible exact cc _ _))
  refine wpQuiet_nil ?_
  intro _ hw'
  obtain ⟨⟨dq, osq⟩, hw''⟩ := hw'
  subst hw''
  have hb := below_regrown (W0) dq osq
  generalize grow (redrawn (W0) dq) osq = w1 at *
  go_wp2
  go_ret
  exact ⟨rfl, N0.trans (hb.mono N0.size)⟩
end Go.Proofs.Ytklilfbokpljkab
