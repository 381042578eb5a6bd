/- The laws' comparison of traces. -/
import Derived.Test.YtedngmnjpkhbiaaDoorVi
import Derived.Test.YtedngmnjpkhbiaaDoorTrc
namespace Go.Proofs.YtedngmnjpkhbiaaDoor
open Go.ChangeShapes Go.WideShapes Go.ChangeAt Go.RowKit Go.ChangeMaps
set_option linter.unusedSimpArgs false
set_option linter.unusedVariables false

set_option maxHeartbeats 400000 in
theorem vTr_same (t : Tr) (v v2 : Value) (w : World) (h : TrL w w.heap.size v t) (h2 : TrL w w.heap.size v2 t) :
    Calls Tryd.prog 10 #[v, v2] w fun e w' => e = .returned (.bool true) ∧ Below w.heap.size w w' := by
  obtain ⟨vs, rfl, hl⟩ := h
  obtain ⟨vs2, rfl, hl2⟩ := h2
  have hb := ((Below.refl w.heap.size w).alloc (Nat.le_refl _) (.cells #[.int .i64 t.st, .int .i64 t.start, vs] 26)).alloc (by simp) (.cells #[.int .i64 t.st, .int .i64 t.start, vs2] 26)
  have C := Lib.hid (vInts_same t.xs vs vs2 _ w.heap.size (hl.below hb) (hl2.below hb) hb.size)
  clear hl hl2
  go_enter Tryd.func10, Tryd.ntmps10
  go_wp2_with fail
  refine C.out.mono ?_
  rintro e w1 ⟨rfl, hb1⟩
  go_wp2
  go_ret
  exact ⟨rfl, hb.trans (hb1.mono hb.size)⟩
end Go.Proofs.YtedngmnjpkhbiaaDoor
