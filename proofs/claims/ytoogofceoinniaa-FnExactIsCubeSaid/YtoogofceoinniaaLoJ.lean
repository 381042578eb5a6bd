/- Location by boxes: whether a cube is valid. -/
import Derived.Test.YtoogofceoinniaaLoA
import Derived.Test.YtoogofceoinniaaLpA
namespace Go.Proofs.Ytoogofceoinniaa
open Go.ChangeShapes Go.WideShapes Go.ChangeAt Go.RowKit Go.ChangeMaps Go.Sort
set_option linter.unusedSimpArgs false
set_option linter.unusedVariables false
set_option linter.unusedSimpArgs false
set_option linter.unusedVariables false

theorem specIsC (b : GCube) (v : Value) (w : World) (B : Nat) (h : CubeVL w B v b) (hB : B ≤ w.heap.size) (_ : sz1Cube b ≤ 1048576) (hw : wfCube b) :
    Calls Try.prog 13 #[v] w fun e w' => e = .returned (.bool (goodCb b)) ∧ Below w.heap.size w w' := by
  obtain rfl := h.form
  clear h
  have N := below_cube (w := w) (Nat.le_refl _) (objCb b)
  have CG := Lib.hid (fun W => specGoodCb b _ W rfl)
  generalize goodCb b = u at *
  go_enter Try.func13, Try.ntmps13
  go_wp2_with fail
  refine (CG.out _).mono ?_
  rintro e w1 ⟨rfl, hb⟩
  go_wp2
  go_ret
  exact ⟨rfl, N.trans (hb.mono N.size)⟩
theorem implIsC (b : GCube) (v : Value) (w : World) (B : Nat) (h : CubeVL w B v b) (hB : B ≤ w.heap.size) (_ : sz1Cube b ≤ 1048576) (hw : wfCube b) :
    Calls Try.prog 15 #[v] w fun e w' => e = .returned (.bool (goodCb b)) ∧ Below w.heap.size w w' := by
  obtain rfl := h.form
  exact implGoodCb b _ w rfl
end Go.Proofs.Ytoogofceoinniaa
