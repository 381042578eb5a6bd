/- Packing: numbers and bytes of one difference, both programs. -/
import Derived.Test.YtklilfbokpljkaaGood
import Derived.Test.YtklilfbokpljkaaAcc
import Derived.Test.YtklilfbokpljkaaPkP
namespace Go.Proofs.Ytklilfbokpljkaa
open Go.ChangeShapes Go.WideShapes Go.ChangeAt Go.RowKit Go.ChangeMaps
set_option linter.unusedSimpArgs false
set_option linter.unusedVariables false
theorem ret_intr {a b : Int} (h : a = b) : Ending.returned (.int .i64 a) = .returned (.int .i64 b) := by rw [h]
/-- A literal of integers. -/
theorem row_lit (w : World) (e : TypeId) (xs : List Int) (hn : xs.length ≤ 100) : (w.alloc (.cells (xs.map (Value.int .i64)).toArray e)).ownsRow w.heap.size e 1 (.slice (some ⟨w.heap.size, 0, none⟩) xs.length xs.length) xs.length (xs.map (Value.int .i64)) :=
  ⟨by simp, .inr ⟨w.heap.size, xs.length, _, rfl, Nat.le_refl _, heap_alloc_new w _, Nat.le_refl _, by unfold maxLen; omega, by simp, by simp [List.take_of_length_le]⟩⟩
/-- FoldedOf and PackedWidth. -/
def resFo (d : Int) : Int := if okD d then fold d else 0
def resPw (d : Int) : Int := if okD d then ((byt (fold d)).length : Int) else 0
end Go.Proofs.Ytklilfbokpljkaa
