/- Packing: differences and sums, the specification. -/
import Derived.Test.YtklilfbokpljkaaPkL
import Derived.Lib.QuietBelow
namespace Go.Proofs.Ytklilfbokpljkaa
open Go.ChangeShapes Go.WideShapes Go.ChangeAt Go.RowKit Go.ChangeMaps
set_option linter.unusedSimpArgs false
set_option linter.unusedVariables false

theorem prv_bd {xs : List Int} {M : Int} (h : ∀ x ∈ xs, -M ≤ x ∧ x ≤ M) (hM : 0 ≤ M) (k : Nat) : -M ≤ prv 0 xs k ∧ prv 0 xs k ≤ M := by
  cases k with
  | zero => simp only [prv]; omega
  | succ k =>
    simp only [prv, List.getD]
    cases hx : xs[k]? with
    | none => simp; omega
    | some x => simpa using h x (List.mem_of_getElem? hx)
theorem prv_succ {xs : List Int} {k : Nat} {x : Int} (h : xs[k]? = some x) : prv 0 xs (k + 1) = x := by simp [prv, List.getD, h]

end Go.Proofs.Ytklilfbokpljkaa
