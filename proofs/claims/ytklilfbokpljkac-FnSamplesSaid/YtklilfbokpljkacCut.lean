/- FnExactCutTrace: for every trace and every two numbers the law answers true; no condition. -/
import Derived.Test.YtklilfbokpljkacHasT
import Derived.Test.YtklilfbokpljkacCln
namespace Go.Proofs.Ytklilfbokpljkac
open Go.ChangeShapes Go.WideShapes Go.ChangeAt Go.RowKit Go.ChangeMaps
set_option linter.unusedSimpArgs false
set_option linter.unusedVariables false

theorem Own.nil {α : Type} {en : α → Value} (w : World) (L B : Nat) : Own en w L B (.slice none 0 0) [] := ⟨none, 0, rfl, by simp, by simp [maxLen], fun _ => rfl, fun i x hi => by simp at hi⟩
def okCut (t : Tr) (a b : Int) : Bool := goodT t && (hasT t a && (hasT t b && decide (a ≤ b)))
def resCut (t : Tr) (a b : Int) : Tr := if okCut t a b then ⟨t.st, a, (t.xs.drop (a - t.start).toNat).take ((b - t.start + 1).toNat - (a - t.start).toNat)⟩ else nilT
theorem resCut_len (t : Tr) (a b : Int) (h : t.xs.length ≤ 1048576) : (resCut t a b).xs.length ≤ 1048576 := by
  unfold resCut
  split
  · simp only [List.length_take, List.length_drop]; omega
  · simp [nilT]

end Go.Proofs.Ytklilfbokpljkac
