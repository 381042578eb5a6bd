/- FnExactLargestSample: the largest sample, both programs. -/
import Derived.Test.YtedngmnjpkhbiaaDoorRed
import Derived.Test.YtedngmnjpkhbiaaDoorHasT
import Derived.BigQuiet
namespace Go.Proofs.YtedngmnjpkhbiaaDoor
open Go.ChangeShapes Go.WideShapes Go.ChangeAt Go.RowKit Go.ChangeMaps
set_option linter.unusedSimpArgs false
set_option linter.unusedVariables false

/-- Where the largest of the first k samples is. -/
def bst (xs : List Int) : Nat → Nat
  | 0 => 0
  | k + 1 => if ab (xs.getD (bst xs k) 0) < ab (xs.getD k 0) then k else bst xs k
theorem bst_le (xs : List Int) (k : Nat) : bst xs k ≤ k - 1 := by
  induction k with
  | zero => simp [bst]
  | succ k ih => simp only [bst]; split <;> omega
theorem bst_one (xs : List Int) : bst xs 1 = 0 := by simp [bst]
def okN (t : Tr) : Bool := goodT t && decide (0 < t.xs.length)
def tickL (t : Tr) : Int := if okN t then t.start + bst t.xs t.xs.length else 0
def valL (t : Tr) : Int := if okN t then t.xs.getD (bst t.xs t.xs.length) 0 else 0
theorem okN_no {t : Tr} (h : goodT t = false) : okN t = false := by unfold okN; rw [h]; rfl
theorem okN_nil {t : Tr} (h : ¬ 0 < t.xs.length) : okN t = false := by unfold okN; rw [decide_eq_false h, Bool.and_false]
theorem okN_yes {t : Tr} (h : goodT t = true) (g : 0 < t.xs.length) : okN t = true := by unfold okN; rw [h, decide_eq_true g]; rfl

end Go.Proofs.YtedngmnjpkhbiaaDoor
