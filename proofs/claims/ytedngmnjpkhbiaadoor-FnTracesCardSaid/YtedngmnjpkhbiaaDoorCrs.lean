/- FnExactCrossings: the crossings, both programs. -/
import Derived.Test.YtedngmnjpkhbiaaDoorLrg
import Derived.Test.YtedngmnjpkhbiaaDoorCln
import Derived.Test.YtedngmnjpkhbiaaDoorAcc
namespace Go.Proofs.YtedngmnjpkhbiaaDoor
open Go.ChangeShapes Go.WideShapes Go.ChangeAt Go.RowKit Go.ChangeMaps
set_option linter.unusedSimpArgs false
set_option linter.unusedVariables false

/-- The ticks of the crossings among the first k samples. -/
def cr (xs : List Int) (s : Int) : Nat → List Int
  | 0 => []
  | k + 1 => if 0 < k ∧ (decide (xs.getD (k - 1) 0 < 0) != decide (xs.getD k 0 < 0)) = true then cr xs s k ++ [s + k] else cr xs s k
theorem cr_len (xs : List Int) (s : Int) : ∀ k, (cr xs s k).length ≤ k := by
  intro k
  induction k with
  | zero => simp [cr]
  | succ k ih => simp only [cr]; split <;> (try simp only [List.length_append, List.length_singleton]) <;> omega
def resC (t : Tr) : List Int := if goodT t then cr t.xs t.start t.xs.length else []
theorem resC_len (t : Tr) (h : t.xs.length ≤ 1048576) : (resC t).length ≤ 1048576 := by
  unfold resC
  have := cr_len t.xs t.start t.xs.length
  split
  · omega
  · simp
end Go.Proofs.YtedngmnjpkhbiaaDoor
