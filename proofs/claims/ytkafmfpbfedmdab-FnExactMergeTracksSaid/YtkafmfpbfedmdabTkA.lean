/- A mark added to a track: the specification. -/
import Derived.Test.YtkafmfpbfedmdabTkP
namespace Go.Proofs.Ytkafmfpbfedmdab
open Go.ChangeShapes Go.WideShapes Go.ChangeAt Go.RowKit Go.ChangeMaps Go.Sort
set_option linter.unusedSimpArgs false
set_option linter.unusedVariables false

noncomputable def okAdd (xs : List GClockMark) (m : GClockMark) : Bool := goodTk xs && goodTk (putTk xs m)
noncomputable def resAdd (xs : List GClockMark) (m : GClockMark) : List GClockMark := if okAdd xs m then putTk xs m else []
theorem okAdd_yes {xs : List GClockMark} {m : GClockMark} (h : goodTk xs = true) (k : goodTk (putTk xs m) = true) : okAdd xs m = true ∧ resAdd xs m = putTk xs m := by
  have e : okAdd xs m = true := by unfold okAdd; rw [h, k]; rfl
  exact ⟨e, by unfold resAdd; rw [e]; rfl⟩
theorem okAdd_no {xs : List GClockMark} {m : GClockMark} (h : goodTk xs = false ∨ goodTk (putTk xs m) = false) : okAdd xs m = false ∧ resAdd xs m = [] := by
  have e : okAdd xs m = false := by unfold okAdd; rcases h with h | h <;> rw [h] <;> simp
  exact ⟨e, by unfold resAdd; rw [e]; rfl⟩
end Go.Proofs.Ytkafmfpbfedmdab
