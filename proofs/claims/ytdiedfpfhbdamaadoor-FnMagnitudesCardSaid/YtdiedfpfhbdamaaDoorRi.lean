/- The laws' helpers on lists of integers, under the names of the second half. -/
import Derived.Test.YtdiedfpfhbdamaaDoorVi
namespace Go.Proofs.YtdiedfpfhbdamaaDoor
open Go.ChangeShapes Go.WideShapes Go.ChangeAt Go.RowKit Go.ChangeMaps
set_option linter.unusedSimpArgs false
set_option linter.unusedVariables false

theorem rBig_yes (n cap : Nat) (ao : Option Addr) (w : World) (h : (65536 : Int) < n) : Calls Tryd.prog 5 #[.slice ao n cap] w fun e w' => e = .returned (.bool true) ∧ w' = w := by
  go_enter Tryd.func5, Tryd.ntmps5
  go_wp2
  go_ret
  exact ⟨rfl, rfl⟩
theorem rBig_no (n cap : Nat) (ao : Option Addr) (w : World) (h : (n : Int) ≤ 65536) : Calls Tryd.prog 5 #[.slice ao n cap] w fun e w' => e = .returned (.bool false) ∧ w' = w := by
  go_enter Tryd.func5, Tryd.ntmps5
  go_wp2
  go_ret
  exact ⟨ret_bool (by simp; omega), rfl⟩
end Go.Proofs.YtdiedfpfhbdamaaDoor
