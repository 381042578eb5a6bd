/- Votes: AreArrivals, by the specification. -/
import Derived.Test.YtoogofceoinniabVoD
import Derived.Test.YtoogofceoinniabVoA
namespace Go.Proofs.Ytoogofceoinniab
open Go.ChangeShapes Go.WideShapes Go.ChangeAt Go.RowKit Go.ChangeMaps Go.Sort
set_option linter.unusedSimpArgs false
set_option linter.unusedVariables false
set_option linter.unusedSimpArgs false
set_option linter.unusedVariables false

theorem specAreA (xs : List GArrival) (v : Value) (w : World) (B : Nat) (h : ArrivalL w B v xs) (hB : B ≤ w.heap.size) (hn : szsArrival xs ≤ 1048576) (hw : ∀ s ∈ xs, wfArrival s) :
    Calls Try.prog 51 #[v] w fun e w' => e = .returned (.bool (goodAr xs)) ∧ Below w.heap.size w w' := by
  have C := Lib.hid (specGoodA xs v _ w B h hB (Nat.le_trans (szsArrival_len xs) hn) rfl)
  obtain ⟨ao, cap, rfl⟩ := h.form
  generalize goodAr xs = u at *
  go_enter Try.func51, Try.ntmps51
  go_wp2_with fail
  refine C.out.mono ?_
  rintro e w1 ⟨rfl, hb⟩
  go_wp2
  go_ret
  exact ⟨rfl, hb⟩
end Go.Proofs.Ytoogofceoinniab
