/- Votes: the specification's best origin of a grid, and the events. -/
import Derived.Test.YtoogofceoinniaaVoF
namespace Go.Proofs.Ytoogofceoinniaa
open Go.ChangeShapes Go.WideShapes Go.ChangeAt Go.RowKit Go.ChangeMaps Go.Sort
set_option linter.unusedSimpArgs false
set_option linter.unusedVariables false
theorem pickV_up {xs : List GArrival} {x y m t : Int} {b : GOrigin × Int} (hm : (mostV xs x y xs.length).1 = m) (ht : (mostV xs x y xs.length).2 = t) (h : b.2 < m) : pickV xs x y b = (⟨x, y, t⟩, m) := by
  unfold pickV
  rw [hm, ht, if_pos h]
theorem pickV_no {xs : List GArrival} {x y m : Int} {b : GOrigin × Int} (hm : (mostV xs x y xs.length).1 = m) (h : ¬ b.2 < m) : pickV xs x y b = b := by
  unfold pickV
  rw [hm, if_neg h]
theorem step_next {i : Nat} {X step : Int} (h : X = (i : Int) * step) : X + step = ((i + 1 : Nat) : Int) * step := by rw [h, Int.natCast_add, Int.add_mul]; simp
theorem cnt_in {step : Int} (hs : 50 ≤ step ∧ step ≤ 500) {i : Nat} {X : Int} (h : X = (i : Int) * step) : X ≤ 999 ↔ i < cntV step := by rw [h]; exact cnt_le hs i
end Go.Proofs.Ytoogofceoinniaa
