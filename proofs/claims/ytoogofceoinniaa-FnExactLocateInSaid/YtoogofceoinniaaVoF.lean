/- Votes: the specification's most votes at a place. -/
import Derived.Test.YtoogofceoinniaaVoG
namespace Go.Proofs.Ytoogofceoinniaa
open Go.ChangeShapes Go.WideShapes Go.ChangeAt Go.RowKit Go.ChangeMaps Go.Sort
set_option linter.unusedSimpArgs false
set_option linter.unusedVariables false
set_option linter.unusedSimpArgs false
set_option linter.unusedVariables false

theorem stepV_gap {xs : List GArrival} {x y : Int} {b : Int × Int} {a : GArrival} (h : ¬ loT a x y ≤ hiT a x y) : stepV xs x y b a = b := by unfold stepV; rw [if_neg h]
theorem stepV_up {xs : List GArrival} {x y : Int} {b : Int × Int} {a : GArrival} {n l : Int} (h : loT a x y ≤ hiT a x y) (hl : loT a x y = l) (hn : ((votV xs ⟨x, y, l⟩).length : Int) = n) (hb : b.1 < n ∨ n = b.1 ∧ l < b.2) : stepV xs x y b a = (n, l) := by
  unfold stepV
  rw [if_pos h, hl, hn, if_pos hb]
theorem stepV_no {xs : List GArrival} {x y : Int} {b : Int × Int} {a : GArrival} {n l : Int} (h : loT a x y ≤ hiT a x y) (hl : loT a x y = l) (hn : ((votV xs ⟨x, y, l⟩).length : Int) = n) (hb : ¬ (b.1 < n ∨ n = b.1 ∧ l < b.2)) : stepV xs x y b a = b := by
  unfold stepV
  rw [if_pos h, hl, hn, if_neg hb]
end Go.Proofs.Ytoogofceoinniaa
