/- Tracks: the program's division and its line; TrueTick. -/
import Derived.Test.YtkafmfpbfedmdabTkI
import Derived.Test.YtkafmfpbfedmdabGrew
import Derived.Test.YtkafmfpbfedmdabQTail
import Derived.Deep.RegionHeld3
import Derived.Deep.CutBlock
import Derived.Deep.CutRange
namespace Go.Proofs.Ytkafmfpbfedmdab
open Go.ChangeShapes Go.WideShapes Go.ChangeAt Go.RowKit Go.ChangeMaps
set_option linter.unusedSimpArgs false
set_option linter.unusedVariables false
set_option linter.unusedSimpArgs false
set_option linter.unusedVariables false

theorem div_down2 {a b : Int} (hb : 0 < b) : (if a.tmod b < 0 then a.tdiv b - 1 else a.tdiv b) = a / b := by
  rw [← div_down hb]
  have h1 : a.tmod b < 0 ↔ (a < 0 ∧ a.tmod b ≠ 0) := by
    constructor
    · intro h
      refine ⟨?_, by omega⟩
      by_cases h0 : a < 0
      · exact h0
      · have := Int.tmod_nonneg b (show 0 ≤ a by omega); omega
    · rintro ⟨h0, h⟩
      have : 0 ≤ (-a).tmod b := Int.tmod_nonneg b (by omega)
      rw [Int.neg_tmod] at this
      omega
  by_cases h : a.tmod b < 0
  · rw [if_pos h, if_pos (h1.1 h)]
  · rw [if_neg h, if_neg (fun q => h (h1.2 q))]
theorem tdiv_bd {a b : Int} (hb : 0 < b) (h0 : -4000000000000 ≤ a) (h1 : a ≤ 4000000000000) : -4000000000000 ≤ a.tdiv b ∧ a.tdiv b ≤ 4000000000000 := by
  have h := Int.natAbs_tdiv_le_natAbs a b
  omega
theorem lineL_go {xs : List GClockMark} {f : Nat} {x : Int} {b : GClockMark} (hp : xs.Pairwise befTk) (hl : f + 2 < xs.length) (hb : xs[f + 1]? = some b) (h : b.pShown ≤ x) : lineL (xs.drop f) x = lineL (xs.drop (f + 1)) x := by
  by_cases hx : b.pShown < x
  · exact lineL_drop (k := f + 1) (by omega) (by omega) hb hx
  · obtain rfl : b.pShown = x := by omega
    have p1 : (xs.drop f).Pairwise befTk := hp.sublist (List.drop_sublist _ _)
    have p2 : (xs.drop (f + 1)).Pairwise befTk := hp.sublist (List.drop_sublist _ _)
    have e3 : (xs.drop (f + 1))[0]? = some b := by rw [List.getElem?_drop]; exact hb
    have e4 : (xs.drop f)[1]? = some b := by rw [List.getElem?_drop]; exact hb
    rw [lineL_mark _ p1 (by simp; omega) b (List.mem_of_getElem? e4), lineL_mark _ p2 (by simp; omega) b (List.mem_of_getElem? e3)]
end Go.Proofs.Ytkafmfpbfedmdab
