/- Amplitudes: what the law on magnitudes asks. -/
import Derived.Test.YtdiedfpfhbdamaaDoorAnC
namespace Go.Proofs.YtdiedfpfhbdamaaDoor
open Go.ChangeShapes Go.WideShapes Go.ChangeAt Go.RowKit Go.ChangeMaps
set_option linter.unusedSimpArgs false
set_option linter.unusedVariables false
set_option linter.unusedSimpArgs false
set_option linter.unusedVariables false

/-- The least width has the magnitude, and one less has not. -/
theorem lw_facts {t : List GTableRow} {far m : Int} (h : okLw t far m = true) :
    (1 ≤ numLw t far m ∧ numLw t far m ≤ 1000000) ∧ okMg t ⟨1, far, numLw t far m, 0⟩ = true ∧ m ≤ numMg t ⟨1, far, numLw t far m, 0⟩ ∧
      (okMg t ⟨1, far, numLw t far m - 1, 0⟩ = true → numMg t ⟨1, far, numLw t far m - 1, 0⟩ < m) := by
  rw [numLw_yes h]
  unfold okLw at h
  rw [Bool.and_eq_true, Bool.and_eq_true] at h
  obtain ⟨hk, hm, hq⟩ := h
  obtain ⟨hok, hf, hb⟩ := okBn_yes hk
  have hle := of_decide_eq_true hq
  have hlw := lwV_is (m := m - bonV t far) (by omega)
  generalize lwV (m - bonV t far) = y at *
  have hsw : okSw (⟨1, far, y, 0⟩ : GSwing) := ⟨by simp only; omega, hf, hlw.1, by simp only; omega⟩
  have hone := oneSw_mk hsw
  have hh : hasM t (⟨1, far, y, 0⟩ : GSwing) = true := by unfold hasM; exact decide_eq_true hb
  have e1 : okMg t (⟨1, far, y, 0⟩ : GSwing) = true := by unfold okMg; rw [goodTb_mk hok, hone, hh]; rfl
  refine ⟨hlw.1, e1, ?_, fun g => ?_⟩
  · rw [numMg_yes e1]
    have := hlw.2.1
    unfold magV
    simp only
    omega
  · rw [numMg_yes g]
    unfold okMg at g
    rw [Bool.and_eq_true, Bool.and_eq_true] at g
    have gs := oneSw_yes g.2.1
    have g1 : 1 ≤ y - 1 := gs.2.2.1.1
    have := hlw.2.2 (y - 1) g1 (by omega)
    unfold magV
    simp only
    omega
theorem sz_facts {w : Int} (h : okSz w = true) (h1 : okSz (w + 1) = true) : numSz w ≤ numSz (w + 1) := by
  rw [numSz_yes h, numSz_yes h1]
  have a := inB_iff.1 h
  have b := inB_iff.1 h1
  exact sizeV_mono a.1 (by omega) b.2
theorem bn_facts {t : List GTableRow} {x : Int} (h : okBn t x = true) (h1 : okBn t (x + 1) = true) : numBn t x ≤ numBn t (x + 1) := by
  rw [numBn_yes h, numBn_yes h1]
  obtain ⟨a, -, -⟩ := okBn_yes h
  obtain ⟨-, -, b⟩ := okBn_yes h1
  exact bonV_mono a (by omega) b
end Go.Proofs.YtdiedfpfhbdamaaDoor
