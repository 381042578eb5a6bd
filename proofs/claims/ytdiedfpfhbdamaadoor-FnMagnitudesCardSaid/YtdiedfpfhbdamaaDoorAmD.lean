/- Amplitudes: what the functions answer. -/
import Derived.Test.YtdiedfpfhbdamaaDoorAmM
import Derived.Test.YtdiedfpfhbdamaaDoorStaW
namespace Go.Proofs.YtdiedfpfhbdamaaDoor
open Go.ChangeShapes Go.WideShapes Go.ChangeAt Go.RowKit Go.ChangeMaps
set_option linter.unusedSimpArgs false
set_option linter.unusedVariables false
set_option linter.unusedSimpArgs false
set_option linter.unusedVariables false

theorem inB_iff {x a b : Int} : inB x a b = true ↔ a ≤ x ∧ x ≤ b := by unfold inB; exact decide_eq_true_iff
def rowB (r : GTableRow) : Bool := inB r.pFar 0 1500 && inB r.pBonus 0 600
theorem rowB_iff (r : GTableRow) : rowB r = true ↔ okRw r := by unfold rowB okRw; rw [Bool.and_eq_true, inB_iff, inB_iff]
theorem oneSw_eq (a : GSwing) : oneSw a = (inB a.pStation 1 99 && (inB a.pFar 0 1500 && (inB a.pWidth 1 1000000 && inB a.pTerm (-50) 50))) := by
  unfold oneSw
  rw [Bool.eq_iff_iff]
  simp only [Bool.and_eq_true, decide_eq_true_eq, inB_iff]
/-- The least width, by name. -/
noncomputable def lwV (m : Int) : Int := if h : m ≤ 600 then Classical.choose (leastW_ex h) else 0
theorem lwV_is {m : Int} (h : m ≤ 600) : leastW m (lwV m) := by unfold lwV; rw [dif_pos h]; exact Classical.choose_spec (leastW_ex h)
noncomputable def okBn (t : List GTableRow) (far : Int) : Bool := goodTb t && (inB far 0 1500 && decide (0 ≤ bonV t far))
noncomputable def numBn (t : List GTableRow) (far : Int) : Int := if okBn t far then bonV t far else 0
theorem numBn_no {t : List GTableRow} {far : Int} (h : okBn t far = false) : numBn t far = 0 := by unfold numBn; rw [if_neg (by simp [h])]
theorem numBn_yes {t : List GTableRow} {far : Int} (h : okBn t far = true) : numBn t far = bonV t far := by unfold numBn; rw [if_pos h]
def okSz (w : Int) : Bool := inB w 1 1000000
def numSz (w : Int) : Int := if okSz w then sizeV w else 0
theorem numSz_no {w : Int} (h : okSz w = false) : numSz w = 0 := by unfold numSz; rw [if_neg (by simp [h])]
theorem numSz_yes {w : Int} (h : okSz w = true) : numSz w = sizeV w := by unfold numSz; rw [if_pos h]
noncomputable def okMg (t : List GTableRow) (s : GSwing) : Bool := goodTb t && (oneSw s && hasM t s)
noncomputable def numMg (t : List GTableRow) (s : GSwing) : Int := if okMg t s then magV t s else 0
theorem numMg_no {t : List GTableRow} {s : GSwing} (h : okMg t s = false) : numMg t s = 0 := by unfold numMg; rw [if_neg (by simp [h])]
theorem numMg_yes {t : List GTableRow} {s : GSwing} (h : okMg t s = true) : numMg t s = magV t s := by unfold numMg; rw [if_pos h]
noncomputable def okMd (t : List GTableRow) (l : List GSwing) : Bool := goodTb t && (goodSw l && decide (0 < (magsV t l).length))
noncomputable def numMd (t : List GTableRow) (l : List GSwing) : Int := if okMd t l then medV t l else 0
theorem numMd_no {t : List GTableRow} {l : List GSwing} (h : okMd t l = false) : numMd t l = 0 := by unfold numMd; rw [if_neg (by simp [h])]
theorem numMd_yes {t : List GTableRow} {l : List GSwing} (h : okMd t l = true) : numMd t l = medV t l := by unfold numMd; rw [if_pos h]
noncomputable def resMd (t : List GTableRow) (l : List GSwing) : List Int := if okMd t l then resV t l else []
theorem resMd_no {t : List GTableRow} {l : List GSwing} (h : okMd t l = false) : resMd t l = [] := by unfold resMd; rw [if_neg (by simp [h])]
theorem resMd_yes {t : List GTableRow} {l : List GSwing} (h : okMd t l = true) : resMd t l = resV t l := by unfold resMd; rw [if_pos h]
noncomputable def swgMd (t : List GTableRow) (l : List GSwing) : List GSwing := if okMd t l then termsV t l else []
theorem swgMd_no {t : List GTableRow} {l : List GSwing} (h : okMd t l = false) : swgMd t l = [] := by unfold swgMd; rw [if_neg (by simp [h])]
theorem swgMd_yes {t : List GTableRow} {l : List GSwing} (h : okMd t l = true) : swgMd t l = termsV t l := by unfold swgMd; rw [if_pos h]
noncomputable def okLw (t : List GTableRow) (far : Int) (m : Int) : Bool := okBn t far && (inB m (-1000) 2000 && decide (m ≤ 600 + bonV t far))
noncomputable def numLw (t : List GTableRow) (far : Int) (m : Int) : Int := if okLw t far m then lwV (m - bonV t far) else 0
theorem numLw_no {t : List GTableRow} {far : Int} {m : Int} (h : okLw t far m = false) : numLw t far m = 0 := by unfold numLw; rw [if_neg (by simp [h])]
theorem numLw_yes {t : List GTableRow} {far : Int} {m : Int} (h : okLw t far m = true) : numLw t far m = lwV (m - bonV t far) := by unfold numLw; rw [if_pos h]
theorem resMd_len (t : List GTableRow) (l : List GSwing) (h : szsSwing l ≤ 1048576) : (resMd t l).length ≤ 1048576 := by
  have a := magsV_len t l
  have b := szsSwing_len l
  cases e : okMd t l with
  | false => rw [resMd_no e]; exact Nat.zero_le _
  | true => rw [resMd_yes e]; unfold resV; rw [List.length_map]; omega
theorem swgMd_len (t : List GTableRow) (l : List GSwing) (h : szsSwing l ≤ 1048576) : szsSwing (swgMd t l) ≤ 1048576 := by
  have b := szsSwing_split l
  rw [szsSwing_split]
  cases e : okMd t l with
  | false => rw [swgMd_no e]; exact Nat.zero_le _
  | true => rw [swgMd_yes e]; unfold termsV; rw [List.length_map]; omega
end Go.Proofs.YtdiedfpfhbdamaaDoor
