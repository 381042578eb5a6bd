/- Amplitudes: what the laws on terms and magnitudes ask. -/
import Derived.Test.YtdiedfpfhbdamaaAnF
namespace Go.Proofs.Ytdiedfpfhbdamaa
open Go.ChangeShapes Go.WideShapes Go.ChangeAt Go.RowKit Go.ChangeMaps
set_option linter.unusedSimpArgs false
set_option linter.unusedVariables false
set_option linter.unusedSimpArgs false
set_option linter.unusedVariables false

def cntZ (rs : List Int) (k : Nat) : Nat := ((rs.take k).filter (fun x => decide (x ≤ 0))).length
theorem cntZ_zero (rs : List Int) : cntZ rs 0 = 0 := by simp [cntZ]
theorem cntZ_yes {rs : List Int} {k : Nat} {x : Int} (h : rs[k]? = some x) (e : x ≤ 0) : cntZ rs (k + 1) = cntZ rs k + 1 := by
  unfold cntZ
  rw [take_snoc h, List.filter_append, List.length_append, List.filter_cons_of_pos (by exact decide_eq_true e)]
  rfl
theorem cntZ_no {rs : List Int} {k : Nat} {x : Int} (h : rs[k]? = some x) (e : ¬ x ≤ 0) : cntZ rs (k + 1) = cntZ rs k := by
  unfold cntZ
  rw [take_snoc h, List.filter_append, List.length_append, List.filter_cons_of_neg (by simpa using e)]
  rfl
theorem cntZ_le (rs : List Int) (k : Nat) : cntZ rs k ≤ k := by
  unfold cntZ
  exact Nat.le_trans (List.length_filter_le _ _) (by rw [List.length_take]; exact Nat.min_le_left _ _)
theorem res_facts (t : List GTableRow) (l : List GSwing) : ((resMd t l).length ≤ l.length) ∧ (okMd t l = true → 0 ∈ resMd t l ∧ (resMd t l).length ≤ 2 * cntZ (resMd t l) (resMd t l).length) := by
  constructor
  · cases e : okMd t l with
    | false => rw [resMd_no e]; exact Nat.zero_le _
    | true => rw [resMd_yes e, resV_len]; exact magsV_len t l
  · intro h
    have hp := (okMd_yes h).2.2
    rw [resMd_yes h]
    refine ⟨resV_zero hp, ?_⟩
    unfold cntZ
    rw [List.take_length]
    exact resV_half t l
/-- What one swing and its new term answer. -/
structure NearW (t : List GTableRow) (m : Int) (s u : GSwing) (hm : Bool) (x y : Int) : Prop where
  os : okMg t s = hm
  ou : okMg t u = hm
  ns : numMg t s = x
  nu : numMg t u = y
  bx : -51 ≤ x ∧ x ≤ 1250
  by1 : -51 ≤ y ∧ y ≤ 1250
  near : hm = true → (y - m) * (y - m) ≤ (x - m) * (x - m)
  ws : wfSwing s
  wu : wfSwing u
theorem swg_facts (t : List GTableRow) (l : List GSwing) : (swgMd t l).length ≤ l.length ∧ (okMd t l = true → goodSw (swgMd t l) = true) ∧ (-51 ≤ numMd t l ∧ numMd t l ≤ 1250) ∧
    ∀ (j : Nat) (u : GSwing), (swgMd t l)[j]? = some u → okMd t l = true ∧ ∃ s, l[j]? = some s ∧ ∃ hm x y, NearW t (numMd t l) s u hm x y := by
  cases e : okMd t l with
  | false =>
    rw [swgMd_no e, numMd_no e]
    refine ⟨Nat.zero_le _, fun h => (by cases h), by omega, ?_⟩
    intro j u h
    rw [List.getElem?_nil] at h
    cases h
  | true =>
    obtain ⟨hok, hos, hp⟩ := okMd_yes e
    have hg := goodTb_mk hok
    rw [swgMd_yes e, numMd_yes e]
    refine ⟨by unfold termsV; rw [List.length_map]; exact Nat.le_refl _, fun _ => goodSw_mk (termsV_ok hos), medV_bd hok hos hp, fun j u h => ⟨rfl, ?_⟩⟩
    unfold termsV at h
    rw [List.getElem?_map] at h
    obtain ⟨s, hs, rfl⟩ := Option.map_eq_some_iff.1 h
    have hss := okSws_mem hos (List.mem_of_getElem? hs)
    have hus := termV_ok (t := t) (m := medV t l) hss
    have e1 : okMg t s = hasM t s := by rw [okMg_ok hss, hg, Bool.true_and]
    have e2 : okMg t (termV t (medV t l) s) = hasM t s := by rw [okMg_ok hus, hg, Bool.true_and, termV_has]
    refine ⟨s, hs, hasM t s, numMg t s, numMg t (termV t (medV t l) s), e1, e2, rfl, rfl, ?_, ?_, fun hh => ?_, okSw_wf hss, okSw_wf hus⟩
    · cases q : okMg t s with
      | false => rw [numMg_no q]; omega
      | true => rw [numMg_yes q]; exact magV_bd hok hss
    · cases q : okMg t (termV t (medV t l) s) with
      | false => rw [numMg_no q]; omega
      | true => rw [numMg_yes q]; exact magV_bd hok hus
    · rw [numMg_yes (e1.trans hh), numMg_yes (e2.trans hh)]
      exact termV_near hss hh
end Go.Proofs.Ytdiedfpfhbdamaa
