/- What the law on votes asks of the numbers. -/
import Derived.Test.YtoogofceoinniabVeQ
namespace Go.Proofs.Ytoogofceoinniab
open Go.ChangeShapes Go.WideShapes Go.ChangeAt Go.RowKit Go.ChangeMaps
set_option linter.unusedSimpArgs false
set_option linter.unusedVariables false
set_option linter.unusedSimpArgs false
set_option linter.unusedVariables false

theorem ask_tt {a : GArrival} {o : GOrigin} (ha : okAr a) (ho : okOr o) : askTt a o.pX o.pY = true := by
  unfold askTt
  rw [oneAr_mk ha, plcB_iff.2 ho.1]
  rfl
theorem ask_mv {xs : List GArrival} {o : GOrigin} (h : okArs xs) (ho : okOr o) : askMv xs o.pX o.pY = true := by
  unfold askMv
  rw [goodAr_mk h, plcB_iff.2 ho.1]
  rfl
/-- Who votes for an origin that is told, how many at most, and who is left. -/
theorem vot_facts {xs : List GArrival} {o : GOrigin} (h : okVo xs o = true) :
    wfOrigin o ∧ xs.length ≤ 8 ∧ (∀ a ∈ xs, wfArrival a ∧ (a.pId ∈ resVo xs o ↔ okTt a o.pX o.pY = true ∧ loTt a o.pX o.pY ≤ o.pTick ∧ o.pTick ≤ hiTt a o.pX o.pY)) ∧
      (0 ≤ numVo xs o ∧ numVo xs o ≤ 8) ∧ (okMv xs o.pX o.pY = true → numVo xs o ≤ numMv xs o.pX o.pY) ∧ (okMv xs o.pX o.pY = false → numVo xs o = 0) ∧ ((resWo xs o).length : Int) + numVo xs o = (xs.length : Int) := by
  obtain ⟨h1, h2⟩ := okVo_yes h
  have hs := goodAr_yes h1
  have ho := goodOr_yes h2
  have hn := numVo_yes h
  have hl := votV_len xs o
  have hm := ask_mv hs ho
  have hv := vot_most hs ho
  have hr := rest_vot xs o
  have h8 := hs.2
  have em : numMv xs o.pX o.pY = (mostV xs o.pX o.pY xs.length).1 := by unfold numMv; rw [if_pos hm]
  have ek : okMv xs o.pX o.pY = decide (0 < (mostV xs o.pX o.pY xs.length).1) := by unfold okMv; rw [hm]; rfl
  refine ⟨okOr_wf ho, h8, fun a ha => ⟨okAr_wf (okArs_mem hs ha), ?_⟩, by rw [hn]; omega, fun _ => by rw [hn, em]; exact hv, fun hk => ?_, by rw [resWo_yes h, hn]; omega⟩
  · have hoa := okArs_mem hs ha
    rw [resVo_yes h, has_fit hs ha, fit_ticks hoa ho]
    have hq := ask_tt hoa ho
    have e : okTt a o.pX o.pY = decide (loT a o.pX o.pY ≤ hiT a o.pX o.pY) := by unfold okTt; rw [hq]; rfl
    constructor
    · intro g
      have g := of_decide_eq_true g
      have e1 : okTt a o.pX o.pY = true := by rw [e]; exact decide_eq_true (by omega)
      refine ⟨e1, ?_⟩
      unfold loTt hiTt
      rw [if_pos e1, if_pos e1]
      exact g
    · rintro ⟨e1, g⟩
      unfold loTt hiTt at g
      rw [if_pos e1, if_pos e1] at g
      exact decide_eq_true g
  · rw [ek] at hk
    have := of_decide_eq_false hk
    omega
end Go.Proofs.Ytoogofceoinniab
