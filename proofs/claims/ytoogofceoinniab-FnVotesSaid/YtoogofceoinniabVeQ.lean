/- What the law on the events that are found asks of the numbers. -/
import Derived.Test.YtoogofceoinniabVoD
import Derived.Test.YtoogofceoinniabBase
namespace Go.Proofs.Ytoogofceoinniab
open Go.ChangeShapes Go.WideShapes Go.ChangeAt Go.RowKit Go.ChangeMaps
set_option linter.unusedSimpArgs false
set_option linter.unusedVariables false
set_option linter.unusedSimpArgs false
set_option linter.unusedVariables false

theorem okAr_wf {a : GArrival} (h : okAr a) : wfArrival a := by unfold okAr at h; unfold wfArrival I64; omega
theorem okOr_wf {o : GOrigin} (h : okOr o) : wfOrigin o := by unfold okOr at h; unfold wfOrigin I64; omega
theorem ask_bg {xs : List GArrival} {step : Int} (h : okArs xs) (hs : 50 ≤ step ∧ step ≤ 500) : askBg xs step = true := by
  unfold askBg inB
  rw [goodAr_mk h, decide_eq_true hs]
  rfl
theorem ok_vo {xs : List GArrival} {o : GOrigin} (h : okArs xs) (ho : okOr o) : okVo xs o = true := by
  unfold okVo
  rw [goodAr_mk h, goodOr_mk ho]
  rfl
/-- The best origin of a grid: its votes are those that it is told to have. -/
theorem best_facts {xs : List GArrival} {step : Int} (h : okBg xs step = true) :
    (1 ≤ numBg xs step ∧ numBg xs step ≤ 8) ∧ wfOrigin (resBg xs step) ∧ okVo xs (resBg xs step) = true ∧ numVo xs (resBg xs step) = numBg xs step := by
  unfold okBg at h
  rw [Bool.and_eq_true] at h
  obtain ⟨ha, hp⟩ := h
  have hp := of_decide_eq_true hp
  obtain ⟨h1, h2⟩ := askBg_yes ha
  obtain ⟨f1, f2, f3⟩ := bestV_fine h1 h2
  have e1 : resBg xs step = (bestV xs step).1 := by unfold resBg; rw [if_pos ha]
  have e2 : numBg xs step = (bestV xs step).2 := by unfold numBg; rw [if_pos ha]
  have e3 := ok_vo h1 f1
  rw [e1, e2]
  refine ⟨by omega, okOr_wf f1, e3, ?_⟩
  rw [numVo_yes e3]
  omega
/-- The events, one after another: each is the best of what the ones before leave. -/
theorem ev_facts {xs : List GArrival} {step least : Int} (h : okEf xs step least = true) :
    ∃ Lf : Nat → List GArrival, Lf 0 = xs ∧ (resEf xs step least).length ≤ 8 ∧ (1 ≤ least ∧ least ≤ 8) ∧ (∀ j, (Lf j).length ≤ 8) ∧ (∀ j, ∀ a ∈ Lf j, wfArrival a) ∧
      (∀ j o, (resEf xs step least)[j]? = some o → okBg (Lf j) step = true ∧ resBg (Lf j) step = o ∧ wfOrigin o ∧ (least ≤ numBg (Lf j) step ∧ numBg (Lf j) step ≤ 8) ∧ okVo (Lf j) o = true ∧ resWo (Lf j) o = Lf (j + 1) ∧ ((Lf (j + 1)).length : Int) + numBg (Lf j) step = ((Lf j).length : Int)) ∧
      (numBg (Lf (resEf xs step least).length) step < least) := by
  obtain ⟨h1, h2, h3⟩ := okEf_yes h
  obtain ⟨k, hk, he⟩ := endV_ex h1 h2 h3.1
  rw [resEf_yes h he]
  have e2 : ∀ j, numBg (leftV xs step j) step = (bestV (leftV xs step j) step).2 := fun j => by unfold numBg; rw [if_pos (ask_bg (leftV_ok h1 step j) h2)]
  refine ⟨leftV xs step, rfl, by rw [evsV_len]; have := h1.2; omega, h3, fun j => (leftV_ok h1 step j).2, fun j a ha => okAr_wf (okArs_mem (leftV_ok h1 step j) ha), fun j o ho => ?_, by rw [evsV_len, e2]; exact he.1⟩
  have hj : j < k := by have := (List.getElem?_eq_some_iff.1 ho).1; rwa [evsV_len] at this
  rw [evsV_get xs step hj] at ho
  obtain rfl := Option.some.inj ho
  have hle := he.2 j hj
  have hok := leftV_ok h1 step j
  have ha := ask_bg hok h2
  obtain ⟨f1, f2, f3⟩ := bestV_fine hok h2
  have hv := ok_vo hok f1
  have hl := left_less h1 h2 h3.1 hle
  refine ⟨by unfold okBg; rw [ha, decide_eq_true (by omega)]; rfl, by unfold resBg; rw [if_pos ha], okOr_wf f1, by rw [e2]; omega, hv, by rw [resWo_yes hv]; rfl, by rw [e2]; exact hl⟩
end Go.Proofs.Ytoogofceoinniab
