/- Votes: what the functions answer. -/
import Derived.Test.YtoogofceoinniabVoM
import Derived.Test.YtoogofceoinniabStaW
namespace Go.Proofs.Ytoogofceoinniab
open Go.ChangeShapes Go.WideShapes Go.ChangeAt Go.RowKit Go.ChangeMaps
set_option linter.unusedSimpArgs false
set_option linter.unusedVariables false
set_option linter.unusedSimpArgs false
set_option linter.unusedVariables false

theorem retI {a b : Int} {c d : Bool} (h1 : a = b) (h2 : c = d) : Ending.returned (.tuple #[.int .i64 a, .bool c]) = .returned (.tuple #[.int .i64 b, .bool d]) := by rw [h1, h2]
theorem retII {a b a' b' : Int} {c d : Bool} (h1 : a = a') (h2 : b = b') (h3 : c = d) : Ending.returned (.tuple #[.int .i64 a, .int .i64 b, .bool c]) = .returned (.tuple #[.int .i64 a', .int .i64 b', .bool d]) := by rw [h1, h2, h3]
theorem retB {a b c d : Bool} (h1 : a = b) (h2 : c = d) : Ending.returned (.tuple #[.bool a, .bool c]) = .returned (.tuple #[.bool b, .bool d]) := by rw [h1, h2]
theorem retOV {o p : GOrigin} {a b : Int} {c d : Bool} (h1 : o = p) (h2 : a = b) (h3 : c = d) : Ending.returned (.tuple #[.agg #[.int .i64 o.pX, .int .i64 o.pY, .int .i64 o.pTick], .int .i64 a, .bool c]) = .returned (.tuple #[.agg #[.int .i64 p.pX, .int .i64 p.pY, .int .i64 p.pTick], .int .i64 b, .bool d]) := by rw [h1, h2, h3]
-- does it fit
def okDf (a : GArrival) (o : GOrigin) : Bool := oneAr a && goodOr o
def resDf (a : GArrival) (o : GOrigin) : Bool := okDf a o && fitV a o
theorem noDf {a : GArrival} {o : GOrigin} (h : okDf a o = false) : Ending.returned (.tuple #[.bool false, .bool false]) = .returned (.tuple #[.bool (resDf a o), .bool (okDf a o)]) := by unfold resDf; rw [h]; rfl
theorem yesDf {a : GArrival} {o : GOrigin} {u : Bool} (h : okDf a o = true) (hu : fitV a o = u) : Ending.returned (.tuple #[.bool u, .bool true]) = .returned (.tuple #[.bool (resDf a o), .bool (okDf a o)]) := by unfold resDf; rw [h, hu]; rfl
-- who votes, and how many
noncomputable def okVo (xs : List GArrival) (o : GOrigin) : Bool := goodAr xs && goodOr o
noncomputable def resVo (xs : List GArrival) (o : GOrigin) : List Int := if okVo xs o then votV xs o else []
noncomputable def numVo (xs : List GArrival) (o : GOrigin) : Int := if okVo xs o then ((votV xs o).length : Int) else 0
theorem resVo_no {xs : List GArrival} {o : GOrigin} (h : okVo xs o = false) : resVo xs o = [] := by unfold resVo; rw [h]; rfl
theorem resVo_yes {xs : List GArrival} {o : GOrigin} (h : okVo xs o = true) : resVo xs o = votV xs o := by unfold resVo; rw [h]; rfl
theorem okVo_yes {xs : List GArrival} {o : GOrigin} (h : okVo xs o = true) : goodAr xs = true ∧ goodOr o = true := by unfold okVo at h; rwa [Bool.and_eq_true] at h
theorem numVo_no {xs : List GArrival} {o : GOrigin} (h : okVo xs o = false) : numVo xs o = 0 := by unfold numVo; rw [h]; rfl
theorem numVo_yes {xs : List GArrival} {o : GOrigin} (h : okVo xs o = true) : numVo xs o = ((votV xs o).length : Int) := by unfold numVo; rw [h]; rfl
theorem numVo_res (xs : List GArrival) (o : GOrigin) : numVo xs o = ((resVo xs o).length : Int) := by
  cases h : okVo xs o with
  | false => rw [numVo_no h, resVo_no h]; rfl
  | true => rw [numVo_yes h, resVo_yes h]
theorem resVo_len (xs : List GArrival) (o : GOrigin) : (resVo xs o).length ≤ 1048576 := by
  cases h : okVo xs o with
  | false => rw [resVo_no h]; simp
  | true =>
    rw [resVo_yes h]
    have := votV_len xs o
    have := (goodAr_yes (okVo_yes h).1).2
    omega
-- the rest
noncomputable def resWo (xs : List GArrival) (o : GOrigin) : List GArrival := if okVo xs o then restV xs o else []
theorem resWo_no {xs : List GArrival} {o : GOrigin} (h : okVo xs o = false) : resWo xs o = [] := by unfold resWo; rw [h]; rfl
theorem resWo_yes {xs : List GArrival} {o : GOrigin} (h : okVo xs o = true) : resWo xs o = restV xs o := by unfold resWo; rw [h]; rfl
theorem resWo_len (xs : List GArrival) (o : GOrigin) : szsArrival (resWo xs o) ≤ 1048576 := by
  rw [szsArrival_split]
  cases h : okVo xs o with
  | false => rw [resWo_no h]; simp
  | true =>
    rw [resWo_yes h]
    have := (restV_sub xs o).length_le
    have := (goodAr_yes (okVo_yes h).1).2
    omega
-- the ticks
def askTt (a : GArrival) (x y : Int) : Bool := oneAr a && plcB x y
def okTt (a : GArrival) (x y : Int) : Bool := askTt a x y && decide (loT a x y ≤ hiT a x y)
def loTt (a : GArrival) (x y : Int) : Int := if okTt a x y then loT a x y else 0
def hiTt (a : GArrival) (x y : Int) : Int := if okTt a x y then hiT a x y else 0
theorem plcB_iff {x y : Int} : plcB x y = true ↔ (0 ≤ x ∧ x ≤ 999) ∧ (0 ≤ y ∧ y ≤ 999) := by unfold plcB inB; simp only [Bool.and_eq_true, decide_eq_true_eq]
theorem askTt_yes {a : GArrival} {x y : Int} (h : askTt a x y = true) : okAr a ∧ (0 ≤ x ∧ x ≤ 999) ∧ (0 ≤ y ∧ y ≤ 999) := by
  unfold askTt at h
  rw [Bool.and_eq_true] at h
  exact ⟨oneAr_yes h.1, plcB_iff.1 h.2⟩
theorem noTt {a : GArrival} {x y : Int} (h : okTt a x y = false) : Ending.returned (.tuple #[.int .i64 0, .int .i64 0, .bool false]) = .returned (.tuple #[.int .i64 (loTt a x y), .int .i64 (hiTt a x y), .bool (okTt a x y)]) := by
  unfold loTt hiTt; rw [h]; rfl
theorem yesTt {a : GArrival} {x y l g : Int} (h : askTt a x y = true) (hl : loT a x y = l) (hg : hiT a x y = g) (hle : l ≤ g) : Ending.returned (.tuple #[.int .i64 l, .int .i64 g, .bool true]) = .returned (.tuple #[.int .i64 (loTt a x y), .int .i64 (hiTt a x y), .bool (okTt a x y)]) := by
  have e : okTt a x y = true := by unfold okTt; rw [h, decide_eq_true (by rw [hl, hg]; exact hle)]; rfl
  unfold loTt hiTt; rw [e, if_pos rfl, if_pos rfl, hl, hg]
theorem badTt {a : GArrival} {x y : Int} (h : askTt a x y = false) : okTt a x y = false := by unfold okTt; rw [h]; rfl
theorem gapTt {a : GArrival} {x y : Int} (h : ¬ loT a x y ≤ hiT a x y) : okTt a x y = false := by unfold okTt; rw [decide_eq_false h, Bool.and_false]
-- the most votes at a place
theorem mostV_zero {xs : List GArrival} (x y : Int) : ∀ k, k ≤ xs.length → (∀ j, j ≤ k → 0 ≤ (mostV xs x y j).1) → (mostV xs x y k).1 = 0 → (mostV xs x y k).2 = 0
  | 0, _, _, _ => rfl
  | k + 1, h, hp, h0 => by
    obtain ⟨a, ha⟩ := get_of_lt (l := xs) (k := k) (by omega)
    have i := mostV_zero (xs := xs) x y k (by omega) (fun j hj => hp j (by omega))
    have p := hp k (by omega)
    rw [mostV_succ ha] at h0 ⊢
    unfold stepV at h0 ⊢
    split at h0
    · split at h0
      · rename_i q1 q2
        rw [if_pos q1, if_pos q2]
        have h1 : ((votV xs ⟨x, y, loT a x y⟩).length : Int) = 0 := h0
        rcases q2 with q2 | q2
        · omega
        · have := i (by omega); show loT a x y = 0
          have hl : 0 ≤ loT a x y := by unfold loT; omega
          omega
      · rename_i q1 q2
        rw [if_pos q1, if_neg q2]
        exact i h0
    · rename_i q1
      rw [if_neg q1]
      exact i h0
noncomputable def askMv (xs : List GArrival) (x y : Int) : Bool := goodAr xs && plcB x y
noncomputable def numMv (xs : List GArrival) (x y : Int) : Int := if askMv xs x y then (mostV xs x y xs.length).1 else 0
noncomputable def atMv (xs : List GArrival) (x y : Int) : Int := if askMv xs x y then (mostV xs x y xs.length).2 else 0
noncomputable def okMv (xs : List GArrival) (x y : Int) : Bool := askMv xs x y && decide (0 < (mostV xs x y xs.length).1)
theorem askMv_yes {xs : List GArrival} {x y : Int} (h : askMv xs x y = true) : okArs xs ∧ (0 ≤ x ∧ x ≤ 999) ∧ (0 ≤ y ∧ y ≤ 999) := by
  unfold askMv at h
  rw [Bool.and_eq_true] at h
  exact ⟨goodAr_yes h.1, plcB_iff.1 h.2⟩
theorem noMv {xs : List GArrival} {x y : Int} (h : askMv xs x y = false) : Ending.returned (.tuple #[.int .i64 0, .int .i64 0, .bool false]) = .returned (.tuple #[.int .i64 (numMv xs x y), .int .i64 (atMv xs x y), .bool (okMv xs x y)]) := by
  unfold numMv atMv okMv; rw [h]; rfl
theorem yesMv {xs : List GArrival} {x y m t : Int} {u : Bool} (h : askMv xs x y = true) (hm : (mostV xs x y xs.length).1 = m) (ht : (mostV xs x y xs.length).2 = t) (hu : decide (0 < m) = u) : Ending.returned (.tuple #[.int .i64 m, .int .i64 t, .bool u]) = .returned (.tuple #[.int .i64 (numMv xs x y), .int .i64 (atMv xs x y), .bool (okMv xs x y)]) := by
  unfold numMv atMv okMv; rw [h, if_pos rfl, if_pos rfl, hm, ht, hu]; rfl
theorem zeroMv {xs : List GArrival} {x y : Int} (h : askMv xs x y = true) (hm : (mostV xs x y xs.length).1 = 0) : Ending.returned (.tuple #[.int .i64 0, .int .i64 0, .bool false]) = .returned (.tuple #[.int .i64 (numMv xs x y), .int .i64 (atMv xs x y), .bool (okMv xs x y)]) := by
  obtain ⟨h1, h2, h3⟩ := askMv_yes h
  refine yesMv h hm (mostV_zero x y _ (Nat.le_refl _) (fun j hj => ?_) hm) (by simp)
  exact (mostV_bd h1 h2 h3 j hj).1.1
-- the best of a grid
noncomputable def askBg (xs : List GArrival) (step : Int) : Bool := goodAr xs && inB step 50 500
noncomputable def resBg (xs : List GArrival) (step : Int) : GOrigin := if askBg xs step then (bestV xs step).1 else ⟨0, 0, 0⟩
noncomputable def numBg (xs : List GArrival) (step : Int) : Int := if askBg xs step then (bestV xs step).2 else 0
noncomputable def okBg (xs : List GArrival) (step : Int) : Bool := askBg xs step && decide (0 < (bestV xs step).2)
theorem askBg_yes {xs : List GArrival} {step : Int} (h : askBg xs step = true) : okArs xs ∧ (50 ≤ step ∧ step ≤ 500) := by
  unfold askBg at h
  rw [Bool.and_eq_true] at h
  exact ⟨goodAr_yes h.1, by have := h.2; unfold inB at this; exact of_decide_eq_true this⟩
theorem noBg {xs : List GArrival} {step : Int} (h : askBg xs step = false) : Ending.returned (.tuple #[.agg #[.int .i64 0, .int .i64 0, .int .i64 0], .int .i64 0, .bool false]) = .returned (.tuple #[.agg #[.int .i64 (resBg xs step).pX, .int .i64 (resBg xs step).pY, .int .i64 (resBg xs step).pTick], .int .i64 (numBg xs step), .bool (okBg xs step)]) := by
  unfold resBg numBg okBg; rw [h]; rfl
theorem yesBg {xs : List GArrival} {step : Int} {o : GOrigin} {m : Int} {u : Bool} (h : askBg xs step = true) (ho : (bestV xs step).1 = o) (hm : (bestV xs step).2 = m) (hu : decide (0 < m) = u) : Ending.returned (.tuple #[.agg #[.int .i64 o.pX, .int .i64 o.pY, .int .i64 o.pTick], .int .i64 m, .bool u]) = .returned (.tuple #[.agg #[.int .i64 (resBg xs step).pX, .int .i64 (resBg xs step).pY, .int .i64 (resBg xs step).pTick], .int .i64 (numBg xs step), .bool (okBg xs step)]) := by
  unfold resBg numBg okBg; rw [h, if_pos rfl, if_pos rfl, ho, hm, hu]; rfl
-- the events
noncomputable def endK (xs : List GArrival) (step least : Int) : Nat := @dite _ (∃ k, endV xs step least k) (Classical.propDecidable _) (fun h => Classical.choose h) (fun _ => 0)
theorem endK_is {xs : List GArrival} {step least : Int} {k : Nat} (h : endV xs step least k) : endK xs step least = k := by
  unfold endK
  rw [dif_pos ⟨k, h⟩]
  exact endV_one (Classical.choose_spec (⟨k, h⟩ : ∃ k, endV xs step least k)) h
noncomputable def okEf (xs : List GArrival) (step least : Int) : Bool := askBg xs step && inB least 1 8
noncomputable def resEf (xs : List GArrival) (step least : Int) : List GOrigin := if okEf xs step least then evsV xs step (endK xs step least) else []
theorem okEf_yes {xs : List GArrival} {step least : Int} (h : okEf xs step least = true) : okArs xs ∧ (50 ≤ step ∧ step ≤ 500) ∧ (1 ≤ least ∧ least ≤ 8) := by
  unfold okEf at h
  rw [Bool.and_eq_true] at h
  obtain ⟨h1, h2⟩ := askBg_yes h.1
  exact ⟨h1, h2, by have := h.2; unfold inB at this; exact of_decide_eq_true this⟩
theorem resEf_no {xs : List GArrival} {step least : Int} (h : okEf xs step least = false) : resEf xs step least = [] := by unfold resEf; rw [h]; rfl
theorem resEf_yes {xs : List GArrival} {step least : Int} {k : Nat} (h : okEf xs step least = true) (hk : endV xs step least k) : resEf xs step least = evsV xs step k := by unfold resEf; rw [h, if_pos rfl, endK_is hk]
theorem resEf_len (xs : List GArrival) (step least : Int) : szsOrigin (resEf xs step least) ≤ 1048576 := by
  rw [szsOrigin_split]
  cases h : okEf xs step least with
  | false => rw [resEf_no h]; simp
  | true =>
    obtain ⟨h1, h2, h3⟩ := okEf_yes h
    obtain ⟨k, hk, he⟩ := endV_ex h1 h2 h3.1
    rw [resEf_yes h he, evsV_len]
    have := h1.2
    omega
end Go.Proofs.Ytoogofceoinniab
