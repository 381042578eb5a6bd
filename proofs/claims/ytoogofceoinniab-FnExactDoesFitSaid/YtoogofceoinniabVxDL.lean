/- FnExactDoesFit: for every arrival and every origin the law answers true; no condition. -/
import Derived.Test.YtoogofceoinniabVoC
import Derived.Test.YtoogofceoinniabVpF
import Derived.Deep.CutBlock
import Derived.Deep.CutRange
import Derived.Deep.DeepCutAuto
namespace Go.Proofs.Ytoogofceoinniab.fnExactDoesFit
open Go.ChangeShapes Go.WideShapes Go.ChangeAt Go.RowKit Go.ChangeMaps
set_option linter.unusedSimpArgs false
set_option linter.unusedVariables false

theorem own : ownKnob Try.prog.godebug = none := by kernel_rfl


set_option maxRecDepth 100000 in
set_option maxHeartbeats 1000000 in
theorem walk_main (a0 : GArrival) (v0 : Value) (a1 : GOrigin) (v1 : Value) (w : World) (h0 : ArrivalVL w w.heap.size v0 a0) (hw0 : wfArrival a0) (h1 : OriginVL w w.heap.size v1 a1) (hw1 : wfOrigin a1) :
    Calls Try.prog 3 #[v0, v1] w fun e w' => e = .returned (.bool true) ∧ Below w.heap.size w w' := by
  have hn0 : sz1Arrival a0 ≤ 1048576 := by first | omega | exact Nat.zero_le _
  have hn1 : sz1Origin a1 ≤ 1048576 := by first | omega | exact Nat.zero_le _
  have hS := fun v0 v1 w B => specDf a0 v0 a1 v1 w B
  have hI := fun v0 v1 w B  => implDf a0 v0 a1 v1 w B 
  generalize resDf a0 a1 = r0 at *
  generalize okDf a0 a1 = r1 at *
  have HS := Lib.hid hS
  have HI := Lib.hid hI
  clear hS hI
  obtain rfl := h0.form
  obtain rfl := h1.form
  have N1 := (Below.refl (w).heap.size w).alloc (Nat.le_refl _) (.cells #[.int .i64 a0.pId, .int .i64 a0.pX, .int .i64 a0.pY, .int .i64 a0.pTick, .int .i64 a0.pError] 23)
  have bx1 : Bx (w.alloc (.cells #[.int .i64 a0.pId, .int .i64 a0.pX, .int .i64 a0.pY, .int .i64 a0.pTick, .int .i64 a0.pError] 23)) (w.heap.size) [.int .i64 a0.pId, .int .i64 a0.pX, .int .i64 a0.pY, .int .i64 a0.pTick, .int .i64 a0.pError] := Bx.new w [.int .i64 a0.pId, .int .i64 a0.pX, .int .i64 a0.pY, .int .i64 a0.pTick, .int .i64 a0.pError] 23
  have m0_2 := h0.below (N1.mono (B' := w.heap.size) (by omega))
  have m1_2 := h1.below (N1.mono (B' := w.heap.size) (by omega))
  have C_2 := N1
  clear h0 h1
  clear N1
  have N3 := (Below.refl ((w.alloc (.cells #[.int .i64 a0.pId, .int .i64 a0.pX, .int .i64 a0.pY, .int .i64 a0.pTick, .int .i64 a0.pError] 23))).heap.size (w.alloc (.cells #[.int .i64 a0.pId, .int .i64 a0.pX, .int .i64 a0.pY, .int .i64 a0.pTick, .int .i64 a0.pError] 23))).alloc (Nat.le_refl _) (.cells #[.int .i64 a1.pX, .int .i64 a1.pY, .int .i64 a1.pTick] 25)
  have bx3 : Bx ((w.alloc (.cells #[.int .i64 a0.pId, .int .i64 a0.pX, .int .i64 a0.pY, .int .i64 a0.pTick, .int .i64 a0.pError] 23)).alloc (.cells #[.int .i64 a1.pX, .int .i64 a1.pY, .int .i64 a1.pTick] 25)) (w.heap.size + 1) [.int .i64 a1.pX, .int .i64 a1.pY, .int .i64 a1.pTick] := by simpa using Bx.new (w.alloc (.cells #[.int .i64 a0.pId, .int .i64 a0.pX, .int .i64 a0.pY, .int .i64 a0.pTick, .int .i64 a0.pError] 23)) [.int .i64 a1.pX, .int .i64 a1.pY, .int .i64 a1.pTick] 25
  have m0_4 := m0_2.below (N3.mono (B' := w.heap.size) (by simp <;> omega))
  have m1_4 := m1_2.below (N3.mono (B' := w.heap.size) (by simp <;> omega))
  have bp0_4 := bx1.below N3
  have C_4 := C_2.trans (N3.mono (B' := w.heap.size) (by simp <;> omega))
  clear m0_2 m1_2 bx1 C_2
  clear N3
  go_enter Try.func3, Try.ntmps3
  have z5 : w.heap.size + 2 ≤ (((w.alloc (.cells #[.int .i64 a0.pId, .int .i64 a0.pX, .int .i64 a0.pY, .int .i64 a0.pTick, .int .i64 a0.pError] 23)).alloc (.cells #[.int .i64 a1.pX, .int .i64 a1.pY, .int .i64 a1.pTick] 25))).heap.size := by simp
  obtain ⟨w5, hw9⟩ : ∃ w9, ((w.alloc (.cells #[.int .i64 a0.pId, .int .i64 a0.pX, .int .i64 a0.pY, .int .i64 a0.pTick, .int .i64 a0.pError] 23)).alloc (.cells #[.int .i64 a1.pX, .int .i64 a1.pY, .int .i64 a1.pTick] 25)) = w9 := ⟨_, rfl⟩
  (try rw [hw9] at m0_4)
  (try rw [hw9] at m1_4)
  (try rw [hw9] at bp0_4)
  (try rw [hw9] at bx3)
  (try rw [hw9] at C_4)
  (try rw [hw9] at z5)
  have q1 := bp0_4.2 0 _ rfl
  have q2 := bp0_4.2 1 _ rfl
  have q3 := bp0_4.2 2 _ rfl
  have q4 := bp0_4.2 3 _ rfl
  have q5 := bp0_4.2 4 _ rfl
  have q6 := bx3.2 0 _ rfl
  have q7 := bx3.2 1 _ rfl
  have q8 := bx3.2 2 _ rfl
  go_upto_region 1 with (fail)
  clear hw9
  go_cut [5, 6] from 9 to 16 (fun s0 s1 wx => s0 = .bool r0 ∧ s1 = .bool r1 ∧ Below (w5).heap.size w5 wx)
  case first =>
    have hS : ∀ w', Below w5.heap.size w5 w' → Below w5.heap.size w5 w' ∧ w'.cell? ⟨w.heap.size, 0, none⟩ = some (.int .i64 a0.pId) ∧ w'.cell? ⟨w.heap.size, 1, none⟩ = some (.int .i64 a0.pX) ∧ w'.cell? ⟨w.heap.size, 2, none⟩ = some (.int .i64 a0.pY) ∧ w'.cell? ⟨w.heap.size, 3, none⟩ = some (.int .i64 a0.pTick) ∧ w'.cell? ⟨w.heap.size, 4, none⟩ = some (.int .i64 a0.pError) ∧ w'.cell? ⟨w.heap.size + 1, 0, none⟩ = some (.int .i64 a1.pX) ∧ w'.cell? ⟨w.heap.size + 1, 1, none⟩ = some (.int .i64 a1.pY) ∧ w'.cell? ⟨w.heap.size + 1, 2, none⟩ = some (.int .i64 a1.pTick) := fun w' q => ⟨q, (bp0_4.below q).2 0 _ rfl, (bp0_4.below q).2 1 _ rfl, (bp0_4.below q).2 2 _ rfl, (bp0_4.below q).2 3 _ rfl, (bp0_4.below q).2 4 _ rfl, (bx3.below q).2 0 _ rfl, (bx3.below q).2 1 _ rfl, (bx3.below q).2 2 _ rfl⟩
    have HS0 := Lib.hid hS
    clear hS
    go_wp2_with fail
    go_region_held3 (fun w' => Below w5.heap.size w5 w' ∧ w'.cell? ⟨w.heap.size, 0, none⟩ = some (.int .i64 a0.pId) ∧ w'.cell? ⟨w.heap.size, 1, none⟩ = some (.int .i64 a0.pX) ∧ w'.cell? ⟨w.heap.size, 2, none⟩ = some (.int .i64 a0.pY) ∧ w'.cell? ⟨w.heap.size, 3, none⟩ = some (.int .i64 a0.pTick) ∧ w'.cell? ⟨w.heap.size, 4, none⟩ = some (.int .i64 a0.pError) ∧ w'.cell? ⟨w.heap.size + 1, 0, none⟩ = some (.int .i64 a1.pX) ∧ w'.cell? ⟨w.heap.size + 1, 1, none⟩ = some (.int .i64 a1.pY) ∧ w'.cell? ⟨w.heap.size + 1, 2, none⟩ = some (.int .i64 a1.pTick))
      (first
        | exact HS0.out _ (Below.refl _ _).drew
        | (with_reducible refine HS0.out _ ?_; with_reducible assumption)
        | fail "no way")
      (first
        | (go_at_call 14; ((with_reducible refine (to_Arrival a0 _ w5.drew w.heap.size (m0_4.below (((Below.refl w5.heap.size w5).drew).mono (B' := w.heap.size) (by omega))) (Nat.le_trans (show w.heap.size ≤ w5.heap.size by omega) ((Below.refl w5.heap.size w5).drew).size) hn0).mono ?_); rintro e wa0 ⟨xv0, rfl, ox0, hb6_0⟩; have hq0 : Below w5.heap.size w5 wa0 := ((Below.refl w5.heap.size w5).drew).trans (hb6_0.mono ((Below.refl w5.heap.size w5).drew).size); have hz0 := hq0.size; have hs0 : w5.heap.size ≤ wa0.heap.size := hb6_0.size; obtain rfl := ox0.form))
        | (go_at_call 15; ((with_reducible refine (to_Origin a1 _ wa0 w.heap.size (m1_4.below ((hq0).mono (B' := w.heap.size) (by omega))) (Nat.le_trans (show w.heap.size ≤ w5.heap.size by omega) (hq0).size) hn1).mono ?_); rintro e wa1 ⟨xv1, rfl, ox1, hb6_1⟩; have hq1 : Below w5.heap.size w5 wa1 := (hq0).trans (hb6_1.mono (hq0).size); have hz1 := hq1.size; have hs1 : wa0.heap.size ≤ wa1.heap.size := hb6_1.size; obtain rfl := ox1.form; have ox0 := ox0.below ((hb6_1).mono (B' := wa0.heap.size) (by omega))))
        | (go_at_call 13; ((with_reducible refine (HS.out _ _ wa1 wa1.heap.size (ox0.lst.mono (by omega)) (ox1.lst.mono (by omega)) (Nat.le_refl _) hn0 hn1 hw0 hw1  ).mono ?_); rintro e wF ⟨rfl, hbF⟩; have hqF : Below w5.heap.size w5 wF := hq1.trans (hbF.mono hq1.size); have hzF := hqF.size; have hzG := hbF.size)))
    all_goals (go_wp2_with fail; go_meet)
    all_goals exact ⟨rfl, rfl, hqF⟩
  case rest =>
    obtain ⟨rfl, rfl, hb6⟩ := hcut
    generalize wc = w6 at *
    have z6 : w5.heap.size ≤ w6.heap.size := hb6.size
    clear q1 q2 q3 q4 q5 q6 q7 q8
    have m0_7 := m0_4.below (hb6.mono (B' := w.heap.size) (by omega))
    have m1_7 := m1_4.below (hb6.mono (B' := w.heap.size) (by omega))
    have bp0_7 := bp0_4.below hb6
    have bp1_7 := bx3.below hb6
    have C_7 := C_4.trans (hb6.mono (B' := w.heap.size) (by omega))
    clear m0_4 m1_4 bp0_4 bx3 C_4
    clear hb6
    have q9 := bp0_7.2 0 _ rfl
    have q10 := bp0_7.2 1 _ rfl
    have q11 := bp0_7.2 2 _ rfl
    have q12 := bp0_7.2 3 _ rfl
    have q13 := bp0_7.2 4 _ rfl
    have q14 := bp1_7.2 0 _ rfl
    have q15 := bp1_7.2 1 _ rfl
    have q16 := bp1_7.2 2 _ rfl
    go_upto_region 2 with (fail)
    go_cut [7, 8] from 17 to 24 (fun s0 s1 wx => s0 = .bool r0 ∧ s1 = .bool r1 ∧ Below (w6).heap.size w6 wx)
    case first =>
      have hS : ∀ w', Below w6.heap.size w6 w' → Below w6.heap.size w6 w' ∧ w'.cell? ⟨w.heap.size, 0, none⟩ = some (.int .i64 a0.pId) ∧ w'.cell? ⟨w.heap.size, 1, none⟩ = some (.int .i64 a0.pX) ∧ w'.cell? ⟨w.heap.size, 2, none⟩ = some (.int .i64 a0.pY) ∧ w'.cell? ⟨w.heap.size, 3, none⟩ = some (.int .i64 a0.pTick) ∧ w'.cell? ⟨w.heap.size, 4, none⟩ = some (.int .i64 a0.pError) ∧ w'.cell? ⟨w.heap.size + 1, 0, none⟩ = some (.int .i64 a1.pX) ∧ w'.cell? ⟨w.heap.size + 1, 1, none⟩ = some (.int .i64 a1.pY) ∧ w'.cell? ⟨w.heap.size + 1, 2, none⟩ = some (.int .i64 a1.pTick) := fun w' q => ⟨q, (bp0_7.below q).2 0 _ rfl, (bp0_7.below q).2 1 _ rfl, (bp0_7.below q).2 2 _ rfl, (bp0_7.below q).2 3 _ rfl, (bp0_7.below q).2 4 _ rfl, (bp1_7.below q).2 0 _ rfl, (bp1_7.below q).2 1 _ rfl, (bp1_7.below q).2 2 _ rfl⟩
      have HS0 := Lib.hid hS
      clear hS
      go_wp2_with fail
      go_region_held3 (fun w' => Below w6.heap.size w6 w' ∧ w'.cell? ⟨w.heap.size, 0, none⟩ = some (.int .i64 a0.pId) ∧ w'.cell? ⟨w.heap.size, 1, none⟩ = some (.int .i64 a0.pX) ∧ w'.cell? ⟨w.heap.size, 2, none⟩ = some (.int .i64 a0.pY) ∧ w'.cell? ⟨w.heap.size, 3, none⟩ = some (.int .i64 a0.pTick) ∧ w'.cell? ⟨w.heap.size, 4, none⟩ = some (.int .i64 a0.pError) ∧ w'.cell? ⟨w.heap.size + 1, 0, none⟩ = some (.int .i64 a1.pX) ∧ w'.cell? ⟨w.heap.size + 1, 1, none⟩ = some (.int .i64 a1.pY) ∧ w'.cell? ⟨w.heap.size + 1, 2, none⟩ = some (.int .i64 a1.pTick))
        (first
          | exact HS0.out _ (Below.refl _ _).drew
          | (with_reducible refine HS0.out _ ?_; with_reducible assumption)
          | fail "no way")
        (first
          | (go_at_call 14; ((with_reducible refine (to_Arrival a0 _ w6.drew w.heap.size (m0_7.below (((Below.refl w6.heap.size w6).drew).mono (B' := w.heap.size) (by omega))) (Nat.le_trans (show w.heap.size ≤ w6.heap.size by omega) ((Below.refl w6.heap.size w6).drew).size) hn0).mono ?_); rintro e wa0 ⟨xv0, rfl, ox0, hb8_0⟩; have hq0 : Below w6.heap.size w6 wa0 := ((Below.refl w6.heap.size w6).drew).trans (hb8_0.mono ((Below.refl w6.heap.size w6).drew).size); have hz0 := hq0.size; have hs0 : w6.heap.size ≤ wa0.heap.size := hb8_0.size; obtain rfl := ox0.form))
          | (go_at_call 15; ((with_reducible refine (to_Origin a1 _ wa0 w.heap.size (m1_7.below ((hq0).mono (B' := w.heap.size) (by omega))) (Nat.le_trans (show w.heap.size ≤ w6.heap.size by omega) (hq0).size) hn1).mono ?_); rintro e wa1 ⟨xv1, rfl, ox1, hb8_1⟩; have hq1 : Below w6.heap.size w6 wa1 := (hq0).trans (hb8_1.mono (hq0).size); have hz1 := hq1.size; have hs1 : wa0.heap.size ≤ wa1.heap.size := hb8_1.size; obtain rfl := ox1.form; have ox0 := ox0.below ((hb8_1).mono (B' := wa0.heap.size) (by omega))))
          | (go_at_call 16; ((with_reducible refine (HI.out _ _ wa1 wa1.heap.size (ox0.lst.mono (by omega)) (ox1.lst.mono (by omega)) (Nat.le_refl _) hn0 hn1 hw0 hw1  ).mono ?_); rintro e wF ⟨rfl, hbF⟩; have hqF : Below w6.heap.size w6 wF := hq1.trans (hbF.mono hq1.size); have hzF := hqF.size; have hzG := hbF.size)))
      all_goals (go_wp2_with fail; go_meet)
      all_goals exact ⟨rfl, rfl, hqF⟩
    case rest =>
      obtain ⟨rfl, rfl, hb8⟩ := hcut
      generalize wc = w8 at *
      have z8 : w6.heap.size ≤ w8.heap.size := hb8.size
      clear q9 q10 q11 q12 q13 q14 q15 q16
      have m0_9 := m0_7.below (hb8.mono (B' := w.heap.size) (by omega))
      have m1_9 := m1_7.below (hb8.mono (B' := w.heap.size) (by omega))
      have bp0_9 := bp0_7.below hb8
      have bp1_9 := bp1_7.below hb8
      have C_9 := C_7.trans (hb8.mono (B' := w.heap.size) (by omega))
      clear m0_7 m1_7 bp0_7 bp1_7 C_7
      clear hb8
      go_wp2
      go_ret
      exact ⟨rfl, C_9⟩

set_option maxRecDepth 100000 in
theorem walk_all {H : Type} {enc : TypeId × Value → H} {base : Nat} {w : World} (v0 : Value) {d0 : DataW H} {ps0 : List MemPlace} (hval0 : Value.okWide Try.prog w .any base 23 v0) (hd0 : DataW.Trod enc Try.prog w 0 (fun _ => true) true 23 v0 d0 ps0) (v1 : Value) {d1 : DataW H} {ps1 : List MemPlace} (hval1 : Value.okWide Try.prog w .any base 25 v1) (hd1 : DataW.Trod enc Try.prog w 0 (fun _ => true) true 25 v1 d1 ps1) :
    Calls Try.prog 3 #[v0, v1] w fun e w' => e = .returned (.bool true) ∧ Below w.heap.size w w' := by
  obtain ⟨a0, h0, hw0⟩ := open_Arrival hval0 hd0
  obtain ⟨a1, h1, hw1⟩ := open_Origin hval1 hd1
  exact walk_main a0 v0 a1 v1 w h0 hw0 h1 hw1 

set_option maxRecDepth 100000 in
theorem contract (H : Type) (enc : TypeId × Value → H) (W : World) (base : Nat) (args : Array Value) (ds gs : List (DataW H)) (before : List MemPlace)
    (hval : ∀ (j : Nat) t v, Try.f3.params[j]? = some t → args[j]? = some v → Value.okWide Try.prog W .any base t v)
    (hW : DataW.Whole enc Try.prog Try.f3.params.toList Rows.fnExactDoesFitSpec.vars false W args.toList ds gs before) :
    Calls Try.prog 3 args W fun e W' => ∃ v, e = .returned v ∧ Rows.fnExactDoesFitSpec.post enc Try.prog Try.f3 false true false false W args v W' := by
  have hW' := hW
  obtain ⟨p, q, hA0, hV, rfl, hfz, hnd⟩ := hW
  have hA : DataW.TrodAll enc Try.prog W 0 (fun _ => true) true Try.f3.params.toList args.toList ds p := hA0
  rw [Try.params3] at hA hval
  obtain ⟨v0, vs0, d0, ds0, p0, q0, hargs, rfl, rfl, h0, r0⟩ := trodAll_cons hA
  obtain ⟨v1, vs1, d1, ds1, p1, q1, rfl, rfl, rfl, h1, r1⟩ := trodAll_cons r0
  obtain ⟨rfl, rfl, rfl⟩ := trodAll_nil r1
  obtain rfl : args = #[v0, v1] := by cases args; simp_all
  refine lawPost rfl rfl Try.underlying4 (by kernel_rfl) (by kernel_rfl) hW' (fun hg => by subst hg; exact ⟨rfl, rfl, rfl⟩) ?_
  exact walk_all v0 (hval 0 23 v0 rfl rfl) h0 v1 (hval 1 25 v1 rfl rfl) h1

set_option maxRecDepth 100000 in
theorem lifted (os : Os) (started : os.Started) (H : Type) (enc : TypeId × Value → H) :
    ReturnsInHanded {} Try.checked os 3 .any (Rows.fnExactDoesFitSpec.pre6 enc Try.prog Try.f3 Rows.fnExactDoesFitRow.domain false) (Rows.fnExactDoesFitSpec.post enc Try.prog Try.f3 false true false false) := by
  refine returnsInHanded_of_change (C := Try.checked) (s := Rows.fnExactDoesFitSpec) own started (by kernel_rfl) Try.func3
    (ChangeSpec.witness6 (enc := enc) (C := Try.checked) (s := Rows.fnExactDoesFitSpec) false ⟨#[], #[.agg #[.int .i64 0, .int .i64 0, .int .i64 0, .int .i64 0, .int .i64 0], .agg #[.int .i64 0, .int .i64 0, .int .i64 0]], []⟩ 8 (by kernel_rfl) (by kernel_rfl) (by kernel_rfl) (by kernel_rfl)) ?_
  intro W base args ds gs before hval hW _ _
  exact contract H enc W base args ds gs before hval hW

theorem said : Rows.FnExactDoesFitSaid :=
  OpenClaim.holds_of_wide 3 Try.f3 rfl rfl rfl rfl rfl rfl rfl ⟨rfl, rfl, rfl, rfl, rfl⟩ rfl rfl rfl rfl rfl (by kernel_rfl) Try.func3 (by kernel_rfl)
    (of_decide_eq_true (by kernel_rfl)) (by unfold Func.isWrapper; first | (rw [if_pos (by decide +kernel)]; kernel_rfl) | (rw [if_neg (by decide +kernel)]; exact ⟨rfl, rfl⟩))
    (fun os started H enc _ => lifted os started H enc)

end Go.Proofs.Ytoogofceoinniab.fnExactDoesFit
