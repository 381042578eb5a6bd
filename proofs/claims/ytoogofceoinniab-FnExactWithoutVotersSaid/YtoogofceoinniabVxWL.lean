/- FnExactWithoutVoters: for every list of arrivals and every origin the law answers true; no condition. -/
import Derived.Test.YtoogofceoinniabVoG
import Derived.Test.YtoogofceoinniabVpG
import Derived.Deep.CutBlock
import Derived.Deep.CutRange
import Derived.Deep.DeepCutAuto
namespace Go.Proofs.Ytoogofceoinniab.fnExactWithoutVoters
open Go.ChangeShapes Go.WideShapes Go.ChangeAt Go.RowKit Go.ChangeMaps
set_option linter.unusedSimpArgs false
set_option linter.unusedVariables false

theorem own : ownKnob Try.prog.godebug = none := by kernel_rfl


set_option maxRecDepth 100000 in
set_option maxHeartbeats 1000000 in
theorem walk_big0 (a0 : List GArrival) (v0 : Value) (a1 : GOrigin) (v1 : Value) (w : World) (h0 : ArrivalL w w.heap.size v0 a0) (hw0 : ∀ s ∈ a0, wfArrival s) (h1 : OriginVL w w.heap.size v1 a1) (hw1 : wfOrigin a1)  (g0 : ¬ (szsArrival a0 : Int) ≤ 1048576):
    Calls Try.prog 9 #[v0, v1] w fun e w' => e = .returned (.bool true) ∧ Below w.heap.size w w' := by
  obtain rfl := h1.form
  have N1 := (Below.refl (w).heap.size w).alloc (Nat.le_refl _) (.cells #[.int .i64 a1.pX, .int .i64 a1.pY, .int .i64 a1.pTick] 25)
  have bx1 : Bx (w.alloc (.cells #[.int .i64 a1.pX, .int .i64 a1.pY, .int .i64 a1.pTick] 25)) (w.heap.size) [.int .i64 a1.pX, .int .i64 a1.pY, .int .i64 a1.pTick] := Bx.new w [.int .i64 a1.pX, .int .i64 a1.pY, .int .i64 a1.pTick] 25
  have m0_2 := h0.below (N1.mono (B' := w.heap.size) (by omega))
  have m1_2 := h1.below (N1.mono (B' := w.heap.size) (by omega))
  have C_2 := N1
  clear h0 h1
  clear N1
  go_enter Try.func9, Try.ntmps9
  go_wp2_with fail
  refine (szgt_ArrivalS a0 _ (1048576) _ w.heap.size m0_2 (by simp <;> omega) (by omega) (by omega) (by omega) hw0).mono ?_
  rintro e w3 ⟨rfl, hb3⟩
  have z3 : w.heap.size + 1 ≤ w3.heap.size := by have := hb3.size; simpa using this
  have m0_4 := m0_2.below (hb3.mono (B' := w.heap.size) (by simp <;> omega))
  have m1_4 := m1_2.below (hb3.mono (B' := w.heap.size) (by simp <;> omega))
  have bp1_4 := bx1.below hb3
  have C_4 := C_2.trans (hb3.mono (B' := w.heap.size) (by simp <;> omega))
  clear m0_2 m1_2 bx1 C_2
  clear hb3
  go_wp2
  go_ret
  exact ⟨rfl, C_4⟩

set_option maxRecDepth 100000 in
set_option maxHeartbeats 1000000 in
theorem walk_main (a0 : List GArrival) (v0 : Value) (a1 : GOrigin) (v1 : Value) (w : World) (h0 : ArrivalL w w.heap.size v0 a0) (hw0 : ∀ s ∈ a0, wfArrival s) (h1 : OriginVL w w.heap.size v1 a1) (hw1 : wfOrigin a1) (g0 : (szsArrival a0 : Int) ≤ 1048576):
    Calls Try.prog 9 #[v0, v1] w fun e w' => e = .returned (.bool true) ∧ Below w.heap.size w w' := by
  have hn0 : szsArrival a0 ≤ 1048576 := by first | omega | exact Nat.zero_le _
  have hn1 : sz1Origin a1 ≤ 1048576 := by first | omega | exact Nat.zero_le _
  have hnl0 := szsArrival_len a0
  have hS := fun v0 v1 w B => specWo a0 v0 a1 v1 w B
  have hI := fun v0 v1 w B  => implWo a0 v0 a1 v1 w B 
  have hl0 : szsArrival (resWo a0 a1) ≤ 1048576 := resWo_len a0 a1
  generalize resWo a0 a1 = r0 at *
  generalize okVo a0 a1 = r1 at *
  have hll0 := szsArrival_len r0
  have HS := Lib.hid hS
  have HI := Lib.hid hI
  clear hS hI
  obtain rfl := h1.form
  have N1 := (Below.refl (w).heap.size w).alloc (Nat.le_refl _) (.cells #[.int .i64 a1.pX, .int .i64 a1.pY, .int .i64 a1.pTick] 25)
  have bx1 : Bx (w.alloc (.cells #[.int .i64 a1.pX, .int .i64 a1.pY, .int .i64 a1.pTick] 25)) (w.heap.size) [.int .i64 a1.pX, .int .i64 a1.pY, .int .i64 a1.pTick] := Bx.new w [.int .i64 a1.pX, .int .i64 a1.pY, .int .i64 a1.pTick] 25
  have m0_2 := h0.below (N1.mono (B' := w.heap.size) (by omega))
  have m1_2 := h1.below (N1.mono (B' := w.heap.size) (by omega))
  have C_2 := N1
  clear h0 h1
  clear N1
  have d0 : ¬ 1048576 - (szsArrival a0 : Int) < 0 := by omega
  go_enter Try.func9, Try.ntmps9
  go_wp2_with fail
  refine (sz_ArrivalS a0 _ (1048576) _ w.heap.size m0_2 (by simp <;> omega) (by omega) (by omega) (by omega)).mono ?_
  rintro e w3 ⟨rfl, hb3⟩
  have z3 : w.heap.size + 1 ≤ w3.heap.size := by have := hb3.size; simpa using this
  have m0_4 := m0_2.below (hb3.mono (B' := w.heap.size) (by simp <;> omega))
  have m1_4 := m1_2.below (hb3.mono (B' := w.heap.size) (by simp <;> omega))
  have bp1_4 := bx1.below hb3
  have C_4 := C_2.trans (hb3.mono (B' := w.heap.size) (by simp <;> omega))
  clear m0_2 m1_2 bx1 C_2
  clear hb3
  have q1 := bp1_4.2 0 _ rfl
  have q2 := bp1_4.2 1 _ rfl
  have q3 := bp1_4.2 2 _ rfl
  go_upto_region 5 with (fail)
  go_cut [6, 7] from 21 to 28 (fun s0 s1 wx => ∃ v0, s0 = v0 ∧ s1 = .bool r1 ∧ ArrivalO wx (w3).heap.size wx.heap.size v0 r0 ∧ Below (w3).heap.size w3 wx)
  case first =>
    have hS : ∀ w', Below w3.heap.size w3 w' → Below w3.heap.size w3 w' ∧ w'.cell? ⟨w.heap.size, 0, none⟩ = some (.int .i64 a1.pX) ∧ w'.cell? ⟨w.heap.size, 1, none⟩ = some (.int .i64 a1.pY) ∧ w'.cell? ⟨w.heap.size, 2, none⟩ = some (.int .i64 a1.pTick) := fun w' q => ⟨q, (bp1_4.below q).2 0 _ rfl, (bp1_4.below q).2 1 _ rfl, (bp1_4.below q).2 2 _ rfl⟩
    have HS0 := Lib.hid hS
    clear hS
    go_wp2_with fail
    go_region_held3 (fun w' => Below w3.heap.size w3 w' ∧ w'.cell? ⟨w.heap.size, 0, none⟩ = some (.int .i64 a1.pX) ∧ w'.cell? ⟨w.heap.size, 1, none⟩ = some (.int .i64 a1.pY) ∧ w'.cell? ⟨w.heap.size, 2, none⟩ = some (.int .i64 a1.pTick))
      (first
        | exact HS0.out _ (Below.refl _ _).drew
        | (with_reducible refine HS0.out _ ?_; with_reducible assumption)
        | fail "no way")
      (first
        | (go_at_call 19; ((with_reducible refine (to_ArrivalS a0 _ w3.drew w.heap.size (m0_4.below (((Below.refl w3.heap.size w3).drew).mono (B' := w.heap.size) (by omega))) (Nat.le_trans (show w.heap.size ≤ w3.heap.size by omega) ((Below.refl w3.heap.size w3).drew).size) hn0).mono ?_); rintro e wa0 ⟨xv0, rfl, ox0, hb5_0⟩; have hq0 : Below w3.heap.size w3 wa0 := ((Below.refl w3.heap.size w3).drew).trans (hb5_0.mono ((Below.refl w3.heap.size w3).drew).size); have hz0 := hq0.size; have hs0 : w3.heap.size ≤ wa0.heap.size := hb5_0.size))
        | (go_at_call 15; ((with_reducible refine (to_Origin a1 _ wa0 w.heap.size (m1_4.below ((hq0).mono (B' := w.heap.size) (by omega))) (Nat.le_trans (show w.heap.size ≤ w3.heap.size by omega) (hq0).size) hn1).mono ?_); rintro e wa1 ⟨xv1, rfl, ox1, hb5_1⟩; have hq1 : Below w3.heap.size w3 wa1 := (hq0).trans (hb5_1.mono (hq0).size); have hz1 := hq1.size; have hs1 : wa0.heap.size ≤ wa1.heap.size := hb5_1.size; obtain rfl := ox1.form; have ox0 := ox0.below ((hb5_1).mono (B' := wa0.heap.size) (by omega))))
        | (go_at_call 35; ((with_reducible refine (HS.out _ _ wa1 wa1.heap.size (ox0.lst.mono (by omega)) (ox1.lst.mono (by omega)) (Nat.le_refl _) hn0 hn1 hw0 hw1  ).mono ?_); rintro e wF ⟨yv0, rfl, oy0, hbF⟩; have hqF : Below w3.heap.size w3 wF := hq1.trans (hbF.mono hq1.size); have hzF := hqF.size; have hzG := hbF.size; obtain ⟨Fao0, Fcap0, rfl⟩ := oy0.form)))
    all_goals (go_wp2_with fail; go_meet)
    all_goals exact ⟨_, rfl, rfl, oy0.mono (by omega) (Nat.le_refl _), hqF⟩
  case rest =>
    obtain ⟨y0_5, rfl, rfl, oy0_5, hb5⟩ := hcut
    generalize wc = w5 at *
    have z5 : w3.heap.size ≤ w5.heap.size := hb5.size
    clear q1 q2 q3
    have m0_6 := m0_4.below (hb5.mono (B' := w.heap.size) (by omega))
    have m1_6 := m1_4.below (hb5.mono (B' := w.heap.size) (by omega))
    have bp1_6 := bp1_4.below hb5
    have C_6 := C_4.trans (hb5.mono (B' := w.heap.size) (by omega))
    clear m0_4 m1_4 bp1_4 C_4
    clear hb5
    have ky0_5_o := oy0_5.mono (L' := w3.heap.size) (B' := w5.heap.size) (by simp <;> omega) (Nat.le_refl _)
    clear oy0_5
    obtain ⟨aoy0_5, capy0_5, rfl⟩ := ky0_5_o.form
    go_wp2_with fail
    refine (to_ArrivalS a0 _ _ w.heap.size m0_6 (by omega) hn0).mono ?_
    rintro e w7 ⟨X0, rfl, oX0, hb7⟩
    have z7 : w5.heap.size ≤ w7.heap.size := hb7.size
    have m0_8 := m0_6.below (hb7.mono (B' := w.heap.size) (by omega))
    have m1_8 := m1_6.below (hb7.mono (B' := w.heap.size) (by omega))
    have ky0_5_8 := ky0_5_o.below (hb7.mono (B' := w5.heap.size) (by omega))
    have bp1_8 := bp1_6.below hb7
    have C_8 := C_6.trans (hb7.mono (B' := w.heap.size) (by omega))
    clear m0_6 m1_6 ky0_5_o bp1_6 C_6
    clear hb7
    have kX0_o := oX0.mono (L' := w5.heap.size) (B' := w7.heap.size) (by simp <;> omega) (Nat.le_refl _)
    clear oX0
    have q4 := bp1_8.2 0 _ rfl
    have q5 := bp1_8.2 1 _ rfl
    have q6 := bp1_8.2 2 _ rfl
    go_wp2_with fail
    refine (to_Origin a1 _ _ w.heap.size m1_8 (by omega) hn1).mono ?_
    rintro e w9 ⟨x9, rfl, ox9, hb9⟩
    have z9 : w7.heap.size ≤ w9.heap.size := hb9.size
    clear q4 q5 q6
    have m0_10 := m0_8.below (hb9.mono (B' := w.heap.size) (by omega))
    have m1_10 := m1_8.below (hb9.mono (B' := w.heap.size) (by omega))
    have ky0_5_10 := ky0_5_8.below (hb9.mono (B' := w5.heap.size) (by omega))
    have kX0_10 := kX0_o.below (hb9.mono (B' := w7.heap.size) (by omega))
    have bp1_10 := bp1_8.below hb9
    have C_10 := C_8.trans (hb9.mono (B' := w.heap.size) (by omega))
    clear m0_8 m1_8 ky0_5_8 kX0_o bp1_8 C_8
    clear hb9
    have kx9_o := ox9.mono (L' := w7.heap.size) (B' := w9.heap.size) (by simp <;> omega) (Nat.le_refl _)
    clear ox9
    obtain rfl := kx9_o.form
    go_wp2_with fail
    refine (HI.out _ _ _ (w9).heap.size  (kX0_10.lst.mono (by omega)) (kx9_o.lst.mono (by omega)) (Nat.le_refl _) hn0 hn1 hw0 hw1  ).mono ?_
    rintro e w11 ⟨y0_10, rfl, oy0_10, hb11⟩
    have z11 : w9.heap.size ≤ w11.heap.size := hb11.size
    have m0_12 := m0_10.below (hb11.mono (B' := w.heap.size) (by omega))
    have m1_12 := m1_10.below (hb11.mono (B' := w.heap.size) (by omega))
    have ky0_5_12 := ky0_5_10.below (hb11.mono (B' := w5.heap.size) (by omega))
    have kX0_12 := kX0_10.below (hb11.mono (B' := w7.heap.size) (by omega))
    have kx9_12 := kx9_o.below (hb11.mono (B' := w9.heap.size) (by omega))
    have bp1_12 := bp1_10.below hb11
    have C_12 := C_10.trans (hb11.mono (B' := w.heap.size) (by omega))
    clear m0_10 m1_10 ky0_5_10 kX0_10 kx9_o bp1_10 C_10
    clear hb11
    have ky0_10_o := oy0_10.mono (L' := w9.heap.size) (B' := w11.heap.size) (by simp <;> omega) (Nat.le_refl _)
    clear oy0_10
    obtain ⟨aoy0_10, capy0_10, rfl⟩ := ky0_10_o.form
    clear kx9_12
    go_wp2_with fail
    refine (eq_ArrivalS r0 _ _ _ (w11).heap.size (ky0_10_o.lst.mono (by omega)) (ky0_5_12.lst.mono (by omega)) (Nat.le_refl _)).mono ?_
    rintro e w13 ⟨rfl, hb13⟩
    have z13 : w11.heap.size ≤ w13.heap.size := hb13.size
    have m0_14 := m0_12.below (hb13.mono (B' := w.heap.size) (by omega))
    have m1_14 := m1_12.below (hb13.mono (B' := w.heap.size) (by omega))
    have ky0_5_14 := ky0_5_12.below (hb13.mono (B' := w5.heap.size) (by omega))
    have kX0_14 := kX0_12.below (hb13.mono (B' := w7.heap.size) (by omega))
    have ky0_10_14 := ky0_10_o.below (hb13.mono (B' := w11.heap.size) (by omega))
    have bp1_14 := bp1_12.below hb13
    have C_14 := C_12.trans (hb13.mono (B' := w.heap.size) (by omega))
    clear m0_12 m1_12 ky0_5_12 kX0_12 ky0_10_o bp1_12 C_12
    clear hb13
    go_wp2_with fail
    refine (to_ArrivalS a0 _ _ w.heap.size m0_14 (by omega) hn0).mono ?_
    rintro e w15 ⟨T0, rfl, oT0, hb15⟩
    have z15 : w13.heap.size ≤ w15.heap.size := hb15.size
    have m0_16 := m0_14.below (hb15.mono (B' := w.heap.size) (by omega))
    have m1_16 := m1_14.below (hb15.mono (B' := w.heap.size) (by omega))
    have ky0_5_16 := ky0_5_14.below (hb15.mono (B' := w5.heap.size) (by omega))
    have kX0_16 := kX0_14.below (hb15.mono (B' := w7.heap.size) (by omega))
    have ky0_10_16 := ky0_10_14.below (hb15.mono (B' := w11.heap.size) (by omega))
    have bp1_16 := bp1_14.below hb15
    have C_16 := C_14.trans (hb15.mono (B' := w.heap.size) (by omega))
    clear m0_14 m1_14 ky0_5_14 kX0_14 ky0_10_14 bp1_14 C_14
    clear hb15
    have kT0_o := oT0.mono (L' := w13.heap.size) (B' := w15.heap.size) (by simp <;> omega) (Nat.le_refl _)
    clear oT0
    go_wp2_with fail
    refine (eq_ArrivalS a0 _ _ _ (w15).heap.size (kX0_16.lst.mono (by omega)) (kT0_o.lst.mono (by omega)) (Nat.le_refl _)).mono ?_
    rintro e w17 ⟨rfl, hb17⟩
    have z17 : w15.heap.size ≤ w17.heap.size := hb17.size
    have m0_18 := m0_16.below (hb17.mono (B' := w.heap.size) (by omega))
    have m1_18 := m1_16.below (hb17.mono (B' := w.heap.size) (by omega))
    have ky0_5_18 := ky0_5_16.below (hb17.mono (B' := w5.heap.size) (by omega))
    have kX0_18 := kX0_16.below (hb17.mono (B' := w7.heap.size) (by omega))
    have ky0_10_18 := ky0_10_16.below (hb17.mono (B' := w11.heap.size) (by omega))
    have kT0_18 := kT0_o.below (hb17.mono (B' := w15.heap.size) (by omega))
    have bp1_18 := bp1_16.below hb17
    have C_18 := C_16.trans (hb17.mono (B' := w.heap.size) (by omega))
    clear m0_16 m1_16 ky0_5_16 kX0_16 ky0_10_16 kT0_o bp1_16 C_16
    clear hb17
    clear kT0_18
    go_wp2_with fail
    refine (mark_ArrivalS a0 _ (1) _ (w5.heap.size) w7.heap.size kX0_18 (by omega) hn0 (by omega) (by omega)).mono ?_
    rintro e w19 ⟨rfl, mk, hu19⟩
    have z19 : w17.heap.size ≤ w19.heap.size := hu19.size
    have m0_20 := m0_18.below (hu19.low (B := w.heap.size) (by omega) (by omega))
    have m1_20 := m1_18.below (hu19.low (B := w.heap.size) (by omega) (by omega))
    have ky0_5_20 := ky0_5_18.below (hu19.low (B := w5.heap.size) (by omega) (by omega))
    have ky0_10_20 := ky0_10_18.high hu19 (by omega)
    have bp1_20 := bp1_18.upd hu19 (by omega)
    have C_20 := C_18.trans (hu19.low (B := w.heap.size) (by omega) (by omega))
    clear m0_18 m1_18 ky0_5_18 ky0_10_18 bp1_18 C_18
    clear hu19
    clear kX0_18
    have kX0_m19 := mk
    clear mk
    have dk20 : ¬ (1 + (5 * a0.length : Int)) < 0 := by omega
    go_wp2_with fail
    refine (eq_ArrivalS r0 _ _ _ (w19).heap.size (ky0_10_20.lst.mono (by omega)) (ky0_5_20.lst.mono (by omega)) (Nat.le_refl _)).mono ?_
    rintro e w21 ⟨rfl, hb21⟩
    have z21 : w19.heap.size ≤ w21.heap.size := hb21.size
    have m0_22 := m0_20.below (hb21.mono (B' := w.heap.size) (by omega))
    have m1_22 := m1_20.below (hb21.mono (B' := w.heap.size) (by omega))
    have ky0_5_22 := ky0_5_20.below (hb21.mono (B' := w5.heap.size) (by omega))
    have kX0_22 := kX0_m19.below (hb21.mono (B' := w7.heap.size) (by omega))
    have ky0_10_22 := ky0_10_20.below (hb21.mono (B' := w11.heap.size) (by omega))
    have bp1_22 := bp1_20.below hb21
    have C_22 := C_20.trans (hb21.mono (B' := w.heap.size) (by omega))
    clear m0_20 m1_20 ky0_5_20 kX0_m19 ky0_10_20 bp1_20 C_20
    clear hb21
    go_wp2_with fail
    refine (mark_ArrivalS r0 _ (1) _ (w9.heap.size) w11.heap.size ky0_10_22 (by omega) hl0 (by omega) (by omega)).mono ?_
    rintro e w23 ⟨rfl, mk, hu23⟩
    have z23 : w21.heap.size ≤ w23.heap.size := hu23.size
    have m0_24 := m0_22.below (hu23.low (B := w.heap.size) (by omega) (by omega))
    have m1_24 := m1_22.below (hu23.low (B := w.heap.size) (by omega) (by omega))
    have ky0_5_24 := ky0_5_22.below (hu23.low (B := w5.heap.size) (by omega) (by omega))
    have kX0_24 := kX0_22.below (hu23.low (B := w7.heap.size) (by omega) (by omega))
    have bp1_24 := bp1_22.upd hu23 (by omega)
    have C_24 := C_22.trans (hu23.low (B := w.heap.size) (by omega) (by omega))
    clear m0_22 m1_22 ky0_5_22 kX0_22 bp1_22 C_22
    clear hu23
    clear ky0_10_22
    have ky0_10_m23 := mk
    clear mk
    go_wp2_with fail
    refine (held_ArrivalS r0 _ (1) _ (w11.heap.size) ky0_10_m23.lst (by omega) hl0 (by omega) (by omega)).mono ?_
    rintro e w25 ⟨rfl, hb25⟩
    have z25 : w23.heap.size ≤ w25.heap.size := hb25.size
    have m0_26 := m0_24.below (hb25.mono (B' := w.heap.size) (by omega))
    have m1_26 := m1_24.below (hb25.mono (B' := w.heap.size) (by omega))
    have ky0_5_26 := ky0_5_24.below (hb25.mono (B' := w5.heap.size) (by omega))
    have kX0_26 := kX0_24.below (hb25.mono (B' := w7.heap.size) (by omega))
    have ky0_10_26 := ky0_10_m23.below (hb25.mono (B' := w11.heap.size) (by omega))
    have bp1_26 := bp1_24.below hb25
    have C_26 := C_24.trans (hb25.mono (B' := w.heap.size) (by omega))
    clear m0_24 m1_24 ky0_5_24 kX0_24 ky0_10_m23 bp1_24 C_24
    clear hb25
    have dq26 : ¬ (1 + (5 * r0.length : Int)) < 0 := by omega
    have q7 := bp1_26.2 0 _ rfl
    have q8 := bp1_26.2 1 _ rfl
    have q9 := bp1_26.2 2 _ rfl
    go_upto_region 24 with (fail)
    go_cut [14, 15] from 79 to 86 (fun s0 s1 wx => ∃ v0, s0 = v0 ∧ s1 = .bool r1 ∧ ArrivalO wx (w25).heap.size wx.heap.size v0 r0 ∧ Below (w25).heap.size w25 wx)
    case first =>
      have hS : ∀ w', Below w25.heap.size w25 w' → Below w25.heap.size w25 w' ∧ w'.cell? ⟨w.heap.size, 0, none⟩ = some (.int .i64 a1.pX) ∧ w'.cell? ⟨w.heap.size, 1, none⟩ = some (.int .i64 a1.pY) ∧ w'.cell? ⟨w.heap.size, 2, none⟩ = some (.int .i64 a1.pTick) := fun w' q => ⟨q, (bp1_26.below q).2 0 _ rfl, (bp1_26.below q).2 1 _ rfl, (bp1_26.below q).2 2 _ rfl⟩
      have HS0 := Lib.hid hS
      clear hS
      go_wp2_with fail
      go_region_held3 (fun w' => Below w25.heap.size w25 w' ∧ w'.cell? ⟨w.heap.size, 0, none⟩ = some (.int .i64 a1.pX) ∧ w'.cell? ⟨w.heap.size, 1, none⟩ = some (.int .i64 a1.pY) ∧ w'.cell? ⟨w.heap.size, 2, none⟩ = some (.int .i64 a1.pTick))
        (first
          | exact HS0.out _ (Below.refl _ _).drew
          | (with_reducible refine HS0.out _ ?_; with_reducible assumption)
          | fail "no way")
        (first
          | (go_at_call 19; ((with_reducible refine (to_ArrivalS a0 _ w25.drew w.heap.size (m0_26.below (((Below.refl w25.heap.size w25).drew).mono (B' := w.heap.size) (by omega))) (Nat.le_trans (show w.heap.size ≤ w25.heap.size by omega) ((Below.refl w25.heap.size w25).drew).size) hn0).mono ?_); rintro e wa0 ⟨xv0, rfl, ox0, hb27_0⟩; have hq0 : Below w25.heap.size w25 wa0 := ((Below.refl w25.heap.size w25).drew).trans (hb27_0.mono ((Below.refl w25.heap.size w25).drew).size); have hz0 := hq0.size; have hs0 : w25.heap.size ≤ wa0.heap.size := hb27_0.size))
          | (go_at_call 15; ((with_reducible refine (to_Origin a1 _ wa0 w.heap.size (m1_26.below ((hq0).mono (B' := w.heap.size) (by omega))) (Nat.le_trans (show w.heap.size ≤ w25.heap.size by omega) (hq0).size) hn1).mono ?_); rintro e wa1 ⟨xv1, rfl, ox1, hb27_1⟩; have hq1 : Below w25.heap.size w25 wa1 := (hq0).trans (hb27_1.mono (hq0).size); have hz1 := hq1.size; have hs1 : wa0.heap.size ≤ wa1.heap.size := hb27_1.size; obtain rfl := ox1.form; have ox0 := ox0.below ((hb27_1).mono (B' := wa0.heap.size) (by omega))))
          | (go_at_call 36; ((with_reducible refine (HI.out _ _ wa1 wa1.heap.size (ox0.lst.mono (by omega)) (ox1.lst.mono (by omega)) (Nat.le_refl _) hn0 hn1 hw0 hw1  ).mono ?_); rintro e wF ⟨yv0, rfl, oy0, hbF⟩; have hqF : Below w25.heap.size w25 wF := hq1.trans (hbF.mono hq1.size); have hzF := hqF.size; have hzG := hbF.size; obtain ⟨Fao0, Fcap0, rfl⟩ := oy0.form)))
      all_goals (go_wp2_with fail; go_meet)
      all_goals exact ⟨_, rfl, rfl, oy0.mono (by omega) (Nat.le_refl _), hqF⟩
    case rest =>
      obtain ⟨y0_27, rfl, rfl, oy0_27, hb27⟩ := hcut
      generalize wc = w27 at *
      have z27 : w25.heap.size ≤ w27.heap.size := hb27.size
      clear q7 q8 q9
      have m0_28 := m0_26.below (hb27.mono (B' := w.heap.size) (by omega))
      have m1_28 := m1_26.below (hb27.mono (B' := w.heap.size) (by omega))
      have ky0_5_28 := ky0_5_26.below (hb27.mono (B' := w5.heap.size) (by omega))
      have kX0_28 := kX0_26.below (hb27.mono (B' := w7.heap.size) (by omega))
      have ky0_10_28 := ky0_10_26.below (hb27.mono (B' := w11.heap.size) (by omega))
      have bp1_28 := bp1_26.below hb27
      have C_28 := C_26.trans (hb27.mono (B' := w.heap.size) (by omega))
      clear m0_26 m1_26 ky0_5_26 kX0_26 ky0_10_26 bp1_26 C_26
      clear hb27
      have ky0_27_o := oy0_27.mono (L' := w25.heap.size) (B' := w27.heap.size) (by simp <;> omega) (Nat.le_refl _)
      clear oy0_27
      obtain ⟨aoy0_27, capy0_27, rfl⟩ := ky0_27_o.form
      go_wp2_with fail
      refine (eq_ArrivalS r0 _ _ _ (w27).heap.size (ky0_27_o.lst.mono (by omega)) (ky0_5_28.lst.mono (by omega)) (Nat.le_refl _)).mono ?_
      rintro e w29 ⟨rfl, hb29⟩
      have z29 : w27.heap.size ≤ w29.heap.size := hb29.size
      have m0_30 := m0_28.below (hb29.mono (B' := w.heap.size) (by omega))
      have m1_30 := m1_28.below (hb29.mono (B' := w.heap.size) (by omega))
      have ky0_5_30 := ky0_5_28.below (hb29.mono (B' := w5.heap.size) (by omega))
      have kX0_30 := kX0_28.below (hb29.mono (B' := w7.heap.size) (by omega))
      have ky0_10_30 := ky0_10_28.below (hb29.mono (B' := w11.heap.size) (by omega))
      have ky0_27_30 := ky0_27_o.below (hb29.mono (B' := w27.heap.size) (by omega))
      have bp1_30 := bp1_28.below hb29
      have C_30 := C_28.trans (hb29.mono (B' := w.heap.size) (by omega))
      clear m0_28 m1_28 ky0_5_28 kX0_28 ky0_10_28 ky0_27_o bp1_28 C_28
      clear hb29
      go_wp2_with fail
      refine (held_ArrivalS r0 _ (1) _ (w11.heap.size) ky0_10_30.lst (by omega) hl0 (by omega) (by omega)).mono ?_
      rintro e w31 ⟨rfl, hb31⟩
      have z31 : w29.heap.size ≤ w31.heap.size := hb31.size
      have m0_32 := m0_30.below (hb31.mono (B' := w.heap.size) (by omega))
      have m1_32 := m1_30.below (hb31.mono (B' := w.heap.size) (by omega))
      have ky0_5_32 := ky0_5_30.below (hb31.mono (B' := w5.heap.size) (by omega))
      have kX0_32 := kX0_30.below (hb31.mono (B' := w7.heap.size) (by omega))
      have ky0_10_32 := ky0_10_30.below (hb31.mono (B' := w11.heap.size) (by omega))
      have ky0_27_32 := ky0_27_30.below (hb31.mono (B' := w27.heap.size) (by omega))
      have bp1_32 := bp1_30.below hb31
      have C_32 := C_30.trans (hb31.mono (B' := w.heap.size) (by omega))
      clear m0_30 m1_30 ky0_5_30 kX0_30 ky0_10_30 ky0_27_30 bp1_30 C_30
      clear hb31
      have dq32 : ¬ (1 + (5 * r0.length : Int)) < 0 := by omega
      go_wp2
      go_ret
      exact ⟨rfl, C_32⟩

set_option maxRecDepth 100000 in
theorem walk_all {H : Type} {enc : TypeId × Value → H} {base : Nat} {w : World} (v0 : Value) {d0 : DataW H} {ps0 : List MemPlace} (hval0 : Value.okWide Try.prog w .any base 33 v0) (hd0 : DataW.Trod enc Try.prog w 0 (fun _ => true) true 33 v0 d0 ps0) (v1 : Value) {d1 : DataW H} {ps1 : List MemPlace} (hval1 : Value.okWide Try.prog w .any base 25 v1) (hd1 : DataW.Trod enc Try.prog w 0 (fun _ => true) true 25 v1 d1 ps1) :
    Calls Try.prog 9 #[v0, v1] w fun e w' => e = .returned (.bool true) ∧ Below w.heap.size w w' := by
  obtain ⟨a0, h0, hw0⟩ := open_ArrivalS hval0 hd0
  obtain ⟨a1, h1, hw1⟩ := open_Origin hval1 hd1
  by_cases g0 : (szsArrival a0 : Int) ≤ 1048576
  case neg => exact walk_big0 a0 v0 a1 v1 w h0 hw0 h1 hw1 g0
  exact walk_main a0 v0 a1 v1 w h0 hw0 h1 hw1 g0

set_option maxRecDepth 100000 in
theorem contract (H : Type) (enc : TypeId × Value → H) (W : World) (base : Nat) (args : Array Value) (ds gs : List (DataW H)) (before : List MemPlace)
    (hval : ∀ (j : Nat) t v, Try.f9.params[j]? = some t → args[j]? = some v → Value.okWide Try.prog W .any base t v)
    (hW : DataW.Whole enc Try.prog Try.f9.params.toList Rows.fnExactWithoutVotersSpec.vars false W args.toList ds gs before) :
    Calls Try.prog 9 args W fun e W' => ∃ v, e = .returned v ∧ Rows.fnExactWithoutVotersSpec.post enc Try.prog Try.f9 false true false false W args v W' := by
  have hW' := hW
  obtain ⟨p, q, hA0, hV, rfl, hfz, hnd⟩ := hW
  have hA : DataW.TrodAll enc Try.prog W 0 (fun _ => true) true Try.f9.params.toList args.toList ds p := hA0
  rw [Try.params9] at hA hval
  obtain ⟨v0, vs0, d0, ds0, p0, q0, hargs, rfl, rfl, h0, r0⟩ := trodAll_cons hA
  obtain ⟨v1, vs1, d1, ds1, p1, q1, rfl, rfl, rfl, h1, r1⟩ := trodAll_cons r0
  obtain ⟨rfl, rfl, rfl⟩ := trodAll_nil r1
  obtain rfl : args = #[v0, v1] := by cases args; simp_all
  refine lawPost rfl rfl Try.underlying4 (by kernel_rfl) (by kernel_rfl) hW' (fun hg => by subst hg; exact ⟨rfl, rfl, rfl⟩) ?_
  exact walk_all v0 (hval 0 33 v0 rfl rfl) h0 v1 (hval 1 25 v1 rfl rfl) h1

set_option maxRecDepth 100000 in
theorem lifted (os : Os) (started : os.Started) (H : Type) (enc : TypeId × Value → H) :
    ReturnsInHanded {} Try.checked os 9 .any (Rows.fnExactWithoutVotersSpec.pre6 enc Try.prog Try.f9 Rows.fnExactWithoutVotersRow.domain false) (Rows.fnExactWithoutVotersSpec.post enc Try.prog Try.f9 false true false false) := by
  refine returnsInHanded_of_change (C := Try.checked) (s := Rows.fnExactWithoutVotersSpec) own started (by kernel_rfl) Try.func9
    (ChangeSpec.witness6 (enc := enc) (C := Try.checked) (s := Rows.fnExactWithoutVotersSpec) false ⟨#[], #[.slice none 0 0, .agg #[.int .i64 0, .int .i64 0, .int .i64 0]], []⟩ 8 (by kernel_rfl) (by kernel_rfl) (by kernel_rfl) (by kernel_rfl)) ?_
  intro W base args ds gs before hval hW _ _
  exact contract H enc W base args ds gs before hval hW

theorem said : Rows.FnExactWithoutVotersSaid :=
  OpenClaim.holds_of_wide 9 Try.f9 rfl rfl rfl rfl rfl rfl rfl ⟨rfl, rfl, rfl, rfl, rfl⟩ rfl rfl rfl rfl rfl (by kernel_rfl) Try.func9 (by kernel_rfl)
    (of_decide_eq_true (by kernel_rfl)) (by unfold Func.isWrapper; first | (rw [if_pos (by decide +kernel)]; kernel_rfl) | (rw [if_neg (by decide +kernel)]; exact ⟨rfl, rfl⟩))
    (fun os started H enc _ => lifted os started H enc)

end Go.Proofs.Ytoogofceoinniab.fnExactWithoutVoters
