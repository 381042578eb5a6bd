/- FnExactOnPlaces: for every list of samples and every setting the law answers true; no condition. -/
import Derived.Test.YtklilfbokpljkabTgF
import Derived.Test.YtklilfbokpljkabTjF
import Derived.Deep.CutBlock
import Derived.Deep.CutRange
import Derived.Deep.DeepCutAuto
namespace Go.Proofs.Ytklilfbokpljkab.fnExactOnPlaces
open Go.ChangeShapes Go.WideShapes Go.ChangeAt Go.RowKit Go.ChangeMaps
set_option linter.unusedSimpArgs false
set_option linter.unusedVariables false

theorem own : ownKnob Try.prog.godebug = none := by kernel_rfl


set_option maxRecDepth 100000 in
set_option maxHeartbeats 1000000 in
theorem walk_big0 (a0 : List Int) (v0 : Value) (a1 : GSetting) (v1 : Value) (w : World) (h0 : Lst (Value.int .i64) w w.heap.size v0 a0) (hw0 : ∀ x ∈ a0, I64 x) (h1 : SettingVL w w.heap.size v1 a1) (hw1 : wfSetting a1)  (g0 : ¬ (a0.length : Int) ≤ 1048576):
    Calls Try.prog 8 #[v0, v1] w fun e w' => e = .returned (.bool true) ∧ Below w.heap.size w w' := by
  obtain rfl := h1.form
  have N1 := (Below.refl (w).heap.size w).alloc (Nat.le_refl _) (.cells #[.int .i64 a1.pShort, .int .i64 a1.pLong, .int .i64 a1.pOn, .int .i64 a1.pOff] 24)
  have bx1 : Bx (w.alloc (.cells #[.int .i64 a1.pShort, .int .i64 a1.pLong, .int .i64 a1.pOn, .int .i64 a1.pOff] 24)) (w.heap.size) [.int .i64 a1.pShort, .int .i64 a1.pLong, .int .i64 a1.pOn, .int .i64 a1.pOff] := Bx.new w [.int .i64 a1.pShort, .int .i64 a1.pLong, .int .i64 a1.pOn, .int .i64 a1.pOff] 24
  have m0_2 := h0.below (N1.mono (B' := w.heap.size) (by omega))
  have m1_2 := h1.below (N1.mono (B' := w.heap.size) (by omega))
  have C_2 := N1
  clear h0 h1
  clear N1
  go_enter Try.func8, Try.ntmps8
  obtain ⟨ao, cap, rfl⟩ := m0_2.form
  go_wp2
  go_ret
  exact ⟨rfl, C_2⟩

set_option maxRecDepth 100000 in
set_option maxHeartbeats 1000000 in
theorem walk_main (a0 : List Int) (v0 : Value) (a1 : GSetting) (v1 : Value) (w : World) (h0 : Lst (Value.int .i64) w w.heap.size v0 a0) (hw0 : ∀ x ∈ a0, I64 x) (h1 : SettingVL w w.heap.size v1 a1) (hw1 : wfSetting a1) (g0 : (a0.length : Int) ≤ 1048576):
    Calls Try.prog 8 #[v0, v1] w fun e w' => e = .returned (.bool true) ∧ Below w.heap.size w w' := by
  have hn0 : a0.length ≤ 1048576 := by first | omega | exact Nat.zero_le _
  have hn1 : sz1Setting a1 ≤ 1048576 := by first | omega | exact Nat.zero_le _
  have hS := fun v0 v1 w B => specOns a0 v0 a1 v1 w B
  have hI := fun v0 v1 w B  => implOns a0 v0 a1 v1 w B 
  have hl0 : (onsT a0 a1).length ≤ 1048576 := onsT_len a0 a1 hn0
  generalize onsT a0 a1 = r0 at *
  generalize goodTg a0 a1 = r1 at *
  have HS := Lib.hid hS
  have HI := Lib.hid hI
  clear hS hI
  obtain rfl := h1.form
  have N1 := (Below.refl (w).heap.size w).alloc (Nat.le_refl _) (.cells #[.int .i64 a1.pShort, .int .i64 a1.pLong, .int .i64 a1.pOn, .int .i64 a1.pOff] 24)
  have bx1 : Bx (w.alloc (.cells #[.int .i64 a1.pShort, .int .i64 a1.pLong, .int .i64 a1.pOn, .int .i64 a1.pOff] 24)) (w.heap.size) [.int .i64 a1.pShort, .int .i64 a1.pLong, .int .i64 a1.pOn, .int .i64 a1.pOff] := Bx.new w [.int .i64 a1.pShort, .int .i64 a1.pLong, .int .i64 a1.pOn, .int .i64 a1.pOff] 24
  have m0_2 := h0.below (N1.mono (B' := w.heap.size) (by omega))
  have m1_2 := h1.below (N1.mono (B' := w.heap.size) (by omega))
  have C_2 := N1
  clear h0 h1
  clear N1
  obtain ⟨ao0, cap0, rfl⟩ := m0_2.form
  go_enter Try.func8, Try.ntmps8
  have z3 : w.heap.size + 1 ≤ ((w.alloc (.cells #[.int .i64 a1.pShort, .int .i64 a1.pLong, .int .i64 a1.pOn, .int .i64 a1.pOff] 24))).heap.size := by simp
  obtain ⟨w3, hw9⟩ : ∃ w9, (w.alloc (.cells #[.int .i64 a1.pShort, .int .i64 a1.pLong, .int .i64 a1.pOn, .int .i64 a1.pOff] 24)) = w9 := ⟨_, rfl⟩
  (try rw [hw9] at m0_2)
  (try rw [hw9] at m1_2)
  (try rw [hw9] at bx1)
  (try rw [hw9] at C_2)
  (try rw [hw9] at z3)
  have q1 := bx1.2 0 _ rfl
  have q2 := bx1.2 1 _ rfl
  have q3 := bx1.2 2 _ rfl
  have q4 := bx1.2 3 _ rfl
  go_upto_region 3 with (fail)
  clear hw9
  go_cut [5, 6] from 18 to 25 (fun s0 s1 wx => ∃ v0, s0 = v0 ∧ s1 = .bool r1 ∧ Own (Value.int .i64) wx (w3).heap.size wx.heap.size v0 r0 ∧ Below (w3).heap.size w3 wx)
  case first =>
    have hS : ∀ w', Below w3.heap.size w3 w' → Below w3.heap.size w3 w' ∧ w'.cell? ⟨w.heap.size, 0, none⟩ = some (.int .i64 a1.pShort) ∧ w'.cell? ⟨w.heap.size, 1, none⟩ = some (.int .i64 a1.pLong) ∧ w'.cell? ⟨w.heap.size, 2, none⟩ = some (.int .i64 a1.pOn) ∧ w'.cell? ⟨w.heap.size, 3, none⟩ = some (.int .i64 a1.pOff) := fun w' q => ⟨q, (bx1.below q).2 0 _ rfl, (bx1.below q).2 1 _ rfl, (bx1.below q).2 2 _ rfl, (bx1.below q).2 3 _ rfl⟩
    have HS0 := Lib.hid hS
    clear hS
    go_wp2_with fail
    go_region_held3 (fun w' => Below w3.heap.size w3 w' ∧ w'.cell? ⟨w.heap.size, 0, none⟩ = some (.int .i64 a1.pShort) ∧ w'.cell? ⟨w.heap.size, 1, none⟩ = some (.int .i64 a1.pLong) ∧ w'.cell? ⟨w.heap.size, 2, none⟩ = some (.int .i64 a1.pOn) ∧ w'.cell? ⟨w.heap.size, 3, none⟩ = some (.int .i64 a1.pOff))
      (first
        | exact HS0.out _ (Below.refl _ _).drew
        | (with_reducible refine HS0.out _ ?_; with_reducible assumption)
        | fail "no way")
      (first
        | (go_at_call 16; ((with_reducible refine (to_IntS a0 _ w3.drew w.heap.size (m0_2.below (((Below.refl w3.heap.size w3).drew).mono (B' := w.heap.size) (by omega))) (Nat.le_trans (show w.heap.size ≤ w3.heap.size by omega) ((Below.refl w3.heap.size w3).drew).size) hn0).mono ?_); rintro e wa0 ⟨xv0, rfl, ox0, hb4_0⟩; have hq0 : Below w3.heap.size w3 wa0 := ((Below.refl w3.heap.size w3).drew).trans (hb4_0.mono ((Below.refl w3.heap.size w3).drew).size); have hz0 := hq0.size; have hs0 : w3.heap.size ≤ wa0.heap.size := hb4_0.size))
        | (go_at_call 17; ((with_reducible refine (to_Setting a1 _ wa0 w.heap.size (m1_2.below ((hq0).mono (B' := w.heap.size) (by omega))) (Nat.le_trans (show w.heap.size ≤ w3.heap.size by omega) (hq0).size) hn1).mono ?_); rintro e wa1 ⟨xv1, rfl, ox1, hb4_1⟩; have hq1 : Below w3.heap.size w3 wa1 := (hq0).trans (hb4_1.mono (hq0).size); have hz1 := hq1.size; have hs1 : wa0.heap.size ≤ wa1.heap.size := hb4_1.size; obtain rfl := ox1.form; have ox0 := ox0.below ((hb4_1).mono (B' := wa0.heap.size) (by omega))))
        | (go_at_call 28; ((with_reducible refine (HS.out _ _ wa1 wa1.heap.size (ox0.lst.mono (by omega)) (ox1.lst.mono (by omega)) (Nat.le_refl _) hn0 hn1 hw1  ).mono ?_); rintro e wF ⟨yv0, rfl, oy0, hbF⟩; have hqF : Below w3.heap.size w3 wF := hq1.trans (hbF.mono hq1.size); have hzF := hqF.size; have hzG := hbF.size; obtain ⟨Fao0, Fcap0, rfl⟩ := oy0.form)))
    all_goals (go_wp2_with fail; go_meet)
    all_goals exact ⟨_, rfl, rfl, oy0.mono (by omega) (Nat.le_refl _), hqF⟩
  case rest =>
    obtain ⟨y0_4, rfl, rfl, oy0_4, hb4⟩ := hcut
    generalize wc = w4 at *
    have z4 : w3.heap.size ≤ w4.heap.size := hb4.size
    clear q1 q2 q3 q4
    have m0_5 := m0_2.below (hb4.mono (B' := w.heap.size) (by omega))
    have m1_5 := m1_2.below (hb4.mono (B' := w.heap.size) (by omega))
    have bp1_5 := bx1.below hb4
    have C_5 := C_2.trans (hb4.mono (B' := w.heap.size) (by omega))
    clear m0_2 m1_2 bx1 C_2
    clear hb4
    have ky0_4_o := oy0_4.mono (L' := w3.heap.size) (B' := w4.heap.size) (by simp <;> omega) (Nat.le_refl _)
    clear oy0_4
    obtain ⟨aoy0_4, capy0_4, rfl⟩ := ky0_4_o.form
    go_wp2_with fail
    refine (to_IntS a0 _ _ w.heap.size m0_5 (by omega) hn0).mono ?_
    rintro e w6 ⟨X0, rfl, oX0, hb6⟩
    have z6 : w4.heap.size ≤ w6.heap.size := hb6.size
    have m0_7 := m0_5.below (hb6.mono (B' := w.heap.size) (by omega))
    have m1_7 := m1_5.below (hb6.mono (B' := w.heap.size) (by omega))
    have ky0_4_7 := ky0_4_o.below (hb6.mono (B' := w4.heap.size) (by omega))
    have bp1_7 := bp1_5.below hb6
    have C_7 := C_5.trans (hb6.mono (B' := w.heap.size) (by omega))
    clear m0_5 m1_5 ky0_4_o bp1_5 C_5
    clear hb6
    have kX0_o := oX0.mono (L' := w4.heap.size) (B' := w6.heap.size) (by simp <;> omega) (Nat.le_refl _)
    clear oX0
    have q5 := bp1_7.2 0 _ rfl
    have q6 := bp1_7.2 1 _ rfl
    have q7 := bp1_7.2 2 _ rfl
    have q8 := bp1_7.2 3 _ rfl
    go_wp2_with fail
    refine (to_Setting a1 _ _ w.heap.size m1_7 (by omega) hn1).mono ?_
    rintro e w8 ⟨x8, rfl, ox8, hb8⟩
    have z8 : w6.heap.size ≤ w8.heap.size := hb8.size
    clear q5 q6 q7 q8
    have m0_9 := m0_7.below (hb8.mono (B' := w.heap.size) (by omega))
    have m1_9 := m1_7.below (hb8.mono (B' := w.heap.size) (by omega))
    have ky0_4_9 := ky0_4_7.below (hb8.mono (B' := w4.heap.size) (by omega))
    have kX0_9 := kX0_o.below (hb8.mono (B' := w6.heap.size) (by omega))
    have bp1_9 := bp1_7.below hb8
    have C_9 := C_7.trans (hb8.mono (B' := w.heap.size) (by omega))
    clear m0_7 m1_7 ky0_4_7 kX0_o bp1_7 C_7
    clear hb8
    have kx8_o := ox8.mono (L' := w6.heap.size) (B' := w8.heap.size) (by simp <;> omega) (Nat.le_refl _)
    clear ox8
    obtain rfl := kx8_o.form
    go_wp2_with fail
    refine (HI.out _ _ _ (w8).heap.size  (kX0_9.lst.mono (by omega)) (kx8_o.lst.mono (by omega)) (Nat.le_refl _) hn0 hn1 hw1  ).mono ?_
    rintro e w10 ⟨y0_9, rfl, oy0_9, hb10⟩
    have z10 : w8.heap.size ≤ w10.heap.size := hb10.size
    have m0_11 := m0_9.below (hb10.mono (B' := w.heap.size) (by omega))
    have m1_11 := m1_9.below (hb10.mono (B' := w.heap.size) (by omega))
    have ky0_4_11 := ky0_4_9.below (hb10.mono (B' := w4.heap.size) (by omega))
    have kX0_11 := kX0_9.below (hb10.mono (B' := w6.heap.size) (by omega))
    have kx8_11 := kx8_o.below (hb10.mono (B' := w8.heap.size) (by omega))
    have bp1_11 := bp1_9.below hb10
    have C_11 := C_9.trans (hb10.mono (B' := w.heap.size) (by omega))
    clear m0_9 m1_9 ky0_4_9 kX0_9 kx8_o bp1_9 C_9
    clear hb10
    have ky0_9_o := oy0_9.mono (L' := w8.heap.size) (B' := w10.heap.size) (by simp <;> omega) (Nat.le_refl _)
    clear oy0_9
    obtain ⟨aoy0_9, capy0_9, rfl⟩ := ky0_9_o.form
    clear kx8_11
    go_wp2_with fail
    refine (eq_IntS r0 _ _ _ (w10).heap.size (ky0_9_o.lst.mono (by omega)) (ky0_4_11.lst.mono (by omega)) (Nat.le_refl _)).mono ?_
    rintro e w12 ⟨rfl, hb12⟩
    have z12 : w10.heap.size ≤ w12.heap.size := hb12.size
    have m0_13 := m0_11.below (hb12.mono (B' := w.heap.size) (by omega))
    have m1_13 := m1_11.below (hb12.mono (B' := w.heap.size) (by omega))
    have ky0_4_13 := ky0_4_11.below (hb12.mono (B' := w4.heap.size) (by omega))
    have kX0_13 := kX0_11.below (hb12.mono (B' := w6.heap.size) (by omega))
    have ky0_9_13 := ky0_9_o.below (hb12.mono (B' := w10.heap.size) (by omega))
    have bp1_13 := bp1_11.below hb12
    have C_13 := C_11.trans (hb12.mono (B' := w.heap.size) (by omega))
    clear m0_11 m1_11 ky0_4_11 kX0_11 ky0_9_o bp1_11 C_11
    clear hb12
    go_wp2_with fail
    refine (to_IntS a0 _ _ w.heap.size m0_13 (by omega) hn0).mono ?_
    rintro e w14 ⟨T0, rfl, oT0, hb14⟩
    have z14 : w12.heap.size ≤ w14.heap.size := hb14.size
    have m0_15 := m0_13.below (hb14.mono (B' := w.heap.size) (by omega))
    have m1_15 := m1_13.below (hb14.mono (B' := w.heap.size) (by omega))
    have ky0_4_15 := ky0_4_13.below (hb14.mono (B' := w4.heap.size) (by omega))
    have kX0_15 := kX0_13.below (hb14.mono (B' := w6.heap.size) (by omega))
    have ky0_9_15 := ky0_9_13.below (hb14.mono (B' := w10.heap.size) (by omega))
    have bp1_15 := bp1_13.below hb14
    have C_15 := C_13.trans (hb14.mono (B' := w.heap.size) (by omega))
    clear m0_13 m1_13 ky0_4_13 kX0_13 ky0_9_13 bp1_13 C_13
    clear hb14
    have kT0_o := oT0.mono (L' := w12.heap.size) (B' := w14.heap.size) (by simp <;> omega) (Nat.le_refl _)
    clear oT0
    go_wp2_with fail
    refine (eq_IntS a0 _ _ _ (w14).heap.size (kX0_15.lst.mono (by omega)) (kT0_o.lst.mono (by omega)) (Nat.le_refl _)).mono ?_
    rintro e w16 ⟨rfl, hb16⟩
    have z16 : w14.heap.size ≤ w16.heap.size := hb16.size
    have m0_17 := m0_15.below (hb16.mono (B' := w.heap.size) (by omega))
    have m1_17 := m1_15.below (hb16.mono (B' := w.heap.size) (by omega))
    have ky0_4_17 := ky0_4_15.below (hb16.mono (B' := w4.heap.size) (by omega))
    have kX0_17 := kX0_15.below (hb16.mono (B' := w6.heap.size) (by omega))
    have ky0_9_17 := ky0_9_15.below (hb16.mono (B' := w10.heap.size) (by omega))
    have kT0_17 := kT0_o.below (hb16.mono (B' := w14.heap.size) (by omega))
    have bp1_17 := bp1_15.below hb16
    have C_17 := C_15.trans (hb16.mono (B' := w.heap.size) (by omega))
    clear m0_15 m1_15 ky0_4_15 kX0_15 ky0_9_15 kT0_o bp1_15 C_15
    clear hb16
    clear kT0_17
    go_wp2_with fail
    refine (mark_IntS a0 _ (1) _ (w4.heap.size) w6.heap.size kX0_17 (by omega) hn0 (by omega) (by omega)).mono ?_
    rintro e w18 ⟨rfl, mk, hu18⟩
    have z18 : w16.heap.size ≤ w18.heap.size := hu18.size
    have m0_19 := m0_17.below (hu18.low (B := w.heap.size) (by omega) (by omega))
    have m1_19 := m1_17.below (hu18.low (B := w.heap.size) (by omega) (by omega))
    have ky0_4_19 := ky0_4_17.below (hu18.low (B := w4.heap.size) (by omega) (by omega))
    have ky0_9_19 := ky0_9_17.high hu18 (by omega)
    have bp1_19 := bp1_17.upd hu18 (by omega)
    have C_19 := C_17.trans (hu18.low (B := w.heap.size) (by omega) (by omega))
    clear m0_17 m1_17 ky0_4_17 ky0_9_17 bp1_17 C_17
    clear hu18
    clear kX0_17
    have kX0_m18 := mk
    clear mk
    have dk19 : ¬ (1 + (a0.length : Int)) < 0 := by omega
    go_wp2_with fail
    refine (eq_IntS r0 _ _ _ (w18).heap.size (ky0_9_19.lst.mono (by omega)) (ky0_4_19.lst.mono (by omega)) (Nat.le_refl _)).mono ?_
    rintro e w20 ⟨rfl, hb20⟩
    have z20 : w18.heap.size ≤ w20.heap.size := hb20.size
    have m0_21 := m0_19.below (hb20.mono (B' := w.heap.size) (by omega))
    have m1_21 := m1_19.below (hb20.mono (B' := w.heap.size) (by omega))
    have ky0_4_21 := ky0_4_19.below (hb20.mono (B' := w4.heap.size) (by omega))
    have kX0_21 := kX0_m18.below (hb20.mono (B' := w6.heap.size) (by omega))
    have ky0_9_21 := ky0_9_19.below (hb20.mono (B' := w10.heap.size) (by omega))
    have bp1_21 := bp1_19.below hb20
    have C_21 := C_19.trans (hb20.mono (B' := w.heap.size) (by omega))
    clear m0_19 m1_19 ky0_4_19 kX0_m18 ky0_9_19 bp1_19 C_19
    clear hb20
    go_wp2_with fail
    refine (mark_IntS r0 _ (1) _ (w8.heap.size) w10.heap.size ky0_9_21 (by omega) hl0 (by omega) (by omega)).mono ?_
    rintro e w22 ⟨rfl, mk, hu22⟩
    have z22 : w20.heap.size ≤ w22.heap.size := hu22.size
    have m0_23 := m0_21.below (hu22.low (B := w.heap.size) (by omega) (by omega))
    have m1_23 := m1_21.below (hu22.low (B := w.heap.size) (by omega) (by omega))
    have ky0_4_23 := ky0_4_21.below (hu22.low (B := w4.heap.size) (by omega) (by omega))
    have kX0_23 := kX0_21.below (hu22.low (B := w6.heap.size) (by omega) (by omega))
    have bp1_23 := bp1_21.upd hu22 (by omega)
    have C_23 := C_21.trans (hu22.low (B := w.heap.size) (by omega) (by omega))
    clear m0_21 m1_21 ky0_4_21 kX0_21 bp1_21 C_21
    clear hu22
    clear ky0_9_21
    have ky0_9_m22 := mk
    clear mk
    go_wp2_with fail
    refine (held_IntS r0 _ (1) _ (w10.heap.size) ky0_9_m22.lst (by omega) hl0 (by omega) (by omega)).mono ?_
    rintro e w24 ⟨rfl, hb24⟩
    have z24 : w22.heap.size ≤ w24.heap.size := hb24.size
    have m0_25 := m0_23.below (hb24.mono (B' := w.heap.size) (by omega))
    have m1_25 := m1_23.below (hb24.mono (B' := w.heap.size) (by omega))
    have ky0_4_25 := ky0_4_23.below (hb24.mono (B' := w4.heap.size) (by omega))
    have kX0_25 := kX0_23.below (hb24.mono (B' := w6.heap.size) (by omega))
    have ky0_9_25 := ky0_9_m22.below (hb24.mono (B' := w10.heap.size) (by omega))
    have bp1_25 := bp1_23.below hb24
    have C_25 := C_23.trans (hb24.mono (B' := w.heap.size) (by omega))
    clear m0_23 m1_23 ky0_4_23 kX0_23 ky0_9_m22 bp1_23 C_23
    clear hb24
    have dq25 : ¬ (1 + (r0.length : Int)) < 0 := by omega
    have q9 := bp1_25.2 0 _ rfl
    have q10 := bp1_25.2 1 _ rfl
    have q11 := bp1_25.2 2 _ rfl
    have q12 := bp1_25.2 3 _ rfl
    go_upto_region 22 with (fail)
    go_cut [13, 14] from 76 to 83 (fun s0 s1 wx => ∃ v0, s0 = v0 ∧ s1 = .bool r1 ∧ Own (Value.int .i64) wx (w24).heap.size wx.heap.size v0 r0 ∧ Below (w24).heap.size w24 wx)
    case first =>
      have hS : ∀ w', Below w24.heap.size w24 w' → Below w24.heap.size w24 w' ∧ w'.cell? ⟨w.heap.size, 0, none⟩ = some (.int .i64 a1.pShort) ∧ w'.cell? ⟨w.heap.size, 1, none⟩ = some (.int .i64 a1.pLong) ∧ w'.cell? ⟨w.heap.size, 2, none⟩ = some (.int .i64 a1.pOn) ∧ w'.cell? ⟨w.heap.size, 3, none⟩ = some (.int .i64 a1.pOff) := fun w' q => ⟨q, (bp1_25.below q).2 0 _ rfl, (bp1_25.below q).2 1 _ rfl, (bp1_25.below q).2 2 _ rfl, (bp1_25.below q).2 3 _ rfl⟩
      have HS0 := Lib.hid hS
      clear hS
      go_wp2_with fail
      go_region_held3 (fun w' => Below w24.heap.size w24 w' ∧ w'.cell? ⟨w.heap.size, 0, none⟩ = some (.int .i64 a1.pShort) ∧ w'.cell? ⟨w.heap.size, 1, none⟩ = some (.int .i64 a1.pLong) ∧ w'.cell? ⟨w.heap.size, 2, none⟩ = some (.int .i64 a1.pOn) ∧ w'.cell? ⟨w.heap.size, 3, none⟩ = some (.int .i64 a1.pOff))
        (first
          | exact HS0.out _ (Below.refl _ _).drew
          | (with_reducible refine HS0.out _ ?_; with_reducible assumption)
          | fail "no way")
        (first
          | (go_at_call 16; ((with_reducible refine (to_IntS a0 _ w24.drew w.heap.size (m0_25.below (((Below.refl w24.heap.size w24).drew).mono (B' := w.heap.size) (by omega))) (Nat.le_trans (show w.heap.size ≤ w24.heap.size by omega) ((Below.refl w24.heap.size w24).drew).size) hn0).mono ?_); rintro e wa0 ⟨xv0, rfl, ox0, hb26_0⟩; have hq0 : Below w24.heap.size w24 wa0 := ((Below.refl w24.heap.size w24).drew).trans (hb26_0.mono ((Below.refl w24.heap.size w24).drew).size); have hz0 := hq0.size; have hs0 : w24.heap.size ≤ wa0.heap.size := hb26_0.size))
          | (go_at_call 17; ((with_reducible refine (to_Setting a1 _ wa0 w.heap.size (m1_25.below ((hq0).mono (B' := w.heap.size) (by omega))) (Nat.le_trans (show w.heap.size ≤ w24.heap.size by omega) (hq0).size) hn1).mono ?_); rintro e wa1 ⟨xv1, rfl, ox1, hb26_1⟩; have hq1 : Below w24.heap.size w24 wa1 := (hq0).trans (hb26_1.mono (hq0).size); have hz1 := hq1.size; have hs1 : wa0.heap.size ≤ wa1.heap.size := hb26_1.size; obtain rfl := ox1.form; have ox0 := ox0.below ((hb26_1).mono (B' := wa0.heap.size) (by omega))))
          | (go_at_call 29; ((with_reducible refine (HI.out _ _ wa1 wa1.heap.size (ox0.lst.mono (by omega)) (ox1.lst.mono (by omega)) (Nat.le_refl _) hn0 hn1 hw1  ).mono ?_); rintro e wF ⟨yv0, rfl, oy0, hbF⟩; have hqF : Below w24.heap.size w24 wF := hq1.trans (hbF.mono hq1.size); have hzF := hqF.size; have hzG := hbF.size; obtain ⟨Fao0, Fcap0, rfl⟩ := oy0.form)))
      all_goals (go_wp2_with fail; go_meet)
      all_goals exact ⟨_, rfl, rfl, oy0.mono (by omega) (Nat.le_refl _), hqF⟩
    case rest =>
      obtain ⟨y0_26, rfl, rfl, oy0_26, hb26⟩ := hcut
      generalize wc = w26 at *
      have z26 : w24.heap.size ≤ w26.heap.size := hb26.size
      clear q9 q10 q11 q12
      have m0_27 := m0_25.below (hb26.mono (B' := w.heap.size) (by omega))
      have m1_27 := m1_25.below (hb26.mono (B' := w.heap.size) (by omega))
      have ky0_4_27 := ky0_4_25.below (hb26.mono (B' := w4.heap.size) (by omega))
      have kX0_27 := kX0_25.below (hb26.mono (B' := w6.heap.size) (by omega))
      have ky0_9_27 := ky0_9_25.below (hb26.mono (B' := w10.heap.size) (by omega))
      have bp1_27 := bp1_25.below hb26
      have C_27 := C_25.trans (hb26.mono (B' := w.heap.size) (by omega))
      clear m0_25 m1_25 ky0_4_25 kX0_25 ky0_9_25 bp1_25 C_25
      clear hb26
      have ky0_26_o := oy0_26.mono (L' := w24.heap.size) (B' := w26.heap.size) (by simp <;> omega) (Nat.le_refl _)
      clear oy0_26
      obtain ⟨aoy0_26, capy0_26, rfl⟩ := ky0_26_o.form
      go_wp2_with fail
      refine (eq_IntS r0 _ _ _ (w26).heap.size (ky0_26_o.lst.mono (by omega)) (ky0_4_27.lst.mono (by omega)) (Nat.le_refl _)).mono ?_
      rintro e w28 ⟨rfl, hb28⟩
      have z28 : w26.heap.size ≤ w28.heap.size := hb28.size
      have m0_29 := m0_27.below (hb28.mono (B' := w.heap.size) (by omega))
      have m1_29 := m1_27.below (hb28.mono (B' := w.heap.size) (by omega))
      have ky0_4_29 := ky0_4_27.below (hb28.mono (B' := w4.heap.size) (by omega))
      have kX0_29 := kX0_27.below (hb28.mono (B' := w6.heap.size) (by omega))
      have ky0_9_29 := ky0_9_27.below (hb28.mono (B' := w10.heap.size) (by omega))
      have ky0_26_29 := ky0_26_o.below (hb28.mono (B' := w26.heap.size) (by omega))
      have bp1_29 := bp1_27.below hb28
      have C_29 := C_27.trans (hb28.mono (B' := w.heap.size) (by omega))
      clear m0_27 m1_27 ky0_4_27 kX0_27 ky0_9_27 ky0_26_o bp1_27 C_27
      clear hb28
      go_wp2_with fail
      refine (held_IntS r0 _ (1) _ (w10.heap.size) ky0_9_29.lst (by omega) hl0 (by omega) (by omega)).mono ?_
      rintro e w30 ⟨rfl, hb30⟩
      have z30 : w28.heap.size ≤ w30.heap.size := hb30.size
      have m0_31 := m0_29.below (hb30.mono (B' := w.heap.size) (by omega))
      have m1_31 := m1_29.below (hb30.mono (B' := w.heap.size) (by omega))
      have ky0_4_31 := ky0_4_29.below (hb30.mono (B' := w4.heap.size) (by omega))
      have kX0_31 := kX0_29.below (hb30.mono (B' := w6.heap.size) (by omega))
      have ky0_9_31 := ky0_9_29.below (hb30.mono (B' := w10.heap.size) (by omega))
      have ky0_26_31 := ky0_26_29.below (hb30.mono (B' := w26.heap.size) (by omega))
      have bp1_31 := bp1_29.below hb30
      have C_31 := C_29.trans (hb30.mono (B' := w.heap.size) (by omega))
      clear m0_29 m1_29 ky0_4_29 kX0_29 ky0_9_29 ky0_26_29 bp1_29 C_29
      clear hb30
      have dq31 : ¬ (1 + (r0.length : Int)) < 0 := by omega
      go_wp2
      go_ret
      exact ⟨rfl, C_31⟩

set_option maxRecDepth 100000 in
theorem walk_all {H : Type} {enc : TypeId × Value → H} {base : Nat} {w : World} (v0 : Value) {d0 : DataW H} {ps0 : List MemPlace} (hval0 : Value.okWide Try.prog w .any base 22 v0) (hd0 : DataW.Trod enc Try.prog w 0 (fun _ => true) true 22 v0 d0 ps0) (v1 : Value) {d1 : DataW H} {ps1 : List MemPlace} (hval1 : Value.okWide Try.prog w .any base 24 v1) (hd1 : DataW.Trod enc Try.prog w 0 (fun _ => true) true 24 v1 d1 ps1) :
    Calls Try.prog 8 #[v0, v1] w fun e w' => e = .returned (.bool true) ∧ Below w.heap.size w w' := by
  obtain ⟨a0, h0, hw0⟩ := open_IntS hval0 hd0
  obtain ⟨a1, h1, hw1⟩ := open_Setting hval1 hd1
  by_cases g0 : (a0.length : Int) ≤ 1048576
  case neg => exact walk_big0 a0 v0 a1 v1 w h0 hw0 h1 hw1 g0
  exact walk_main a0 v0 a1 v1 w h0 hw0 h1 hw1 g0

set_option maxRecDepth 100000 in
theorem contract (H : Type) (enc : TypeId × Value → H) (W : World) (base : Nat) (args : Array Value) (ds gs : List (DataW H)) (before : List MemPlace)
    (hval : ∀ (j : Nat) t v, Try.f8.params[j]? = some t → args[j]? = some v → Value.okWide Try.prog W .any base t v)
    (hW : DataW.Whole enc Try.prog Try.f8.params.toList Rows.fnExactOnPlacesSpec.vars false W args.toList ds gs before) :
    Calls Try.prog 8 args W fun e W' => ∃ v, e = .returned v ∧ Rows.fnExactOnPlacesSpec.post enc Try.prog Try.f8 false true false false W args v W' := by
  have hW' := hW
  obtain ⟨p, q, hA0, hV, rfl, hfz, hnd⟩ := hW
  have hA : DataW.TrodAll enc Try.prog W 0 (fun _ => true) true Try.f8.params.toList args.toList ds p := hA0
  rw [Try.params8] at hA hval
  obtain ⟨v0, vs0, d0, ds0, p0, q0, hargs, rfl, rfl, h0, r0⟩ := trodAll_cons hA
  obtain ⟨v1, vs1, d1, ds1, p1, q1, rfl, rfl, rfl, h1, r1⟩ := trodAll_cons r0
  obtain ⟨rfl, rfl, rfl⟩ := trodAll_nil r1
  obtain rfl : args = #[v0, v1] := by cases args; simp_all
  refine lawPost rfl rfl Try.underlying4 (by kernel_rfl) (by kernel_rfl) hW' (fun hg => by subst hg; exact ⟨rfl, rfl, rfl⟩) ?_
  exact walk_all v0 (hval 0 22 v0 rfl rfl) h0 v1 (hval 1 24 v1 rfl rfl) h1

set_option maxRecDepth 100000 in
theorem lifted (os : Os) (started : os.Started) (H : Type) (enc : TypeId × Value → H) :
    ReturnsInHanded {} Try.checked os 8 .any (Rows.fnExactOnPlacesSpec.pre6 enc Try.prog Try.f8 Rows.fnExactOnPlacesRow.domain false) (Rows.fnExactOnPlacesSpec.post enc Try.prog Try.f8 false true false false) := by
  refine returnsInHanded_of_change (C := Try.checked) (s := Rows.fnExactOnPlacesSpec) own started (by kernel_rfl) Try.func8
    (ChangeSpec.witness6 (enc := enc) (C := Try.checked) (s := Rows.fnExactOnPlacesSpec) false ⟨#[], #[.slice none 0 0, .agg #[.int .i64 0, .int .i64 0, .int .i64 0, .int .i64 0]], []⟩ 8 (by kernel_rfl) (by kernel_rfl) (by kernel_rfl) (by kernel_rfl)) ?_
  intro W base args ds gs before hval hW _ _
  exact contract H enc W base args ds gs before hval hW

theorem said : Rows.FnExactOnPlacesSaid :=
  OpenClaim.holds_of_wide 8 Try.f8 rfl rfl rfl rfl rfl rfl rfl ⟨rfl, rfl, rfl, rfl, rfl⟩ rfl rfl rfl rfl rfl (by kernel_rfl) Try.func8 (by kernel_rfl)
    (of_decide_eq_true (by kernel_rfl)) (by unfold Func.isWrapper; first | (rw [if_pos (by decide +kernel)]; kernel_rfl) | (rw [if_neg (by decide +kernel)]; exact ⟨rfl, rfl⟩))
    (fun os started H enc _ => lifted os started H enc)

end Go.Proofs.Ytklilfbokpljkab.fnExactOnPlaces
