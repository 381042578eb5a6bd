/- FnExactWeighted: for every two lists of integers the law answers true; no condition. -/
import Derived.Test.YtgokoeomoejcdaaFiF
import Derived.Test.YtgokoeomoejcdaaFkD
namespace Go.Proofs.Ytgokoeomoejcdaa.fnExactWeighted
open Go.ChangeShapes Go.WideShapes Go.ChangeAt Go.RowKit Go.ChangeMaps
set_option linter.unusedSimpArgs false
set_option linter.unusedVariables false

theorem own : ownKnob Try.prog.godebug = none := by kernel_rfl


set_option maxRecDepth 100000 in
set_option maxHeartbeats 1000000 in
theorem walk_big0 (a0 : List Int) (v0 : Value) (a1 : List Int) (v1 : Value) (w : World) (h0 : Lst (Value.int .i64) w w.heap.size v0 a0) (hw0 : ∀ x ∈ a0, I64 x) (h1 : Lst (Value.int .i64) w w.heap.size v1 a1) (hw1 : ∀ x ∈ a1, I64 x)  (g0 : ¬ (a0.length : Int) ≤ 1048576):
    Calls Try.prog 11 #[v0, v1] w fun e w' => e = .returned (.bool true) ∧ Below w.heap.size w w' := by
  have C_0 := Below.refl w.heap.size w
  go_enter Try.func11, Try.ntmps11
  obtain ⟨ao, cap, rfl⟩ := h0.form
  go_wp2
  go_ret
  exact ⟨rfl, C_0⟩

set_option maxRecDepth 100000 in
set_option maxHeartbeats 1000000 in
theorem walk_big1 (a0 : List Int) (v0 : Value) (a1 : List Int) (v1 : Value) (w : World) (h0 : Lst (Value.int .i64) w w.heap.size v0 a0) (hw0 : ∀ x ∈ a0, I64 x) (h1 : Lst (Value.int .i64) w w.heap.size v1 a1) (hw1 : ∀ x ∈ a1, I64 x) (g0 : (a0.length : Int) ≤ 1048576) (g1 : ¬ (a1.length : Int) ≤ 1048576):
    Calls Try.prog 11 #[v0, v1] w fun e w' => e = .returned (.bool true) ∧ Below w.heap.size w w' := by
  have C_0 := Below.refl w.heap.size w
  obtain ⟨ao0, cap0, rfl⟩ := h0.form
  go_enter Try.func11, Try.ntmps11
  obtain ⟨ao, cap, rfl⟩ := h1.form
  go_wp2
  go_ret
  exact ⟨rfl, C_0⟩

set_option maxRecDepth 100000 in
set_option maxHeartbeats 1000000 in
theorem walk_main (a0 : List Int) (v0 : Value) (a1 : List Int) (v1 : Value) (w : World) (h0 : Lst (Value.int .i64) w w.heap.size v0 a0) (hw0 : ∀ x ∈ a0, I64 x) (h1 : Lst (Value.int .i64) w w.heap.size v1 a1) (hw1 : ∀ x ∈ a1, I64 x) (g0 : (a0.length : Int) ≤ 1048576) (g1 : (a1.length : Int) ≤ 1048576):
    Calls Try.prog 11 #[v0, v1] w fun e w' => e = .returned (.bool true) ∧ Below w.heap.size w w' := by
  have hn0 : a0.length ≤ 1048576 := by first | omega | exact Nat.zero_le _
  have hn1 : a1.length ≤ 1048576 := by first | omega | exact Nat.zero_le _
  have hS := fun v0 v1 w B => specWg a0 v0 a1 v1 w B
  have hI := fun v0 v1 w B  => implWg a0 v0 a1 v1 w B 
  have hl0 : (resWg a0 a1).length ≤ 1048576 := resWg_len a1 hn0
  generalize resWg a0 a1 = r0 at *
  generalize okWg a0 a1 = r1 at *
  have HS := Lib.hid hS
  have HI := Lib.hid hI
  clear hS hI
  have C_0 := Below.refl w.heap.size w
  obtain ⟨ao0, cap0, rfl⟩ := h0.form
  obtain ⟨ao1, cap1, rfl⟩ := h1.form
  go_enter Try.func11, Try.ntmps11
  go_wp2_with fail
  refine (to_IntS a0 _ _ w.heap.size h0 (by omega) hn0).mono ?_
  rintro e w1 ⟨x1, rfl, ox1, hb1⟩
  have z1 : w.heap.size ≤ w1.heap.size := hb1.size
  have m0_2 := h0.below (hb1.mono (B' := w.heap.size) (by omega))
  have m1_2 := h1.below (hb1.mono (B' := w.heap.size) (by omega))
  have C_2 := C_0.trans (hb1.mono (B' := w.heap.size) (by omega))
  clear h0 h1 C_0
  clear hb1
  have kx1_o := ox1.mono (L' := w.heap.size) (B' := w1.heap.size) (by simp <;> omega) (Nat.le_refl _)
  clear ox1
  go_wp2_with fail
  refine (to_IntS a1 _ _ w.heap.size m1_2 (by omega) hn1).mono ?_
  rintro e w3 ⟨x3, rfl, ox3, hb3⟩
  have z3 : w1.heap.size ≤ w3.heap.size := hb3.size
  have m0_4 := m0_2.below (hb3.mono (B' := w.heap.size) (by omega))
  have m1_4 := m1_2.below (hb3.mono (B' := w.heap.size) (by omega))
  have kx1_4 := kx1_o.below (hb3.mono (B' := w1.heap.size) (by omega))
  have C_4 := C_2.trans (hb3.mono (B' := w.heap.size) (by omega))
  clear m0_2 m1_2 kx1_o C_2
  clear hb3
  have kx3_o := ox3.mono (L' := w1.heap.size) (B' := w3.heap.size) (by simp <;> omega) (Nat.le_refl _)
  clear ox3
  go_wp2_with fail
  refine (HS.out _ _ _ (w3).heap.size  (kx1_4.lst.mono (by omega)) (kx3_o.lst.mono (by omega)) (Nat.le_refl _) hn0 hn1   ).mono ?_
  rintro e w5 ⟨y0_4, rfl, oy0_4, hb5⟩
  have z5 : w3.heap.size ≤ w5.heap.size := hb5.size
  have m0_6 := m0_4.below (hb5.mono (B' := w.heap.size) (by omega))
  have m1_6 := m1_4.below (hb5.mono (B' := w.heap.size) (by omega))
  have kx1_6 := kx1_4.below (hb5.mono (B' := w1.heap.size) (by omega))
  have kx3_6 := kx3_o.below (hb5.mono (B' := w3.heap.size) (by omega))
  have C_6 := C_4.trans (hb5.mono (B' := w.heap.size) (by omega))
  clear m0_4 m1_4 kx1_4 kx3_o C_4
  clear hb5
  have ky0_4_o := oy0_4.mono (L' := w3.heap.size) (B' := w5.heap.size) (by simp <;> omega) (Nat.le_refl _)
  clear oy0_4
  obtain ⟨aoy0_4, capy0_4, rfl⟩ := ky0_4_o.form
  clear kx1_6
  clear kx3_6
  go_wp2_with fail
  refine (to_IntS a0 _ _ w.heap.size m0_6 (by omega) hn0).mono ?_
  rintro e w7 ⟨X0, rfl, oX0, hb7⟩
  have z7 : w5.heap.size ≤ w7.heap.size := hb7.size
  have m0_8 := m0_6.below (hb7.mono (B' := w.heap.size) (by omega))
  have m1_8 := m1_6.below (hb7.mono (B' := w.heap.size) (by omega))
  have ky0_4_8 := ky0_4_o.below (hb7.mono (B' := w5.heap.size) (by omega))
  have C_8 := C_6.trans (hb7.mono (B' := w.heap.size) (by omega))
  clear m0_6 m1_6 ky0_4_o C_6
  clear hb7
  have kX0_o := oX0.mono (L' := w5.heap.size) (B' := w7.heap.size) (by simp <;> omega) (Nat.le_refl _)
  clear oX0
  go_wp2_with fail
  refine (to_IntS a1 _ _ w.heap.size m1_8 (by omega) hn1).mono ?_
  rintro e w9 ⟨X1, rfl, oX1, hb9⟩
  have z9 : w7.heap.size ≤ w9.heap.size := hb9.size
  have m0_10 := m0_8.below (hb9.mono (B' := w.heap.size) (by omega))
  have m1_10 := m1_8.below (hb9.mono (B' := w.heap.size) (by omega))
  have ky0_4_10 := ky0_4_8.below (hb9.mono (B' := w5.heap.size) (by omega))
  have kX0_10 := kX0_o.below (hb9.mono (B' := w7.heap.size) (by omega))
  have C_10 := C_8.trans (hb9.mono (B' := w.heap.size) (by omega))
  clear m0_8 m1_8 ky0_4_8 kX0_o C_8
  clear hb9
  have kX1_o := oX1.mono (L' := w7.heap.size) (B' := w9.heap.size) (by simp <;> omega) (Nat.le_refl _)
  clear oX1
  go_wp2_with fail
  refine (HI.out _ _ _ (w9).heap.size  (kX0_10.lst.mono (by omega)) (kX1_o.lst.mono (by omega)) (Nat.le_refl _) hn0 hn1   ).mono ?_
  rintro e w11 ⟨y0_10, rfl, oy0_10, hb11⟩
  have z11 : w9.heap.size ≤ w11.heap.size := hb11.size
  have m0_12 := m0_10.below (hb11.mono (B' := w.heap.size) (by omega))
  have m1_12 := m1_10.below (hb11.mono (B' := w.heap.size) (by omega))
  have ky0_4_12 := ky0_4_10.below (hb11.mono (B' := w5.heap.size) (by omega))
  have kX0_12 := kX0_10.below (hb11.mono (B' := w7.heap.size) (by omega))
  have kX1_12 := kX1_o.below (hb11.mono (B' := w9.heap.size) (by omega))
  have C_12 := C_10.trans (hb11.mono (B' := w.heap.size) (by omega))
  clear m0_10 m1_10 ky0_4_10 kX0_10 kX1_o C_10
  clear hb11
  have ky0_10_o := oy0_10.mono (L' := w9.heap.size) (B' := w11.heap.size) (by simp <;> omega) (Nat.le_refl _)
  clear oy0_10
  obtain ⟨aoy0_10, capy0_10, rfl⟩ := ky0_10_o.form
  go_wp2_with fail
  refine (eq_IntS r0 _ _ _ (w11).heap.size (ky0_10_o.lst.mono (by omega)) (ky0_4_12.lst.mono (by omega)) (Nat.le_refl _)).mono ?_
  rintro e w13 ⟨rfl, hb13⟩
  have z13 : w11.heap.size ≤ w13.heap.size := hb13.size
  have m0_14 := m0_12.below (hb13.mono (B' := w.heap.size) (by omega))
  have m1_14 := m1_12.below (hb13.mono (B' := w.heap.size) (by omega))
  have ky0_4_14 := ky0_4_12.below (hb13.mono (B' := w5.heap.size) (by omega))
  have kX0_14 := kX0_12.below (hb13.mono (B' := w7.heap.size) (by omega))
  have kX1_14 := kX1_12.below (hb13.mono (B' := w9.heap.size) (by omega))
  have ky0_10_14 := ky0_10_o.below (hb13.mono (B' := w11.heap.size) (by omega))
  have C_14 := C_12.trans (hb13.mono (B' := w.heap.size) (by omega))
  clear m0_12 m1_12 ky0_4_12 kX0_12 kX1_12 ky0_10_o C_12
  clear hb13
  go_wp2_with fail
  refine (to_IntS a0 _ _ w.heap.size m0_14 (by omega) hn0).mono ?_
  rintro e w15 ⟨T0, rfl, oT0, hb15⟩
  have z15 : w13.heap.size ≤ w15.heap.size := hb15.size
  have m0_16 := m0_14.below (hb15.mono (B' := w.heap.size) (by omega))
  have m1_16 := m1_14.below (hb15.mono (B' := w.heap.size) (by omega))
  have ky0_4_16 := ky0_4_14.below (hb15.mono (B' := w5.heap.size) (by omega))
  have kX0_16 := kX0_14.below (hb15.mono (B' := w7.heap.size) (by omega))
  have kX1_16 := kX1_14.below (hb15.mono (B' := w9.heap.size) (by omega))
  have ky0_10_16 := ky0_10_14.below (hb15.mono (B' := w11.heap.size) (by omega))
  have C_16 := C_14.trans (hb15.mono (B' := w.heap.size) (by omega))
  clear m0_14 m1_14 ky0_4_14 kX0_14 kX1_14 ky0_10_14 C_14
  clear hb15
  have kT0_o := oT0.mono (L' := w13.heap.size) (B' := w15.heap.size) (by simp <;> omega) (Nat.le_refl _)
  clear oT0
  go_wp2_with fail
  refine (eq_IntS a0 _ _ _ (w15).heap.size (kX0_16.lst.mono (by omega)) (kT0_o.lst.mono (by omega)) (Nat.le_refl _)).mono ?_
  rintro e w17 ⟨rfl, hb17⟩
  have z17 : w15.heap.size ≤ w17.heap.size := hb17.size
  have m0_18 := m0_16.below (hb17.mono (B' := w.heap.size) (by omega))
  have m1_18 := m1_16.below (hb17.mono (B' := w.heap.size) (by omega))
  have ky0_4_18 := ky0_4_16.below (hb17.mono (B' := w5.heap.size) (by omega))
  have kX0_18 := kX0_16.below (hb17.mono (B' := w7.heap.size) (by omega))
  have kX1_18 := kX1_16.below (hb17.mono (B' := w9.heap.size) (by omega))
  have ky0_10_18 := ky0_10_16.below (hb17.mono (B' := w11.heap.size) (by omega))
  have kT0_18 := kT0_o.below (hb17.mono (B' := w15.heap.size) (by omega))
  have C_18 := C_16.trans (hb17.mono (B' := w.heap.size) (by omega))
  clear m0_16 m1_16 ky0_4_16 kX0_16 kX1_16 ky0_10_16 kT0_o C_16
  clear hb17
  clear kT0_18
  go_wp2_with fail
  refine (to_IntS a1 _ _ w.heap.size m1_18 (by omega) hn1).mono ?_
  rintro e w19 ⟨T1, rfl, oT1, hb19⟩
  have z19 : w17.heap.size ≤ w19.heap.size := hb19.size
  have m0_20 := m0_18.below (hb19.mono (B' := w.heap.size) (by omega))
  have m1_20 := m1_18.below (hb19.mono (B' := w.heap.size) (by omega))
  have ky0_4_20 := ky0_4_18.below (hb19.mono (B' := w5.heap.size) (by omega))
  have kX0_20 := kX0_18.below (hb19.mono (B' := w7.heap.size) (by omega))
  have kX1_20 := kX1_18.below (hb19.mono (B' := w9.heap.size) (by omega))
  have ky0_10_20 := ky0_10_18.below (hb19.mono (B' := w11.heap.size) (by omega))
  have C_20 := C_18.trans (hb19.mono (B' := w.heap.size) (by omega))
  clear m0_18 m1_18 ky0_4_18 kX0_18 kX1_18 ky0_10_18 C_18
  clear hb19
  have kT1_o := oT1.mono (L' := w17.heap.size) (B' := w19.heap.size) (by simp <;> omega) (Nat.le_refl _)
  clear oT1
  go_wp2_with fail
  refine (eq_IntS a1 _ _ _ (w19).heap.size (kX1_20.lst.mono (by omega)) (kT1_o.lst.mono (by omega)) (Nat.le_refl _)).mono ?_
  rintro e w21 ⟨rfl, hb21⟩
  have z21 : w19.heap.size ≤ w21.heap.size := hb21.size
  have m0_22 := m0_20.below (hb21.mono (B' := w.heap.size) (by omega))
  have m1_22 := m1_20.below (hb21.mono (B' := w.heap.size) (by omega))
  have ky0_4_22 := ky0_4_20.below (hb21.mono (B' := w5.heap.size) (by omega))
  have kX0_22 := kX0_20.below (hb21.mono (B' := w7.heap.size) (by omega))
  have kX1_22 := kX1_20.below (hb21.mono (B' := w9.heap.size) (by omega))
  have ky0_10_22 := ky0_10_20.below (hb21.mono (B' := w11.heap.size) (by omega))
  have kT1_22 := kT1_o.below (hb21.mono (B' := w19.heap.size) (by omega))
  have C_22 := C_20.trans (hb21.mono (B' := w.heap.size) (by omega))
  clear m0_20 m1_20 ky0_4_20 kX0_20 kX1_20 ky0_10_20 kT1_o C_20
  clear hb21
  clear kT1_22
  go_wp2_with fail
  refine (mark_IntS a0 _ (1) _ (w5.heap.size) w7.heap.size kX0_22 (by omega) hn0 (by omega) (by omega)).mono ?_
  rintro e w23 ⟨rfl, mk, hu23⟩
  have z23 : w21.heap.size ≤ w23.heap.size := hu23.size
  have m0_24 := m0_22.below (hu23.low (B := w.heap.size) (by omega) (by omega))
  have m1_24 := m1_22.below (hu23.low (B := w.heap.size) (by omega) (by omega))
  have ky0_4_24 := ky0_4_22.below (hu23.low (B := w5.heap.size) (by omega) (by omega))
  have kX1_24 := kX1_22.high hu23 (by omega)
  have ky0_10_24 := ky0_10_22.high hu23 (by omega)
  have C_24 := C_22.trans (hu23.low (B := w.heap.size) (by omega) (by omega))
  clear m0_22 m1_22 ky0_4_22 kX1_22 ky0_10_22 C_22
  clear hu23
  clear kX0_22
  have kX0_m23 := mk
  clear mk
  go_wp2_with fail
  refine (mark_IntS a1 _ (1 + (a0.length : Int)) _ (w7.heap.size) w9.heap.size kX1_24 (by omega) hn1 (by omega) (by omega)).mono ?_
  rintro e w25 ⟨rfl, mk, hu25⟩
  have z25 : w23.heap.size ≤ w25.heap.size := hu25.size
  have m0_26 := m0_24.below (hu25.low (B := w.heap.size) (by omega) (by omega))
  have m1_26 := m1_24.below (hu25.low (B := w.heap.size) (by omega) (by omega))
  have ky0_4_26 := ky0_4_24.below (hu25.low (B := w5.heap.size) (by omega) (by omega))
  have kX0_26 := kX0_m23.below (hu25.low (B := w7.heap.size) (by omega) (by omega))
  have ky0_10_26 := ky0_10_24.high hu25 (by omega)
  have C_26 := C_24.trans (hu25.low (B := w.heap.size) (by omega) (by omega))
  clear m0_24 m1_24 ky0_4_24 kX0_m23 ky0_10_24 C_24
  clear hu25
  clear kX1_24
  have kX1_m25 := mk
  clear mk
  have dk26 : ¬ (1 + (a0.length : Int) + (a1.length : Int)) < 0 := by omega
  go_wp2_with fail
  refine (eq_IntS r0 _ _ _ (w25).heap.size (ky0_10_26.lst.mono (by omega)) (ky0_4_26.lst.mono (by omega)) (Nat.le_refl _)).mono ?_
  rintro e w27 ⟨rfl, hb27⟩
  have z27 : w25.heap.size ≤ w27.heap.size := hb27.size
  have m0_28 := m0_26.below (hb27.mono (B' := w.heap.size) (by omega))
  have m1_28 := m1_26.below (hb27.mono (B' := w.heap.size) (by omega))
  have ky0_4_28 := ky0_4_26.below (hb27.mono (B' := w5.heap.size) (by omega))
  have kX0_28 := kX0_26.below (hb27.mono (B' := w7.heap.size) (by omega))
  have kX1_28 := kX1_m25.below (hb27.mono (B' := w9.heap.size) (by omega))
  have ky0_10_28 := ky0_10_26.below (hb27.mono (B' := w11.heap.size) (by omega))
  have C_28 := C_26.trans (hb27.mono (B' := w.heap.size) (by omega))
  clear m0_26 m1_26 ky0_4_26 kX0_26 kX1_m25 ky0_10_26 C_26
  clear hb27
  go_wp2_with fail
  refine (mark_IntS r0 _ (1) _ (w9.heap.size) w11.heap.size ky0_10_28 (by omega) hl0 (by omega) (by omega)).mono ?_
  rintro e w29 ⟨rfl, mk, hu29⟩
  have z29 : w27.heap.size ≤ w29.heap.size := hu29.size
  have m0_30 := m0_28.below (hu29.low (B := w.heap.size) (by omega) (by omega))
  have m1_30 := m1_28.below (hu29.low (B := w.heap.size) (by omega) (by omega))
  have ky0_4_30 := ky0_4_28.below (hu29.low (B := w5.heap.size) (by omega) (by omega))
  have kX0_30 := kX0_28.below (hu29.low (B := w7.heap.size) (by omega) (by omega))
  have kX1_30 := kX1_28.below (hu29.low (B := w9.heap.size) (by omega) (by omega))
  have C_30 := C_28.trans (hu29.low (B := w.heap.size) (by omega) (by omega))
  clear m0_28 m1_28 ky0_4_28 kX0_28 kX1_28 C_28
  clear hu29
  clear ky0_10_28
  have ky0_10_m29 := mk
  clear mk
  go_wp2_with fail
  refine (held_IntS r0 _ (1) _ (w11.heap.size) ky0_10_m29.lst (by omega) hl0 (by omega) (by omega)).mono ?_
  rintro e w31 ⟨rfl, hb31⟩
  have z31 : w29.heap.size ≤ w31.heap.size := hb31.size
  have m0_32 := m0_30.below (hb31.mono (B' := w.heap.size) (by omega))
  have m1_32 := m1_30.below (hb31.mono (B' := w.heap.size) (by omega))
  have ky0_4_32 := ky0_4_30.below (hb31.mono (B' := w5.heap.size) (by omega))
  have kX0_32 := kX0_30.below (hb31.mono (B' := w7.heap.size) (by omega))
  have kX1_32 := kX1_30.below (hb31.mono (B' := w9.heap.size) (by omega))
  have ky0_10_32 := ky0_10_m29.below (hb31.mono (B' := w11.heap.size) (by omega))
  have C_32 := C_30.trans (hb31.mono (B' := w.heap.size) (by omega))
  clear m0_30 m1_30 ky0_4_30 kX0_30 kX1_30 ky0_10_m29 C_30
  clear hb31
  have dq32 : ¬ (1 + (r0.length : Int)) < 0 := by omega
  go_wp2_with fail
  refine (to_IntS a0 _ _ w.heap.size m0_32 (by omega) hn0).mono ?_
  rintro e w33 ⟨x33, rfl, ox33, hb33⟩
  have z33 : w31.heap.size ≤ w33.heap.size := hb33.size
  have m0_34 := m0_32.below (hb33.mono (B' := w.heap.size) (by omega))
  have m1_34 := m1_32.below (hb33.mono (B' := w.heap.size) (by omega))
  have ky0_4_34 := ky0_4_32.below (hb33.mono (B' := w5.heap.size) (by omega))
  have kX0_34 := kX0_32.below (hb33.mono (B' := w7.heap.size) (by omega))
  have kX1_34 := kX1_32.below (hb33.mono (B' := w9.heap.size) (by omega))
  have ky0_10_34 := ky0_10_32.below (hb33.mono (B' := w11.heap.size) (by omega))
  have C_34 := C_32.trans (hb33.mono (B' := w.heap.size) (by omega))
  clear m0_32 m1_32 ky0_4_32 kX0_32 kX1_32 ky0_10_32 C_32
  clear hb33
  have kx33_o := ox33.mono (L' := w31.heap.size) (B' := w33.heap.size) (by simp <;> omega) (Nat.le_refl _)
  clear ox33
  go_wp2_with fail
  refine (to_IntS a1 _ _ w.heap.size m1_34 (by omega) hn1).mono ?_
  rintro e w35 ⟨x35, rfl, ox35, hb35⟩
  have z35 : w33.heap.size ≤ w35.heap.size := hb35.size
  have m0_36 := m0_34.below (hb35.mono (B' := w.heap.size) (by omega))
  have m1_36 := m1_34.below (hb35.mono (B' := w.heap.size) (by omega))
  have ky0_4_36 := ky0_4_34.below (hb35.mono (B' := w5.heap.size) (by omega))
  have kX0_36 := kX0_34.below (hb35.mono (B' := w7.heap.size) (by omega))
  have kX1_36 := kX1_34.below (hb35.mono (B' := w9.heap.size) (by omega))
  have ky0_10_36 := ky0_10_34.below (hb35.mono (B' := w11.heap.size) (by omega))
  have kx33_36 := kx33_o.below (hb35.mono (B' := w33.heap.size) (by omega))
  have C_36 := C_34.trans (hb35.mono (B' := w.heap.size) (by omega))
  clear m0_34 m1_34 ky0_4_34 kX0_34 kX1_34 ky0_10_34 kx33_o C_34
  clear hb35
  have kx35_o := ox35.mono (L' := w33.heap.size) (B' := w35.heap.size) (by simp <;> omega) (Nat.le_refl _)
  clear ox35
  go_wp2_with fail
  refine (HI.out _ _ _ (w35).heap.size  (kx33_36.lst.mono (by omega)) (kx35_o.lst.mono (by omega)) (Nat.le_refl _) hn0 hn1   ).mono ?_
  rintro e w37 ⟨y0_36, rfl, oy0_36, hb37⟩
  have z37 : w35.heap.size ≤ w37.heap.size := hb37.size
  have m0_38 := m0_36.below (hb37.mono (B' := w.heap.size) (by omega))
  have m1_38 := m1_36.below (hb37.mono (B' := w.heap.size) (by omega))
  have ky0_4_38 := ky0_4_36.below (hb37.mono (B' := w5.heap.size) (by omega))
  have kX0_38 := kX0_36.below (hb37.mono (B' := w7.heap.size) (by omega))
  have kX1_38 := kX1_36.below (hb37.mono (B' := w9.heap.size) (by omega))
  have ky0_10_38 := ky0_10_36.below (hb37.mono (B' := w11.heap.size) (by omega))
  have kx33_38 := kx33_36.below (hb37.mono (B' := w33.heap.size) (by omega))
  have kx35_38 := kx35_o.below (hb37.mono (B' := w35.heap.size) (by omega))
  have C_38 := C_36.trans (hb37.mono (B' := w.heap.size) (by omega))
  clear m0_36 m1_36 ky0_4_36 kX0_36 kX1_36 ky0_10_36 kx33_36 kx35_o C_36
  clear hb37
  have ky0_36_o := oy0_36.mono (L' := w35.heap.size) (B' := w37.heap.size) (by simp <;> omega) (Nat.le_refl _)
  clear oy0_36
  obtain ⟨aoy0_36, capy0_36, rfl⟩ := ky0_36_o.form
  clear kx33_38
  clear kx35_38
  go_wp2_with fail
  refine (eq_IntS r0 _ _ _ (w37).heap.size (ky0_36_o.lst.mono (by omega)) (ky0_4_38.lst.mono (by omega)) (Nat.le_refl _)).mono ?_
  rintro e w39 ⟨rfl, hb39⟩
  have z39 : w37.heap.size ≤ w39.heap.size := hb39.size
  have m0_40 := m0_38.below (hb39.mono (B' := w.heap.size) (by omega))
  have m1_40 := m1_38.below (hb39.mono (B' := w.heap.size) (by omega))
  have ky0_4_40 := ky0_4_38.below (hb39.mono (B' := w5.heap.size) (by omega))
  have kX0_40 := kX0_38.below (hb39.mono (B' := w7.heap.size) (by omega))
  have kX1_40 := kX1_38.below (hb39.mono (B' := w9.heap.size) (by omega))
  have ky0_10_40 := ky0_10_38.below (hb39.mono (B' := w11.heap.size) (by omega))
  have ky0_36_40 := ky0_36_o.below (hb39.mono (B' := w37.heap.size) (by omega))
  have C_40 := C_38.trans (hb39.mono (B' := w.heap.size) (by omega))
  clear m0_38 m1_38 ky0_4_38 kX0_38 kX1_38 ky0_10_38 ky0_36_o C_38
  clear hb39
  go_wp2_with fail
  refine (held_IntS r0 _ (1) _ (w11.heap.size) ky0_10_40.lst (by omega) hl0 (by omega) (by omega)).mono ?_
  rintro e w41 ⟨rfl, hb41⟩
  have z41 : w39.heap.size ≤ w41.heap.size := hb41.size
  have m0_42 := m0_40.below (hb41.mono (B' := w.heap.size) (by omega))
  have m1_42 := m1_40.below (hb41.mono (B' := w.heap.size) (by omega))
  have ky0_4_42 := ky0_4_40.below (hb41.mono (B' := w5.heap.size) (by omega))
  have kX0_42 := kX0_40.below (hb41.mono (B' := w7.heap.size) (by omega))
  have kX1_42 := kX1_40.below (hb41.mono (B' := w9.heap.size) (by omega))
  have ky0_10_42 := ky0_10_40.below (hb41.mono (B' := w11.heap.size) (by omega))
  have ky0_36_42 := ky0_36_40.below (hb41.mono (B' := w37.heap.size) (by omega))
  have C_42 := C_40.trans (hb41.mono (B' := w.heap.size) (by omega))
  clear m0_40 m1_40 ky0_4_40 kX0_40 kX1_40 ky0_10_40 ky0_36_40 C_40
  clear hb41
  have dq42 : ¬ (1 + (r0.length : Int)) < 0 := by omega
  go_wp2
  go_ret
  exact ⟨rfl, C_42⟩

set_option maxRecDepth 100000 in
theorem walk_all {H : Type} {enc : TypeId × Value → H} {base : Nat} {w : World} (v0 : Value) {d0 : DataW H} {ps0 : List MemPlace} (hval0 : Value.okWide Try.prog w .any base 24 v0) (hd0 : DataW.Trod enc Try.prog w 0 (fun _ => true) true 24 v0 d0 ps0) (v1 : Value) {d1 : DataW H} {ps1 : List MemPlace} (hval1 : Value.okWide Try.prog w .any base 24 v1) (hd1 : DataW.Trod enc Try.prog w 0 (fun _ => true) true 24 v1 d1 ps1) :
    Calls Try.prog 11 #[v0, v1] w fun e w' => e = .returned (.bool true) ∧ Below w.heap.size w w' := by
  obtain ⟨a0, h0, hw0⟩ := open_IntS hval0 hd0
  obtain ⟨a1, h1, hw1⟩ := open_IntS hval1 hd1
  by_cases g0 : (a0.length : Int) ≤ 1048576
  case neg => exact walk_big0 a0 v0 a1 v1 w h0 hw0 h1 hw1 g0
  by_cases g1 : (a1.length : Int) ≤ 1048576
  case neg => exact walk_big1 a0 v0 a1 v1 w h0 hw0 h1 hw1 g0 g1
  exact walk_main a0 v0 a1 v1 w h0 hw0 h1 hw1 g0 g1

set_option maxRecDepth 100000 in
theorem contract (H : Type) (enc : TypeId × Value → H) (W : World) (base : Nat) (args : Array Value) (ds gs : List (DataW H)) (before : List MemPlace)
    (hval : ∀ (j : Nat) t v, Try.f11.params[j]? = some t → args[j]? = some v → Value.okWide Try.prog W .any base t v)
    (hW : DataW.Whole enc Try.prog Try.f11.params.toList Rows.fnExactWeightedSpec.vars false W args.toList ds gs before) :
    Calls Try.prog 11 args W fun e W' => ∃ v, e = .returned v ∧ Rows.fnExactWeightedSpec.post enc Try.prog Try.f11 false true false false W args v W' := by
  have hW' := hW
  obtain ⟨p, q, hA0, hV, rfl, hfz, hnd⟩ := hW
  have hA : DataW.TrodAll enc Try.prog W 0 (fun _ => true) true Try.f11.params.toList args.toList ds p := hA0
  rw [Try.params11] at hA hval
  obtain ⟨v0, vs0, d0, ds0, p0, q0, hargs, rfl, rfl, h0, r0⟩ := trodAll_cons hA
  obtain ⟨v1, vs1, d1, ds1, p1, q1, rfl, rfl, rfl, h1, r1⟩ := trodAll_cons r0
  obtain ⟨rfl, rfl, rfl⟩ := trodAll_nil r1
  obtain rfl : args = #[v0, v1] := by cases args; simp_all
  refine lawPost rfl rfl Try.underlying4 (by kernel_rfl) (by kernel_rfl) hW' (fun hg => by subst hg; exact ⟨rfl, rfl, rfl⟩) ?_
  exact walk_all v0 (hval 0 24 v0 rfl rfl) h0 v1 (hval 1 24 v1 rfl rfl) h1

set_option maxRecDepth 100000 in
theorem lifted (os : Os) (started : os.Started) (H : Type) (enc : TypeId × Value → H) :
    ReturnsInHanded {} Try.checked os 11 .any (Rows.fnExactWeightedSpec.pre6 enc Try.prog Try.f11 Rows.fnExactWeightedRow.domain false) (Rows.fnExactWeightedSpec.post enc Try.prog Try.f11 false true false false) := by
  refine returnsInHanded_of_change (C := Try.checked) (s := Rows.fnExactWeightedSpec) own started (by kernel_rfl) Try.func11
    (ChangeSpec.witness6 (enc := enc) (C := Try.checked) (s := Rows.fnExactWeightedSpec) false ⟨#[], #[.slice none 0 0, .slice none 0 0], []⟩ 8 (by kernel_rfl) (by kernel_rfl) (by kernel_rfl) (by kernel_rfl)) ?_
  intro W base args ds gs before hval hW _ _
  exact contract H enc W base args ds gs before hval hW

theorem said : Rows.FnExactWeightedSaid :=
  OpenClaim.holds_of_wide 11 Try.f11 rfl rfl rfl rfl rfl rfl rfl ⟨rfl, rfl, rfl, rfl, rfl⟩ rfl rfl rfl rfl rfl (by kernel_rfl) Try.func11 (by kernel_rfl)
    (of_decide_eq_true (by kernel_rfl)) (by unfold Func.isWrapper; first | (rw [if_pos (by decide +kernel)]; kernel_rfl) | (rw [if_neg (by decide +kernel)]; exact ⟨rfl, rfl⟩))
    (fun os started H enc _ => lifted os started H enc)

end Go.Proofs.Ytgokoeomoejcdaa.fnExactWeighted
