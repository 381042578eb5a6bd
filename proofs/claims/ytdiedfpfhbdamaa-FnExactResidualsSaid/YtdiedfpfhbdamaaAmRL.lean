/- FnExactResiduals: for every table and every list of swings the law answers true; no condition. -/
import Derived.Test.YtdiedfpfhbdamaaAmF
import Derived.Test.YtdiedfpfhbdamaaAnE
import Derived.Deep.CutBlock
import Derived.Deep.CutRange
import Derived.Deep.DeepCutAuto
namespace Go.Proofs.Ytdiedfpfhbdamaa.fnExactResiduals
open Go.ChangeShapes Go.WideShapes Go.ChangeAt Go.RowKit Go.ChangeMaps
set_option linter.unusedSimpArgs false
set_option linter.unusedVariables false

theorem own : ownKnob Try.prog.godebug = none := by kernel_rfl


set_option maxRecDepth 100000 in
set_option maxHeartbeats 1000000 in
theorem walk_big0 (a0 : List GTableRow) (v0 : Value) (a1 : List GSwing) (v1 : Value) (w : World) (h0 : TableRowL w w.heap.size v0 a0) (hw0 : ∀ s ∈ a0, wfTableRow s) (h1 : SwingL w w.heap.size v1 a1) (hw1 : ∀ s ∈ a1, wfSwing s)  (g0 : ¬ (szsTableRow a0 : Int) ≤ 1048576):
    Calls Try.prog 11 #[v0, v1] w fun e w' => e = .returned (.bool true) ∧ Below w.heap.size w w' := by
  have C_0 := Below.refl w.heap.size w
  go_enter Try.func11, Try.ntmps11
  go_wp2_with fail
  refine (szgt_TableRowS a0 _ (1048576) _ w.heap.size h0 (by omega) (by omega) (by omega) (by omega) hw0).mono ?_
  rintro e w1 ⟨rfl, hb1⟩
  have z1 : w.heap.size ≤ w1.heap.size := hb1.size
  have m0_2 := h0.below (hb1.mono (B' := w.heap.size) (by omega))
  have m1_2 := h1.below (hb1.mono (B' := w.heap.size) (by omega))
  have C_2 := C_0.trans (hb1.mono (B' := w.heap.size) (by omega))
  clear h0 h1 C_0
  clear hb1
  go_wp2
  go_ret
  exact ⟨rfl, C_2⟩

set_option maxRecDepth 100000 in
set_option maxHeartbeats 1000000 in
theorem walk_big1 (a0 : List GTableRow) (v0 : Value) (a1 : List GSwing) (v1 : Value) (w : World) (h0 : TableRowL w w.heap.size v0 a0) (hw0 : ∀ s ∈ a0, wfTableRow s) (h1 : SwingL w w.heap.size v1 a1) (hw1 : ∀ s ∈ a1, wfSwing s) (g0 : (szsTableRow a0 : Int) ≤ 1048576) (g1 : ¬ (szsSwing a1 : Int) ≤ 1048576 - (szsTableRow a0 : Int)):
    Calls Try.prog 11 #[v0, v1] w fun e w' => e = .returned (.bool true) ∧ Below w.heap.size w w' := by
  have C_0 := Below.refl w.heap.size w
  go_enter Try.func11, Try.ntmps11
  have d0 : ¬ 1048576 - (szsTableRow a0 : Int) < 0 := by omega
  go_wp2_with fail
  refine (sz_TableRowS a0 _ (1048576) _ w.heap.size h0 (by omega) (by omega) (by omega) (by omega)).mono ?_
  rintro e w1 ⟨rfl, hb1⟩
  have z1 : w.heap.size ≤ w1.heap.size := hb1.size
  have m0_2 := h0.below (hb1.mono (B' := w.heap.size) (by omega))
  have m1_2 := h1.below (hb1.mono (B' := w.heap.size) (by omega))
  have C_2 := C_0.trans (hb1.mono (B' := w.heap.size) (by omega))
  clear h0 h1 C_0
  clear hb1
  go_wp2_with fail
  refine (szgt_SwingS a1 _ (1048576 - (szsTableRow a0 : Int)) _ w.heap.size m1_2 (by omega) (by omega) (by omega) (by omega) hw1).mono ?_
  rintro e w3 ⟨rfl, hb3⟩
  have z3 : w1.heap.size ≤ w3.heap.size := hb3.size
  have m0_4 := m0_2.below (hb3.mono (B' := w.heap.size) (by omega))
  have m1_4 := m1_2.below (hb3.mono (B' := w.heap.size) (by omega))
  have C_4 := C_2.trans (hb3.mono (B' := w.heap.size) (by omega))
  clear m0_2 m1_2 C_2
  clear hb3
  go_wp2
  go_ret
  exact ⟨rfl, C_4⟩

set_option maxRecDepth 100000 in
set_option maxHeartbeats 1000000 in
theorem walk_main (a0 : List GTableRow) (v0 : Value) (a1 : List GSwing) (v1 : Value) (w : World) (h0 : TableRowL w w.heap.size v0 a0) (hw0 : ∀ s ∈ a0, wfTableRow s) (h1 : SwingL w w.heap.size v1 a1) (hw1 : ∀ s ∈ a1, wfSwing s) (g0 : (szsTableRow a0 : Int) ≤ 1048576) (g1 : (szsSwing a1 : Int) ≤ 1048576 - (szsTableRow a0 : Int)):
    Calls Try.prog 11 #[v0, v1] w fun e w' => e = .returned (.bool true) ∧ Below w.heap.size w w' := by
  have hn0 : szsTableRow a0 ≤ 1048576 := by first | omega | exact Nat.zero_le _
  have hn1 : szsSwing a1 ≤ 1048576 := by first | omega | exact Nat.zero_le _
  have hnl0 := szsTableRow_len a0
  have hnl1 := szsSwing_len a1
  have hS := fun v0 v1 w B => specRs a0 v0 a1 v1 w B
  have hI := fun v0 v1 w B  => implRs a0 v0 a1 v1 w B 
  have hl0 : (resMd a0 a1).length ≤ 1048576 := resMd_len a0 a1 hn1
  generalize resMd a0 a1 = r0 at *
  generalize okMd a0 a1 = r1 at *
  have HS := Lib.hid hS
  have HI := Lib.hid hI
  clear hS hI
  have C_0 := Below.refl w.heap.size w
  have d0 : ¬ 1048576 - (szsTableRow a0 : Int) < 0 := by omega
  have d1 : ¬ 1048576 - (szsTableRow a0 : Int) - (szsSwing a1 : Int) < 0 := by omega
  go_enter Try.func11, Try.ntmps11
  go_wp2_with fail
  refine (sz_TableRowS a0 _ (1048576) _ w.heap.size h0 (by omega) (by omega) (by omega) (by omega)).mono ?_
  rintro e w1 ⟨rfl, hb1⟩
  have z1 : w.heap.size ≤ w1.heap.size := hb1.size
  have m0_2 := h0.below (hb1.mono (B' := w.heap.size) (by omega))
  have m1_2 := h1.below (hb1.mono (B' := w.heap.size) (by omega))
  have C_2 := C_0.trans (hb1.mono (B' := w.heap.size) (by omega))
  clear h0 h1 C_0
  clear hb1
  go_wp2_with fail
  refine (sz_SwingS a1 _ (1048576 - (szsTableRow a0 : Int)) _ w.heap.size m1_2 (by omega) (by omega) (by omega) (by omega)).mono ?_
  rintro e w3 ⟨rfl, hb3⟩
  have z3 : w1.heap.size ≤ w3.heap.size := hb3.size
  have m0_4 := m0_2.below (hb3.mono (B' := w.heap.size) (by omega))
  have m1_4 := m1_2.below (hb3.mono (B' := w.heap.size) (by omega))
  have C_4 := C_2.trans (hb3.mono (B' := w.heap.size) (by omega))
  clear m0_2 m1_2 C_2
  clear hb3
  go_wp2_with fail
  refine (to_TableRowS a0 _ _ w.heap.size m0_4 (by omega) hn0).mono ?_
  rintro e w5 ⟨x5, rfl, ox5, hb5⟩
  have z5 : w3.heap.size ≤ w5.heap.size := hb5.size
  have m0_6 := m0_4.below (hb5.mono (B' := w.heap.size) (by omega))
  have m1_6 := m1_4.below (hb5.mono (B' := w.heap.size) (by omega))
  have C_6 := C_4.trans (hb5.mono (B' := w.heap.size) (by omega))
  clear m0_4 m1_4 C_4
  clear hb5
  have kx5_o := ox5.mono (L' := w3.heap.size) (B' := w5.heap.size) (by simp <;> omega) (Nat.le_refl _)
  clear ox5
  go_wp2_with fail
  refine (to_SwingS a1 _ _ w.heap.size m1_6 (by omega) hn1).mono ?_
  rintro e w7 ⟨x7, rfl, ox7, hb7⟩
  have z7 : w5.heap.size ≤ w7.heap.size := hb7.size
  have m0_8 := m0_6.below (hb7.mono (B' := w.heap.size) (by omega))
  have m1_8 := m1_6.below (hb7.mono (B' := w.heap.size) (by omega))
  have kx5_8 := kx5_o.below (hb7.mono (B' := w5.heap.size) (by omega))
  have C_8 := C_6.trans (hb7.mono (B' := w.heap.size) (by omega))
  clear m0_6 m1_6 kx5_o C_6
  clear hb7
  have kx7_o := ox7.mono (L' := w5.heap.size) (B' := w7.heap.size) (by simp <;> omega) (Nat.le_refl _)
  clear ox7
  go_wp2_with fail
  refine (HS.out _ _ _ (w7).heap.size  (kx5_8.lst.mono (by omega)) (kx7_o.lst.mono (by omega)) (Nat.le_refl _) hn0 hn1 hw0 hw1  ).mono ?_
  rintro e w9 ⟨y0_8, rfl, oy0_8, hb9⟩
  have z9 : w7.heap.size ≤ w9.heap.size := hb9.size
  have m0_10 := m0_8.below (hb9.mono (B' := w.heap.size) (by omega))
  have m1_10 := m1_8.below (hb9.mono (B' := w.heap.size) (by omega))
  have kx5_10 := kx5_8.below (hb9.mono (B' := w5.heap.size) (by omega))
  have kx7_10 := kx7_o.below (hb9.mono (B' := w7.heap.size) (by omega))
  have C_10 := C_8.trans (hb9.mono (B' := w.heap.size) (by omega))
  clear m0_8 m1_8 kx5_8 kx7_o C_8
  clear hb9
  have ky0_8_o := oy0_8.mono (L' := w7.heap.size) (B' := w9.heap.size) (by simp <;> omega) (Nat.le_refl _)
  clear oy0_8
  obtain ⟨aoy0_8, capy0_8, rfl⟩ := ky0_8_o.form
  clear kx5_10
  clear kx7_10
  go_wp2_with fail
  refine (to_TableRowS a0 _ _ w.heap.size m0_10 (by omega) hn0).mono ?_
  rintro e w11 ⟨X0, rfl, oX0, hb11⟩
  have z11 : w9.heap.size ≤ w11.heap.size := hb11.size
  have m0_12 := m0_10.below (hb11.mono (B' := w.heap.size) (by omega))
  have m1_12 := m1_10.below (hb11.mono (B' := w.heap.size) (by omega))
  have ky0_8_12 := ky0_8_o.below (hb11.mono (B' := w9.heap.size) (by omega))
  have C_12 := C_10.trans (hb11.mono (B' := w.heap.size) (by omega))
  clear m0_10 m1_10 ky0_8_o C_10
  clear hb11
  have kX0_o := oX0.mono (L' := w9.heap.size) (B' := w11.heap.size) (by simp <;> omega) (Nat.le_refl _)
  clear oX0
  go_wp2_with fail
  refine (to_SwingS a1 _ _ w.heap.size m1_12 (by omega) hn1).mono ?_
  rintro e w13 ⟨X1, rfl, oX1, hb13⟩
  have z13 : w11.heap.size ≤ w13.heap.size := hb13.size
  have m0_14 := m0_12.below (hb13.mono (B' := w.heap.size) (by omega))
  have m1_14 := m1_12.below (hb13.mono (B' := w.heap.size) (by omega))
  have ky0_8_14 := ky0_8_12.below (hb13.mono (B' := w9.heap.size) (by omega))
  have kX0_14 := kX0_o.below (hb13.mono (B' := w11.heap.size) (by omega))
  have C_14 := C_12.trans (hb13.mono (B' := w.heap.size) (by omega))
  clear m0_12 m1_12 ky0_8_12 kX0_o C_12
  clear hb13
  have kX1_o := oX1.mono (L' := w11.heap.size) (B' := w13.heap.size) (by simp <;> omega) (Nat.le_refl _)
  clear oX1
  go_wp2_with fail
  refine (HI.out _ _ _ (w13).heap.size  (kX0_14.lst.mono (by omega)) (kX1_o.lst.mono (by omega)) (Nat.le_refl _) hn0 hn1 hw0 hw1  ).mono ?_
  rintro e w15 ⟨y0_14, rfl, oy0_14, hb15⟩
  have z15 : w13.heap.size ≤ w15.heap.size := hb15.size
  have m0_16 := m0_14.below (hb15.mono (B' := w.heap.size) (by omega))
  have m1_16 := m1_14.below (hb15.mono (B' := w.heap.size) (by omega))
  have ky0_8_16 := ky0_8_14.below (hb15.mono (B' := w9.heap.size) (by omega))
  have kX0_16 := kX0_14.below (hb15.mono (B' := w11.heap.size) (by omega))
  have kX1_16 := kX1_o.below (hb15.mono (B' := w13.heap.size) (by omega))
  have C_16 := C_14.trans (hb15.mono (B' := w.heap.size) (by omega))
  clear m0_14 m1_14 ky0_8_14 kX0_14 kX1_o C_14
  clear hb15
  have ky0_14_o := oy0_14.mono (L' := w13.heap.size) (B' := w15.heap.size) (by simp <;> omega) (Nat.le_refl _)
  clear oy0_14
  obtain ⟨aoy0_14, capy0_14, rfl⟩ := ky0_14_o.form
  go_wp2_with fail
  refine (eq_IntS r0 _ _ _ (w15).heap.size (ky0_14_o.lst.mono (by omega)) (ky0_8_16.lst.mono (by omega)) (Nat.le_refl _)).mono ?_
  rintro e w17 ⟨rfl, hb17⟩
  have z17 : w15.heap.size ≤ w17.heap.size := hb17.size
  have m0_18 := m0_16.below (hb17.mono (B' := w.heap.size) (by omega))
  have m1_18 := m1_16.below (hb17.mono (B' := w.heap.size) (by omega))
  have ky0_8_18 := ky0_8_16.below (hb17.mono (B' := w9.heap.size) (by omega))
  have kX0_18 := kX0_16.below (hb17.mono (B' := w11.heap.size) (by omega))
  have kX1_18 := kX1_16.below (hb17.mono (B' := w13.heap.size) (by omega))
  have ky0_14_18 := ky0_14_o.below (hb17.mono (B' := w15.heap.size) (by omega))
  have C_18 := C_16.trans (hb17.mono (B' := w.heap.size) (by omega))
  clear m0_16 m1_16 ky0_8_16 kX0_16 kX1_16 ky0_14_o C_16
  clear hb17
  go_wp2_with fail
  refine (to_TableRowS a0 _ _ w.heap.size m0_18 (by omega) hn0).mono ?_
  rintro e w19 ⟨T0, rfl, oT0, hb19⟩
  have z19 : w17.heap.size ≤ w19.heap.size := hb19.size
  have m0_20 := m0_18.below (hb19.mono (B' := w.heap.size) (by omega))
  have m1_20 := m1_18.below (hb19.mono (B' := w.heap.size) (by omega))
  have ky0_8_20 := ky0_8_18.below (hb19.mono (B' := w9.heap.size) (by omega))
  have kX0_20 := kX0_18.below (hb19.mono (B' := w11.heap.size) (by omega))
  have kX1_20 := kX1_18.below (hb19.mono (B' := w13.heap.size) (by omega))
  have ky0_14_20 := ky0_14_18.below (hb19.mono (B' := w15.heap.size) (by omega))
  have C_20 := C_18.trans (hb19.mono (B' := w.heap.size) (by omega))
  clear m0_18 m1_18 ky0_8_18 kX0_18 kX1_18 ky0_14_18 C_18
  clear hb19
  have kT0_o := oT0.mono (L' := w17.heap.size) (B' := w19.heap.size) (by simp <;> omega) (Nat.le_refl _)
  clear oT0
  go_wp2_with fail
  refine (eq_TableRowS a0 _ _ _ (w19).heap.size (kX0_20.lst.mono (by omega)) (kT0_o.lst.mono (by omega)) (Nat.le_refl _)).mono ?_
  rintro e w21 ⟨rfl, hb21⟩
  have z21 : w19.heap.size ≤ w21.heap.size := hb21.size
  have m0_22 := m0_20.below (hb21.mono (B' := w.heap.size) (by omega))
  have m1_22 := m1_20.below (hb21.mono (B' := w.heap.size) (by omega))
  have ky0_8_22 := ky0_8_20.below (hb21.mono (B' := w9.heap.size) (by omega))
  have kX0_22 := kX0_20.below (hb21.mono (B' := w11.heap.size) (by omega))
  have kX1_22 := kX1_20.below (hb21.mono (B' := w13.heap.size) (by omega))
  have ky0_14_22 := ky0_14_20.below (hb21.mono (B' := w15.heap.size) (by omega))
  have kT0_22 := kT0_o.below (hb21.mono (B' := w19.heap.size) (by omega))
  have C_22 := C_20.trans (hb21.mono (B' := w.heap.size) (by omega))
  clear m0_20 m1_20 ky0_8_20 kX0_20 kX1_20 ky0_14_20 kT0_o C_20
  clear hb21
  clear kT0_22
  go_wp2_with fail
  refine (to_SwingS a1 _ _ w.heap.size m1_22 (by omega) hn1).mono ?_
  rintro e w23 ⟨T1, rfl, oT1, hb23⟩
  have z23 : w21.heap.size ≤ w23.heap.size := hb23.size
  have m0_24 := m0_22.below (hb23.mono (B' := w.heap.size) (by omega))
  have m1_24 := m1_22.below (hb23.mono (B' := w.heap.size) (by omega))
  have ky0_8_24 := ky0_8_22.below (hb23.mono (B' := w9.heap.size) (by omega))
  have kX0_24 := kX0_22.below (hb23.mono (B' := w11.heap.size) (by omega))
  have kX1_24 := kX1_22.below (hb23.mono (B' := w13.heap.size) (by omega))
  have ky0_14_24 := ky0_14_22.below (hb23.mono (B' := w15.heap.size) (by omega))
  have C_24 := C_22.trans (hb23.mono (B' := w.heap.size) (by omega))
  clear m0_22 m1_22 ky0_8_22 kX0_22 kX1_22 ky0_14_22 C_22
  clear hb23
  have kT1_o := oT1.mono (L' := w21.heap.size) (B' := w23.heap.size) (by simp <;> omega) (Nat.le_refl _)
  clear oT1
  go_wp2_with fail
  refine (eq_SwingS a1 _ _ _ (w23).heap.size (kX1_24.lst.mono (by omega)) (kT1_o.lst.mono (by omega)) (Nat.le_refl _)).mono ?_
  rintro e w25 ⟨rfl, hb25⟩
  have z25 : w23.heap.size ≤ w25.heap.size := hb25.size
  have m0_26 := m0_24.below (hb25.mono (B' := w.heap.size) (by omega))
  have m1_26 := m1_24.below (hb25.mono (B' := w.heap.size) (by omega))
  have ky0_8_26 := ky0_8_24.below (hb25.mono (B' := w9.heap.size) (by omega))
  have kX0_26 := kX0_24.below (hb25.mono (B' := w11.heap.size) (by omega))
  have kX1_26 := kX1_24.below (hb25.mono (B' := w13.heap.size) (by omega))
  have ky0_14_26 := ky0_14_24.below (hb25.mono (B' := w15.heap.size) (by omega))
  have kT1_26 := kT1_o.below (hb25.mono (B' := w23.heap.size) (by omega))
  have C_26 := C_24.trans (hb25.mono (B' := w.heap.size) (by omega))
  clear m0_24 m1_24 ky0_8_24 kX0_24 kX1_24 ky0_14_24 kT1_o C_24
  clear hb25
  clear kT1_26
  go_wp2_with fail
  refine (mark_TableRowS a0 _ (1) _ (w9.heap.size) w11.heap.size kX0_26 (by omega) hn0 (by omega) (by omega)).mono ?_
  rintro e w27 ⟨rfl, mk, hu27⟩
  have z27 : w25.heap.size ≤ w27.heap.size := hu27.size
  have m0_28 := m0_26.below (hu27.low (B := w.heap.size) (by omega) (by omega))
  have m1_28 := m1_26.below (hu27.low (B := w.heap.size) (by omega) (by omega))
  have ky0_8_28 := ky0_8_26.below (hu27.low (B := w9.heap.size) (by omega) (by omega))
  have kX1_28 := kX1_26.high hu27 (by omega)
  have ky0_14_28 := ky0_14_26.high hu27 (by omega)
  have C_28 := C_26.trans (hu27.low (B := w.heap.size) (by omega) (by omega))
  clear m0_26 m1_26 ky0_8_26 kX1_26 ky0_14_26 C_26
  clear hu27
  clear kX0_26
  have kX0_m27 := mk
  clear mk
  go_wp2_with fail
  refine (mark_SwingS a1 _ (1 + (2 * a0.length : Int)) _ (w11.heap.size) w13.heap.size kX1_28 (by omega) hn1 (by omega) (by omega)).mono ?_
  rintro e w29 ⟨rfl, mk, hu29⟩
  have z29 : w27.heap.size ≤ w29.heap.size := hu29.size
  have m0_30 := m0_28.below (hu29.low (B := w.heap.size) (by omega) (by omega))
  have m1_30 := m1_28.below (hu29.low (B := w.heap.size) (by omega) (by omega))
  have ky0_8_30 := ky0_8_28.below (hu29.low (B := w9.heap.size) (by omega) (by omega))
  have kX0_30 := kX0_m27.below (hu29.low (B := w11.heap.size) (by omega) (by omega))
  have ky0_14_30 := ky0_14_28.high hu29 (by omega)
  have C_30 := C_28.trans (hu29.low (B := w.heap.size) (by omega) (by omega))
  clear m0_28 m1_28 ky0_8_28 kX0_m27 ky0_14_28 C_28
  clear hu29
  clear kX1_28
  have kX1_m29 := mk
  clear mk
  have dk30 : ¬ (1 + (2 * a0.length : Int) + (4 * a1.length : Int)) < 0 := by omega
  go_wp2_with fail
  refine (eq_IntS r0 _ _ _ (w29).heap.size (ky0_14_30.lst.mono (by omega)) (ky0_8_30.lst.mono (by omega)) (Nat.le_refl _)).mono ?_
  rintro e w31 ⟨rfl, hb31⟩
  have z31 : w29.heap.size ≤ w31.heap.size := hb31.size
  have m0_32 := m0_30.below (hb31.mono (B' := w.heap.size) (by omega))
  have m1_32 := m1_30.below (hb31.mono (B' := w.heap.size) (by omega))
  have ky0_8_32 := ky0_8_30.below (hb31.mono (B' := w9.heap.size) (by omega))
  have kX0_32 := kX0_30.below (hb31.mono (B' := w11.heap.size) (by omega))
  have kX1_32 := kX1_m29.below (hb31.mono (B' := w13.heap.size) (by omega))
  have ky0_14_32 := ky0_14_30.below (hb31.mono (B' := w15.heap.size) (by omega))
  have C_32 := C_30.trans (hb31.mono (B' := w.heap.size) (by omega))
  clear m0_30 m1_30 ky0_8_30 kX0_30 kX1_m29 ky0_14_30 C_30
  clear hb31
  go_wp2_with fail
  refine (mark_IntS r0 _ (1) _ (w13.heap.size) w15.heap.size ky0_14_32 (by omega) hl0 (by omega) (by omega)).mono ?_
  rintro e w33 ⟨rfl, mk, hu33⟩
  have z33 : w31.heap.size ≤ w33.heap.size := hu33.size
  have m0_34 := m0_32.below (hu33.low (B := w.heap.size) (by omega) (by omega))
  have m1_34 := m1_32.below (hu33.low (B := w.heap.size) (by omega) (by omega))
  have ky0_8_34 := ky0_8_32.below (hu33.low (B := w9.heap.size) (by omega) (by omega))
  have kX0_34 := kX0_32.below (hu33.low (B := w11.heap.size) (by omega) (by omega))
  have kX1_34 := kX1_32.below (hu33.low (B := w13.heap.size) (by omega) (by omega))
  have C_34 := C_32.trans (hu33.low (B := w.heap.size) (by omega) (by omega))
  clear m0_32 m1_32 ky0_8_32 kX0_32 kX1_32 C_32
  clear hu33
  clear ky0_14_32
  have ky0_14_m33 := mk
  clear mk
  go_wp2_with fail
  refine (held_IntS r0 _ (1) _ (w15.heap.size) ky0_14_m33.lst (by omega) hl0 (by omega) (by omega)).mono ?_
  rintro e w35 ⟨rfl, hb35⟩
  have z35 : w33.heap.size ≤ w35.heap.size := hb35.size
  have m0_36 := m0_34.below (hb35.mono (B' := w.heap.size) (by omega))
  have m1_36 := m1_34.below (hb35.mono (B' := w.heap.size) (by omega))
  have ky0_8_36 := ky0_8_34.below (hb35.mono (B' := w9.heap.size) (by omega))
  have kX0_36 := kX0_34.below (hb35.mono (B' := w11.heap.size) (by omega))
  have kX1_36 := kX1_34.below (hb35.mono (B' := w13.heap.size) (by omega))
  have ky0_14_36 := ky0_14_m33.below (hb35.mono (B' := w15.heap.size) (by omega))
  have C_36 := C_34.trans (hb35.mono (B' := w.heap.size) (by omega))
  clear m0_34 m1_34 ky0_8_34 kX0_34 kX1_34 ky0_14_m33 C_34
  clear hb35
  have dq36 : ¬ (1 + (r0.length : Int)) < 0 := by omega
  go_wp2_with fail
  refine (to_TableRowS a0 _ _ w.heap.size m0_36 (by omega) hn0).mono ?_
  rintro e w37 ⟨x37, rfl, ox37, hb37⟩
  have z37 : w35.heap.size ≤ w37.heap.size := hb37.size
  have m0_38 := m0_36.below (hb37.mono (B' := w.heap.size) (by omega))
  have m1_38 := m1_36.below (hb37.mono (B' := w.heap.size) (by omega))
  have ky0_8_38 := ky0_8_36.below (hb37.mono (B' := w9.heap.size) (by omega))
  have kX0_38 := kX0_36.below (hb37.mono (B' := w11.heap.size) (by omega))
  have kX1_38 := kX1_36.below (hb37.mono (B' := w13.heap.size) (by omega))
  have ky0_14_38 := ky0_14_36.below (hb37.mono (B' := w15.heap.size) (by omega))
  have C_38 := C_36.trans (hb37.mono (B' := w.heap.size) (by omega))
  clear m0_36 m1_36 ky0_8_36 kX0_36 kX1_36 ky0_14_36 C_36
  clear hb37
  have kx37_o := ox37.mono (L' := w35.heap.size) (B' := w37.heap.size) (by simp <;> omega) (Nat.le_refl _)
  clear ox37
  go_wp2_with fail
  refine (to_SwingS a1 _ _ w.heap.size m1_38 (by omega) hn1).mono ?_
  rintro e w39 ⟨x39, rfl, ox39, hb39⟩
  have z39 : w37.heap.size ≤ w39.heap.size := hb39.size
  have m0_40 := m0_38.below (hb39.mono (B' := w.heap.size) (by omega))
  have m1_40 := m1_38.below (hb39.mono (B' := w.heap.size) (by omega))
  have ky0_8_40 := ky0_8_38.below (hb39.mono (B' := w9.heap.size) (by omega))
  have kX0_40 := kX0_38.below (hb39.mono (B' := w11.heap.size) (by omega))
  have kX1_40 := kX1_38.below (hb39.mono (B' := w13.heap.size) (by omega))
  have ky0_14_40 := ky0_14_38.below (hb39.mono (B' := w15.heap.size) (by omega))
  have kx37_40 := kx37_o.below (hb39.mono (B' := w37.heap.size) (by omega))
  have C_40 := C_38.trans (hb39.mono (B' := w.heap.size) (by omega))
  clear m0_38 m1_38 ky0_8_38 kX0_38 kX1_38 ky0_14_38 kx37_o C_38
  clear hb39
  have kx39_o := ox39.mono (L' := w37.heap.size) (B' := w39.heap.size) (by simp <;> omega) (Nat.le_refl _)
  clear ox39
  go_wp2_with fail
  refine (HI.out _ _ _ (w39).heap.size  (kx37_40.lst.mono (by omega)) (kx39_o.lst.mono (by omega)) (Nat.le_refl _) hn0 hn1 hw0 hw1  ).mono ?_
  rintro e w41 ⟨y0_40, rfl, oy0_40, hb41⟩
  have z41 : w39.heap.size ≤ w41.heap.size := hb41.size
  have m0_42 := m0_40.below (hb41.mono (B' := w.heap.size) (by omega))
  have m1_42 := m1_40.below (hb41.mono (B' := w.heap.size) (by omega))
  have ky0_8_42 := ky0_8_40.below (hb41.mono (B' := w9.heap.size) (by omega))
  have kX0_42 := kX0_40.below (hb41.mono (B' := w11.heap.size) (by omega))
  have kX1_42 := kX1_40.below (hb41.mono (B' := w13.heap.size) (by omega))
  have ky0_14_42 := ky0_14_40.below (hb41.mono (B' := w15.heap.size) (by omega))
  have kx37_42 := kx37_40.below (hb41.mono (B' := w37.heap.size) (by omega))
  have kx39_42 := kx39_o.below (hb41.mono (B' := w39.heap.size) (by omega))
  have C_42 := C_40.trans (hb41.mono (B' := w.heap.size) (by omega))
  clear m0_40 m1_40 ky0_8_40 kX0_40 kX1_40 ky0_14_40 kx37_40 kx39_o C_40
  clear hb41
  have ky0_40_o := oy0_40.mono (L' := w39.heap.size) (B' := w41.heap.size) (by simp <;> omega) (Nat.le_refl _)
  clear oy0_40
  obtain ⟨aoy0_40, capy0_40, rfl⟩ := ky0_40_o.form
  clear kx37_42
  clear kx39_42
  go_wp2_with fail
  refine (eq_IntS r0 _ _ _ (w41).heap.size (ky0_40_o.lst.mono (by omega)) (ky0_8_42.lst.mono (by omega)) (Nat.le_refl _)).mono ?_
  rintro e w43 ⟨rfl, hb43⟩
  have z43 : w41.heap.size ≤ w43.heap.size := hb43.size
  have m0_44 := m0_42.below (hb43.mono (B' := w.heap.size) (by omega))
  have m1_44 := m1_42.below (hb43.mono (B' := w.heap.size) (by omega))
  have ky0_8_44 := ky0_8_42.below (hb43.mono (B' := w9.heap.size) (by omega))
  have kX0_44 := kX0_42.below (hb43.mono (B' := w11.heap.size) (by omega))
  have kX1_44 := kX1_42.below (hb43.mono (B' := w13.heap.size) (by omega))
  have ky0_14_44 := ky0_14_42.below (hb43.mono (B' := w15.heap.size) (by omega))
  have ky0_40_44 := ky0_40_o.below (hb43.mono (B' := w41.heap.size) (by omega))
  have C_44 := C_42.trans (hb43.mono (B' := w.heap.size) (by omega))
  clear m0_42 m1_42 ky0_8_42 kX0_42 kX1_42 ky0_14_42 ky0_40_o C_42
  clear hb43
  go_wp2_with fail
  refine (held_IntS r0 _ (1) _ (w15.heap.size) ky0_14_44.lst (by omega) hl0 (by omega) (by omega)).mono ?_
  rintro e w45 ⟨rfl, hb45⟩
  have z45 : w43.heap.size ≤ w45.heap.size := hb45.size
  have m0_46 := m0_44.below (hb45.mono (B' := w.heap.size) (by omega))
  have m1_46 := m1_44.below (hb45.mono (B' := w.heap.size) (by omega))
  have ky0_8_46 := ky0_8_44.below (hb45.mono (B' := w9.heap.size) (by omega))
  have kX0_46 := kX0_44.below (hb45.mono (B' := w11.heap.size) (by omega))
  have kX1_46 := kX1_44.below (hb45.mono (B' := w13.heap.size) (by omega))
  have ky0_14_46 := ky0_14_44.below (hb45.mono (B' := w15.heap.size) (by omega))
  have ky0_40_46 := ky0_40_44.below (hb45.mono (B' := w41.heap.size) (by omega))
  have C_46 := C_44.trans (hb45.mono (B' := w.heap.size) (by omega))
  clear m0_44 m1_44 ky0_8_44 kX0_44 kX1_44 ky0_14_44 ky0_40_44 C_44
  clear hb45
  have dq46 : ¬ (1 + (r0.length : Int)) < 0 := by omega
  go_wp2
  go_ret
  exact ⟨rfl, C_46⟩

set_option maxRecDepth 100000 in
theorem walk_all {H : Type} {enc : TypeId × Value → H} {base : Nat} {w : World} (v0 : Value) {d0 : DataW H} {ps0 : List MemPlace} (hval0 : Value.okWide Try.prog w .any base 64 v0) (hd0 : DataW.Trod enc Try.prog w 0 (fun _ => true) true 64 v0 d0 ps0) (v1 : Value) {d1 : DataW H} {ps1 : List MemPlace} (hval1 : Value.okWide Try.prog w .any base 70 v1) (hd1 : DataW.Trod enc Try.prog w 0 (fun _ => true) true 70 v1 d1 ps1) :
    Calls Try.prog 11 #[v0, v1] w fun e w' => e = .returned (.bool true) ∧ Below w.heap.size w w' := by
  obtain ⟨a0, h0, hw0⟩ := open_TableRowS hval0 hd0
  obtain ⟨a1, h1, hw1⟩ := open_SwingS hval1 hd1
  by_cases g0 : (szsTableRow a0 : Int) ≤ 1048576
  case neg => exact walk_big0 a0 v0 a1 v1 w h0 hw0 h1 hw1 g0
  by_cases g1 : (szsSwing a1 : Int) ≤ 1048576 - (szsTableRow a0 : Int)
  case neg => exact walk_big1 a0 v0 a1 v1 w h0 hw0 h1 hw1 g0 g1
  exact walk_main a0 v0 a1 v1 w h0 hw0 h1 hw1 g0 g1

set_option maxRecDepth 100000 in
theorem contract (H : Type) (enc : TypeId × Value → H) (W : World) (base : Nat) (args : Array Value) (ds gs : List (DataW H)) (before : List MemPlace)
    (hval : ∀ (j : Nat) t v, Try.f11.params[j]? = some t → args[j]? = some v → Value.okWide Try.prog W .any base t v)
    (hW : DataW.Whole enc Try.prog Try.f11.params.toList Rows.fnExactResidualsSpec.vars false W args.toList ds gs before) :
    Calls Try.prog 11 args W fun e W' => ∃ v, e = .returned v ∧ Rows.fnExactResidualsSpec.post enc Try.prog Try.f11 false true false false W args v W' := by
  have hW' := hW
  obtain ⟨p, q, hA0, hV, rfl, hfz, hnd⟩ := hW
  have hA : DataW.TrodAll enc Try.prog W 0 (fun _ => true) true Try.f11.params.toList args.toList ds p := hA0
  rw [Try.params11] at hA hval
  obtain ⟨v0, vs0, d0, ds0, p0, q0, hargs, rfl, rfl, h0, r0⟩ := trodAll_cons hA
  obtain ⟨v1, vs1, d1, ds1, p1, q1, rfl, rfl, rfl, h1, r1⟩ := trodAll_cons r0
  obtain ⟨rfl, rfl, rfl⟩ := trodAll_nil r1
  obtain rfl : args = #[v0, v1] := by cases args; simp_all
  refine lawPost rfl rfl Try.underlying4 (by kernel_rfl) (by kernel_rfl) hW' (fun hg => by subst hg; exact ⟨rfl, rfl, rfl⟩) ?_
  exact walk_all v0 (hval 0 64 v0 rfl rfl) h0 v1 (hval 1 70 v1 rfl rfl) h1

set_option maxRecDepth 100000 in
theorem lifted (os : Os) (started : os.Started) (H : Type) (enc : TypeId × Value → H) :
    ReturnsInHanded {} Try.checked os 11 .any (Rows.fnExactResidualsSpec.pre6 enc Try.prog Try.f11 Rows.fnExactResidualsRow.domain false) (Rows.fnExactResidualsSpec.post enc Try.prog Try.f11 false true false false) := by
  refine returnsInHanded_of_change (C := Try.checked) (s := Rows.fnExactResidualsSpec) own started (by kernel_rfl) Try.func11
    (ChangeSpec.witness6 (enc := enc) (C := Try.checked) (s := Rows.fnExactResidualsSpec) false ⟨#[], #[.slice none 0 0, .slice none 0 0], []⟩ 8 (by kernel_rfl) (by kernel_rfl) (by kernel_rfl) (by kernel_rfl)) ?_
  intro W base args ds gs before hval hW _ _
  exact contract H enc W base args ds gs before hval hW

theorem said : Rows.FnExactResidualsSaid :=
  OpenClaim.holds_of_wide 11 Try.f11 rfl rfl rfl rfl rfl rfl rfl ⟨rfl, rfl, rfl, rfl, rfl⟩ rfl rfl rfl rfl rfl (by kernel_rfl) Try.func11 (by kernel_rfl)
    (of_decide_eq_true (by kernel_rfl)) (by unfold Func.isWrapper; first | (rw [if_pos (by decide +kernel)]; kernel_rfl) | (rw [if_neg (by decide +kernel)]; exact ⟨rfl, rfl⟩))
    (fun os started H enc _ => lifted os started H enc)

end Go.Proofs.Ytdiedfpfhbdamaa.fnExactResiduals
