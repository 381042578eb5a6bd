/- FnExactMovingMedians: for every list of integers and every number the law answers true; no condition. -/
import Derived.Test.YtklilfbokpljkaaFiJ
import Derived.Test.YtklilfbokpljkaaFkF
namespace Go.Proofs.Ytklilfbokpljkaa.fnExactMovingMedians
open Go.ChangeShapes Go.WideShapes Go.ChangeAt Go.RowKit Go.ChangeMaps
set_option linter.unusedSimpArgs false
set_option linter.unusedVariables false

theorem own : ownKnob Try.prog.godebug = none := by kernel_rfl


set_option maxRecDepth 100000 in
set_option maxHeartbeats 1000000 in
theorem walk_big0 (a0 : List Int) (v0 : Value) (a1 : Int) (hi1 : I64 a1) (w : World) (h0 : Lst (Value.int .i64) w w.heap.size v0 a0) (hw0 : ∀ x ∈ a0, I64 x)  (g0 : ¬ (a0.length : Int) ≤ 1048576):
    Calls Try.prog 9 #[v0, .int .i64 a1] w fun e w' => e = .returned (.bool true) ∧ Below w.heap.size w w' := by
  have C_0 := Below.refl w.heap.size w
  go_enter Try.func9, Try.ntmps9
  obtain ⟨ao, cap, rfl⟩ := h0.form
  go_wp2
  go_ret
  exact ⟨rfl, C_0⟩

set_option maxRecDepth 100000 in
set_option maxHeartbeats 1000000 in
theorem walk_main (a0 : List Int) (v0 : Value) (a1 : Int) (hi1 : I64 a1) (w : World) (h0 : Lst (Value.int .i64) w w.heap.size v0 a0) (hw0 : ∀ x ∈ a0, I64 x) (g0 : (a0.length : Int) ≤ 1048576):
    Calls Try.prog 9 #[v0, .int .i64 a1] w fun e w' => e = .returned (.bool true) ∧ Below w.heap.size w w' := by
  have hn0 : a0.length ≤ 1048576 := by first | omega | exact Nat.zero_le _
  have hS := fun v0 w B => specMed a0 v0 a1 w B
  have hI := fun v0 w B  => implMed a0 v0 a1 w B 
  have hl0 : (resMed a0 a1).length ≤ 1048576 := resMed_len a1 hn0
  generalize resMed a0 a1 = r0 at *
  generalize okA a0 a1 0 3 = r1 at *
  have HS := Lib.hid hS
  have HI := Lib.hid hI
  clear hS hI
  have C_0 := Below.refl w.heap.size w
  obtain ⟨ao0, cap0, rfl⟩ := h0.form
  go_enter Try.func9, Try.ntmps9
  go_wp2_with fail
  refine (to_IntS a0 _ _ w.heap.size h0 (by omega) hn0).mono ?_
  rintro e w1 ⟨x1, rfl, ox1, hb1⟩
  have z1 : w.heap.size ≤ w1.heap.size := hb1.size
  have m0_2 := h0.below (hb1.mono (B' := w.heap.size) (by omega))
  have C_2 := C_0.trans (hb1.mono (B' := w.heap.size) (by omega))
  clear h0 C_0
  clear hb1
  have kx1_o := ox1.mono (L' := w.heap.size) (B' := w1.heap.size) (by simp <;> omega) (Nat.le_refl _)
  clear ox1
  go_wp2_with fail
  refine (HS.out _ _ (w1).heap.size  (kx1_o.lst.mono (by omega)) (Nat.le_refl _) hn0  hi1 ).mono ?_
  rintro e w3 ⟨y0_2, rfl, oy0_2, hb3⟩
  have z3 : w1.heap.size ≤ w3.heap.size := hb3.size
  have m0_4 := m0_2.below (hb3.mono (B' := w.heap.size) (by omega))
  have kx1_4 := kx1_o.below (hb3.mono (B' := w1.heap.size) (by omega))
  have C_4 := C_2.trans (hb3.mono (B' := w.heap.size) (by omega))
  clear m0_2 kx1_o C_2
  clear hb3
  have ky0_2_o := oy0_2.mono (L' := w1.heap.size) (B' := w3.heap.size) (by simp <;> omega) (Nat.le_refl _)
  clear oy0_2
  obtain ⟨aoy0_2, capy0_2, rfl⟩ := ky0_2_o.form
  clear kx1_4
  go_wp2_with fail
  refine (to_IntS a0 _ _ w.heap.size m0_4 (by omega) hn0).mono ?_
  rintro e w5 ⟨X0, rfl, oX0, hb5⟩
  have z5 : w3.heap.size ≤ w5.heap.size := hb5.size
  have m0_6 := m0_4.below (hb5.mono (B' := w.heap.size) (by omega))
  have ky0_2_6 := ky0_2_o.below (hb5.mono (B' := w3.heap.size) (by omega))
  have C_6 := C_4.trans (hb5.mono (B' := w.heap.size) (by omega))
  clear m0_4 ky0_2_o C_4
  clear hb5
  have kX0_o := oX0.mono (L' := w3.heap.size) (B' := w5.heap.size) (by simp <;> omega) (Nat.le_refl _)
  clear oX0
  go_wp2_with fail
  refine (HI.out _ _ (w5).heap.size  (kX0_o.lst.mono (by omega)) (Nat.le_refl _) hn0  hi1 ).mono ?_
  rintro e w7 ⟨y0_6, rfl, oy0_6, hb7⟩
  have z7 : w5.heap.size ≤ w7.heap.size := hb7.size
  have m0_8 := m0_6.below (hb7.mono (B' := w.heap.size) (by omega))
  have ky0_2_8 := ky0_2_6.below (hb7.mono (B' := w3.heap.size) (by omega))
  have kX0_8 := kX0_o.below (hb7.mono (B' := w5.heap.size) (by omega))
  have C_8 := C_6.trans (hb7.mono (B' := w.heap.size) (by omega))
  clear m0_6 ky0_2_6 kX0_o C_6
  clear hb7
  have ky0_6_o := oy0_6.mono (L' := w5.heap.size) (B' := w7.heap.size) (by simp <;> omega) (Nat.le_refl _)
  clear oy0_6
  obtain ⟨aoy0_6, capy0_6, rfl⟩ := ky0_6_o.form
  go_wp2_with fail
  refine (eq_IntS r0 _ _ _ (w7).heap.size (ky0_6_o.lst.mono (by omega)) (ky0_2_8.lst.mono (by omega)) (Nat.le_refl _)).mono ?_
  rintro e w9 ⟨rfl, hb9⟩
  have z9 : w7.heap.size ≤ w9.heap.size := hb9.size
  have m0_10 := m0_8.below (hb9.mono (B' := w.heap.size) (by omega))
  have ky0_2_10 := ky0_2_8.below (hb9.mono (B' := w3.heap.size) (by omega))
  have kX0_10 := kX0_8.below (hb9.mono (B' := w5.heap.size) (by omega))
  have ky0_6_10 := ky0_6_o.below (hb9.mono (B' := w7.heap.size) (by omega))
  have C_10 := C_8.trans (hb9.mono (B' := w.heap.size) (by omega))
  clear m0_8 ky0_2_8 kX0_8 ky0_6_o C_8
  clear hb9
  go_wp2_with fail
  refine (to_IntS a0 _ _ w.heap.size m0_10 (by omega) hn0).mono ?_
  rintro e w11 ⟨T0, rfl, oT0, hb11⟩
  have z11 : w9.heap.size ≤ w11.heap.size := hb11.size
  have m0_12 := m0_10.below (hb11.mono (B' := w.heap.size) (by omega))
  have ky0_2_12 := ky0_2_10.below (hb11.mono (B' := w3.heap.size) (by omega))
  have kX0_12 := kX0_10.below (hb11.mono (B' := w5.heap.size) (by omega))
  have ky0_6_12 := ky0_6_10.below (hb11.mono (B' := w7.heap.size) (by omega))
  have C_12 := C_10.trans (hb11.mono (B' := w.heap.size) (by omega))
  clear m0_10 ky0_2_10 kX0_10 ky0_6_10 C_10
  clear hb11
  have kT0_o := oT0.mono (L' := w9.heap.size) (B' := w11.heap.size) (by simp <;> omega) (Nat.le_refl _)
  clear oT0
  go_wp2_with fail
  refine (eq_IntS a0 _ _ _ (w11).heap.size (kX0_12.lst.mono (by omega)) (kT0_o.lst.mono (by omega)) (Nat.le_refl _)).mono ?_
  rintro e w13 ⟨rfl, hb13⟩
  have z13 : w11.heap.size ≤ w13.heap.size := hb13.size
  have m0_14 := m0_12.below (hb13.mono (B' := w.heap.size) (by omega))
  have ky0_2_14 := ky0_2_12.below (hb13.mono (B' := w3.heap.size) (by omega))
  have kX0_14 := kX0_12.below (hb13.mono (B' := w5.heap.size) (by omega))
  have ky0_6_14 := ky0_6_12.below (hb13.mono (B' := w7.heap.size) (by omega))
  have kT0_14 := kT0_o.below (hb13.mono (B' := w11.heap.size) (by omega))
  have C_14 := C_12.trans (hb13.mono (B' := w.heap.size) (by omega))
  clear m0_12 ky0_2_12 kX0_12 ky0_6_12 kT0_o C_12
  clear hb13
  clear kT0_14
  go_wp2_with fail
  refine (mark_IntS a0 _ (1) _ (w3.heap.size) w5.heap.size kX0_14 (by omega) hn0 (by omega) (by omega)).mono ?_
  rintro e w15 ⟨rfl, mk, hu15⟩
  have z15 : w13.heap.size ≤ w15.heap.size := hu15.size
  have m0_16 := m0_14.below (hu15.low (B := w.heap.size) (by omega) (by omega))
  have ky0_2_16 := ky0_2_14.below (hu15.low (B := w3.heap.size) (by omega) (by omega))
  have ky0_6_16 := ky0_6_14.high hu15 (by omega)
  have C_16 := C_14.trans (hu15.low (B := w.heap.size) (by omega) (by omega))
  clear m0_14 ky0_2_14 ky0_6_14 C_14
  clear hu15
  clear kX0_14
  have kX0_m15 := mk
  clear mk
  have dk16 : ¬ (1 + (a0.length : Int)) < 0 := by omega
  go_wp2_with fail
  refine (eq_IntS r0 _ _ _ (w15).heap.size (ky0_6_16.lst.mono (by omega)) (ky0_2_16.lst.mono (by omega)) (Nat.le_refl _)).mono ?_
  rintro e w17 ⟨rfl, hb17⟩
  have z17 : w15.heap.size ≤ w17.heap.size := hb17.size
  have m0_18 := m0_16.below (hb17.mono (B' := w.heap.size) (by omega))
  have ky0_2_18 := ky0_2_16.below (hb17.mono (B' := w3.heap.size) (by omega))
  have kX0_18 := kX0_m15.below (hb17.mono (B' := w5.heap.size) (by omega))
  have ky0_6_18 := ky0_6_16.below (hb17.mono (B' := w7.heap.size) (by omega))
  have C_18 := C_16.trans (hb17.mono (B' := w.heap.size) (by omega))
  clear m0_16 ky0_2_16 kX0_m15 ky0_6_16 C_16
  clear hb17
  go_wp2_with fail
  refine (mark_IntS r0 _ (1) _ (w5.heap.size) w7.heap.size ky0_6_18 (by omega) hl0 (by omega) (by omega)).mono ?_
  rintro e w19 ⟨rfl, mk, hu19⟩
  have z19 : w17.heap.size ≤ w19.heap.size := hu19.size
  have m0_20 := m0_18.below (hu19.low (B := w.heap.size) (by omega) (by omega))
  have ky0_2_20 := ky0_2_18.below (hu19.low (B := w3.heap.size) (by omega) (by omega))
  have kX0_20 := kX0_18.below (hu19.low (B := w5.heap.size) (by omega) (by omega))
  have C_20 := C_18.trans (hu19.low (B := w.heap.size) (by omega) (by omega))
  clear m0_18 ky0_2_18 kX0_18 C_18
  clear hu19
  clear ky0_6_18
  have ky0_6_m19 := mk
  clear mk
  go_wp2_with fail
  refine (held_IntS r0 _ (1) _ (w7.heap.size) ky0_6_m19.lst (by omega) hl0 (by omega) (by omega)).mono ?_
  rintro e w21 ⟨rfl, hb21⟩
  have z21 : w19.heap.size ≤ w21.heap.size := hb21.size
  have m0_22 := m0_20.below (hb21.mono (B' := w.heap.size) (by omega))
  have ky0_2_22 := ky0_2_20.below (hb21.mono (B' := w3.heap.size) (by omega))
  have kX0_22 := kX0_20.below (hb21.mono (B' := w5.heap.size) (by omega))
  have ky0_6_22 := ky0_6_m19.below (hb21.mono (B' := w7.heap.size) (by omega))
  have C_22 := C_20.trans (hb21.mono (B' := w.heap.size) (by omega))
  clear m0_20 ky0_2_20 kX0_20 ky0_6_m19 C_20
  clear hb21
  have dq22 : ¬ (1 + (r0.length : Int)) < 0 := by omega
  go_wp2_with fail
  refine (to_IntS a0 _ _ w.heap.size m0_22 (by omega) hn0).mono ?_
  rintro e w23 ⟨x23, rfl, ox23, hb23⟩
  have z23 : w21.heap.size ≤ w23.heap.size := hb23.size
  have m0_24 := m0_22.below (hb23.mono (B' := w.heap.size) (by omega))
  have ky0_2_24 := ky0_2_22.below (hb23.mono (B' := w3.heap.size) (by omega))
  have kX0_24 := kX0_22.below (hb23.mono (B' := w5.heap.size) (by omega))
  have ky0_6_24 := ky0_6_22.below (hb23.mono (B' := w7.heap.size) (by omega))
  have C_24 := C_22.trans (hb23.mono (B' := w.heap.size) (by omega))
  clear m0_22 ky0_2_22 kX0_22 ky0_6_22 C_22
  clear hb23
  have kx23_o := ox23.mono (L' := w21.heap.size) (B' := w23.heap.size) (by simp <;> omega) (Nat.le_refl _)
  clear ox23
  go_wp2_with fail
  refine (HI.out _ _ (w23).heap.size  (kx23_o.lst.mono (by omega)) (Nat.le_refl _) hn0  hi1 ).mono ?_
  rintro e w25 ⟨y0_24, rfl, oy0_24, hb25⟩
  have z25 : w23.heap.size ≤ w25.heap.size := hb25.size
  have m0_26 := m0_24.below (hb25.mono (B' := w.heap.size) (by omega))
  have ky0_2_26 := ky0_2_24.below (hb25.mono (B' := w3.heap.size) (by omega))
  have kX0_26 := kX0_24.below (hb25.mono (B' := w5.heap.size) (by omega))
  have ky0_6_26 := ky0_6_24.below (hb25.mono (B' := w7.heap.size) (by omega))
  have kx23_26 := kx23_o.below (hb25.mono (B' := w23.heap.size) (by omega))
  have C_26 := C_24.trans (hb25.mono (B' := w.heap.size) (by omega))
  clear m0_24 ky0_2_24 kX0_24 ky0_6_24 kx23_o C_24
  clear hb25
  have ky0_24_o := oy0_24.mono (L' := w23.heap.size) (B' := w25.heap.size) (by simp <;> omega) (Nat.le_refl _)
  clear oy0_24
  obtain ⟨aoy0_24, capy0_24, rfl⟩ := ky0_24_o.form
  clear kx23_26
  go_wp2_with fail
  refine (eq_IntS r0 _ _ _ (w25).heap.size (ky0_24_o.lst.mono (by omega)) (ky0_2_26.lst.mono (by omega)) (Nat.le_refl _)).mono ?_
  rintro e w27 ⟨rfl, hb27⟩
  have z27 : w25.heap.size ≤ w27.heap.size := hb27.size
  have m0_28 := m0_26.below (hb27.mono (B' := w.heap.size) (by omega))
  have ky0_2_28 := ky0_2_26.below (hb27.mono (B' := w3.heap.size) (by omega))
  have kX0_28 := kX0_26.below (hb27.mono (B' := w5.heap.size) (by omega))
  have ky0_6_28 := ky0_6_26.below (hb27.mono (B' := w7.heap.size) (by omega))
  have ky0_24_28 := ky0_24_o.below (hb27.mono (B' := w25.heap.size) (by omega))
  have C_28 := C_26.trans (hb27.mono (B' := w.heap.size) (by omega))
  clear m0_26 ky0_2_26 kX0_26 ky0_6_26 ky0_24_o C_26
  clear hb27
  go_wp2_with fail
  refine (held_IntS r0 _ (1) _ (w7.heap.size) ky0_6_28.lst (by omega) hl0 (by omega) (by omega)).mono ?_
  rintro e w29 ⟨rfl, hb29⟩
  have z29 : w27.heap.size ≤ w29.heap.size := hb29.size
  have m0_30 := m0_28.below (hb29.mono (B' := w.heap.size) (by omega))
  have ky0_2_30 := ky0_2_28.below (hb29.mono (B' := w3.heap.size) (by omega))
  have kX0_30 := kX0_28.below (hb29.mono (B' := w5.heap.size) (by omega))
  have ky0_6_30 := ky0_6_28.below (hb29.mono (B' := w7.heap.size) (by omega))
  have ky0_24_30 := ky0_24_28.below (hb29.mono (B' := w25.heap.size) (by omega))
  have C_30 := C_28.trans (hb29.mono (B' := w.heap.size) (by omega))
  clear m0_28 ky0_2_28 kX0_28 ky0_6_28 ky0_24_28 C_28
  clear hb29
  have dq30 : ¬ (1 + (r0.length : Int)) < 0 := by omega
  go_wp2
  go_ret
  exact ⟨rfl, C_30⟩

set_option maxRecDepth 100000 in
theorem walk_all {H : Type} {enc : TypeId × Value → H} {base : Nat} {w : World} (v0 : Value) {d0 : DataW H} {ps0 : List MemPlace} (hval0 : Value.okWide Try.prog w .any base 43 v0) (hd0 : DataW.Trod enc Try.prog w 0 (fun _ => true) true 43 v0 d0 ps0) (a1 : Int) (wf1 : (Lit.int .i64 a1).wf = true) :
    Calls Try.prog 9 #[v0, .int .i64 a1] w fun e w' => e = .returned (.bool true) ∧ Below w.heap.size w w' := by
  obtain ⟨a0, h0, hw0⟩ := open_IntS hval0 hd0
  have hi1 : I64 a1 := bounds_i64 wf1
  by_cases g0 : (a0.length : Int) ≤ 1048576
  case neg => exact walk_big0 a0 v0 a1 hi1 w h0 hw0 g0
  exact walk_main a0 v0 a1 hi1 w h0 hw0 g0

set_option maxRecDepth 100000 in
theorem contract (H : Type) (enc : TypeId × Value → H) (W : World) (base : Nat) (args : Array Value) (ds gs : List (DataW H)) (before : List MemPlace)
    (hval : ∀ (j : Nat) t v, Try.f9.params[j]? = some t → args[j]? = some v → Value.okWide Try.prog W .any base t v)
    (hW : DataW.Whole enc Try.prog Try.f9.params.toList Rows.fnExactMovingMediansSpec.vars false W args.toList ds gs before) :
    Calls Try.prog 9 args W fun e W' => ∃ v, e = .returned v ∧ Rows.fnExactMovingMediansSpec.post enc Try.prog Try.f9 false true false false W args v W' := by
  have hW' := hW
  obtain ⟨p, q, hA0, hV, rfl, hfz, hnd⟩ := hW
  have hA : DataW.TrodAll enc Try.prog W 0 (fun _ => true) true Try.f9.params.toList args.toList ds p := hA0
  rw [Try.params9] at hA hval
  obtain ⟨v0, vs0, d0, ds0, p0, q0, hargs, rfl, rfl, h0, r0⟩ := trodAll_cons hA
  obtain ⟨v1, vs1, d1, ds1, p1, q1, rfl, rfl, rfl, h1, r1⟩ := trodAll_cons r0
  obtain ⟨rfl, rfl, rfl⟩ := trodAll_nil r1
  obtain rfl : args = #[v0, v1] := by cases args; simp_all
  obtain ⟨n1, rfl, rfl, rfl, w1⟩ := open_int Try.underlying3 (hval 1 3 v1 rfl rfl) h1
  refine lawPost rfl rfl Try.underlying4 (by kernel_rfl) (by kernel_rfl) hW' (fun hg => by subst hg; exact ⟨rfl, rfl, rfl⟩) ?_
  exact walk_all v0 (hval 0 43 v0 rfl rfl) h0 n1 w1

set_option maxRecDepth 100000 in
theorem lifted (os : Os) (started : os.Started) (H : Type) (enc : TypeId × Value → H) :
    ReturnsInHanded {} Try.checked os 9 .any (Rows.fnExactMovingMediansSpec.pre6 enc Try.prog Try.f9 Rows.fnExactMovingMediansRow.domain false) (Rows.fnExactMovingMediansSpec.post enc Try.prog Try.f9 false true false false) := by
  refine returnsInHanded_of_change (C := Try.checked) (s := Rows.fnExactMovingMediansSpec) own started (by kernel_rfl) Try.func9
    (ChangeSpec.witness6 (enc := enc) (C := Try.checked) (s := Rows.fnExactMovingMediansSpec) false ⟨#[], #[.slice none 0 0, .int .i64 0], []⟩ 8 (by kernel_rfl) (by kernel_rfl) (by kernel_rfl) (by kernel_rfl)) ?_
  intro W base args ds gs before hval hW _ _
  exact contract H enc W base args ds gs before hval hW

theorem said : Rows.FnExactMovingMediansSaid :=
  OpenClaim.holds_of_wide 9 Try.f9 rfl rfl rfl rfl rfl rfl rfl ⟨rfl, rfl, rfl, rfl, rfl⟩ rfl rfl rfl rfl rfl (by kernel_rfl) Try.func9 (by kernel_rfl)
    (of_decide_eq_true (by kernel_rfl)) (by unfold Func.isWrapper; first | (rw [if_pos (by decide +kernel)]; kernel_rfl) | (rw [if_neg (by decide +kernel)]; exact ⟨rfl, rfl⟩))
    (fun os started H enc _ => lifted os started H enc)

end Go.Proofs.Ytklilfbokpljkaa.fnExactMovingMedians
