/- FnExactEventsFound: for every list of arrivals and every two numbers the law answers true; no condition. -/
import Derived.Test.YtoogofceoinniabVoI
import Derived.Test.YtoogofceoinniabVpN
import Derived.Deep.CutBlock
import Derived.Deep.CutRange
import Derived.Deep.DeepCutAuto
namespace Go.Proofs.Ytoogofceoinniab.fnExactEventsFound
open Go.ChangeShapes Go.WideShapes Go.ChangeAt Go.RowKit Go.ChangeMaps
set_option linter.unusedSimpArgs false
set_option linter.unusedVariables false

theorem own : ownKnob Try.prog.godebug = none := by kernel_rfl


set_option maxRecDepth 100000 in
set_option maxHeartbeats 1000000 in
theorem walk_big0 (a0 : List GArrival) (v0 : Value) (a1 : Int) (hi1 : I64 a1) (a2 : Int) (hi2 : I64 a2) (w : World) (h0 : ArrivalL w w.heap.size v0 a0) (hw0 : ∀ s ∈ a0, wfArrival s)  (g0 : ¬ (szsArrival a0 : Int) ≤ 1048576):
    Calls Try.prog 10 #[v0, .int .i64 a1, .int .i64 a2] w fun e w' => e = .returned (.bool true) ∧ Below w.heap.size w w' := by
  have C_0 := Below.refl w.heap.size w
  go_enter Try.func10, Try.ntmps10
  go_wp2_with fail
  refine (szgt_ArrivalS a0 _ (1048576) _ w.heap.size h0 (by omega) (by omega) (by omega) (by omega) hw0).mono ?_
  rintro e w1 ⟨rfl, hb1⟩
  have z1 : w.heap.size ≤ w1.heap.size := hb1.size
  have m0_2 := h0.below (hb1.mono (B' := w.heap.size) (by omega))
  have C_2 := C_0.trans (hb1.mono (B' := w.heap.size) (by omega))
  clear h0 C_0
  clear hb1
  go_wp2
  go_ret
  exact ⟨rfl, C_2⟩

set_option maxRecDepth 100000 in
set_option maxHeartbeats 1000000 in
theorem walk_main (a0 : List GArrival) (v0 : Value) (a1 : Int) (hi1 : I64 a1) (a2 : Int) (hi2 : I64 a2) (w : World) (h0 : ArrivalL w w.heap.size v0 a0) (hw0 : ∀ s ∈ a0, wfArrival s) (g0 : (szsArrival a0 : Int) ≤ 1048576):
    Calls Try.prog 10 #[v0, .int .i64 a1, .int .i64 a2] w fun e w' => e = .returned (.bool true) ∧ Below w.heap.size w w' := by
  have hn0 : szsArrival a0 ≤ 1048576 := by first | omega | exact Nat.zero_le _
  have hnl0 := szsArrival_len a0
  have hS := fun v0 w B => specEf a0 v0 a1 a2 w B
  have hI := fun v0 w B  => implEf a0 v0 a1 a2 w B 
  have hl0 : szsOrigin (resEf a0 a1 a2) ≤ 1048576 := resEf_len a0 a1 a2
  generalize resEf a0 a1 a2 = r0 at *
  generalize okEf a0 a1 a2 = r1 at *
  have hll0 := szsOrigin_len r0
  have HS := Lib.hid hS
  have HI := Lib.hid hI
  clear hS hI
  have C_0 := Below.refl w.heap.size w
  have d0 : ¬ 1048576 - (szsArrival a0 : Int) < 0 := by omega
  go_enter Try.func10, Try.ntmps10
  go_wp2_with fail
  refine (sz_ArrivalS a0 _ (1048576) _ w.heap.size h0 (by omega) (by omega) (by omega) (by omega)).mono ?_
  rintro e w1 ⟨rfl, hb1⟩
  have z1 : w.heap.size ≤ w1.heap.size := hb1.size
  have m0_2 := h0.below (hb1.mono (B' := w.heap.size) (by omega))
  have C_2 := C_0.trans (hb1.mono (B' := w.heap.size) (by omega))
  clear h0 C_0
  clear hb1
  go_wp2_with fail
  refine (to_ArrivalS a0 _ _ w.heap.size m0_2 (by omega) hn0).mono ?_
  rintro e w3 ⟨x3, rfl, ox3, hb3⟩
  have z3 : w1.heap.size ≤ w3.heap.size := hb3.size
  have m0_4 := m0_2.below (hb3.mono (B' := w.heap.size) (by omega))
  have C_4 := C_2.trans (hb3.mono (B' := w.heap.size) (by omega))
  clear m0_2 C_2
  clear hb3
  have kx3_o := ox3.mono (L' := w1.heap.size) (B' := w3.heap.size) (by simp <;> omega) (Nat.le_refl _)
  clear ox3
  go_wp2_with fail
  refine (HS.out _ _ (w3).heap.size  (kx3_o.lst.mono (by omega)) (Nat.le_refl _) hn0 hw0 hi1 hi2 ).mono ?_
  rintro e w5 ⟨y0_4, rfl, oy0_4, hb5⟩
  have z5 : w3.heap.size ≤ w5.heap.size := hb5.size
  have m0_6 := m0_4.below (hb5.mono (B' := w.heap.size) (by omega))
  have kx3_6 := kx3_o.below (hb5.mono (B' := w3.heap.size) (by omega))
  have C_6 := C_4.trans (hb5.mono (B' := w.heap.size) (by omega))
  clear m0_4 kx3_o C_4
  clear hb5
  have ky0_4_o := oy0_4.mono (L' := w3.heap.size) (B' := w5.heap.size) (by simp <;> omega) (Nat.le_refl _)
  clear oy0_4
  obtain ⟨aoy0_4, capy0_4, rfl⟩ := ky0_4_o.form
  clear kx3_6
  go_wp2_with fail
  refine (to_ArrivalS a0 _ _ w.heap.size m0_6 (by omega) hn0).mono ?_
  rintro e w7 ⟨X0, rfl, oX0, hb7⟩
  have z7 : w5.heap.size ≤ w7.heap.size := hb7.size
  have m0_8 := m0_6.below (hb7.mono (B' := w.heap.size) (by omega))
  have ky0_4_8 := ky0_4_o.below (hb7.mono (B' := w5.heap.size) (by omega))
  have C_8 := C_6.trans (hb7.mono (B' := w.heap.size) (by omega))
  clear m0_6 ky0_4_o C_6
  clear hb7
  have kX0_o := oX0.mono (L' := w5.heap.size) (B' := w7.heap.size) (by simp <;> omega) (Nat.le_refl _)
  clear oX0
  go_wp2_with fail
  refine (HI.out _ _ (w7).heap.size  (kX0_o.lst.mono (by omega)) (Nat.le_refl _) hn0 hw0 hi1 hi2 ).mono ?_
  rintro e w9 ⟨y0_8, rfl, oy0_8, hb9⟩
  have z9 : w7.heap.size ≤ w9.heap.size := hb9.size
  have m0_10 := m0_8.below (hb9.mono (B' := w.heap.size) (by omega))
  have ky0_4_10 := ky0_4_8.below (hb9.mono (B' := w5.heap.size) (by omega))
  have kX0_10 := kX0_o.below (hb9.mono (B' := w7.heap.size) (by omega))
  have C_10 := C_8.trans (hb9.mono (B' := w.heap.size) (by omega))
  clear m0_8 ky0_4_8 kX0_o C_8
  clear hb9
  have ky0_8_o := oy0_8.mono (L' := w7.heap.size) (B' := w9.heap.size) (by simp <;> omega) (Nat.le_refl _)
  clear oy0_8
  obtain ⟨aoy0_8, capy0_8, rfl⟩ := ky0_8_o.form
  go_wp2_with fail
  refine (eq_OriginS r0 _ _ _ (w9).heap.size (ky0_8_o.lst.mono (by omega)) (ky0_4_10.lst.mono (by omega)) (Nat.le_refl _)).mono ?_
  rintro e w11 ⟨rfl, hb11⟩
  have z11 : w9.heap.size ≤ w11.heap.size := hb11.size
  have m0_12 := m0_10.below (hb11.mono (B' := w.heap.size) (by omega))
  have ky0_4_12 := ky0_4_10.below (hb11.mono (B' := w5.heap.size) (by omega))
  have kX0_12 := kX0_10.below (hb11.mono (B' := w7.heap.size) (by omega))
  have ky0_8_12 := ky0_8_o.below (hb11.mono (B' := w9.heap.size) (by omega))
  have C_12 := C_10.trans (hb11.mono (B' := w.heap.size) (by omega))
  clear m0_10 ky0_4_10 kX0_10 ky0_8_o C_10
  clear hb11
  go_wp2_with fail
  refine (to_ArrivalS a0 _ _ w.heap.size m0_12 (by omega) hn0).mono ?_
  rintro e w13 ⟨T0, rfl, oT0, hb13⟩
  have z13 : w11.heap.size ≤ w13.heap.size := hb13.size
  have m0_14 := m0_12.below (hb13.mono (B' := w.heap.size) (by omega))
  have ky0_4_14 := ky0_4_12.below (hb13.mono (B' := w5.heap.size) (by omega))
  have kX0_14 := kX0_12.below (hb13.mono (B' := w7.heap.size) (by omega))
  have ky0_8_14 := ky0_8_12.below (hb13.mono (B' := w9.heap.size) (by omega))
  have C_14 := C_12.trans (hb13.mono (B' := w.heap.size) (by omega))
  clear m0_12 ky0_4_12 kX0_12 ky0_8_12 C_12
  clear hb13
  have kT0_o := oT0.mono (L' := w11.heap.size) (B' := w13.heap.size) (by simp <;> omega) (Nat.le_refl _)
  clear oT0
  go_wp2_with fail
  refine (eq_ArrivalS a0 _ _ _ (w13).heap.size (kX0_14.lst.mono (by omega)) (kT0_o.lst.mono (by omega)) (Nat.le_refl _)).mono ?_
  rintro e w15 ⟨rfl, hb15⟩
  have z15 : w13.heap.size ≤ w15.heap.size := hb15.size
  have m0_16 := m0_14.below (hb15.mono (B' := w.heap.size) (by omega))
  have ky0_4_16 := ky0_4_14.below (hb15.mono (B' := w5.heap.size) (by omega))
  have kX0_16 := kX0_14.below (hb15.mono (B' := w7.heap.size) (by omega))
  have ky0_8_16 := ky0_8_14.below (hb15.mono (B' := w9.heap.size) (by omega))
  have kT0_16 := kT0_o.below (hb15.mono (B' := w13.heap.size) (by omega))
  have C_16 := C_14.trans (hb15.mono (B' := w.heap.size) (by omega))
  clear m0_14 ky0_4_14 kX0_14 ky0_8_14 kT0_o C_14
  clear hb15
  clear kT0_16
  go_wp2_with fail
  refine (mark_ArrivalS a0 _ (1) _ (w5.heap.size) w7.heap.size kX0_16 (by omega) hn0 (by omega) (by omega)).mono ?_
  rintro e w17 ⟨rfl, mk, hu17⟩
  have z17 : w15.heap.size ≤ w17.heap.size := hu17.size
  have m0_18 := m0_16.below (hu17.low (B := w.heap.size) (by omega) (by omega))
  have ky0_4_18 := ky0_4_16.below (hu17.low (B := w5.heap.size) (by omega) (by omega))
  have ky0_8_18 := ky0_8_16.high hu17 (by omega)
  have C_18 := C_16.trans (hu17.low (B := w.heap.size) (by omega) (by omega))
  clear m0_16 ky0_4_16 ky0_8_16 C_16
  clear hu17
  clear kX0_16
  have kX0_m17 := mk
  clear mk
  have dk18 : ¬ (1 + (5 * a0.length : Int)) < 0 := by omega
  go_wp2_with fail
  refine (eq_OriginS r0 _ _ _ (w17).heap.size (ky0_8_18.lst.mono (by omega)) (ky0_4_18.lst.mono (by omega)) (Nat.le_refl _)).mono ?_
  rintro e w19 ⟨rfl, hb19⟩
  have z19 : w17.heap.size ≤ w19.heap.size := hb19.size
  have m0_20 := m0_18.below (hb19.mono (B' := w.heap.size) (by omega))
  have ky0_4_20 := ky0_4_18.below (hb19.mono (B' := w5.heap.size) (by omega))
  have kX0_20 := kX0_m17.below (hb19.mono (B' := w7.heap.size) (by omega))
  have ky0_8_20 := ky0_8_18.below (hb19.mono (B' := w9.heap.size) (by omega))
  have C_20 := C_18.trans (hb19.mono (B' := w.heap.size) (by omega))
  clear m0_18 ky0_4_18 kX0_m17 ky0_8_18 C_18
  clear hb19
  go_wp2_with fail
  refine (mark_OriginS r0 _ (1) _ (w7.heap.size) w9.heap.size ky0_8_20 (by omega) hl0 (by omega) (by omega)).mono ?_
  rintro e w21 ⟨rfl, mk, hu21⟩
  have z21 : w19.heap.size ≤ w21.heap.size := hu21.size
  have m0_22 := m0_20.below (hu21.low (B := w.heap.size) (by omega) (by omega))
  have ky0_4_22 := ky0_4_20.below (hu21.low (B := w5.heap.size) (by omega) (by omega))
  have kX0_22 := kX0_20.below (hu21.low (B := w7.heap.size) (by omega) (by omega))
  have C_22 := C_20.trans (hu21.low (B := w.heap.size) (by omega) (by omega))
  clear m0_20 ky0_4_20 kX0_20 C_20
  clear hu21
  clear ky0_8_20
  have ky0_8_m21 := mk
  clear mk
  go_wp2_with fail
  refine (held_OriginS r0 _ (1) _ (w9.heap.size) ky0_8_m21.lst (by omega) hl0 (by omega) (by omega)).mono ?_
  rintro e w23 ⟨rfl, hb23⟩
  have z23 : w21.heap.size ≤ w23.heap.size := hb23.size
  have m0_24 := m0_22.below (hb23.mono (B' := w.heap.size) (by omega))
  have ky0_4_24 := ky0_4_22.below (hb23.mono (B' := w5.heap.size) (by omega))
  have kX0_24 := kX0_22.below (hb23.mono (B' := w7.heap.size) (by omega))
  have ky0_8_24 := ky0_8_m21.below (hb23.mono (B' := w9.heap.size) (by omega))
  have C_24 := C_22.trans (hb23.mono (B' := w.heap.size) (by omega))
  clear m0_22 ky0_4_22 kX0_22 ky0_8_m21 C_22
  clear hb23
  have dq24 : ¬ (1 + (3 * r0.length : Int)) < 0 := by omega
  go_wp2_with fail
  refine (to_ArrivalS a0 _ _ w.heap.size m0_24 (by omega) hn0).mono ?_
  rintro e w25 ⟨x25, rfl, ox25, hb25⟩
  have z25 : w23.heap.size ≤ w25.heap.size := hb25.size
  have m0_26 := m0_24.below (hb25.mono (B' := w.heap.size) (by omega))
  have ky0_4_26 := ky0_4_24.below (hb25.mono (B' := w5.heap.size) (by omega))
  have kX0_26 := kX0_24.below (hb25.mono (B' := w7.heap.size) (by omega))
  have ky0_8_26 := ky0_8_24.below (hb25.mono (B' := w9.heap.size) (by omega))
  have C_26 := C_24.trans (hb25.mono (B' := w.heap.size) (by omega))
  clear m0_24 ky0_4_24 kX0_24 ky0_8_24 C_24
  clear hb25
  have kx25_o := ox25.mono (L' := w23.heap.size) (B' := w25.heap.size) (by simp <;> omega) (Nat.le_refl _)
  clear ox25
  go_wp2_with fail
  refine (HI.out _ _ (w25).heap.size  (kx25_o.lst.mono (by omega)) (Nat.le_refl _) hn0 hw0 hi1 hi2 ).mono ?_
  rintro e w27 ⟨y0_26, rfl, oy0_26, hb27⟩
  have z27 : w25.heap.size ≤ w27.heap.size := hb27.size
  have m0_28 := m0_26.below (hb27.mono (B' := w.heap.size) (by omega))
  have ky0_4_28 := ky0_4_26.below (hb27.mono (B' := w5.heap.size) (by omega))
  have kX0_28 := kX0_26.below (hb27.mono (B' := w7.heap.size) (by omega))
  have ky0_8_28 := ky0_8_26.below (hb27.mono (B' := w9.heap.size) (by omega))
  have kx25_28 := kx25_o.below (hb27.mono (B' := w25.heap.size) (by omega))
  have C_28 := C_26.trans (hb27.mono (B' := w.heap.size) (by omega))
  clear m0_26 ky0_4_26 kX0_26 ky0_8_26 kx25_o C_26
  clear hb27
  have ky0_26_o := oy0_26.mono (L' := w25.heap.size) (B' := w27.heap.size) (by simp <;> omega) (Nat.le_refl _)
  clear oy0_26
  obtain ⟨aoy0_26, capy0_26, rfl⟩ := ky0_26_o.form
  clear kx25_28
  go_wp2_with fail
  refine (eq_OriginS r0 _ _ _ (w27).heap.size (ky0_26_o.lst.mono (by omega)) (ky0_4_28.lst.mono (by omega)) (Nat.le_refl _)).mono ?_
  rintro e w29 ⟨rfl, hb29⟩
  have z29 : w27.heap.size ≤ w29.heap.size := hb29.size
  have m0_30 := m0_28.below (hb29.mono (B' := w.heap.size) (by omega))
  have ky0_4_30 := ky0_4_28.below (hb29.mono (B' := w5.heap.size) (by omega))
  have kX0_30 := kX0_28.below (hb29.mono (B' := w7.heap.size) (by omega))
  have ky0_8_30 := ky0_8_28.below (hb29.mono (B' := w9.heap.size) (by omega))
  have ky0_26_30 := ky0_26_o.below (hb29.mono (B' := w27.heap.size) (by omega))
  have C_30 := C_28.trans (hb29.mono (B' := w.heap.size) (by omega))
  clear m0_28 ky0_4_28 kX0_28 ky0_8_28 ky0_26_o C_28
  clear hb29
  go_wp2_with fail
  refine (held_OriginS r0 _ (1) _ (w9.heap.size) ky0_8_30.lst (by omega) hl0 (by omega) (by omega)).mono ?_
  rintro e w31 ⟨rfl, hb31⟩
  have z31 : w29.heap.size ≤ w31.heap.size := hb31.size
  have m0_32 := m0_30.below (hb31.mono (B' := w.heap.size) (by omega))
  have ky0_4_32 := ky0_4_30.below (hb31.mono (B' := w5.heap.size) (by omega))
  have kX0_32 := kX0_30.below (hb31.mono (B' := w7.heap.size) (by omega))
  have ky0_8_32 := ky0_8_30.below (hb31.mono (B' := w9.heap.size) (by omega))
  have ky0_26_32 := ky0_26_30.below (hb31.mono (B' := w27.heap.size) (by omega))
  have C_32 := C_30.trans (hb31.mono (B' := w.heap.size) (by omega))
  clear m0_30 ky0_4_30 kX0_30 ky0_8_30 ky0_26_30 C_30
  clear hb31
  have dq32 : ¬ (1 + (3 * r0.length : Int)) < 0 := by omega
  go_wp2
  go_ret
  exact ⟨rfl, C_32⟩

set_option maxRecDepth 100000 in
theorem walk_all {H : Type} {enc : TypeId × Value → H} {base : Nat} {w : World} (v0 : Value) {d0 : DataW H} {ps0 : List MemPlace} (hval0 : Value.okWide Try.prog w .any base 33 v0) (hd0 : DataW.Trod enc Try.prog w 0 (fun _ => true) true 33 v0 d0 ps0) (a1 : Int) (wf1 : (Lit.int .i64 a1).wf = true) (a2 : Int) (wf2 : (Lit.int .i64 a2).wf = true) :
    Calls Try.prog 10 #[v0, .int .i64 a1, .int .i64 a2] w fun e w' => e = .returned (.bool true) ∧ Below w.heap.size w w' := by
  obtain ⟨a0, h0, hw0⟩ := open_ArrivalS hval0 hd0
  have hi1 : I64 a1 := bounds_i64 wf1
  have hi2 : I64 a2 := bounds_i64 wf2
  by_cases g0 : (szsArrival a0 : Int) ≤ 1048576
  case neg => exact walk_big0 a0 v0 a1 hi1 a2 hi2 w h0 hw0 g0
  exact walk_main a0 v0 a1 hi1 a2 hi2 w h0 hw0 g0

set_option maxRecDepth 100000 in
theorem contract (H : Type) (enc : TypeId × Value → H) (W : World) (base : Nat) (args : Array Value) (ds gs : List (DataW H)) (before : List MemPlace)
    (hval : ∀ (j : Nat) t v, Try.f10.params[j]? = some t → args[j]? = some v → Value.okWide Try.prog W .any base t v)
    (hW : DataW.Whole enc Try.prog Try.f10.params.toList Rows.fnExactEventsFoundSpec.vars false W args.toList ds gs before) :
    Calls Try.prog 10 args W fun e W' => ∃ v, e = .returned v ∧ Rows.fnExactEventsFoundSpec.post enc Try.prog Try.f10 false true false false W args v W' := by
  have hW' := hW
  obtain ⟨p, q, hA0, hV, rfl, hfz, hnd⟩ := hW
  have hA : DataW.TrodAll enc Try.prog W 0 (fun _ => true) true Try.f10.params.toList args.toList ds p := hA0
  rw [Try.params10] at hA hval
  obtain ⟨v0, vs0, d0, ds0, p0, q0, hargs, rfl, rfl, h0, r0⟩ := trodAll_cons hA
  obtain ⟨v1, vs1, d1, ds1, p1, q1, rfl, rfl, rfl, h1, r1⟩ := trodAll_cons r0
  obtain ⟨v2, vs2, d2, ds2, p2, q2, rfl, rfl, rfl, h2, r2⟩ := trodAll_cons r1
  obtain ⟨rfl, rfl, rfl⟩ := trodAll_nil r2
  obtain rfl : args = #[v0, v1, v2] := by cases args; simp_all
  obtain ⟨n1, rfl, rfl, rfl, w1⟩ := open_int Try.underlying3 (hval 1 3 v1 rfl rfl) h1
  obtain ⟨n2, rfl, rfl, rfl, w2⟩ := open_int Try.underlying3 (hval 2 3 v2 rfl rfl) h2
  refine lawPost rfl rfl Try.underlying4 (by kernel_rfl) (by kernel_rfl) hW' (fun hg => by subst hg; exact ⟨rfl, rfl, rfl⟩) ?_
  exact walk_all v0 (hval 0 33 v0 rfl rfl) h0 n1 w1 n2 w2

set_option maxRecDepth 100000 in
theorem lifted (os : Os) (started : os.Started) (H : Type) (enc : TypeId × Value → H) :
    ReturnsInHanded {} Try.checked os 10 .any (Rows.fnExactEventsFoundSpec.pre6 enc Try.prog Try.f10 Rows.fnExactEventsFoundRow.domain false) (Rows.fnExactEventsFoundSpec.post enc Try.prog Try.f10 false true false false) := by
  refine returnsInHanded_of_change (C := Try.checked) (s := Rows.fnExactEventsFoundSpec) own started (by kernel_rfl) Try.func10
    (ChangeSpec.witness6 (enc := enc) (C := Try.checked) (s := Rows.fnExactEventsFoundSpec) false ⟨#[], #[.slice none 0 0, .int .i64 0, .int .i64 0], []⟩ 8 (by kernel_rfl) (by kernel_rfl) (by kernel_rfl) (by kernel_rfl)) ?_
  intro W base args ds gs before hval hW _ _
  exact contract H enc W base args ds gs before hval hW

theorem said : Rows.FnExactEventsFoundSaid :=
  OpenClaim.holds_of_wide 10 Try.f10 rfl rfl rfl rfl rfl rfl rfl ⟨rfl, rfl, rfl, rfl, rfl⟩ rfl rfl rfl rfl rfl (by kernel_rfl) Try.func10 (by kernel_rfl)
    (of_decide_eq_true (by kernel_rfl)) (by unfold Func.isWrapper; first | (rw [if_pos (by decide +kernel)]; kernel_rfl) | (rw [if_neg (by decide +kernel)]; exact ⟨rfl, rfl⟩))
    (fun os started H enc _ => lifted os started H enc)

end Go.Proofs.Ytoogofceoinniab.fnExactEventsFound
