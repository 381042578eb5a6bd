/- FnExactMedianMagnitude: for every table and every list of swings the law answers true; no condition. -/
import Derived.Test.YtdiedfpfhbdamaaAmE
import Derived.Test.YtdiedfpfhbdamaaAnE
import Derived.Deep.CutBlock
import Derived.Deep.CutRange
import Derived.Deep.DeepCutAuto
namespace Go.Proofs.Ytdiedfpfhbdamaa.fnExactMedianMagnitude
open Go.ChangeShapes Go.WideShapes Go.ChangeAt Go.RowKit Go.ChangeMaps
set_option linter.unusedSimpArgs false
set_option linter.unusedVariables false

theorem own : ownKnob Try.prog.godebug = none := by kernel_rfl


set_option maxRecDepth 100000 in
set_option maxHeartbeats 1000000 in
theorem walk_big0 (a0 : List GTableRow) (v0 : Value) (a1 : List GSwing) (v1 : Value) (w : World) (h0 : TableRowL w w.heap.size v0 a0) (hw0 : ∀ s ∈ a0, wfTableRow s) (h1 : SwingL w w.heap.size v1 a1) (hw1 : ∀ s ∈ a1, wfSwing s)  (g0 : ¬ (szsTableRow a0 : Int) ≤ 1048576):
    Calls Try.prog 10 #[v0, v1] w fun e w' => e = .returned (.bool true) ∧ Below w.heap.size w w' := by
  have C_0 := Below.refl w.heap.size w
  go_enter Try.func10, Try.ntmps10
  go_wp2_with fail
  refine (szgt_TableRowS a0 _ (1048576) _ w.heap.size h0 (by omega) (by omega) (by omega) (by omega) hw0).mono ?_
  rintro e w1 ⟨rfl, hb1⟩
  have z1 : w.heap.size ≤ w1.heap.size := hb1.size
  have m0_2 := h0.below (hb1.mono (B' := w.heap.size) (by omega))
  have m1_2 := h1.below (hb1.mono (B' := w.heap.size) (by omega))
  have C_2 := C_0.trans (hb1.mono (B' := w.heap.size) (by omega))
  clear h0 h1 C_0
  clear hb1
  go_wp2
  go_ret
  exact ⟨rfl, C_2⟩

set_option maxRecDepth 100000 in
set_option maxHeartbeats 1000000 in
theorem walk_big1 (a0 : List GTableRow) (v0 : Value) (a1 : List GSwing) (v1 : Value) (w : World) (h0 : TableRowL w w.heap.size v0 a0) (hw0 : ∀ s ∈ a0, wfTableRow s) (h1 : SwingL w w.heap.size v1 a1) (hw1 : ∀ s ∈ a1, wfSwing s) (g0 : (szsTableRow a0 : Int) ≤ 1048576) (g1 : ¬ (szsSwing a1 : Int) ≤ 1048576 - (szsTableRow a0 : Int)):
    Calls Try.prog 10 #[v0, v1] w fun e w' => e = .returned (.bool true) ∧ Below w.heap.size w w' := by
  have C_0 := Below.refl w.heap.size w
  go_enter Try.func10, Try.ntmps10
  have d0 : ¬ 1048576 - (szsTableRow a0 : Int) < 0 := by omega
  go_wp2_with fail
  refine (sz_TableRowS a0 _ (1048576) _ w.heap.size h0 (by omega) (by omega) (by omega) (by omega)).mono ?_
  rintro e w1 ⟨rfl, hb1⟩
  have z1 : w.heap.size ≤ w1.heap.size := hb1.size
  have m0_2 := h0.below (hb1.mono (B' := w.heap.size) (by omega))
  have m1_2 := h1.below (hb1.mono (B' := w.heap.size) (by omega))
  have C_2 := C_0.trans (hb1.mono (B' := w.heap.size) (by omega))
  clear h0 h1 C_0
  clear hb1
  go_wp2_with fail
  refine (szgt_SwingS a1 _ (1048576 - (szsTableRow a0 : Int)) _ w.heap.size m1_2 (by omega) (by omega) (by omega) (by omega) hw1).mono ?_
  rintro e w3 ⟨rfl, hb3⟩
  have z3 : w1.heap.size ≤ w3.heap.size := hb3.size
  have m0_4 := m0_2.below (hb3.mono (B' := w.heap.size) (by omega))
  have m1_4 := m1_2.below (hb3.mono (B' := w.heap.size) (by omega))
  have C_4 := C_2.trans (hb3.mono (B' := w.heap.size) (by omega))
  clear m0_2 m1_2 C_2
  clear hb3
  go_wp2
  go_ret
  exact ⟨rfl, C_4⟩

set_option maxRecDepth 100000 in
set_option maxHeartbeats 1000000 in
theorem walk_main (a0 : List GTableRow) (v0 : Value) (a1 : List GSwing) (v1 : Value) (w : World) (h0 : TableRowL w w.heap.size v0 a0) (hw0 : ∀ s ∈ a0, wfTableRow s) (h1 : SwingL w w.heap.size v1 a1) (hw1 : ∀ s ∈ a1, wfSwing s) (g0 : (szsTableRow a0 : Int) ≤ 1048576) (g1 : (szsSwing a1 : Int) ≤ 1048576 - (szsTableRow a0 : Int)):
    Calls Try.prog 10 #[v0, v1] w fun e w' => e = .returned (.bool true) ∧ Below w.heap.size w w' := by
  have hn0 : szsTableRow a0 ≤ 1048576 := by first | omega | exact Nat.zero_le _
  have hn1 : szsSwing a1 ≤ 1048576 := by first | omega | exact Nat.zero_le _
  have hnl0 := szsTableRow_len a0
  have hnl1 := szsSwing_len a1
  have hS := fun v0 v1 w B => specMd a0 v0 a1 v1 w B
  have hI := fun v0 v1 w B  => implMd a0 v0 a1 v1 w B 
  generalize numMd a0 a1 = r0 at *
  generalize okMd a0 a1 = r1 at *
  have HS := Lib.hid hS
  have HI := Lib.hid hI
  clear hS hI
  have C_0 := Below.refl w.heap.size w
  have d0 : ¬ 1048576 - (szsTableRow a0 : Int) < 0 := by omega
  have d1 : ¬ 1048576 - (szsTableRow a0 : Int) - (szsSwing a1 : Int) < 0 := by omega
  go_enter Try.func10, Try.ntmps10
  go_wp2_with fail
  refine (sz_TableRowS a0 _ (1048576) _ w.heap.size h0 (by omega) (by omega) (by omega) (by omega)).mono ?_
  rintro e w1 ⟨rfl, hb1⟩
  have z1 : w.heap.size ≤ w1.heap.size := hb1.size
  have m0_2 := h0.below (hb1.mono (B' := w.heap.size) (by omega))
  have m1_2 := h1.below (hb1.mono (B' := w.heap.size) (by omega))
  have C_2 := C_0.trans (hb1.mono (B' := w.heap.size) (by omega))
  clear h0 h1 C_0
  clear hb1
  go_wp2_with fail
  refine (sz_SwingS a1 _ (1048576 - (szsTableRow a0 : Int)) _ w.heap.size m1_2 (by omega) (by omega) (by omega) (by omega)).mono ?_
  rintro e w3 ⟨rfl, hb3⟩
  have z3 : w1.heap.size ≤ w3.heap.size := hb3.size
  have m0_4 := m0_2.below (hb3.mono (B' := w.heap.size) (by omega))
  have m1_4 := m1_2.below (hb3.mono (B' := w.heap.size) (by omega))
  have C_4 := C_2.trans (hb3.mono (B' := w.heap.size) (by omega))
  clear m0_2 m1_2 C_2
  clear hb3
  go_wp2_with fail
  refine (to_TableRowS a0 _ _ w.heap.size m0_4 (by omega) hn0).mono ?_
  rintro e w5 ⟨x5, rfl, ox5, hb5⟩
  have z5 : w3.heap.size ≤ w5.heap.size := hb5.size
  have m0_6 := m0_4.below (hb5.mono (B' := w.heap.size) (by omega))
  have m1_6 := m1_4.below (hb5.mono (B' := w.heap.size) (by omega))
  have C_6 := C_4.trans (hb5.mono (B' := w.heap.size) (by omega))
  clear m0_4 m1_4 C_4
  clear hb5
  have kx5_o := ox5.mono (L' := w3.heap.size) (B' := w5.heap.size) (by simp <;> omega) (Nat.le_refl _)
  clear ox5
  go_wp2_with fail
  refine (to_SwingS a1 _ _ w.heap.size m1_6 (by omega) hn1).mono ?_
  rintro e w7 ⟨x7, rfl, ox7, hb7⟩
  have z7 : w5.heap.size ≤ w7.heap.size := hb7.size
  have m0_8 := m0_6.below (hb7.mono (B' := w.heap.size) (by omega))
  have m1_8 := m1_6.below (hb7.mono (B' := w.heap.size) (by omega))
  have kx5_8 := kx5_o.below (hb7.mono (B' := w5.heap.size) (by omega))
  have C_8 := C_6.trans (hb7.mono (B' := w.heap.size) (by omega))
  clear m0_6 m1_6 kx5_o C_6
  clear hb7
  have kx7_o := ox7.mono (L' := w5.heap.size) (B' := w7.heap.size) (by simp <;> omega) (Nat.le_refl _)
  clear ox7
  go_wp2_with fail
  refine (HS.out _ _ _ (w7).heap.size  (kx5_8.lst.mono (by omega)) (kx7_o.lst.mono (by omega)) (Nat.le_refl _) hn0 hn1 hw0 hw1  ).mono ?_
  rintro e w9 ⟨rfl, hb9⟩
  have z9 : w7.heap.size ≤ w9.heap.size := hb9.size
  have m0_10 := m0_8.below (hb9.mono (B' := w.heap.size) (by omega))
  have m1_10 := m1_8.below (hb9.mono (B' := w.heap.size) (by omega))
  have kx5_10 := kx5_8.below (hb9.mono (B' := w5.heap.size) (by omega))
  have kx7_10 := kx7_o.below (hb9.mono (B' := w7.heap.size) (by omega))
  have C_10 := C_8.trans (hb9.mono (B' := w.heap.size) (by omega))
  clear m0_8 m1_8 kx5_8 kx7_o C_8
  clear hb9
  clear kx5_10
  clear kx7_10
  go_wp2_with fail
  refine (to_TableRowS a0 _ _ w.heap.size m0_10 (by omega) hn0).mono ?_
  rintro e w11 ⟨X0, rfl, oX0, hb11⟩
  have z11 : w9.heap.size ≤ w11.heap.size := hb11.size
  have m0_12 := m0_10.below (hb11.mono (B' := w.heap.size) (by omega))
  have m1_12 := m1_10.below (hb11.mono (B' := w.heap.size) (by omega))
  have C_12 := C_10.trans (hb11.mono (B' := w.heap.size) (by omega))
  clear m0_10 m1_10 C_10
  clear hb11
  have kX0_o := oX0.mono (L' := w9.heap.size) (B' := w11.heap.size) (by simp <;> omega) (Nat.le_refl _)
  clear oX0
  go_wp2_with fail
  refine (to_SwingS a1 _ _ w.heap.size m1_12 (by omega) hn1).mono ?_
  rintro e w13 ⟨X1, rfl, oX1, hb13⟩
  have z13 : w11.heap.size ≤ w13.heap.size := hb13.size
  have m0_14 := m0_12.below (hb13.mono (B' := w.heap.size) (by omega))
  have m1_14 := m1_12.below (hb13.mono (B' := w.heap.size) (by omega))
  have kX0_14 := kX0_o.below (hb13.mono (B' := w11.heap.size) (by omega))
  have C_14 := C_12.trans (hb13.mono (B' := w.heap.size) (by omega))
  clear m0_12 m1_12 kX0_o C_12
  clear hb13
  have kX1_o := oX1.mono (L' := w11.heap.size) (B' := w13.heap.size) (by simp <;> omega) (Nat.le_refl _)
  clear oX1
  go_wp2_with fail
  refine (HI.out _ _ _ (w13).heap.size  (kX0_14.lst.mono (by omega)) (kX1_o.lst.mono (by omega)) (Nat.le_refl _) hn0 hn1 hw0 hw1  ).mono ?_
  rintro e w15 ⟨rfl, hb15⟩
  have z15 : w13.heap.size ≤ w15.heap.size := hb15.size
  have m0_16 := m0_14.below (hb15.mono (B' := w.heap.size) (by omega))
  have m1_16 := m1_14.below (hb15.mono (B' := w.heap.size) (by omega))
  have kX0_16 := kX0_14.below (hb15.mono (B' := w11.heap.size) (by omega))
  have kX1_16 := kX1_o.below (hb15.mono (B' := w13.heap.size) (by omega))
  have C_16 := C_14.trans (hb15.mono (B' := w.heap.size) (by omega))
  clear m0_14 m1_14 kX0_14 kX1_o C_14
  clear hb15
  go_wp2_with fail
  refine (to_TableRowS a0 _ _ w.heap.size m0_16 (by omega) hn0).mono ?_
  rintro e w17 ⟨T0, rfl, oT0, hb17⟩
  have z17 : w15.heap.size ≤ w17.heap.size := hb17.size
  have m0_18 := m0_16.below (hb17.mono (B' := w.heap.size) (by omega))
  have m1_18 := m1_16.below (hb17.mono (B' := w.heap.size) (by omega))
  have kX0_18 := kX0_16.below (hb17.mono (B' := w11.heap.size) (by omega))
  have kX1_18 := kX1_16.below (hb17.mono (B' := w13.heap.size) (by omega))
  have C_18 := C_16.trans (hb17.mono (B' := w.heap.size) (by omega))
  clear m0_16 m1_16 kX0_16 kX1_16 C_16
  clear hb17
  have kT0_o := oT0.mono (L' := w15.heap.size) (B' := w17.heap.size) (by simp <;> omega) (Nat.le_refl _)
  clear oT0
  go_wp2_with fail
  refine (eq_TableRowS a0 _ _ _ (w17).heap.size (kX0_18.lst.mono (by omega)) (kT0_o.lst.mono (by omega)) (Nat.le_refl _)).mono ?_
  rintro e w19 ⟨rfl, hb19⟩
  have z19 : w17.heap.size ≤ w19.heap.size := hb19.size
  have m0_20 := m0_18.below (hb19.mono (B' := w.heap.size) (by omega))
  have m1_20 := m1_18.below (hb19.mono (B' := w.heap.size) (by omega))
  have kX0_20 := kX0_18.below (hb19.mono (B' := w11.heap.size) (by omega))
  have kX1_20 := kX1_18.below (hb19.mono (B' := w13.heap.size) (by omega))
  have kT0_20 := kT0_o.below (hb19.mono (B' := w17.heap.size) (by omega))
  have C_20 := C_18.trans (hb19.mono (B' := w.heap.size) (by omega))
  clear m0_18 m1_18 kX0_18 kX1_18 kT0_o C_18
  clear hb19
  clear kT0_20
  go_wp2_with fail
  refine (to_SwingS a1 _ _ w.heap.size m1_20 (by omega) hn1).mono ?_
  rintro e w21 ⟨T1, rfl, oT1, hb21⟩
  have z21 : w19.heap.size ≤ w21.heap.size := hb21.size
  have m0_22 := m0_20.below (hb21.mono (B' := w.heap.size) (by omega))
  have m1_22 := m1_20.below (hb21.mono (B' := w.heap.size) (by omega))
  have kX0_22 := kX0_20.below (hb21.mono (B' := w11.heap.size) (by omega))
  have kX1_22 := kX1_20.below (hb21.mono (B' := w13.heap.size) (by omega))
  have C_22 := C_20.trans (hb21.mono (B' := w.heap.size) (by omega))
  clear m0_20 m1_20 kX0_20 kX1_20 C_20
  clear hb21
  have kT1_o := oT1.mono (L' := w19.heap.size) (B' := w21.heap.size) (by simp <;> omega) (Nat.le_refl _)
  clear oT1
  go_wp2_with fail
  refine (eq_SwingS a1 _ _ _ (w21).heap.size (kX1_22.lst.mono (by omega)) (kT1_o.lst.mono (by omega)) (Nat.le_refl _)).mono ?_
  rintro e w23 ⟨rfl, hb23⟩
  have z23 : w21.heap.size ≤ w23.heap.size := hb23.size
  have m0_24 := m0_22.below (hb23.mono (B' := w.heap.size) (by omega))
  have m1_24 := m1_22.below (hb23.mono (B' := w.heap.size) (by omega))
  have kX0_24 := kX0_22.below (hb23.mono (B' := w11.heap.size) (by omega))
  have kX1_24 := kX1_22.below (hb23.mono (B' := w13.heap.size) (by omega))
  have kT1_24 := kT1_o.below (hb23.mono (B' := w21.heap.size) (by omega))
  have C_24 := C_22.trans (hb23.mono (B' := w.heap.size) (by omega))
  clear m0_22 m1_22 kX0_22 kX1_22 kT1_o C_22
  clear hb23
  clear kT1_24
  go_wp2
  go_ret
  exact ⟨rfl, C_24⟩

set_option maxRecDepth 100000 in
theorem walk_all {H : Type} {enc : TypeId × Value → H} {base : Nat} {w : World} (v0 : Value) {d0 : DataW H} {ps0 : List MemPlace} (hval0 : Value.okWide Try.prog w .any base 64 v0) (hd0 : DataW.Trod enc Try.prog w 0 (fun _ => true) true 64 v0 d0 ps0) (v1 : Value) {d1 : DataW H} {ps1 : List MemPlace} (hval1 : Value.okWide Try.prog w .any base 70 v1) (hd1 : DataW.Trod enc Try.prog w 0 (fun _ => true) true 70 v1 d1 ps1) :
    Calls Try.prog 10 #[v0, v1] w fun e w' => e = .returned (.bool true) ∧ Below w.heap.size w w' := by
  obtain ⟨a0, h0, hw0⟩ := open_TableRowS hval0 hd0
  obtain ⟨a1, h1, hw1⟩ := open_SwingS hval1 hd1
  by_cases g0 : (szsTableRow a0 : Int) ≤ 1048576
  case neg => exact walk_big0 a0 v0 a1 v1 w h0 hw0 h1 hw1 g0
  by_cases g1 : (szsSwing a1 : Int) ≤ 1048576 - (szsTableRow a0 : Int)
  case neg => exact walk_big1 a0 v0 a1 v1 w h0 hw0 h1 hw1 g0 g1
  exact walk_main a0 v0 a1 v1 w h0 hw0 h1 hw1 g0 g1

set_option maxRecDepth 100000 in
theorem contract (H : Type) (enc : TypeId × Value → H) (W : World) (base : Nat) (args : Array Value) (ds gs : List (DataW H)) (before : List MemPlace)
    (hval : ∀ (j : Nat) t v, Try.f10.params[j]? = some t → args[j]? = some v → Value.okWide Try.prog W .any base t v)
    (hW : DataW.Whole enc Try.prog Try.f10.params.toList Rows.fnExactMedianMagnitudeSpec.vars false W args.toList ds gs before) :
    Calls Try.prog 10 args W fun e W' => ∃ v, e = .returned v ∧ Rows.fnExactMedianMagnitudeSpec.post enc Try.prog Try.f10 false true false false W args v W' := by
  have hW' := hW
  obtain ⟨p, q, hA0, hV, rfl, hfz, hnd⟩ := hW
  have hA : DataW.TrodAll enc Try.prog W 0 (fun _ => true) true Try.f10.params.toList args.toList ds p := hA0
  rw [Try.params10] at hA hval
  obtain ⟨v0, vs0, d0, ds0, p0, q0, hargs, rfl, rfl, h0, r0⟩ := trodAll_cons hA
  obtain ⟨v1, vs1, d1, ds1, p1, q1, rfl, rfl, rfl, h1, r1⟩ := trodAll_cons r0
  obtain ⟨rfl, rfl, rfl⟩ := trodAll_nil r1
  obtain rfl : args = #[v0, v1] := by cases args; simp_all
  refine lawPost rfl rfl Try.underlying4 (by kernel_rfl) (by kernel_rfl) hW' (fun hg => by subst hg; exact ⟨rfl, rfl, rfl⟩) ?_
  exact walk_all v0 (hval 0 64 v0 rfl rfl) h0 v1 (hval 1 70 v1 rfl rfl) h1

set_option maxRecDepth 100000 in
theorem lifted (os : Os) (started : os.Started) (H : Type) (enc : TypeId × Value → H) :
    ReturnsInHanded {} Try.checked os 10 .any (Rows.fnExactMedianMagnitudeSpec.pre6 enc Try.prog Try.f10 Rows.fnExactMedianMagnitudeRow.domain false) (Rows.fnExactMedianMagnitudeSpec.post enc Try.prog Try.f10 false true false false) := by
  refine returnsInHanded_of_change (C := Try.checked) (s := Rows.fnExactMedianMagnitudeSpec) own started (by kernel_rfl) Try.func10
    (ChangeSpec.witness6 (enc := enc) (C := Try.checked) (s := Rows.fnExactMedianMagnitudeSpec) false ⟨#[], #[.slice none 0 0, .slice none 0 0], []⟩ 8 (by kernel_rfl) (by kernel_rfl) (by kernel_rfl) (by kernel_rfl)) ?_
  intro W base args ds gs before hval hW _ _
  exact contract H enc W base args ds gs before hval hW

theorem said : Rows.FnExactMedianMagnitudeSaid :=
  OpenClaim.holds_of_wide 10 Try.f10 rfl rfl rfl rfl rfl rfl rfl ⟨rfl, rfl, rfl, rfl, rfl⟩ rfl rfl rfl rfl rfl (by kernel_rfl) Try.func10 (by kernel_rfl)
    (of_decide_eq_true (by kernel_rfl)) (by unfold Func.isWrapper; first | (rw [if_pos (by decide +kernel)]; kernel_rfl) | (rw [if_neg (by decide +kernel)]; exact ⟨rfl, rfl⟩))
    (fun os started H enc _ => lifted os started H enc)

end Go.Proofs.Ytdiedfpfhbdamaa.fnExactMedianMagnitude
