/- FnExactBestOnGrid: for every list of arrivals and every number the law answers true; no condition. -/
import Derived.Test.YtoogofceoinniabVoH
import Derived.Test.YtoogofceoinniabVpL
import Derived.Deep.CutBlock
import Derived.Deep.CutRange
import Derived.Deep.DeepCutAuto
namespace Go.Proofs.Ytoogofceoinniab.fnExactBestOnGrid
open Go.ChangeShapes Go.WideShapes Go.ChangeAt Go.RowKit Go.ChangeMaps
set_option linter.unusedSimpArgs false
set_option linter.unusedVariables false

theorem own : ownKnob Try.prog.godebug = none := by kernel_rfl


set_option maxRecDepth 100000 in
set_option maxHeartbeats 1000000 in
theorem walk_big0 (a0 : List GArrival) (v0 : Value) (a1 : Int) (hi1 : I64 a1) (w : World) (h0 : ArrivalL w w.heap.size v0 a0) (hw0 : ∀ s ∈ a0, wfArrival s)  (g0 : ¬ (szsArrival a0 : Int) ≤ 1048576):
    Calls Try.prog 8 #[v0, .int .i64 a1] w fun e w' => e = .returned (.bool true) ∧ Below w.heap.size w w' := by
  have C_0 := Below.refl w.heap.size w
  go_enter Try.func8, Try.ntmps8
  go_wp2_with fail
  refine (szgt_ArrivalS a0 _ (1048576) _ w.heap.size h0 (by omega) (by omega) (by omega) (by omega) hw0).mono ?_
  rintro e w1 ⟨rfl, hb1⟩
  have z1 : w.heap.size ≤ w1.heap.size := hb1.size
  have m0_2 := h0.below (hb1.mono (B' := w.heap.size) (by omega))
  have C_2 := C_0.trans (hb1.mono (B' := w.heap.size) (by omega))
  clear h0 C_0
  clear hb1
  go_wp2
  go_ret
  exact ⟨rfl, C_2⟩

set_option maxRecDepth 100000 in
set_option maxHeartbeats 1000000 in
theorem walk_main (a0 : List GArrival) (v0 : Value) (a1 : Int) (hi1 : I64 a1) (w : World) (h0 : ArrivalL w w.heap.size v0 a0) (hw0 : ∀ s ∈ a0, wfArrival s) (g0 : (szsArrival a0 : Int) ≤ 1048576):
    Calls Try.prog 8 #[v0, .int .i64 a1] w fun e w' => e = .returned (.bool true) ∧ Below w.heap.size w w' := by
  have hn0 : szsArrival a0 ≤ 1048576 := by first | omega | exact Nat.zero_le _
  have hnl0 := szsArrival_len a0
  have hS := fun v0 w B => specBg a0 v0 a1 w B
  have hI := fun v0 w B  => implBg a0 v0 a1 w B 
  have hl0 : sz1Origin (resBg a0 a1) ≤ 1048576 := (Nat.zero_le _)
  generalize resBg a0 a1 = r0 at *
  generalize numBg a0 a1 = r1 at *
  generalize okBg a0 a1 = r2 at *
  have HS := Lib.hid hS
  have HI := Lib.hid hI
  clear hS hI
  have C_0 := Below.refl w.heap.size w
  have d0 : ¬ 1048576 - (szsArrival a0 : Int) < 0 := by omega
  go_enter Try.func8, Try.ntmps8
  go_wp2_with fail
  refine (sz_ArrivalS a0 _ (1048576) _ w.heap.size h0 (by omega) (by omega) (by omega) (by omega)).mono ?_
  rintro e w1 ⟨rfl, hb1⟩
  have z1 : w.heap.size ≤ w1.heap.size := hb1.size
  have m0_2 := h0.below (hb1.mono (B' := w.heap.size) (by omega))
  have C_2 := C_0.trans (hb1.mono (B' := w.heap.size) (by omega))
  clear h0 C_0
  clear hb1
  go_wp2_with fail
  refine (to_ArrivalS a0 _ _ w.heap.size m0_2 (by omega) hn0).mono ?_
  rintro e w3 ⟨x3, rfl, ox3, hb3⟩
  have z3 : w1.heap.size ≤ w3.heap.size := hb3.size
  have m0_4 := m0_2.below (hb3.mono (B' := w.heap.size) (by omega))
  have C_4 := C_2.trans (hb3.mono (B' := w.heap.size) (by omega))
  clear m0_2 C_2
  clear hb3
  have kx3_o := ox3.mono (L' := w1.heap.size) (B' := w3.heap.size) (by simp <;> omega) (Nat.le_refl _)
  clear ox3
  go_wp2_with fail
  refine (HS.out _ _ (w3).heap.size  (kx3_o.lst.mono (by omega)) (Nat.le_refl _) hn0 hw0 hi1 ).mono ?_
  rintro e w5 ⟨y0_4, rfl, oy0_4, hb5⟩
  have z5 : w3.heap.size ≤ w5.heap.size := hb5.size
  have m0_6 := m0_4.below (hb5.mono (B' := w.heap.size) (by omega))
  have kx3_6 := kx3_o.below (hb5.mono (B' := w3.heap.size) (by omega))
  have C_6 := C_4.trans (hb5.mono (B' := w.heap.size) (by omega))
  clear m0_4 kx3_o C_4
  clear hb5
  have ky0_4_o := oy0_4.mono (L' := w3.heap.size) (B' := w5.heap.size) (by simp <;> omega) (Nat.le_refl _)
  clear oy0_4
  obtain rfl := ky0_4_o.form
  clear kx3_6
  have N7 := (Below.refl (w5).heap.size w5).alloc (Nat.le_refl _) (.cells #[.int .i64 r0.pX, .int .i64 r0.pY, .int .i64 r0.pTick] 30)
  have bx7 : Bx (w5.alloc (.cells #[.int .i64 r0.pX, .int .i64 r0.pY, .int .i64 r0.pTick] 30)) (w5.heap.size) [.int .i64 r0.pX, .int .i64 r0.pY, .int .i64 r0.pTick] := Bx.new w5 [.int .i64 r0.pX, .int .i64 r0.pY, .int .i64 r0.pTick] 30
  have m0_8 := m0_6.below (N7.mono (B' := w.heap.size) (by omega))
  have ky0_4_8 := ky0_4_o.below (N7.mono (B' := w5.heap.size) (by omega))
  have C_8 := C_6.trans (N7.mono (B' := w.heap.size) (by omega))
  clear m0_6 ky0_4_o C_6
  clear N7
  go_wp2_with fail
  refine (to_ArrivalS a0 _ _ w.heap.size m0_8 (by simp <;> omega) hn0).mono ?_
  rintro e w9 ⟨X0, rfl, oX0, hb9⟩
  have z9 : w5.heap.size + 1 ≤ w9.heap.size := by have := hb9.size; simpa using this
  have m0_10 := m0_8.below (hb9.mono (B' := w.heap.size) (by simp <;> omega))
  have ky0_4_10 := ky0_4_8.below (hb9.mono (B' := w5.heap.size) (by simp <;> omega))
  have bbxy0_4_10 := bx7.below hb9
  have C_10 := C_8.trans (hb9.mono (B' := w.heap.size) (by simp <;> omega))
  clear m0_8 ky0_4_8 bx7 C_8
  clear hb9
  have kX0_o := oX0.mono (L' := w5.heap.size + 1) (B' := w9.heap.size) (by simp <;> omega) (Nat.le_refl _)
  clear oX0
  go_wp2_with fail
  refine (HI.out _ _ (w9).heap.size  (kX0_o.lst.mono (by omega)) (Nat.le_refl _) hn0 hw0 hi1 ).mono ?_
  rintro e w11 ⟨y0_10, rfl, oy0_10, hb11⟩
  have z11 : w9.heap.size ≤ w11.heap.size := hb11.size
  have m0_12 := m0_10.below (hb11.mono (B' := w.heap.size) (by omega))
  have ky0_4_12 := ky0_4_10.below (hb11.mono (B' := w5.heap.size) (by omega))
  have kX0_12 := kX0_o.below (hb11.mono (B' := w9.heap.size) (by omega))
  have bbxy0_4_12 := bbxy0_4_10.below hb11
  have C_12 := C_10.trans (hb11.mono (B' := w.heap.size) (by omega))
  clear m0_10 ky0_4_10 kX0_o bbxy0_4_10 C_10
  clear hb11
  have ky0_10_o := oy0_10.mono (L' := w9.heap.size) (B' := w11.heap.size) (by simp <;> omega) (Nat.le_refl _)
  clear oy0_10
  obtain rfl := ky0_10_o.form
  have N13 := (Below.refl (w11).heap.size w11).alloc (Nat.le_refl _) (.cells #[.int .i64 r0.pX, .int .i64 r0.pY, .int .i64 r0.pTick] 30)
  have bx13 : Bx (w11.alloc (.cells #[.int .i64 r0.pX, .int .i64 r0.pY, .int .i64 r0.pTick] 30)) (w11.heap.size) [.int .i64 r0.pX, .int .i64 r0.pY, .int .i64 r0.pTick] := Bx.new w11 [.int .i64 r0.pX, .int .i64 r0.pY, .int .i64 r0.pTick] 30
  have m0_14 := m0_12.below (N13.mono (B' := w.heap.size) (by omega))
  have ky0_4_14 := ky0_4_12.below (N13.mono (B' := w5.heap.size) (by omega))
  have kX0_14 := kX0_12.below (N13.mono (B' := w9.heap.size) (by omega))
  have ky0_10_14 := ky0_10_o.below (N13.mono (B' := w11.heap.size) (by omega))
  have bbxy0_4_14 := bbxy0_4_12.below N13
  have C_14 := C_12.trans (N13.mono (B' := w.heap.size) (by omega))
  clear m0_12 ky0_4_12 kX0_12 ky0_10_o bbxy0_4_12 C_12
  clear N13
  have q1 := bx13.2 0 _ rfl
  have q2 := bx13.2 1 _ rfl
  have q3 := bx13.2 2 _ rfl
  have q4 := bbxy0_4_14.2 0 _ rfl
  have q5 := bbxy0_4_14.2 1 _ rfl
  have q6 := bbxy0_4_14.2 2 _ rfl
  go_wp2_with fail
  refine (eq_Origin r0 _ _ _ ((w11.alloc (.cells #[.int .i64 r0.pX, .int .i64 r0.pY, .int .i64 r0.pTick] 30))).heap.size (ky0_10_14.lst.mono (by simp <;> omega)) (ky0_4_14.lst.mono (by simp <;> omega)) (Nat.le_refl _)).mono ?_
  rintro e w15 ⟨rfl, hb15⟩
  have z15 : w11.heap.size + 1 ≤ w15.heap.size := by have := hb15.size; simpa using this
  clear q1 q2 q3 q4 q5 q6
  have m0_16 := m0_14.below (hb15.mono (B' := w.heap.size) (by simp <;> omega))
  have ky0_4_16 := ky0_4_14.below (hb15.mono (B' := w5.heap.size) (by simp <;> omega))
  have kX0_16 := kX0_14.below (hb15.mono (B' := w9.heap.size) (by simp <;> omega))
  have ky0_10_16 := ky0_10_14.below (hb15.mono (B' := w11.heap.size) (by simp <;> omega))
  have bbxy0_4_16 := bbxy0_4_14.below hb15
  have bbxy0_10_16 := bx13.below hb15
  have C_16 := C_14.trans (hb15.mono (B' := w.heap.size) (by simp <;> omega))
  clear m0_14 ky0_4_14 kX0_14 ky0_10_14 bbxy0_4_14 bx13 C_14
  clear hb15
  go_wp2_with fail
  refine (to_ArrivalS a0 _ _ w.heap.size m0_16 (by omega) hn0).mono ?_
  rintro e w17 ⟨T0, rfl, oT0, hb17⟩
  have z17 : w15.heap.size ≤ w17.heap.size := hb17.size
  have m0_18 := m0_16.below (hb17.mono (B' := w.heap.size) (by omega))
  have ky0_4_18 := ky0_4_16.below (hb17.mono (B' := w5.heap.size) (by omega))
  have kX0_18 := kX0_16.below (hb17.mono (B' := w9.heap.size) (by omega))
  have ky0_10_18 := ky0_10_16.below (hb17.mono (B' := w11.heap.size) (by omega))
  have bbxy0_4_18 := bbxy0_4_16.below hb17
  have bbxy0_10_18 := bbxy0_10_16.below hb17
  have C_18 := C_16.trans (hb17.mono (B' := w.heap.size) (by omega))
  clear m0_16 ky0_4_16 kX0_16 ky0_10_16 bbxy0_4_16 bbxy0_10_16 C_16
  clear hb17
  have kT0_o := oT0.mono (L' := w15.heap.size) (B' := w17.heap.size) (by simp <;> omega) (Nat.le_refl _)
  clear oT0
  go_wp2_with fail
  refine (eq_ArrivalS a0 _ _ _ (w17).heap.size (kX0_18.lst.mono (by omega)) (kT0_o.lst.mono (by omega)) (Nat.le_refl _)).mono ?_
  rintro e w19 ⟨rfl, hb19⟩
  have z19 : w17.heap.size ≤ w19.heap.size := hb19.size
  have m0_20 := m0_18.below (hb19.mono (B' := w.heap.size) (by omega))
  have ky0_4_20 := ky0_4_18.below (hb19.mono (B' := w5.heap.size) (by omega))
  have kX0_20 := kX0_18.below (hb19.mono (B' := w9.heap.size) (by omega))
  have ky0_10_20 := ky0_10_18.below (hb19.mono (B' := w11.heap.size) (by omega))
  have kT0_20 := kT0_o.below (hb19.mono (B' := w17.heap.size) (by omega))
  have bbxy0_4_20 := bbxy0_4_18.below hb19
  have bbxy0_10_20 := bbxy0_10_18.below hb19
  have C_20 := C_18.trans (hb19.mono (B' := w.heap.size) (by omega))
  clear m0_18 ky0_4_18 kX0_18 ky0_10_18 kT0_o bbxy0_4_18 bbxy0_10_18 C_18
  clear hb19
  clear kT0_20
  go_wp2
  go_ret
  exact ⟨rfl, C_20⟩

set_option maxRecDepth 100000 in
theorem walk_all {H : Type} {enc : TypeId × Value → H} {base : Nat} {w : World} (v0 : Value) {d0 : DataW H} {ps0 : List MemPlace} (hval0 : Value.okWide Try.prog w .any base 33 v0) (hd0 : DataW.Trod enc Try.prog w 0 (fun _ => true) true 33 v0 d0 ps0) (a1 : Int) (wf1 : (Lit.int .i64 a1).wf = true) :
    Calls Try.prog 8 #[v0, .int .i64 a1] w fun e w' => e = .returned (.bool true) ∧ Below w.heap.size w w' := by
  obtain ⟨a0, h0, hw0⟩ := open_ArrivalS hval0 hd0
  have hi1 : I64 a1 := bounds_i64 wf1
  by_cases g0 : (szsArrival a0 : Int) ≤ 1048576
  case neg => exact walk_big0 a0 v0 a1 hi1 w h0 hw0 g0
  exact walk_main a0 v0 a1 hi1 w h0 hw0 g0

set_option maxRecDepth 100000 in
theorem contract (H : Type) (enc : TypeId × Value → H) (W : World) (base : Nat) (args : Array Value) (ds gs : List (DataW H)) (before : List MemPlace)
    (hval : ∀ (j : Nat) t v, Try.f8.params[j]? = some t → args[j]? = some v → Value.okWide Try.prog W .any base t v)
    (hW : DataW.Whole enc Try.prog Try.f8.params.toList Rows.fnExactBestOnGridSpec.vars false W args.toList ds gs before) :
    Calls Try.prog 8 args W fun e W' => ∃ v, e = .returned v ∧ Rows.fnExactBestOnGridSpec.post enc Try.prog Try.f8 false true false false W args v W' := by
  have hW' := hW
  obtain ⟨p, q, hA0, hV, rfl, hfz, hnd⟩ := hW
  have hA : DataW.TrodAll enc Try.prog W 0 (fun _ => true) true Try.f8.params.toList args.toList ds p := hA0
  rw [Try.params8] at hA hval
  obtain ⟨v0, vs0, d0, ds0, p0, q0, hargs, rfl, rfl, h0, r0⟩ := trodAll_cons hA
  obtain ⟨v1, vs1, d1, ds1, p1, q1, rfl, rfl, rfl, h1, r1⟩ := trodAll_cons r0
  obtain ⟨rfl, rfl, rfl⟩ := trodAll_nil r1
  obtain rfl : args = #[v0, v1] := by cases args; simp_all
  obtain ⟨n1, rfl, rfl, rfl, w1⟩ := open_int Try.underlying3 (hval 1 3 v1 rfl rfl) h1
  refine lawPost rfl rfl Try.underlying4 (by kernel_rfl) (by kernel_rfl) hW' (fun hg => by subst hg; exact ⟨rfl, rfl, rfl⟩) ?_
  exact walk_all v0 (hval 0 33 v0 rfl rfl) h0 n1 w1

set_option maxRecDepth 100000 in
theorem lifted (os : Os) (started : os.Started) (H : Type) (enc : TypeId × Value → H) :
    ReturnsInHanded {} Try.checked os 8 .any (Rows.fnExactBestOnGridSpec.pre6 enc Try.prog Try.f8 Rows.fnExactBestOnGridRow.domain false) (Rows.fnExactBestOnGridSpec.post enc Try.prog Try.f8 false true false false) := by
  refine returnsInHanded_of_change (C := Try.checked) (s := Rows.fnExactBestOnGridSpec) own started (by kernel_rfl) Try.func8
    (ChangeSpec.witness6 (enc := enc) (C := Try.checked) (s := Rows.fnExactBestOnGridSpec) false ⟨#[], #[.slice none 0 0, .int .i64 0], []⟩ 8 (by kernel_rfl) (by kernel_rfl) (by kernel_rfl) (by kernel_rfl)) ?_
  intro W base args ds gs before hval hW _ _
  exact contract H enc W base args ds gs before hval hW

theorem said : Rows.FnExactBestOnGridSaid :=
  OpenClaim.holds_of_wide 8 Try.f8 rfl rfl rfl rfl rfl rfl rfl ⟨rfl, rfl, rfl, rfl, rfl⟩ rfl rfl rfl rfl rfl (by kernel_rfl) Try.func8 (by kernel_rfl)
    (of_decide_eq_true (by kernel_rfl)) (by unfold Func.isWrapper; first | (rw [if_pos (by decide +kernel)]; kernel_rfl) | (rw [if_neg (by decide +kernel)]; exact ⟨rfl, rfl⟩))
    (fun os started H enc _ => lifted os started H enc)

end Go.Proofs.Ytoogofceoinniab.fnExactBestOnGrid
