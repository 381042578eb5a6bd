/- FnExactSplitCube: for every cube the law answers true; no condition. -/
import Derived.Test.YtoogofceoinniaaLoC
import Derived.Test.YtoogofceoinniaaLpB
import Derived.Deep.CutBlock
import Derived.Deep.CutRange
import Derived.Deep.DeepCutAuto
namespace Go.Proofs.Ytoogofceoinniaa.fnExactSplitCube
open Go.ChangeShapes Go.WideShapes Go.ChangeAt Go.RowKit Go.ChangeMaps
set_option linter.unusedSimpArgs false
set_option linter.unusedVariables false

theorem own : ownKnob Try.prog.godebug = none := by kernel_rfl


set_option maxRecDepth 100000 in
set_option maxHeartbeats 1000000 in
theorem walk_main (a0 : GCube) (v0 : Value) (w : World) (h0 : CubeVL w w.heap.size v0 a0) (hw0 : wfCube a0) :
    Calls Try.prog 6 #[v0] w fun e w' => e = .returned (.bool true) ∧ Below w.heap.size w w' := by
  have hn0 : sz1Cube a0 ≤ 1048576 := by first | omega | exact Nat.zero_le _
  have hS := fun v0 w B => specSp a0 v0 w B
  have hI := fun v0 w B  => implSp a0 v0 w B 
  have hl0 : szsCube (resSp a0) ≤ 1048576 := resSp_len a0
  generalize resSp a0 = r0 at *
  generalize okSp a0 = r1 at *
  have hll0 := szsCube_len r0
  have HS := Lib.hid hS
  have HI := Lib.hid hI
  clear hS hI
  obtain rfl := h0.form
  have N1 := (Below.refl (w).heap.size w).alloc (Nat.le_refl _) (.cells #[.int .i64 a0.pWest, .int .i64 a0.pSouth, .int .i64 a0.pSide, .int .i64 a0.pFrom, .int .i64 a0.pTo] 23)
  have bx1 : Bx (w.alloc (.cells #[.int .i64 a0.pWest, .int .i64 a0.pSouth, .int .i64 a0.pSide, .int .i64 a0.pFrom, .int .i64 a0.pTo] 23)) (w.heap.size) [.int .i64 a0.pWest, .int .i64 a0.pSouth, .int .i64 a0.pSide, .int .i64 a0.pFrom, .int .i64 a0.pTo] := Bx.new w [.int .i64 a0.pWest, .int .i64 a0.pSouth, .int .i64 a0.pSide, .int .i64 a0.pFrom, .int .i64 a0.pTo] 23
  have m0_2 := h0.below (N1.mono (B' := w.heap.size) (by omega))
  have C_2 := N1
  clear h0
  clear N1
  go_enter Try.func6, Try.ntmps6
  have q1 := bx1.2 0 _ rfl
  have q2 := bx1.2 1 _ rfl
  have q3 := bx1.2 2 _ rfl
  have q4 := bx1.2 3 _ rfl
  have q5 := bx1.2 4 _ rfl
  go_wp2_with fail
  refine (to_Cube a0 _ _ w.heap.size m0_2 (by simp <;> omega) hn0).mono ?_
  rintro e w3 ⟨x3, rfl, ox3, hb3⟩
  have z3 : w.heap.size + 1 ≤ w3.heap.size := by have := hb3.size; simpa using this
  clear q1 q2 q3 q4 q5
  have m0_4 := m0_2.below (hb3.mono (B' := w.heap.size) (by simp <;> omega))
  have bp0_4 := bx1.below hb3
  have C_4 := C_2.trans (hb3.mono (B' := w.heap.size) (by simp <;> omega))
  clear m0_2 bx1 C_2
  clear hb3
  have kx3_o := ox3.mono (L' := w.heap.size + 1) (B' := w3.heap.size) (by simp <;> omega) (Nat.le_refl _)
  clear ox3
  obtain rfl := kx3_o.form
  go_wp2_with fail
  refine (HS.out _ _ (w3).heap.size  (kx3_o.lst.mono (by omega)) (Nat.le_refl _) hn0 hw0  ).mono ?_
  rintro e w5 ⟨y0_4, rfl, oy0_4, hb5⟩
  have z5 : w3.heap.size ≤ w5.heap.size := hb5.size
  have m0_6 := m0_4.below (hb5.mono (B' := w.heap.size) (by omega))
  have kx3_6 := kx3_o.below (hb5.mono (B' := w3.heap.size) (by omega))
  have bp0_6 := bp0_4.below hb5
  have C_6 := C_4.trans (hb5.mono (B' := w.heap.size) (by omega))
  clear m0_4 kx3_o bp0_4 C_4
  clear hb5
  have ky0_4_o := oy0_4.mono (L' := w3.heap.size) (B' := w5.heap.size) (by simp <;> omega) (Nat.le_refl _)
  clear oy0_4
  obtain ⟨aoy0_4, capy0_4, rfl⟩ := ky0_4_o.form
  clear kx3_6
  have q6 := bp0_6.2 0 _ rfl
  have q7 := bp0_6.2 1 _ rfl
  have q8 := bp0_6.2 2 _ rfl
  have q9 := bp0_6.2 3 _ rfl
  have q10 := bp0_6.2 4 _ rfl
  go_wp2_with fail
  refine (to_Cube a0 _ _ w.heap.size m0_6 (by omega) hn0).mono ?_
  rintro e w7 ⟨x7, rfl, ox7, hb7⟩
  have z7 : w5.heap.size ≤ w7.heap.size := hb7.size
  clear q6 q7 q8 q9 q10
  have m0_8 := m0_6.below (hb7.mono (B' := w.heap.size) (by omega))
  have ky0_4_8 := ky0_4_o.below (hb7.mono (B' := w5.heap.size) (by omega))
  have bp0_8 := bp0_6.below hb7
  have C_8 := C_6.trans (hb7.mono (B' := w.heap.size) (by omega))
  clear m0_6 ky0_4_o bp0_6 C_6
  clear hb7
  have kx7_o := ox7.mono (L' := w5.heap.size) (B' := w7.heap.size) (by simp <;> omega) (Nat.le_refl _)
  clear ox7
  obtain rfl := kx7_o.form
  go_wp2_with fail
  refine (HI.out _ _ (w7).heap.size  (kx7_o.lst.mono (by omega)) (Nat.le_refl _) hn0 hw0  ).mono ?_
  rintro e w9 ⟨y0_8, rfl, oy0_8, hb9⟩
  have z9 : w7.heap.size ≤ w9.heap.size := hb9.size
  have m0_10 := m0_8.below (hb9.mono (B' := w.heap.size) (by omega))
  have ky0_4_10 := ky0_4_8.below (hb9.mono (B' := w5.heap.size) (by omega))
  have kx7_10 := kx7_o.below (hb9.mono (B' := w7.heap.size) (by omega))
  have bp0_10 := bp0_8.below hb9
  have C_10 := C_8.trans (hb9.mono (B' := w.heap.size) (by omega))
  clear m0_8 ky0_4_8 kx7_o bp0_8 C_8
  clear hb9
  have ky0_8_o := oy0_8.mono (L' := w7.heap.size) (B' := w9.heap.size) (by simp <;> omega) (Nat.le_refl _)
  clear oy0_8
  obtain ⟨aoy0_8, capy0_8, rfl⟩ := ky0_8_o.form
  clear kx7_10
  go_wp2_with fail
  refine (eq_CubeS r0 _ _ _ (w9).heap.size (ky0_8_o.lst.mono (by omega)) (ky0_4_10.lst.mono (by omega)) (Nat.le_refl _)).mono ?_
  rintro e w11 ⟨rfl, hb11⟩
  have z11 : w9.heap.size ≤ w11.heap.size := hb11.size
  have m0_12 := m0_10.below (hb11.mono (B' := w.heap.size) (by omega))
  have ky0_4_12 := ky0_4_10.below (hb11.mono (B' := w5.heap.size) (by omega))
  have ky0_8_12 := ky0_8_o.below (hb11.mono (B' := w9.heap.size) (by omega))
  have bp0_12 := bp0_10.below hb11
  have C_12 := C_10.trans (hb11.mono (B' := w.heap.size) (by omega))
  clear m0_10 ky0_4_10 ky0_8_o bp0_10 C_10
  clear hb11
  go_wp2_with fail
  refine (mark_CubeS r0 _ (1) _ (w7.heap.size) w9.heap.size ky0_8_12 (by omega) hl0 (by omega) (by omega)).mono ?_
  rintro e w13 ⟨rfl, mk, hu13⟩
  have z13 : w11.heap.size ≤ w13.heap.size := hu13.size
  have m0_14 := m0_12.below (hu13.low (B := w.heap.size) (by omega) (by omega))
  have ky0_4_14 := ky0_4_12.below (hu13.low (B := w5.heap.size) (by omega) (by omega))
  have bp0_14 := bp0_12.upd hu13 (by omega)
  have C_14 := C_12.trans (hu13.low (B := w.heap.size) (by omega) (by omega))
  clear m0_12 ky0_4_12 bp0_12 C_12
  clear hu13
  clear ky0_8_12
  have ky0_8_m13 := mk
  clear mk
  go_wp2_with fail
  refine (held_CubeS r0 _ (1) _ (w9.heap.size) ky0_8_m13.lst (by omega) hl0 (by omega) (by omega)).mono ?_
  rintro e w15 ⟨rfl, hb15⟩
  have z15 : w13.heap.size ≤ w15.heap.size := hb15.size
  have m0_16 := m0_14.below (hb15.mono (B' := w.heap.size) (by omega))
  have ky0_4_16 := ky0_4_14.below (hb15.mono (B' := w5.heap.size) (by omega))
  have ky0_8_16 := ky0_8_m13.below (hb15.mono (B' := w9.heap.size) (by omega))
  have bp0_16 := bp0_14.below hb15
  have C_16 := C_14.trans (hb15.mono (B' := w.heap.size) (by omega))
  clear m0_14 ky0_4_14 ky0_8_m13 bp0_14 C_14
  clear hb15
  have dq16 : ¬ (1 + (5 * r0.length : Int)) < 0 := by omega
  have q11 := bp0_16.2 0 _ rfl
  have q12 := bp0_16.2 1 _ rfl
  have q13 := bp0_16.2 2 _ rfl
  have q14 := bp0_16.2 3 _ rfl
  have q15 := bp0_16.2 4 _ rfl
  go_wp2_with fail
  refine (to_Cube a0 _ _ w.heap.size m0_16 (by omega) hn0).mono ?_
  rintro e w17 ⟨x17, rfl, ox17, hb17⟩
  have z17 : w15.heap.size ≤ w17.heap.size := hb17.size
  clear q11 q12 q13 q14 q15
  have m0_18 := m0_16.below (hb17.mono (B' := w.heap.size) (by omega))
  have ky0_4_18 := ky0_4_16.below (hb17.mono (B' := w5.heap.size) (by omega))
  have ky0_8_18 := ky0_8_16.below (hb17.mono (B' := w9.heap.size) (by omega))
  have bp0_18 := bp0_16.below hb17
  have C_18 := C_16.trans (hb17.mono (B' := w.heap.size) (by omega))
  clear m0_16 ky0_4_16 ky0_8_16 bp0_16 C_16
  clear hb17
  have kx17_o := ox17.mono (L' := w15.heap.size) (B' := w17.heap.size) (by simp <;> omega) (Nat.le_refl _)
  clear ox17
  obtain rfl := kx17_o.form
  go_wp2_with fail
  refine (HI.out _ _ (w17).heap.size  (kx17_o.lst.mono (by omega)) (Nat.le_refl _) hn0 hw0  ).mono ?_
  rintro e w19 ⟨y0_18, rfl, oy0_18, hb19⟩
  have z19 : w17.heap.size ≤ w19.heap.size := hb19.size
  have m0_20 := m0_18.below (hb19.mono (B' := w.heap.size) (by omega))
  have ky0_4_20 := ky0_4_18.below (hb19.mono (B' := w5.heap.size) (by omega))
  have ky0_8_20 := ky0_8_18.below (hb19.mono (B' := w9.heap.size) (by omega))
  have kx17_20 := kx17_o.below (hb19.mono (B' := w17.heap.size) (by omega))
  have bp0_20 := bp0_18.below hb19
  have C_20 := C_18.trans (hb19.mono (B' := w.heap.size) (by omega))
  clear m0_18 ky0_4_18 ky0_8_18 kx17_o bp0_18 C_18
  clear hb19
  have ky0_18_o := oy0_18.mono (L' := w17.heap.size) (B' := w19.heap.size) (by simp <;> omega) (Nat.le_refl _)
  clear oy0_18
  obtain ⟨aoy0_18, capy0_18, rfl⟩ := ky0_18_o.form
  clear kx17_20
  go_wp2_with fail
  refine (eq_CubeS r0 _ _ _ (w19).heap.size (ky0_18_o.lst.mono (by omega)) (ky0_4_20.lst.mono (by omega)) (Nat.le_refl _)).mono ?_
  rintro e w21 ⟨rfl, hb21⟩
  have z21 : w19.heap.size ≤ w21.heap.size := hb21.size
  have m0_22 := m0_20.below (hb21.mono (B' := w.heap.size) (by omega))
  have ky0_4_22 := ky0_4_20.below (hb21.mono (B' := w5.heap.size) (by omega))
  have ky0_8_22 := ky0_8_20.below (hb21.mono (B' := w9.heap.size) (by omega))
  have ky0_18_22 := ky0_18_o.below (hb21.mono (B' := w19.heap.size) (by omega))
  have bp0_22 := bp0_20.below hb21
  have C_22 := C_20.trans (hb21.mono (B' := w.heap.size) (by omega))
  clear m0_20 ky0_4_20 ky0_8_20 ky0_18_o bp0_20 C_20
  clear hb21
  go_wp2_with fail
  refine (held_CubeS r0 _ (1) _ (w9.heap.size) ky0_8_22.lst (by omega) hl0 (by omega) (by omega)).mono ?_
  rintro e w23 ⟨rfl, hb23⟩
  have z23 : w21.heap.size ≤ w23.heap.size := hb23.size
  have m0_24 := m0_22.below (hb23.mono (B' := w.heap.size) (by omega))
  have ky0_4_24 := ky0_4_22.below (hb23.mono (B' := w5.heap.size) (by omega))
  have ky0_8_24 := ky0_8_22.below (hb23.mono (B' := w9.heap.size) (by omega))
  have ky0_18_24 := ky0_18_22.below (hb23.mono (B' := w19.heap.size) (by omega))
  have bp0_24 := bp0_22.below hb23
  have C_24 := C_22.trans (hb23.mono (B' := w.heap.size) (by omega))
  clear m0_22 ky0_4_22 ky0_8_22 ky0_18_22 bp0_22 C_22
  clear hb23
  have dq24 : ¬ (1 + (5 * r0.length : Int)) < 0 := by omega
  go_wp2
  go_ret
  exact ⟨rfl, C_24⟩

set_option maxRecDepth 100000 in
theorem walk_all {H : Type} {enc : TypeId × Value → H} {base : Nat} {w : World} (v0 : Value) {d0 : DataW H} {ps0 : List MemPlace} (hval0 : Value.okWide Try.prog w .any base 23 v0) (hd0 : DataW.Trod enc Try.prog w 0 (fun _ => true) true 23 v0 d0 ps0) :
    Calls Try.prog 6 #[v0] w fun e w' => e = .returned (.bool true) ∧ Below w.heap.size w w' := by
  obtain ⟨a0, h0, hw0⟩ := open_Cube hval0 hd0
  exact walk_main a0 v0 w h0 hw0 

set_option maxRecDepth 100000 in
theorem contract (H : Type) (enc : TypeId × Value → H) (W : World) (base : Nat) (args : Array Value) (ds gs : List (DataW H)) (before : List MemPlace)
    (hval : ∀ (j : Nat) t v, Try.f6.params[j]? = some t → args[j]? = some v → Value.okWide Try.prog W .any base t v)
    (hW : DataW.Whole enc Try.prog Try.f6.params.toList Rows.fnExactSplitCubeSpec.vars false W args.toList ds gs before) :
    Calls Try.prog 6 args W fun e W' => ∃ v, e = .returned v ∧ Rows.fnExactSplitCubeSpec.post enc Try.prog Try.f6 false true false false W args v W' := by
  have hW' := hW
  obtain ⟨p, q, hA0, hV, rfl, hfz, hnd⟩ := hW
  have hA : DataW.TrodAll enc Try.prog W 0 (fun _ => true) true Try.f6.params.toList args.toList ds p := hA0
  rw [Try.params6] at hA hval
  obtain ⟨v0, vs0, d0, ds0, p0, q0, hargs, rfl, rfl, h0, r0⟩ := trodAll_cons hA
  obtain ⟨rfl, rfl, rfl⟩ := trodAll_nil r0
  obtain rfl : args = #[v0] := by cases args; simp_all
  refine lawPost rfl rfl Try.underlying4 (by kernel_rfl) (by kernel_rfl) hW' (fun hg => by subst hg; exact ⟨rfl, rfl, rfl⟩) ?_
  exact walk_all v0 (hval 0 23 v0 rfl rfl) h0

set_option maxRecDepth 100000 in
theorem lifted (os : Os) (started : os.Started) (H : Type) (enc : TypeId × Value → H) :
    ReturnsInHanded {} Try.checked os 6 .any (Rows.fnExactSplitCubeSpec.pre6 enc Try.prog Try.f6 Rows.fnExactSplitCubeRow.domain false) (Rows.fnExactSplitCubeSpec.post enc Try.prog Try.f6 false true false false) := by
  refine returnsInHanded_of_change (C := Try.checked) (s := Rows.fnExactSplitCubeSpec) own started (by kernel_rfl) Try.func6
    (ChangeSpec.witness6 (enc := enc) (C := Try.checked) (s := Rows.fnExactSplitCubeSpec) false ⟨#[], #[.agg #[.int .i64 0, .int .i64 0, .int .i64 0, .int .i64 0, .int .i64 0]], []⟩ 8 (by kernel_rfl) (by kernel_rfl) (by kernel_rfl) (by kernel_rfl)) ?_
  intro W base args ds gs before hval hW _ _
  exact contract H enc W base args ds gs before hval hW

theorem said : Rows.FnExactSplitCubeSaid :=
  OpenClaim.holds_of_wide 6 Try.f6 rfl rfl rfl rfl rfl rfl rfl ⟨rfl, rfl, rfl, rfl, rfl⟩ rfl rfl rfl rfl rfl (by kernel_rfl) Try.func6 (by kernel_rfl)
    (of_decide_eq_true (by kernel_rfl)) (by unfold Func.isWrapper; first | (rw [if_pos (by decide +kernel)]; kernel_rfl) | (rw [if_neg (by decide +kernel)]; exact ⟨rfl, rfl⟩))
    (fun os started H enc _ => lifted os started H enc)

end Go.Proofs.Ytoogofceoinniaa.fnExactSplitCube
