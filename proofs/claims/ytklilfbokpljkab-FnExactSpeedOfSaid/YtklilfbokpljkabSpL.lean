/- FnExactSpeedOf: for every station and every number the law answers true; no condition. -/
import Derived.Test.YtklilfbokpljkabStaS
namespace Go.Proofs.Ytklilfbokpljkab.fnExactSpeedOf
open Go.ChangeShapes Go.WideShapes Go.ChangeAt Go.RowKit Go.ChangeMaps
set_option linter.unusedSimpArgs false
set_option linter.unusedVariables false

theorem own : ownKnob Try.prog.godebug = none := by kernel_rfl


set_option maxRecDepth 100000 in
set_option maxHeartbeats 1000000 in
theorem walk_big0 (a0 : GStation) (v0 : Value) (a1 : Int) (hi1 : I64 a1) (w : World) (h0 : StationVL w w.heap.size v0 a0) (hw0 : wfStation a0)  (g0 : ¬ (sz1Station a0 : Int) ≤ 1048576):
    Calls Try.prog 13 #[v0, .int .i64 a1] w fun e w' => e = .returned (.bool true) ∧ Below w.heap.size w w' := by
  obtain rfl := h0.form
  have N1 := (Below.refl (w).heap.size w).alloc (Nat.le_refl _) (.cells #[.int .i64 a0.pId, .string a0.pName, .int .i64 a0.pX, .int .i64 a0.pY, .int .i64 a0.pGain, .int .i64 a0.pLow, .int .i64 a0.pHigh, .int .i64 a0.pUntil] 57)
  have bx1 : Bx (w.alloc (.cells #[.int .i64 a0.pId, .string a0.pName, .int .i64 a0.pX, .int .i64 a0.pY, .int .i64 a0.pGain, .int .i64 a0.pLow, .int .i64 a0.pHigh, .int .i64 a0.pUntil] 57)) (w.heap.size) [.int .i64 a0.pId, .string a0.pName, .int .i64 a0.pX, .int .i64 a0.pY, .int .i64 a0.pGain, .int .i64 a0.pLow, .int .i64 a0.pHigh, .int .i64 a0.pUntil] := Bx.new w [.int .i64 a0.pId, .string a0.pName, .int .i64 a0.pX, .int .i64 a0.pY, .int .i64 a0.pGain, .int .i64 a0.pLow, .int .i64 a0.pHigh, .int .i64 a0.pUntil] 57
  have m0_2 := h0.below (N1.mono (B' := w.heap.size) (by omega))
  have C_2 := N1
  clear h0
  clear N1
  go_enter Try.func13, Try.ntmps13
  have q1 := bx1.2 0 _ rfl
  have q2 := bx1.2 1 _ rfl
  have q3 := bx1.2 2 _ rfl
  have q4 := bx1.2 3 _ rfl
  have q5 := bx1.2 4 _ rfl
  have q6 := bx1.2 5 _ rfl
  have q7 := bx1.2 6 _ rfl
  have q8 := bx1.2 7 _ rfl
  go_wp2_with fail
  refine (szgt_Station a0 _ (1048576) _ w.heap.size m0_2 (by simp <;> omega) (by omega) (by omega) (by omega) hw0).mono ?_
  rintro e w3 ⟨rfl, hb3⟩
  have z3 : w.heap.size + 1 ≤ w3.heap.size := by have := hb3.size; simpa using this
  clear q1 q2 q3 q4 q5 q6 q7 q8
  have m0_4 := m0_2.below (hb3.mono (B' := w.heap.size) (by simp <;> omega))
  have bp0_4 := bx1.below hb3
  have C_4 := C_2.trans (hb3.mono (B' := w.heap.size) (by simp <;> omega))
  clear m0_2 bx1 C_2
  clear hb3
  go_wp2
  go_ret
  exact ⟨rfl, C_4⟩

set_option maxRecDepth 100000 in
set_option maxHeartbeats 1000000 in
theorem walk_main (a0 : GStation) (v0 : Value) (a1 : Int) (hi1 : I64 a1) (w : World) (h0 : StationVL w w.heap.size v0 a0) (hw0 : wfStation a0) (g0 : (sz1Station a0 : Int) ≤ 1048576):
    Calls Try.prog 13 #[v0, .int .i64 a1] w fun e w' => e = .returned (.bool true) ∧ Below w.heap.size w w' := by
  have hn0 : sz1Station a0 ≤ 1048576 := by omega
  have hS := fun v0 w B => specSp a0 v0 a1 w B
  have hI := fun v0 w B  => implSp a0 v0 a1 w B 
  generalize numSp a0 a1 = r0 at *
  generalize denSp a0 a1 = r1 at *
  generalize okSp a0 a1 = r2 at *
  have HS := Lib.hid hS
  have HI := Lib.hid hI
  clear hS hI
  obtain rfl := h0.form
  have N1 := (Below.refl (w).heap.size w).alloc (Nat.le_refl _) (.cells #[.int .i64 a0.pId, .string a0.pName, .int .i64 a0.pX, .int .i64 a0.pY, .int .i64 a0.pGain, .int .i64 a0.pLow, .int .i64 a0.pHigh, .int .i64 a0.pUntil] 57)
  have bx1 : Bx (w.alloc (.cells #[.int .i64 a0.pId, .string a0.pName, .int .i64 a0.pX, .int .i64 a0.pY, .int .i64 a0.pGain, .int .i64 a0.pLow, .int .i64 a0.pHigh, .int .i64 a0.pUntil] 57)) (w.heap.size) [.int .i64 a0.pId, .string a0.pName, .int .i64 a0.pX, .int .i64 a0.pY, .int .i64 a0.pGain, .int .i64 a0.pLow, .int .i64 a0.pHigh, .int .i64 a0.pUntil] := Bx.new w [.int .i64 a0.pId, .string a0.pName, .int .i64 a0.pX, .int .i64 a0.pY, .int .i64 a0.pGain, .int .i64 a0.pLow, .int .i64 a0.pHigh, .int .i64 a0.pUntil] 57
  have m0_2 := h0.below (N1.mono (B' := w.heap.size) (by omega))
  have C_2 := N1
  clear h0
  clear N1
  have d0 : ¬ 1048576 - (sz1Station a0 : Int) < 0 := by omega
  go_enter Try.func13, Try.ntmps13
  have q1 := bx1.2 0 _ rfl
  have q2 := bx1.2 1 _ rfl
  have q3 := bx1.2 2 _ rfl
  have q4 := bx1.2 3 _ rfl
  have q5 := bx1.2 4 _ rfl
  have q6 := bx1.2 5 _ rfl
  have q7 := bx1.2 6 _ rfl
  have q8 := bx1.2 7 _ rfl
  go_wp2_with fail
  refine (sz_Station a0 _ (1048576) _ w.heap.size m0_2 (by simp <;> omega) (by omega) (by omega) (by omega)).mono ?_
  rintro e w3 ⟨rfl, hb3⟩
  have z3 : w.heap.size + 1 ≤ w3.heap.size := by have := hb3.size; simpa using this
  clear q1 q2 q3 q4 q5 q6 q7 q8
  have m0_4 := m0_2.below (hb3.mono (B' := w.heap.size) (by simp <;> omega))
  have bp0_4 := bx1.below hb3
  have C_4 := C_2.trans (hb3.mono (B' := w.heap.size) (by simp <;> omega))
  clear m0_2 bx1 C_2
  clear hb3
  have q9 := bp0_4.2 0 _ rfl
  have q10 := bp0_4.2 1 _ rfl
  have q11 := bp0_4.2 2 _ rfl
  have q12 := bp0_4.2 3 _ rfl
  have q13 := bp0_4.2 4 _ rfl
  have q14 := bp0_4.2 5 _ rfl
  have q15 := bp0_4.2 6 _ rfl
  have q16 := bp0_4.2 7 _ rfl
  go_wp2_with fail
  refine (to_Station a0 _ _ w.heap.size m0_4 (by omega) hn0).mono ?_
  rintro e w5 ⟨x5, rfl, ox5, hb5⟩
  have z5 : w3.heap.size ≤ w5.heap.size := hb5.size
  clear q9 q10 q11 q12 q13 q14 q15 q16
  have m0_6 := m0_4.below (hb5.mono (B' := w.heap.size) (by omega))
  have bp0_6 := bp0_4.below hb5
  have C_6 := C_4.trans (hb5.mono (B' := w.heap.size) (by omega))
  clear m0_4 bp0_4 C_4
  clear hb5
  have kx5_o := ox5.mono (L' := w3.heap.size) (B' := w5.heap.size) (by simp <;> omega) (Nat.le_refl _)
  clear ox5
  obtain rfl := kx5_o.form
  go_wp2_with fail
  refine (HS.out _ _ (w5).heap.size  (kx5_o.lst.mono (by omega)) (Nat.le_refl _) hn0 hw0 hi1 ).mono ?_
  rintro e w7 ⟨rfl, hb7⟩
  have z7 : w5.heap.size ≤ w7.heap.size := hb7.size
  have m0_8 := m0_6.below (hb7.mono (B' := w.heap.size) (by omega))
  have kx5_8 := kx5_o.below (hb7.mono (B' := w5.heap.size) (by omega))
  have bp0_8 := bp0_6.below hb7
  have C_8 := C_6.trans (hb7.mono (B' := w.heap.size) (by omega))
  clear m0_6 kx5_o bp0_6 C_6
  clear hb7
  clear kx5_8
  have q17 := bp0_8.2 0 _ rfl
  have q18 := bp0_8.2 1 _ rfl
  have q19 := bp0_8.2 2 _ rfl
  have q20 := bp0_8.2 3 _ rfl
  have q21 := bp0_8.2 4 _ rfl
  have q22 := bp0_8.2 5 _ rfl
  have q23 := bp0_8.2 6 _ rfl
  have q24 := bp0_8.2 7 _ rfl
  go_wp2_with fail
  refine (to_Station a0 _ _ w.heap.size m0_8 (by omega) hn0).mono ?_
  rintro e w9 ⟨x9, rfl, ox9, hb9⟩
  have z9 : w7.heap.size ≤ w9.heap.size := hb9.size
  clear q17 q18 q19 q20 q21 q22 q23 q24
  have m0_10 := m0_8.below (hb9.mono (B' := w.heap.size) (by omega))
  have bp0_10 := bp0_8.below hb9
  have C_10 := C_8.trans (hb9.mono (B' := w.heap.size) (by omega))
  clear m0_8 bp0_8 C_8
  clear hb9
  have kx9_o := ox9.mono (L' := w7.heap.size) (B' := w9.heap.size) (by simp <;> omega) (Nat.le_refl _)
  clear ox9
  obtain rfl := kx9_o.form
  go_wp2_with fail
  refine (HI.out _ _ (w9).heap.size  (kx9_o.lst.mono (by omega)) (Nat.le_refl _) hn0 hw0 hi1 ).mono ?_
  rintro e w11 ⟨rfl, hb11⟩
  have z11 : w9.heap.size ≤ w11.heap.size := hb11.size
  have m0_12 := m0_10.below (hb11.mono (B' := w.heap.size) (by omega))
  have kx9_12 := kx9_o.below (hb11.mono (B' := w9.heap.size) (by omega))
  have bp0_12 := bp0_10.below hb11
  have C_12 := C_10.trans (hb11.mono (B' := w.heap.size) (by omega))
  clear m0_10 kx9_o bp0_10 C_10
  clear hb11
  clear kx9_12
  go_wp2
  go_ret
  exact ⟨rfl, C_12⟩

set_option maxRecDepth 100000 in
theorem walk_all {H : Type} {enc : TypeId × Value → H} {base : Nat} {w : World} (v0 : Value) {d0 : DataW H} {ps0 : List MemPlace} (hval0 : Value.okWide Try.prog w .any base 57 v0) (hd0 : DataW.Trod enc Try.prog w 0 (fun _ => true) true 57 v0 d0 ps0) (a1 : Int) (wf1 : (Lit.int .i64 a1).wf = true) :
    Calls Try.prog 13 #[v0, .int .i64 a1] w fun e w' => e = .returned (.bool true) ∧ Below w.heap.size w w' := by
  obtain ⟨a0, h0, hw0⟩ := open_Station hval0 hd0
  have hi1 : I64 a1 := bounds_i64 wf1
  by_cases g0 : (sz1Station a0 : Int) ≤ 1048576
  case neg => exact walk_big0 a0 v0 a1 hi1 w h0 hw0 g0
  exact walk_main a0 v0 a1 hi1 w h0 hw0 g0

set_option maxRecDepth 100000 in
theorem contract (H : Type) (enc : TypeId × Value → H) (W : World) (base : Nat) (args : Array Value) (ds gs : List (DataW H)) (before : List MemPlace)
    (hval : ∀ (j : Nat) t v, Try.f13.params[j]? = some t → args[j]? = some v → Value.okWide Try.prog W .any base t v)
    (hW : DataW.Whole enc Try.prog Try.f13.params.toList Rows.fnExactSpeedOfSpec.vars false W args.toList ds gs before) :
    Calls Try.prog 13 args W fun e W' => ∃ v, e = .returned v ∧ Rows.fnExactSpeedOfSpec.post enc Try.prog Try.f13 false true false false W args v W' := by
  have hW' := hW
  obtain ⟨p, q, hA0, hV, rfl, hfz, hnd⟩ := hW
  have hA : DataW.TrodAll enc Try.prog W 0 (fun _ => true) true Try.f13.params.toList args.toList ds p := hA0
  rw [Try.params13] at hA hval
  obtain ⟨v0, vs0, d0, ds0, p0, q0, hargs, rfl, rfl, h0, r0⟩ := trodAll_cons hA
  obtain ⟨v1, vs1, d1, ds1, p1, q1, rfl, rfl, rfl, h1, r1⟩ := trodAll_cons r0
  obtain ⟨rfl, rfl, rfl⟩ := trodAll_nil r1
  obtain rfl : args = #[v0, v1] := by cases args; simp_all
  obtain ⟨n1, rfl, rfl, rfl, w1⟩ := open_int Try.underlying3 (hval 1 3 v1 rfl rfl) h1
  refine lawPost rfl rfl Try.underlying4 (by kernel_rfl) (by kernel_rfl) hW' (fun hg => by subst hg; exact ⟨rfl, rfl, rfl⟩) ?_
  exact walk_all v0 (hval 0 57 v0 rfl rfl) h0 n1 w1

set_option maxRecDepth 100000 in
theorem lifted (os : Os) (started : os.Started) (H : Type) (enc : TypeId × Value → H) :
    ReturnsInHanded {} Try.checked os 13 .any (Rows.fnExactSpeedOfSpec.pre6 enc Try.prog Try.f13 Rows.fnExactSpeedOfRow.domain false) (Rows.fnExactSpeedOfSpec.post enc Try.prog Try.f13 false true false false) := by
  refine returnsInHanded_of_change (C := Try.checked) (s := Rows.fnExactSpeedOfSpec) own started (by kernel_rfl) Try.func13
    (ChangeSpec.witness6 (enc := enc) (C := Try.checked) (s := Rows.fnExactSpeedOfSpec) false ⟨#[], #[.agg #[.int .i64 0, .string .empty, .int .i64 0, .int .i64 0, .int .i64 0, .int .i64 0, .int .i64 0, .int .i64 0], .int .i64 0], []⟩ 8 (by kernel_rfl) (by kernel_rfl) (by kernel_rfl) (by kernel_rfl)) ?_
  intro W base args ds gs before hval hW _ _
  exact contract H enc W base args ds gs before hval hW

theorem said : Rows.FnExactSpeedOfSaid :=
  OpenClaim.holds_of_wide 13 Try.f13 rfl rfl rfl rfl rfl rfl rfl ⟨rfl, rfl, rfl, rfl, rfl⟩ rfl rfl rfl rfl rfl (by kernel_rfl) Try.func13 (by kernel_rfl)
    (of_decide_eq_true (by kernel_rfl)) (by unfold Func.isWrapper; first | (rw [if_pos (by decide +kernel)]; kernel_rfl) | (rw [if_neg (by decide +kernel)]; exact ⟨rfl, rfl⟩))
    (fun os started H enc _ => lifted os started H enc)

end Go.Proofs.Ytklilfbokpljkab.fnExactSpeedOf
