/- FnExactLargestSample: for every trace the law answers true; no condition. -/
import Derived.Test.YtklilfbokpljkacLrg
namespace Go.Proofs.Ytklilfbokpljkac.fnExactLargestSample
open Go.ChangeShapes Go.WideShapes Go.ChangeAt Go.RowKit Go.ChangeMaps
set_option linter.unusedSimpArgs false
set_option linter.unusedVariables false

theorem own : ownKnob Try.prog.godebug = none := by kernel_rfl


set_option maxRecDepth 100000 in
set_option maxHeartbeats 1000000 in
theorem walk_big0 (a0 : Tr) (v0 : Value) (w : World) (h0 : TrL w w.heap.size v0 a0) (hw0 : I64 a0.st ∧ I64 a0.start ∧ ∀ y ∈ a0.xs, I64 y)  (g0 : ¬ (a0.xs.length : Int) ≤ 1048576):
    Calls Try.prog 3 #[v0] w fun e w' => e = .returned (.bool true) ∧ Below w.heap.size w w' := by
  obtain ⟨ao0, cap0, rfl⟩ := h0.form
  have N1 := (Below.refl (w).heap.size w).alloc (Nat.le_refl _) (.cells #[.int .i64 a0.st, .int .i64 a0.start, .slice ao0 a0.xs.length cap0] 24)
  have bx1 : Bx (w.alloc (.cells #[.int .i64 a0.st, .int .i64 a0.start, .slice ao0 a0.xs.length cap0] 24)) (w.heap.size) [.int .i64 a0.st, .int .i64 a0.start, .slice ao0 a0.xs.length cap0] := Bx.new w [.int .i64 a0.st, .int .i64 a0.start, .slice ao0 a0.xs.length cap0] 24
  have m0_2 := h0.below (N1.mono (B' := w.heap.size) (by omega))
  have C_2 := N1
  clear h0
  clear N1
  go_enter Try.func3, Try.ntmps3
  have q1 := bx1.2 0 _ rfl
  have q2 := bx1.2 1 _ rfl
  have q3 := bx1.2 2 _ rfl
  go_wp2_with fail
  refine (szgt_Trace a0 _ (1048576) _ w.heap.size m0_2 (by simp <;> omega) (by omega) (by omega) (by omega)).mono ?_
  rintro e w3 ⟨rfl, hb3⟩
  have z3 : w.heap.size + 1 ≤ w3.heap.size := by have := hb3.size; simpa using this
  clear q1 q2 q3
  have m0_4 := m0_2.below (hb3.mono (B' := w.heap.size) (by simp <;> omega))
  have bp0_4 := bx1.below hb3
  have C_4 := C_2.trans (hb3.mono (B' := w.heap.size) (by simp <;> omega))
  clear m0_2 bx1 C_2
  clear hb3
  go_wp2
  go_ret
  exact ⟨rfl, C_4⟩

set_option maxRecDepth 100000 in
set_option maxHeartbeats 1000000 in
theorem walk_main (a0 : Tr) (v0 : Value) (w : World) (h0 : TrL w w.heap.size v0 a0) (hw0 : I64 a0.st ∧ I64 a0.start ∧ ∀ y ∈ a0.xs, I64 y) (g0 : (a0.xs.length : Int) ≤ 1048576):
    Calls Try.prog 3 #[v0] w fun e w' => e = .returned (.bool true) ∧ Below w.heap.size w w' := by
  have hn0 : a0.xs.length ≤ 1048576 := by omega
  have hS := fun v0 w B => specLrg a0 v0 w B
  have hI := fun v0 w B  => implLrg a0 v0 w B 
  generalize tickL a0 = r0 at *
  generalize valL a0 = r1 at *
  generalize okN a0 = r2 at *
  have HS := Lib.hid hS
  have HI := Lib.hid hI
  clear hS hI
  obtain ⟨ao0, cap0, rfl⟩ := h0.form
  have N1 := (Below.refl (w).heap.size w).alloc (Nat.le_refl _) (.cells #[.int .i64 a0.st, .int .i64 a0.start, .slice ao0 a0.xs.length cap0] 24)
  have bx1 : Bx (w.alloc (.cells #[.int .i64 a0.st, .int .i64 a0.start, .slice ao0 a0.xs.length cap0] 24)) (w.heap.size) [.int .i64 a0.st, .int .i64 a0.start, .slice ao0 a0.xs.length cap0] := Bx.new w [.int .i64 a0.st, .int .i64 a0.start, .slice ao0 a0.xs.length cap0] 24
  have m0_2 := h0.below (N1.mono (B' := w.heap.size) (by omega))
  have C_2 := N1
  clear h0
  clear N1
  have d0 : ¬ 1048576 - (a0.xs.length : Int) < 0 := by omega
  go_enter Try.func3, Try.ntmps3
  have q1 := bx1.2 0 _ rfl
  have q2 := bx1.2 1 _ rfl
  have q3 := bx1.2 2 _ rfl
  go_wp2_with fail
  refine (sz_Trace a0 _ (1048576) _ w.heap.size m0_2 (by simp <;> omega) (by omega) (by omega) (by omega)).mono ?_
  rintro e w3 ⟨rfl, hb3⟩
  have z3 : w.heap.size + 1 ≤ w3.heap.size := by have := hb3.size; simpa using this
  clear q1 q2 q3
  have m0_4 := m0_2.below (hb3.mono (B' := w.heap.size) (by simp <;> omega))
  have bp0_4 := bx1.below hb3
  have C_4 := C_2.trans (hb3.mono (B' := w.heap.size) (by simp <;> omega))
  clear m0_2 bx1 C_2
  clear hb3
  have q4 := bp0_4.2 0 _ rfl
  have q5 := bp0_4.2 1 _ rfl
  have q6 := bp0_4.2 2 _ rfl
  go_wp2_with fail
  refine (to_Trace a0 _ _ w.heap.size m0_4 (by omega) hn0).mono ?_
  rintro e w5 ⟨x5, rfl, ox5, hb5⟩
  have z5 : w3.heap.size ≤ w5.heap.size := hb5.size
  clear q4 q5 q6
  have m0_6 := m0_4.below (hb5.mono (B' := w.heap.size) (by omega))
  have bp0_6 := bp0_4.below hb5
  have C_6 := C_4.trans (hb5.mono (B' := w.heap.size) (by omega))
  clear m0_4 bp0_4 C_4
  clear hb5
  have kx5_o := ox5.mono (L' := w3.heap.size) (B' := w5.heap.size) (by simp <;> omega) (Nat.le_refl _)
  clear ox5
  obtain ⟨aox5, capx5, rfl⟩ := kx5_o.form
  go_wp2_with fail
  refine (HS.out _ _ (w5).heap.size  (kx5_o.lst.mono (by omega)) (Nat.le_refl _) hn0   ).mono ?_
  rintro e w7 ⟨rfl, hb7⟩
  have z7 : w5.heap.size ≤ w7.heap.size := hb7.size
  have m0_8 := m0_6.below (hb7.mono (B' := w.heap.size) (by omega))
  have kx5_8 := kx5_o.below (hb7.mono (B' := w5.heap.size) (by omega))
  have bp0_8 := bp0_6.below hb7
  have C_8 := C_6.trans (hb7.mono (B' := w.heap.size) (by omega))
  clear m0_6 kx5_o bp0_6 C_6
  clear hb7
  clear kx5_8
  have q7 := bp0_8.2 0 _ rfl
  have q8 := bp0_8.2 1 _ rfl
  have q9 := bp0_8.2 2 _ rfl
  go_wp2_with fail
  refine (to_Trace a0 _ _ w.heap.size m0_8 (by omega) hn0).mono ?_
  rintro e w9 ⟨X0, rfl, oX0, hb9⟩
  have z9 : w7.heap.size ≤ w9.heap.size := hb9.size
  clear q7 q8 q9
  have m0_10 := m0_8.below (hb9.mono (B' := w.heap.size) (by omega))
  have bp0_10 := bp0_8.below hb9
  have C_10 := C_8.trans (hb9.mono (B' := w.heap.size) (by omega))
  clear m0_8 bp0_8 C_8
  clear hb9
  have kX0_o := oX0.mono (L' := w7.heap.size) (B' := w9.heap.size) (by simp <;> omega) (Nat.le_refl _)
  clear oX0
  obtain ⟨aoX0, capX0, rfl⟩ := kX0_o.form
  have N11 := (Below.refl (w9).heap.size w9).alloc (Nat.le_refl _) (.cells #[.int .i64 a0.st, .int .i64 a0.start, .slice aoX0 a0.xs.length capX0] 28)
  have bx11 : Bx (w9.alloc (.cells #[.int .i64 a0.st, .int .i64 a0.start, .slice aoX0 a0.xs.length capX0] 28)) (w9.heap.size) [.int .i64 a0.st, .int .i64 a0.start, .slice aoX0 a0.xs.length capX0] := Bx.new w9 [.int .i64 a0.st, .int .i64 a0.start, .slice aoX0 a0.xs.length capX0] 28
  have m0_12 := m0_10.below (N11.mono (B' := w.heap.size) (by omega))
  have kX0_12 := kX0_o.below (N11.mono (B' := w9.heap.size) (by omega))
  have bp0_12 := bp0_10.below N11
  have C_12 := C_10.trans (N11.mono (B' := w.heap.size) (by omega))
  clear m0_10 kX0_o bp0_10 C_10
  clear N11
  have q10 := bx11.2 0 _ rfl
  have q11 := bx11.2 1 _ rfl
  have q12 := bx11.2 2 _ rfl
  go_wp2_with fail
  refine (HI.out _ _ ((w9.alloc (.cells #[.int .i64 a0.st, .int .i64 a0.start, .slice aoX0 a0.xs.length capX0] 28))).heap.size  (kX0_12.lst.mono (by simp <;> omega)) (Nat.le_refl _) hn0   ).mono ?_
  rintro e w13 ⟨rfl, hb13⟩
  have z13 : w9.heap.size + 1 ≤ w13.heap.size := by have := hb13.size; simpa using this
  clear q10 q11 q12
  have m0_14 := m0_12.below (hb13.mono (B' := w.heap.size) (by simp <;> omega))
  have kX0_14 := kX0_12.below (hb13.mono (B' := w9.heap.size) (by simp <;> omega))
  have bp0_14 := bp0_12.below hb13
  have bbxX0_14 := bx11.below hb13
  have C_14 := C_12.trans (hb13.mono (B' := w.heap.size) (by simp <;> omega))
  clear m0_12 kX0_12 bp0_12 bx11 C_12
  clear hb13
  have q13 := bp0_14.2 0 _ rfl
  have q14 := bp0_14.2 1 _ rfl
  have q15 := bp0_14.2 2 _ rfl
  have q16 := bbxX0_14.2 0 _ rfl
  have q17 := bbxX0_14.2 1 _ rfl
  have q18 := bbxX0_14.2 2 _ rfl
  go_wp2
  go_region_held3 (fun w' => Below w13.heap.size w13 w' ∧ w'.cell? ⟨w.heap.size, 0, none⟩ = some (.int .i64 a0.st) ∧ w'.cell? ⟨w.heap.size, 1, none⟩ = some (.int .i64 a0.start) ∧ w'.cell? ⟨w.heap.size, 2, none⟩ = some (.slice ao0 a0.xs.length cap0) ∧ w'.cell? ⟨w9.heap.size, 0, none⟩ = some (.int .i64 a0.st) ∧ w'.cell? ⟨w9.heap.size, 1, none⟩ = some (.int .i64 a0.start) ∧ w'.cell? ⟨w9.heap.size, 2, none⟩ = some (.slice aoX0 a0.xs.length capX0))
    (first
      | exact ⟨(Below.refl _ _).drew, q13, q14, q15, q16, q17, q18⟩
      | (have q := (Below.refl w13.heap.size w13).drew.trans hb7; exact ⟨q, (bp0_14.below q).2 0 _ rfl, (bp0_14.below q).2 1 _ rfl, (bp0_14.below q).2 2 _ rfl, (bbxX0_14.below q).2 0 _ rfl, (bbxX0_14.below q).2 1 _ rfl, (bbxX0_14.below q).2 2 _ rfl⟩)
      | (have q := ((Below.refl w13.heap.size w13).drew.trans hb7).trans (hb8.mono hb7.size); exact ⟨q, (bp0_14.below q).2 0 _ rfl, (bp0_14.below q).2 1 _ rfl, (bp0_14.below q).2 2 _ rfl, (bbxX0_14.below q).2 0 _ rfl, (bbxX0_14.below q).2 1 _ rfl, (bbxX0_14.below q).2 2 _ rfl⟩))
    (first
      | (go_at_call 14; refine (to_Trace a0 _ _ w.heap.size (m0_14.below (Below.refl _ _).drew) (by show w.heap.size ≤ w13.heap.size; omega) hn0).mono ?_; rintro e wA15 ⟨x7, rfl, o7, hb7⟩)
      | (go_at_call 16; refine (eq_Trace a0 _ _ _ wA15.heap.size ((kX0_14.lst.below (((Below.refl w13.heap.size w13).drew.trans hb7).mono (B' := w9.heap.size) (by omega))).mono (Nat.le_trans (show w9.heap.size ≤ w13.heap.size by omega) hb7.size)) o7.lst (Nat.le_refl _)).mono ?_; rintro e wB15 ⟨rfl, hb8⟩))
  have hb15 : Below w13.heap.size w13 wB15 := ((Below.refl w13.heap.size w13).drew.trans hb7).trans (hb8.mono hb7.size)
  clear o7 hb7 hb8 q13 q14 q15 q16 q17 q18
  have z15 : w13.heap.size ≤ wB15.heap.size := hb15.size
  have m0_16 := m0_14.below (hb15.mono (B' := w.heap.size) (by omega))
  have kX0_16 := kX0_14.below (hb15.mono (B' := w9.heap.size) (by omega))
  have bp0_16 := bp0_14.below hb15
  have bbxX0_16 := bbxX0_14.below hb15
  have C_16 := C_14.trans (hb15.mono (B' := w.heap.size) (by omega))
  clear m0_14 kX0_14 bp0_14 bbxX0_14 C_14
  clear hb15
  go_wp2
  go_ret
  exact ⟨rfl, C_16⟩

set_option maxRecDepth 100000 in
theorem walk_all {H : Type} {enc : TypeId × Value → H} {base : Nat} {w : World} (v0 : Value) {d0 : DataW H} {ps0 : List MemPlace} (hval0 : Value.okWide Try.prog w .any base 24 v0) (hd0 : DataW.Trod enc Try.prog w 0 (fun _ => true) true 24 v0 d0 ps0) :
    Calls Try.prog 3 #[v0] w fun e w' => e = .returned (.bool true) ∧ Below w.heap.size w w' := by
  obtain ⟨a0, h0, hw0⟩ := open_Trace hval0 hd0
  by_cases g0 : (a0.xs.length : Int) ≤ 1048576
  case neg => exact walk_big0 a0 v0 w h0 hw0 g0
  exact walk_main a0 v0 w h0 hw0 g0

set_option maxRecDepth 100000 in
theorem contract (H : Type) (enc : TypeId × Value → H) (W : World) (base : Nat) (args : Array Value) (ds gs : List (DataW H)) (before : List MemPlace)
    (hval : ∀ (j : Nat) t v, Try.f3.params[j]? = some t → args[j]? = some v → Value.okWide Try.prog W .any base t v)
    (hW : DataW.Whole enc Try.prog Try.f3.params.toList Rows.fnExactLargestSampleSpec.vars false W args.toList ds gs before) :
    Calls Try.prog 3 args W fun e W' => ∃ v, e = .returned v ∧ Rows.fnExactLargestSampleSpec.post enc Try.prog Try.f3 false true false false W args v W' := by
  have hW' := hW
  obtain ⟨p, q, hA0, hV, rfl, hfz, hnd⟩ := hW
  have hA : DataW.TrodAll enc Try.prog W 0 (fun _ => true) true Try.f3.params.toList args.toList ds p := hA0
  rw [Try.params3] at hA hval
  obtain ⟨v0, vs0, d0, ds0, p0, q0, hargs, rfl, rfl, h0, r0⟩ := trodAll_cons hA
  obtain ⟨rfl, rfl, rfl⟩ := trodAll_nil r0
  obtain rfl : args = #[v0] := by cases args; simp_all
  refine lawPost rfl rfl Try.underlying4 (by kernel_rfl) (by kernel_rfl) hW' (fun hg => by subst hg; exact ⟨rfl, rfl, rfl⟩) ?_
  exact walk_all v0 (hval 0 24 v0 rfl rfl) h0

set_option maxRecDepth 100000 in
theorem lifted (os : Os) (started : os.Started) (H : Type) (enc : TypeId × Value → H) :
    ReturnsInHanded {} Try.checked os 3 .any (Rows.fnExactLargestSampleSpec.pre6 enc Try.prog Try.f3 Rows.fnExactLargestSampleRow.domain false) (Rows.fnExactLargestSampleSpec.post enc Try.prog Try.f3 false true false false) := by
  refine returnsInHanded_of_change (C := Try.checked) (s := Rows.fnExactLargestSampleSpec) own started (by kernel_rfl) Try.func3
    (ChangeSpec.witness6 (enc := enc) (C := Try.checked) (s := Rows.fnExactLargestSampleSpec) false ⟨#[], #[.agg #[.int .i64 0, .int .i64 0, .slice none 0 0]], []⟩ 8 (by kernel_rfl) (by kernel_rfl) (by kernel_rfl) (by kernel_rfl)) ?_
  intro W base args ds gs before hval hW _ _
  exact contract H enc W base args ds gs before hval hW

theorem said : Rows.FnExactLargestSampleSaid :=
  OpenClaim.holds_of_wide 3 Try.f3 rfl rfl rfl rfl rfl rfl rfl ⟨rfl, rfl, rfl, rfl, rfl⟩ rfl rfl rfl rfl rfl (by kernel_rfl) Try.func3 (by kernel_rfl)
    (of_decide_eq_true (by kernel_rfl)) (by unfold Func.isWrapper; first | (rw [if_pos (by decide +kernel)]; kernel_rfl) | (rw [if_neg (by decide +kernel)]; exact ⟨rfl, rfl⟩))
    (fun os started H enc _ => lifted os started H enc)

end Go.Proofs.Ytklilfbokpljkac.fnExactLargestSample
