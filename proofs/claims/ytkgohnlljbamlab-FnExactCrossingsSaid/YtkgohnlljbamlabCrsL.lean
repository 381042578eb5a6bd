/- FnExactCrossings: for every trace the law answers true; no condition. -/
import Derived.Test.YtkgohnlljbamlabCrs
namespace Go.Proofs.Ytkgohnlljbamlab.fnExactCrossings
open Go.ChangeShapes Go.WideShapes Go.ChangeAt Go.RowKit Go.ChangeMaps
set_option linter.unusedSimpArgs false
set_option linter.unusedVariables false

theorem own : ownKnob Try.prog.godebug = none := by kernel_rfl


set_option maxRecDepth 100000 in
set_option maxHeartbeats 1000000 in
theorem walk_big0 (a0 : Tr) (v0 : Value) (w : World) (h0 : TrL w w.heap.size v0 a0) (hw0 : I64 a0.st ∧ I64 a0.start ∧ ∀ y ∈ a0.xs, I64 y)  (g0 : ¬ (a0.xs.length : Int) ≤ 1048576):
    Calls Try.prog 9 #[v0] w fun e w' => e = .returned (.bool true) ∧ Below w.heap.size w w' := by
  obtain ⟨ao0, cap0, rfl⟩ := h0.form
  have N1 := (Below.refl (w).heap.size w).alloc (Nat.le_refl _) (.cells #[.int .i64 a0.st, .int .i64 a0.start, .slice ao0 a0.xs.length cap0] 24)
  have bx1 : Bx (w.alloc (.cells #[.int .i64 a0.st, .int .i64 a0.start, .slice ao0 a0.xs.length cap0] 24)) (w.heap.size) [.int .i64 a0.st, .int .i64 a0.start, .slice ao0 a0.xs.length cap0] := Bx.new w [.int .i64 a0.st, .int .i64 a0.start, .slice ao0 a0.xs.length cap0] 24
  have m0_2 := h0.below (N1.mono (B' := w.heap.size) (by omega))
  have C_2 := N1
  clear h0
  clear N1
  go_enter Try.func9, Try.ntmps9
  have q1 := bx1.2 0 _ rfl
  have q2 := bx1.2 1 _ rfl
  have q3 := bx1.2 2 _ rfl
  go_wp2_with fail
  refine (szgt_Trace a0 _ (1048576) _ w.heap.size m0_2 (by simp <;> omega) (by omega) (by omega) (by omega)).mono ?_
  rintro e w3 ⟨rfl, hb3⟩
  have z3 : w.heap.size + 1 ≤ w3.heap.size := by have := hb3.size; simpa using this
  clear q1 q2 q3
  have m0_4 := m0_2.below (hb3.mono (B' := w.heap.size) (by simp <;> omega))
  have bp0_4 := bx1.below hb3
  have C_4 := C_2.trans (hb3.mono (B' := w.heap.size) (by simp <;> omega))
  clear m0_2 bx1 C_2
  clear hb3
  go_wp2
  go_ret
  exact ⟨rfl, C_4⟩

set_option maxRecDepth 100000 in
set_option maxHeartbeats 1000000 in
theorem walk_main (a0 : Tr) (v0 : Value) (w : World) (h0 : TrL w w.heap.size v0 a0) (hw0 : I64 a0.st ∧ I64 a0.start ∧ ∀ y ∈ a0.xs, I64 y) (g0 : (a0.xs.length : Int) ≤ 1048576):
    Calls Try.prog 9 #[v0] w fun e w' => e = .returned (.bool true) ∧ Below w.heap.size w w' := by
  have hn0 : a0.xs.length ≤ 1048576 := by omega
  have hS := fun v0 w B => specCrs a0 v0 w B
  have hI := fun v0 w B  => implCrs a0 v0 w B 
  have hl0 : (resC a0).length ≤ 1048576 := resC_len a0 hn0
  generalize resC a0 = r0 at *
  generalize goodT a0 = r1 at *
  have HS := Lib.hid hS
  have HI := Lib.hid hI
  clear hS hI
  obtain ⟨ao0, cap0, rfl⟩ := h0.form
  have N1 := (Below.refl (w).heap.size w).alloc (Nat.le_refl _) (.cells #[.int .i64 a0.st, .int .i64 a0.start, .slice ao0 a0.xs.length cap0] 24)
  have bx1 : Bx (w.alloc (.cells #[.int .i64 a0.st, .int .i64 a0.start, .slice ao0 a0.xs.length cap0] 24)) (w.heap.size) [.int .i64 a0.st, .int .i64 a0.start, .slice ao0 a0.xs.length cap0] := Bx.new w [.int .i64 a0.st, .int .i64 a0.start, .slice ao0 a0.xs.length cap0] 24
  have m0_2 := h0.below (N1.mono (B' := w.heap.size) (by omega))
  have C_2 := N1
  clear h0
  clear N1
  have d0 : ¬ 1048576 - (a0.xs.length : Int) < 0 := by omega
  go_enter Try.func9, Try.ntmps9
  have q1 := bx1.2 0 _ rfl
  have q2 := bx1.2 1 _ rfl
  have q3 := bx1.2 2 _ rfl
  go_wp2_with fail
  refine (sz_Trace a0 _ (1048576) _ w.heap.size m0_2 (by simp <;> omega) (by omega) (by omega) (by omega)).mono ?_
  rintro e w3 ⟨rfl, hb3⟩
  have z3 : w.heap.size + 1 ≤ w3.heap.size := by have := hb3.size; simpa using this
  clear q1 q2 q3
  have m0_4 := m0_2.below (hb3.mono (B' := w.heap.size) (by simp <;> omega))
  have bp0_4 := bx1.below hb3
  have C_4 := C_2.trans (hb3.mono (B' := w.heap.size) (by simp <;> omega))
  clear m0_2 bx1 C_2
  clear hb3
  have q4 := bp0_4.2 0 _ rfl
  have q5 := bp0_4.2 1 _ rfl
  have q6 := bp0_4.2 2 _ rfl
  go_wp2_with fail
  refine (to_Trace a0 _ _ w.heap.size m0_4 (by omega) hn0).mono ?_
  rintro e w5 ⟨x5, rfl, ox5, hb5⟩
  have z5 : w3.heap.size ≤ w5.heap.size := hb5.size
  clear q4 q5 q6
  have m0_6 := m0_4.below (hb5.mono (B' := w.heap.size) (by omega))
  have bp0_6 := bp0_4.below hb5
  have C_6 := C_4.trans (hb5.mono (B' := w.heap.size) (by omega))
  clear m0_4 bp0_4 C_4
  clear hb5
  have kx5_o := ox5.mono (L' := w3.heap.size) (B' := w5.heap.size) (by simp <;> omega) (Nat.le_refl _)
  clear ox5
  obtain ⟨aox5, capx5, rfl⟩ := kx5_o.form
  go_wp2_with fail
  refine (HS.out _ _ (w5).heap.size  (kx5_o.lst.mono (by omega)) (Nat.le_refl _) hn0   ).mono ?_
  rintro e w7 ⟨y0_6, rfl, oy0_6, hb7⟩
  have z7 : w5.heap.size ≤ w7.heap.size := hb7.size
  have m0_8 := m0_6.below (hb7.mono (B' := w.heap.size) (by omega))
  have kx5_8 := kx5_o.below (hb7.mono (B' := w5.heap.size) (by omega))
  have bp0_8 := bp0_6.below hb7
  have C_8 := C_6.trans (hb7.mono (B' := w.heap.size) (by omega))
  clear m0_6 kx5_o bp0_6 C_6
  clear hb7
  have ky0_6_o := oy0_6.mono (L' := w5.heap.size) (B' := w7.heap.size) (by simp <;> omega) (Nat.le_refl _)
  clear oy0_6
  obtain ⟨aoy0_6, capy0_6, rfl⟩ := ky0_6_o.form
  clear kx5_8
  have q7 := bp0_8.2 0 _ rfl
  have q8 := bp0_8.2 1 _ rfl
  have q9 := bp0_8.2 2 _ rfl
  go_wp2_with fail
  refine (to_Trace a0 _ _ w.heap.size m0_8 (by omega) hn0).mono ?_
  rintro e w9 ⟨X0, rfl, oX0, hb9⟩
  have z9 : w7.heap.size ≤ w9.heap.size := hb9.size
  clear q7 q8 q9
  have m0_10 := m0_8.below (hb9.mono (B' := w.heap.size) (by omega))
  have ky0_6_10 := ky0_6_o.below (hb9.mono (B' := w7.heap.size) (by omega))
  have bp0_10 := bp0_8.below hb9
  have C_10 := C_8.trans (hb9.mono (B' := w.heap.size) (by omega))
  clear m0_8 ky0_6_o bp0_8 C_8
  clear hb9
  have kX0_o := oX0.mono (L' := w7.heap.size) (B' := w9.heap.size) (by simp <;> omega) (Nat.le_refl _)
  clear oX0
  obtain ⟨aoX0, capX0, rfl⟩ := kX0_o.form
  have N11 := (Below.refl (w9).heap.size w9).alloc (Nat.le_refl _) (.cells #[.int .i64 a0.st, .int .i64 a0.start, .slice aoX0 a0.xs.length capX0] 28)
  have bx11 : Bx (w9.alloc (.cells #[.int .i64 a0.st, .int .i64 a0.start, .slice aoX0 a0.xs.length capX0] 28)) (w9.heap.size) [.int .i64 a0.st, .int .i64 a0.start, .slice aoX0 a0.xs.length capX0] := Bx.new w9 [.int .i64 a0.st, .int .i64 a0.start, .slice aoX0 a0.xs.length capX0] 28
  have m0_12 := m0_10.below (N11.mono (B' := w.heap.size) (by omega))
  have ky0_6_12 := ky0_6_10.below (N11.mono (B' := w7.heap.size) (by omega))
  have kX0_12 := kX0_o.below (N11.mono (B' := w9.heap.size) (by omega))
  have bp0_12 := bp0_10.below N11
  have C_12 := C_10.trans (N11.mono (B' := w.heap.size) (by omega))
  clear m0_10 ky0_6_10 kX0_o bp0_10 C_10
  clear N11
  have q10 := bx11.2 0 _ rfl
  have q11 := bx11.2 1 _ rfl
  have q12 := bx11.2 2 _ rfl
  go_wp2_with fail
  refine (HI.out _ _ ((w9.alloc (.cells #[.int .i64 a0.st, .int .i64 a0.start, .slice aoX0 a0.xs.length capX0] 28))).heap.size  (kX0_12.lst.mono (by simp <;> omega)) (Nat.le_refl _) hn0   ).mono ?_
  rintro e w13 ⟨y0_12, rfl, oy0_12, hb13⟩
  have z13 : w9.heap.size + 1 ≤ w13.heap.size := by have := hb13.size; simpa using this
  clear q10 q11 q12
  have m0_14 := m0_12.below (hb13.mono (B' := w.heap.size) (by simp <;> omega))
  have ky0_6_14 := ky0_6_12.below (hb13.mono (B' := w7.heap.size) (by simp <;> omega))
  have kX0_14 := kX0_12.below (hb13.mono (B' := w9.heap.size) (by simp <;> omega))
  have bp0_14 := bp0_12.below hb13
  have bbxX0_14 := bx11.below hb13
  have C_14 := C_12.trans (hb13.mono (B' := w.heap.size) (by simp <;> omega))
  clear m0_12 ky0_6_12 kX0_12 bp0_12 bx11 C_12
  clear hb13
  have ky0_12_o := oy0_12.mono (L' := w9.heap.size + 1) (B' := w13.heap.size) (by simp <;> omega) (Nat.le_refl _)
  clear oy0_12
  obtain ⟨aoy0_12, capy0_12, rfl⟩ := ky0_12_o.form
  go_wp2_with fail
  refine (eq_IntS r0 _ _ _ (w13).heap.size (ky0_12_o.lst.mono (by omega)) (ky0_6_14.lst.mono (by omega)) (Nat.le_refl _)).mono ?_
  rintro e w15 ⟨rfl, hb15⟩
  have z15 : w13.heap.size ≤ w15.heap.size := hb15.size
  have m0_16 := m0_14.below (hb15.mono (B' := w.heap.size) (by omega))
  have ky0_6_16 := ky0_6_14.below (hb15.mono (B' := w7.heap.size) (by omega))
  have kX0_16 := kX0_14.below (hb15.mono (B' := w9.heap.size) (by omega))
  have ky0_12_16 := ky0_12_o.below (hb15.mono (B' := w13.heap.size) (by omega))
  have bp0_16 := bp0_14.below hb15
  have bbxX0_16 := bbxX0_14.below hb15
  have C_16 := C_14.trans (hb15.mono (B' := w.heap.size) (by omega))
  clear m0_14 ky0_6_14 kX0_14 ky0_12_o bp0_14 bbxX0_14 C_14
  clear hb15
  have q13 := bp0_16.2 0 _ rfl
  have q14 := bp0_16.2 1 _ rfl
  have q15 := bp0_16.2 2 _ rfl
  have q16 := bbxX0_16.2 0 _ rfl
  have q17 := bbxX0_16.2 1 _ rfl
  have q18 := bbxX0_16.2 2 _ rfl
  go_wp2
  go_region_held3 (fun w' => Below w15.heap.size w15 w' ∧ w'.cell? ⟨w.heap.size, 0, none⟩ = some (.int .i64 a0.st) ∧ w'.cell? ⟨w.heap.size, 1, none⟩ = some (.int .i64 a0.start) ∧ w'.cell? ⟨w.heap.size, 2, none⟩ = some (.slice ao0 a0.xs.length cap0) ∧ w'.cell? ⟨w9.heap.size, 0, none⟩ = some (.int .i64 a0.st) ∧ w'.cell? ⟨w9.heap.size, 1, none⟩ = some (.int .i64 a0.start) ∧ w'.cell? ⟨w9.heap.size, 2, none⟩ = some (.slice aoX0 a0.xs.length capX0))
    (first
      | exact ⟨(Below.refl _ _).drew, q13, q14, q15, q16, q17, q18⟩
      | (have q := (Below.refl w15.heap.size w15).drew.trans hb7; exact ⟨q, (bp0_16.below q).2 0 _ rfl, (bp0_16.below q).2 1 _ rfl, (bp0_16.below q).2 2 _ rfl, (bbxX0_16.below q).2 0 _ rfl, (bbxX0_16.below q).2 1 _ rfl, (bbxX0_16.below q).2 2 _ rfl⟩)
      | (have q := ((Below.refl w15.heap.size w15).drew.trans hb7).trans (hb8.mono hb7.size); exact ⟨q, (bp0_16.below q).2 0 _ rfl, (bp0_16.below q).2 1 _ rfl, (bp0_16.below q).2 2 _ rfl, (bbxX0_16.below q).2 0 _ rfl, (bbxX0_16.below q).2 1 _ rfl, (bbxX0_16.below q).2 2 _ rfl⟩))
    (first
      | (go_at_call 14; refine (to_Trace a0 _ _ w.heap.size (m0_16.below (Below.refl _ _).drew) (by show w.heap.size ≤ w15.heap.size; omega) hn0).mono ?_; rintro e wA17 ⟨x7, rfl, o7, hb7⟩)
      | (go_at_call 16; refine (eq_Trace a0 _ _ _ wA17.heap.size ((kX0_16.lst.below (((Below.refl w15.heap.size w15).drew.trans hb7).mono (B' := w9.heap.size) (by omega))).mono (Nat.le_trans (show w9.heap.size ≤ w15.heap.size by omega) hb7.size)) o7.lst (Nat.le_refl _)).mono ?_; rintro e wB17 ⟨rfl, hb8⟩))
  have hb17 : Below w15.heap.size w15 wB17 := ((Below.refl w15.heap.size w15).drew.trans hb7).trans (hb8.mono hb7.size)
  clear o7 hb7 hb8 q13 q14 q15 q16 q17 q18
  have z17 : w15.heap.size ≤ wB17.heap.size := hb17.size
  have m0_18 := m0_16.below (hb17.mono (B' := w.heap.size) (by omega))
  have ky0_6_18 := ky0_6_16.below (hb17.mono (B' := w7.heap.size) (by omega))
  have kX0_18 := kX0_16.below (hb17.mono (B' := w9.heap.size) (by omega))
  have ky0_12_18 := ky0_12_16.below (hb17.mono (B' := w13.heap.size) (by omega))
  have bp0_18 := bp0_16.below hb17
  have bbxX0_18 := bbxX0_16.below hb17
  have C_18 := C_16.trans (hb17.mono (B' := w.heap.size) (by omega))
  clear m0_16 ky0_6_16 kX0_16 ky0_12_16 bp0_16 bbxX0_16 C_16
  clear hb17
  have q19 := bbxX0_18.2 0 _ rfl
  have q20 := bbxX0_18.2 1 _ rfl
  have q21 := bbxX0_18.2 2 _ rfl
  go_wp2_with fail
  refine (mark_Trace a0 _ (1) _ (w7.heap.size) w9.heap.size kX0_18 (by omega) hn0 (by omega) (by omega)).mono ?_
  rintro e w19 ⟨rfl, mk, hu19⟩
  have z19 : wB17.heap.size ≤ w19.heap.size := hu19.size
  clear q19 q20 q21
  have m0_20 := m0_18.below (hu19.low (B := w.heap.size) (by omega) (by omega))
  have ky0_6_20 := ky0_6_18.below (hu19.low (B := w7.heap.size) (by omega) (by omega))
  have ky0_12_20 := ky0_12_18.high hu19 (by omega)
  have bp0_20 := bp0_18.upd hu19 (by omega)
  have bbxX0_20 := bbxX0_18.upd hu19 (by omega)
  have C_20 := C_18.trans (hu19.low (B := w.heap.size) (by omega) (by omega))
  clear m0_18 ky0_6_18 ky0_12_18 bp0_18 bbxX0_18 C_18
  clear hu19
  clear kX0_18
  have kX0_m19 := mk
  clear mk
  have dk20 : ¬ (1 + (a0.xs.length : Int)) < 0 := by omega
  go_wp2_with fail
  refine (eq_IntS r0 _ _ _ (w19).heap.size (ky0_12_20.lst.mono (by omega)) (ky0_6_20.lst.mono (by omega)) (Nat.le_refl _)).mono ?_
  rintro e w21 ⟨rfl, hb21⟩
  have z21 : w19.heap.size ≤ w21.heap.size := hb21.size
  have m0_22 := m0_20.below (hb21.mono (B' := w.heap.size) (by omega))
  have ky0_6_22 := ky0_6_20.below (hb21.mono (B' := w7.heap.size) (by omega))
  have kX0_22 := kX0_m19.below (hb21.mono (B' := w9.heap.size) (by omega))
  have ky0_12_22 := ky0_12_20.below (hb21.mono (B' := w13.heap.size) (by omega))
  have bp0_22 := bp0_20.below hb21
  have bbxX0_22 := bbxX0_20.below hb21
  have C_22 := C_20.trans (hb21.mono (B' := w.heap.size) (by omega))
  clear m0_20 ky0_6_20 kX0_m19 ky0_12_20 bp0_20 bbxX0_20 C_20
  clear hb21
  go_wp2_with fail
  refine (mark_IntS r0 _ (1) _ (w9.heap.size + 1) w13.heap.size ky0_12_22 (by omega) hl0 (by omega) (by omega)).mono ?_
  rintro e w23 ⟨rfl, mk, hu23⟩
  have z23 : w21.heap.size ≤ w23.heap.size := hu23.size
  have m0_24 := m0_22.below (hu23.low (B := w.heap.size) (by omega) (by omega))
  have ky0_6_24 := ky0_6_22.below (hu23.low (B := w7.heap.size) (by omega) (by omega))
  have kX0_24 := kX0_22.below (hu23.low (B := w9.heap.size) (by omega) (by omega))
  have bp0_24 := bp0_22.upd hu23 (by omega)
  have bbxX0_24 := bbxX0_22.upd hu23 (by omega)
  have C_24 := C_22.trans (hu23.low (B := w.heap.size) (by omega) (by omega))
  clear m0_22 ky0_6_22 kX0_22 bp0_22 bbxX0_22 C_22
  clear hu23
  clear ky0_12_22
  have ky0_12_m23 := mk
  clear mk
  go_wp2_with fail
  refine (held_IntS r0 _ (1) _ (w13.heap.size) ky0_12_m23.lst (by omega) hl0 (by omega) (by omega)).mono ?_
  rintro e w25 ⟨rfl, hb25⟩
  have z25 : w23.heap.size ≤ w25.heap.size := hb25.size
  have m0_26 := m0_24.below (hb25.mono (B' := w.heap.size) (by omega))
  have ky0_6_26 := ky0_6_24.below (hb25.mono (B' := w7.heap.size) (by omega))
  have kX0_26 := kX0_24.below (hb25.mono (B' := w9.heap.size) (by omega))
  have ky0_12_26 := ky0_12_m23.below (hb25.mono (B' := w13.heap.size) (by omega))
  have bp0_26 := bp0_24.below hb25
  have bbxX0_26 := bbxX0_24.below hb25
  have C_26 := C_24.trans (hb25.mono (B' := w.heap.size) (by omega))
  clear m0_24 ky0_6_24 kX0_24 ky0_12_m23 bp0_24 bbxX0_24 C_24
  clear hb25
  have dq26 : ¬ (1 + (r0.length : Int)) < 0 := by omega
  have q22 := bp0_26.2 0 _ rfl
  have q23 := bp0_26.2 1 _ rfl
  have q24 := bp0_26.2 2 _ rfl
  go_wp2_with fail
  refine (to_Trace a0 _ _ w.heap.size m0_26 (by omega) hn0).mono ?_
  rintro e w27 ⟨x27, rfl, ox27, hb27⟩
  have z27 : w25.heap.size ≤ w27.heap.size := hb27.size
  clear q22 q23 q24
  have m0_28 := m0_26.below (hb27.mono (B' := w.heap.size) (by omega))
  have ky0_6_28 := ky0_6_26.below (hb27.mono (B' := w7.heap.size) (by omega))
  have kX0_28 := kX0_26.below (hb27.mono (B' := w9.heap.size) (by omega))
  have ky0_12_28 := ky0_12_26.below (hb27.mono (B' := w13.heap.size) (by omega))
  have bp0_28 := bp0_26.below hb27
  have bbxX0_28 := bbxX0_26.below hb27
  have C_28 := C_26.trans (hb27.mono (B' := w.heap.size) (by omega))
  clear m0_26 ky0_6_26 kX0_26 ky0_12_26 bp0_26 bbxX0_26 C_26
  clear hb27
  have kx27_o := ox27.mono (L' := w25.heap.size) (B' := w27.heap.size) (by simp <;> omega) (Nat.le_refl _)
  clear ox27
  obtain ⟨aox27, capx27, rfl⟩ := kx27_o.form
  go_wp2_with fail
  refine (HI.out _ _ (w27).heap.size  (kx27_o.lst.mono (by omega)) (Nat.le_refl _) hn0   ).mono ?_
  rintro e w29 ⟨y0_28, rfl, oy0_28, hb29⟩
  have z29 : w27.heap.size ≤ w29.heap.size := hb29.size
  have m0_30 := m0_28.below (hb29.mono (B' := w.heap.size) (by omega))
  have ky0_6_30 := ky0_6_28.below (hb29.mono (B' := w7.heap.size) (by omega))
  have kX0_30 := kX0_28.below (hb29.mono (B' := w9.heap.size) (by omega))
  have ky0_12_30 := ky0_12_28.below (hb29.mono (B' := w13.heap.size) (by omega))
  have kx27_30 := kx27_o.below (hb29.mono (B' := w27.heap.size) (by omega))
  have bp0_30 := bp0_28.below hb29
  have bbxX0_30 := bbxX0_28.below hb29
  have C_30 := C_28.trans (hb29.mono (B' := w.heap.size) (by omega))
  clear m0_28 ky0_6_28 kX0_28 ky0_12_28 kx27_o bp0_28 bbxX0_28 C_28
  clear hb29
  have ky0_28_o := oy0_28.mono (L' := w27.heap.size) (B' := w29.heap.size) (by simp <;> omega) (Nat.le_refl _)
  clear oy0_28
  obtain ⟨aoy0_28, capy0_28, rfl⟩ := ky0_28_o.form
  clear kx27_30
  go_wp2_with fail
  refine (eq_IntS r0 _ _ _ (w29).heap.size (ky0_28_o.lst.mono (by omega)) (ky0_6_30.lst.mono (by omega)) (Nat.le_refl _)).mono ?_
  rintro e w31 ⟨rfl, hb31⟩
  have z31 : w29.heap.size ≤ w31.heap.size := hb31.size
  have m0_32 := m0_30.below (hb31.mono (B' := w.heap.size) (by omega))
  have ky0_6_32 := ky0_6_30.below (hb31.mono (B' := w7.heap.size) (by omega))
  have kX0_32 := kX0_30.below (hb31.mono (B' := w9.heap.size) (by omega))
  have ky0_12_32 := ky0_12_30.below (hb31.mono (B' := w13.heap.size) (by omega))
  have ky0_28_32 := ky0_28_o.below (hb31.mono (B' := w29.heap.size) (by omega))
  have bp0_32 := bp0_30.below hb31
  have bbxX0_32 := bbxX0_30.below hb31
  have C_32 := C_30.trans (hb31.mono (B' := w.heap.size) (by omega))
  clear m0_30 ky0_6_30 kX0_30 ky0_12_30 ky0_28_o bp0_30 bbxX0_30 C_30
  clear hb31
  go_wp2_with fail
  refine (held_IntS r0 _ (1) _ (w13.heap.size) ky0_12_32.lst (by omega) hl0 (by omega) (by omega)).mono ?_
  rintro e w33 ⟨rfl, hb33⟩
  have z33 : w31.heap.size ≤ w33.heap.size := hb33.size
  have m0_34 := m0_32.below (hb33.mono (B' := w.heap.size) (by omega))
  have ky0_6_34 := ky0_6_32.below (hb33.mono (B' := w7.heap.size) (by omega))
  have kX0_34 := kX0_32.below (hb33.mono (B' := w9.heap.size) (by omega))
  have ky0_12_34 := ky0_12_32.below (hb33.mono (B' := w13.heap.size) (by omega))
  have ky0_28_34 := ky0_28_32.below (hb33.mono (B' := w29.heap.size) (by omega))
  have bp0_34 := bp0_32.below hb33
  have bbxX0_34 := bbxX0_32.below hb33
  have C_34 := C_32.trans (hb33.mono (B' := w.heap.size) (by omega))
  clear m0_32 ky0_6_32 kX0_32 ky0_12_32 ky0_28_32 bp0_32 bbxX0_32 C_32
  clear hb33
  have dq34 : ¬ (1 + (r0.length : Int)) < 0 := by omega
  go_wp2
  go_ret
  exact ⟨rfl, C_34⟩

set_option maxRecDepth 100000 in
theorem walk_all {H : Type} {enc : TypeId × Value → H} {base : Nat} {w : World} (v0 : Value) {d0 : DataW H} {ps0 : List MemPlace} (hval0 : Value.okWide Try.prog w .any base 24 v0) (hd0 : DataW.Trod enc Try.prog w 0 (fun _ => true) true 24 v0 d0 ps0) :
    Calls Try.prog 9 #[v0] w fun e w' => e = .returned (.bool true) ∧ Below w.heap.size w w' := by
  obtain ⟨a0, h0, hw0⟩ := open_Trace hval0 hd0
  by_cases g0 : (a0.xs.length : Int) ≤ 1048576
  case neg => exact walk_big0 a0 v0 w h0 hw0 g0
  exact walk_main a0 v0 w h0 hw0 g0

set_option maxRecDepth 100000 in
theorem contract (H : Type) (enc : TypeId × Value → H) (W : World) (base : Nat) (args : Array Value) (ds gs : List (DataW H)) (before : List MemPlace)
    (hval : ∀ (j : Nat) t v, Try.f9.params[j]? = some t → args[j]? = some v → Value.okWide Try.prog W .any base t v)
    (hW : DataW.Whole enc Try.prog Try.f9.params.toList Rows.fnExactCrossingsSpec.vars false W args.toList ds gs before) :
    Calls Try.prog 9 args W fun e W' => ∃ v, e = .returned v ∧ Rows.fnExactCrossingsSpec.post enc Try.prog Try.f9 false true false false W args v W' := by
  have hW' := hW
  obtain ⟨p, q, hA0, hV, rfl, hfz, hnd⟩ := hW
  have hA : DataW.TrodAll enc Try.prog W 0 (fun _ => true) true Try.f9.params.toList args.toList ds p := hA0
  rw [Try.params9] at hA hval
  obtain ⟨v0, vs0, d0, ds0, p0, q0, hargs, rfl, rfl, h0, r0⟩ := trodAll_cons hA
  obtain ⟨rfl, rfl, rfl⟩ := trodAll_nil r0
  obtain rfl : args = #[v0] := by cases args; simp_all
  refine lawPost rfl rfl Try.underlying4 (by kernel_rfl) (by kernel_rfl) hW' (fun hg => by subst hg; exact ⟨rfl, rfl, rfl⟩) ?_
  exact walk_all v0 (hval 0 24 v0 rfl rfl) h0

set_option maxRecDepth 100000 in
theorem lifted (os : Os) (started : os.Started) (H : Type) (enc : TypeId × Value → H) :
    ReturnsInHanded {} Try.checked os 9 .any (Rows.fnExactCrossingsSpec.pre6 enc Try.prog Try.f9 Rows.fnExactCrossingsRow.domain false) (Rows.fnExactCrossingsSpec.post enc Try.prog Try.f9 false true false false) := by
  refine returnsInHanded_of_change (C := Try.checked) (s := Rows.fnExactCrossingsSpec) own started (by kernel_rfl) Try.func9
    (ChangeSpec.witness6 (enc := enc) (C := Try.checked) (s := Rows.fnExactCrossingsSpec) false ⟨#[], #[.agg #[.int .i64 0, .int .i64 0, .slice none 0 0]], []⟩ 8 (by kernel_rfl) (by kernel_rfl) (by kernel_rfl) (by kernel_rfl)) ?_
  intro W base args ds gs before hval hW _ _
  exact contract H enc W base args ds gs before hval hW

theorem said : Rows.FnExactCrossingsSaid :=
  OpenClaim.holds_of_wide 9 Try.f9 rfl rfl rfl rfl rfl rfl rfl ⟨rfl, rfl, rfl, rfl, rfl⟩ rfl rfl rfl rfl rfl (by kernel_rfl) Try.func9 (by kernel_rfl)
    (of_decide_eq_true (by kernel_rfl)) (by unfold Func.isWrapper; first | (rw [if_pos (by decide +kernel)]; kernel_rfl) | (rw [if_neg (by decide +kernel)]; exact ⟨rfl, rfl⟩))
    (fun os started H enc _ => lifted os started H enc)

end Go.Proofs.Ytkgohnlljbamlab.fnExactCrossings
