/- FnExactSubtractLevel: for every trace and every number the law answers true; no condition. -/
import Derived.Test.YtkgohnlljbamlabSubS
namespace Go.Proofs.Ytkgohnlljbamlab.fnExactSubtractLevel
open Go.ChangeShapes Go.WideShapes Go.ChangeAt Go.RowKit Go.ChangeMaps
set_option linter.unusedSimpArgs false
set_option linter.unusedVariables false

theorem own : ownKnob Try.prog.godebug = none := by kernel_rfl


set_option maxRecDepth 100000 in
set_option maxHeartbeats 1000000 in
theorem walk_big0 (a0 : Tr) (v0 : Value) (a1 : Int) (hi1 : I64 a1) (w : World) (h0 : TrL w w.heap.size v0 a0) (hw0 : I64 a0.st ∧ I64 a0.start ∧ ∀ y ∈ a0.xs, I64 y)  (g0 : ¬ (a0.xs.length : Int) ≤ 1048576):
    Calls Try.prog 8 #[v0, .int .i64 a1] w fun e w' => e = .returned (.bool true) ∧ Below w.heap.size w w' := by
  obtain ⟨ao0, cap0, rfl⟩ := h0.form
  have N1 := (Below.refl (w).heap.size w).alloc (Nat.le_refl _) (.cells #[.int .i64 a0.st, .int .i64 a0.start, .slice ao0 a0.xs.length cap0] 24)
  have bx1 : Bx (w.alloc (.cells #[.int .i64 a0.st, .int .i64 a0.start, .slice ao0 a0.xs.length cap0] 24)) (w.heap.size) [.int .i64 a0.st, .int .i64 a0.start, .slice ao0 a0.xs.length cap0] := Bx.new w [.int .i64 a0.st, .int .i64 a0.start, .slice ao0 a0.xs.length cap0] 24
  have m0_2 := h0.below (N1.mono (B' := w.heap.size) (by omega))
  have C_2 := N1
  clear h0
  clear N1
  go_enter Try.func8, Try.ntmps8
  have q1 := bx1.2 0 _ rfl
  have q2 := bx1.2 1 _ rfl
  have q3 := bx1.2 2 _ rfl
  go_wp2_with fail
  refine (szgt_Trace a0 _ (1048576) _ w.heap.size m0_2 (by simp <;> omega) (by omega) (by omega) (by omega)).mono ?_
  rintro e w3 ⟨rfl, hb3⟩
  have z3 : w.heap.size + 1 ≤ w3.heap.size := by have := hb3.size; simpa using this
  clear q1 q2 q3
  have m0_4 := m0_2.below (hb3.mono (B' := w.heap.size) (by simp <;> omega))
  have bp0_4 := bx1.below hb3
  have C_4 := C_2.trans (hb3.mono (B' := w.heap.size) (by simp <;> omega))
  clear m0_2 bx1 C_2
  clear hb3
  go_wp2
  go_ret
  exact ⟨rfl, C_4⟩

set_option maxRecDepth 100000 in
set_option maxHeartbeats 1000000 in
theorem walk_main (a0 : Tr) (v0 : Value) (a1 : Int) (hi1 : I64 a1) (w : World) (h0 : TrL w w.heap.size v0 a0) (hw0 : I64 a0.st ∧ I64 a0.start ∧ ∀ y ∈ a0.xs, I64 y) (g0 : (a0.xs.length : Int) ≤ 1048576):
    Calls Try.prog 8 #[v0, .int .i64 a1] w fun e w' => e = .returned (.bool true) ∧ Below w.heap.size w w' := by
  have hn0 : a0.xs.length ≤ 1048576 := by omega
  have hS := fun v0 w B => specSub a0 v0 a1 w B
  have hI := fun v0 w B  => implSub a0 v0 a1 w B 
  have hl0 : (resS a0 a1).xs.length ≤ 1048576 := resS_len a0 a1 hn0
  generalize resS a0 a1 = r0 at *
  generalize okS a0 a1 = r1 at *
  have HS := Lib.hid hS
  have HI := Lib.hid hI
  clear hS hI
  obtain ⟨ao0, cap0, rfl⟩ := h0.form
  have N1 := (Below.refl (w).heap.size w).alloc (Nat.le_refl _) (.cells #[.int .i64 a0.st, .int .i64 a0.start, .slice ao0 a0.xs.length cap0] 24)
  have bx1 : Bx (w.alloc (.cells #[.int .i64 a0.st, .int .i64 a0.start, .slice ao0 a0.xs.length cap0] 24)) (w.heap.size) [.int .i64 a0.st, .int .i64 a0.start, .slice ao0 a0.xs.length cap0] := Bx.new w [.int .i64 a0.st, .int .i64 a0.start, .slice ao0 a0.xs.length cap0] 24
  have m0_2 := h0.below (N1.mono (B' := w.heap.size) (by omega))
  have C_2 := N1
  clear h0
  clear N1
  have d0 : ¬ 1048576 - (a0.xs.length : Int) < 0 := by omega
  go_enter Try.func8, Try.ntmps8
  have q1 := bx1.2 0 _ rfl
  have q2 := bx1.2 1 _ rfl
  have q3 := bx1.2 2 _ rfl
  go_wp2_with fail
  refine (sz_Trace a0 _ (1048576) _ w.heap.size m0_2 (by simp <;> omega) (by omega) (by omega) (by omega)).mono ?_
  rintro e w3 ⟨rfl, hb3⟩
  have z3 : w.heap.size + 1 ≤ w3.heap.size := by have := hb3.size; simpa using this
  clear q1 q2 q3
  have m0_4 := m0_2.below (hb3.mono (B' := w.heap.size) (by simp <;> omega))
  have bp0_4 := bx1.below hb3
  have C_4 := C_2.trans (hb3.mono (B' := w.heap.size) (by simp <;> omega))
  clear m0_2 bx1 C_2
  clear hb3
  have q4 := bp0_4.2 0 _ rfl
  have q5 := bp0_4.2 1 _ rfl
  have q6 := bp0_4.2 2 _ rfl
  go_wp2_with fail
  refine (to_Trace a0 _ _ w.heap.size m0_4 (by omega) hn0).mono ?_
  rintro e w5 ⟨x5, rfl, ox5, hb5⟩
  have z5 : w3.heap.size ≤ w5.heap.size := hb5.size
  clear q4 q5 q6
  have m0_6 := m0_4.below (hb5.mono (B' := w.heap.size) (by omega))
  have bp0_6 := bp0_4.below hb5
  have C_6 := C_4.trans (hb5.mono (B' := w.heap.size) (by omega))
  clear m0_4 bp0_4 C_4
  clear hb5
  have kx5_o := ox5.mono (L' := w3.heap.size) (B' := w5.heap.size) (by simp <;> omega) (Nat.le_refl _)
  clear ox5
  obtain ⟨aox5, capx5, rfl⟩ := kx5_o.form
  go_wp2_with fail
  refine (HS.out _ _ (w5).heap.size  (kx5_o.lst.mono (by omega)) (Nat.le_refl _) hn0  hi1 ).mono ?_
  rintro e w7 ⟨y0_6, rfl, oy0_6, hb7⟩
  have z7 : w5.heap.size ≤ w7.heap.size := hb7.size
  have m0_8 := m0_6.below (hb7.mono (B' := w.heap.size) (by omega))
  have kx5_8 := kx5_o.below (hb7.mono (B' := w5.heap.size) (by omega))
  have bp0_8 := bp0_6.below hb7
  have C_8 := C_6.trans (hb7.mono (B' := w.heap.size) (by omega))
  clear m0_6 kx5_o bp0_6 C_6
  clear hb7
  have ky0_6_o := oy0_6.mono (L' := w5.heap.size) (B' := w7.heap.size) (by simp <;> omega) (Nat.le_refl _)
  clear oy0_6
  obtain ⟨aoy0_6, capy0_6, rfl⟩ := ky0_6_o.form
  clear kx5_8
  have N9 := (Below.refl (w7).heap.size w7).alloc (Nat.le_refl _) (.cells #[.int .i64 r0.st, .int .i64 r0.start, .slice aoy0_6 r0.xs.length capy0_6] 28)
  have bx9 : Bx (w7.alloc (.cells #[.int .i64 r0.st, .int .i64 r0.start, .slice aoy0_6 r0.xs.length capy0_6] 28)) (w7.heap.size) [.int .i64 r0.st, .int .i64 r0.start, .slice aoy0_6 r0.xs.length capy0_6] := Bx.new w7 [.int .i64 r0.st, .int .i64 r0.start, .slice aoy0_6 r0.xs.length capy0_6] 28
  have m0_10 := m0_8.below (N9.mono (B' := w.heap.size) (by omega))
  have ky0_6_10 := ky0_6_o.below (N9.mono (B' := w7.heap.size) (by omega))
  have bp0_10 := bp0_8.below N9
  have C_10 := C_8.trans (N9.mono (B' := w.heap.size) (by omega))
  clear m0_8 ky0_6_o bp0_8 C_8
  clear N9
  have q7 := bp0_10.2 0 _ rfl
  have q8 := bp0_10.2 1 _ rfl
  have q9 := bp0_10.2 2 _ rfl
  go_wp2_with fail
  refine (to_Trace a0 _ _ w.heap.size m0_10 (by simp <;> omega) hn0).mono ?_
  rintro e w11 ⟨X0, rfl, oX0, hb11⟩
  have z11 : w7.heap.size + 1 ≤ w11.heap.size := by have := hb11.size; simpa using this
  clear q7 q8 q9
  have m0_12 := m0_10.below (hb11.mono (B' := w.heap.size) (by simp <;> omega))
  have ky0_6_12 := ky0_6_10.below (hb11.mono (B' := w7.heap.size) (by simp <;> omega))
  have bp0_12 := bp0_10.below hb11
  have bbxy0_6_12 := bx9.below hb11
  have C_12 := C_10.trans (hb11.mono (B' := w.heap.size) (by simp <;> omega))
  clear m0_10 ky0_6_10 bp0_10 bx9 C_10
  clear hb11
  have kX0_o := oX0.mono (L' := w7.heap.size + 1) (B' := w11.heap.size) (by simp <;> omega) (Nat.le_refl _)
  clear oX0
  obtain ⟨aoX0, capX0, rfl⟩ := kX0_o.form
  have N13 := (Below.refl (w11).heap.size w11).alloc (Nat.le_refl _) (.cells #[.int .i64 a0.st, .int .i64 a0.start, .slice aoX0 a0.xs.length capX0] 28)
  have bx13 : Bx (w11.alloc (.cells #[.int .i64 a0.st, .int .i64 a0.start, .slice aoX0 a0.xs.length capX0] 28)) (w11.heap.size) [.int .i64 a0.st, .int .i64 a0.start, .slice aoX0 a0.xs.length capX0] := Bx.new w11 [.int .i64 a0.st, .int .i64 a0.start, .slice aoX0 a0.xs.length capX0] 28
  have m0_14 := m0_12.below (N13.mono (B' := w.heap.size) (by omega))
  have ky0_6_14 := ky0_6_12.below (N13.mono (B' := w7.heap.size) (by omega))
  have kX0_14 := kX0_o.below (N13.mono (B' := w11.heap.size) (by omega))
  have bp0_14 := bp0_12.below N13
  have bbxy0_6_14 := bbxy0_6_12.below N13
  have C_14 := C_12.trans (N13.mono (B' := w.heap.size) (by omega))
  clear m0_12 ky0_6_12 kX0_o bp0_12 bbxy0_6_12 C_12
  clear N13
  have q10 := bx13.2 0 _ rfl
  have q11 := bx13.2 1 _ rfl
  have q12 := bx13.2 2 _ rfl
  go_wp2_with fail
  refine (HI.out _ _ ((w11.alloc (.cells #[.int .i64 a0.st, .int .i64 a0.start, .slice aoX0 a0.xs.length capX0] 28))).heap.size  (kX0_14.lst.mono (by simp <;> omega)) (Nat.le_refl _) hn0  hi1 ).mono ?_
  rintro e w15 ⟨y0_14, rfl, oy0_14, hb15⟩
  have z15 : w11.heap.size + 1 ≤ w15.heap.size := by have := hb15.size; simpa using this
  clear q10 q11 q12
  have m0_16 := m0_14.below (hb15.mono (B' := w.heap.size) (by simp <;> omega))
  have ky0_6_16 := ky0_6_14.below (hb15.mono (B' := w7.heap.size) (by simp <;> omega))
  have kX0_16 := kX0_14.below (hb15.mono (B' := w11.heap.size) (by simp <;> omega))
  have bp0_16 := bp0_14.below hb15
  have bbxy0_6_16 := bbxy0_6_14.below hb15
  have bbxX0_16 := bx13.below hb15
  have C_16 := C_14.trans (hb15.mono (B' := w.heap.size) (by simp <;> omega))
  clear m0_14 ky0_6_14 kX0_14 bp0_14 bbxy0_6_14 bx13 C_14
  clear hb15
  have ky0_14_o := oy0_14.mono (L' := w11.heap.size + 1) (B' := w15.heap.size) (by simp <;> omega) (Nat.le_refl _)
  clear oy0_14
  obtain ⟨aoy0_14, capy0_14, rfl⟩ := ky0_14_o.form
  have N17 := (Below.refl (w15).heap.size w15).alloc (Nat.le_refl _) (.cells #[.int .i64 r0.st, .int .i64 r0.start, .slice aoy0_14 r0.xs.length capy0_14] 28)
  have bx17 : Bx (w15.alloc (.cells #[.int .i64 r0.st, .int .i64 r0.start, .slice aoy0_14 r0.xs.length capy0_14] 28)) (w15.heap.size) [.int .i64 r0.st, .int .i64 r0.start, .slice aoy0_14 r0.xs.length capy0_14] := Bx.new w15 [.int .i64 r0.st, .int .i64 r0.start, .slice aoy0_14 r0.xs.length capy0_14] 28
  have m0_18 := m0_16.below (N17.mono (B' := w.heap.size) (by omega))
  have ky0_6_18 := ky0_6_16.below (N17.mono (B' := w7.heap.size) (by omega))
  have kX0_18 := kX0_16.below (N17.mono (B' := w11.heap.size) (by omega))
  have ky0_14_18 := ky0_14_o.below (N17.mono (B' := w15.heap.size) (by omega))
  have bp0_18 := bp0_16.below N17
  have bbxy0_6_18 := bbxy0_6_16.below N17
  have bbxX0_18 := bbxX0_16.below N17
  have C_18 := C_16.trans (N17.mono (B' := w.heap.size) (by omega))
  clear m0_16 ky0_6_16 kX0_16 ky0_14_o bp0_16 bbxy0_6_16 bbxX0_16 C_16
  clear N17
  have q13 := bx17.2 0 _ rfl
  have q14 := bx17.2 1 _ rfl
  have q15 := bx17.2 2 _ rfl
  have q16 := bbxy0_6_18.2 0 _ rfl
  have q17 := bbxy0_6_18.2 1 _ rfl
  have q18 := bbxy0_6_18.2 2 _ rfl
  go_wp2_with fail
  refine (eq_Trace r0 _ _ _ ((w15.alloc (.cells #[.int .i64 r0.st, .int .i64 r0.start, .slice aoy0_14 r0.xs.length capy0_14] 28))).heap.size (ky0_14_18.lst.mono (by simp <;> omega)) (ky0_6_18.lst.mono (by simp <;> omega)) (Nat.le_refl _)).mono ?_
  rintro e w19 ⟨rfl, hb19⟩
  have z19 : w15.heap.size + 1 ≤ w19.heap.size := by have := hb19.size; simpa using this
  clear q13 q14 q15 q16 q17 q18
  have m0_20 := m0_18.below (hb19.mono (B' := w.heap.size) (by simp <;> omega))
  have ky0_6_20 := ky0_6_18.below (hb19.mono (B' := w7.heap.size) (by simp <;> omega))
  have kX0_20 := kX0_18.below (hb19.mono (B' := w11.heap.size) (by simp <;> omega))
  have ky0_14_20 := ky0_14_18.below (hb19.mono (B' := w15.heap.size) (by simp <;> omega))
  have bp0_20 := bp0_18.below hb19
  have bbxy0_6_20 := bbxy0_6_18.below hb19
  have bbxX0_20 := bbxX0_18.below hb19
  have bbxy0_14_20 := bx17.below hb19
  have C_20 := C_18.trans (hb19.mono (B' := w.heap.size) (by simp <;> omega))
  clear m0_18 ky0_6_18 kX0_18 ky0_14_18 bp0_18 bbxy0_6_18 bbxX0_18 bx17 C_18
  clear hb19
  have q19 := bp0_20.2 0 _ rfl
  have q20 := bp0_20.2 1 _ rfl
  have q21 := bp0_20.2 2 _ rfl
  have q22 := bbxX0_20.2 0 _ rfl
  have q23 := bbxX0_20.2 1 _ rfl
  have q24 := bbxX0_20.2 2 _ rfl
  go_wp2
  go_region_held3 (fun w' => Below w19.heap.size w19 w' ∧ w'.cell? ⟨w.heap.size, 0, none⟩ = some (.int .i64 a0.st) ∧ w'.cell? ⟨w.heap.size, 1, none⟩ = some (.int .i64 a0.start) ∧ w'.cell? ⟨w.heap.size, 2, none⟩ = some (.slice ao0 a0.xs.length cap0) ∧ w'.cell? ⟨w11.heap.size, 0, none⟩ = some (.int .i64 a0.st) ∧ w'.cell? ⟨w11.heap.size, 1, none⟩ = some (.int .i64 a0.start) ∧ w'.cell? ⟨w11.heap.size, 2, none⟩ = some (.slice aoX0 a0.xs.length capX0))
    (first
      | exact ⟨(Below.refl _ _).drew, q19, q20, q21, q22, q23, q24⟩
      | (have q := (Below.refl w19.heap.size w19).drew.trans hb7; exact ⟨q, (bp0_20.below q).2 0 _ rfl, (bp0_20.below q).2 1 _ rfl, (bp0_20.below q).2 2 _ rfl, (bbxX0_20.below q).2 0 _ rfl, (bbxX0_20.below q).2 1 _ rfl, (bbxX0_20.below q).2 2 _ rfl⟩)
      | (have q := ((Below.refl w19.heap.size w19).drew.trans hb7).trans (hb8.mono hb7.size); exact ⟨q, (bp0_20.below q).2 0 _ rfl, (bp0_20.below q).2 1 _ rfl, (bp0_20.below q).2 2 _ rfl, (bbxX0_20.below q).2 0 _ rfl, (bbxX0_20.below q).2 1 _ rfl, (bbxX0_20.below q).2 2 _ rfl⟩))
    (first
      | (go_at_call 14; refine (to_Trace a0 _ _ w.heap.size (m0_20.below (Below.refl _ _).drew) (by show w.heap.size ≤ w19.heap.size; omega) hn0).mono ?_; rintro e wA21 ⟨x7, rfl, o7, hb7⟩)
      | (go_at_call 16; refine (eq_Trace a0 _ _ _ wA21.heap.size ((kX0_20.lst.below (((Below.refl w19.heap.size w19).drew.trans hb7).mono (B' := w11.heap.size) (by omega))).mono (Nat.le_trans (show w11.heap.size ≤ w19.heap.size by omega) hb7.size)) o7.lst (Nat.le_refl _)).mono ?_; rintro e wB21 ⟨rfl, hb8⟩))
  have hb21 : Below w19.heap.size w19 wB21 := ((Below.refl w19.heap.size w19).drew.trans hb7).trans (hb8.mono hb7.size)
  clear o7 hb7 hb8 q19 q20 q21 q22 q23 q24
  have z21 : w19.heap.size ≤ wB21.heap.size := hb21.size
  have m0_22 := m0_20.below (hb21.mono (B' := w.heap.size) (by omega))
  have ky0_6_22 := ky0_6_20.below (hb21.mono (B' := w7.heap.size) (by omega))
  have kX0_22 := kX0_20.below (hb21.mono (B' := w11.heap.size) (by omega))
  have ky0_14_22 := ky0_14_20.below (hb21.mono (B' := w15.heap.size) (by omega))
  have bp0_22 := bp0_20.below hb21
  have bbxy0_6_22 := bbxy0_6_20.below hb21
  have bbxX0_22 := bbxX0_20.below hb21
  have bbxy0_14_22 := bbxy0_14_20.below hb21
  have C_22 := C_20.trans (hb21.mono (B' := w.heap.size) (by omega))
  clear m0_20 ky0_6_20 kX0_20 ky0_14_20 bp0_20 bbxy0_6_20 bbxX0_20 bbxy0_14_20 C_20
  clear hb21
  have q25 := bbxX0_22.2 0 _ rfl
  have q26 := bbxX0_22.2 1 _ rfl
  have q27 := bbxX0_22.2 2 _ rfl
  go_wp2_with fail
  refine (mark_Trace a0 _ (1) _ (w7.heap.size + 1) w11.heap.size kX0_22 (by omega) hn0 (by omega) (by omega)).mono ?_
  rintro e w23 ⟨rfl, mk, hu23⟩
  have z23 : wB21.heap.size ≤ w23.heap.size := hu23.size
  clear q25 q26 q27
  have m0_24 := m0_22.below (hu23.low (B := w.heap.size) (by omega) (by omega))
  have ky0_6_24 := ky0_6_22.below (hu23.low (B := w7.heap.size) (by omega) (by omega))
  have ky0_14_24 := ky0_14_22.high hu23 (by omega)
  have bp0_24 := bp0_22.upd hu23 (by omega)
  have bbxy0_6_24 := bbxy0_6_22.upd hu23 (by omega)
  have bbxX0_24 := bbxX0_22.upd hu23 (by omega)
  have bbxy0_14_24 := bbxy0_14_22.upd hu23 (by omega)
  have C_24 := C_22.trans (hu23.low (B := w.heap.size) (by omega) (by omega))
  clear m0_22 ky0_6_22 ky0_14_22 bp0_22 bbxy0_6_22 bbxX0_22 bbxy0_14_22 C_22
  clear hu23
  clear kX0_22
  have kX0_m23 := mk
  clear mk
  have dk24 : ¬ (1 + (a0.xs.length : Int)) < 0 := by omega
  have q28 := bbxy0_14_24.2 0 _ rfl
  have q29 := bbxy0_14_24.2 1 _ rfl
  have q30 := bbxy0_14_24.2 2 _ rfl
  have q31 := bbxy0_6_24.2 0 _ rfl
  have q32 := bbxy0_6_24.2 1 _ rfl
  have q33 := bbxy0_6_24.2 2 _ rfl
  go_wp2_with fail
  refine (eq_Trace r0 _ _ _ (w23).heap.size (ky0_14_24.lst.mono (by omega)) (ky0_6_24.lst.mono (by omega)) (Nat.le_refl _)).mono ?_
  rintro e w25 ⟨rfl, hb25⟩
  have z25 : w23.heap.size ≤ w25.heap.size := hb25.size
  clear q28 q29 q30 q31 q32 q33
  have m0_26 := m0_24.below (hb25.mono (B' := w.heap.size) (by omega))
  have ky0_6_26 := ky0_6_24.below (hb25.mono (B' := w7.heap.size) (by omega))
  have kX0_26 := kX0_m23.below (hb25.mono (B' := w11.heap.size) (by omega))
  have ky0_14_26 := ky0_14_24.below (hb25.mono (B' := w15.heap.size) (by omega))
  have bp0_26 := bp0_24.below hb25
  have bbxy0_6_26 := bbxy0_6_24.below hb25
  have bbxX0_26 := bbxX0_24.below hb25
  have bbxy0_14_26 := bbxy0_14_24.below hb25
  have C_26 := C_24.trans (hb25.mono (B' := w.heap.size) (by omega))
  clear m0_24 ky0_6_24 kX0_m23 ky0_14_24 bp0_24 bbxy0_6_24 bbxX0_24 bbxy0_14_24 C_24
  clear hb25
  have q34 := bbxy0_14_26.2 0 _ rfl
  have q35 := bbxy0_14_26.2 1 _ rfl
  have q36 := bbxy0_14_26.2 2 _ rfl
  go_wp2_with fail
  refine (mark_Trace r0 _ (1) _ (w11.heap.size + 1) w15.heap.size ky0_14_26 (by omega) hl0 (by omega) (by omega)).mono ?_
  rintro e w27 ⟨rfl, mk, hu27⟩
  have z27 : w25.heap.size ≤ w27.heap.size := hu27.size
  clear q34 q35 q36
  have m0_28 := m0_26.below (hu27.low (B := w.heap.size) (by omega) (by omega))
  have ky0_6_28 := ky0_6_26.below (hu27.low (B := w7.heap.size) (by omega) (by omega))
  have kX0_28 := kX0_26.below (hu27.low (B := w11.heap.size) (by omega) (by omega))
  have bp0_28 := bp0_26.upd hu27 (by omega)
  have bbxy0_6_28 := bbxy0_6_26.upd hu27 (by omega)
  have bbxX0_28 := bbxX0_26.upd hu27 (by omega)
  have bbxy0_14_28 := bbxy0_14_26.upd hu27 (by omega)
  have C_28 := C_26.trans (hu27.low (B := w.heap.size) (by omega) (by omega))
  clear m0_26 ky0_6_26 kX0_26 bp0_26 bbxy0_6_26 bbxX0_26 bbxy0_14_26 C_26
  clear hu27
  clear ky0_14_26
  have ky0_14_m27 := mk
  clear mk
  have q37 := bbxy0_14_28.2 0 _ rfl
  have q38 := bbxy0_14_28.2 1 _ rfl
  have q39 := bbxy0_14_28.2 2 _ rfl
  go_wp2_with fail
  refine (held_Trace r0 _ (1) _ (w15.heap.size) ky0_14_m27.lst (by omega) hl0 (by omega) (by omega)).mono ?_
  rintro e w29 ⟨rfl, hb29⟩
  have z29 : w27.heap.size ≤ w29.heap.size := hb29.size
  clear q37 q38 q39
  have m0_30 := m0_28.below (hb29.mono (B' := w.heap.size) (by omega))
  have ky0_6_30 := ky0_6_28.below (hb29.mono (B' := w7.heap.size) (by omega))
  have kX0_30 := kX0_28.below (hb29.mono (B' := w11.heap.size) (by omega))
  have ky0_14_30 := ky0_14_m27.below (hb29.mono (B' := w15.heap.size) (by omega))
  have bp0_30 := bp0_28.below hb29
  have bbxy0_6_30 := bbxy0_6_28.below hb29
  have bbxX0_30 := bbxX0_28.below hb29
  have bbxy0_14_30 := bbxy0_14_28.below hb29
  have C_30 := C_28.trans (hb29.mono (B' := w.heap.size) (by omega))
  clear m0_28 ky0_6_28 kX0_28 ky0_14_m27 bp0_28 bbxy0_6_28 bbxX0_28 bbxy0_14_28 C_28
  clear hb29
  have dq30 : ¬ (1 + (r0.xs.length : Int)) < 0 := by omega
  have q40 := bp0_30.2 0 _ rfl
  have q41 := bp0_30.2 1 _ rfl
  have q42 := bp0_30.2 2 _ rfl
  go_wp2_with fail
  refine (to_Trace a0 _ _ w.heap.size m0_30 (by omega) hn0).mono ?_
  rintro e w31 ⟨x31, rfl, ox31, hb31⟩
  have z31 : w29.heap.size ≤ w31.heap.size := hb31.size
  clear q40 q41 q42
  have m0_32 := m0_30.below (hb31.mono (B' := w.heap.size) (by omega))
  have ky0_6_32 := ky0_6_30.below (hb31.mono (B' := w7.heap.size) (by omega))
  have kX0_32 := kX0_30.below (hb31.mono (B' := w11.heap.size) (by omega))
  have ky0_14_32 := ky0_14_30.below (hb31.mono (B' := w15.heap.size) (by omega))
  have bp0_32 := bp0_30.below hb31
  have bbxy0_6_32 := bbxy0_6_30.below hb31
  have bbxX0_32 := bbxX0_30.below hb31
  have bbxy0_14_32 := bbxy0_14_30.below hb31
  have C_32 := C_30.trans (hb31.mono (B' := w.heap.size) (by omega))
  clear m0_30 ky0_6_30 kX0_30 ky0_14_30 bp0_30 bbxy0_6_30 bbxX0_30 bbxy0_14_30 C_30
  clear hb31
  have kx31_o := ox31.mono (L' := w29.heap.size) (B' := w31.heap.size) (by simp <;> omega) (Nat.le_refl _)
  clear ox31
  obtain ⟨aox31, capx31, rfl⟩ := kx31_o.form
  go_wp2_with fail
  refine (HI.out _ _ (w31).heap.size  (kx31_o.lst.mono (by omega)) (Nat.le_refl _) hn0  hi1 ).mono ?_
  rintro e w33 ⟨y0_32, rfl, oy0_32, hb33⟩
  have z33 : w31.heap.size ≤ w33.heap.size := hb33.size
  have m0_34 := m0_32.below (hb33.mono (B' := w.heap.size) (by omega))
  have ky0_6_34 := ky0_6_32.below (hb33.mono (B' := w7.heap.size) (by omega))
  have kX0_34 := kX0_32.below (hb33.mono (B' := w11.heap.size) (by omega))
  have ky0_14_34 := ky0_14_32.below (hb33.mono (B' := w15.heap.size) (by omega))
  have kx31_34 := kx31_o.below (hb33.mono (B' := w31.heap.size) (by omega))
  have bp0_34 := bp0_32.below hb33
  have bbxy0_6_34 := bbxy0_6_32.below hb33
  have bbxX0_34 := bbxX0_32.below hb33
  have bbxy0_14_34 := bbxy0_14_32.below hb33
  have C_34 := C_32.trans (hb33.mono (B' := w.heap.size) (by omega))
  clear m0_32 ky0_6_32 kX0_32 ky0_14_32 kx31_o bp0_32 bbxy0_6_32 bbxX0_32 bbxy0_14_32 C_32
  clear hb33
  have ky0_32_o := oy0_32.mono (L' := w31.heap.size) (B' := w33.heap.size) (by simp <;> omega) (Nat.le_refl _)
  clear oy0_32
  obtain ⟨aoy0_32, capy0_32, rfl⟩ := ky0_32_o.form
  clear kx31_34
  have N35 := (Below.refl (w33).heap.size w33).alloc (Nat.le_refl _) (.cells #[.int .i64 r0.st, .int .i64 r0.start, .slice aoy0_32 r0.xs.length capy0_32] 28)
  have bx35 : Bx (w33.alloc (.cells #[.int .i64 r0.st, .int .i64 r0.start, .slice aoy0_32 r0.xs.length capy0_32] 28)) (w33.heap.size) [.int .i64 r0.st, .int .i64 r0.start, .slice aoy0_32 r0.xs.length capy0_32] := Bx.new w33 [.int .i64 r0.st, .int .i64 r0.start, .slice aoy0_32 r0.xs.length capy0_32] 28
  have m0_36 := m0_34.below (N35.mono (B' := w.heap.size) (by omega))
  have ky0_6_36 := ky0_6_34.below (N35.mono (B' := w7.heap.size) (by omega))
  have kX0_36 := kX0_34.below (N35.mono (B' := w11.heap.size) (by omega))
  have ky0_14_36 := ky0_14_34.below (N35.mono (B' := w15.heap.size) (by omega))
  have ky0_32_36 := ky0_32_o.below (N35.mono (B' := w33.heap.size) (by omega))
  have bp0_36 := bp0_34.below N35
  have bbxy0_6_36 := bbxy0_6_34.below N35
  have bbxX0_36 := bbxX0_34.below N35
  have bbxy0_14_36 := bbxy0_14_34.below N35
  have C_36 := C_34.trans (N35.mono (B' := w.heap.size) (by omega))
  clear m0_34 ky0_6_34 kX0_34 ky0_14_34 ky0_32_o bp0_34 bbxy0_6_34 bbxX0_34 bbxy0_14_34 C_34
  clear N35
  have q43 := bx35.2 0 _ rfl
  have q44 := bx35.2 1 _ rfl
  have q45 := bx35.2 2 _ rfl
  have q46 := bbxy0_6_36.2 0 _ rfl
  have q47 := bbxy0_6_36.2 1 _ rfl
  have q48 := bbxy0_6_36.2 2 _ rfl
  go_wp2_with fail
  refine (eq_Trace r0 _ _ _ ((w33.alloc (.cells #[.int .i64 r0.st, .int .i64 r0.start, .slice aoy0_32 r0.xs.length capy0_32] 28))).heap.size (ky0_32_36.lst.mono (by simp <;> omega)) (ky0_6_36.lst.mono (by simp <;> omega)) (Nat.le_refl _)).mono ?_
  rintro e w37 ⟨rfl, hb37⟩
  have z37 : w33.heap.size + 1 ≤ w37.heap.size := by have := hb37.size; simpa using this
  clear q43 q44 q45 q46 q47 q48
  have m0_38 := m0_36.below (hb37.mono (B' := w.heap.size) (by simp <;> omega))
  have ky0_6_38 := ky0_6_36.below (hb37.mono (B' := w7.heap.size) (by simp <;> omega))
  have kX0_38 := kX0_36.below (hb37.mono (B' := w11.heap.size) (by simp <;> omega))
  have ky0_14_38 := ky0_14_36.below (hb37.mono (B' := w15.heap.size) (by simp <;> omega))
  have ky0_32_38 := ky0_32_36.below (hb37.mono (B' := w33.heap.size) (by simp <;> omega))
  have bp0_38 := bp0_36.below hb37
  have bbxy0_6_38 := bbxy0_6_36.below hb37
  have bbxX0_38 := bbxX0_36.below hb37
  have bbxy0_14_38 := bbxy0_14_36.below hb37
  have bbxy0_32_38 := bx35.below hb37
  have C_38 := C_36.trans (hb37.mono (B' := w.heap.size) (by simp <;> omega))
  clear m0_36 ky0_6_36 kX0_36 ky0_14_36 ky0_32_36 bp0_36 bbxy0_6_36 bbxX0_36 bbxy0_14_36 bx35 C_36
  clear hb37
  have q49 := bbxy0_14_38.2 0 _ rfl
  have q50 := bbxy0_14_38.2 1 _ rfl
  have q51 := bbxy0_14_38.2 2 _ rfl
  go_wp2_with fail
  refine (held_Trace r0 _ (1) _ (w15.heap.size) ky0_14_38.lst (by omega) hl0 (by omega) (by omega)).mono ?_
  rintro e w39 ⟨rfl, hb39⟩
  have z39 : w37.heap.size ≤ w39.heap.size := hb39.size
  clear q49 q50 q51
  have m0_40 := m0_38.below (hb39.mono (B' := w.heap.size) (by omega))
  have ky0_6_40 := ky0_6_38.below (hb39.mono (B' := w7.heap.size) (by omega))
  have kX0_40 := kX0_38.below (hb39.mono (B' := w11.heap.size) (by omega))
  have ky0_14_40 := ky0_14_38.below (hb39.mono (B' := w15.heap.size) (by omega))
  have ky0_32_40 := ky0_32_38.below (hb39.mono (B' := w33.heap.size) (by omega))
  have bp0_40 := bp0_38.below hb39
  have bbxy0_6_40 := bbxy0_6_38.below hb39
  have bbxX0_40 := bbxX0_38.below hb39
  have bbxy0_14_40 := bbxy0_14_38.below hb39
  have bbxy0_32_40 := bbxy0_32_38.below hb39
  have C_40 := C_38.trans (hb39.mono (B' := w.heap.size) (by omega))
  clear m0_38 ky0_6_38 kX0_38 ky0_14_38 ky0_32_38 bp0_38 bbxy0_6_38 bbxX0_38 bbxy0_14_38 bbxy0_32_38 C_38
  clear hb39
  have dq40 : ¬ (1 + (r0.xs.length : Int)) < 0 := by omega
  go_wp2
  go_ret
  exact ⟨rfl, C_40⟩

set_option maxRecDepth 100000 in
theorem walk_all {H : Type} {enc : TypeId × Value → H} {base : Nat} {w : World} (v0 : Value) {d0 : DataW H} {ps0 : List MemPlace} (hval0 : Value.okWide Try.prog w .any base 24 v0) (hd0 : DataW.Trod enc Try.prog w 0 (fun _ => true) true 24 v0 d0 ps0) (a1 : Int) (wf1 : (Lit.int .i64 a1).wf = true) :
    Calls Try.prog 8 #[v0, .int .i64 a1] w fun e w' => e = .returned (.bool true) ∧ Below w.heap.size w w' := by
  obtain ⟨a0, h0, hw0⟩ := open_Trace hval0 hd0
  have hi1 : I64 a1 := bounds_i64 wf1
  by_cases g0 : (a0.xs.length : Int) ≤ 1048576
  case neg => exact walk_big0 a0 v0 a1 hi1 w h0 hw0 g0
  exact walk_main a0 v0 a1 hi1 w h0 hw0 g0

set_option maxRecDepth 100000 in
theorem contract (H : Type) (enc : TypeId × Value → H) (W : World) (base : Nat) (args : Array Value) (ds gs : List (DataW H)) (before : List MemPlace)
    (hval : ∀ (j : Nat) t v, Try.f8.params[j]? = some t → args[j]? = some v → Value.okWide Try.prog W .any base t v)
    (hW : DataW.Whole enc Try.prog Try.f8.params.toList Rows.fnExactSubtractLevelSpec.vars false W args.toList ds gs before) :
    Calls Try.prog 8 args W fun e W' => ∃ v, e = .returned v ∧ Rows.fnExactSubtractLevelSpec.post enc Try.prog Try.f8 false true false false W args v W' := by
  have hW' := hW
  obtain ⟨p, q, hA0, hV, rfl, hfz, hnd⟩ := hW
  have hA : DataW.TrodAll enc Try.prog W 0 (fun _ => true) true Try.f8.params.toList args.toList ds p := hA0
  rw [Try.params8] at hA hval
  obtain ⟨v0, vs0, d0, ds0, p0, q0, hargs, rfl, rfl, h0, r0⟩ := trodAll_cons hA
  obtain ⟨v1, vs1, d1, ds1, p1, q1, rfl, rfl, rfl, h1, r1⟩ := trodAll_cons r0
  obtain ⟨rfl, rfl, rfl⟩ := trodAll_nil r1
  obtain rfl : args = #[v0, v1] := by cases args; simp_all
  obtain ⟨n1, rfl, rfl, rfl, w1⟩ := open_int Try.underlying3 (hval 1 3 v1 rfl rfl) h1
  refine lawPost rfl rfl Try.underlying4 (by kernel_rfl) (by kernel_rfl) hW' (fun hg => by subst hg; exact ⟨rfl, rfl, rfl⟩) ?_
  exact walk_all v0 (hval 0 24 v0 rfl rfl) h0 n1 w1

set_option maxRecDepth 100000 in
theorem lifted (os : Os) (started : os.Started) (H : Type) (enc : TypeId × Value → H) :
    ReturnsInHanded {} Try.checked os 8 .any (Rows.fnExactSubtractLevelSpec.pre6 enc Try.prog Try.f8 Rows.fnExactSubtractLevelRow.domain false) (Rows.fnExactSubtractLevelSpec.post enc Try.prog Try.f8 false true false false) := by
  refine returnsInHanded_of_change (C := Try.checked) (s := Rows.fnExactSubtractLevelSpec) own started (by kernel_rfl) Try.func8
    (ChangeSpec.witness6 (enc := enc) (C := Try.checked) (s := Rows.fnExactSubtractLevelSpec) false ⟨#[], #[.agg #[.int .i64 0, .int .i64 0, .slice none 0 0], .int .i64 0], []⟩ 8 (by kernel_rfl) (by kernel_rfl) (by kernel_rfl) (by kernel_rfl)) ?_
  intro W base args ds gs before hval hW _ _
  exact contract H enc W base args ds gs before hval hW

theorem said : Rows.FnExactSubtractLevelSaid :=
  OpenClaim.holds_of_wide 8 Try.f8 rfl rfl rfl rfl rfl rfl rfl ⟨rfl, rfl, rfl, rfl, rfl⟩ rfl rfl rfl rfl rfl (by kernel_rfl) Try.func8 (by kernel_rfl)
    (of_decide_eq_true (by kernel_rfl)) (by unfold Func.isWrapper; first | (rw [if_pos (by decide +kernel)]; kernel_rfl) | (rw [if_neg (by decide +kernel)]; exact ⟨rfl, rfl⟩))
    (fun os started H enc _ => lifted os started H enc)

end Go.Proofs.Ytkgohnlljbamlab.fnExactSubtractLevel
