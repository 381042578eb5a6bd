/- FnExactJoinTraces: for every two traces the law answers true; no condition. -/
import Derived.Test.YtkgohnlljbamlabJnS
import Derived.Test.YtkgohnlljbamlabTrcB
import Derived.Deep.DeepCutAuto
namespace Go.Proofs.Ytkgohnlljbamlab.fnExactJoinTraces
open Go.ChangeShapes Go.WideShapes Go.ChangeAt Go.RowKit Go.ChangeMaps
set_option linter.unusedSimpArgs false
set_option linter.unusedVariables false

theorem own : ownKnob Try.prog.godebug = none := by kernel_rfl


set_option maxRecDepth 100000 in
set_option maxHeartbeats 4000000 in
theorem walk_big0 (a0 : Tr) (v0 : Value) (a1 : Tr) (v1 : Value) (w : World) (h0 : TrL w w.heap.size v0 a0) (hw0 : I64 a0.st ∧ I64 a0.start ∧ ∀ y ∈ a0.xs, I64 y) (h1 : TrL w w.heap.size v1 a1) (hw1 : I64 a1.st ∧ I64 a1.start ∧ ∀ y ∈ a1.xs, I64 y)  (g0 : ¬ (a0.xs.length : Int) ≤ 1048576):
    Calls Try.prog 5 #[v0, v1] w fun e w' => e = .returned (.bool true) ∧ Below w.heap.size w w' := by
  obtain ⟨ao0, cap0, rfl⟩ := h0.form
  obtain ⟨ao1, cap1, rfl⟩ := h1.form
  have N1 := (Below.refl (w).heap.size w).alloc (Nat.le_refl _) (.cells #[.int .i64 a0.st, .int .i64 a0.start, .slice ao0 a0.xs.length cap0] 24)
  have bx1 : Bx (w.alloc (.cells #[.int .i64 a0.st, .int .i64 a0.start, .slice ao0 a0.xs.length cap0] 24)) (w.heap.size) [.int .i64 a0.st, .int .i64 a0.start, .slice ao0 a0.xs.length cap0] := Bx.new w [.int .i64 a0.st, .int .i64 a0.start, .slice ao0 a0.xs.length cap0] 24
  have m0_2 := h0.below (N1.mono (B' := w.heap.size) (by omega))
  have m1_2 := h1.below (N1.mono (B' := w.heap.size) (by omega))
  have C_2 := N1
  clear h0 h1
  clear N1
  have N3 := (Below.refl ((w.alloc (.cells #[.int .i64 a0.st, .int .i64 a0.start, .slice ao0 a0.xs.length cap0] 24))).heap.size (w.alloc (.cells #[.int .i64 a0.st, .int .i64 a0.start, .slice ao0 a0.xs.length cap0] 24))).alloc (Nat.le_refl _) (.cells #[.int .i64 a1.st, .int .i64 a1.start, .slice ao1 a1.xs.length cap1] 24)
  have bx3 : Bx ((w.alloc (.cells #[.int .i64 a0.st, .int .i64 a0.start, .slice ao0 a0.xs.length cap0] 24)).alloc (.cells #[.int .i64 a1.st, .int .i64 a1.start, .slice ao1 a1.xs.length cap1] 24)) (w.heap.size + 1) [.int .i64 a1.st, .int .i64 a1.start, .slice ao1 a1.xs.length cap1] := by simpa using Bx.new (w.alloc (.cells #[.int .i64 a0.st, .int .i64 a0.start, .slice ao0 a0.xs.length cap0] 24)) [.int .i64 a1.st, .int .i64 a1.start, .slice ao1 a1.xs.length cap1] 24
  have m0_4 := m0_2.below (N3.mono (B' := w.heap.size) (by simp <;> omega))
  have m1_4 := m1_2.below (N3.mono (B' := w.heap.size) (by simp <;> omega))
  have bp0_4 := bx1.below N3
  have C_4 := C_2.trans (N3.mono (B' := w.heap.size) (by simp <;> omega))
  clear m0_2 m1_2 bx1 C_2
  clear N3
  go_enter Try.func5, Try.ntmps5
  have q1 := bp0_4.2 0 _ rfl
  have q2 := bp0_4.2 1 _ rfl
  have q3 := bp0_4.2 2 _ rfl
  go_wp2_with fail
  refine (szgt_Trace a0 _ (1048576) _ w.heap.size m0_4 (by simp <;> omega) (by omega) (by omega) (by omega)).mono ?_
  rintro e w5 ⟨rfl, hb5⟩
  have z5 : w.heap.size + 2 ≤ w5.heap.size := by have := hb5.size; simpa using this
  clear q1 q2 q3
  have m0_6 := m0_4.below (hb5.mono (B' := w.heap.size) (by simp <;> omega))
  have m1_6 := m1_4.below (hb5.mono (B' := w.heap.size) (by simp <;> omega))
  have bp0_6 := bp0_4.below hb5
  have bp1_6 := bx3.below hb5
  have C_6 := C_4.trans (hb5.mono (B' := w.heap.size) (by simp <;> omega))
  clear m0_4 m1_4 bp0_4 bx3 C_4
  clear hb5
  go_wp2
  go_ret
  exact ⟨rfl, C_6⟩

set_option maxRecDepth 100000 in
set_option maxHeartbeats 4000000 in
theorem walk_big1 (a0 : Tr) (v0 : Value) (a1 : Tr) (v1 : Value) (w : World) (h0 : TrL w w.heap.size v0 a0) (hw0 : I64 a0.st ∧ I64 a0.start ∧ ∀ y ∈ a0.xs, I64 y) (h1 : TrL w w.heap.size v1 a1) (hw1 : I64 a1.st ∧ I64 a1.start ∧ ∀ y ∈ a1.xs, I64 y) (g0 : (a0.xs.length : Int) ≤ 1048576) (g1 : ¬ (a1.xs.length : Int) ≤ 1048576 - (a0.xs.length : Int)):
    Calls Try.prog 5 #[v0, v1] w fun e w' => e = .returned (.bool true) ∧ Below w.heap.size w w' := by
  obtain ⟨ao0, cap0, rfl⟩ := h0.form
  obtain ⟨ao1, cap1, rfl⟩ := h1.form
  have N1 := (Below.refl (w).heap.size w).alloc (Nat.le_refl _) (.cells #[.int .i64 a0.st, .int .i64 a0.start, .slice ao0 a0.xs.length cap0] 24)
  have bx1 : Bx (w.alloc (.cells #[.int .i64 a0.st, .int .i64 a0.start, .slice ao0 a0.xs.length cap0] 24)) (w.heap.size) [.int .i64 a0.st, .int .i64 a0.start, .slice ao0 a0.xs.length cap0] := Bx.new w [.int .i64 a0.st, .int .i64 a0.start, .slice ao0 a0.xs.length cap0] 24
  have m0_2 := h0.below (N1.mono (B' := w.heap.size) (by omega))
  have m1_2 := h1.below (N1.mono (B' := w.heap.size) (by omega))
  have C_2 := N1
  clear h0 h1
  clear N1
  have N3 := (Below.refl ((w.alloc (.cells #[.int .i64 a0.st, .int .i64 a0.start, .slice ao0 a0.xs.length cap0] 24))).heap.size (w.alloc (.cells #[.int .i64 a0.st, .int .i64 a0.start, .slice ao0 a0.xs.length cap0] 24))).alloc (Nat.le_refl _) (.cells #[.int .i64 a1.st, .int .i64 a1.start, .slice ao1 a1.xs.length cap1] 24)
  have bx3 : Bx ((w.alloc (.cells #[.int .i64 a0.st, .int .i64 a0.start, .slice ao0 a0.xs.length cap0] 24)).alloc (.cells #[.int .i64 a1.st, .int .i64 a1.start, .slice ao1 a1.xs.length cap1] 24)) (w.heap.size + 1) [.int .i64 a1.st, .int .i64 a1.start, .slice ao1 a1.xs.length cap1] := by simpa using Bx.new (w.alloc (.cells #[.int .i64 a0.st, .int .i64 a0.start, .slice ao0 a0.xs.length cap0] 24)) [.int .i64 a1.st, .int .i64 a1.start, .slice ao1 a1.xs.length cap1] 24
  have m0_4 := m0_2.below (N3.mono (B' := w.heap.size) (by simp <;> omega))
  have m1_4 := m1_2.below (N3.mono (B' := w.heap.size) (by simp <;> omega))
  have bp0_4 := bx1.below N3
  have C_4 := C_2.trans (N3.mono (B' := w.heap.size) (by simp <;> omega))
  clear m0_2 m1_2 bx1 C_2
  clear N3
  go_enter Try.func5, Try.ntmps5
  have d0 : ¬ 1048576 - (a0.xs.length : Int) < 0 := by omega
  have q1 := bp0_4.2 0 _ rfl
  have q2 := bp0_4.2 1 _ rfl
  have q3 := bp0_4.2 2 _ rfl
  go_wp2_with fail
  refine (sz_Trace a0 _ (1048576) _ w.heap.size m0_4 (by simp <;> omega) (by omega) (by omega) (by omega)).mono ?_
  rintro e w5 ⟨rfl, hb5⟩
  have z5 : w.heap.size + 2 ≤ w5.heap.size := by have := hb5.size; simpa using this
  clear q1 q2 q3
  have m0_6 := m0_4.below (hb5.mono (B' := w.heap.size) (by simp <;> omega))
  have m1_6 := m1_4.below (hb5.mono (B' := w.heap.size) (by simp <;> omega))
  have bp0_6 := bp0_4.below hb5
  have bp1_6 := bx3.below hb5
  have C_6 := C_4.trans (hb5.mono (B' := w.heap.size) (by simp <;> omega))
  clear m0_4 m1_4 bp0_4 bx3 C_4
  clear hb5
  have q4 := bp1_6.2 0 _ rfl
  have q5 := bp1_6.2 1 _ rfl
  have q6 := bp1_6.2 2 _ rfl
  go_wp2_with fail
  refine (szgt_Trace a1 _ (1048576 - (a0.xs.length : Int)) _ w.heap.size m1_6 (by omega) (by omega) (by omega) (by omega)).mono ?_
  rintro e w7 ⟨rfl, hb7⟩
  have z7 : w5.heap.size ≤ w7.heap.size := hb7.size
  clear q4 q5 q6
  have m0_8 := m0_6.below (hb7.mono (B' := w.heap.size) (by omega))
  have m1_8 := m1_6.below (hb7.mono (B' := w.heap.size) (by omega))
  have bp0_8 := bp0_6.below hb7
  have bp1_8 := bp1_6.below hb7
  have C_8 := C_6.trans (hb7.mono (B' := w.heap.size) (by omega))
  clear m0_6 m1_6 bp0_6 bp1_6 C_6
  clear hb7
  go_wp2
  go_ret
  exact ⟨rfl, C_8⟩

set_option maxRecDepth 100000 in
set_option maxHeartbeats 4000000 in
theorem walk_main (a0 : Tr) (v0 : Value) (a1 : Tr) (v1 : Value) (w : World) (h0 : TrL w w.heap.size v0 a0) (hw0 : I64 a0.st ∧ I64 a0.start ∧ ∀ y ∈ a0.xs, I64 y) (h1 : TrL w w.heap.size v1 a1) (hw1 : I64 a1.st ∧ I64 a1.start ∧ ∀ y ∈ a1.xs, I64 y) (g0 : (a0.xs.length : Int) ≤ 1048576) (g1 : (a1.xs.length : Int) ≤ 1048576 - (a0.xs.length : Int)):
    Calls Try.prog 5 #[v0, v1] w fun e w' => e = .returned (.bool true) ∧ Below w.heap.size w w' := by
  have hn0 : a0.xs.length ≤ 1048576 := by omega
  have hn1 : a1.xs.length ≤ 1048576 := by omega
  have hS := fun v0 v1 w B => specJn a0 v0 a1 v1 w B
  have hI := fun v0 v1 w B  => implJn a0 v0 a1 v1 w B 
  have hl0 : (resJn a0 a1).xs.length ≤ 1048576 := resJn_len a0 a1 hn0 hn1
  generalize resJn a0 a1 = r0 at *
  generalize okJn a0 a1 = r1 at *
  have HS := Lib.hid hS
  have HI := Lib.hid hI
  clear hS hI
  obtain ⟨ao0, cap0, rfl⟩ := h0.form
  obtain ⟨ao1, cap1, rfl⟩ := h1.form
  have N1 := (Below.refl (w).heap.size w).alloc (Nat.le_refl _) (.cells #[.int .i64 a0.st, .int .i64 a0.start, .slice ao0 a0.xs.length cap0] 24)
  have bx1 : Bx (w.alloc (.cells #[.int .i64 a0.st, .int .i64 a0.start, .slice ao0 a0.xs.length cap0] 24)) (w.heap.size) [.int .i64 a0.st, .int .i64 a0.start, .slice ao0 a0.xs.length cap0] := Bx.new w [.int .i64 a0.st, .int .i64 a0.start, .slice ao0 a0.xs.length cap0] 24
  have m0_2 := h0.below (N1.mono (B' := w.heap.size) (by omega))
  have m1_2 := h1.below (N1.mono (B' := w.heap.size) (by omega))
  have C_2 := N1
  clear h0 h1
  clear N1
  have N3 := (Below.refl ((w.alloc (.cells #[.int .i64 a0.st, .int .i64 a0.start, .slice ao0 a0.xs.length cap0] 24))).heap.size (w.alloc (.cells #[.int .i64 a0.st, .int .i64 a0.start, .slice ao0 a0.xs.length cap0] 24))).alloc (Nat.le_refl _) (.cells #[.int .i64 a1.st, .int .i64 a1.start, .slice ao1 a1.xs.length cap1] 24)
  have bx3 : Bx ((w.alloc (.cells #[.int .i64 a0.st, .int .i64 a0.start, .slice ao0 a0.xs.length cap0] 24)).alloc (.cells #[.int .i64 a1.st, .int .i64 a1.start, .slice ao1 a1.xs.length cap1] 24)) (w.heap.size + 1) [.int .i64 a1.st, .int .i64 a1.start, .slice ao1 a1.xs.length cap1] := by simpa using Bx.new (w.alloc (.cells #[.int .i64 a0.st, .int .i64 a0.start, .slice ao0 a0.xs.length cap0] 24)) [.int .i64 a1.st, .int .i64 a1.start, .slice ao1 a1.xs.length cap1] 24
  have m0_4 := m0_2.below (N3.mono (B' := w.heap.size) (by simp <;> omega))
  have m1_4 := m1_2.below (N3.mono (B' := w.heap.size) (by simp <;> omega))
  have bp0_4 := bx1.below N3
  have C_4 := C_2.trans (N3.mono (B' := w.heap.size) (by simp <;> omega))
  clear m0_2 m1_2 bx1 C_2
  clear N3
  have d0 : ¬ 1048576 - (a0.xs.length : Int) < 0 := by omega
  have d1 : ¬ 1048576 - (a0.xs.length : Int) - (a1.xs.length : Int) < 0 := by omega
  go_enter Try.func5, Try.ntmps5
  have q1 := bp0_4.2 0 _ rfl
  have q2 := bp0_4.2 1 _ rfl
  have q3 := bp0_4.2 2 _ rfl
  go_wp2_with fail
  refine (sz_Trace a0 _ (1048576) _ w.heap.size m0_4 (by simp <;> omega) (by omega) (by omega) (by omega)).mono ?_
  rintro e w5 ⟨rfl, hb5⟩
  have z5 : w.heap.size + 2 ≤ w5.heap.size := by have := hb5.size; simpa using this
  clear q1 q2 q3
  have m0_6 := m0_4.below (hb5.mono (B' := w.heap.size) (by simp <;> omega))
  have m1_6 := m1_4.below (hb5.mono (B' := w.heap.size) (by simp <;> omega))
  have bp0_6 := bp0_4.below hb5
  have bp1_6 := bx3.below hb5
  have C_6 := C_4.trans (hb5.mono (B' := w.heap.size) (by simp <;> omega))
  clear m0_4 m1_4 bp0_4 bx3 C_4
  clear hb5
  have q4 := bp1_6.2 0 _ rfl
  have q5 := bp1_6.2 1 _ rfl
  have q6 := bp1_6.2 2 _ rfl
  go_wp2_with fail
  refine (sz_Trace a1 _ (1048576 - (a0.xs.length : Int)) _ w.heap.size m1_6 (by omega) (by omega) (by omega) (by omega)).mono ?_
  rintro e w7 ⟨rfl, hb7⟩
  have z7 : w5.heap.size ≤ w7.heap.size := hb7.size
  clear q4 q5 q6
  have m0_8 := m0_6.below (hb7.mono (B' := w.heap.size) (by omega))
  have m1_8 := m1_6.below (hb7.mono (B' := w.heap.size) (by omega))
  have bp0_8 := bp0_6.below hb7
  have bp1_8 := bp1_6.below hb7
  have C_8 := C_6.trans (hb7.mono (B' := w.heap.size) (by omega))
  clear m0_6 m1_6 bp0_6 bp1_6 C_6
  clear hb7
  have q7 := bp0_8.2 0 _ rfl
  have q8 := bp0_8.2 1 _ rfl
  have q9 := bp0_8.2 2 _ rfl
  have q10 := bp1_8.2 0 _ rfl
  have q11 := bp1_8.2 1 _ rfl
  have q12 := bp1_8.2 2 _ rfl
  go_upto_region 8 with (fail)
  go_cut [6, 7] (fun s0 s1 wx => ∃ (g : Nat) (Fao : Option Addr) (Fcap : Nat), s0 = .pointer (some ⟨g, 0, none⟩) ∧ s1 = .bool r1 ∧ Bx wx g [.int .i64 r0.st, .int .i64 r0.start, .slice Fao r0.xs.length Fcap] ∧ TrO wx w7.heap.size wx.heap.size (.agg #[.int .i64 r0.st, .int .i64 r0.start, .slice Fao r0.xs.length Fcap]) r0 ∧ Below w7.heap.size w7 wx ∧ w7.heap.size ≤ g)
  case first =>
    have hS : ∀ w', Below w7.heap.size w7 w' → Below w7.heap.size w7 w' ∧ w'.cell? ⟨w.heap.size, 0, none⟩ = some (.int .i64 a0.st) ∧ w'.cell? ⟨w.heap.size, 1, none⟩ = some (.int .i64 a0.start) ∧ w'.cell? ⟨w.heap.size, 2, none⟩ = some (.slice ao0 a0.xs.length cap0) ∧ w'.cell? ⟨w.heap.size + 1, 0, none⟩ = some (.int .i64 a1.st) ∧ w'.cell? ⟨w.heap.size + 1, 1, none⟩ = some (.int .i64 a1.start) ∧ w'.cell? ⟨w.heap.size + 1, 2, none⟩ = some (.slice ao1 a1.xs.length cap1) := fun w' q => ⟨q, (bp0_8.below q).2 0 _ rfl, (bp0_8.below q).2 1 _ rfl, (bp0_8.below q).2 2 _ rfl, (bp1_8.below q).2 0 _ rfl, (bp1_8.below q).2 1 _ rfl, (bp1_8.below q).2 2 _ rfl⟩
    have HS0 := Lib.hid hS
    clear hS
    go_wp2_with fail
    go_region_held3 (fun w' => Below w7.heap.size w7 w' ∧ w'.cell? ⟨w.heap.size, 0, none⟩ = some (.int .i64 a0.st) ∧ w'.cell? ⟨w.heap.size, 1, none⟩ = some (.int .i64 a0.start) ∧ w'.cell? ⟨w.heap.size, 2, none⟩ = some (.slice ao0 a0.xs.length cap0) ∧ w'.cell? ⟨w.heap.size + 1, 0, none⟩ = some (.int .i64 a1.st) ∧ w'.cell? ⟨w.heap.size + 1, 1, none⟩ = some (.int .i64 a1.start) ∧ w'.cell? ⟨w.heap.size + 1, 2, none⟩ = some (.slice ao1 a1.xs.length cap1))
      (first
        | exact HS0.out _ (Below.refl _ _).drew
        | (with_reducible refine HS0.out _ ?_; first
            | with_reducible assumption
            | (with_reducible refine Below.alloc ?_ ?_ _; (first | with_reducible assumption | with_reducible exact (Below.refl _ _).drew); (first | with_reducible exact Nat.le_refl _ | with_reducible assumption | omega))
            | (with_reducible refine Below.drew (Below.alloc (Below.refl _ _) (Nat.le_refl _) _))
            | (with_reducible refine Below.setCell ?_ ?_ _; (with_reducible refine Below.setCell ?_ ?_ _); (with_reducible refine Below.setCell ?_ ?_ _); (with_reducible assumption); all_goals (first | with_reducible exact Nat.le_refl _ | with_reducible assumption | (show _ ≤ _; omega))))
        | fail "no way")
      (first
        | (go_at_call 14; ((with_reducible refine (to_Trace a0 _ w7.drew w.heap.size (m0_8.below (((Below.refl w7.heap.size w7).drew).mono (B' := w.heap.size) (by omega))) (Nat.le_trans (show w.heap.size ≤ w7.heap.size by omega) ((Below.refl w7.heap.size w7).drew).size) hn0).mono ?_); rintro e wa0 ⟨xv0, rfl, ox0, hb9_0⟩; have hq0 : Below w7.heap.size w7 wa0 := ((Below.refl w7.heap.size w7).drew).trans (hb9_0.mono ((Below.refl w7.heap.size w7).drew).size); have hz0 := hq0.size))
        | (go_at_call 14; ((with_reducible refine (to_Trace a0 _ (w7.drew.alloc (.cells #[.int .i64 0, .int .i64 0, .slice none 0 0] 28)) w.heap.size (m0_8.below ((((Below.refl w7.heap.size w7).drew).alloc (Nat.le_refl _) (.cells #[.int .i64 0, .int .i64 0, .slice none 0 0] 28)).mono (B' := w.heap.size) (by omega))) (Nat.le_trans (show w.heap.size ≤ w7.heap.size by omega) (((Below.refl w7.heap.size w7).drew).alloc (Nat.le_refl _) (.cells #[.int .i64 0, .int .i64 0, .slice none 0 0] 28)).size) hn0).mono ?_); rintro e wa0 ⟨xv0, rfl, ox0, hb9_0⟩; have hq0 : Below w7.heap.size w7 wa0 := (((Below.refl w7.heap.size w7).drew).alloc (Nat.le_refl _) (.cells #[.int .i64 0, .int .i64 0, .slice none 0 0] 28)).trans (hb9_0.mono (((Below.refl w7.heap.size w7).drew).alloc (Nat.le_refl _) (.cells #[.int .i64 0, .int .i64 0, .slice none 0 0] 28)).size); have hz0 := hq0.size; have hs0 : w7.heap.size + 1 ≤ wa0.heap.size := (by have hsz : (w7.alloc (.cells #[.int .i64 0, .int .i64 0, .slice none 0 0] 28)).heap.size ≤ wa0.heap.size := hb9_0.size; simp at hsz; omega); have nz := (Bx.new w7.drew [.int .i64 0, .int .i64 0, .slice none 0 0] 28).below hb9_0))
        | (go_at_call 14; ((with_reducible refine (to_Trace a0 _ (w7.alloc (.cells #[.int .i64 0, .int .i64 0, .slice none 0 0] 28)).drew w.heap.size (m0_8.below ((((Below.refl w7.heap.size w7).alloc (Nat.le_refl _) (.cells #[.int .i64 0, .int .i64 0, .slice none 0 0] 28)).drew).mono (B' := w.heap.size) (by omega))) (Nat.le_trans (show w.heap.size ≤ w7.heap.size by omega) (((Below.refl w7.heap.size w7).alloc (Nat.le_refl _) (.cells #[.int .i64 0, .int .i64 0, .slice none 0 0] 28)).drew).size) hn0).mono ?_); rintro e wa0 ⟨xv0, rfl, ox0, hb9_0⟩; have hq0 : Below w7.heap.size w7 wa0 := (((Below.refl w7.heap.size w7).alloc (Nat.le_refl _) (.cells #[.int .i64 0, .int .i64 0, .slice none 0 0] 28)).drew).trans (hb9_0.mono (((Below.refl w7.heap.size w7).alloc (Nat.le_refl _) (.cells #[.int .i64 0, .int .i64 0, .slice none 0 0] 28)).drew).size); have hz0 := hq0.size; have hs0 : w7.heap.size + 1 ≤ wa0.heap.size := (by have hsz : (w7.alloc (.cells #[.int .i64 0, .int .i64 0, .slice none 0 0] 28)).heap.size ≤ wa0.heap.size := hb9_0.size; simp at hsz; omega); have nz := (Bx.new w7 [.int .i64 0, .int .i64 0, .slice none 0 0] 28).below ((Below.refl (w7.alloc (.cells #[.int .i64 0, .int .i64 0, .slice none 0 0] 28)).heap.size (w7.alloc (.cells #[.int .i64 0, .int .i64 0, .slice none 0 0] 28))).drew.trans hb9_0)))
        | (go_at_call 14; ((with_reducible refine (to_Trace a1 _ wa0 w.heap.size (m1_8.below ((hq0).mono (B' := w.heap.size) (by omega))) (Nat.le_trans (show w.heap.size ≤ w7.heap.size by omega) (hq0).size) hn1).mono ?_); rintro e wa1 ⟨xv1, rfl, ox1, hb9_1⟩; have hq1 : Below w7.heap.size w7 wa1 := (hq0).trans (hb9_1.mono (hq0).size); have hz1 := hq1.size; have hs1 : wa0.heap.size ≤ wa1.heap.size := hb9_1.size; have ox0 := ox0.below ((hb9_1).mono (B' := wa0.heap.size) (Nat.le_refl _)); (first | (have nz := nz.below hb9_1) | skip)))
        | (go_at_call 14; ((with_reducible refine (to_Trace a1 _ (wa0.alloc (.cells #[.int .i64 0, .int .i64 0, .slice none 0 0] 28)) w.heap.size (m1_8.below (((hq0).alloc (hq0.size) (.cells #[.int .i64 0, .int .i64 0, .slice none 0 0] 28)).mono (B' := w.heap.size) (by omega))) (Nat.le_trans (show w.heap.size ≤ w7.heap.size by omega) ((hq0).alloc (hq0.size) (.cells #[.int .i64 0, .int .i64 0, .slice none 0 0] 28)).size) hn1).mono ?_); rintro e wa1 ⟨xv1, rfl, ox1, hb9_1⟩; have hq1 : Below w7.heap.size w7 wa1 := ((hq0).alloc (hq0.size) (.cells #[.int .i64 0, .int .i64 0, .slice none 0 0] 28)).trans (hb9_1.mono ((hq0).alloc (hq0.size) (.cells #[.int .i64 0, .int .i64 0, .slice none 0 0] 28)).size); have hz1 := hq1.size; have hs1 : wa0.heap.size + 1 ≤ wa1.heap.size := (by have hsz : (wa0.alloc (.cells #[.int .i64 0, .int .i64 0, .slice none 0 0] 28)).heap.size ≤ wa1.heap.size := hb9_1.size; simp at hsz; omega); have ox0 := ox0.below (((Below.refl wa0.heap.size wa0).alloc (Nat.le_refl _) (.cells #[.int .i64 0, .int .i64 0, .slice none 0 0] 28) |>.trans (hb9_1.mono (by simp))).mono (B' := wa0.heap.size) (Nat.le_refl _)); have nz := (Bx.new wa0 [.int .i64 0, .int .i64 0, .slice none 0 0] 28).below hb9_1))
        | (go_at_call 21; ((with_reducible refine (HS.out _ _ wa1 wa1.heap.size ((ox0.lst.below ((Below.refl wa1.heap.size wa1).mono (B' := wa0.heap.size) (by omega))).mono (by omega)) ((ox1.lst.below ((Below.refl wa1.heap.size wa1).mono (B' := wa1.heap.size) (by omega))).mono (by omega)) (Nat.le_refl _) hn0 hn1).mono ?_); rintro e wF ⟨yv, rfl, oy, hbF⟩; obtain ⟨Fao, Fcap, rfl⟩ := oy.form; have hqF : Below w7.heap.size w7 wF := (hq1).trans (hbF.mono (hq1).size); have hzF := hqF.size; have hzG := hbF.size; (first | (have nz := nz.below hbF) | skip); (first | (have u0 := nz.2 0 _ rfl; have u1 := nz.2 1 _ rfl; have u2 := nz.2 2 _ rfl; have u9 := nz.1.2; have u8 := nz.1.1) | skip)))
        | (go_at_call 21; ((with_reducible refine (HS.out _ _ (wa1.alloc (.cells #[.int .i64 0, .int .i64 0, .slice none 0 0] 28)) wa1.heap.size ((ox0.lst.below (((Below.refl wa1.heap.size wa1).alloc (Nat.le_refl _) (.cells #[.int .i64 0, .int .i64 0, .slice none 0 0] 28)).mono (B' := wa0.heap.size) (by omega))).mono (by omega)) ((ox1.lst.below (((Below.refl wa1.heap.size wa1).alloc (Nat.le_refl _) (.cells #[.int .i64 0, .int .i64 0, .slice none 0 0] 28)).mono (B' := wa1.heap.size) (by omega))).mono (by omega)) (by simp) hn0 hn1).mono ?_); rintro e wF ⟨yv, rfl, oy, hbF⟩; obtain ⟨Fao, Fcap, rfl⟩ := oy.form; have hqF : Below w7.heap.size w7 wF := ((hq1.alloc hq1.size (.cells #[.int .i64 0, .int .i64 0, .slice none 0 0] 28))).trans (hbF.mono ((hq1.alloc hq1.size (.cells #[.int .i64 0, .int .i64 0, .slice none 0 0] 28))).size); have hzF := hqF.size; have hzG := hbF.size; have nz := (Bx.new wa1 [.int .i64 0, .int .i64 0, .slice none 0 0] 28).below hbF; (first | (have u0 := nz.2 0 _ rfl; have u1 := nz.2 1 _ rfl; have u2 := nz.2 2 _ rfl; have u9 := nz.1.2; have u8 := nz.1.1) | skip))))
    all_goals (go_wp2_with fail; go_meet)
    all_goals first
      | (with_reducible refine ⟨wF.heap.size, Fao, Fcap, rfl, rfl, ?_⟩; exact ⟨Bx.new wF _ _, (oy.alloc _).mono (by have := hzF; have := hz1; first | omega | (simp; done) | (simp; omega)) (by simp), hqF.alloc hqF.size _, hqF.size⟩)
      | (with_reducible refine ⟨wa1.heap.size, Fao, Fcap, rfl, rfl, ?_⟩; exact ⟨nz.put3 _ _ _, ((((oy).setLow (p := ⟨wa1.heap.size, 0, none⟩) (by first | omega | (simp; done) | (simp; omega)) _).setLow (p := ⟨wa1.heap.size, 1, none⟩) (by first | omega | (simp; done) | (simp; omega)) _).setLow (p := ⟨wa1.heap.size, 2, none⟩) (by first | omega | (simp; done) | (simp; omega)) _).mono (by first | omega | (simp; done) | (simp; omega)) (by simp), (((hqF).setCell (p := ⟨wa1.heap.size, 0, none⟩) (by show w7.heap.size ≤ wa1.heap.size; omega) _).setCell (p := ⟨wa1.heap.size, 1, none⟩) (by show w7.heap.size ≤ wa1.heap.size; omega) _).setCell (p := ⟨wa1.heap.size, 2, none⟩) (by show w7.heap.size ≤ wa1.heap.size; omega) _, by omega⟩)
      | (with_reducible refine ⟨wa0.heap.size, Fao, Fcap, rfl, rfl, ?_⟩; exact ⟨nz.put3 _ _ _, ((((oy).setLow (p := ⟨wa0.heap.size, 0, none⟩) (by first | omega | (simp; done) | (simp; omega)) _).setLow (p := ⟨wa0.heap.size, 1, none⟩) (by first | omega | (simp; done) | (simp; omega)) _).setLow (p := ⟨wa0.heap.size, 2, none⟩) (by first | omega | (simp; done) | (simp; omega)) _).mono (by first | omega | (simp; done) | (simp; omega)) (by simp), (((hqF).setCell (p := ⟨wa0.heap.size, 0, none⟩) (by show w7.heap.size ≤ wa0.heap.size; omega) _).setCell (p := ⟨wa0.heap.size, 1, none⟩) (by show w7.heap.size ≤ wa0.heap.size; omega) _).setCell (p := ⟨wa0.heap.size, 2, none⟩) (by show w7.heap.size ≤ wa0.heap.size; omega) _, by omega⟩)
      | (with_reducible refine ⟨w7.heap.size, Fao, Fcap, rfl, rfl, ?_⟩; exact ⟨nz.put3 _ _ _, ((((oy).setLow (p := ⟨w7.heap.size, 0, none⟩) (by first | omega | (simp; done) | (simp; omega)) _).setLow (p := ⟨w7.heap.size, 1, none⟩) (by first | omega | (simp; done) | (simp; omega)) _).setLow (p := ⟨w7.heap.size, 2, none⟩) (by first | omega | (simp; done) | (simp; omega)) _).mono (by first | omega | (simp; done) | (simp; omega)) (by simp), (((hqF).setCell (p := ⟨w7.heap.size, 0, none⟩) (by show w7.heap.size ≤ w7.heap.size; omega) _).setCell (p := ⟨w7.heap.size, 1, none⟩) (by show w7.heap.size ≤ w7.heap.size; omega) _).setCell (p := ⟨w7.heap.size, 2, none⟩) (by show w7.heap.size ≤ w7.heap.size; omega) _, by omega⟩)
  case rest =>
    obtain ⟨g9, aoc9, capc9, rfl, rfl, bxc9, oc9, hb9, gl9⟩ := hcut
    generalize wc = w9 at *
    have gu9 := bxc9.1.1
    have z9 : w7.heap.size ≤ w9.heap.size := hb9.size
    clear q7 q8 q9 q10 q11 q12
    have m0_10 := m0_8.below (hb9.mono (B' := w.heap.size) (by omega))
    have m1_10 := m1_8.below (hb9.mono (B' := w.heap.size) (by omega))
    have bp0_10 := bp0_8.below hb9
    have bp1_10 := bp1_8.below hb9
    have C_10 := C_8.trans (hb9.mono (B' := w.heap.size) (by omega))
    clear m0_8 m1_8 bp0_8 bp1_8 C_8
    clear hb9
    have q13 := bp0_10.2 0 _ rfl
    have q14 := bp0_10.2 1 _ rfl
    have q15 := bp0_10.2 2 _ rfl
    go_wp2_with fail
    refine (to_Trace a0 _ _ w.heap.size m0_10 (by omega) hn0).mono ?_
    rintro e w11 ⟨X0, rfl, oX0, hb11⟩
    have z11 : w9.heap.size ≤ w11.heap.size := hb11.size
    clear q13 q14 q15
    have m0_12 := m0_10.below (hb11.mono (B' := w.heap.size) (by omega))
    have m1_12 := m1_10.below (hb11.mono (B' := w.heap.size) (by omega))
    have kyc9_12 := oc9.below (hb11.mono (B' := w9.heap.size) (by omega))
    have bp0_12 := bp0_10.below hb11
    have bp1_12 := bp1_10.below hb11
    have bbxyc9_12 := bxc9.below hb11
    have C_12 := C_10.trans (hb11.mono (B' := w.heap.size) (by omega))
    clear m0_10 m1_10 oc9 bp0_10 bp1_10 bxc9 C_10
    clear hb11
    have kX0_o := oX0.mono (L' := w9.heap.size) (B' := w11.heap.size) (by simp <;> omega) (Nat.le_refl _)
    clear oX0
    obtain ⟨aoX0, capX0, rfl⟩ := kX0_o.form
    have N13 := (Below.refl (w11).heap.size w11).alloc (Nat.le_refl _) (.cells #[.int .i64 a0.st, .int .i64 a0.start, .slice aoX0 a0.xs.length capX0] 28)
    have bx13 : Bx (w11.alloc (.cells #[.int .i64 a0.st, .int .i64 a0.start, .slice aoX0 a0.xs.length capX0] 28)) (w11.heap.size) [.int .i64 a0.st, .int .i64 a0.start, .slice aoX0 a0.xs.length capX0] := Bx.new w11 [.int .i64 a0.st, .int .i64 a0.start, .slice aoX0 a0.xs.length capX0] 28
    have m0_14 := m0_12.below (N13.mono (B' := w.heap.size) (by omega))
    have m1_14 := m1_12.below (N13.mono (B' := w.heap.size) (by omega))
    have kyc9_14 := kyc9_12.below (N13.mono (B' := w9.heap.size) (by omega))
    have kX0_14 := kX0_o.below (N13.mono (B' := w11.heap.size) (by omega))
    have bp0_14 := bp0_12.below N13
    have bp1_14 := bp1_12.below N13
    have bbxyc9_14 := bbxyc9_12.below N13
    have C_14 := C_12.trans (N13.mono (B' := w.heap.size) (by omega))
    clear m0_12 m1_12 kyc9_12 kX0_o bp0_12 bp1_12 bbxyc9_12 C_12
    clear N13
    have q16 := bp1_14.2 0 _ rfl
    have q17 := bp1_14.2 1 _ rfl
    have q18 := bp1_14.2 2 _ rfl
    go_wp2_with fail
    refine (to_Trace a1 _ _ w.heap.size m1_14 (by simp <;> omega) hn1).mono ?_
    rintro e w15 ⟨X1, rfl, oX1, hb15⟩
    have z15 : w11.heap.size + 1 ≤ w15.heap.size := by have := hb15.size; simpa using this
    clear q16 q17 q18
    have m0_16 := m0_14.below (hb15.mono (B' := w.heap.size) (by simp <;> omega))
    have m1_16 := m1_14.below (hb15.mono (B' := w.heap.size) (by simp <;> omega))
    have kyc9_16 := kyc9_14.below (hb15.mono (B' := w9.heap.size) (by simp <;> omega))
    have kX0_16 := kX0_14.below (hb15.mono (B' := w11.heap.size) (by simp <;> omega))
    have bp0_16 := bp0_14.below hb15
    have bp1_16 := bp1_14.below hb15
    have bbxyc9_16 := bbxyc9_14.below hb15
    have bbxX0_16 := bx13.below hb15
    have C_16 := C_14.trans (hb15.mono (B' := w.heap.size) (by simp <;> omega))
    clear m0_14 m1_14 kyc9_14 kX0_14 bp0_14 bp1_14 bbxyc9_14 bx13 C_14
    clear hb15
    have kX1_o := oX1.mono (L' := w11.heap.size + 1) (B' := w15.heap.size) (by simp <;> omega) (Nat.le_refl _)
    clear oX1
    obtain ⟨aoX1, capX1, rfl⟩ := kX1_o.form
    have N17 := (Below.refl (w15).heap.size w15).alloc (Nat.le_refl _) (.cells #[.int .i64 a1.st, .int .i64 a1.start, .slice aoX1 a1.xs.length capX1] 28)
    have bx17 : Bx (w15.alloc (.cells #[.int .i64 a1.st, .int .i64 a1.start, .slice aoX1 a1.xs.length capX1] 28)) (w15.heap.size) [.int .i64 a1.st, .int .i64 a1.start, .slice aoX1 a1.xs.length capX1] := Bx.new w15 [.int .i64 a1.st, .int .i64 a1.start, .slice aoX1 a1.xs.length capX1] 28
    have m0_18 := m0_16.below (N17.mono (B' := w.heap.size) (by omega))
    have m1_18 := m1_16.below (N17.mono (B' := w.heap.size) (by omega))
    have kyc9_18 := kyc9_16.below (N17.mono (B' := w9.heap.size) (by omega))
    have kX0_18 := kX0_16.below (N17.mono (B' := w11.heap.size) (by omega))
    have kX1_18 := kX1_o.below (N17.mono (B' := w15.heap.size) (by omega))
    have bp0_18 := bp0_16.below N17
    have bp1_18 := bp1_16.below N17
    have bbxyc9_18 := bbxyc9_16.below N17
    have bbxX0_18 := bbxX0_16.below N17
    have C_18 := C_16.trans (N17.mono (B' := w.heap.size) (by omega))
    clear m0_16 m1_16 kyc9_16 kX0_16 kX1_o bp0_16 bp1_16 bbxyc9_16 bbxX0_16 C_16
    clear N17
    have q19 := bbxX0_18.2 0 _ rfl
    have q20 := bbxX0_18.2 1 _ rfl
    have q21 := bbxX0_18.2 2 _ rfl
    have q22 := bx17.2 0 _ rfl
    have q23 := bx17.2 1 _ rfl
    have q24 := bx17.2 2 _ rfl
    go_wp2_with fail
    refine (HI.out _ _ _ ((w15.alloc (.cells #[.int .i64 a1.st, .int .i64 a1.start, .slice aoX1 a1.xs.length capX1] 28))).heap.size  (kX0_18.lst.mono (by simp <;> omega)) (kX1_18.lst.mono (by simp <;> omega)) (Nat.le_refl _) hn0 hn1   ).mono ?_
    rintro e w19 ⟨y0_18, rfl, oy0_18, hb19⟩
    have z19 : w15.heap.size + 1 ≤ w19.heap.size := by have := hb19.size; simpa using this
    clear q19 q20 q21 q22 q23 q24
    have m0_20 := m0_18.below (hb19.mono (B' := w.heap.size) (by simp <;> omega))
    have m1_20 := m1_18.below (hb19.mono (B' := w.heap.size) (by simp <;> omega))
    have kyc9_20 := kyc9_18.below (hb19.mono (B' := w9.heap.size) (by simp <;> omega))
    have kX0_20 := kX0_18.below (hb19.mono (B' := w11.heap.size) (by simp <;> omega))
    have kX1_20 := kX1_18.below (hb19.mono (B' := w15.heap.size) (by simp <;> omega))
    have bp0_20 := bp0_18.below hb19
    have bp1_20 := bp1_18.below hb19
    have bbxyc9_20 := bbxyc9_18.below hb19
    have bbxX0_20 := bbxX0_18.below hb19
    have bbxX1_20 := bx17.below hb19
    have C_20 := C_18.trans (hb19.mono (B' := w.heap.size) (by simp <;> omega))
    clear m0_18 m1_18 kyc9_18 kX0_18 kX1_18 bp0_18 bp1_18 bbxyc9_18 bbxX0_18 bx17 C_18
    clear hb19
    have ky0_18_o := oy0_18.mono (L' := w15.heap.size + 1) (B' := w19.heap.size) (by simp <;> omega) (Nat.le_refl _)
    clear oy0_18
    obtain ⟨aoy0_18, capy0_18, rfl⟩ := ky0_18_o.form
    have N21 := (Below.refl (w19).heap.size w19).alloc (Nat.le_refl _) (.cells #[.int .i64 r0.st, .int .i64 r0.start, .slice aoy0_18 r0.xs.length capy0_18] 28)
    have bx21 : Bx (w19.alloc (.cells #[.int .i64 r0.st, .int .i64 r0.start, .slice aoy0_18 r0.xs.length capy0_18] 28)) (w19.heap.size) [.int .i64 r0.st, .int .i64 r0.start, .slice aoy0_18 r0.xs.length capy0_18] := Bx.new w19 [.int .i64 r0.st, .int .i64 r0.start, .slice aoy0_18 r0.xs.length capy0_18] 28
    have m0_22 := m0_20.below (N21.mono (B' := w.heap.size) (by omega))
    have m1_22 := m1_20.below (N21.mono (B' := w.heap.size) (by omega))
    have kyc9_22 := kyc9_20.below (N21.mono (B' := w9.heap.size) (by omega))
    have kX0_22 := kX0_20.below (N21.mono (B' := w11.heap.size) (by omega))
    have kX1_22 := kX1_20.below (N21.mono (B' := w15.heap.size) (by omega))
    have ky0_18_22 := ky0_18_o.below (N21.mono (B' := w19.heap.size) (by omega))
    have bp0_22 := bp0_20.below N21
    have bp1_22 := bp1_20.below N21
    have bbxyc9_22 := bbxyc9_20.below N21
    have bbxX0_22 := bbxX0_20.below N21
    have bbxX1_22 := bbxX1_20.below N21
    have C_22 := C_20.trans (N21.mono (B' := w.heap.size) (by omega))
    clear m0_20 m1_20 kyc9_20 kX0_20 kX1_20 ky0_18_o bp0_20 bp1_20 bbxyc9_20 bbxX0_20 bbxX1_20 C_20
    clear N21
    have q25 := bx21.2 0 _ rfl
    have q26 := bx21.2 1 _ rfl
    have q27 := bx21.2 2 _ rfl
    have q28 := bbxyc9_22.2 0 _ rfl
    have q29 := bbxyc9_22.2 1 _ rfl
    have q30 := bbxyc9_22.2 2 _ rfl
    go_wp2_with fail
    refine (eq_Trace r0 _ _ _ ((w19.alloc (.cells #[.int .i64 r0.st, .int .i64 r0.start, .slice aoy0_18 r0.xs.length capy0_18] 28))).heap.size (ky0_18_22.lst.mono (by simp <;> omega)) (kyc9_22.lst.mono (by simp <;> omega)) (Nat.le_refl _)).mono ?_
    rintro e w23 ⟨rfl, hb23⟩
    have z23 : w19.heap.size + 1 ≤ w23.heap.size := by have := hb23.size; simpa using this
    clear q25 q26 q27 q28 q29 q30
    have m0_24 := m0_22.below (hb23.mono (B' := w.heap.size) (by simp <;> omega))
    have m1_24 := m1_22.below (hb23.mono (B' := w.heap.size) (by simp <;> omega))
    have kyc9_24 := kyc9_22.below (hb23.mono (B' := w9.heap.size) (by simp <;> omega))
    have kX0_24 := kX0_22.below (hb23.mono (B' := w11.heap.size) (by simp <;> omega))
    have kX1_24 := kX1_22.below (hb23.mono (B' := w15.heap.size) (by simp <;> omega))
    have ky0_18_24 := ky0_18_22.below (hb23.mono (B' := w19.heap.size) (by simp <;> omega))
    have bp0_24 := bp0_22.below hb23
    have bp1_24 := bp1_22.below hb23
    have bbxyc9_24 := bbxyc9_22.below hb23
    have bbxX0_24 := bbxX0_22.below hb23
    have bbxX1_24 := bbxX1_22.below hb23
    have bbxy0_18_24 := bx21.below hb23
    have C_24 := C_22.trans (hb23.mono (B' := w.heap.size) (by simp <;> omega))
    clear m0_22 m1_22 kyc9_22 kX0_22 kX1_22 ky0_18_22 bp0_22 bp1_22 bbxyc9_22 bbxX0_22 bbxX1_22 bx21 C_22
    clear hb23
    have q31 := bp0_24.2 0 _ rfl
    have q32 := bp0_24.2 1 _ rfl
    have q33 := bp0_24.2 2 _ rfl
    have q34 := bbxX0_24.2 0 _ rfl
    have q35 := bbxX0_24.2 1 _ rfl
    have q36 := bbxX0_24.2 2 _ rfl
    go_wp2
    go_region_held3 (fun w' => Below w23.heap.size w23 w' ∧ w'.cell? ⟨w.heap.size, 0, none⟩ = some (.int .i64 a0.st) ∧ w'.cell? ⟨w.heap.size, 1, none⟩ = some (.int .i64 a0.start) ∧ w'.cell? ⟨w.heap.size, 2, none⟩ = some (.slice ao0 a0.xs.length cap0) ∧ w'.cell? ⟨w11.heap.size, 0, none⟩ = some (.int .i64 a0.st) ∧ w'.cell? ⟨w11.heap.size, 1, none⟩ = some (.int .i64 a0.start) ∧ w'.cell? ⟨w11.heap.size, 2, none⟩ = some (.slice aoX0 a0.xs.length capX0))
      (first
        | exact ⟨(Below.refl _ _).drew, q31, q32, q33, q34, q35, q36⟩
        | (have q := (Below.refl w23.heap.size w23).drew.trans hb7; exact ⟨q, (bp0_24.below q).2 0 _ rfl, (bp0_24.below q).2 1 _ rfl, (bp0_24.below q).2 2 _ rfl, (bbxX0_24.below q).2 0 _ rfl, (bbxX0_24.below q).2 1 _ rfl, (bbxX0_24.below q).2 2 _ rfl⟩)
        | (have q := ((Below.refl w23.heap.size w23).drew.trans hb7).trans (hb8.mono hb7.size); exact ⟨q, (bp0_24.below q).2 0 _ rfl, (bp0_24.below q).2 1 _ rfl, (bp0_24.below q).2 2 _ rfl, (bbxX0_24.below q).2 0 _ rfl, (bbxX0_24.below q).2 1 _ rfl, (bbxX0_24.below q).2 2 _ rfl⟩))
      (first
        | (go_at_call 14; refine (to_Trace a0 _ _ w.heap.size (m0_24.below (Below.refl _ _).drew) (by show w.heap.size ≤ w23.heap.size; omega) hn0).mono ?_; rintro e wA25 ⟨x7, rfl, o7, hb7⟩)
        | (go_at_call 16; refine (eq_Trace a0 _ _ _ wA25.heap.size ((kX0_24.lst.below (((Below.refl w23.heap.size w23).drew.trans hb7).mono (B' := w11.heap.size) (by omega))).mono (Nat.le_trans (show w11.heap.size ≤ w23.heap.size by omega) hb7.size)) o7.lst (Nat.le_refl _)).mono ?_; rintro e wB25 ⟨rfl, hb8⟩))
    have hb25 : Below w23.heap.size w23 wB25 := ((Below.refl w23.heap.size w23).drew.trans hb7).trans (hb8.mono hb7.size)
    clear o7 hb7 hb8 q31 q32 q33 q34 q35 q36
    have z25 : w23.heap.size ≤ wB25.heap.size := hb25.size
    have m0_26 := m0_24.below (hb25.mono (B' := w.heap.size) (by omega))
    have m1_26 := m1_24.below (hb25.mono (B' := w.heap.size) (by omega))
    have kyc9_26 := kyc9_24.below (hb25.mono (B' := w9.heap.size) (by omega))
    have kX0_26 := kX0_24.below (hb25.mono (B' := w11.heap.size) (by omega))
    have kX1_26 := kX1_24.below (hb25.mono (B' := w15.heap.size) (by omega))
    have ky0_18_26 := ky0_18_24.below (hb25.mono (B' := w19.heap.size) (by omega))
    have bp0_26 := bp0_24.below hb25
    have bp1_26 := bp1_24.below hb25
    have bbxyc9_26 := bbxyc9_24.below hb25
    have bbxX0_26 := bbxX0_24.below hb25
    have bbxX1_26 := bbxX1_24.below hb25
    have bbxy0_18_26 := bbxy0_18_24.below hb25
    have C_26 := C_24.trans (hb25.mono (B' := w.heap.size) (by omega))
    clear m0_24 m1_24 kyc9_24 kX0_24 kX1_24 ky0_18_24 bp0_24 bp1_24 bbxyc9_24 bbxX0_24 bbxX1_24 bbxy0_18_24 C_24
    clear hb25
    have q37 := bp1_26.2 0 _ rfl
    have q38 := bp1_26.2 1 _ rfl
    have q39 := bp1_26.2 2 _ rfl
    have q40 := bbxX1_26.2 0 _ rfl
    have q41 := bbxX1_26.2 1 _ rfl
    have q42 := bbxX1_26.2 2 _ rfl
    go_wp2
    go_region_held3 (fun w' => Below wB25.heap.size wB25 w' ∧ w'.cell? ⟨w.heap.size + 1, 0, none⟩ = some (.int .i64 a1.st) ∧ w'.cell? ⟨w.heap.size + 1, 1, none⟩ = some (.int .i64 a1.start) ∧ w'.cell? ⟨w.heap.size + 1, 2, none⟩ = some (.slice ao1 a1.xs.length cap1) ∧ w'.cell? ⟨w15.heap.size, 0, none⟩ = some (.int .i64 a1.st) ∧ w'.cell? ⟨w15.heap.size, 1, none⟩ = some (.int .i64 a1.start) ∧ w'.cell? ⟨w15.heap.size, 2, none⟩ = some (.slice aoX1 a1.xs.length capX1))
      (first
        | exact ⟨(Below.refl _ _).drew, q37, q38, q39, q40, q41, q42⟩
        | (have q := (Below.refl wB25.heap.size wB25).drew.trans hb7; exact ⟨q, (bp1_26.below q).2 0 _ rfl, (bp1_26.below q).2 1 _ rfl, (bp1_26.below q).2 2 _ rfl, (bbxX1_26.below q).2 0 _ rfl, (bbxX1_26.below q).2 1 _ rfl, (bbxX1_26.below q).2 2 _ rfl⟩)
        | (have q := ((Below.refl wB25.heap.size wB25).drew.trans hb7).trans (hb8.mono hb7.size); exact ⟨q, (bp1_26.below q).2 0 _ rfl, (bp1_26.below q).2 1 _ rfl, (bp1_26.below q).2 2 _ rfl, (bbxX1_26.below q).2 0 _ rfl, (bbxX1_26.below q).2 1 _ rfl, (bbxX1_26.below q).2 2 _ rfl⟩))
      (first
        | (go_at_call 14; refine (to_Trace a1 _ _ w.heap.size (m1_26.below (Below.refl _ _).drew) (by show w.heap.size ≤ wB25.heap.size; omega) hn1).mono ?_; rintro e wA27 ⟨x7, rfl, o7, hb7⟩)
        | (go_at_call 16; refine (eq_Trace a1 _ _ _ wA27.heap.size ((kX1_26.lst.below (((Below.refl wB25.heap.size wB25).drew.trans hb7).mono (B' := w15.heap.size) (by omega))).mono (Nat.le_trans (show w15.heap.size ≤ wB25.heap.size by omega) hb7.size)) o7.lst (Nat.le_refl _)).mono ?_; rintro e wB27 ⟨rfl, hb8⟩))
    have hb27 : Below wB25.heap.size wB25 wB27 := ((Below.refl wB25.heap.size wB25).drew.trans hb7).trans (hb8.mono hb7.size)
    clear o7 hb7 hb8 q37 q38 q39 q40 q41 q42
    have z27 : wB25.heap.size ≤ wB27.heap.size := hb27.size
    have m0_28 := m0_26.below (hb27.mono (B' := w.heap.size) (by omega))
    have m1_28 := m1_26.below (hb27.mono (B' := w.heap.size) (by omega))
    have kyc9_28 := kyc9_26.below (hb27.mono (B' := w9.heap.size) (by omega))
    have kX0_28 := kX0_26.below (hb27.mono (B' := w11.heap.size) (by omega))
    have kX1_28 := kX1_26.below (hb27.mono (B' := w15.heap.size) (by omega))
    have ky0_18_28 := ky0_18_26.below (hb27.mono (B' := w19.heap.size) (by omega))
    have bp0_28 := bp0_26.below hb27
    have bp1_28 := bp1_26.below hb27
    have bbxyc9_28 := bbxyc9_26.below hb27
    have bbxX0_28 := bbxX0_26.below hb27
    have bbxX1_28 := bbxX1_26.below hb27
    have bbxy0_18_28 := bbxy0_18_26.below hb27
    have C_28 := C_26.trans (hb27.mono (B' := w.heap.size) (by omega))
    clear m0_26 m1_26 kyc9_26 kX0_26 kX1_26 ky0_18_26 bp0_26 bp1_26 bbxyc9_26 bbxX0_26 bbxX1_26 bbxy0_18_26 C_26
    clear hb27
    have q43 := bbxX0_28.2 0 _ rfl
    have q44 := bbxX0_28.2 1 _ rfl
    have q45 := bbxX0_28.2 2 _ rfl
    go_wp2_with fail
    refine (mark_Trace a0 _ (1) _ (w9.heap.size) w11.heap.size kX0_28 (by omega) hn0 (by omega) (by omega)).mono ?_
    rintro e w29 ⟨rfl, mk, hu29⟩
    have z29 : wB27.heap.size ≤ w29.heap.size := hu29.size
    clear q43 q44 q45
    have m0_30 := m0_28.below (hu29.low (B := w.heap.size) (by omega) (by omega))
    have m1_30 := m1_28.below (hu29.low (B := w.heap.size) (by omega) (by omega))
    have kyc9_30 := kyc9_28.below (hu29.low (B := w9.heap.size) (by omega) (by omega))
    have kX1_30 := kX1_28.high hu29 (by omega)
    have ky0_18_30 := ky0_18_28.high hu29 (by omega)
    have bp0_30 := bp0_28.upd hu29 (by omega)
    have bp1_30 := bp1_28.upd hu29 (by omega)
    have bbxyc9_30 := bbxyc9_28.upd hu29 (by omega)
    have bbxX0_30 := bbxX0_28.upd hu29 (by omega)
    have bbxX1_30 := bbxX1_28.upd hu29 (by omega)
    have bbxy0_18_30 := bbxy0_18_28.upd hu29 (by omega)
    have C_30 := C_28.trans (hu29.low (B := w.heap.size) (by omega) (by omega))
    clear m0_28 m1_28 kyc9_28 kX1_28 ky0_18_28 bp0_28 bp1_28 bbxyc9_28 bbxX0_28 bbxX1_28 bbxy0_18_28 C_28
    clear hu29
    clear kX0_28
    have kX0_m29 := mk
    clear mk
    have q46 := bbxX1_30.2 0 _ rfl
    have q47 := bbxX1_30.2 1 _ rfl
    have q48 := bbxX1_30.2 2 _ rfl
    go_wp2_with fail
    refine (mark_Trace a1 _ (1 + (a0.xs.length : Int)) _ (w11.heap.size + 1) w15.heap.size kX1_30 (by omega) hn1 (by omega) (by omega)).mono ?_
    rintro e w31 ⟨rfl, mk, hu31⟩
    have z31 : w29.heap.size ≤ w31.heap.size := hu31.size
    clear q46 q47 q48
    have m0_32 := m0_30.below (hu31.low (B := w.heap.size) (by omega) (by omega))
    have m1_32 := m1_30.below (hu31.low (B := w.heap.size) (by omega) (by omega))
    have kyc9_32 := kyc9_30.below (hu31.low (B := w9.heap.size) (by omega) (by omega))
    have kX0_32 := kX0_m29.below (hu31.low (B := w11.heap.size) (by omega) (by omega))
    have ky0_18_32 := ky0_18_30.high hu31 (by omega)
    have bp0_32 := bp0_30.upd hu31 (by omega)
    have bp1_32 := bp1_30.upd hu31 (by omega)
    have bbxyc9_32 := bbxyc9_30.upd hu31 (by omega)
    have bbxX0_32 := bbxX0_30.upd hu31 (by omega)
    have bbxX1_32 := bbxX1_30.upd hu31 (by omega)
    have bbxy0_18_32 := bbxy0_18_30.upd hu31 (by omega)
    have C_32 := C_30.trans (hu31.low (B := w.heap.size) (by omega) (by omega))
    clear m0_30 m1_30 kyc9_30 kX0_m29 ky0_18_30 bp0_30 bp1_30 bbxyc9_30 bbxX0_30 bbxX1_30 bbxy0_18_30 C_30
    clear hu31
    clear kX1_30
    have kX1_m31 := mk
    clear mk
    have dk32 : ¬ (1 + (a0.xs.length : Int) + (a1.xs.length : Int)) < 0 := by omega
    have q49 := bbxy0_18_32.2 0 _ rfl
    have q50 := bbxy0_18_32.2 1 _ rfl
    have q51 := bbxy0_18_32.2 2 _ rfl
    have q52 := bbxyc9_32.2 0 _ rfl
    have q53 := bbxyc9_32.2 1 _ rfl
    have q54 := bbxyc9_32.2 2 _ rfl
    go_wp2_with fail
    refine (eq_Trace r0 _ _ _ (w31).heap.size (ky0_18_32.lst.mono (by omega)) (kyc9_32.lst.mono (by omega)) (Nat.le_refl _)).mono ?_
    rintro e w33 ⟨rfl, hb33⟩
    have z33 : w31.heap.size ≤ w33.heap.size := hb33.size
    clear q49 q50 q51 q52 q53 q54
    have m0_34 := m0_32.below (hb33.mono (B' := w.heap.size) (by omega))
    have m1_34 := m1_32.below (hb33.mono (B' := w.heap.size) (by omega))
    have kyc9_34 := kyc9_32.below (hb33.mono (B' := w9.heap.size) (by omega))
    have kX0_34 := kX0_32.below (hb33.mono (B' := w11.heap.size) (by omega))
    have kX1_34 := kX1_m31.below (hb33.mono (B' := w15.heap.size) (by omega))
    have ky0_18_34 := ky0_18_32.below (hb33.mono (B' := w19.heap.size) (by omega))
    have bp0_34 := bp0_32.below hb33
    have bp1_34 := bp1_32.below hb33
    have bbxyc9_34 := bbxyc9_32.below hb33
    have bbxX0_34 := bbxX0_32.below hb33
    have bbxX1_34 := bbxX1_32.below hb33
    have bbxy0_18_34 := bbxy0_18_32.below hb33
    have C_34 := C_32.trans (hb33.mono (B' := w.heap.size) (by omega))
    clear m0_32 m1_32 kyc9_32 kX0_32 kX1_m31 ky0_18_32 bp0_32 bp1_32 bbxyc9_32 bbxX0_32 bbxX1_32 bbxy0_18_32 C_32
    clear hb33
    have q55 := bbxy0_18_34.2 0 _ rfl
    have q56 := bbxy0_18_34.2 1 _ rfl
    have q57 := bbxy0_18_34.2 2 _ rfl
    go_wp2_with fail
    refine (mark_Trace r0 _ (1) _ (w15.heap.size + 1) w19.heap.size ky0_18_34 (by omega) hl0 (by omega) (by omega)).mono ?_
    rintro e w35 ⟨rfl, mk, hu35⟩
    have z35 : w33.heap.size ≤ w35.heap.size := hu35.size
    clear q55 q56 q57
    have m0_36 := m0_34.below (hu35.low (B := w.heap.size) (by omega) (by omega))
    have m1_36 := m1_34.below (hu35.low (B := w.heap.size) (by omega) (by omega))
    have kyc9_36 := kyc9_34.below (hu35.low (B := w9.heap.size) (by omega) (by omega))
    have kX0_36 := kX0_34.below (hu35.low (B := w11.heap.size) (by omega) (by omega))
    have kX1_36 := kX1_34.below (hu35.low (B := w15.heap.size) (by omega) (by omega))
    have bp0_36 := bp0_34.upd hu35 (by omega)
    have bp1_36 := bp1_34.upd hu35 (by omega)
    have bbxyc9_36 := bbxyc9_34.upd hu35 (by omega)
    have bbxX0_36 := bbxX0_34.upd hu35 (by omega)
    have bbxX1_36 := bbxX1_34.upd hu35 (by omega)
    have bbxy0_18_36 := bbxy0_18_34.upd hu35 (by omega)
    have C_36 := C_34.trans (hu35.low (B := w.heap.size) (by omega) (by omega))
    clear m0_34 m1_34 kyc9_34 kX0_34 kX1_34 bp0_34 bp1_34 bbxyc9_34 bbxX0_34 bbxX1_34 bbxy0_18_34 C_34
    clear hu35
    clear ky0_18_34
    have ky0_18_m35 := mk
    clear mk
    have q58 := bbxy0_18_36.2 0 _ rfl
    have q59 := bbxy0_18_36.2 1 _ rfl
    have q60 := bbxy0_18_36.2 2 _ rfl
    go_wp2_with fail
    refine (held_Trace r0 _ (1) _ (w19.heap.size) ky0_18_m35.lst (by omega) hl0 (by omega) (by omega)).mono ?_
    rintro e w37 ⟨rfl, hb37⟩
    have z37 : w35.heap.size ≤ w37.heap.size := hb37.size
    clear q58 q59 q60
    have m0_38 := m0_36.below (hb37.mono (B' := w.heap.size) (by omega))
    have m1_38 := m1_36.below (hb37.mono (B' := w.heap.size) (by omega))
    have kyc9_38 := kyc9_36.below (hb37.mono (B' := w9.heap.size) (by omega))
    have kX0_38 := kX0_36.below (hb37.mono (B' := w11.heap.size) (by omega))
    have kX1_38 := kX1_36.below (hb37.mono (B' := w15.heap.size) (by omega))
    have ky0_18_38 := ky0_18_m35.below (hb37.mono (B' := w19.heap.size) (by omega))
    have bp0_38 := bp0_36.below hb37
    have bp1_38 := bp1_36.below hb37
    have bbxyc9_38 := bbxyc9_36.below hb37
    have bbxX0_38 := bbxX0_36.below hb37
    have bbxX1_38 := bbxX1_36.below hb37
    have bbxy0_18_38 := bbxy0_18_36.below hb37
    have C_38 := C_36.trans (hb37.mono (B' := w.heap.size) (by omega))
    clear m0_36 m1_36 kyc9_36 kX0_36 kX1_36 ky0_18_m35 bp0_36 bp1_36 bbxyc9_36 bbxX0_36 bbxX1_36 bbxy0_18_36 C_36
    clear hb37
    have dq38 : ¬ (1 + (r0.xs.length : Int)) < 0 := by omega
    have q61 := bp0_38.2 0 _ rfl
    have q62 := bp0_38.2 1 _ rfl
    have q63 := bp0_38.2 2 _ rfl
    have q64 := bp1_38.2 0 _ rfl
    have q65 := bp1_38.2 1 _ rfl
    have q66 := bp1_38.2 2 _ rfl
    go_upto_region 31 with (fail)
    go_cut [15, 16] (fun s0 s1 wx => ∃ (g : Nat) (Fao : Option Addr) (Fcap : Nat), s0 = .pointer (some ⟨g, 0, none⟩) ∧ s1 = .bool r1 ∧ Bx wx g [.int .i64 r0.st, .int .i64 r0.start, .slice Fao r0.xs.length Fcap] ∧ TrO wx w37.heap.size wx.heap.size (.agg #[.int .i64 r0.st, .int .i64 r0.start, .slice Fao r0.xs.length Fcap]) r0 ∧ Below w37.heap.size w37 wx ∧ w37.heap.size ≤ g)
    case first =>
      have hS : ∀ w', Below w37.heap.size w37 w' → Below w37.heap.size w37 w' ∧ w'.cell? ⟨w.heap.size, 0, none⟩ = some (.int .i64 a0.st) ∧ w'.cell? ⟨w.heap.size, 1, none⟩ = some (.int .i64 a0.start) ∧ w'.cell? ⟨w.heap.size, 2, none⟩ = some (.slice ao0 a0.xs.length cap0) ∧ w'.cell? ⟨w.heap.size + 1, 0, none⟩ = some (.int .i64 a1.st) ∧ w'.cell? ⟨w.heap.size + 1, 1, none⟩ = some (.int .i64 a1.start) ∧ w'.cell? ⟨w.heap.size + 1, 2, none⟩ = some (.slice ao1 a1.xs.length cap1) := fun w' q => ⟨q, (bp0_38.below q).2 0 _ rfl, (bp0_38.below q).2 1 _ rfl, (bp0_38.below q).2 2 _ rfl, (bp1_38.below q).2 0 _ rfl, (bp1_38.below q).2 1 _ rfl, (bp1_38.below q).2 2 _ rfl⟩
      have HS0 := Lib.hid hS
      clear hS
      go_wp2_with fail
      go_region_held3 (fun w' => Below w37.heap.size w37 w' ∧ w'.cell? ⟨w.heap.size, 0, none⟩ = some (.int .i64 a0.st) ∧ w'.cell? ⟨w.heap.size, 1, none⟩ = some (.int .i64 a0.start) ∧ w'.cell? ⟨w.heap.size, 2, none⟩ = some (.slice ao0 a0.xs.length cap0) ∧ w'.cell? ⟨w.heap.size + 1, 0, none⟩ = some (.int .i64 a1.st) ∧ w'.cell? ⟨w.heap.size + 1, 1, none⟩ = some (.int .i64 a1.start) ∧ w'.cell? ⟨w.heap.size + 1, 2, none⟩ = some (.slice ao1 a1.xs.length cap1))
        (first
          | exact HS0.out _ (Below.refl _ _).drew
          | (with_reducible refine HS0.out _ ?_; first
              | with_reducible assumption
              | (with_reducible refine Below.alloc ?_ ?_ _; (first | with_reducible assumption | with_reducible exact (Below.refl _ _).drew); (first | with_reducible exact Nat.le_refl _ | with_reducible assumption | omega))
              | (with_reducible refine Below.drew (Below.alloc (Below.refl _ _) (Nat.le_refl _) _))
              | (with_reducible refine Below.setCell ?_ ?_ _; (with_reducible refine Below.setCell ?_ ?_ _); (with_reducible refine Below.setCell ?_ ?_ _); (with_reducible assumption); all_goals (first | with_reducible exact Nat.le_refl _ | with_reducible assumption | (show _ ≤ _; omega))))
          | fail "no way")
        (first
          | (go_at_call 14; ((with_reducible refine (to_Trace a0 _ w37.drew w.heap.size (m0_38.below (((Below.refl w37.heap.size w37).drew).mono (B' := w.heap.size) (by omega))) (Nat.le_trans (show w.heap.size ≤ w37.heap.size by omega) ((Below.refl w37.heap.size w37).drew).size) hn0).mono ?_); rintro e wa0 ⟨xv0, rfl, ox0, hb39_0⟩; have hq0 : Below w37.heap.size w37 wa0 := ((Below.refl w37.heap.size w37).drew).trans (hb39_0.mono ((Below.refl w37.heap.size w37).drew).size); have hz0 := hq0.size))
          | (go_at_call 14; ((with_reducible refine (to_Trace a0 _ (w37.drew.alloc (.cells #[.int .i64 0, .int .i64 0, .slice none 0 0] 28)) w.heap.size (m0_38.below ((((Below.refl w37.heap.size w37).drew).alloc (Nat.le_refl _) (.cells #[.int .i64 0, .int .i64 0, .slice none 0 0] 28)).mono (B' := w.heap.size) (by omega))) (Nat.le_trans (show w.heap.size ≤ w37.heap.size by omega) (((Below.refl w37.heap.size w37).drew).alloc (Nat.le_refl _) (.cells #[.int .i64 0, .int .i64 0, .slice none 0 0] 28)).size) hn0).mono ?_); rintro e wa0 ⟨xv0, rfl, ox0, hb39_0⟩; have hq0 : Below w37.heap.size w37 wa0 := (((Below.refl w37.heap.size w37).drew).alloc (Nat.le_refl _) (.cells #[.int .i64 0, .int .i64 0, .slice none 0 0] 28)).trans (hb39_0.mono (((Below.refl w37.heap.size w37).drew).alloc (Nat.le_refl _) (.cells #[.int .i64 0, .int .i64 0, .slice none 0 0] 28)).size); have hz0 := hq0.size; have hs0 : w37.heap.size + 1 ≤ wa0.heap.size := (by have hsz : (w37.alloc (.cells #[.int .i64 0, .int .i64 0, .slice none 0 0] 28)).heap.size ≤ wa0.heap.size := hb39_0.size; simp at hsz; omega); have nz := (Bx.new w37.drew [.int .i64 0, .int .i64 0, .slice none 0 0] 28).below hb39_0))
          | (go_at_call 14; ((with_reducible refine (to_Trace a0 _ (w37.alloc (.cells #[.int .i64 0, .int .i64 0, .slice none 0 0] 28)).drew w.heap.size (m0_38.below ((((Below.refl w37.heap.size w37).alloc (Nat.le_refl _) (.cells #[.int .i64 0, .int .i64 0, .slice none 0 0] 28)).drew).mono (B' := w.heap.size) (by omega))) (Nat.le_trans (show w.heap.size ≤ w37.heap.size by omega) (((Below.refl w37.heap.size w37).alloc (Nat.le_refl _) (.cells #[.int .i64 0, .int .i64 0, .slice none 0 0] 28)).drew).size) hn0).mono ?_); rintro e wa0 ⟨xv0, rfl, ox0, hb39_0⟩; have hq0 : Below w37.heap.size w37 wa0 := (((Below.refl w37.heap.size w37).alloc (Nat.le_refl _) (.cells #[.int .i64 0, .int .i64 0, .slice none 0 0] 28)).drew).trans (hb39_0.mono (((Below.refl w37.heap.size w37).alloc (Nat.le_refl _) (.cells #[.int .i64 0, .int .i64 0, .slice none 0 0] 28)).drew).size); have hz0 := hq0.size; have hs0 : w37.heap.size + 1 ≤ wa0.heap.size := (by have hsz : (w37.alloc (.cells #[.int .i64 0, .int .i64 0, .slice none 0 0] 28)).heap.size ≤ wa0.heap.size := hb39_0.size; simp at hsz; omega); have nz := (Bx.new w37 [.int .i64 0, .int .i64 0, .slice none 0 0] 28).below ((Below.refl (w37.alloc (.cells #[.int .i64 0, .int .i64 0, .slice none 0 0] 28)).heap.size (w37.alloc (.cells #[.int .i64 0, .int .i64 0, .slice none 0 0] 28))).drew.trans hb39_0)))
          | (go_at_call 14; ((with_reducible refine (to_Trace a1 _ wa0 w.heap.size (m1_38.below ((hq0).mono (B' := w.heap.size) (by omega))) (Nat.le_trans (show w.heap.size ≤ w37.heap.size by omega) (hq0).size) hn1).mono ?_); rintro e wa1 ⟨xv1, rfl, ox1, hb39_1⟩; have hq1 : Below w37.heap.size w37 wa1 := (hq0).trans (hb39_1.mono (hq0).size); have hz1 := hq1.size; have hs1 : wa0.heap.size ≤ wa1.heap.size := hb39_1.size; have ox0 := ox0.below ((hb39_1).mono (B' := wa0.heap.size) (Nat.le_refl _)); (first | (have nz := nz.below hb39_1) | skip)))
          | (go_at_call 14; ((with_reducible refine (to_Trace a1 _ (wa0.alloc (.cells #[.int .i64 0, .int .i64 0, .slice none 0 0] 28)) w.heap.size (m1_38.below (((hq0).alloc (hq0.size) (.cells #[.int .i64 0, .int .i64 0, .slice none 0 0] 28)).mono (B' := w.heap.size) (by omega))) (Nat.le_trans (show w.heap.size ≤ w37.heap.size by omega) ((hq0).alloc (hq0.size) (.cells #[.int .i64 0, .int .i64 0, .slice none 0 0] 28)).size) hn1).mono ?_); rintro e wa1 ⟨xv1, rfl, ox1, hb39_1⟩; have hq1 : Below w37.heap.size w37 wa1 := ((hq0).alloc (hq0.size) (.cells #[.int .i64 0, .int .i64 0, .slice none 0 0] 28)).trans (hb39_1.mono ((hq0).alloc (hq0.size) (.cells #[.int .i64 0, .int .i64 0, .slice none 0 0] 28)).size); have hz1 := hq1.size; have hs1 : wa0.heap.size + 1 ≤ wa1.heap.size := (by have hsz : (wa0.alloc (.cells #[.int .i64 0, .int .i64 0, .slice none 0 0] 28)).heap.size ≤ wa1.heap.size := hb39_1.size; simp at hsz; omega); have ox0 := ox0.below (((Below.refl wa0.heap.size wa0).alloc (Nat.le_refl _) (.cells #[.int .i64 0, .int .i64 0, .slice none 0 0] 28) |>.trans (hb39_1.mono (by simp))).mono (B' := wa0.heap.size) (Nat.le_refl _)); have nz := (Bx.new wa0 [.int .i64 0, .int .i64 0, .slice none 0 0] 28).below hb39_1))
          | (go_at_call 22; ((with_reducible refine (HI.out _ _ wa1 wa1.heap.size ((ox0.lst.below ((Below.refl wa1.heap.size wa1).mono (B' := wa0.heap.size) (by omega))).mono (by omega)) ((ox1.lst.below ((Below.refl wa1.heap.size wa1).mono (B' := wa1.heap.size) (by omega))).mono (by omega)) (Nat.le_refl _) hn0 hn1).mono ?_); rintro e wF ⟨yv, rfl, oy, hbF⟩; obtain ⟨Fao, Fcap, rfl⟩ := oy.form; have hqF : Below w37.heap.size w37 wF := (hq1).trans (hbF.mono (hq1).size); have hzF := hqF.size; have hzG := hbF.size; (first | (have nz := nz.below hbF) | skip); (first | (have u0 := nz.2 0 _ rfl; have u1 := nz.2 1 _ rfl; have u2 := nz.2 2 _ rfl; have u9 := nz.1.2; have u8 := nz.1.1) | skip)))
          | (go_at_call 22; ((with_reducible refine (HI.out _ _ (wa1.alloc (.cells #[.int .i64 0, .int .i64 0, .slice none 0 0] 28)) wa1.heap.size ((ox0.lst.below (((Below.refl wa1.heap.size wa1).alloc (Nat.le_refl _) (.cells #[.int .i64 0, .int .i64 0, .slice none 0 0] 28)).mono (B' := wa0.heap.size) (by omega))).mono (by omega)) ((ox1.lst.below (((Below.refl wa1.heap.size wa1).alloc (Nat.le_refl _) (.cells #[.int .i64 0, .int .i64 0, .slice none 0 0] 28)).mono (B' := wa1.heap.size) (by omega))).mono (by omega)) (by simp) hn0 hn1).mono ?_); rintro e wF ⟨yv, rfl, oy, hbF⟩; obtain ⟨Fao, Fcap, rfl⟩ := oy.form; have hqF : Below w37.heap.size w37 wF := ((hq1.alloc hq1.size (.cells #[.int .i64 0, .int .i64 0, .slice none 0 0] 28))).trans (hbF.mono ((hq1.alloc hq1.size (.cells #[.int .i64 0, .int .i64 0, .slice none 0 0] 28))).size); have hzF := hqF.size; have hzG := hbF.size; have nz := (Bx.new wa1 [.int .i64 0, .int .i64 0, .slice none 0 0] 28).below hbF; (first | (have u0 := nz.2 0 _ rfl; have u1 := nz.2 1 _ rfl; have u2 := nz.2 2 _ rfl; have u9 := nz.1.2; have u8 := nz.1.1) | skip))))
      all_goals (go_wp2_with fail; go_meet)
      all_goals first
        | (with_reducible refine ⟨wF.heap.size, Fao, Fcap, rfl, rfl, ?_⟩; exact ⟨Bx.new wF _ _, (oy.alloc _).mono (by have := hzF; have := hz1; first | omega | (simp; done) | (simp; omega)) (by simp), hqF.alloc hqF.size _, hqF.size⟩)
        | (with_reducible refine ⟨wa1.heap.size, Fao, Fcap, rfl, rfl, ?_⟩; exact ⟨nz.put3 _ _ _, ((((oy).setLow (p := ⟨wa1.heap.size, 0, none⟩) (by first | omega | (simp; done) | (simp; omega)) _).setLow (p := ⟨wa1.heap.size, 1, none⟩) (by first | omega | (simp; done) | (simp; omega)) _).setLow (p := ⟨wa1.heap.size, 2, none⟩) (by first | omega | (simp; done) | (simp; omega)) _).mono (by first | omega | (simp; done) | (simp; omega)) (by simp), (((hqF).setCell (p := ⟨wa1.heap.size, 0, none⟩) (by show w37.heap.size ≤ wa1.heap.size; omega) _).setCell (p := ⟨wa1.heap.size, 1, none⟩) (by show w37.heap.size ≤ wa1.heap.size; omega) _).setCell (p := ⟨wa1.heap.size, 2, none⟩) (by show w37.heap.size ≤ wa1.heap.size; omega) _, by omega⟩)
        | (with_reducible refine ⟨wa0.heap.size, Fao, Fcap, rfl, rfl, ?_⟩; exact ⟨nz.put3 _ _ _, ((((oy).setLow (p := ⟨wa0.heap.size, 0, none⟩) (by first | omega | (simp; done) | (simp; omega)) _).setLow (p := ⟨wa0.heap.size, 1, none⟩) (by first | omega | (simp; done) | (simp; omega)) _).setLow (p := ⟨wa0.heap.size, 2, none⟩) (by first | omega | (simp; done) | (simp; omega)) _).mono (by first | omega | (simp; done) | (simp; omega)) (by simp), (((hqF).setCell (p := ⟨wa0.heap.size, 0, none⟩) (by show w37.heap.size ≤ wa0.heap.size; omega) _).setCell (p := ⟨wa0.heap.size, 1, none⟩) (by show w37.heap.size ≤ wa0.heap.size; omega) _).setCell (p := ⟨wa0.heap.size, 2, none⟩) (by show w37.heap.size ≤ wa0.heap.size; omega) _, by omega⟩)
        | (with_reducible refine ⟨w37.heap.size, Fao, Fcap, rfl, rfl, ?_⟩; exact ⟨nz.put3 _ _ _, ((((oy).setLow (p := ⟨w37.heap.size, 0, none⟩) (by first | omega | (simp; done) | (simp; omega)) _).setLow (p := ⟨w37.heap.size, 1, none⟩) (by first | omega | (simp; done) | (simp; omega)) _).setLow (p := ⟨w37.heap.size, 2, none⟩) (by first | omega | (simp; done) | (simp; omega)) _).mono (by first | omega | (simp; done) | (simp; omega)) (by simp), (((hqF).setCell (p := ⟨w37.heap.size, 0, none⟩) (by show w37.heap.size ≤ w37.heap.size; omega) _).setCell (p := ⟨w37.heap.size, 1, none⟩) (by show w37.heap.size ≤ w37.heap.size; omega) _).setCell (p := ⟨w37.heap.size, 2, none⟩) (by show w37.heap.size ≤ w37.heap.size; omega) _, by omega⟩)
    case rest =>
      obtain ⟨g39, aoc39, capc39, rfl, rfl, bxc39, oc39, hb39, gl39⟩ := hcut
      generalize wc = w39 at *
      have gu39 := bxc39.1.1
      have z39 : w37.heap.size ≤ w39.heap.size := hb39.size
      clear q61 q62 q63 q64 q65 q66
      have m0_40 := m0_38.below (hb39.mono (B' := w.heap.size) (by omega))
      have m1_40 := m1_38.below (hb39.mono (B' := w.heap.size) (by omega))
      have kyc9_40 := kyc9_38.below (hb39.mono (B' := w9.heap.size) (by omega))
      have kX0_40 := kX0_38.below (hb39.mono (B' := w11.heap.size) (by omega))
      have kX1_40 := kX1_38.below (hb39.mono (B' := w15.heap.size) (by omega))
      have ky0_18_40 := ky0_18_38.below (hb39.mono (B' := w19.heap.size) (by omega))
      have bp0_40 := bp0_38.below hb39
      have bp1_40 := bp1_38.below hb39
      have bbxyc9_40 := bbxyc9_38.below hb39
      have bbxX0_40 := bbxX0_38.below hb39
      have bbxX1_40 := bbxX1_38.below hb39
      have bbxy0_18_40 := bbxy0_18_38.below hb39
      have C_40 := C_38.trans (hb39.mono (B' := w.heap.size) (by omega))
      clear m0_38 m1_38 kyc9_38 kX0_38 kX1_38 ky0_18_38 bp0_38 bp1_38 bbxyc9_38 bbxX0_38 bbxX1_38 bbxy0_18_38 C_38
      clear hb39
      have q67 := bxc39.2 0 _ rfl
      have q68 := bxc39.2 1 _ rfl
      have q69 := bxc39.2 2 _ rfl
      have q70 := bbxyc9_40.2 0 _ rfl
      have q71 := bbxyc9_40.2 1 _ rfl
      have q72 := bbxyc9_40.2 2 _ rfl
      go_wp2_with fail
      refine (eq_Trace r0 _ _ _ (w39).heap.size (oc39.lst.mono (by omega)) (kyc9_40.lst.mono (by omega)) (Nat.le_refl _)).mono ?_
      rintro e w41 ⟨rfl, hb41⟩
      have z41 : w39.heap.size ≤ w41.heap.size := hb41.size
      clear q67 q68 q69 q70 q71 q72
      have m0_42 := m0_40.below (hb41.mono (B' := w.heap.size) (by omega))
      have m1_42 := m1_40.below (hb41.mono (B' := w.heap.size) (by omega))
      have kyc9_42 := kyc9_40.below (hb41.mono (B' := w9.heap.size) (by omega))
      have kX0_42 := kX0_40.below (hb41.mono (B' := w11.heap.size) (by omega))
      have kX1_42 := kX1_40.below (hb41.mono (B' := w15.heap.size) (by omega))
      have ky0_18_42 := ky0_18_40.below (hb41.mono (B' := w19.heap.size) (by omega))
      have kyc39_42 := oc39.below (hb41.mono (B' := w39.heap.size) (by omega))
      have bp0_42 := bp0_40.below hb41
      have bp1_42 := bp1_40.below hb41
      have bbxyc9_42 := bbxyc9_40.below hb41
      have bbxX0_42 := bbxX0_40.below hb41
      have bbxX1_42 := bbxX1_40.below hb41
      have bbxy0_18_42 := bbxy0_18_40.below hb41
      have bbxyc39_42 := bxc39.below hb41
      have C_42 := C_40.trans (hb41.mono (B' := w.heap.size) (by omega))
      clear m0_40 m1_40 kyc9_40 kX0_40 kX1_40 ky0_18_40 oc39 bp0_40 bp1_40 bbxyc9_40 bbxX0_40 bbxX1_40 bbxy0_18_40 bxc39 C_40
      clear hb41
      have q73 := bbxy0_18_42.2 0 _ rfl
      have q74 := bbxy0_18_42.2 1 _ rfl
      have q75 := bbxy0_18_42.2 2 _ rfl
      go_wp2_with fail
      refine (held_Trace r0 _ (1) _ (w19.heap.size) ky0_18_42.lst (by omega) hl0 (by omega) (by omega)).mono ?_
      rintro e w43 ⟨rfl, hb43⟩
      have z43 : w41.heap.size ≤ w43.heap.size := hb43.size
      clear q73 q74 q75
      have m0_44 := m0_42.below (hb43.mono (B' := w.heap.size) (by omega))
      have m1_44 := m1_42.below (hb43.mono (B' := w.heap.size) (by omega))
      have kyc9_44 := kyc9_42.below (hb43.mono (B' := w9.heap.size) (by omega))
      have kX0_44 := kX0_42.below (hb43.mono (B' := w11.heap.size) (by omega))
      have kX1_44 := kX1_42.below (hb43.mono (B' := w15.heap.size) (by omega))
      have ky0_18_44 := ky0_18_42.below (hb43.mono (B' := w19.heap.size) (by omega))
      have kyc39_44 := kyc39_42.below (hb43.mono (B' := w39.heap.size) (by omega))
      have bp0_44 := bp0_42.below hb43
      have bp1_44 := bp1_42.below hb43
      have bbxyc9_44 := bbxyc9_42.below hb43
      have bbxX0_44 := bbxX0_42.below hb43
      have bbxX1_44 := bbxX1_42.below hb43
      have bbxy0_18_44 := bbxy0_18_42.below hb43
      have bbxyc39_44 := bbxyc39_42.below hb43
      have C_44 := C_42.trans (hb43.mono (B' := w.heap.size) (by omega))
      clear m0_42 m1_42 kyc9_42 kX0_42 kX1_42 ky0_18_42 kyc39_42 bp0_42 bp1_42 bbxyc9_42 bbxX0_42 bbxX1_42 bbxy0_18_42 bbxyc39_42 C_42
      clear hb43
      have dq44 : ¬ (1 + (r0.xs.length : Int)) < 0 := by omega
      go_wp2
      go_ret
      exact ⟨rfl, C_44⟩

set_option maxRecDepth 100000 in
theorem walk_all {H : Type} {enc : TypeId × Value → H} {base : Nat} {w : World} (v0 : Value) {d0 : DataW H} {ps0 : List MemPlace} (hval0 : Value.okWide Try.prog w .any base 24 v0) (hd0 : DataW.Trod enc Try.prog w 0 (fun _ => true) true 24 v0 d0 ps0) (v1 : Value) {d1 : DataW H} {ps1 : List MemPlace} (hval1 : Value.okWide Try.prog w .any base 24 v1) (hd1 : DataW.Trod enc Try.prog w 0 (fun _ => true) true 24 v1 d1 ps1) :
    Calls Try.prog 5 #[v0, v1] w fun e w' => e = .returned (.bool true) ∧ Below w.heap.size w w' := by
  obtain ⟨a0, h0, hw0⟩ := open_Trace hval0 hd0
  obtain ⟨a1, h1, hw1⟩ := open_Trace hval1 hd1
  by_cases g0 : (a0.xs.length : Int) ≤ 1048576
  case neg => exact walk_big0 a0 v0 a1 v1 w h0 hw0 h1 hw1 g0
  by_cases g1 : (a1.xs.length : Int) ≤ 1048576 - (a0.xs.length : Int)
  case neg => exact walk_big1 a0 v0 a1 v1 w h0 hw0 h1 hw1 g0 g1
  exact walk_main a0 v0 a1 v1 w h0 hw0 h1 hw1 g0 g1

set_option maxRecDepth 100000 in
theorem contract (H : Type) (enc : TypeId × Value → H) (W : World) (base : Nat) (args : Array Value) (ds gs : List (DataW H)) (before : List MemPlace)
    (hval : ∀ (j : Nat) t v, Try.f5.params[j]? = some t → args[j]? = some v → Value.okWide Try.prog W .any base t v)
    (hW : DataW.Whole enc Try.prog Try.f5.params.toList Rows.fnExactJoinTracesSpec.vars false W args.toList ds gs before) :
    Calls Try.prog 5 args W fun e W' => ∃ v, e = .returned v ∧ Rows.fnExactJoinTracesSpec.post enc Try.prog Try.f5 false true false false W args v W' := by
  have hW' := hW
  obtain ⟨p, q, hA0, hV, rfl, hfz, hnd⟩ := hW
  have hA : DataW.TrodAll enc Try.prog W 0 (fun _ => true) true Try.f5.params.toList args.toList ds p := hA0
  rw [Try.params5] at hA hval
  obtain ⟨v0, vs0, d0, ds0, p0, q0, hargs, rfl, rfl, h0, r0⟩ := trodAll_cons hA
  obtain ⟨v1, vs1, d1, ds1, p1, q1, rfl, rfl, rfl, h1, r1⟩ := trodAll_cons r0
  obtain ⟨rfl, rfl, rfl⟩ := trodAll_nil r1
  obtain rfl : args = #[v0, v1] := by cases args; simp_all
  refine lawPost rfl rfl Try.underlying4 (by kernel_rfl) (by kernel_rfl) hW' (fun hg => by subst hg; exact ⟨rfl, rfl, rfl⟩) ?_
  exact walk_all v0 (hval 0 24 v0 rfl rfl) h0 v1 (hval 1 24 v1 rfl rfl) h1

set_option maxRecDepth 100000 in
theorem lifted (os : Os) (started : os.Started) (H : Type) (enc : TypeId × Value → H) :
    ReturnsInHanded {} Try.checked os 5 .any (Rows.fnExactJoinTracesSpec.pre6 enc Try.prog Try.f5 Rows.fnExactJoinTracesRow.domain false) (Rows.fnExactJoinTracesSpec.post enc Try.prog Try.f5 false true false false) := by
  refine returnsInHanded_of_change (C := Try.checked) (s := Rows.fnExactJoinTracesSpec) own started (by kernel_rfl) Try.func5
    (ChangeSpec.witness6 (enc := enc) (C := Try.checked) (s := Rows.fnExactJoinTracesSpec) false ⟨#[], #[.agg #[.int .i64 0, .int .i64 0, .slice none 0 0], .agg #[.int .i64 0, .int .i64 0, .slice none 0 0]], []⟩ 8 (by kernel_rfl) (by kernel_rfl) (by kernel_rfl) (by kernel_rfl)) ?_
  intro W base args ds gs before hval hW _ _
  exact contract H enc W base args ds gs before hval hW

theorem said : Rows.FnExactJoinTracesSaid :=
  OpenClaim.holds_of_wide 5 Try.f5 rfl rfl rfl rfl rfl rfl rfl ⟨rfl, rfl, rfl, rfl, rfl⟩ rfl rfl rfl rfl rfl (by kernel_rfl) Try.func5 (by kernel_rfl)
    (of_decide_eq_true (by kernel_rfl)) (by unfold Func.isWrapper; first | (rw [if_pos (by decide +kernel)]; kernel_rfl) | (rw [if_neg (by decide +kernel)]; exact ⟨rfl, rfl⟩))
    (fun os started H enc _ => lifted os started H enc)

end Go.Proofs.Ytkgohnlljbamlab.fnExactJoinTraces
