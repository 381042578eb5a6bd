/- FnExactRatioAt: for every list of samples, every setting and every number the law answers true; no condition. -/
import Derived.Test.YtklilfbokpljkabTgE
import Derived.Test.YtklilfbokpljkabTjG
import Derived.Deep.CutBlock
import Derived.Deep.CutRange
import Derived.Deep.DeepCutAuto
namespace Go.Proofs.Ytklilfbokpljkab.fnExactRatioAt
open Go.ChangeShapes Go.WideShapes Go.ChangeAt Go.RowKit Go.ChangeMaps
set_option linter.unusedSimpArgs false
set_option linter.unusedVariables false

theorem own : ownKnob Try.prog.godebug = none := by kernel_rfl


set_option maxRecDepth 100000 in
set_option maxHeartbeats 1000000 in
theorem walk_big0 (a0 : List Int) (v0 : Value) (a1 : GSetting) (v1 : Value) (a2 : Int) (hi2 : I64 a2) (w : World) (h0 : Lst (Value.int .i64) w w.heap.size v0 a0) (hw0 : ∀ x ∈ a0, I64 x) (h1 : SettingVL w w.heap.size v1 a1) (hw1 : wfSetting a1)  (g0 : ¬ (a0.length : Int) ≤ 1048576):
    Calls Try.prog 9 #[v0, v1, .int .i64 a2] w fun e w' => e = .returned (.bool true) ∧ Below w.heap.size w w' := by
  obtain rfl := h1.form
  have N1 := (Below.refl (w).heap.size w).alloc (Nat.le_refl _) (.cells #[.int .i64 a1.pShort, .int .i64 a1.pLong, .int .i64 a1.pOn, .int .i64 a1.pOff] 24)
  have bx1 : Bx (w.alloc (.cells #[.int .i64 a1.pShort, .int .i64 a1.pLong, .int .i64 a1.pOn, .int .i64 a1.pOff] 24)) (w.heap.size) [.int .i64 a1.pShort, .int .i64 a1.pLong, .int .i64 a1.pOn, .int .i64 a1.pOff] := Bx.new w [.int .i64 a1.pShort, .int .i64 a1.pLong, .int .i64 a1.pOn, .int .i64 a1.pOff] 24
  have m0_2 := h0.below (N1.mono (B' := w.heap.size) (by omega))
  have m1_2 := h1.below (N1.mono (B' := w.heap.size) (by omega))
  have C_2 := N1
  clear h0 h1
  clear N1
  go_enter Try.func9, Try.ntmps9
  obtain ⟨ao, cap, rfl⟩ := m0_2.form
  go_wp2
  go_ret
  exact ⟨rfl, C_2⟩

set_option maxRecDepth 100000 in
set_option maxHeartbeats 1000000 in
theorem walk_main (a0 : List Int) (v0 : Value) (a1 : GSetting) (v1 : Value) (a2 : Int) (hi2 : I64 a2) (w : World) (h0 : Lst (Value.int .i64) w w.heap.size v0 a0) (hw0 : ∀ x ∈ a0, I64 x) (h1 : SettingVL w w.heap.size v1 a1) (hw1 : wfSetting a1) (g0 : (a0.length : Int) ≤ 1048576):
    Calls Try.prog 9 #[v0, v1, .int .i64 a2] w fun e w' => e = .returned (.bool true) ∧ Below w.heap.size w w' := by
  have hn0 : a0.length ≤ 1048576 := by first | omega | exact Nat.zero_le _
  have hn1 : sz1Setting a1 ≤ 1048576 := by first | omega | exact Nat.zero_le _
  have hS := fun v0 v1 w B => specRa a0 v0 a1 v1 a2 w B
  have hI := fun v0 v1 w B  => implRa a0 v0 a1 v1 a2 w B 
  generalize numRa a0 a1 a2 = r0 at *
  generalize denRa a0 a1 a2 = r1 at *
  generalize okRa a0 a1 a2 = r2 at *
  have HS := Lib.hid hS
  have HI := Lib.hid hI
  clear hS hI
  obtain rfl := h1.form
  have N1 := (Below.refl (w).heap.size w).alloc (Nat.le_refl _) (.cells #[.int .i64 a1.pShort, .int .i64 a1.pLong, .int .i64 a1.pOn, .int .i64 a1.pOff] 24)
  have bx1 : Bx (w.alloc (.cells #[.int .i64 a1.pShort, .int .i64 a1.pLong, .int .i64 a1.pOn, .int .i64 a1.pOff] 24)) (w.heap.size) [.int .i64 a1.pShort, .int .i64 a1.pLong, .int .i64 a1.pOn, .int .i64 a1.pOff] := Bx.new w [.int .i64 a1.pShort, .int .i64 a1.pLong, .int .i64 a1.pOn, .int .i64 a1.pOff] 24
  have m0_2 := h0.below (N1.mono (B' := w.heap.size) (by omega))
  have m1_2 := h1.below (N1.mono (B' := w.heap.size) (by omega))
  have C_2 := N1
  clear h0 h1
  clear N1
  obtain ⟨ao0, cap0, rfl⟩ := m0_2.form
  go_enter Try.func9, Try.ntmps9
  have z3 : w.heap.size + 1 ≤ ((w.alloc (.cells #[.int .i64 a1.pShort, .int .i64 a1.pLong, .int .i64 a1.pOn, .int .i64 a1.pOff] 24))).heap.size := by simp
  obtain ⟨w3, hw9⟩ : ∃ w9, (w.alloc (.cells #[.int .i64 a1.pShort, .int .i64 a1.pLong, .int .i64 a1.pOn, .int .i64 a1.pOff] 24)) = w9 := ⟨_, rfl⟩
  (try rw [hw9] at m0_2)
  (try rw [hw9] at m1_2)
  (try rw [hw9] at bx1)
  (try rw [hw9] at C_2)
  (try rw [hw9] at z3)
  have q1 := bx1.2 0 _ rfl
  have q2 := bx1.2 1 _ rfl
  have q3 := bx1.2 2 _ rfl
  have q4 := bx1.2 3 _ rfl
  go_upto_region 3 with (fail)
  clear hw9
  go_cut [7, 8, 9] from 17 to 26 (fun s0 s1 s2 wx => s0 = .int .i64 r0 ∧ s1 = .int .i64 r1 ∧ s2 = .bool r2 ∧ Below (w3).heap.size w3 wx)
  case first =>
    have hS : ∀ w', Below w3.heap.size w3 w' → Below w3.heap.size w3 w' ∧ w'.cell? ⟨w.heap.size, 0, none⟩ = some (.int .i64 a1.pShort) ∧ w'.cell? ⟨w.heap.size, 1, none⟩ = some (.int .i64 a1.pLong) ∧ w'.cell? ⟨w.heap.size, 2, none⟩ = some (.int .i64 a1.pOn) ∧ w'.cell? ⟨w.heap.size, 3, none⟩ = some (.int .i64 a1.pOff) := fun w' q => ⟨q, (bx1.below q).2 0 _ rfl, (bx1.below q).2 1 _ rfl, (bx1.below q).2 2 _ rfl, (bx1.below q).2 3 _ rfl⟩
    have HS0 := Lib.hid hS
    clear hS
    go_wp2_with fail
    go_region_held3 (fun w' => Below w3.heap.size w3 w' ∧ w'.cell? ⟨w.heap.size, 0, none⟩ = some (.int .i64 a1.pShort) ∧ w'.cell? ⟨w.heap.size, 1, none⟩ = some (.int .i64 a1.pLong) ∧ w'.cell? ⟨w.heap.size, 2, none⟩ = some (.int .i64 a1.pOn) ∧ w'.cell? ⟨w.heap.size, 3, none⟩ = some (.int .i64 a1.pOff))
      (first
        | exact HS0.out _ (Below.refl _ _).drew
        | (with_reducible refine HS0.out _ ?_; with_reducible assumption)
        | fail "no way")
      (first
        | (go_at_call 16; ((with_reducible refine (to_IntS a0 _ w3.drew w.heap.size (m0_2.below (((Below.refl w3.heap.size w3).drew).mono (B' := w.heap.size) (by omega))) (Nat.le_trans (show w.heap.size ≤ w3.heap.size by omega) ((Below.refl w3.heap.size w3).drew).size) hn0).mono ?_); rintro e wa0 ⟨xv0, rfl, ox0, hb4_0⟩; have hq0 : Below w3.heap.size w3 wa0 := ((Below.refl w3.heap.size w3).drew).trans (hb4_0.mono ((Below.refl w3.heap.size w3).drew).size); have hz0 := hq0.size; have hs0 : w3.heap.size ≤ wa0.heap.size := hb4_0.size))
        | (go_at_call 17; ((with_reducible refine (to_Setting a1 _ wa0 w.heap.size (m1_2.below ((hq0).mono (B' := w.heap.size) (by omega))) (Nat.le_trans (show w.heap.size ≤ w3.heap.size by omega) (hq0).size) hn1).mono ?_); rintro e wa1 ⟨xv1, rfl, ox1, hb4_1⟩; have hq1 : Below w3.heap.size w3 wa1 := (hq0).trans (hb4_1.mono (hq0).size); have hz1 := hq1.size; have hs1 : wa0.heap.size ≤ wa1.heap.size := hb4_1.size; obtain rfl := ox1.form; have ox0 := ox0.below ((hb4_1).mono (B' := wa0.heap.size) (by omega))))
        | (go_at_call 32; ((with_reducible refine (HS.out _ _ wa1 wa1.heap.size (ox0.lst.mono (by omega)) (ox1.lst.mono (by omega)) (Nat.le_refl _) hn0 hn1 hw1 hi2 ).mono ?_); rintro e wF ⟨rfl, hbF⟩; have hqF : Below w3.heap.size w3 wF := hq1.trans (hbF.mono hq1.size); have hzF := hqF.size; have hzG := hbF.size)))
    all_goals (go_wp2_with fail; go_meet)
    all_goals exact ⟨rfl, rfl, rfl, hqF⟩
  case rest =>
    obtain ⟨rfl, rfl, rfl, hb4⟩ := hcut
    generalize wc = w4 at *
    have z4 : w3.heap.size ≤ w4.heap.size := hb4.size
    clear q1 q2 q3 q4
    have m0_5 := m0_2.below (hb4.mono (B' := w.heap.size) (by omega))
    have m1_5 := m1_2.below (hb4.mono (B' := w.heap.size) (by omega))
    have bp1_5 := bx1.below hb4
    have C_5 := C_2.trans (hb4.mono (B' := w.heap.size) (by omega))
    clear m0_2 m1_2 bx1 C_2
    clear hb4
    go_wp2_with fail
    refine (to_IntS a0 _ _ w.heap.size m0_5 (by omega) hn0).mono ?_
    rintro e w6 ⟨X0, rfl, oX0, hb6⟩
    have z6 : w4.heap.size ≤ w6.heap.size := hb6.size
    have m0_7 := m0_5.below (hb6.mono (B' := w.heap.size) (by omega))
    have m1_7 := m1_5.below (hb6.mono (B' := w.heap.size) (by omega))
    have bp1_7 := bp1_5.below hb6
    have C_7 := C_5.trans (hb6.mono (B' := w.heap.size) (by omega))
    clear m0_5 m1_5 bp1_5 C_5
    clear hb6
    have kX0_o := oX0.mono (L' := w4.heap.size) (B' := w6.heap.size) (by simp <;> omega) (Nat.le_refl _)
    clear oX0
    have q5 := bp1_7.2 0 _ rfl
    have q6 := bp1_7.2 1 _ rfl
    have q7 := bp1_7.2 2 _ rfl
    have q8 := bp1_7.2 3 _ rfl
    go_wp2_with fail
    refine (to_Setting a1 _ _ w.heap.size m1_7 (by omega) hn1).mono ?_
    rintro e w8 ⟨x8, rfl, ox8, hb8⟩
    have z8 : w6.heap.size ≤ w8.heap.size := hb8.size
    clear q5 q6 q7 q8
    have m0_9 := m0_7.below (hb8.mono (B' := w.heap.size) (by omega))
    have m1_9 := m1_7.below (hb8.mono (B' := w.heap.size) (by omega))
    have kX0_9 := kX0_o.below (hb8.mono (B' := w6.heap.size) (by omega))
    have bp1_9 := bp1_7.below hb8
    have C_9 := C_7.trans (hb8.mono (B' := w.heap.size) (by omega))
    clear m0_7 m1_7 kX0_o bp1_7 C_7
    clear hb8
    have kx8_o := ox8.mono (L' := w6.heap.size) (B' := w8.heap.size) (by simp <;> omega) (Nat.le_refl _)
    clear ox8
    obtain rfl := kx8_o.form
    go_wp2_with fail
    refine (HI.out _ _ _ (w8).heap.size  (kX0_9.lst.mono (by omega)) (kx8_o.lst.mono (by omega)) (Nat.le_refl _) hn0 hn1 hw1 hi2 ).mono ?_
    rintro e w10 ⟨rfl, hb10⟩
    have z10 : w8.heap.size ≤ w10.heap.size := hb10.size
    have m0_11 := m0_9.below (hb10.mono (B' := w.heap.size) (by omega))
    have m1_11 := m1_9.below (hb10.mono (B' := w.heap.size) (by omega))
    have kX0_11 := kX0_9.below (hb10.mono (B' := w6.heap.size) (by omega))
    have kx8_11 := kx8_o.below (hb10.mono (B' := w8.heap.size) (by omega))
    have bp1_11 := bp1_9.below hb10
    have C_11 := C_9.trans (hb10.mono (B' := w.heap.size) (by omega))
    clear m0_9 m1_9 kX0_9 kx8_o bp1_9 C_9
    clear hb10
    clear kx8_11
    go_wp2_with fail
    refine (to_IntS a0 _ _ w.heap.size m0_11 (by omega) hn0).mono ?_
    rintro e w12 ⟨T0, rfl, oT0, hb12⟩
    have z12 : w10.heap.size ≤ w12.heap.size := hb12.size
    have m0_13 := m0_11.below (hb12.mono (B' := w.heap.size) (by omega))
    have m1_13 := m1_11.below (hb12.mono (B' := w.heap.size) (by omega))
    have kX0_13 := kX0_11.below (hb12.mono (B' := w6.heap.size) (by omega))
    have bp1_13 := bp1_11.below hb12
    have C_13 := C_11.trans (hb12.mono (B' := w.heap.size) (by omega))
    clear m0_11 m1_11 kX0_11 bp1_11 C_11
    clear hb12
    have kT0_o := oT0.mono (L' := w10.heap.size) (B' := w12.heap.size) (by simp <;> omega) (Nat.le_refl _)
    clear oT0
    go_wp2_with fail
    refine (eq_IntS a0 _ _ _ (w12).heap.size (kX0_13.lst.mono (by omega)) (kT0_o.lst.mono (by omega)) (Nat.le_refl _)).mono ?_
    rintro e w14 ⟨rfl, hb14⟩
    have z14 : w12.heap.size ≤ w14.heap.size := hb14.size
    have m0_15 := m0_13.below (hb14.mono (B' := w.heap.size) (by omega))
    have m1_15 := m1_13.below (hb14.mono (B' := w.heap.size) (by omega))
    have kX0_15 := kX0_13.below (hb14.mono (B' := w6.heap.size) (by omega))
    have kT0_15 := kT0_o.below (hb14.mono (B' := w12.heap.size) (by omega))
    have bp1_15 := bp1_13.below hb14
    have C_15 := C_13.trans (hb14.mono (B' := w.heap.size) (by omega))
    clear m0_13 m1_13 kX0_13 kT0_o bp1_13 C_13
    clear hb14
    clear kT0_15
    go_wp2
    go_ret
    exact ⟨rfl, C_15⟩

set_option maxRecDepth 100000 in
theorem walk_all {H : Type} {enc : TypeId × Value → H} {base : Nat} {w : World} (v0 : Value) {d0 : DataW H} {ps0 : List MemPlace} (hval0 : Value.okWide Try.prog w .any base 22 v0) (hd0 : DataW.Trod enc Try.prog w 0 (fun _ => true) true 22 v0 d0 ps0) (v1 : Value) {d1 : DataW H} {ps1 : List MemPlace} (hval1 : Value.okWide Try.prog w .any base 24 v1) (hd1 : DataW.Trod enc Try.prog w 0 (fun _ => true) true 24 v1 d1 ps1) (a2 : Int) (wf2 : (Lit.int .i64 a2).wf = true) :
    Calls Try.prog 9 #[v0, v1, .int .i64 a2] w fun e w' => e = .returned (.bool true) ∧ Below w.heap.size w w' := by
  obtain ⟨a0, h0, hw0⟩ := open_IntS hval0 hd0
  obtain ⟨a1, h1, hw1⟩ := open_Setting hval1 hd1
  have hi2 : I64 a2 := bounds_i64 wf2
  by_cases g0 : (a0.length : Int) ≤ 1048576
  case neg => exact walk_big0 a0 v0 a1 v1 a2 hi2 w h0 hw0 h1 hw1 g0
  exact walk_main a0 v0 a1 v1 a2 hi2 w h0 hw0 h1 hw1 g0

set_option maxRecDepth 100000 in
theorem contract (H : Type) (enc : TypeId × Value → H) (W : World) (base : Nat) (args : Array Value) (ds gs : List (DataW H)) (before : List MemPlace)
    (hval : ∀ (j : Nat) t v, Try.f9.params[j]? = some t → args[j]? = some v → Value.okWide Try.prog W .any base t v)
    (hW : DataW.Whole enc Try.prog Try.f9.params.toList Rows.fnExactRatioAtSpec.vars false W args.toList ds gs before) :
    Calls Try.prog 9 args W fun e W' => ∃ v, e = .returned v ∧ Rows.fnExactRatioAtSpec.post enc Try.prog Try.f9 false true false false W args v W' := by
  have hW' := hW
  obtain ⟨p, q, hA0, hV, rfl, hfz, hnd⟩ := hW
  have hA : DataW.TrodAll enc Try.prog W 0 (fun _ => true) true Try.f9.params.toList args.toList ds p := hA0
  rw [Try.params9] at hA hval
  obtain ⟨v0, vs0, d0, ds0, p0, q0, hargs, rfl, rfl, h0, r0⟩ := trodAll_cons hA
  obtain ⟨v1, vs1, d1, ds1, p1, q1, rfl, rfl, rfl, h1, r1⟩ := trodAll_cons r0
  obtain ⟨v2, vs2, d2, ds2, p2, q2, rfl, rfl, rfl, h2, r2⟩ := trodAll_cons r1
  obtain ⟨rfl, rfl, rfl⟩ := trodAll_nil r2
  obtain rfl : args = #[v0, v1, v2] := by cases args; simp_all
  obtain ⟨n2, rfl, rfl, rfl, w2⟩ := open_int Try.underlying3 (hval 2 3 v2 rfl rfl) h2
  refine lawPost rfl rfl Try.underlying4 (by kernel_rfl) (by kernel_rfl) hW' (fun hg => by subst hg; exact ⟨rfl, rfl, rfl⟩) ?_
  exact walk_all v0 (hval 0 22 v0 rfl rfl) h0 v1 (hval 1 24 v1 rfl rfl) h1 n2 w2

set_option maxRecDepth 100000 in
theorem lifted (os : Os) (started : os.Started) (H : Type) (enc : TypeId × Value → H) :
    ReturnsInHanded {} Try.checked os 9 .any (Rows.fnExactRatioAtSpec.pre6 enc Try.prog Try.f9 Rows.fnExactRatioAtRow.domain false) (Rows.fnExactRatioAtSpec.post enc Try.prog Try.f9 false true false false) := by
  refine returnsInHanded_of_change (C := Try.checked) (s := Rows.fnExactRatioAtSpec) own started (by kernel_rfl) Try.func9
    (ChangeSpec.witness6 (enc := enc) (C := Try.checked) (s := Rows.fnExactRatioAtSpec) false ⟨#[], #[.slice none 0 0, .agg #[.int .i64 0, .int .i64 0, .int .i64 0, .int .i64 0], .int .i64 0], []⟩ 8 (by kernel_rfl) (by kernel_rfl) (by kernel_rfl) (by kernel_rfl)) ?_
  intro W base args ds gs before hval hW _ _
  exact contract H enc W base args ds gs before hval hW

theorem said : Rows.FnExactRatioAtSaid :=
  OpenClaim.holds_of_wide 9 Try.f9 rfl rfl rfl rfl rfl rfl rfl ⟨rfl, rfl, rfl, rfl, rfl⟩ rfl rfl rfl rfl rfl (by kernel_rfl) Try.func9 (by kernel_rfl)
    (of_decide_eq_true (by kernel_rfl)) (by unfold Func.isWrapper; first | (rw [if_pos (by decide +kernel)]; kernel_rfl) | (rw [if_neg (by decide +kernel)]; exact ⟨rfl, rfl⟩))
    (fun os started H enc _ => lifted os started H enc)

end Go.Proofs.Ytklilfbokpljkab.fnExactRatioAt
