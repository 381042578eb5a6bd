/- FnExactWeightBound: for every list of integers the law answers true; no condition. -/
import Derived.Test.YtklilfbokpljkaaFjH
namespace Go.Proofs.Ytklilfbokpljkaa.fnExactWeightBound
open Go.ChangeShapes Go.WideShapes Go.ChangeAt Go.RowKit Go.ChangeMaps
set_option linter.unusedSimpArgs false
set_option linter.unusedVariables false

theorem own : ownKnob Try.prog.godebug = none := by kernel_rfl


set_option maxRecDepth 100000 in
set_option maxHeartbeats 1000000 in
theorem walk_big0 (a0 : List Int) (v0 : Value) (w : World) (h0 : Lst (Value.int .i64) w w.heap.size v0 a0) (hw0 : ∀ x ∈ a0, I64 x)  (g0 : ¬ (a0.length : Int) ≤ 1048576):
    Calls Try.prog 10 #[v0] w fun e w' => e = .returned (.bool true) ∧ Below w.heap.size w w' := by
  have C_0 := Below.refl w.heap.size w
  go_enter Try.func10, Try.ntmps10
  obtain ⟨ao, cap, rfl⟩ := h0.form
  go_wp2
  go_ret
  exact ⟨rfl, C_0⟩

set_option maxRecDepth 100000 in
set_option maxHeartbeats 1000000 in
theorem walk_main (a0 : List Int) (v0 : Value) (w : World) (h0 : Lst (Value.int .i64) w w.heap.size v0 a0) (hw0 : ∀ x ∈ a0, I64 x) (g0 : (a0.length : Int) ≤ 1048576):
    Calls Try.prog 10 #[v0] w fun e w' => e = .returned (.bool true) ∧ Below w.heap.size w w' := by
  have hn0 : a0.length ≤ 1048576 := by first | omega | exact Nat.zero_le _
  have hS := fun v0 w B => specWb a0 v0 w B
  have hI := fun v0 w B  => implWb a0 v0 w B 
  generalize numWb a0 = r0 at *
  generalize okWs a0 = r1 at *
  have HS := Lib.hid hS
  have HI := Lib.hid hI
  clear hS hI
  have C_0 := Below.refl w.heap.size w
  obtain ⟨ao0, cap0, rfl⟩ := h0.form
  go_enter Try.func10, Try.ntmps10
  go_wp2_with fail
  refine (to_IntS a0 _ _ w.heap.size h0 (by omega) hn0).mono ?_
  rintro e w1 ⟨x1, rfl, ox1, hb1⟩
  have z1 : w.heap.size ≤ w1.heap.size := hb1.size
  have m0_2 := h0.below (hb1.mono (B' := w.heap.size) (by omega))
  have C_2 := C_0.trans (hb1.mono (B' := w.heap.size) (by omega))
  clear h0 C_0
  clear hb1
  have kx1_o := ox1.mono (L' := w.heap.size) (B' := w1.heap.size) (by simp <;> omega) (Nat.le_refl _)
  clear ox1
  go_wp2_with fail
  refine (HS.out _ _ (w1).heap.size  (kx1_o.lst.mono (by omega)) (Nat.le_refl _) hn0   ).mono ?_
  rintro e w3 ⟨rfl, hb3⟩
  have z3 : w1.heap.size ≤ w3.heap.size := hb3.size
  have m0_4 := m0_2.below (hb3.mono (B' := w.heap.size) (by omega))
  have kx1_4 := kx1_o.below (hb3.mono (B' := w1.heap.size) (by omega))
  have C_4 := C_2.trans (hb3.mono (B' := w.heap.size) (by omega))
  clear m0_2 kx1_o C_2
  clear hb3
  clear kx1_4
  go_wp2_with fail
  refine (to_IntS a0 _ _ w.heap.size m0_4 (by omega) hn0).mono ?_
  rintro e w5 ⟨X0, rfl, oX0, hb5⟩
  have z5 : w3.heap.size ≤ w5.heap.size := hb5.size
  have m0_6 := m0_4.below (hb5.mono (B' := w.heap.size) (by omega))
  have C_6 := C_4.trans (hb5.mono (B' := w.heap.size) (by omega))
  clear m0_4 C_4
  clear hb5
  have kX0_o := oX0.mono (L' := w3.heap.size) (B' := w5.heap.size) (by simp <;> omega) (Nat.le_refl _)
  clear oX0
  go_wp2_with fail
  refine (HI.out _ _ (w5).heap.size  (kX0_o.lst.mono (by omega)) (Nat.le_refl _) hn0   ).mono ?_
  rintro e w7 ⟨rfl, hb7⟩
  have z7 : w5.heap.size ≤ w7.heap.size := hb7.size
  have m0_8 := m0_6.below (hb7.mono (B' := w.heap.size) (by omega))
  have kX0_8 := kX0_o.below (hb7.mono (B' := w5.heap.size) (by omega))
  have C_8 := C_6.trans (hb7.mono (B' := w.heap.size) (by omega))
  clear m0_6 kX0_o C_6
  clear hb7
  go_wp2_with fail
  refine (to_IntS a0 _ _ w.heap.size m0_8 (by omega) hn0).mono ?_
  rintro e w9 ⟨T0, rfl, oT0, hb9⟩
  have z9 : w7.heap.size ≤ w9.heap.size := hb9.size
  have m0_10 := m0_8.below (hb9.mono (B' := w.heap.size) (by omega))
  have kX0_10 := kX0_8.below (hb9.mono (B' := w5.heap.size) (by omega))
  have C_10 := C_8.trans (hb9.mono (B' := w.heap.size) (by omega))
  clear m0_8 kX0_8 C_8
  clear hb9
  have kT0_o := oT0.mono (L' := w7.heap.size) (B' := w9.heap.size) (by simp <;> omega) (Nat.le_refl _)
  clear oT0
  go_wp2_with fail
  refine (eq_IntS a0 _ _ _ (w9).heap.size (kX0_10.lst.mono (by omega)) (kT0_o.lst.mono (by omega)) (Nat.le_refl _)).mono ?_
  rintro e w11 ⟨rfl, hb11⟩
  have z11 : w9.heap.size ≤ w11.heap.size := hb11.size
  have m0_12 := m0_10.below (hb11.mono (B' := w.heap.size) (by omega))
  have kX0_12 := kX0_10.below (hb11.mono (B' := w5.heap.size) (by omega))
  have kT0_12 := kT0_o.below (hb11.mono (B' := w9.heap.size) (by omega))
  have C_12 := C_10.trans (hb11.mono (B' := w.heap.size) (by omega))
  clear m0_10 kX0_10 kT0_o C_10
  clear hb11
  clear kT0_12
  go_wp2
  go_ret
  exact ⟨rfl, C_12⟩

set_option maxRecDepth 100000 in
theorem walk_all {H : Type} {enc : TypeId × Value → H} {base : Nat} {w : World} (v0 : Value) {d0 : DataW H} {ps0 : List MemPlace} (hval0 : Value.okWide Try.prog w .any base 43 v0) (hd0 : DataW.Trod enc Try.prog w 0 (fun _ => true) true 43 v0 d0 ps0) :
    Calls Try.prog 10 #[v0] w fun e w' => e = .returned (.bool true) ∧ Below w.heap.size w w' := by
  obtain ⟨a0, h0, hw0⟩ := open_IntS hval0 hd0
  by_cases g0 : (a0.length : Int) ≤ 1048576
  case neg => exact walk_big0 a0 v0 w h0 hw0 g0
  exact walk_main a0 v0 w h0 hw0 g0

set_option maxRecDepth 100000 in
theorem contract (H : Type) (enc : TypeId × Value → H) (W : World) (base : Nat) (args : Array Value) (ds gs : List (DataW H)) (before : List MemPlace)
    (hval : ∀ (j : Nat) t v, Try.f10.params[j]? = some t → args[j]? = some v → Value.okWide Try.prog W .any base t v)
    (hW : DataW.Whole enc Try.prog Try.f10.params.toList Rows.fnExactWeightBoundSpec.vars false W args.toList ds gs before) :
    Calls Try.prog 10 args W fun e W' => ∃ v, e = .returned v ∧ Rows.fnExactWeightBoundSpec.post enc Try.prog Try.f10 false true false false W args v W' := by
  have hW' := hW
  obtain ⟨p, q, hA0, hV, rfl, hfz, hnd⟩ := hW
  have hA : DataW.TrodAll enc Try.prog W 0 (fun _ => true) true Try.f10.params.toList args.toList ds p := hA0
  rw [Try.params10] at hA hval
  obtain ⟨v0, vs0, d0, ds0, p0, q0, hargs, rfl, rfl, h0, r0⟩ := trodAll_cons hA
  obtain ⟨rfl, rfl, rfl⟩ := trodAll_nil r0
  obtain rfl : args = #[v0] := by cases args; simp_all
  refine lawPost rfl rfl Try.underlying4 (by kernel_rfl) (by kernel_rfl) hW' (fun hg => by subst hg; exact ⟨rfl, rfl, rfl⟩) ?_
  exact walk_all v0 (hval 0 43 v0 rfl rfl) h0

set_option maxRecDepth 100000 in
theorem lifted (os : Os) (started : os.Started) (H : Type) (enc : TypeId × Value → H) :
    ReturnsInHanded {} Try.checked os 10 .any (Rows.fnExactWeightBoundSpec.pre6 enc Try.prog Try.f10 Rows.fnExactWeightBoundRow.domain false) (Rows.fnExactWeightBoundSpec.post enc Try.prog Try.f10 false true false false) := by
  refine returnsInHanded_of_change (C := Try.checked) (s := Rows.fnExactWeightBoundSpec) own started (by kernel_rfl) Try.func10
    (ChangeSpec.witness6 (enc := enc) (C := Try.checked) (s := Rows.fnExactWeightBoundSpec) false ⟨#[], #[.slice none 0 0], []⟩ 8 (by kernel_rfl) (by kernel_rfl) (by kernel_rfl) (by kernel_rfl)) ?_
  intro W base args ds gs before hval hW _ _
  exact contract H enc W base args ds gs before hval hW

theorem said : Rows.FnExactWeightBoundSaid :=
  OpenClaim.holds_of_wide 10 Try.f10 rfl rfl rfl rfl rfl rfl rfl ⟨rfl, rfl, rfl, rfl, rfl⟩ rfl rfl rfl rfl rfl (by kernel_rfl) Try.func10 (by kernel_rfl)
    (of_decide_eq_true (by kernel_rfl)) (by unfold Func.isWrapper; first | (rw [if_pos (by decide +kernel)]; kernel_rfl) | (rw [if_neg (by decide +kernel)]; exact ⟨rfl, rfl⟩))
    (fun os started H enc _ => lifted os started H enc)

end Go.Proofs.Ytklilfbokpljkaa.fnExactWeightBound
