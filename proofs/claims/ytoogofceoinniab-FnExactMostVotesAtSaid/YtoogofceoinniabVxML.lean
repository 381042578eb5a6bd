/- FnExactMostVotesAt: for every list of arrivals and every two numbers the law answers true; no condition. -/
import Derived.Test.YtoogofceoinniabVoF
import Derived.Test.YtoogofceoinniabVpJ
import Derived.Deep.CutBlock
import Derived.Deep.CutRange
import Derived.Deep.DeepCutAuto
namespace Go.Proofs.Ytoogofceoinniab.fnExactMostVotesAt
open Go.ChangeShapes Go.WideShapes Go.ChangeAt Go.RowKit Go.ChangeMaps
set_option linter.unusedSimpArgs false
set_option linter.unusedVariables false

theorem own : ownKnob Try.prog.godebug = none := by kernel_rfl


set_option maxRecDepth 100000 in
set_option maxHeartbeats 1000000 in
theorem walk_big0 (a0 : List GArrival) (v0 : Value) (a1 : Int) (hi1 : I64 a1) (a2 : Int) (hi2 : I64 a2) (w : World) (h0 : ArrivalL w w.heap.size v0 a0) (hw0 : ∀ s ∈ a0, wfArrival s)  (g0 : ¬ (szsArrival a0 : Int) ≤ 1048576):
    Calls Try.prog 7 #[v0, .int .i64 a1, .int .i64 a2] w fun e w' => e = .returned (.bool true) ∧ Below w.heap.size w w' := by
  have C_0 := Below.refl w.heap.size w
  go_enter Try.func7, Try.ntmps7
  go_wp2_with fail
  refine (szgt_ArrivalS a0 _ (1048576) _ w.heap.size h0 (by omega) (by omega) (by omega) (by omega) hw0).mono ?_
  rintro e w1 ⟨rfl, hb1⟩
  have z1 : w.heap.size ≤ w1.heap.size := hb1.size
  have m0_2 := h0.below (hb1.mono (B' := w.heap.size) (by omega))
  have C_2 := C_0.trans (hb1.mono (B' := w.heap.size) (by omega))
  clear h0 C_0
  clear hb1
  go_wp2
  go_ret
  exact ⟨rfl, C_2⟩

set_option maxRecDepth 100000 in
set_option maxHeartbeats 1000000 in
theorem walk_main (a0 : List GArrival) (v0 : Value) (a1 : Int) (hi1 : I64 a1) (a2 : Int) (hi2 : I64 a2) (w : World) (h0 : ArrivalL w w.heap.size v0 a0) (hw0 : ∀ s ∈ a0, wfArrival s) (g0 : (szsArrival a0 : Int) ≤ 1048576):
    Calls Try.prog 7 #[v0, .int .i64 a1, .int .i64 a2] w fun e w' => e = .returned (.bool true) ∧ Below w.heap.size w w' := by
  have hn0 : szsArrival a0 ≤ 1048576 := by first | omega | exact Nat.zero_le _
  have hnl0 := szsArrival_len a0
  have hS := fun v0 w B => specMv a0 v0 a1 a2 w B
  have hI := fun v0 w B  => implMv a0 v0 a1 a2 w B 
  generalize numMv a0 a1 a2 = r0 at *
  generalize atMv a0 a1 a2 = r1 at *
  generalize okMv a0 a1 a2 = r2 at *
  have HS := Lib.hid hS
  have HI := Lib.hid hI
  clear hS hI
  have C_0 := Below.refl w.heap.size w
  have d0 : ¬ 1048576 - (szsArrival a0 : Int) < 0 := by omega
  go_enter Try.func7, Try.ntmps7
  go_wp2_with fail
  refine (sz_ArrivalS a0 _ (1048576) _ w.heap.size h0 (by omega) (by omega) (by omega) (by omega)).mono ?_
  rintro e w1 ⟨rfl, hb1⟩
  have z1 : w.heap.size ≤ w1.heap.size := hb1.size
  have m0_2 := h0.below (hb1.mono (B' := w.heap.size) (by omega))
  have C_2 := C_0.trans (hb1.mono (B' := w.heap.size) (by omega))
  clear h0 C_0
  clear hb1
  go_wp2_with fail
  refine (to_ArrivalS a0 _ _ w.heap.size m0_2 (by omega) hn0).mono ?_
  rintro e w3 ⟨x3, rfl, ox3, hb3⟩
  have z3 : w1.heap.size ≤ w3.heap.size := hb3.size
  have m0_4 := m0_2.below (hb3.mono (B' := w.heap.size) (by omega))
  have C_4 := C_2.trans (hb3.mono (B' := w.heap.size) (by omega))
  clear m0_2 C_2
  clear hb3
  have kx3_o := ox3.mono (L' := w1.heap.size) (B' := w3.heap.size) (by simp <;> omega) (Nat.le_refl _)
  clear ox3
  go_wp2_with fail
  refine (HS.out _ _ (w3).heap.size  (kx3_o.lst.mono (by omega)) (Nat.le_refl _) hn0 hw0 hi1 hi2 ).mono ?_
  rintro e w5 ⟨rfl, hb5⟩
  have z5 : w3.heap.size ≤ w5.heap.size := hb5.size
  have m0_6 := m0_4.below (hb5.mono (B' := w.heap.size) (by omega))
  have kx3_6 := kx3_o.below (hb5.mono (B' := w3.heap.size) (by omega))
  have C_6 := C_4.trans (hb5.mono (B' := w.heap.size) (by omega))
  clear m0_4 kx3_o C_4
  clear hb5
  clear kx3_6
  go_wp2_with fail
  refine (to_ArrivalS a0 _ _ w.heap.size m0_6 (by omega) hn0).mono ?_
  rintro e w7 ⟨X0, rfl, oX0, hb7⟩
  have z7 : w5.heap.size ≤ w7.heap.size := hb7.size
  have m0_8 := m0_6.below (hb7.mono (B' := w.heap.size) (by omega))
  have C_8 := C_6.trans (hb7.mono (B' := w.heap.size) (by omega))
  clear m0_6 C_6
  clear hb7
  have kX0_o := oX0.mono (L' := w5.heap.size) (B' := w7.heap.size) (by simp <;> omega) (Nat.le_refl _)
  clear oX0
  go_wp2_with fail
  refine (HI.out _ _ (w7).heap.size  (kX0_o.lst.mono (by omega)) (Nat.le_refl _) hn0 hw0 hi1 hi2 ).mono ?_
  rintro e w9 ⟨rfl, hb9⟩
  have z9 : w7.heap.size ≤ w9.heap.size := hb9.size
  have m0_10 := m0_8.below (hb9.mono (B' := w.heap.size) (by omega))
  have kX0_10 := kX0_o.below (hb9.mono (B' := w7.heap.size) (by omega))
  have C_10 := C_8.trans (hb9.mono (B' := w.heap.size) (by omega))
  clear m0_8 kX0_o C_8
  clear hb9
  go_wp2_with fail
  refine (to_ArrivalS a0 _ _ w.heap.size m0_10 (by omega) hn0).mono ?_
  rintro e w11 ⟨T0, rfl, oT0, hb11⟩
  have z11 : w9.heap.size ≤ w11.heap.size := hb11.size
  have m0_12 := m0_10.below (hb11.mono (B' := w.heap.size) (by omega))
  have kX0_12 := kX0_10.below (hb11.mono (B' := w7.heap.size) (by omega))
  have C_12 := C_10.trans (hb11.mono (B' := w.heap.size) (by omega))
  clear m0_10 kX0_10 C_10
  clear hb11
  have kT0_o := oT0.mono (L' := w9.heap.size) (B' := w11.heap.size) (by simp <;> omega) (Nat.le_refl _)
  clear oT0
  go_wp2_with fail
  refine (eq_ArrivalS a0 _ _ _ (w11).heap.size (kX0_12.lst.mono (by omega)) (kT0_o.lst.mono (by omega)) (Nat.le_refl _)).mono ?_
  rintro e w13 ⟨rfl, hb13⟩
  have z13 : w11.heap.size ≤ w13.heap.size := hb13.size
  have m0_14 := m0_12.below (hb13.mono (B' := w.heap.size) (by omega))
  have kX0_14 := kX0_12.below (hb13.mono (B' := w7.heap.size) (by omega))
  have kT0_14 := kT0_o.below (hb13.mono (B' := w11.heap.size) (by omega))
  have C_14 := C_12.trans (hb13.mono (B' := w.heap.size) (by omega))
  clear m0_12 kX0_12 kT0_o C_12
  clear hb13
  clear kT0_14
  go_wp2
  go_ret
  exact ⟨rfl, C_14⟩

set_option maxRecDepth 100000 in
theorem walk_all {H : Type} {enc : TypeId × Value → H} {base : Nat} {w : World} (v0 : Value) {d0 : DataW H} {ps0 : List MemPlace} (hval0 : Value.okWide Try.prog w .any base 33 v0) (hd0 : DataW.Trod enc Try.prog w 0 (fun _ => true) true 33 v0 d0 ps0) (a1 : Int) (wf1 : (Lit.int .i64 a1).wf = true) (a2 : Int) (wf2 : (Lit.int .i64 a2).wf = true) :
    Calls Try.prog 7 #[v0, .int .i64 a1, .int .i64 a2] w fun e w' => e = .returned (.bool true) ∧ Below w.heap.size w w' := by
  obtain ⟨a0, h0, hw0⟩ := open_ArrivalS hval0 hd0
  have hi1 : I64 a1 := bounds_i64 wf1
  have hi2 : I64 a2 := bounds_i64 wf2
  by_cases g0 : (szsArrival a0 : Int) ≤ 1048576
  case neg => exact walk_big0 a0 v0 a1 hi1 a2 hi2 w h0 hw0 g0
  exact walk_main a0 v0 a1 hi1 a2 hi2 w h0 hw0 g0

set_option maxRecDepth 100000 in
theorem contract (H : Type) (enc : TypeId × Value → H) (W : World) (base : Nat) (args : Array Value) (ds gs : List (DataW H)) (before : List MemPlace)
    (hval : ∀ (j : Nat) t v, Try.f7.params[j]? = some t → args[j]? = some v → Value.okWide Try.prog W .any base t v)
    (hW : DataW.Whole enc Try.prog Try.f7.params.toList Rows.fnExactMostVotesAtSpec.vars false W args.toList ds gs before) :
    Calls Try.prog 7 args W fun e W' => ∃ v, e = .returned v ∧ Rows.fnExactMostVotesAtSpec.post enc Try.prog Try.f7 false true false false W args v W' := by
  have hW' := hW
  obtain ⟨p, q, hA0, hV, rfl, hfz, hnd⟩ := hW
  have hA : DataW.TrodAll enc Try.prog W 0 (fun _ => true) true Try.f7.params.toList args.toList ds p := hA0
  rw [Try.params7] at hA hval
  obtain ⟨v0, vs0, d0, ds0, p0, q0, hargs, rfl, rfl, h0, r0⟩ := trodAll_cons hA
  obtain ⟨v1, vs1, d1, ds1, p1, q1, rfl, rfl, rfl, h1, r1⟩ := trodAll_cons r0
  obtain ⟨v2, vs2, d2, ds2, p2, q2, rfl, rfl, rfl, h2, r2⟩ := trodAll_cons r1
  obtain ⟨rfl, rfl, rfl⟩ := trodAll_nil r2
  obtain rfl : args = #[v0, v1, v2] := by cases args; simp_all
  obtain ⟨n1, rfl, rfl, rfl, w1⟩ := open_int Try.underlying3 (hval 1 3 v1 rfl rfl) h1
  obtain ⟨n2, rfl, rfl, rfl, w2⟩ := open_int Try.underlying3 (hval 2 3 v2 rfl rfl) h2
  refine lawPost rfl rfl Try.underlying4 (by kernel_rfl) (by kernel_rfl) hW' (fun hg => by subst hg; exact ⟨rfl, rfl, rfl⟩) ?_
  exact walk_all v0 (hval 0 33 v0 rfl rfl) h0 n1 w1 n2 w2

set_option maxRecDepth 100000 in
theorem lifted (os : Os) (started : os.Started) (H : Type) (enc : TypeId × Value → H) :
    ReturnsInHanded {} Try.checked os 7 .any (Rows.fnExactMostVotesAtSpec.pre6 enc Try.prog Try.f7 Rows.fnExactMostVotesAtRow.domain false) (Rows.fnExactMostVotesAtSpec.post enc Try.prog Try.f7 false true false false) := by
  refine returnsInHanded_of_change (C := Try.checked) (s := Rows.fnExactMostVotesAtSpec) own started (by kernel_rfl) Try.func7
    (ChangeSpec.witness6 (enc := enc) (C := Try.checked) (s := Rows.fnExactMostVotesAtSpec) false ⟨#[], #[.slice none 0 0, .int .i64 0, .int .i64 0], []⟩ 8 (by kernel_rfl) (by kernel_rfl) (by kernel_rfl) (by kernel_rfl)) ?_
  intro W base args ds gs before hval hW _ _
  exact contract H enc W base args ds gs before hval hW

theorem said : Rows.FnExactMostVotesAtSaid :=
  OpenClaim.holds_of_wide 7 Try.f7 rfl rfl rfl rfl rfl rfl rfl ⟨rfl, rfl, rfl, rfl, rfl⟩ rfl rfl rfl rfl rfl (by kernel_rfl) Try.func7 (by kernel_rfl)
    (of_decide_eq_true (by kernel_rfl)) (by unfold Func.isWrapper; first | (rw [if_pos (by decide +kernel)]; kernel_rfl) | (rw [if_neg (by decide +kernel)]; exact ⟨rfl, rfl⟩))
    (fun os started H enc _ => lifted os started H enc)

end Go.Proofs.Ytoogofceoinniab.fnExactMostVotesAt
