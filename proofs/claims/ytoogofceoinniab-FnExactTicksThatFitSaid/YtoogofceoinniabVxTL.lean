/- FnExactTicksThatFit: for every arrival and every two numbers the law answers true; no condition. -/
import Derived.Test.YtoogofceoinniabVoC
import Derived.Test.YtoogofceoinniabVpG
import Derived.Deep.CutBlock
import Derived.Deep.CutRange
import Derived.Deep.DeepCutAuto
namespace Go.Proofs.Ytoogofceoinniab.fnExactTicksThatFit
open Go.ChangeShapes Go.WideShapes Go.ChangeAt Go.RowKit Go.ChangeMaps
set_option linter.unusedSimpArgs false
set_option linter.unusedVariables false

theorem own : ownKnob Try.prog.godebug = none := by kernel_rfl


set_option maxRecDepth 100000 in
set_option maxHeartbeats 1000000 in
theorem walk_main (a0 : GArrival) (v0 : Value) (a1 : Int) (hi1 : I64 a1) (a2 : Int) (hi2 : I64 a2) (w : World) (h0 : ArrivalVL w w.heap.size v0 a0) (hw0 : wfArrival a0) :
    Calls Try.prog 6 #[v0, .int .i64 a1, .int .i64 a2] w fun e w' => e = .returned (.bool true) ∧ Below w.heap.size w w' := by
  have hn0 : sz1Arrival a0 ≤ 1048576 := by first | omega | exact Nat.zero_le _
  have hS := fun v0 w B => specTt a0 v0 a1 a2 w B
  have hI := fun v0 w B  => implTt a0 v0 a1 a2 w B 
  generalize loTt a0 a1 a2 = r0 at *
  generalize hiTt a0 a1 a2 = r1 at *
  generalize okTt a0 a1 a2 = r2 at *
  have HS := Lib.hid hS
  have HI := Lib.hid hI
  clear hS hI
  obtain rfl := h0.form
  have N1 := (Below.refl (w).heap.size w).alloc (Nat.le_refl _) (.cells #[.int .i64 a0.pId, .int .i64 a0.pX, .int .i64 a0.pY, .int .i64 a0.pTick, .int .i64 a0.pError] 23)
  have bx1 : Bx (w.alloc (.cells #[.int .i64 a0.pId, .int .i64 a0.pX, .int .i64 a0.pY, .int .i64 a0.pTick, .int .i64 a0.pError] 23)) (w.heap.size) [.int .i64 a0.pId, .int .i64 a0.pX, .int .i64 a0.pY, .int .i64 a0.pTick, .int .i64 a0.pError] := Bx.new w [.int .i64 a0.pId, .int .i64 a0.pX, .int .i64 a0.pY, .int .i64 a0.pTick, .int .i64 a0.pError] 23
  have m0_2 := h0.below (N1.mono (B' := w.heap.size) (by omega))
  have C_2 := N1
  clear h0
  clear N1
  go_enter Try.func6, Try.ntmps6
  have q1 := bx1.2 0 _ rfl
  have q2 := bx1.2 1 _ rfl
  have q3 := bx1.2 2 _ rfl
  have q4 := bx1.2 3 _ rfl
  have q5 := bx1.2 4 _ rfl
  go_wp2_with fail
  refine (to_Arrival a0 _ _ w.heap.size m0_2 (by simp <;> omega) hn0).mono ?_
  rintro e w3 ⟨x3, rfl, ox3, hb3⟩
  have z3 : w.heap.size + 1 ≤ w3.heap.size := by have := hb3.size; simpa using this
  clear q1 q2 q3 q4 q5
  have m0_4 := m0_2.below (hb3.mono (B' := w.heap.size) (by simp <;> omega))
  have bp0_4 := bx1.below hb3
  have C_4 := C_2.trans (hb3.mono (B' := w.heap.size) (by simp <;> omega))
  clear m0_2 bx1 C_2
  clear hb3
  have kx3_o := ox3.mono (L' := w.heap.size + 1) (B' := w3.heap.size) (by simp <;> omega) (Nat.le_refl _)
  clear ox3
  obtain rfl := kx3_o.form
  go_wp2_with fail
  refine (HS.out _ _ (w3).heap.size  (kx3_o.lst.mono (by omega)) (Nat.le_refl _) hn0 hw0 hi1 hi2 ).mono ?_
  rintro e w5 ⟨rfl, hb5⟩
  have z5 : w3.heap.size ≤ w5.heap.size := hb5.size
  have m0_6 := m0_4.below (hb5.mono (B' := w.heap.size) (by omega))
  have kx3_6 := kx3_o.below (hb5.mono (B' := w3.heap.size) (by omega))
  have bp0_6 := bp0_4.below hb5
  have C_6 := C_4.trans (hb5.mono (B' := w.heap.size) (by omega))
  clear m0_4 kx3_o bp0_4 C_4
  clear hb5
  clear kx3_6
  have q6 := bp0_6.2 0 _ rfl
  have q7 := bp0_6.2 1 _ rfl
  have q8 := bp0_6.2 2 _ rfl
  have q9 := bp0_6.2 3 _ rfl
  have q10 := bp0_6.2 4 _ rfl
  go_wp2_with fail
  refine (to_Arrival a0 _ _ w.heap.size m0_6 (by omega) hn0).mono ?_
  rintro e w7 ⟨x7, rfl, ox7, hb7⟩
  have z7 : w5.heap.size ≤ w7.heap.size := hb7.size
  clear q6 q7 q8 q9 q10
  have m0_8 := m0_6.below (hb7.mono (B' := w.heap.size) (by omega))
  have bp0_8 := bp0_6.below hb7
  have C_8 := C_6.trans (hb7.mono (B' := w.heap.size) (by omega))
  clear m0_6 bp0_6 C_6
  clear hb7
  have kx7_o := ox7.mono (L' := w5.heap.size) (B' := w7.heap.size) (by simp <;> omega) (Nat.le_refl _)
  clear ox7
  obtain rfl := kx7_o.form
  go_wp2_with fail
  refine (HI.out _ _ (w7).heap.size  (kx7_o.lst.mono (by omega)) (Nat.le_refl _) hn0 hw0 hi1 hi2 ).mono ?_
  rintro e w9 ⟨rfl, hb9⟩
  have z9 : w7.heap.size ≤ w9.heap.size := hb9.size
  have m0_10 := m0_8.below (hb9.mono (B' := w.heap.size) (by omega))
  have kx7_10 := kx7_o.below (hb9.mono (B' := w7.heap.size) (by omega))
  have bp0_10 := bp0_8.below hb9
  have C_10 := C_8.trans (hb9.mono (B' := w.heap.size) (by omega))
  clear m0_8 kx7_o bp0_8 C_8
  clear hb9
  clear kx7_10
  go_wp2
  go_ret
  exact ⟨rfl, C_10⟩

set_option maxRecDepth 100000 in
theorem walk_all {H : Type} {enc : TypeId × Value → H} {base : Nat} {w : World} (v0 : Value) {d0 : DataW H} {ps0 : List MemPlace} (hval0 : Value.okWide Try.prog w .any base 23 v0) (hd0 : DataW.Trod enc Try.prog w 0 (fun _ => true) true 23 v0 d0 ps0) (a1 : Int) (wf1 : (Lit.int .i64 a1).wf = true) (a2 : Int) (wf2 : (Lit.int .i64 a2).wf = true) :
    Calls Try.prog 6 #[v0, .int .i64 a1, .int .i64 a2] w fun e w' => e = .returned (.bool true) ∧ Below w.heap.size w w' := by
  obtain ⟨a0, h0, hw0⟩ := open_Arrival hval0 hd0
  have hi1 : I64 a1 := bounds_i64 wf1
  have hi2 : I64 a2 := bounds_i64 wf2
  exact walk_main a0 v0 a1 hi1 a2 hi2 w h0 hw0 

set_option maxRecDepth 100000 in
theorem contract (H : Type) (enc : TypeId × Value → H) (W : World) (base : Nat) (args : Array Value) (ds gs : List (DataW H)) (before : List MemPlace)
    (hval : ∀ (j : Nat) t v, Try.f6.params[j]? = some t → args[j]? = some v → Value.okWide Try.prog W .any base t v)
    (hW : DataW.Whole enc Try.prog Try.f6.params.toList Rows.fnExactTicksThatFitSpec.vars false W args.toList ds gs before) :
    Calls Try.prog 6 args W fun e W' => ∃ v, e = .returned v ∧ Rows.fnExactTicksThatFitSpec.post enc Try.prog Try.f6 false true false false W args v W' := by
  have hW' := hW
  obtain ⟨p, q, hA0, hV, rfl, hfz, hnd⟩ := hW
  have hA : DataW.TrodAll enc Try.prog W 0 (fun _ => true) true Try.f6.params.toList args.toList ds p := hA0
  rw [Try.params6] at hA hval
  obtain ⟨v0, vs0, d0, ds0, p0, q0, hargs, rfl, rfl, h0, r0⟩ := trodAll_cons hA
  obtain ⟨v1, vs1, d1, ds1, p1, q1, rfl, rfl, rfl, h1, r1⟩ := trodAll_cons r0
  obtain ⟨v2, vs2, d2, ds2, p2, q2, rfl, rfl, rfl, h2, r2⟩ := trodAll_cons r1
  obtain ⟨rfl, rfl, rfl⟩ := trodAll_nil r2
  obtain rfl : args = #[v0, v1, v2] := by cases args; simp_all
  obtain ⟨n1, rfl, rfl, rfl, w1⟩ := open_int Try.underlying3 (hval 1 3 v1 rfl rfl) h1
  obtain ⟨n2, rfl, rfl, rfl, w2⟩ := open_int Try.underlying3 (hval 2 3 v2 rfl rfl) h2
  refine lawPost rfl rfl Try.underlying4 (by kernel_rfl) (by kernel_rfl) hW' (fun hg => by subst hg; exact ⟨rfl, rfl, rfl⟩) ?_
  exact walk_all v0 (hval 0 23 v0 rfl rfl) h0 n1 w1 n2 w2

set_option maxRecDepth 100000 in
theorem lifted (os : Os) (started : os.Started) (H : Type) (enc : TypeId × Value → H) :
    ReturnsInHanded {} Try.checked os 6 .any (Rows.fnExactTicksThatFitSpec.pre6 enc Try.prog Try.f6 Rows.fnExactTicksThatFitRow.domain false) (Rows.fnExactTicksThatFitSpec.post enc Try.prog Try.f6 false true false false) := by
  refine returnsInHanded_of_change (C := Try.checked) (s := Rows.fnExactTicksThatFitSpec) own started (by kernel_rfl) Try.func6
    (ChangeSpec.witness6 (enc := enc) (C := Try.checked) (s := Rows.fnExactTicksThatFitSpec) false ⟨#[], #[.agg #[.int .i64 0, .int .i64 0, .int .i64 0, .int .i64 0, .int .i64 0], .int .i64 0, .int .i64 0], []⟩ 8 (by kernel_rfl) (by kernel_rfl) (by kernel_rfl) (by kernel_rfl)) ?_
  intro W base args ds gs before hval hW _ _
  exact contract H enc W base args ds gs before hval hW

theorem said : Rows.FnExactTicksThatFitSaid :=
  OpenClaim.holds_of_wide 6 Try.f6 rfl rfl rfl rfl rfl rfl rfl ⟨rfl, rfl, rfl, rfl, rfl⟩ rfl rfl rfl rfl rfl (by kernel_rfl) Try.func6 (by kernel_rfl)
    (of_decide_eq_true (by kernel_rfl)) (by unfold Func.isWrapper; first | (rw [if_pos (by decide +kernel)]; kernel_rfl) | (rw [if_neg (by decide +kernel)]; exact ⟨rfl, rfl⟩))
    (fun os started H enc _ => lifted os started H enc)

end Go.Proofs.Ytoogofceoinniab.fnExactTicksThatFit
