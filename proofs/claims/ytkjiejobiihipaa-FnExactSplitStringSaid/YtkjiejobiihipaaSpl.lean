/- FnExactSplitString: for every two strings the law answers true; no condition. -/
import Derived.Test.YtkjiejobiihipaaPieces
import Derived.Test.YtkjiejobiihipaaStr
namespace Go.Proofs.Ytkjiejobiihipaa.fnExactSplitString
open Go.ChangeShapes Go.WideShapes Go.ChangeAt Go.RowKit Go.ChangeMaps

theorem own : ownKnob Try.prog.godebug = none := by kernel_rfl

theorem resSp_len (s sep : ByteArray) : (resSp s sep).length ≤ 4001 := by
  unfold resSp
  cases h : okSp s sep with
  | false => simp
  | true =>
    unfold okSp at h
    rw [Bool.and_eq_true, decide_eq_true_eq] at h
    have := split_len s (sep.data.toList.headD 0)
    rw [if_pos rfl]
    omega

set_option maxHeartbeats 1000000 in
theorem walk_main (s sep : ByteArray) (w : World) (h1 : s.size ≤ 1048576) (h2 : sep.size ≤ 1048576) :
    Calls Try.prog 4 #[.string s, .string sep] w fun e w' => e = .returned (.bool true) ∧ Below w.heap.size w w' := by
  have i1 : (s.size : Int) ≤ 1048576 := by omega
  have i2 : (sep.size : Int) ≤ 1048576 := by omega
  have hn := resSp_len s sep
  have hn0 : (0 : Int) ≤ ((resSp s sep).length : Int) := by omega
  have hn1 : ((resSp s sep).length : Int) ≤ 4001 := by omega
  go_enter Try.func4, Try.ntmps4
  go_wp2_with fail
  refine (specSplit s sep _ h1).mono ?_
  rintro e w1 ⟨v0, rfl, r0, hb1⟩
  have l0 := (Own.of_row r0).lst
  go_wp2_with fail
  refine (implSplit s sep _).mono ?_
  rintro e w2 ⟨v1, rfl, r1, hb2⟩
  have z2 := hb2.size
  have o1 := Own.of_row r1
  have l02 := (l0.below hb2).mono (B' := w2.heap.size) z2
  have l02' := l0.below hb2
  go_wp2_with fail
  refine (eqStringS_any (resSp s sep) (resSp s sep) v1 v0 _ _ o1.lst l02 (Nat.le_refl _) rfl).mono ?_
  rintro e w3 ⟨rfl, hb3⟩
  have z3 := hb3.size
  have o3 := o1.below hb3
  have l03 := l02'.below (hb3.mono z2)
  go_wp2_with fail
  refine (markStringS_any (resSp s sep) v1 _ _ _ _ o3 z3 z2 (by omega) (by omega) (by omega)).mono ?_
  rintro e w4 ⟨rfl, o4, hb4⟩
  have z4 := hb4.size
  have l04 := l03.below hb4
  go_wp2_with fail
  refine (heldStringS_any (resSp s sep).length v1 _ _ _ o4.lst (by omega) (by omega) (by omega) (by omega)).mono ?_
  rintro e w5 ⟨rfl, hb5⟩
  have z5 := hb5.size
  have o5 := o4.below (hb5.mono (B' := w2.heap.size) (by omega))
  have l05 := l04.below (hb5.mono (B' := w1.heap.size) (by omega))
  go_wp2_with fail
  refine (implSplit s sep _).mono ?_
  rintro e w6 ⟨v2, rfl, r6, hb6⟩
  have z6 := hb6.size
  have o6 := o5.below (hb6.mono (B' := w2.heap.size) (by omega))
  have l06 := (l05.below (hb6.mono (B' := w1.heap.size) (by omega))).mono (B' := w6.heap.size) (by omega)
  go_wp2_with fail
  refine (eqStringS_any (resSp s sep) (resSp s sep) v2 v0 _ _ (Own.of_row r6).lst l06 (Nat.le_refl _) rfl).mono ?_
  rintro e w7 ⟨rfl, hb7⟩
  have z7 := hb7.size
  have o7 := o6.below (hb7.mono (B' := w2.heap.size) (by omega))
  go_wp2_with fail
  refine (heldStringS_any (resSp s sep).length v1 _ _ _ o7.lst (by omega) (by omega) (by omega) (by omega)).mono ?_
  rintro e w8 ⟨rfl, hb8⟩
  have z1 := hb1.size
  have hb : Below w.heap.size w w8 := (((((((hb1.trans (hb2.mono (by omega))).trans (hb3.mono (by omega))).trans (hb4.mono (by omega))).trans (hb5.mono (by omega))).trans (hb6.mono (by omega))).trans (hb7.mono (by omega)))).trans (hb8.mono (by omega))
  go_wp2
  go_ret
  exact ⟨rfl, hb⟩

theorem walk_all (s : ByteArray) (_ : s.size ≤ maxLen) (sep : ByteArray) (_ : sep.size ≤ maxLen) (w : World) :
    Calls Try.prog 4 #[.string s, .string sep] w fun e w' => e = .returned (.bool true) ∧ Below w.heap.size w w' := by
  by_cases h1 : 1048576 < s.size
  · go_enter Try.func4, Try.ntmps4
    go_wp2
    go_ret
    exact ⟨rfl, Below.refl _ _⟩
  · by_cases h2 : 1048576 < sep.size
    · go_enter Try.func4, Try.ntmps4
      go_wp2
      go_ret
      exact ⟨rfl, Below.refl _ _⟩
    · exact walk_main s sep w (by omega) (by omega)

theorem contract (H : Type) (enc : TypeId × Value → H) (W : World) (base : Nat) (args : Array Value) (ds gs : List (DataW H)) (before : List MemPlace)
    (hval : ∀ (j : Nat) t v, Try.f4.params[j]? = some t → args[j]? = some v → Value.okWide Try.prog W .any base t v)
    (hW : DataW.Whole enc Try.prog Try.f4.params.toList Rows.fnExactSplitStringSpec.vars false W args.toList ds gs before) :
    Calls Try.prog 4 args W fun e W' => ∃ v, e = .returned v ∧ Rows.fnExactSplitStringSpec.post enc Try.prog Try.f4 false true false false W args v W' := by
  have hW' := hW
  obtain ⟨p, q, hA0, hV, rfl, hfz, hnd⟩ := hW
  have hA : DataW.TrodAll enc Try.prog W 0 (fun _ => true) true Try.f4.params.toList args.toList ds p := hA0
  rw [Try.params4] at hA hval
  obtain ⟨v0, vs0, d0, ds0, p0, q0, hargs, rfl, rfl, h0, r0⟩ := trodAll_cons hA
  obtain ⟨v1, vs1, d1, ds1, p1, q1, rfl, rfl, rfl, h1, r1⟩ := trodAll_cons r0
  obtain ⟨rfl, rfl, rfl⟩ := trodAll_nil r1
  obtain rfl : args = #[v0, v1] := by cases args; simp_all
  obtain ⟨s0, rfl, rfl, rfl, hm0⟩ := open_string Try.underlying9 (hval 0 9 v0 rfl rfl) h0
  obtain ⟨s1, rfl, rfl, rfl, hm1⟩ := open_string Try.underlying9 (hval 1 9 v1 rfl rfl) h1
  refine lawPost rfl rfl Try.underlying4 (by kernel_rfl) (by kernel_rfl) hW' (fun hg => by subst hg; exact ⟨rfl, rfl, rfl⟩) ?_
  exact walk_all s0 hm0 s1 hm1 W

set_option maxRecDepth 100000 in
theorem lifted (os : Os) (started : os.Started) (H : Type) (enc : TypeId × Value → H) :
    ReturnsInHanded {} Try.checked os 4 .any (Rows.fnExactSplitStringSpec.pre6 enc Try.prog Try.f4 Rows.fnExactSplitStringRow.domain false) (Rows.fnExactSplitStringSpec.post enc Try.prog Try.f4 false true false false) := by
  refine returnsInHanded_of_change (C := Try.checked) (s := Rows.fnExactSplitStringSpec) own started (by kernel_rfl) Try.func4
    (ChangeSpec.witness6 (enc := enc) (C := Try.checked) (s := Rows.fnExactSplitStringSpec) false ⟨#[], #[.string .empty, .string .empty], []⟩ 8 (by kernel_rfl) (by kernel_rfl) (by kernel_rfl) (by kernel_rfl)) ?_
  intro W base args ds gs before hval hW _ _
  exact contract H enc W base args ds gs before hval hW

theorem said : Rows.FnExactSplitStringSaid :=
  OpenClaim.holds_of_wide 4 Try.f4 rfl rfl rfl rfl rfl rfl rfl ⟨rfl, rfl, rfl, rfl, rfl⟩ rfl rfl rfl rfl rfl (by kernel_rfl) Try.func4 (by kernel_rfl)
    (of_decide_eq_true (by kernel_rfl)) (by unfold Func.isWrapper; first | (rw [if_pos (by decide +kernel)]; kernel_rfl) | (rw [if_neg (by decide +kernel)]; exact ⟨rfl, rfl⟩))
    (fun os started H enc _ => lifted os started H enc)

end Go.Proofs.Ytkjiejobiihipaa.fnExactSplitString
