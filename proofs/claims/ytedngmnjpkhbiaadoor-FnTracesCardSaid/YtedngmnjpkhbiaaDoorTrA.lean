/- The specification's draw of a trace's text. -/
import Derived.Test.YtedngmnjpkhbiaaDoorDrT
import Derived.Test.YtedngmnjpkhbiaaDoorTxt
import Derived.Deep.CutBlock
import Derived.Deep.CutRange
import Derived.Deep.DeepCutAuto
namespace Go.Proofs.YtedngmnjpkhbiaaDoor
open Go.ChangeShapes Go.WideShapes Go.ChangeAt Go.RowKit Go.ChangeMaps
set_option linter.unusedSimpArgs false
set_option linter.unusedVariables false

theorem grown_drN {a w : World} {x : Option Nat} (h : a.grownBy w x) (n : Nat) : a.grownBy (w.drewN n) x := ⟨h.os, h.tape, h.output, h.size, h.block⟩
theorem size_pos {t : ByteArray} (h : ¬ t = .empty) : 0 < t.size := by
  rcases Nat.eq_zero_or_pos t.size with q | q
  · exact absurd (by
      have : t.data = #[] := Array.eq_empty_of_size_eq_zero q
      cases t; simp at this; subst this; rfl) h
  · exact q
set_option maxRecDepth 100000 in
set_option maxHeartbeats 2000000 in
theorem cur_spoilt (t wt : ByteArray) (w : World) (B b k : Nat) (h : Cur w B b k) (hk : k ≤ 700000) (ht : t.size ≤ 1000) (hw0 : 1 ≤ wt.size) (hw1 : wt.size ≤ 1000) :
    Calls Tryd.prog 35 #[.pointer (some ⟨b, 0, none⟩), .string t, .string wt] w fun e w' => ∃ s : ByteArray, e = .returned (.string s) ∧ s.size ≤ 2001 ∧ Cur w' B b (k + 6) ∧ w.grownBy w' (some b) := by
  have z1 : (1 : Int) ≤ (wt.size : Int) := by omega
  have z2 : ¬ (wt.size : Int) < 1 := by omega
  by_cases h0 : t = .empty
  · have g0 : (t == ByteArray.empty) = true := by rw [h0]; rfl
    go_enter Tryd.func35, Tryd.ntmps35
    go_wp2
    go_ret
    exact ⟨_, rfl, by rw [ByteArray.size_extract]; omega, h.mono (by omega), ⟨rfl, rfl, rfl, Nat.le_refl _, fun _ _ _ => rfl⟩⟩
  have hp := size_pos h0
  go_enter Tryd.func35, Tryd.ntmps35
  go_wp2_with fail
  · go_ret
    exact ⟨_, rfl, by rw [ByteArray.size_extract]; omega, h.mono (by omega), ⟨rfl, rfl, rfl, Nat.le_refl _, fun _ _ _ => rfl⟩⟩
  refine (cur_pick _ B b k (t.size : Int) h (by omega) (by omega) (by omega)).mono ?_
  rintro e w1 ⟨r, rfl, hr0, hr1, hc1, hg1⟩
  go_wp2_with fail
  refine (cur_pick _ B b _ (wt.size : Int) hc1 (by omega) (by omega) (by omega)).mono ?_
  rintro e w2 ⟨q, rfl, hq0, hq1, hc2, hg2⟩
  have G2 := hg1.trans hg2
  clear hc1 hg1 hg2
  obtain ⟨i, rfl⟩ : ∃ i : Nat, r = i := ⟨r.toNat, by omega⟩
  obtain ⟨u, hu⟩ : ∃ u, (wt.extract q.toNat wt.size).extract 0 1 = u := ⟨_, rfl⟩
  have hu1 : u.size ≤ 1 := by rw [← hu, ByteArray.size_extract]; omega
  go_wp2_with fail
  refine (cur_pick _ B b _ 3 hc2 (by omega) (by omega) (by omega)).mono ?_
  rintro e w3 ⟨c, rfl, h30, h31, hc3, hg3⟩
  have G3 := G2.trans hg3
  clear hc2 G2 hg3
  have i0 : (0 : Int) ≤ (i : Int) := by omega
  have i1 : (i : Int) ≤ (t.size : Int) := by omega
  have i2 : (i : Int) + 1 ≤ (t.size : Int) := by omega
  have i3 : IntKind.i64.wrap ((i : Int) + 1) = (i : Int) + 1 := IntWalk.i64_in _ (by omega)
  have i4 : ((i : Int) + 1).toNat = i + 1 := by omega
  have i5 : ¬ (t.size : Int) < (i : Int) := by omega
  have i6 : i ≤ t.size := by omega
  have i7 : i + 1 ≤ t.size := by omega
  have e1 : (t.extract 0 i).size ≤ 1000 := by rw [ByteArray.size_extract]; omega
  have e2 : (t.extract i t.size).size ≤ 1000 := by rw [ByteArray.size_extract]; omega
  have e3 : (t.extract (i + 1) t.size).size ≤ 1000 := by rw [ByteArray.size_extract]; omega
  have e4 : (t.extract 0 i ++ u).size ≤ 1001 := by rw [ByteArray.size_append]; omega
  have n1 : ¬ 9223372036854775807 < (t.extract 0 i).size + u.size := by omega
  have n2 : ¬ 9223372036854775807 < (t.extract 0 i ++ u).size + (t.extract i t.size).size := by omega
  have n3 : ¬ 9223372036854775807 < (t.extract 0 i ++ u).size + (t.extract (i + 1) t.size).size := by omega
  have n4 : ¬ 9223372036854775807 < (t.extract 0 i).size + (t.extract (i + 1) t.size).size := by omega
  have s1 : (t.extract 0 i ++ u ++ t.extract i t.size).size ≤ 2001 := by rw [ByteArray.size_append]; omega
  have s2 : (t.extract 0 i ++ u ++ t.extract (i + 1) t.size).size ≤ 2001 := by rw [ByteArray.size_append]; omega
  have s3 : (t.extract 0 i ++ t.extract (i + 1) t.size).size ≤ 2001 := by rw [ByteArray.size_append]; omega
  have hcc : c = 0 ∨ c = 1 ∨ c = 2 := by omega
  clear h30 h31 hq0 hq1 hr0 hr1
  rcases hcc with rfl | rfl | rfl
  · go_wp2
    go_quiet (fail)
    go_wp2
    go_ret
    exact ⟨_, rfl, s1, hc3, grown_drN G3 _⟩
  · go_wp2
    go_quiet (fail)
    go_wp2
    go_ret
    exact ⟨_, rfl, s2, hc3, grown_drN G3 _⟩
  · go_wp2
    go_quiet (fail)
    go_wp2
    go_ret
    exact ⟨_, rfl, s3, hc3, grown_drN G3 _⟩
set_option maxRecDepth 100000 in
set_option maxHeartbeats 2000000 in
theorem drawPT (w : World) (B : Nat) (v : Value) (h : CodeArg w B v) :
    Calls Tryd.prog 13 #[v] w fun e w' => ∃ s : ByteArray, e = .returned (.string s) ∧ s.size ≤ 2001 ∧ Below w.heap.size w w' := by
  obtain ⟨h0, ao, n, cap, rfl, h2, h3⟩ := h
  have hcu := Lib.hid (cur_new w B ao n cap h0 h2 h3)
  have N0 : Below w.heap.size w (w.alloc (.cells #[.slice ao n cap, .int .i64 0, .int .u64 0] 59)) := (Below.refl _ w).alloc (Nat.le_refl _) _
  clear h3
  go_enter Tryd.func13, Tryd.ntmps13
  go_wp2_with fail
  refine (cur_trace _ B w.heap.size 0 hcu.out (by omega)).mono ?_
  rintro e w1 ⟨v1, t, rfl, hl, hst, ho, hc1, hg1⟩
  have N1 := N0.grown hg1 N0.size (fun g e => by cases e; exact Nat.le_refl _)
  obtain ⟨ao1, cap1, rfl⟩ := ho.form
  have bx := Bx.new w1 [.int .i64 t.st, .int .i64 t.start, .slice ao1 t.xs.length cap1] 26
  have BA : Below w1.heap.size w1 (w1.alloc (.cells #[.int .i64 t.st, .int .i64 t.start, .slice ao1 t.xs.length cap1] 26)) := (Below.refl _ w1).alloc (Nat.le_refl _) _
  have N2 := N1.trans (BA.mono N1.size)
  have hL2 := ho.lst.below BA
  have hc2 := hc1.keep (World.Below_grown BA) (by simp)
  have c0 := bx.2 0 _ rfl
  have c1 := bx.2 1 _ rfl
  have c2 := bx.2 2 _ rfl
  have hB2 := BA.size
  clear hcu ho hg1 hc1 N0 N1 BA
  cases hg : goodT t with
  | false =>
    have C := Lib.hid (specGoodB t _ _ _ false hL2 hB2 hg)
    clear hg hL2
    go_wp2_with fail
    refine C.out.mono ?_
    rintro e w3 ⟨rfl, hb3⟩
    have N3 := N2.trans (hb3.mono N2.size)
    have hc3 := hc2.keep (World.Below_grown hb3) (by simp)
    clear hb3 N2 hc2 c0 c1 c2
    go_wp2_with fail
    refine (cur_one _ B w.heap.size _ 4 hc3 (by omega) (by omega) (by omega)).mono ?_
    rintro e w5 ⟨yes, rfl, hc5, hg5⟩
    have N5 := N3.grown hg5 N3.size (fun g e => by cases e; exact Nat.le_refl _)
    clear hg5
    cases yes with
    | false =>
      go_wp2
      go_ret
      exact ⟨_, rfl, by decide, N5⟩
    | true =>
      go_wp2_with fail
      refine (cur_spoilt (⟨#[49, 50, 64, 49, 48, 48, 58, 32, 53, 32, 45, 51, 32, 55]⟩ : ByteArray) _ _ B w.heap.size _ hc5 (by omega) (by decide) (by decide) (by decide)).mono ?_
      rintro e w6 ⟨s, rfl, hs, hc6, hg6⟩
      have N6 := N5.grown hg6 N5.size (fun g e => by cases e; exact Nat.le_refl _)
      clear hg6
      go_wp2
      go_ret
      exact ⟨_, rfl, by omega, N6⟩
  | true =>
    have C := Lib.hid (specGoodB t _ _ _ true hL2 hB2 hg)
    have CX := Lib.hid (fun W (q : Below _ _ W) => specText t _ W _ (hL2.below (q.mono hB2)) (Nat.le_trans hB2 q.size) hg)
    have htx : (textT t).size ≤ 1000 := by
      have := tx_size t hg t.xs.length (Nat.le_refl _)
      have := (goodT_yes hg).1
      unfold textT
      omega
    clear hg hL2
    generalize textT t = tx0 at *
    go_wp2_with fail
    refine C.out.mono ?_
    rintro e w3 ⟨rfl, hb3⟩
    have N3 := N2.trans (hb3.mono N2.size)
    have hc3 := hc2.keep (World.Below_grown hb3) (by simp)
    have bx3 := bx.below hb3
    have d0 := bx3.2 0 _ rfl
    have d1 := bx3.2 1 _ rfl
    have d2 := bx3.2 2 _ rfl
    clear N2 hc2 c0 c1 c2 bx
    go_wp2_with fail
    refine (CX.out _ hb3).mono ?_
    rintro e w4 ⟨rfl, hb4⟩
    have N4 := N3.trans (hb4.mono N3.size)
    have hc4 := hc3.keep (World.Below_grown hb4) (by simp)
    clear hb3 hb4 N3 hc3 d0 d1 d2 bx3
    go_wp2_with fail
    refine (cur_one _ B w.heap.size _ 4 hc4 (by omega) (by omega) (by omega)).mono ?_
    rintro e w5 ⟨yes, rfl, hc5, hg5⟩
    have N5 := N4.grown hg5 N4.size (fun g e => by cases e; exact Nat.le_refl _)
    clear hg5
    cases yes with
    | false =>
      go_wp2
      go_ret
      exact ⟨_, rfl, by omega, N5⟩
    | true =>
      go_wp2_with fail
      refine (cur_spoilt tx0 _ _ B w.heap.size _ hc5 (by omega) (by omega) (by decide) (by decide)).mono ?_
      rintro e w6 ⟨s, rfl, hs, hc6, hg6⟩
      have N6 := N5.grown hg6 N5.size (fun g e => by cases e; exact Nat.le_refl _)
      clear hg6
      go_wp2
      go_ret
      exact ⟨_, rfl, by omega, N6⟩
end Go.Proofs.YtedngmnjpkhbiaaDoor
