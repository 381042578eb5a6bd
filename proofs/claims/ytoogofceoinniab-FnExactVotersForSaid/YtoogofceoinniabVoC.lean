/- Votes: the specification's ticks at a place, whether an origin fits. -/
import Derived.Test.YtoogofceoinniabVoB
import Derived.Test.YtoogofceoinniabVoD
namespace Go.Proofs.Ytoogofceoinniab
open Go.ChangeShapes Go.WideShapes Go.ChangeAt Go.RowKit Go.ChangeMaps Go.Sort
set_option linter.unusedSimpArgs false
set_option linter.unusedVariables false
set_option linter.unusedSimpArgs false
set_option linter.unusedVariables false

set_option maxRecDepth 100000 in
set_option maxHeartbeats 2000000 in
theorem specTicks (a : GArrival) (x y l g : Int) (w : World) (ha : okAr a) (hx : 0 ≤ x ∧ x ≤ 999) (hy : 0 ≤ y ∧ y ≤ 999) (hl : loT a x y = l) (hg : hiT a x y = g) :
    Calls Try.prog 67 #[aggA a, .int .i64 x, .int .i64 y] w fun e w' => e = .returned (.tuple #[.int .i64 l, .int .i64 g]) ∧ Below w.heap.size w w' := by
  obtain ⟨-, ⟨ax, ay⟩, ⟨ht0, ht1⟩, ⟨he0, he1⟩⟩ := id ha
  have CS := Lib.hid (fun W => specSqV a.pX a.pY x y _ W ax ay hx hy rfl)
  have hq := sqV_bd ax ay hx hy
  have CR := Lib.hid (fun W => specRoot _ W hq.1 hq.2)
  have hr := rootV_bd hq.1 hq.2
  unfold loT at hl
  unfold hiT at hg
  unfold upV at hg
  generalize sqV a.pX a.pY x y = q at *
  generalize rootV q = r at *
  obtain ⟨hq0, hq1⟩ := hq
  have HM := Lib.hid (fun W => mostF 0 (a.pTick - a.pError - r) l W hl)
  have HG := Lib.hid hg
  clear hl hg ha hx hy ax ay
  obtain ⟨hr1, hr2, -⟩ := hr
  obtain ⟨rr, hrr⟩ : ∃ z, (r : Int) * r = z := ⟨_, rfl⟩
  have hr0 : 0 ≤ rr := by rw [← hrr]; exact Int.mul_nonneg (by omega) (by omega)
  rw [hrr] at hr2
  have s1 : wrap64 ((r : Int) * r) = rr := by rw [hrr]; unfold wrap64; omega
  have s2 : IntKind.i64.wrap ((r : Int) * r) = rr := by rw [hrr]; exact IntWalk.i64_in _ (by omega)
  have N := Lib.hid (below_cell (w := w) (Nat.le_refl _) (objA a))
  have bA := Bx.new w [.int .i64 a.pId, .int .i64 a.pX, .int .i64 a.pY, .int .i64 a.pTick, .int .i64 a.pError] 28
  have p1 : IntKind.i64.wrap (a.pTick - a.pError) = a.pTick - a.pError := IntWalk.i64_in _ (by omega)
  have p2 : IntKind.i64.wrap (a.pTick + a.pError) = a.pTick + a.pError := IntWalk.i64_in _ (by omega)
  have p3 : IntKind.i64.wrap (a.pTick - a.pError - r) = a.pTick - a.pError - r := IntWalk.i64_in _ (by omega)
  have hg := HG.out
  rw [hrr] at hg
  clear HG hrr
  by_cases k : rr < q
  case pos =>
    rw [if_pos k] at hg
    have HL := Lib.hid (fun W => leastF 1000000 (a.pTick + a.pError - (r + 1)) g W hg)
    clear hg
    have p4 : IntKind.i64.wrap (a.pTick + a.pError - (r + 1)) = a.pTick + a.pError - (r + 1) := IntWalk.i64_in _ (by omega)
    go_enter Try.func67, Try.ntmps67
    go_wp2_with fail
    refine (CS.out _).mono ?_
    rintro e w1 ⟨rfl, q1⟩
    subst q1
    go_wp2_with fail
    refine (CR.out _).mono ?_
    rintro e w1 ⟨rfl, q1⟩
    subst q1
    have a3 := bA.2 3 _ rfl
    have a4 := bA.2 4 _ rfl
    clear bA
    generalize w.alloc (objA a) = W at *
    go_wp2_with fail
    go_quiet (first | (go_at_call 95; exact Calls.quiet_of_same (HM.out _)) | (go_at_call 96; exact Calls.quiet_of_same (HL.out _)))
    go_wp2
    go_ret2
    exact ⟨rfl, drewN_b N.out _⟩
  case neg =>
    rw [if_neg k] at hg
    have HL := Lib.hid (fun W => leastF 1000000 (a.pTick + a.pError - r) g W hg)
    clear hg
    have p4 : IntKind.i64.wrap (a.pTick + a.pError - r) = a.pTick + a.pError - r := IntWalk.i64_in _ (by omega)
    go_enter Try.func67, Try.ntmps67
    go_wp2_with fail
    refine (CS.out _).mono ?_
    rintro e w1 ⟨rfl, q1⟩
    subst q1
    go_wp2_with fail
    refine (CR.out _).mono ?_
    rintro e w1 ⟨rfl, q1⟩
    subst q1
    have a3 := bA.2 3 _ rfl
    have a4 := bA.2 4 _ rfl
    clear bA
    generalize w.alloc (objA a) = W at *
    go_wp2_with fail
    go_quiet (first | (go_at_call 95; exact Calls.quiet_of_same (HM.out _)) | (go_at_call 96; exact Calls.quiet_of_same (HL.out _)))
    go_wp2
    go_ret2
    exact ⟨rfl, drewN_b N.out _⟩
set_option maxRecDepth 100000 in
set_option maxHeartbeats 2000000 in
theorem specTt (a : GArrival) (v : Value) (x y : Int) (w : World) (B : Nat) (h : ArrivalVL w B v a) (hB : B ≤ w.heap.size) (_ : sz1Arrival a ≤ 1048576) (hw : wfArrival a) (_ : I64 x) (_ : I64 y) :
    Calls Try.prog 28 #[v, .int .i64 x, .int .i64 y] w fun e w' => e = .returned (.tuple #[.int .i64 (loTt a x y), .int .i64 (hiTt a x y), .bool (okTt a x y)]) ∧ Below w.heap.size w w' := by
  obtain rfl := h.form
  clear h
  have N1 := (Below.refl w.heap.size w).alloc (Nat.le_refl _) (objA a)
  have CO := Lib.hid (fun u W hu => specOneA a u W hu)
  have CP := Lib.hid (fun u W hu => specPlace x y u W hu)
  cases h1 : oneAr a with
  | false =>
    have C1 := Lib.hid (fun W => CO.out false W h1)
    have HF := Lib.hid (noTt (badTt (a := a) (x := x) (y := y) (by unfold askTt; rw [h1]; rfl)))
    clear h1
    go_enter Try.func28, Try.ntmps28
    go_wp2_with fail
    refine (C1.out _).mono ?_
    rintro e w1 ⟨rfl, hb⟩
    go_wp2
    go_ret3
    exact ⟨HF.out, N1.trans (hb.mono N1.size)⟩
  | true =>
  have bA := Bx.new w [.int .i64 a.pId, .int .i64 a.pX, .int .i64 a.pY, .int .i64 a.pTick, .int .i64 a.pError] 28
  have C1 := Lib.hid (fun W => CO.out true W h1)
  cases h2 : plcB x y with
  | false =>
    have C2 := Lib.hid (fun W => CP.out false W h2)
    have HF := Lib.hid (noTt (badTt (a := a) (x := x) (y := y) (by unfold askTt; rw [h2, Bool.and_false])))
    clear h1 h2 bA
    go_enter Try.func28, Try.ntmps28
    go_wp2_with fail
    refine (C1.out _).mono ?_
    rintro e w1 ⟨rfl, hb⟩
    have N2 := N1.trans (hb.mono N1.size)
    clear hb
    go_wp2_with fail
    refine (C2.out _).mono ?_
    rintro e w2 ⟨rfl, q2⟩
    subst q2
    go_wp2
    go_ret3
    exact ⟨HF.out, N2⟩
  | true =>
  have C2 := Lib.hid (fun W => CP.out true W h2)
  have hask : askTt a x y = true := by unfold askTt; rw [h1, h2]; rfl
  obtain ⟨ha, hx, hy⟩ := askTt_yes hask
  obtain ⟨⟨l0, l1⟩, ⟨g0, g1⟩⟩ := ticks_bd ha hx hy
  obtain ⟨l, hl⟩ : ∃ l, loT a x y = l := ⟨_, rfl⟩
  obtain ⟨g, hg⟩ : ∃ g, hiT a x y = g := ⟨_, rfl⟩
  rw [hl] at l0 l1
  rw [hg] at g0 g1
  have CT := Lib.hid (fun W => specTicks a x y l g W ha hx hy hl hg)
  by_cases hle : l ≤ g
  case neg =>
    have HF := Lib.hid (noTt (gapTt (a := a) (x := x) (y := y) (by rw [hl, hg]; exact hle)))
    have hle' : g < l := by omega
    clear h1 h2 hask ha hx hy hl hg hle
    go_enter Try.func28, Try.ntmps28
    go_wp2_with fail
    refine (C1.out _).mono ?_
    rintro e w1 ⟨rfl, hb⟩
    have N2 := N1.trans (hb.mono N1.size)
    have bA1 := bA.below hb
    clear hb bA
    go_wp2_with fail
    refine (C2.out _).mono ?_
    rintro e w2 ⟨rfl, q2⟩
    subst q2
    have a0 := bA1.2 0 _ rfl
    have a1 := bA1.2 1 _ rfl
    have a2 := bA1.2 2 _ rfl
    have a3 := bA1.2 3 _ rfl
    have a4 := bA1.2 4 _ rfl
    clear bA1
    go_wp2_with fail
    refine (CT.out _).mono ?_
    rintro e w3 ⟨rfl, hb⟩
    have N3 := N2.trans (hb.mono N2.size)
    go_wp2
    go_ret3
    exact ⟨HF.out, N3⟩
  case pos =>
    have HF := Lib.hid (yesTt hask hl hg hle)
    clear h1 h2 hask ha hx hy hl hg
    go_enter Try.func28, Try.ntmps28
    go_wp2_with fail
    refine (C1.out _).mono ?_
    rintro e w1 ⟨rfl, hb⟩
    have N2 := N1.trans (hb.mono N1.size)
    have bA1 := bA.below hb
    clear hb bA
    go_wp2_with fail
    refine (C2.out _).mono ?_
    rintro e w2 ⟨rfl, q2⟩
    subst q2
    have a0 := bA1.2 0 _ rfl
    have a1 := bA1.2 1 _ rfl
    have a2 := bA1.2 2 _ rfl
    have a3 := bA1.2 3 _ rfl
    have a4 := bA1.2 4 _ rfl
    clear bA1
    go_wp2_with fail
    refine (CT.out _).mono ?_
    rintro e w3 ⟨rfl, hb⟩
    have N3 := N2.trans (hb.mono N2.size)
    go_wp2
    go_ret3
    exact ⟨HF.out, N3⟩
set_option maxRecDepth 100000 in
set_option maxHeartbeats 2000000 in
theorem specDf (a : GArrival) (v : Value) (o : GOrigin) (v2 : Value) (w : World) (B : Nat) (h : ArrivalVL w B v a) (h2 : OriginVL w B v2 o) (hB : B ≤ w.heap.size) (_ : sz1Arrival a ≤ 1048576) (_ : sz1Origin o ≤ 1048576) (hw : wfArrival a) (hw2 : wfOrigin o) :
    Calls Try.prog 13 #[v, v2] w fun e w' => e = .returned (.tuple #[.bool (resDf a o), .bool (okDf a o)]) ∧ Below w.heap.size w w' := by
  obtain rfl := h.form
  obtain rfl := h2.form
  clear h h2
  have N1 := ((Below.refl w.heap.size w).alloc (Nat.le_refl _) (objA a)).alloc (by first | omega | (simp; done) | (simp; omega)) (objO o)
  have CO := Lib.hid (fun u W hu => specOneA a u W hu)
  have CP := Lib.hid (fun u W hu => specOrG o u W hu)
  have bA := (Bx.new w [.int .i64 a.pId, .int .i64 a.pX, .int .i64 a.pY, .int .i64 a.pTick, .int .i64 a.pError] 28).alloc (objO o)
  have bO := Bx.new1 w (objA a) [.int .i64 o.pX, .int .i64 o.pY, .int .i64 o.pTick] 30
  cases h1 : oneAr a with
  | false =>
    have C1 := Lib.hid (fun W => CO.out false W h1)
    have HF := Lib.hid (noDf (a := a) (o := o) (by unfold okDf; rw [h1]; rfl))
    have a0 := bA.2 0 _ rfl
    have a1 := bA.2 1 _ rfl
    have a2 := bA.2 2 _ rfl
    have a3 := bA.2 3 _ rfl
    have a4 := bA.2 4 _ rfl
    clear h1 bA bO
    go_enter Try.func13, Try.ntmps13
    go_wp2_with fail
    refine (C1.out _).mono ?_
    rintro e w1 ⟨rfl, hb⟩
    go_wp2
    go_ret2
    exact ⟨HF.out, N1.trans (hb.mono N1.size)⟩
  | true =>
  have C1 := Lib.hid (fun W => CO.out true W h1)
  cases h2 : goodOr o with
  | false =>
    have C2 := Lib.hid (fun W => CP.out false W h2)
    have HF := Lib.hid (noDf (a := a) (o := o) (by unfold okDf; rw [h2, Bool.and_false]))
    have a0 := bA.2 0 _ rfl
    have a1 := bA.2 1 _ rfl
    have a2 := bA.2 2 _ rfl
    have a3 := bA.2 3 _ rfl
    have a4 := bA.2 4 _ rfl
    clear h1 h2
    go_enter Try.func13, Try.ntmps13
    go_wp2_with fail
    refine (C1.out _).mono ?_
    rintro e w1 ⟨rfl, hb⟩
    have N2 := N1.trans (hb.mono N1.size)
    have bO1 := bO.below hb
    clear hb bA bO a0 a1 a2 a3 a4
    have o0 := bO1.2 0 _ rfl
    have o1 := bO1.2 1 _ rfl
    have o2 := bO1.2 2 _ rfl
    go_wp2_with fail
    refine (C2.out _).mono ?_
    rintro e w2 ⟨rfl, hb⟩
    go_wp2
    go_ret2
    exact ⟨HF.out, N2.trans (hb.mono N2.size)⟩
  | true =>
  have C2 := Lib.hid (fun W => CP.out true W h2)
  have CF := Lib.hid (fun W => specFit a o _ W (oneAr_yes h1) (goodOr_yes h2) rfl)
  have HF := Lib.hid (yesDf (a := a) (o := o) (by unfold okDf; rw [h1, h2]; rfl) rfl)
  generalize fitV a o = u at *
  have a0 := bA.2 0 _ rfl
  have a1 := bA.2 1 _ rfl
  have a2 := bA.2 2 _ rfl
  have a3 := bA.2 3 _ rfl
  have a4 := bA.2 4 _ rfl
  clear h1 h2
  go_enter Try.func13, Try.ntmps13
  go_wp2_with fail
  refine (C1.out _).mono ?_
  rintro e w1 ⟨rfl, hb⟩
  have N2 := N1.trans (hb.mono N1.size)
  have bA1 := bA.below hb
  have bO1 := bO.below hb
  clear hb bA bO a0 a1 a2 a3 a4
  have o0 := bO1.2 0 _ rfl
  have o1 := bO1.2 1 _ rfl
  have o2 := bO1.2 2 _ rfl
  go_wp2_with fail
  refine (C2.out _).mono ?_
  rintro e w2 ⟨rfl, hb⟩
  have N3 := N2.trans (hb.mono N2.size)
  have bA2 := bA1.below hb
  have bO2 := bO1.below hb
  clear hb bA1 bO1 o0 o1 o2
  have a0 := bA2.2 0 _ rfl
  have a1 := bA2.2 1 _ rfl
  have a2 := bA2.2 2 _ rfl
  have a3 := bA2.2 3 _ rfl
  have a4 := bA2.2 4 _ rfl
  have o0 := bO2.2 0 _ rfl
  have o1 := bO2.2 1 _ rfl
  have o2 := bO2.2 2 _ rfl
  go_wp2_with fail
  refine (CF.out _).mono ?_
  rintro e w3 ⟨rfl, hb⟩
  go_wp2
  go_ret2
  exact ⟨HF.out, N3.trans (hb.mono N3.size)⟩
end Go.Proofs.Ytoogofceoinniab
