/- Votes: the program's question whether an origin fits; who votes. -/
import Derived.Test.YtoogofceoinniabVpE
import Derived.Test.YtoogofceoinniabVpB
import Derived.Test.YtoogofceoinniabAcc
import Derived.Test.YtoogofceoinniabIns
namespace Go.Proofs.Ytoogofceoinniab
open Go.ChangeShapes Go.WideShapes Go.ChangeAt Go.RowKit Go.ChangeMaps Go.Sort Go.Shelf
set_option linter.unusedSimpArgs false
set_option linter.unusedVariables false
set_option linter.unusedSimpArgs false
set_option linter.unusedVariables false

abbrev cloF : Nat := 92
theorem fit_enters : ∀ args w, (callFunc 92 args).run Try.prog w = .ok (.enter 92 args) w := enters_of Try.func92 (by kernel_rfl) rfl
/-- The closure: does the origin in its box fit an arrival. -/
theorem cloFit (a : GArrival) (o : GOrigin) (bo : Nat) (u : Bool) (w : World) (ha : okAr a) (ho : okOr o) (bx : Bx w bo [.int .i64 o.pX, .int .i64 o.pY, .int .i64 o.pTick]) (hu : fitV a o = u) :
    Calls Try.prog 92 #[aggA a, .pointer (some ⟨bo, 0, none⟩)] w fun e w' => e = .returned (.bool u) ∧ Below w.heap.size w w' := by
  obtain ⟨l, hl⟩ : ∃ l, loT a o.pX o.pY = l := ⟨_, rfl⟩
  obtain ⟨g, hg⟩ : ∃ g, hiT a o.pX o.pY = g := ⟨_, rfl⟩
  have CS := Lib.hid (fun W => implSpan a o.pX o.pY l g W ha ho.1.1 ho.1.2 hl hg)
  rw [fit_ticks ha ho, hl, hg] at hu
  have CH := Lib.hid (fun W => spanHas l g o.pTick u W hu)
  obtain ⟨W0, hW0⟩ : ∃ W0, w.alloc (.cells #[.int .i64 a.pId, .int .i64 a.pX, .int .i64 a.pY, .int .i64 a.pTick, .int .i64 a.pError] 28) = W0 := ⟨_, rfl⟩
  have N0 : Below w.heap.size w W0 := hW0 ▸ (Below.refl w.heap.size w).alloc (Nat.le_refl _) _
  have bA : Bx W0 w.heap.size [.int .i64 a.pId, .int .i64 a.pX, .int .i64 a.pY, .int .i64 a.pTick, .int .i64 a.pError] := hW0 ▸ Bx.new w [.int .i64 a.pId, .int .i64 a.pX, .int .i64 a.pY, .int .i64 a.pTick, .int .i64 a.pError] 28
  have bO : Bx W0 bo [.int .i64 o.pX, .int .i64 o.pY, .int .i64 o.pTick] := hW0 ▸ bx.alloc _
  have cs := fun d os => Calls.regrown_of (w := W0) (d := d) (os := os) (CS.out _)
  have ch := fun d os => Calls.regrown_of (w := W0) (d := d) (os := os) (CH.out _)
  have ra0 := cell_regrown (bA.2 0 _ rfl)
  have ra1 := cell_regrown (bA.2 1 _ rfl)
  have ra2 := cell_regrown (bA.2 2 _ rfl)
  have ra3 := cell_regrown (bA.2 3 _ rfl)
  have ra4 := cell_regrown (bA.2 4 _ rfl)
  have ro0 := cell_regrown (bO.2 0 _ rfl)
  have ro1 := cell_regrown (bO.2 1 _ rfl)
  have ro2 := cell_regrown (bO.2 2 _ rfl)
  have hlt := bO.1.1
  clear hl hg hu ha ho bx
  go_enter Try.func92, Try.ntmps92
  go_wp2_with fail
  clear hW0
  refine wp_region_quiet_below (by kernel_rfl) (by kernel_rfl) ?_
  repeat (go_big_quiet_step (first | with_reducible exact cs _ _ | with_reducible exact ch _ _))
  refine wpQuiet_nil ?_
  intro _ hw'
  obtain ⟨⟨dq, osq⟩, hw''⟩ := hw'
  subst hw''
  have hb4 := below_regrown (W0) dq osq
  generalize grow (redrawn (W0) dq) osq = w4 at *
  go_wp2
  go_ret
  exact ⟨rfl, N0.trans (hb4.mono N0.size)⟩
theorem implFitted (o : GOrigin) (w : World) :
    Calls Try.prog 62 #[aggO o] w fun e w' => ∃ b, e = .returned (.func (.func 92) #[] #[.pointer (some ⟨b, 0, none⟩)]) ∧ Bx w' b [.int .i64 o.pX, .int .i64 o.pY, .int .i64 o.pTick] ∧ w.heap.size ≤ b ∧ Below w.heap.size w w' := by
  have N := Lib.hid (below_cell (w := w) (Nat.le_refl _) (objO o))
  have bx := Bx.new w [.int .i64 o.pX, .int .i64 o.pY, .int .i64 o.pTick] 30
  go_enter Try.func62, Try.ntmps62
  go_wp2
  go_ret
  exact ⟨_, rfl, bx, Nat.le_refl _, N.out⟩
set_option maxRecDepth 100000 in
set_option maxHeartbeats 2000000 in
theorem implDf (a : GArrival) (v : Value) (o : GOrigin) (v2 : Value) (w : World) (B : Nat) (h : ArrivalVL w B v a) (h2 : OriginVL w B v2 o) (hB : B ≤ w.heap.size) (_ : sz1Arrival a ≤ 1048576) (_ : sz1Origin o ≤ 1048576) (hw : wfArrival a) (hw2 : wfOrigin o) :
    Calls Try.prog 16 #[v, v2] w fun e w' => e = .returned (.tuple #[.bool (resDf a o), .bool (okDf a o)]) ∧ Below w.heap.size w w' := by
  obtain rfl := h.form
  obtain rfl := h2.form
  clear h h2
  have N1 := ((Below.refl w.heap.size w).alloc (Nat.le_refl _) (objA a)).alloc (by first | omega | (simp; done) | (simp; omega)) (objO o)
  have CO := Lib.hid (fun u W hu => implOneA a u W hu)
  have CP := Lib.hid (fun u W hu => implOrG o u W hu)
  have bA := (Bx.new w [.int .i64 a.pId, .int .i64 a.pX, .int .i64 a.pY, .int .i64 a.pTick, .int .i64 a.pError] 28).alloc (objO o)
  have bO := Bx.new1 w (objA a) [.int .i64 o.pX, .int .i64 o.pY, .int .i64 o.pTick] 30
  have a0 := bA.2 0 _ rfl
  have a1 := bA.2 1 _ rfl
  have a2 := bA.2 2 _ rfl
  have a3 := bA.2 3 _ rfl
  have a4 := bA.2 4 _ rfl
  cases h1 : oneAr a with
  | false =>
    have C1 := Lib.hid (fun W => CO.out false W h1)
    have HF := Lib.hid (noDf (a := a) (o := o) (by unfold okDf; rw [h1]; rfl))
    clear h1 bA bO
    go_enter Try.func16, Try.ntmps16
    go_wp2_with fail
    refine (C1.out _).mono ?_
    rintro e w1 ⟨rfl, hb⟩
    go_wp2
    go_ret2
    exact ⟨HF.out, N1.trans (hb.mono N1.size)⟩
  | true =>
  have C1 := Lib.hid (fun W => CO.out true W h1)
  cases h2 : goodOr o with
  | false =>
    have C2 := Lib.hid (fun W => CP.out false W h2)
    have HF := Lib.hid (noDf (a := a) (o := o) (by unfold okDf; rw [h2, Bool.and_false]))
    clear h1 h2
    go_enter Try.func16, Try.ntmps16
    go_wp2_with fail
    refine (C1.out _).mono ?_
    rintro e w1 ⟨rfl, hb⟩
    have N2 := N1.trans (hb.mono N1.size)
    have bO1 := bO.below hb
    clear hb bA bO a0 a1 a2 a3 a4
    have o0 := bO1.2 0 _ rfl
    have o1 := bO1.2 1 _ rfl
    have o2 := bO1.2 2 _ rfl
    go_wp2_with fail
    refine (C2.out _).mono ?_
    rintro e w2 ⟨rfl, hb⟩
    go_wp2
    go_ret2
    exact ⟨HF.out, N2.trans (hb.mono N2.size)⟩
  | true =>
  have C2 := Lib.hid (fun W => CP.out true W h2)
  have CF := Lib.hid (fun W b (bx : Bx W b [.int .i64 o.pX, .int .i64 o.pY, .int .i64 o.pTick]) => cloFit a o b _ W (oneAr_yes h1) (goodOr_yes h2) bx rfl)
  have HF := Lib.hid (yesDf (a := a) (o := o) (by unfold okDf; rw [h1, h2]; rfl) rfl)
  generalize fitV a o = u at *
  clear h1 h2
  go_enter Try.func16, Try.ntmps16
  go_wp2_with fail
  refine (C1.out _).mono ?_
  rintro e w1 ⟨rfl, hb⟩
  have N2 := N1.trans (hb.mono N1.size)
  have bA1 := bA.below hb
  have bO1 := bO.below hb
  clear hb bA bO a0 a1 a2 a3 a4 N1
  have o0 := bO1.2 0 _ rfl
  have o1 := bO1.2 1 _ rfl
  have o2 := bO1.2 2 _ rfl
  go_wp2_with fail
  refine (C2.out _).mono ?_
  rintro e w2 ⟨rfl, hb⟩
  have N3 := N2.trans (hb.mono N2.size)
  have bA2 := bA1.below hb
  have bO2 := bO1.below hb
  clear hb bA1 bO1 o0 o1 o2 N2
  have a0 := bA2.2 0 _ rfl
  have a1 := bA2.2 1 _ rfl
  have a2 := bA2.2 2 _ rfl
  have a3 := bA2.2 3 _ rfl
  have a4 := bA2.2 4 _ rfl
  have o0 := bO2.2 0 _ rfl
  have o1 := bO2.2 1 _ rfl
  have o2 := bO2.2 2 _ rfl
  go_wp2_with fail
  refine (implFitted o _).mono ?_
  rintro e w3 ⟨b, rfl, bx3, hbb, hb⟩
  have N4 := N3.trans (hb.mono N3.size)
  have bA3 := bA2.below hb
  clear hb bA2 bO2 o0 o1 o2 a0 a1 a2 a3 a4 N3
  have a0 := bA3.2 0 _ rfl
  have a1 := bA3.2 1 _ rfl
  have a2 := bA3.2 2 _ rfl
  have a3 := bA3.2 3 _ rfl
  have a4 := bA3.2 4 _ rfl
  go_wp2_with fail
  refine (CF.out _ b bx3).mono ?_
  rintro e w4 ⟨rfl, hb⟩
  go_wp2
  go_ret2
  exact ⟨HF.out, N4.trans (hb.mono N4.size)⟩
set_option maxRecDepth 100000 in
set_option maxHeartbeats 4000000 in
theorem implVo (xs : List GArrival) (v : Value) (o : GOrigin) (v2 : Value) (w : World) (B : Nat) (h : ArrivalL w B v xs) (h2 : OriginVL w B v2 o) (hB : B ≤ w.heap.size) (hn : szsArrival xs ≤ 1048576) (_ : sz1Origin o ≤ 1048576) (hw : ∀ s ∈ xs, wfArrival s) (hw2 : wfOrigin o) :
    Calls Try.prog 23 #[v, v2] w fun e w' => ∃ v', e = .returned (.tuple #[v', .bool (okVo xs o)]) ∧ Own (Value.int .i64) w' w.heap.size w'.heap.size v' (resVo xs o) ∧ Below w.heap.size w w' := by
  obtain rfl := h2.form
  clear h2
  have hl := Nat.le_trans (szsArrival_len xs) hn
  obtain ⟨W0, hW0⟩ : ∃ W0, w.alloc (.cells #[.int .i64 o.pX, .int .i64 o.pY, .int .i64 o.pTick] 30) = W0 := ⟨_, rfl⟩
  have N0 : Below w.heap.size w W0 := hW0 ▸ (Below.refl w.heap.size w).alloc (Nat.le_refl _) _
  have bO : Bx W0 w.heap.size [.int .i64 o.pX, .int .i64 o.pY, .int .i64 o.pTick] := hW0 ▸ Bx.new w [.int .i64 o.pX, .int .i64 o.pY, .int .i64 o.pTick] 30
  have z0 := N0.size
  have h0 := h.below (N0.mono hB)
  have CA := Lib.hid (fun u hu => implGoodA xs v u W0 B h0 (Nat.le_trans hB z0) hl hu)
  have CP := Lib.hid (fun u W hu => implOrG o u W hu)
  cases h1 : goodAr xs with
  | false =>
    have C1 := Lib.hid (CA.out false h1)
    have e : okVo xs o = false := by unfold okVo; rw [h1]; rfl
    rw [e, resVo_no e]
    clear CA CP h1 e h0
    obtain ⟨ao, cap, rfl⟩ := h.form
    clear h
    go_enter Try.func23, Try.ntmps23
    go_wp2_with fail
    refine C1.out.mono ?_
    rintro e w1 ⟨rfl, hb⟩
    have N1 := N0.trans (hb.mono z0)
    go_wp2
    go_ret2
    exact ⟨_, rfl, own_empty _ 3 N1.size, N1.alloc N1.size _⟩
  | true =>
  have C1 := Lib.hid (CA.out true h1)
  cases h2 : goodOr o with
  | false =>
    have C2 := Lib.hid (fun W => CP.out false W h2)
    have e : okVo xs o = false := by unfold okVo; rw [h2, Bool.and_false]
    rw [e, resVo_no e]
    clear CA CP h1 e h0 h2
    obtain ⟨ao, cap, rfl⟩ := h.form
    clear h
    go_enter Try.func23, Try.ntmps23
    go_wp2_with fail
    refine C1.out.mono ?_
    rintro e w1 ⟨rfl, hb⟩
    have N1 := N0.trans (hb.mono z0)
    have bO1 := bO.below hb
    clear hb bO hW0
    have o0 := bO1.2 0 _ rfl
    have o1 := bO1.2 1 _ rfl
    have o2 := bO1.2 2 _ rfl
    go_wp2_with fail
    refine (C2.out _).mono ?_
    rintro e w2 ⟨rfl, hb⟩
    have N2 := N1.trans (hb.mono N1.size)
    go_wp2
    go_ret2
    exact ⟨_, rfl, own_empty _ 3 N2.size, N2.alloc N2.size _⟩
  | true =>
  have C2 := Lib.hid (fun W => CP.out true W h2)
  have e : okVo xs o = true := by unfold okVo; rw [h1, h2]; rfl
  rw [e, resVo_yes e]
  have hok := goodAr_yes h1
  have HOK := Lib.hid hok
  have HO := Lib.hid (goodOr_yes h2)
  have hl8 := hok.2
  obtain ⟨ti, hi, hz0, hz1, hz2⟩ := info_parts infoInt
  clear CA CP h1 e h0 h2 hok
  obtain ⟨ao, cap, rfl, hcap, hmax, -, hc⟩ := h
  unfold maxLen at hmax
  have HC := Lib.hid hc
  clear hc
  go_enter Try.func23, Try.ntmps23
  go_wp2_with fail
  refine C1.out.mono ?_
  rintro e w1 ⟨rfl, hb⟩
  have N1 := N0.trans (hb.mono z0)
  have bO1 := bO.below hb
  clear hb bO hW0 N0
  have o0 := bO1.2 0 _ rfl
  have o1 := bO1.2 1 _ rfl
  have o2 := bO1.2 2 _ rfl
  go_wp2_with fail
  refine (C2.out _).mono ?_
  rintro e w2 ⟨rfl, hb⟩
  have N2 := N1.trans (hb.mono N1.size)
  have bO2 := bO1.below hb
  clear hb bO1 o0 o1 o2 N1
  have o0 := bO2.2 0 _ rfl
  have o1 := bO2.2 1 _ rfl
  have o2 := bO2.2 2 _ rfl
  go_wp2_with fail
  refine (implFitted o _).mono ?_
  rintro e w3 ⟨bo, rfl, bx3, hbb, hb⟩
  have N3 := N2.trans (hb.mono N2.size)
  clear hb bO2 o0 o1 o2 N2
  have hrow0 := row_empty w3 (base := w3.heap.size) 3 1 (Nat.le_refl _)
  have B0 := (Below.refl w3.heap.size w3).alloc (Nat.le_refl _) (.cells #[] 3)
  have z3 := N3.size
  have CF := Lib.hid (fun W a u (q : Below w3.heap.size w3 W) (ha : okAr a) hu => cloFit a o bo u W ha HO.out (bx3.below q) hu)
  go_wp2
  go_loopw [7, 24] (fun q i wr => ∃ (k n : Nat) (v : Value) (il : List Int), k ≤ xs.length ∧ i = .int .i64 k ∧ q = v ∧ n ≤ k ∧ Hid (il = votV (xs.take k) o) ∧ wr.ownsRow w3.heap.size 3 1 v n (il.map (Value.int .i64)) ∧ (∃ ao cap, v = .slice ao n cap) ∧ Below w3.heap.size w3 wr)
    (fun _ i _ => xs.length - (intOf i).toNat)
  case atStart => exact ⟨0, 0, _, [], Nat.zero_le _, rfl, rfl, Nat.le_refl _, Lib.hid rfl, hrow0, ⟨_, _, rfl⟩, B0⟩
  case round =>
    obtain ⟨k, n, _, il, hk, rfl, rfl, hnk, HIL, hrow, ⟨oa, oc, rfl⟩, hbl⟩ := hrel
    have hsz := hbl.size
    clear B0 hrow0
    by_cases hlt : k < xs.length
    case neg =>
      obtain rfl : k = xs.length := by omega
      have HE : Hid (il = votV xs o) := Lib.hid (by rw [HIL.out, List.take_length])
      go_wp2
      go_ret2
      refine ⟨_, rfl, ?_, N3.trans (hbl.mono z3)⟩
      rw [← HE.out]
      exact (Own.of_row hrow).mono z3 (Nat.le_refl _)
    have hk0 : (0 : Int) ≤ (k : Int) := by omega
    have hk1 : (k : Int) < (xs.length : Int) := by omega
    have hk2 : (k : Int) ≤ 8 := by omega
    obtain ⟨a, ha⟩ := get_of_lt hlt
    have hoka := okArs_mem HOK.out (List.mem_of_getElem? ha)
    obtain ⟨b, off, rfl, hb, hcell⟩ := HC.out k a ha
    have c0 : wr.cell? ⟨b, off + k * 5, none⟩ = some (.int .i64 a.pId) := cellOf (N3.trans (hbl.mono z3)) (by omega) (hcell 0 _ rfl)
    have c1 : wr.cell? ⟨b, off + k * 5 + 1, none⟩ = some (.int .i64 a.pX) := cellOf (N3.trans (hbl.mono z3)) (by omega) (hcell 1 _ rfl)
    have c2 : wr.cell? ⟨b, off + k * 5 + 2, none⟩ = some (.int .i64 a.pY) := cellOf (N3.trans (hbl.mono z3)) (by omega) (hcell 2 _ rfl)
    have c3 : wr.cell? ⟨b, off + k * 5 + 3, none⟩ = some (.int .i64 a.pTick) := cellOf (N3.trans (hbl.mono z3)) (by omega) (hcell 3 _ rfl)
    have c4 : wr.cell? ⟨b, off + k * 5 + 4, none⟩ = some (.int .i64 a.pError) := cellOf (N3.trans (hbl.mono z3)) (by omega) (hcell 4 _ rfl)
    have HT := Lib.hid (votV_take ha o)
    obtain ⟨W1, hW1⟩ : ∃ W1, wr.alloc (.cells #[.int .i64 a.pId, .int .i64 a.pX, .int .i64 a.pY, .int .i64 a.pTick, .int .i64 a.pError] 28) = W1 := ⟨_, rfl⟩
    have A1 : Below wr.heap.size wr W1 := hW1 ▸ (Below.refl _ _).alloc (Nat.le_refl _) _
    have bx : Bx W1 wr.heap.size [.int .i64 a.pId, .int .i64 a.pX, .int .i64 a.pY, .int .i64 a.pTick, .int .i64 a.pError] := hW1 ▸ Bx.new wr [.int .i64 a.pId, .int .i64 a.pX, .int .i64 a.pY, .int .i64 a.pTick, .int .i64 a.pError] 28
    have N4 := hbl.trans (A1.mono hsz)
    have z4 := N4.size
    have hr1 := row_below hrow A1
    have e0 := bx.2 0 _ rfl
    have e1 := bx.2 1 _ rfl
    have e2 := bx.2 2 _ rfl
    have e3 := bx.2 3 _ rfl
    have e4 := bx.2 4 _ rfl
    obtain ⟨u, hu⟩ : ∃ u, fitV a o = u := ⟨_, rfl⟩
    have CF1 := Lib.hid (CF.out W1 a u N4 hoka hu)
    have HU := Lib.hid hu
    clear ha hcell hoka hu hrow A1
    go_wp2_with fail
    refine CF1.out.mono ?_
    rintro e w4 ⟨rfl, hb4⟩
    have N5 := N4.trans (hb4.mono z4)
    have z5 := N5.size
    have hr2 := row_below hr1 hb4
    have bx2 := bx.below hb4
    clear hW1 e0 e1 e2 e3 e4 c0 c1 c2 c3 c4 hb4 bx hr1
    cases u with
    | false =>
      have HIL2 : Hid (il = votV (xs.take (k + 1)) o) := Lib.hid (by rw [HT.out, HU.out, HIL.out]; rfl)
      go_wp2
      go_roundw
      case rel => exact ⟨k + 1, n, _, il, by omega, by go_num, rfl, by omega, HIL2, hr2, ⟨_, _, rfl⟩, N5⟩
      case measure => simp [intOf]; omega
    | true =>
      have HIL2 : Hid (il ++ [a.pId] = votV (xs.take (k + 1)) o) := Lib.hid (by rw [HT.out, HU.out, HIL.out]; rfl)
      have d0 := bx2.2 0 _ rfl
      go_wp2_with (at_builtin; refine wpList_append_own _ rfl _ _ 41 rfl (w3.heap.size) 3 ti (.int .i64 0) 1 8 Try.underlying41 hi hz0 hz1 hz2 rfl (by decide) _ n (il.map (Value.int .i64)) rfl (hr2.alloc _) ⟨w4.heap.size, 0, none⟩ 1 1 [.int .i64 a.pId] rfl rfl (cell_one_new _ _ _) (by simp [Value.oneCell']) (by unfold maxLen; omega) (by omega) (by first | omega | (simp; done) | (simp; omega)) ?_; intro v6 w6 hown' hgrow _; have b6 := below_app2 hr2 hgrow z5 (Nat.le_refl _))
      have hrow3 : w6.ownsRow w3.heap.size 3 1 v6 (n + 1) ((il ++ [a.pId]).map (Value.int .i64)) := by simpa using hown'
      obtain ⟨a3, c3, rfl⟩ := row_form hrow3
      clear hgrow hr2 hown' bx2 d0
      go_wp2
      go_roundw
      case rel => exact ⟨k + 1, n + 1, _, _, by omega, by go_num, rfl, by omega, HIL2, hrow3, ⟨_, _, rfl⟩, N5.trans b6⟩
      case measure => simp [intOf]; omega
theorem implNv (xs : List GArrival) (v : Value) (o : GOrigin) (v2 : Value) (w : World) (B : Nat) (h : ArrivalL w B v xs) (h2 : OriginVL w B v2 o) (hB : B ≤ w.heap.size) (hn : szsArrival xs ≤ 1048576) (hn2 : sz1Origin o ≤ 1048576) (hw : ∀ s ∈ xs, wfArrival s) (hw2 : wfOrigin o) :
    Calls Try.prog 20 #[v, v2] w fun e w' => e = .returned (.tuple #[.int .i64 (numVo xs o), .bool (okVo xs o)]) ∧ Below w.heap.size w w' := by
  have N0 := (Below.refl w.heap.size w).alloc (Nat.le_refl _) (objO o)
  have C := Lib.hid (implVo xs v o v2 _ B (h.below (N0.mono hB)) h2 (Nat.le_trans hB N0.size) hn hn2 hw hw2)
  have HL := Lib.hid (numVo_res xs o)
  have hlen := resVo_len xs o
  rw [HL.out]
  obtain ⟨ao, cap, rfl⟩ := h.form
  obtain rfl := h2.form
  generalize resVo xs o = l at *
  clear h h2 HL
  go_enter Try.func20, Try.ntmps20
  go_wp2_with fail
  refine C.out.mono ?_
  rintro e w1 ⟨v1, rfl, hown, hb⟩
  obtain ⟨ao1, cap1, rfl⟩ := hown.form
  go_wp2
  go_ret2
  exact ⟨rfl, N0.trans (hb.mono N0.size)⟩
end Go.Proofs.Ytoogofceoinniab
