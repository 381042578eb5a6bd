/- Location by boxes: which origins are consistent, and at how many places, by the specification. -/
import Derived.Test.YtoogofceoinniaaLoB
import Derived.Test.YtoogofceoinniaaVoE
namespace Go.Proofs.Ytoogofceoinniaa
open Go.ChangeShapes Go.WideShapes Go.ChangeAt Go.RowKit Go.ChangeMaps Go.Sort
set_option linter.unusedSimpArgs false
set_option linter.unusedVariables false
set_option linter.unusedSimpArgs false
set_option linter.unusedVariables false

theorem co_no1 {xs : List GArrival} {o : GOrigin} (h : okCo xs o = false) : resCo xs o = false := by unfold resCo; rw [h]; rfl
theorem co_yes {xs : List GArrival} {o : GOrigin} (h : okCo xs o = true) {n : Nat} (hn : (votV xs o).length = n) {u : Bool} (hu : decide ((n : Int) = (xs.length : Int)) = u) : resCo xs o = u := by
  unfold resCo
  rw [h, consV_vot, hn, Bool.true_and, ← hu, Bool.eq_iff_iff, decide_eq_true_eq, decide_eq_true_eq]
  omega
set_option maxRecDepth 100000 in
set_option maxHeartbeats 2000000 in
theorem specCo (xs : List GArrival) (v : Value) (o : GOrigin) (v2 : Value) (w : World) (B : Nat) (h : ArrivalL w B v xs) (h2 : OriginVL w B v2 o) (hB : B ≤ w.heap.size) (hn : szsArrival xs ≤ 1048576) (_ : sz1Origin o ≤ 1048576) (hw : ∀ s ∈ xs, wfArrival s) (hw2 : wfOrigin o) :
    Calls Try.prog 31 #[v, v2] w fun e w' => e = .returned (.tuple #[.bool (resCo xs o), .bool (okCo xs o)]) ∧ Below w.heap.size w w' := by
  obtain rfl := h2.form
  clear h2
  have hl := Nat.le_trans (szsArrival_len xs) hn
  obtain ⟨W0, hW0⟩ : ∃ W0, w.alloc (.cells #[.int .i64 o.pX, .int .i64 o.pY, .int .i64 o.pTick] 50) = W0 := ⟨_, rfl⟩
  have N0 : Below w.heap.size w W0 := hW0 ▸ (Below.refl w.heap.size w).alloc (Nat.le_refl _) _
  have bO : Bx W0 w.heap.size [.int .i64 o.pX, .int .i64 o.pY, .int .i64 o.pTick] := hW0 ▸ Bx.new w [.int .i64 o.pX, .int .i64 o.pY, .int .i64 o.pTick] 50
  have z0 := N0.size
  have h0 := h.below (N0.mono hB)
  have CL := Lib.hid (fun u hu => specLst xs v u W0 B h0 (Nat.le_trans hB z0) hl hu)
  have CO := Lib.hid (fun u W hu => specOrG o u W hu)
  have CV := Lib.hid (fun W (q : Below W0.heap.size W0 W) hok ho => specVoters xs v o W B (h0.below (q.mono (by omega))) (Nat.le_trans hB (Nat.le_trans z0 q.size)) hok ho)
  obtain ⟨ao, cap, rfl⟩ := h.form
  clear h h0
  cases h1 : lstB xs with
  | false =>
    have C1 := Lib.hid (CL.out false h1)
    have e : okCo xs o = false := by unfold okCo; rw [h1]; rfl
    have HF := Lib.hid (no2b (co_no1 e) e)
    clear h1 e CL CO CV
    go_enter Try.func31, Try.ntmps31
    go_wp2_with fail
    refine C1.out.mono ?_
    rintro e w1 ⟨rfl, hb⟩
    go_wp2
    go_ret2
    exact ⟨HF.out, N0.trans (hb.mono z0)⟩
  | true =>
  have C1 := Lib.hid (CL.out true h1)
  cases h2 : goodOr o with
  | false =>
    have C2 := Lib.hid (fun W => CO.out false W h2)
    have e : okCo xs o = false := by unfold okCo; rw [h2, Bool.and_false]
    have HF := Lib.hid (no2b (co_no1 e) e)
    clear h1 h2 e CL CO CV
    go_enter Try.func31, Try.ntmps31
    go_wp2_with fail
    refine C1.out.mono ?_
    rintro e w1 ⟨rfl, hb⟩
    have N1 := N0.trans (hb.mono z0)
    have bO1 := bO.below hb
    have a0 := bO1.2 0 _ rfl
    have a1 := bO1.2 1 _ rfl
    have a2 := bO1.2 2 _ rfl
    clear bO1 bO hb
    go_wp2_with fail
    refine (C2.out _).mono ?_
    rintro e w2 ⟨rfl, hb⟩
    go_wp2
    go_ret2
    exact ⟨HF.out, N1.trans (hb.mono N1.size)⟩
  | true =>
  have C2 := Lib.hid (fun W => CO.out true W h2)
  have e : okCo xs o = true := by unfold okCo; rw [h1, h2]; rfl
  have C3 := Lib.hid (fun W q => CV.out W q (lstB_yes h1).1 (goodOr_yes h2))
  obtain ⟨n, hn9⟩ : ∃ n, (votV xs o).length = n := ⟨_, rfl⟩
  have hn8 : n ≤ 8 := by
    have := votV_len xs o
    have := (lstB_yes h1).1.2
    omega
  have hl8 := (lstB_yes h1).1.2
  have HN := Lib.hid hn9
  obtain ⟨u, hu⟩ : ∃ u, decide ((n : Int) = (xs.length : Int)) = u := ⟨_, rfl⟩
  have HF := Lib.hid (yes2b (co_yes e hn9 hu) e)
  have HU := Lib.hid hu
  clear h1 h2 e CL CO CV hn9 hu
  go_enter Try.func31, Try.ntmps31
  go_wp2_with fail
  refine C1.out.mono ?_
  rintro e w1 ⟨rfl, hb⟩
  have N1 := N0.trans (hb.mono z0)
  have bO1 := bO.below hb
  have a0 := bO1.2 0 _ rfl
  have a1 := bO1.2 1 _ rfl
  have a2 := bO1.2 2 _ rfl
  clear bO
  go_wp2_with fail
  refine (C2.out _).mono ?_
  rintro e w2 ⟨rfl, hb2⟩
  have hb3 := hb.trans (hb2.mono hb.size)
  have N2 := N1.trans (hb2.mono N1.size)
  have bO2 := bO1.below hb2
  clear a0 a1 a2 hb hb2 bO1
  have a0 := bO2.2 0 _ rfl
  have a1 := bO2.2 1 _ rfl
  have a2 := bO2.2 2 _ rfl
  clear bO2
  go_wp2_with fail
  refine (C3.out _ hb3).mono ?_
  rintro e w3 ⟨v3, rfl, hown, hb⟩
  obtain ⟨ao3, cap3, rfl⟩ := hown.form
  rw [HN.out]
  clear hown
  have hq : ((n : Int) == (xs.length : Int)) = u := by rw [← HU.out]; rfl
  clear a0 a1 a2
  go_wp2
  go_ret2
  exact ⟨HF.out, N2.trans (hb.mono N2.size)⟩
set_option maxRecDepth 100000 in
set_option maxHeartbeats 4000000 in
theorem specAt (xs : List GArrival) (v : Value) (x y f0 t0 : Int) (u : Bool) (w : World) (B : Nat) (h : ArrivalL w B v xs) (hB : B ≤ w.heap.size) (hok : okArs xs) (hx : 0 ≤ x ∧ x ≤ 999) (hy : 0 ≤ y ∧ y ≤ 999) (hu : atV xs x y f0 t0 = u) :
    Calls Try.prog 78 #[v, .int .i64 x, .int .i64 y, .int .i64 f0, .int .i64 t0] w fun e w' => e = .returned (.bool u) ∧ Below w.heap.size w w' := by
  have HOK := Lib.hid hok
  have HU := Lib.hid hu
  have HX := Lib.hid hx
  have HY := Lib.hid hy
  have hl8 := hok.2
  obtain ⟨ao, cap, rfl, hcap, hmax, -, hc⟩ := h
  unfold maxLen at hmax
  have HC := Lib.hid hc
  clear hc hok hu hx hy
  go_enter Try.func78, Try.ntmps78
  go_wp2
  go_loopw [3, 4, 11] (fun fv tv i wr => ∃ (k : Nat) (f t : Int), k ≤ xs.length ∧ i = .int .i64 k ∧ fv = .int .i64 f ∧ tv = .int .i64 t ∧ Hid (frV xs x y f0 k = f) ∧ Hid (toV xs x y t0 k = t) ∧ Below w.heap.size w wr)
    (fun _ _ i _ => xs.length - (intOf i).toNat)
  case atStart => exact ⟨0, _, _, Nat.zero_le _, rfl, rfl, rfl, Lib.hid rfl, Lib.hid rfl, Below.refl _ _⟩
  case round =>
    obtain ⟨k, f, t, hk, rfl, rfl, rfl, HFr, HTo, hbl⟩ := hrel
    have hsz := hbl.size
    by_cases hlt : k < xs.length
    case neg =>
      obtain rfl : k = xs.length := by omega
      have HE : Hid (decide (f ≤ t) = u) := Lib.hid (by rw [← HU.out]; unfold atV; rw [HFr.out, HTo.out])
      go_wp2
      go_ret
      exact ⟨ret_bool HE.out, hbl⟩
    have hk0 : (0 : Int) ≤ (k : Int) := by omega
    have hk1 : (k : Int) < (xs.length : Int) := by omega
    obtain ⟨a, ha⟩ := get_of_lt hlt
    have hoka := okArs_mem HOK.out (List.mem_of_getElem? ha)
    obtain ⟨b, off, rfl, hb, hcell⟩ := HC.out k a ha
    have c0 : wr.cell? ⟨b, off + k * 5, none⟩ = some (.int .i64 a.pId) := cellOf hbl (by omega) (hcell 0 _ rfl)
    have c1 : wr.cell? ⟨b, off + k * 5 + 1, none⟩ = some (.int .i64 a.pX) := cellOf hbl (by omega) (hcell 1 _ rfl)
    have c2 : wr.cell? ⟨b, off + k * 5 + 2, none⟩ = some (.int .i64 a.pY) := cellOf hbl (by omega) (hcell 2 _ rfl)
    have c3 : wr.cell? ⟨b, off + k * 5 + 3, none⟩ = some (.int .i64 a.pTick) := cellOf hbl (by omega) (hcell 3 _ rfl)
    have c4 : wr.cell? ⟨b, off + k * 5 + 4, none⟩ = some (.int .i64 a.pError) := cellOf hbl (by omega) (hcell 4 _ rfl)
    obtain ⟨l, hl⟩ : ∃ l, loT a x y = l := ⟨_, rfl⟩
    obtain ⟨g, hg⟩ : ∃ g, hiT a x y = g := ⟨_, rfl⟩
    obtain ⟨f2, hf2⟩ : ∃ f2, max f l = f2 := ⟨_, rfl⟩
    obtain ⟨t2, ht2⟩ : ∃ t2, min t g = t2 := ⟨_, rfl⟩
    have CT := Lib.hid (fun W => specTicks a x y l g W hoka HX.out HY.out hl hg)
    have CM := Lib.hid (fun W => mostF f l f2 W hf2)
    have CN := Lib.hid (fun W => leastF t g t2 W ht2)
    have HF2 : Hid (frV xs x y f0 (k + 1) = f2) := Lib.hid (by rw [frV_succ ha, HFr.out, hl, hf2])
    have HT2 : Hid (toV xs x y t0 (k + 1) = t2) := Lib.hid (by rw [toV_succ ha, HTo.out, hg, ht2])
    clear ha hcell hoka hl hg hf2 ht2
    go_wp2_with fail
    refine (CT.out _).mono ?_
    rintro e w1 ⟨rfl, hb1⟩
    have N1 := hbl.trans (hb1.mono hsz)
    clear hb1 c0 c1 c2 c3 c4
    go_wp2_with fail
    refine (CM.out _).mono ?_
    rintro e w2 ⟨rfl, q2⟩
    subst q2
    go_wp2_with fail
    refine (CN.out _).mono ?_
    rintro e w2 ⟨rfl, q2⟩
    subst q2
    go_wp2
    go_roundw
    case rel => exact ⟨k + 1, f2, t2, by omega, by go_num, rfl, rfl, HF2, HT2, N1⟩
    case measure => simp [intOf]; omega
theorem span_in {w s : Int} (hw : 0 ≤ w ∧ w ≤ 999) (hs : 1 ≤ s ∧ s ≤ 512) (i : Nat) : i < spanN w s ↔ w + i < w + s ∧ w + (i : Int) ≤ 999 := by unfold spanN; omega
theorem span_bd {w s : Int} (hw : 0 ≤ w ∧ w ≤ 999) (hs : 1 ≤ s ∧ s ≤ 16) : spanN w s ≤ 16 := by unfold spanN; omega
theorem rowC_yes {xs : List GArrival} {b : GCube} {x : Int} {j : Nat} {y : Int} (hy : b.pSouth + j = y) (h : atV xs x y b.pFrom b.pTo = true) : rowC xs b x (j + 1) = rowC xs b x j + 1 := by
  subst hy
  unfold rowC
  rw [if_pos h]
  cases j <;> rfl
theorem rowC_no {xs : List GArrival} {b : GCube} {x : Int} {j : Nat} {y : Int} (hy : b.pSouth + j = y) (h : atV xs x y b.pFrom b.pTo = false) : rowC xs b x (j + 1) = rowC xs b x j := by
  subst hy
  conv => lhs; unfold rowC
  rw [if_neg (by rw [h]; exact Bool.false_ne_true)]
theorem ci_no {xs : List GArrival} {b : GCube} (h : okCi xs b = false) : Ending.returned (.tuple #[.int .i64 0, .bool false]) = .returned (.tuple #[.int .i64 (numCi xs b), .bool (okCi xs b)]) := by rw [numCi_no h, h]
theorem ci_yes {xs : List GArrival} {b : GCube} (h : okCi xs b = true) {n : Int} (hn : numC xs b = n) : Ending.returned (.tuple #[.int .i64 n, .bool true]) = .returned (.tuple #[.int .i64 (numCi xs b), .bool (okCi xs b)]) := by rw [numCi_yes h, h, hn]
set_option maxRecDepth 100000 in
set_option maxHeartbeats 8000000 in
theorem specCi (xs : List GArrival) (v : Value) (b : GCube) (v2 : Value) (w : World) (B : Nat) (h : ArrivalL w B v xs) (h2 : CubeVL w B v2 b) (hB : B ≤ w.heap.size) (hn : szsArrival xs ≤ 1048576) (_ : sz1Cube b ≤ 1048576) (hw : ∀ s ∈ xs, wfArrival s) (hw2 : wfCube b) :
    Calls Try.prog 34 #[v, v2] w fun e w' => e = .returned (.tuple #[.int .i64 (numCi xs b), .bool (okCi xs b)]) ∧ Below w.heap.size w w' := by
  obtain rfl := h2.form
  clear h2
  have hl := Nat.le_trans (szsArrival_len xs) hn
  obtain ⟨W0, hW0⟩ : ∃ W0, w.alloc (objCb b) = W0 := ⟨_, rfl⟩
  have N0 : Below w.heap.size w W0 := hW0 ▸ (Below.refl w.heap.size w).alloc (Nat.le_refl _) _
  have bB : Bx W0 w.heap.size [.int .i64 b.pWest, .int .i64 b.pSouth, .int .i64 b.pSide, .int .i64 b.pFrom, .int .i64 b.pTo] := hW0 ▸ Bx.new w [.int .i64 b.pWest, .int .i64 b.pSouth, .int .i64 b.pSide, .int .i64 b.pFrom, .int .i64 b.pTo] 25
  have z0 := N0.size
  have h0 := h.below (N0.mono hB)
  have CL := Lib.hid (fun u hu => specLst xs v u W0 B h0 (Nat.le_trans hB z0) hl hu)
  have CC := Lib.hid (fun x y u W (q : Below W0.heap.size W0 W) hok hx hy hu => specAt xs v x y b.pFrom b.pTo u W B (h0.below (q.mono (by omega))) (Nat.le_trans hB (Nat.le_trans z0 q.size)) hok hx hy hu)
  obtain ⟨ao, cap, rfl⟩ := h.form
  clear h h0
  cases h1 : lstB xs with
  | false =>
    have C1 := Lib.hid (CL.out false h1)
    have e : okCi xs b = false := by unfold okCi; rw [h1]; rfl
    have HF := Lib.hid (ci_no e)
    clear h1 e CL CC
    go_enter Try.func34, Try.ntmps34
    go_wp2_with fail
    refine C1.out.mono ?_
    rintro e w1 ⟨rfl, hb⟩
    go_wp2
    go_ret2
    exact ⟨HF.out, N0.trans (hb.mono z0)⟩
  | true =>
  have C1 := Lib.hid (CL.out true h1)
  cases h2 : goodCb b with
  | false =>
    have C2 := Lib.hid (fun W => specGoodCb b false W h2)
    have e : okCi xs b = false := by unfold okCi; rw [h2]; simp
    have HF := Lib.hid (ci_no e)
    clear h1 h2 e CL CC
    go_enter Try.func34, Try.ntmps34
    go_wp2_with fail
    refine C1.out.mono ?_
    rintro e w1 ⟨rfl, hb⟩
    have N1 := N0.trans (hb.mono z0)
    have bB1 := bB.below hb
    have a0 := bB1.2 0 _ rfl
    have a1 := bB1.2 1 _ rfl
    have a2 := bB1.2 2 _ rfl
    have a3 := bB1.2 3 _ rfl
    have a4 := bB1.2 4 _ rfl
    clear bB1 bB hb
    go_wp2_with fail
    refine (C2.out _).mono ?_
    rintro e w2 ⟨rfl, hb⟩
    go_wp2
    go_ret2
    exact ⟨HF.out, N1.trans (hb.mono N1.size)⟩
  | true =>
  have C2 := Lib.hid (fun W => specGoodCb b true W h2)
  by_cases h3 : b.pSide ≤ 16
  case neg =>
    have e : okCi xs b = false := by unfold okCi; rw [decide_eq_false h3]; simp
    have HF := Lib.hid (ci_no e)
    have h4 : 16 < b.pSide := by omega
    have sb := okSide_bd (goodCb_yes h2).1
    clear h1 h2 e CL CC h3
    go_enter Try.func34, Try.ntmps34
    go_wp2_with fail
    refine C1.out.mono ?_
    rintro e w1 ⟨rfl, hb⟩
    have N1 := N0.trans (hb.mono z0)
    have bB1 := bB.below hb
    have a0 := bB1.2 0 _ rfl
    have a1 := bB1.2 1 _ rfl
    have a2 := bB1.2 2 _ rfl
    have a3 := bB1.2 3 _ rfl
    have a4 := bB1.2 4 _ rfl
    clear bB hb
    go_wp2_with fail
    refine (C2.out _).mono ?_
    rintro e w2 ⟨rfl, hb⟩
    have bB2 := bB1.below hb
    clear a0 a1 a2 a3 a4 bB1
    have a2 := bB2.2 2 _ rfl
    go_wp2
    go_ret2
    exact ⟨HF.out, N1.trans (hb.mono N1.size)⟩
  have e : okCi xs b = true := by unfold okCi; rw [h1, h2, decide_eq_true h3]; rfl
  have hcb := goodCb_yes h2
  have sb := okSide_bd hcb.1
  have pb := hcb.2.1
  obtain ⟨⟨w0, w9⟩, ⟨s0, s9⟩⟩ := pb
  obtain ⟨sd0, -⟩ := sb
  have CX := Lib.hid (fun (i : Nat) => span_in (w := b.pWest) (s := b.pSide) ⟨w0, w9⟩ ⟨sd0, by omega⟩ i)
  have CY := Lib.hid (fun (i : Nat) => span_in (w := b.pSouth) (s := b.pSide) ⟨s0, s9⟩ ⟨sd0, by omega⟩ i)
  have nx := span_bd (w := b.pWest) (s := b.pSide) ⟨w0, w9⟩ ⟨sd0, h3⟩
  have ny := span_bd (w := b.pSouth) (s := b.pSide) ⟨s0, s9⟩ ⟨sd0, h3⟩
  have HNC : Hid (numC xs b = allC xs b (spanN b.pWest b.pSide)) := Lib.hid rfl
  have HAS : Hid (∀ i : Nat, allC xs b (i + 1) = allC xs b i + rowC xs b (b.pWest + i) (spanN b.pSouth b.pSide)) := Lib.hid (fun i => rfl)
  have HAB := Lib.hid (allC_bd xs b)
  have HRB := Lib.hid (rowC_bd xs b)
  generalize spanN b.pWest b.pSide = NX at *
  generalize spanN b.pSouth b.pSide = NY at *
  have HE := Lib.hid e
  have C3 := Lib.hid (fun x y u W q hx hy hu => CC.out x y u W q (lstB_yes h1).1 hx hy hu)
  clear h1 h2 e CL CC hcb
  go_enter Try.func34, Try.ntmps34
  go_wp2_with fail
  refine C1.out.mono ?_
  rintro e w1 ⟨rfl, hb⟩
  have N1 := N0.trans (hb.mono z0)
  have bB1 := bB.below hb
  have a0 := bB1.2 0 _ rfl
  have a1 := bB1.2 1 _ rfl
  have a2 := bB1.2 2 _ rfl
  have a3 := bB1.2 3 _ rfl
  have a4 := bB1.2 4 _ rfl
  clear bB
  go_wp2_with fail
  refine (C2.out _).mono ?_
  rintro e w2 ⟨rfl, hb2⟩
  have bB2 := bB1.below hb2
  have N2 := N1.trans (hb2.mono N1.size)
  have M2 := hb.trans (hb2.mono hb.size)
  clear a0 a1 a2 a3 a4 bB1 hb hb2 N1
  have a0 := bB2.2 0 _ rfl
  have a1 := bB2.2 1 _ rfl
  have a2 := bB2.2 2 _ rfl
  have a3 := bB2.2 3 _ rfl
  have a4 := bB2.2 4 _ rfl
  have bw0 : wrap64 (b.pWest + b.pSide) = b.pWest + b.pSide := by unfold wrap64; omega
  have bs0 : wrap64 (b.pSouth + b.pSide) = b.pSouth + b.pSide := by unfold wrap64; omega
  go_wp2
  go_loopw [6, 7, 8] (fun nv xv _ wr => ∃ (i : Nat) (n x : Int), i ≤ NX ∧ Hid (b.pWest + i = x) ∧ xv = .int .i64 x ∧ nv = .int .i64 n ∧ Hid (allC xs b i = n) ∧ Below w2.heap.size w2 wr) (fun _ xv _ _ => (b.pWest + b.pSide - intOf xv).toNat)
  case atStart => exact ⟨0, 0, _, Nat.zero_le _, Lib.hid (by simp), rfl, rfl, Lib.hid rfl, Below.refl _ _⟩
  case round =>
    obtain ⟨i, n, x, hi, HXX, rfl, rfl, HN, hbl⟩ := hrel
    have hsz := hbl.size
    have bB3 := bB2.below hbl
    have d0 := bB3.2 0 _ rfl
    have d1 := bB3.2 1 _ rfl
    have d2 := bB3.2 2 _ rfl
    have d3 := bB3.2 3 _ rfl
    have d4 := bB3.2 4 _ rfl
    clear a0 a1 a2 a3 a4
    have hnb := HAB.out i
    rw [HN.out] at hnb
    obtain ⟨nb0, nb1⟩ := hnb
    have nyi : (NY : Int) * (i : Int) ≤ 256 := by
      have := Int.mul_le_mul (show (NY : Int) ≤ 16 by omega) (show (i : Int) ≤ 16 by omega) (by omega) (by omega)
      omega
    have nb2 : n ≤ 256 := by omega
    clear nb1
    have hxx := HXX.out
    by_cases hlt : i < NX
    case neg =>
      obtain rfl : i = NX := by omega
      have HF := Lib.hid (ci_yes HE.out (n := n) (by rw [HNC.out, HN.out]))
      have N3 := N2.trans (hbl.mono N2.size)
      have hno := (not_congr (CX.out i)).1 (by omega)
      rw [hxx] at hno
      by_cases k1 : x < b.pWest + b.pSide
      · have k2 : ¬ x ≤ 999 := fun q => hno ⟨k1, q⟩
        clear hno hxx
        go_wp2
        go_ret2
        exact ⟨HF.out, N3⟩
      · clear hno hxx
        go_wp2
        go_ret2
        exact ⟨HF.out, N3⟩
    have hyes := (CX.out i).1 hlt
    rw [hxx] at hyes
    obtain ⟨k1, k2⟩ := hyes
    have hx0 : 0 ≤ x := by omega
    have HX0 := Lib.hid (show 0 ≤ x ∧ x ≤ 999 from ⟨hx0, k2⟩)
    have HAS1 := HAS.out i
    rw [hxx, HN.out] at HAS1
    have HAS2 := Lib.hid HAS1
    clear HAS1 hxx
    go_wp2
    go_loopw [6, 8] (fun nv yv wr => ∃ (j : Nat) (m y : Int), j ≤ NY ∧ Hid (b.pSouth + j = y) ∧ yv = .int .i64 y ∧ nv = .int .i64 m ∧ Hid (n + rowC xs b x j = m) ∧ Below w2.heap.size w2 wr) (fun _ yv _ => (b.pSouth + b.pSide - intOf yv).toNat)
    case atStart => exact ⟨0, n, _, Nat.zero_le _, Lib.hid (by simp), rfl, rfl, Lib.hid (by show n + 0 = n; omega), hbl⟩
    case round =>
      clear hbl hsz bB3 d0 d1 d2 d3 d4
      obtain ⟨j, m, y, hj, HYY, rfl, rfl, HM, hbl⟩ := hrel
      have hsz := hbl.size
      have bB3 := bB2.below hbl
      have d0 := bB3.2 0 _ rfl
      have d1 := bB3.2 1 _ rfl
      have d2 := bB3.2 2 _ rfl
      have d3 := bB3.2 3 _ rfl
      have d4 := bB3.2 4 _ rfl
      have hmb := HRB.out x j
      have hm9 := HM.out
      obtain ⟨mb0, mb1⟩ := hmb
      have hm0 : 0 ≤ m := by omega
      have hm1 : m ≤ 300 := by omega
      clear hm9 mb0 mb1
      have hyy := HYY.out
      by_cases hlt2 : j < NY
      case neg =>
        obtain rfl : j = NY := by omega
        have hno := (not_congr (CY.out j)).1 (by omega)
        rw [hyy] at hno
        have HN2 : Hid (allC xs b (i + 1) = m) := Lib.hid (by rw [HAS2.out, HM.out])
        have HX2 : Hid (b.pWest + ((i + 1 : Nat) : Int) = x + 1) := Lib.hid (by have := HXX.out; omega)
        by_cases k3 : y < b.pSouth + b.pSide
        · have k4 : ¬ y ≤ 999 := fun q => hno ⟨k3, q⟩
          clear hno hyy
          go_wp2
          go_roundw
          case rel => exact ⟨i + 1, m, x + 1, by omega, HX2, by go_num, rfl, HN2, hbl⟩
          case measure => simp [intOf]; omega
        · clear hno hyy
          go_wp2
          go_roundw
          case rel => exact ⟨i + 1, m, x + 1, by omega, HX2, by go_num, rfl, HN2, hbl⟩
          case measure => simp [intOf]; omega
      have hyes := (CY.out j).1 hlt2
      rw [hyy] at hyes
      obtain ⟨k3, k4⟩ := hyes
      have hy0 : 0 ≤ y := by omega
      have HY2 : Hid (b.pSouth + ((j + 1 : Nat) : Int) = y + 1) := Lib.hid (by have := HYY.out; omega)
      cases hat : atV xs x y b.pFrom b.pTo with
      | true =>
        have C9 := Lib.hid (fun W q => C3.out x y true W q HX0.out ⟨hy0, k4⟩ hat)
        have HM2 : Hid (n + rowC xs b x (j + 1) = m + 1) := Lib.hid (by rw [rowC_yes HYY.out hat]; have := HM.out; omega)
        clear hat hyy
        go_wp2_with fail
        refine (C9.out _ (M2.trans (hbl.mono M2.size))).mono ?_
        rintro e w4 ⟨rfl, hb4⟩
        clear d0 d1 d2 d3 d4
        go_wp2
        go_roundw
        case rel => exact ⟨j + 1, m + 1, y + 1, by omega, HY2, by go_num, by go_num, HM2, hbl.trans (hb4.mono hsz)⟩
        case measure => simp [intOf]; omega
      | false =>
        have C9 := Lib.hid (fun W q => C3.out x y false W q HX0.out ⟨hy0, k4⟩ hat)
        have HM2 : Hid (n + rowC xs b x (j + 1) = m) := Lib.hid (by rw [rowC_no HYY.out hat]; exact HM.out)
        clear hat hyy
        go_wp2_with fail
        refine (C9.out _ (M2.trans (hbl.mono M2.size))).mono ?_
        rintro e w4 ⟨rfl, hb4⟩
        clear d0 d1 d2 d3 d4
        go_wp2
        go_roundw
        case rel => exact ⟨j + 1, m, y + 1, by omega, HY2, by go_num, by go_num, HM2, hbl.trans (hb4.mono hsz)⟩
        case measure => simp [intOf]; omega
end Go.Proofs.Ytoogofceoinniaa
