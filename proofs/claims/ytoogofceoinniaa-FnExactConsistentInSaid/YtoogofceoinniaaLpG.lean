/- Location by boxes: whether there is none, which origins are consistent, and at how many places, by the program. -/
import Derived.Test.YtoogofceoinniaaLpF
import Derived.Test.YtoogofceoinniaaLoI
import Derived.Test.YtoogofceoinniaaLoE
import Derived.Test.YtoogofceoinniaaVpG
namespace Go.Proofs.Ytoogofceoinniaa
open Go.ChangeShapes Go.WideShapes Go.ChangeAt Go.RowKit Go.ChangeMaps Go.Sort
set_option linter.unusedSimpArgs false
set_option linter.unusedVariables false
set_option linter.unusedSimpArgs false
set_option linter.unusedVariables false

set_option maxRecDepth 100000 in
set_option maxHeartbeats 2000000 in
theorem implPn (xs : List GArrival) (v : Value) (b : GCube) (v2 : Value) (s : Int) (w : World) (B : Nat) (h : ArrivalL w B v xs) (h2 : CubeVL w B v2 b) (hB : B ≤ w.heap.size) (hn : szsArrival xs ≤ 1048576) (h3 : sz1Cube b ≤ 1048576) (hw : ∀ s ∈ xs, wfArrival s) (hw2 : wfCube b) (h4 : I64 s) :
    Calls Try.prog 37 #[v, v2, .int .i64 s] w fun e w' => e = .returned (.tuple #[.bool (resPn xs b s), .bool (okLo xs b s)]) ∧ Below w.heap.size w w' := by
  obtain rfl := h2.form
  clear h2
  obtain ⟨W0, hW0⟩ : ∃ W0, w.alloc (objCb b) = W0 := ⟨_, rfl⟩
  have N0 : Below w.heap.size w W0 := hW0 ▸ (Below.refl w.heap.size w).alloc (Nat.le_refl _) _
  have bB : Bx W0 w.heap.size [.int .i64 b.pWest, .int .i64 b.pSouth, .int .i64 b.pSide, .int .i64 b.pFrom, .int .i64 b.pTo] := hW0 ▸ Bx.new w [.int .i64 b.pWest, .int .i64 b.pSouth, .int .i64 b.pSide, .int .i64 b.pFrom, .int .i64 b.pTo] 25
  have z0 := N0.size
  have b0 := bB.2 0 _ rfl
  have b1 := bB.2 1 _ rfl
  have b2 := bB.2 2 _ rfl
  have b3 := bB.2 3 _ rfl
  have b4 := bB.2 4 _ rfl
  have CL := Lib.hid (implLo xs v b _ s W0 B (h.below (N0.mono hB)) rfl (Nat.le_trans hB z0) hn h3 hw hw2 h4)
  obtain ⟨ok, hok⟩ : ∃ ok, okLo xs b s = ok := ⟨_, rfl⟩
  obtain ⟨n, hln⟩ : ∃ n, (resLo xs b s).length = n := ⟨_, rfl⟩
  have hn64 : n ≤ 64 := by rw [← hln]; exact resLo_most _ _ _
  have HP := Lib.hid (pn_eq xs b s hok hln)
  have HLN := Lib.hid hln
  rw [hok] at CL
  rw [hok]
  generalize resPn xs b s = pn at *
  obtain ⟨ao, cap, rfl⟩ := h.form
  clear h hok hln hw hw2
  cases ok with
  | false =>
    obtain rfl : pn = false := HP.out
    go_enter Try.func37, Try.ntmps37
    go_wp2_with fail
    refine CL.out.mono ?_
    rintro e w1 ⟨v1, rfl, hown, hb⟩
    obtain ⟨a1, c1, rfl⟩ := hown.form
    clear b0 b1 b2 b3 b4
    go_wp2
    go_ret2
    exact ⟨rfl, N0.trans (hb.mono z0)⟩
  | true =>
    by_cases k : n = 0
    case pos =>
      obtain rfl : pn = true := by rw [HP.out, decide_eq_true k]; rfl
      have k1 : ((n : Int) == 0) = true := by simpa using k
      have k2 : (n : Int) = 0 := by omega
      have HK := Lib.hid k
      subst k
      go_enter Try.func37, Try.ntmps37
      go_wp2_with fail
      refine CL.out.mono ?_
      rintro e w1 ⟨v1, rfl, hown, hb⟩
      obtain ⟨a1, c1, rfl⟩ := hown.form
      rw [HLN.out]
      clear b0 b1 b2 b3 b4
      go_wp2
      go_ret2
      exact ⟨rfl, N0.trans (hb.mono z0)⟩
    case neg =>
      obtain rfl : pn = false := by rw [HP.out, decide_eq_false k]; rfl
      have k1 : ((n : Int) == 0) = false := by simp; omega
      have k2 : ¬ (n : Int) = 0 := by omega
      go_enter Try.func37, Try.ntmps37
      go_wp2_with fail
      refine CL.out.mono ?_
      rintro e w1 ⟨v1, rfl, hown, hb⟩
      obtain ⟨a1, c1, rfl⟩ := hown.form
      rw [HLN.out]
      clear b0 b1 b2 b3 b4
      go_wp2
      go_ret2
      exact ⟨rfl, N0.trans (hb.mono z0)⟩
theorem co_rest {xs : List GArrival} {o : GOrigin} (h : okCo xs o = true) {n : Nat} (hn : (restV xs o).length = n) {u : Bool} (hu : ((n : Int) == 0) = u) : resCo xs o = u := by
  have := rest_vot xs o
  unfold resCo
  rw [h, consV_vot, Bool.true_and, ← hu, Bool.eq_iff_iff, decide_eq_true_eq, beq_iff_eq]
  omega
set_option maxRecDepth 100000 in
set_option maxHeartbeats 2000000 in
theorem implCo (xs : List GArrival) (v : Value) (o : GOrigin) (v2 : Value) (w : World) (B : Nat) (h : ArrivalL w B v xs) (h2 : OriginVL w B v2 o) (hB : B ≤ w.heap.size) (hn : szsArrival xs ≤ 1048576) (_ : sz1Origin o ≤ 1048576) (hw : ∀ s ∈ xs, wfArrival s) (hw2 : wfOrigin o) :
    Calls Try.prog 33 #[v, v2] w fun e w' => e = .returned (.tuple #[.bool (resCo xs o), .bool (okCo xs o)]) ∧ Below w.heap.size w w' := by
  obtain rfl := h2.form
  clear h2
  have hl := Nat.le_trans (szsArrival_len xs) hn
  obtain ⟨W0, hW0⟩ : ∃ W0, w.alloc (.cells #[.int .i64 o.pX, .int .i64 o.pY, .int .i64 o.pTick] 50) = W0 := ⟨_, rfl⟩
  have N0 : Below w.heap.size w W0 := hW0 ▸ (Below.refl w.heap.size w).alloc (Nat.le_refl _) _
  have bO : Bx W0 w.heap.size [.int .i64 o.pX, .int .i64 o.pY, .int .i64 o.pTick] := hW0 ▸ Bx.new w [.int .i64 o.pX, .int .i64 o.pY, .int .i64 o.pTick] 50
  have z0 := N0.size
  have h0 := h.below (N0.mono hB)
  have CL := Lib.hid (fun u hu => implLst xs v u W0 B h0 (Nat.le_trans hB z0) hl hu)
  have CO := Lib.hid (fun u W hu => implOrG o u W hu)
  have CV := Lib.hid (fun W (q : Below W0.heap.size W0 W) hok ho => implRest xs v o W B (h0.below (q.mono (by omega))) (Nat.le_trans hB (Nat.le_trans z0 q.size)) hok ho)
  obtain ⟨ao, cap, rfl⟩ := h.form
  clear h h0
  cases h1 : lstB xs with
  | false =>
    have C1 := Lib.hid (CL.out false h1)
    have e : okCo xs o = false := by unfold okCo; rw [h1]; rfl
    have HF := Lib.hid (no2b (co_no1 e) e)
    clear h1 e CL CO CV
    go_enter Try.func33, Try.ntmps33
    go_wp2_with fail
    refine C1.out.mono ?_
    rintro e w1 ⟨rfl, hb⟩
    go_wp2
    go_ret2
    exact ⟨HF.out, N0.trans (hb.mono z0)⟩
  | true =>
  have C1 := Lib.hid (CL.out true h1)
  cases h2 : goodOr o with
  | false =>
    have C2 := Lib.hid (fun W => CO.out false W h2)
    have e : okCo xs o = false := by unfold okCo; rw [h2, Bool.and_false]
    have HF := Lib.hid (no2b (co_no1 e) e)
    clear h1 h2 e CL CO CV
    go_enter Try.func33, Try.ntmps33
    go_wp2_with fail
    refine C1.out.mono ?_
    rintro e w1 ⟨rfl, hb⟩
    have N1 := N0.trans (hb.mono z0)
    have bO1 := bO.below hb
    have a0 := bO1.2 0 _ rfl
    have a1 := bO1.2 1 _ rfl
    have a2 := bO1.2 2 _ rfl
    clear bO1 bO hb
    go_wp2_with fail
    refine (C2.out _).mono ?_
    rintro e w2 ⟨rfl, hb⟩
    go_wp2
    go_ret2
    exact ⟨HF.out, N1.trans (hb.mono N1.size)⟩
  | true =>
  have C2 := Lib.hid (fun W => CO.out true W h2)
  have e : okCo xs o = true := by unfold okCo; rw [h1, h2]; rfl
  have C3 := Lib.hid (fun W q => CV.out W q (lstB_yes h1).1 (goodOr_yes h2))
  obtain ⟨n, hn9⟩ : ∃ n, (restV xs o).length = n := ⟨_, rfl⟩
  have hn8 : n ≤ 8 := by
    have := rest_vot xs o
    have := (lstB_yes h1).1.2
    omega
  have hl8 := (lstB_yes h1).1.2
  have HN := Lib.hid hn9
  obtain ⟨u, hu⟩ : ∃ u, ((n : Int) == 0) = u := ⟨_, rfl⟩
  have HF := Lib.hid (yes2b (co_rest e hn9 hu) e)
  have HU := Lib.hid hu
  clear h1 h2 e CL CO CV hn9 hu
  go_enter Try.func33, Try.ntmps33
  go_wp2_with fail
  refine C1.out.mono ?_
  rintro e w1 ⟨rfl, hb⟩
  have N1 := N0.trans (hb.mono z0)
  have bO1 := bO.below hb
  have a0 := bO1.2 0 _ rfl
  have a1 := bO1.2 1 _ rfl
  have a2 := bO1.2 2 _ rfl
  clear bO
  go_wp2_with fail
  refine (C2.out _).mono ?_
  rintro e w2 ⟨rfl, hb2⟩
  have hb3 := hb.trans (hb2.mono hb.size)
  have N2 := N1.trans (hb2.mono N1.size)
  have bO2 := bO1.below hb2
  clear a0 a1 a2 hb hb2 bO1
  have a0 := bO2.2 0 _ rfl
  have a1 := bO2.2 1 _ rfl
  have a2 := bO2.2 2 _ rfl
  clear bO2
  go_wp2_with fail
  refine (C3.out _ hb3).mono ?_
  rintro e w3 ⟨v3, rfl, hown, hb⟩
  obtain ⟨ao3, cap3, rfl⟩ := hown.form
  rw [HN.out]
  clear hown
  have hq : ((n : Int) == 0) = u := HU.out
  clear a0 a1 a2
  go_wp2
  go_ret2
  exact ⟨HF.out, N2.trans (hb.mono N2.size)⟩
set_option maxRecDepth 100000 in
set_option maxHeartbeats 8000000 in
theorem implAt (xs : List GArrival) (v : Value) (b : GCube) (x y f9 t9 : Int) (w : World) (B : Nat) (h : ArrivalL w B v xs) (hB : B ≤ w.heap.size) (hok : okArs xs) (hx : 0 ≤ x ∧ x ≤ 999) (hy : 0 ≤ y ∧ y ≤ 999) (hf : frV xs x y b.pFrom xs.length = f9) (ht : toV xs x y b.pTo xs.length = t9) :
    Calls Try.prog 79 #[v, aggCb b, .int .i64 x, .int .i64 y] w fun e w' => e = .returned (.agg #[.int .i64 f9, .int .i64 t9]) ∧ Below w.heap.size w w' := by
  have HOK := Lib.hid hok
  have HX := Lib.hid hx
  have HY := Lib.hid hy
  have HF9 := Lib.hid hf
  have HT9 := Lib.hid ht
  have hl8 := hok.2
  obtain ⟨W1, hW1⟩ : ∃ W1, (w.alloc (objCb b)).alloc (.cells #[.int .i64 0, .int .i64 0] 98) = W1 := ⟨_, rfl⟩
  have N1 : Below w.heap.size w W1 := hW1 ▸ ((Below.refl w.heap.size w).alloc (Nat.le_refl _) _).alloc (by first | omega | (simp; done) | (simp; omega)) _
  have bB : Bx W1 w.heap.size [.int .i64 b.pWest, .int .i64 b.pSouth, .int .i64 b.pSide, .int .i64 b.pFrom, .int .i64 b.pTo] := hW1 ▸ (Bx.new w [.int .i64 b.pWest, .int .i64 b.pSouth, .int .i64 b.pSide, .int .i64 b.pFrom, .int .i64 b.pTo] 25).alloc _
  have bR : Bx W1 (w.heap.size + 1) [.int .i64 0, .int .i64 0] := hW1 ▸ Bx.new1 w (objCb b) [.int .i64 0, .int .i64 0] 98
  obtain ⟨W2, hW2⟩ : ∃ W2, W1.alloc (.cells #[.int .i64 b.pFrom, .int .i64 b.pTo] 98) = W2 := ⟨_, rfl⟩
  have A2 : Below W1.heap.size W1 W2 := hW2 ▸ (Below.refl _ _).alloc (Nat.le_refl _) _
  have bT : Bx W2 W1.heap.size [.int .i64 b.pFrom, .int .i64 b.pTo] := hW2 ▸ Bx.new W1 [.int .i64 b.pFrom, .int .i64 b.pTo] 98
  have z1 := N1.size
  have hrg : w.heap.size + 1 < W1.heap.size := bR.1.1
  have HL := Lib.hid (fun W (q : Below W1.heap.size W1 W) => h.below (((N1.trans (q.mono z1))).mono hB))
  obtain ⟨ao, cap, rfl, hcap, hmax, -, hc⟩ := h.below (N1.mono hB)
  unfold maxLen at hmax
  have HC := Lib.hid hc
  have b0 := bB.2 0 _ rfl
  have b1 := bB.2 1 _ rfl
  have b2 := bB.2 2 _ rfl
  have b3 := bB.2 3 _ rfl
  have b4 := bB.2 4 _ rfl
  clear hc hok hx hy hf ht h bB
  go_enter Try.func79, Try.ntmps79
  go_wp2
  clear hW1 hW2
  go_loopw [20] (fun iv wr => ∃ (k : Nat) (f t : Int), k ≤ xs.length ∧ iv = .int .i64 k ∧ Hid (frV xs x y b.pFrom k = f) ∧ Hid (toV xs x y b.pTo k = t) ∧ Bx wr W1.heap.size [.int .i64 f, .int .i64 t] ∧ Below W1.heap.size W1 wr)
    (fun iv _ => xs.length - (intOf iv).toNat)
  case atStart => exact ⟨0, _, _, Nat.zero_le _, rfl, Lib.hid rfl, Lib.hid rfl, bT, A2⟩
  case round =>
    clear b0 b1 b2 b3 b4 bT A2
    obtain ⟨k, f, t, hk, rfl, HFr, HTo, bT, hbl⟩ := hrel
    have hsz := hbl.size
    have t0 := bT.2 0 _ rfl
    have t1 := bT.2 1 _ rfl
    have tf := bT.1.2
    by_cases hlt : k < xs.length
    case neg =>
      obtain rfl : k = xs.length := by omega
      have HE1 : Hid (f = f9) := Lib.hid (by rw [← HFr.out, HF9.out])
      have HE2 : Hid (t = t9) := Lib.hid (by rw [← HTo.out, HT9.out])
      have bR2 := bR.below hbl
      have r0 := bR2.2 0 _ rfl
      have r1 := bR2.2 1 _ rfl
      have rf := bR2.1.2
      have N3 := N1.trans (hbl.mono z1)
      have hE1 := HE1.out
      have hE2 := HE2.out
      subst hE1 hE2
      go_wp2
      refine bodyPost_ret (v := .agg #[.int .i64 f, .int .i64 t]) (by simp [results, Try.results79, go_sem, r0, r1]) rfl ⟨rfl, ?_⟩
      exact (N3.setCell (by first | omega | (simp; done) | (simp; omega)) _).setCell (by first | omega | (simp; done) | (simp; omega)) _
    have hk0 : (0 : Int) ≤ (k : Int) := by omega
    have hk1 : (k : Int) < (xs.length : Int) := by omega
    obtain ⟨a, ha⟩ := get_of_lt hlt
    have hoka := okArs_mem HOK.out (List.mem_of_getElem? ha)
    obtain ⟨bb, off, rfl, hb, hcell⟩ := HC.out k a ha
    have c0 : wr.cell? ⟨bb, off + k * 5, none⟩ = some (.int .i64 a.pId) := cellOf hbl (by omega) (hcell 0 _ rfl)
    have c1 : wr.cell? ⟨bb, off + k * 5 + 1, none⟩ = some (.int .i64 a.pX) := cellOf hbl (by omega) (hcell 1 _ rfl)
    have c2 : wr.cell? ⟨bb, off + k * 5 + 2, none⟩ = some (.int .i64 a.pY) := cellOf hbl (by omega) (hcell 2 _ rfl)
    have c3 : wr.cell? ⟨bb, off + k * 5 + 3, none⟩ = some (.int .i64 a.pTick) := cellOf hbl (by omega) (hcell 3 _ rfl)
    have c4 : wr.cell? ⟨bb, off + k * 5 + 4, none⟩ = some (.int .i64 a.pError) := cellOf hbl (by omega) (hcell 4 _ rfl)
    obtain ⟨W3, hW3⟩ : ∃ W3, wr.alloc (objA a) = W3 := ⟨_, rfl⟩
    have A3 : Below wr.heap.size wr W3 := hW3 ▸ (Below.refl _ _).alloc (Nat.le_refl _) _
    have bA : Bx W3 wr.heap.size [.int .i64 a.pId, .int .i64 a.pX, .int .i64 a.pY, .int .i64 a.pTick, .int .i64 a.pError] := hW3 ▸ Bx.new wr [.int .i64 a.pId, .int .i64 a.pX, .int .i64 a.pY, .int .i64 a.pTick, .int .i64 a.pError] 77
    have bT3 := bT.below A3
    have M3 := hbl.trans (A3.mono hsz)
    have a0 := bA.2 0 _ rfl
    have a1 := bA.2 1 _ rfl
    have a2 := bA.2 2 _ rfl
    have a3 := bA.2 3 _ rfl
    have a4 := bA.2 4 _ rfl
    obtain ⟨l, hl⟩ : ∃ l, loT a x y = l := ⟨_, rfl⟩
    obtain ⟨g, hg⟩ : ∃ g, hiT a x y = g := ⟨_, rfl⟩
    obtain ⟨f2, hf2⟩ : ∃ f2, max f l = f2 := ⟨_, rfl⟩
    obtain ⟨t2, ht2⟩ : ∃ t2, min t g = t2 := ⟨_, rfl⟩
    have CS := Lib.hid (fun W => implSpan a x y l g W hoka HX.out HY.out hl hg)
    have HF2 : Hid (frV xs x y b.pFrom (k + 1) = f2) := Lib.hid (by rw [frV_succ ha, HFr.out, hl, hf2])
    have HT2 : Hid (toV xs x y b.pTo (k + 1) = t2) := Lib.hid (by rw [toV_succ ha, HTo.out, hg, ht2])
    have HMX := Lib.hid hf2
    have HMN := Lib.hid ht2
    clear ha hcell hoka hl hg hf2 ht2 t0 t1 tf bT A3
    go_wp2_with fail
    refine (CS.out _).mono ?_
    rintro e w4 ⟨rfl, hb4⟩
    have bT4 := bT3.below hb4
    have M4 := M3.trans (hb4.mono M3.size)
    have z4 := M4.size
    clear a0 a1 a2 a3 a4 c0 c1 c2 c3 c4 hW3 bT3 M3 hb4
    obtain ⟨W5, hW5⟩ : ∃ W5, w4.alloc (.cells #[.int .i64 l, .int .i64 g] 98) = W5 := ⟨_, rfl⟩
    have A5 : Below w4.heap.size w4 W5 := hW5 ▸ (Below.refl _ _).alloc (Nat.le_refl _) _
    have bS : Bx W5 w4.heap.size [.int .i64 l, .int .i64 g] := hW5 ▸ Bx.new w4 [.int .i64 l, .int .i64 g] 98
    have bT5 := bT4.below A5
    have M5 := M4.trans (A5.mono z4)
    have t0 := bT5.2 0 _ rfl
    have t1 := bT5.2 1 _ rfl
    have tf := bT5.1.2
    have s0 := bS.2 0 _ rfl
    have s1 := bS.2 1 _ rfl
    have bT6 : Bx ((W5.setCell ⟨W1.heap.size, 0, none⟩ (.int .i64 f2)).setCell ⟨W1.heap.size, 1, none⟩ (.int .i64 t2)) W1.heap.size [.int .i64 f2, .int .i64 t2] := (bT5.set 0 (by simp) (.int .i64 f2)).set 1 (by simp) (.int .i64 t2)
    have M6 := (M5.setCell (p := ⟨W1.heap.size, 0, none⟩) (Nat.le_refl _) (.int .i64 f2)).setCell (p := ⟨W1.heap.size, 1, none⟩) (Nat.le_refl _) (.int .i64 t2)
    clear bT4 bT5 A5
    have HB6 := Lib.hid bT6
    have HM6 := Lib.hid M6
    clear bT6 M6
    go_wp2
    rw [HMX.out, HMN.out]
    go_roundw
    case rel => exact ⟨k + 1, f2, t2, by omega, by go_num, HF2, HT2, HB6.out, HM6.out⟩
    case measure => simp [intOf]; omega
theorem ci_eq (xs : List GArrival) (b : GCube) : okCi xs b = (okPo xs b && decide (b.pSide ≤ 16)) := by
  unfold okCi okPo
  rw [Bool.and_assoc]
/-- What was counted in a row of places, the map's or beyond. -/
def mC (xs : List GArrival) (b : GCube) (x n : Int) (NY j : Nat) : Int := if x ≤ 999 then n + rowC xs b x (min j NY) else n
theorem mC_in {xs : List GArrival} {b : GCube} {x n : Int} {NY j : Nat} (hx : x ≤ 999) (hj : j ≤ NY) : mC xs b x n NY j = n + rowC xs b x j := by
  unfold mC
  rw [if_pos hx, Nat.min_eq_left hj]
theorem mC_out {xs : List GArrival} {b : GCube} {x n : Int} {NY j : Nat} (h : ¬ (x ≤ 999 ∧ j < NY)) : mC xs b x n NY (j + 1) = mC xs b x n NY j := by
  unfold mC
  by_cases hx : x ≤ 999
  · rw [if_pos hx, if_pos hx, Nat.min_eq_right (by omega), Nat.min_eq_right (by omega)]
  · rw [if_neg hx, if_neg hx]
theorem mC_bd {xs : List GArrival} {b : GCube} {x n : Int} {NY j : Nat} : n ≤ mC xs b x n NY j ∧ mC xs b x n NY j ≤ n + NY := by
  have := rowC_bd xs b x (min j NY)
  unfold mC
  split <;> omega
set_option maxRecDepth 100000 in
set_option maxHeartbeats 8000000 in
theorem implCi (xs : List GArrival) (v : Value) (b : GCube) (v2 : Value) (w : World) (B : Nat) (h : ArrivalL w B v xs) (h2 : CubeVL w B v2 b) (hB : B ≤ w.heap.size) (hn : szsArrival xs ≤ 1048576) (_ : sz1Cube b ≤ 1048576) (hw : ∀ s ∈ xs, wfArrival s) (hw2 : wfCube b) :
    Calls Try.prog 35 #[v, v2] w fun e w' => e = .returned (.tuple #[.int .i64 (numCi xs b), .bool (okCi xs b)]) ∧ Below w.heap.size w w' := by
  obtain rfl := h2.form
  clear h2
  have hl := Nat.le_trans (szsArrival_len xs) hn
  obtain ⟨W0, hW0⟩ : ∃ W0, w.alloc (objCb b) = W0 := ⟨_, rfl⟩
  have N0 : Below w.heap.size w W0 := hW0 ▸ (Below.refl w.heap.size w).alloc (Nat.le_refl _) _
  have bB : Bx W0 w.heap.size [.int .i64 b.pWest, .int .i64 b.pSouth, .int .i64 b.pSide, .int .i64 b.pFrom, .int .i64 b.pTo] := hW0 ▸ Bx.new w [.int .i64 b.pWest, .int .i64 b.pSouth, .int .i64 b.pSide, .int .i64 b.pFrom, .int .i64 b.pTo] 25
  have z0 := N0.size
  have h0 := h.below (N0.mono hB)
  have b0 := bB.2 0 _ rfl
  have b1 := bB.2 1 _ rfl
  have b2 := bB.2 2 _ rfl
  have b3 := bB.2 3 _ rfl
  have b4 := bB.2 4 _ rfl
  have CL := Lib.hid (fun u hu => implCanLoc xs v b u W0 B h0 (Nat.le_trans hB z0) hl hu)
  have CC := Lib.hid (fun x y f t W (q : Below W0.heap.size W0 W) hok hx hy hf ht => implAt xs v b x y f t W B (h0.below (q.mono (by omega))) (Nat.le_trans hB (Nat.le_trans z0 q.size)) hok hx hy hf ht)
  have HEQ := Lib.hid (ci_eq xs b)
  obtain ⟨ao, cap, rfl⟩ := h.form
  clear h h0
  cases h1 : okPo xs b with
  | false =>
    have C1 := Lib.hid (CL.out false h1)
    have e : okCi xs b = false := by rw [HEQ.out, h1]; rfl
    have HF := Lib.hid (ci_no e)
    clear h1 e CL CC
    go_enter Try.func35, Try.ntmps35
    go_wp2_with fail
    refine C1.out.mono ?_
    rintro e w1 ⟨rfl, hb⟩
    clear b0 b1 b2 b3 b4
    go_wp2
    go_ret2
    exact ⟨HF.out, N0.trans (hb.mono z0)⟩
  | true =>
  have C1 := Lib.hid (CL.out true h1)
  have h12 := h1
  unfold okPo at h12
  rw [Bool.and_eq_true] at h12
  obtain ⟨h11, h2⟩ := h12
  by_cases h3 : b.pSide ≤ 16
  case neg =>
    have e : okCi xs b = false := by rw [HEQ.out, decide_eq_false h3]; simp
    have HF := Lib.hid (ci_no e)
    have h4 : 16 < b.pSide := by omega
    have sb := okSide_bd (goodCb_yes h2).1
    clear h1 h2 h11 e CL CC h3
    go_enter Try.func35, Try.ntmps35
    go_wp2_with fail
    refine C1.out.mono ?_
    rintro e w1 ⟨rfl, hb⟩
    have N1 := N0.trans (hb.mono z0)
    have bB1 := bB.below hb
    clear b0 b1 b2 b3 b4
    have a2 := bB1.2 2 _ rfl
    go_wp2
    go_ret2
    exact ⟨HF.out, N1⟩
  have e : okCi xs b = true := by rw [HEQ.out, h1, decide_eq_true h3]; rfl
  have hcb := goodCb_yes h2
  have sb := okSide_bd hcb.1
  have pb := hcb.2.1
  obtain ⟨⟨w0, w9⟩, ⟨s0, s9⟩⟩ := pb
  obtain ⟨sd0, -⟩ := sb
  obtain ⟨SD, hSD⟩ : ∃ SD : Nat, b.pSide = (SD : Int) := ⟨b.pSide.toNat, by omega⟩
  have hsd16 : SD ≤ 16 := by omega
  have CX := Lib.hid (fun (i : Nat) => span_in (w := b.pWest) (s := b.pSide) ⟨w0, w9⟩ ⟨sd0, by omega⟩ i)
  have CY := Lib.hid (fun (i : Nat) => span_in (w := b.pSouth) (s := b.pSide) ⟨s0, s9⟩ ⟨sd0, by omega⟩ i)
  have nx := span_bd (w := b.pWest) (s := b.pSide) ⟨w0, w9⟩ ⟨sd0, h3⟩
  have ny := span_bd (w := b.pSouth) (s := b.pSide) ⟨s0, s9⟩ ⟨sd0, h3⟩
  have nxs : spanN b.pWest b.pSide ≤ SD := by unfold spanN; omega
  have nys : spanN b.pSouth b.pSide ≤ SD := by unfold spanN; omega
  have HNC : Hid (numC xs b = allC xs b (spanN b.pWest b.pSide)) := Lib.hid rfl
  have HAS : Hid (∀ i : Nat, allC xs b (i + 1) = allC xs b i + rowC xs b (b.pWest + i) (spanN b.pSouth b.pSide)) := Lib.hid (fun i => rfl)
  have HAB := Lib.hid (allC_bd xs b)
  generalize spanN b.pWest b.pSide = NX at *
  generalize spanN b.pSouth b.pSide = NY at *
  have HE := Lib.hid e
  have HSD := Lib.hid hSD
  have C3 := Lib.hid (fun x y f t W q hx hy hf ht => CC.out x y f t W q (lstB_yes h11).1 hx hy hf ht)
  clear h1 h2 h11 e CL CC hcb hSD
  go_enter Try.func35, Try.ntmps35
  go_wp2_with fail
  refine C1.out.mono ?_
  rintro e w2 ⟨rfl, M2⟩
  have N2 := N0.trans (M2.mono z0)
  have bB2 := bB.below M2
  clear b0 b1 b2 b3 b4 bB
  have a0 := bB2.2 0 _ rfl
  have a1 := bB2.2 1 _ rfl
  have a2 := bB2.2 2 _ rfl
  have a3 := bB2.2 3 _ rfl
  have a4 := bB2.2 4 _ rfl
  have bw0 : wrap64 (b.pWest + b.pSide) = b.pWest + b.pSide := by unfold wrap64; omega
  have bs0 : wrap64 (b.pSouth + b.pSide) = b.pSouth + b.pSide := by unfold wrap64; omega
  go_wp2
  go_loopw [6, 7, 8] (fun nv xv _ wr => ∃ (i : Nat) (n x : Int), i ≤ SD ∧ Hid (b.pWest + i = x) ∧ xv = .int .i64 x ∧ nv = .int .i64 n ∧ Hid (allC xs b (min i NX) = n) ∧ Below w2.heap.size w2 wr) (fun _ xv _ _ => (b.pWest + b.pSide - intOf xv).toNat)
  case atStart => exact ⟨0, 0, _, Nat.zero_le _, Lib.hid (by simp), rfl, rfl, Lib.hid (by rw [Nat.zero_min]; rfl), Below.refl _ _⟩
  case round =>
    obtain ⟨i, n, x, hi, HXX, rfl, rfl, HN, hbl⟩ := hrel
    have hsz := hbl.size
    have bB3 := bB2.below hbl
    have d0 := bB3.2 0 _ rfl
    have d1 := bB3.2 1 _ rfl
    have d2 := bB3.2 2 _ rfl
    have d3 := bB3.2 3 _ rfl
    have d4 := bB3.2 4 _ rfl
    clear a0 a1 a2 a3 a4
    have hnb := HAB.out (min i NX)
    rw [HN.out] at hnb
    obtain ⟨nb0, nb1⟩ := hnb
    have nb2 : n ≤ 256 := by
      have hm : min i NX ≤ 16 := by omega
      generalize min i NX = mm at *
      have := Int.mul_le_mul (show (NY : Int) ≤ 16 by omega) (show (mm : Int) ≤ 16 by omega) (by omega) (by omega)
      omega
    clear nb1
    have hxx := HXX.out
    have hsd := HSD.out
    by_cases hlt : i < SD
    case neg =>
      obtain rfl : i = SD := by omega
      have HF := Lib.hid (ci_yes HE.out (n := n) (by rw [HNC.out, ← HN.out, Nat.min_eq_right nxs]))
      have N3 := N2.trans (hbl.mono N2.size)
      have k1 : ¬ x < b.pWest + b.pSide := by omega
      clear hxx hsd
      go_wp2
      go_ret2
      exact ⟨HF.out, N3⟩
    have k1 : x < b.pWest + b.pSide := by omega
    have hx0 : 0 ≤ x := by omega
    have hx9 : x ≤ 1100 := by omega
    have HIN : Hid (i < NX ↔ x ≤ 999) := Lib.hid (by have := CX.out i; rw [hxx] at this; constructor <;> intro q <;> omega)
    have HROW : Hid (i < NX → allC xs b (i + 1) = n + rowC xs b x NY) := Lib.hid (fun q => by
      have h9 := HAS.out i
      rw [hxx] at h9
      have h8 := HN.out
      rw [Nat.min_eq_left (by omega)] at h8
      rw [h9, h8])
    clear hxx hsd
    go_wp2
    go_loopw [6, 8] (fun nv yv wr => ∃ (j : Nat) (m y : Int), j ≤ SD ∧ Hid (b.pSouth + j = y) ∧ yv = .int .i64 y ∧ nv = .int .i64 m ∧ Hid (mC xs b x n NY j = m) ∧ Below w2.heap.size w2 wr) (fun _ yv _ => (b.pSouth + b.pSide - intOf yv).toNat)
    case atStart => exact ⟨0, n, _, Nat.zero_le _, Lib.hid (by simp), rfl, rfl, Lib.hid (by unfold mC; rw [Nat.zero_min]; split <;> first | rfl | (show n + 0 = n; omega)), hbl⟩
    case round =>
      clear hbl hsz bB3 d0 d1 d2 d3 d4
      obtain ⟨j, m, y, hj, HYY, rfl, rfl, HM, hbl⟩ := hrel
      have hsz := hbl.size
      have bB3 := bB2.below hbl
      have d0 := bB3.2 0 _ rfl
      have d1 := bB3.2 1 _ rfl
      have d2 := bB3.2 2 _ rfl
      have d3 := bB3.2 3 _ rfl
      have d4 := bB3.2 4 _ rfl
      have hmb := mC_bd (xs := xs) (b := b) (x := x) (n := n) (NY := NY) (j := j)
      rw [HM.out] at hmb
      obtain ⟨mb0, mb1⟩ := hmb
      have hm0 : 0 ≤ m := by omega
      have hm1 : m ≤ 300 := by omega
      clear mb0 mb1
      have hyy := HYY.out
      have hsd := HSD.out
      by_cases hlt2 : j < SD
      case neg =>
        obtain rfl : j = SD := by omega
        have k3 : ¬ y < b.pSouth + b.pSide := by omega
        have HN2 : Hid (allC xs b (min (i + 1) NX) = m) := Lib.hid (by
          have h8 := HM.out
          unfold mC at h8
          by_cases q : i < NX
          · rw [if_pos (HIN.out.1 q), Nat.min_eq_right nys] at h8
            rw [Nat.min_eq_left (by omega), HROW.out q, h8]
          · rw [if_neg (fun z => q (HIN.out.2 z))] at h8
            have h7 := HN.out
            rw [Nat.min_eq_right (by omega)] at h7 ⊢
            rw [h7, h8])
        have HX2 : Hid (b.pWest + ((i + 1 : Nat) : Int) = x + 1) := Lib.hid (by have := HXX.out; omega)
        clear hyy hsd
        go_wp2
        go_roundw
        case rel => exact ⟨i + 1, m, x + 1, by omega, HX2, by go_num, rfl, HN2, hbl⟩
        case measure => simp [intOf]; omega
      have k3 : y < b.pSouth + b.pSide := by omega
      have hy0 : 0 ≤ y := by omega
      have hy9 : y ≤ 1100 := by omega
      have HJN : Hid (j < NY ↔ y ≤ 999) := Lib.hid (by have := CY.out j; rw [hyy] at this; constructor <;> intro q <;> omega)
      have HY2 : Hid (b.pSouth + ((j + 1 : Nat) : Int) = y + 1) := Lib.hid (by have := HYY.out; omega)
      clear hyy hsd
      by_cases hin : x ≤ 999 ∧ y ≤ 999
      case neg =>
        have HM2 : Hid (mC xs b x n NY (j + 1) = m) := Lib.hid (by rw [mC_out (fun q => hin ⟨q.1, HJN.out.1 q.2⟩)]; exact HM.out)
        have CP := Lib.hid (fun W => implPlace x y false W (by
          cases hp : plcB x y with
          | false => rfl
          | true => have := plcB_iff.1 hp; omega))
        clear hin
        go_wp2_with fail
        refine (CP.out _).mono ?_
        rintro e w4 ⟨rfl, q4⟩
        subst q4
        go_wp2
        go_roundw
        case rel => exact ⟨j + 1, m, y + 1, by omega, HY2, by go_num, rfl, HM2, hbl⟩
        case measure => simp [intOf]; omega
      obtain ⟨k5, k6⟩ := hin
      have CP := Lib.hid (fun W => implPlace x y true W (plcB_iff.2 ⟨⟨hx0, k5⟩, ⟨hy0, k6⟩⟩))
      obtain ⟨f9, hf9⟩ : ∃ f9, frV xs x y b.pFrom xs.length = f9 := ⟨_, rfl⟩
      obtain ⟨t9, ht9⟩ : ∃ t9, toV xs x y b.pTo xs.length = t9 := ⟨_, rfl⟩
      have C9 := Lib.hid (fun W q => C3.out x y f9 t9 W q ⟨hx0, k5⟩ ⟨hy0, k6⟩ hf9 ht9)
      have HJ := Lib.hid (HJN.out.2 k6)
      have HAT : Hid (atV xs x y b.pFrom b.pTo = decide (f9 ≤ t9)) := Lib.hid (by unfold atV; rw [hf9, ht9])
      have HMJ : Hid (n + rowC xs b x j = m) := Lib.hid (by rw [← HM.out, mC_in k5 (Nat.le_of_lt HJ.out)])
      have HMS : Hid (mC xs b x n NY (j + 1) = n + rowC xs b x (j + 1)) := Lib.hid (mC_in k5 HJ.out)
      clear hf9 ht9
      by_cases hat : f9 ≤ t9
      case pos =>
        have CE := Lib.hid (fun W => spanEmpty f9 t9 false W (decide_eq_false (by omega)))
        have HM2 : Hid (mC xs b x n NY (j + 1) = m + 1) := Lib.hid (by rw [HMS.out, rowC_yes HYY.out (by rw [HAT.out, decide_eq_true hat]), ← HMJ.out]; omega)
        clear hat
        go_wp2_with fail
        refine (CP.out _).mono ?_
        rintro e w4 ⟨rfl, q4⟩
        subst q4
        go_wp2_with fail
        refine (C9.out _ (M2.trans (hbl.mono M2.size))).mono ?_
        rintro e w4 ⟨rfl, hb4⟩
        have M4 := hbl.trans (hb4.mono hsz)
        clear d0 d1 d2 d3 d4 hb4
        go_wp2_with fail
        refine (CE.out _).mono ?_
        rintro e w5 ⟨rfl, hb5⟩
        go_wp2
        go_roundw
        case rel => exact ⟨j + 1, m + 1, y + 1, by omega, HY2, by go_num, by go_num, HM2, M4.trans (hb5.mono M4.size)⟩
        case measure => simp [intOf]; omega
      case neg =>
        have CE := Lib.hid (fun W => spanEmpty f9 t9 true W (decide_eq_true (by omega)))
        have HM2 : Hid (mC xs b x n NY (j + 1) = m) := Lib.hid (by rw [HMS.out, rowC_no HYY.out (by rw [HAT.out, decide_eq_false hat]), ← HMJ.out])
        clear hat
        go_wp2_with fail
        refine (CP.out _).mono ?_
        rintro e w4 ⟨rfl, q4⟩
        subst q4
        go_wp2_with fail
        refine (C9.out _ (M2.trans (hbl.mono M2.size))).mono ?_
        rintro e w4 ⟨rfl, hb4⟩
        have M4 := hbl.trans (hb4.mono hsz)
        clear d0 d1 d2 d3 d4 hb4
        go_wp2_with fail
        refine (CE.out _).mono ?_
        rintro e w5 ⟨rfl, hb5⟩
        go_wp2
        go_roundw
        case rel => exact ⟨j + 1, m, y + 1, by omega, HY2, by go_num, rfl, HM2, M4.trans (hb5.mono M4.size)⟩
        case measure => simp [intOf]; omega
end Go.Proofs.Ytoogofceoinniaa
