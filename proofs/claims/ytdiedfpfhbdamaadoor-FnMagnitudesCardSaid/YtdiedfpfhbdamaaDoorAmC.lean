/- Amplitudes: the specification's answers without lists. -/
import Derived.Test.YtdiedfpfhbdamaaDoorAmB
namespace Go.Proofs.YtdiedfpfhbdamaaDoor
open Go.ChangeShapes Go.WideShapes Go.ChangeAt Go.RowKit Go.ChangeMaps
set_option linter.unusedSimpArgs false
set_option linter.unusedVariables false
set_option linter.unusedSimpArgs false
set_option linter.unusedVariables false

theorem retN {a b : Int} {c d : Bool} (h : a = b) (g : c = d) : Ending.returned (.tuple #[.int .i64 a, .bool c]) = .returned (.tuple #[.int .i64 b, .bool d]) := by rw [h, g]
theorem specIsT (xs : List GTableRow) (v : Value) (w : World) (B : Nat) (h : TableRowL w B v xs) (hB : B ≤ w.heap.size) (hn : szsTableRow xs ≤ 1048576) (hw : ∀ s ∈ xs, wfTableRow s) :
    Calls Tryd.prog 22 #[v] w fun e w' => e = .returned (.bool (goodTb xs)) ∧ Below w.heap.size w w' := by
  have C := Lib.hid (specTab xs v _ w B h hB (Nat.le_trans (szsTableRow_len xs) hn) rfl)
  obtain ⟨ao, cap, rfl⟩ := h.form
  clear h
  go_enter Tryd.func22, Tryd.ntmps22
  go_wp2_with fail
  refine C.out.mono ?_
  rintro e w1 ⟨rfl, hb⟩
  go_wp2
  go_ret
  exact ⟨rfl, hb⟩
theorem specSz (x : Int) (w : World) (B : Nat) (_ : B ≤ w.heap.size) (_ : I64 x) :
    Calls Tryd.prog 12 #[.int .i64 x] w fun e w' => e = .returned (.tuple #[.int .i64 (numSz x), .bool (okSz x)]) ∧ Below w.heap.size w w' := by
  cases hk : inB x 1 1000000 with
  | false =>
    have HF := Lib.hid (retN (numSz_no (w := x) hk).symm (show false = okSz x from hk.symm))
    have C := Lib.hid (specWid x false w hk)
    clear hk
    go_enter Tryd.func12, Tryd.ntmps12
    go_wp2_with fail
    refine C.out.mono ?_
    rintro e w1 ⟨rfl, rfl⟩
    go_wp2
    go_ret2
    exact ⟨HF.out, Below.refl _ _⟩
  | true =>
    have hx := inB_iff.1 hk
    have HF := Lib.hid (retN (numSz_yes (w := x) hk).symm (show true = okSz x from hk.symm))
    have C := Lib.hid (specWid x true w hk)
    have C2 := Lib.hid (specSize x _ w hx.1 hx.2 rfl)
    generalize sizeV x = z at *
    clear hk
    go_enter Tryd.func12, Tryd.ntmps12
    go_wp2_with fail
    refine C.out.mono ?_
    rintro e w1 ⟨rfl, rfl⟩
    go_wp2_with fail
    refine C2.out.mono ?_
    rintro e w1 ⟨rfl, rfl⟩
    go_wp2
    go_ret2
    exact ⟨HF.out, Below.refl _ _⟩
theorem bn_eq (xs : List GTableRow) (x : Int) (b c : Bool) (hb : goodTb xs = b) (hc : inB x 0 1500 = c) : okBn xs x = (b && (c && decide (0 ≤ bonV xs x))) := by unfold okBn; rw [hb, hc]
set_option maxHeartbeats 1000000 in
theorem specBn (xs : List GTableRow) (v : Value) (x : Int) (w : World) (B : Nat) (h : TableRowL w B v xs) (hB : B ≤ w.heap.size) (hn : szsTableRow xs ≤ 1048576) (hw : ∀ s ∈ xs, wfTableRow s) (_ : I64 x) :
    Calls Tryd.prog 15 #[v, .int .i64 x] w fun e w' => e = .returned (.tuple #[.int .i64 (numBn xs x), .bool (okBn xs x)]) ∧ Below w.heap.size w w' := by
  have CT := Lib.hid (fun u hu => specTab xs v u w B h hB (Nat.le_trans (szsTableRow_len xs) hn) hu)
  have CF := Lib.hid (fun u W hu => specFar x u W hu)
  cases h1 : goodTb xs with
  | false =>
    have C1 := Lib.hid (CT.out false h1)
    have ek := bn_eq xs x _ _ h1 rfl
    rw [Bool.false_and] at ek
    have HF := Lib.hid (retN (numBn_no ek).symm ek.symm)
    obtain ⟨ao, cap, rfl⟩ := h.form
    clear h ek h1
    go_enter Tryd.func15, Tryd.ntmps15
    go_wp2_with fail
    refine C1.out.mono ?_
    rintro e w1 ⟨rfl, hb⟩
    go_wp2
    go_ret2
    exact ⟨HF.out, hb⟩
  | true =>
  have C1 := Lib.hid (CT.out true h1)
  cases h2 : inB x 0 1500 with
  | false =>
    have C2 := Lib.hid (fun W => CF.out false W h2)
    have ek := bn_eq xs x _ _ h1 h2
    rw [Bool.false_and, Bool.and_false] at ek
    have HF := Lib.hid (retN (numBn_no ek).symm ek.symm)
    obtain ⟨ao, cap, rfl⟩ := h.form
    clear h ek h1 h2
    go_enter Tryd.func15, Tryd.ntmps15
    go_wp2_with fail
    refine C1.out.mono ?_
    rintro e w1 ⟨rfl, hb⟩
    go_wp2_with fail
    refine (C2.out _).mono ?_
    rintro e w2 ⟨rfl, rfl⟩
    go_wp2
    go_ret2
    exact ⟨HF.out, hb⟩
  | true =>
  have C2 := Lib.hid (fun W => CF.out true W h2)
  obtain ⟨r, hr⟩ : ∃ r, bonV xs x = r := ⟨_, rfl⟩
  have hx := inB_iff.1 h2
  have CB := Lib.hid (fun W (q : Below w.heap.size w W) => specBon xs v x r W B (h.below (q.mono hB)) (Nat.le_trans hB q.size) (goodTb_yes h1) hx.1 hx.2 hr)
  have ek := bn_eq xs x _ _ h1 h2
  rw [Bool.true_and, Bool.true_and, hr] at ek
  by_cases hq : 0 ≤ r
  case neg =>
    rw [decide_eq_false hq] at ek
    have HF := Lib.hid (retN (numBn_no ek).symm ek.symm)
    have g1 : r < 0 := by omega
    obtain ⟨ao, cap, rfl⟩ := h.form
    clear h ek h1 h2 hr hq
    go_enter Tryd.func15, Tryd.ntmps15
    go_wp2_with fail
    refine C1.out.mono ?_
    rintro e w1 ⟨rfl, hb⟩
    go_wp2_with fail
    refine (C2.out _).mono ?_
    rintro e w2 ⟨rfl, rfl⟩
    go_wp2_with fail
    refine (CB.out _ hb).mono ?_
    rintro e w3 ⟨rfl, hb3⟩
    go_wp2
    go_ret2
    exact ⟨HF.out, hb.trans (hb3.mono hb.size)⟩
  case pos =>
    rw [decide_eq_true hq] at ek
    have HF := Lib.hid (retN (by rw [numBn_yes ek, hr] : r = numBn xs x) ek.symm)
    have g1 : ¬ r < 0 := by omega
    obtain ⟨ao, cap, rfl⟩ := h.form
    clear h ek h1 h2 hr hq
    go_enter Tryd.func15, Tryd.ntmps15
    go_wp2_with fail
    refine C1.out.mono ?_
    rintro e w1 ⟨rfl, hb⟩
    go_wp2_with fail
    refine (C2.out _).mono ?_
    rintro e w2 ⟨rfl, rfl⟩
    go_wp2_with fail
    refine (CB.out _ hb).mono ?_
    rintro e w3 ⟨rfl, hb3⟩
    have N3 := hb.trans (hb3.mono hb.size)
    go_wp2_with fail
    refine (CB.out _ N3).mono ?_
    rintro e w4 ⟨rfl, hb4⟩
    go_wp2
    go_ret2
    exact ⟨HF.out, N3.trans (hb4.mono N3.size)⟩
theorem mg_eq (xs : List GTableRow) (s : GSwing) (b c : Bool) (hb : goodTb xs = b) (hc : oneSw s = c) : okMg xs s = (b && (c && hasM xs s)) := by unfold okMg; rw [hb, hc]
set_option maxHeartbeats 1000000 in
theorem specMg (xs : List GTableRow) (v : Value) (s : GSwing) (v2 : Value) (w : World) (B : Nat) (h : TableRowL w B v xs) (h2 : SwingVL w B v2 s) (hB : B ≤ w.heap.size) (hn : szsTableRow xs ≤ 1048576) (_ : sz1Swing s ≤ 1048576) (hw : ∀ s ∈ xs, wfTableRow s) (hw2 : wfSwing s) :
    Calls Tryd.prog 17 #[v, v2] w fun e w' => e = .returned (.tuple #[.int .i64 (numMg xs s), .bool (okMg xs s)]) ∧ Below w.heap.size w w' := by
  obtain rfl := h2.form
  clear h2
  obtain ⟨W0, hW0⟩ : ∃ W0, w.alloc (objW s) = W0 := ⟨_, rfl⟩
  have N0 : Below w.heap.size w W0 := hW0 ▸ (Below.refl w.heap.size w).alloc (Nat.le_refl _) _
  have bS : Bx W0 w.heap.size [.int .i64 s.pStation, .int .i64 s.pFar, .int .i64 s.pWidth, .int .i64 s.pTerm] := hW0 ▸ Bx.new w [.int .i64 s.pStation, .int .i64 s.pFar, .int .i64 s.pWidth, .int .i64 s.pTerm] 31
  have z0 := N0.size
  have h0 := h.below (N0.mono hB)
  have CT := Lib.hid (fun u hu => specTab xs v u W0 B h0 (Nat.le_trans hB z0) (Nat.le_trans (szsTableRow_len xs) hn) hu)
  have CF := Lib.hid (fun u W hu => specSw s u W hu)
  cases h1 : goodTb xs with
  | false =>
    have C1 := Lib.hid (CT.out false h1)
    have ek := mg_eq xs s _ _ h1 rfl
    rw [Bool.false_and] at ek
    have HF := Lib.hid (retN (numMg_no ek).symm ek.symm)
    obtain ⟨ao, cap, rfl⟩ := h.form
    have d0 := bS.2 0 _ rfl
    have d1 := bS.2 1 _ rfl
    have d2 := bS.2 2 _ rfl
    have d3 := bS.2 3 _ rfl
    clear h ek h1 h0
    go_enter Tryd.func17, Tryd.ntmps17
    go_wp2_with fail
    refine C1.out.mono ?_
    rintro e w1 ⟨rfl, hb⟩
    have N1 := N0.trans (hb.mono z0)
    clear d0 d1 d2 d3
    go_wp2
    go_ret2
    exact ⟨HF.out, N1⟩
  | true =>
  have C1 := Lib.hid (CT.out true h1)
  cases h2 : oneSw s with
  | false =>
    have C2 := Lib.hid (fun W => CF.out false W h2)
    have ek := mg_eq xs s _ _ h1 h2
    rw [Bool.false_and, Bool.and_false] at ek
    have HF := Lib.hid (retN (numMg_no ek).symm ek.symm)
    obtain ⟨ao, cap, rfl⟩ := h.form
    have d0 := bS.2 0 _ rfl
    have d1 := bS.2 1 _ rfl
    have d2 := bS.2 2 _ rfl
    have d3 := bS.2 3 _ rfl
    clear h ek h1 h2 h0
    go_enter Tryd.func17, Tryd.ntmps17
    go_wp2_with fail
    refine C1.out.mono ?_
    rintro e w1 ⟨rfl, hb⟩
    have N1 := N0.trans (hb.mono z0)
    have bS1 := bS.below hb
    clear d0 d1 d2 d3 hb bS N0 hW0
    have d0 := bS1.2 0 _ rfl
    have d1 := bS1.2 1 _ rfl
    have d2 := bS1.2 2 _ rfl
    have d3 := bS1.2 3 _ rfl
    go_wp2_with fail
    refine (C2.out _).mono ?_
    rintro e w2 ⟨rfl, hb2⟩
    clear d0 d1 d2 d3
    go_wp2
    go_ret2
    exact ⟨HF.out, N1.trans (hb2.mono N1.size)⟩
  | true =>
  have C2 := Lib.hid (fun W => CF.out true W h2)
  have CB := Lib.hid (fun W (q : Below w.heap.size w W) => specMag xs v s W B (h.below (q.mono hB)) (Nat.le_trans hB q.size) (goodTb_yes h1) (oneSw_yes h2))
  have ek := mg_eq xs s _ _ h1 h2
  rw [Bool.true_and, Bool.true_and] at ek
  have HF : Hid (Ending.returned (.tuple #[.int .i64 (if hasM xs s then magV xs s else 0), .bool (hasM xs s)]) = .returned (.tuple #[.int .i64 (numMg xs s), .bool (okMg xs s)])) := Lib.hid (retN (by
    cases e : hasM xs s with
    | false => rw [e] at ek; rw [numMg_no ek]; rfl
    | true => rw [e] at ek; rw [numMg_yes ek]; rfl) ek.symm)
  generalize hasM xs s = hm at *
  generalize magV xs s = mv at *
  obtain ⟨mz, hmz⟩ : ∃ mz, (if hm = true then mv else 0) = mz := ⟨_, rfl⟩
  rw [hmz] at HF CB
  obtain ⟨ao, cap, rfl⟩ := h.form
  have d0 := bS.2 0 _ rfl
  have d1 := bS.2 1 _ rfl
  have d2 := bS.2 2 _ rfl
  have d3 := bS.2 3 _ rfl
  clear h ek h1 h2 h0 hmz
  go_enter Tryd.func17, Tryd.ntmps17
  go_wp2_with fail
  refine C1.out.mono ?_
  rintro e w1 ⟨rfl, hb⟩
  have N1 := N0.trans (hb.mono z0)
  have bS1 := bS.below hb
  clear d0 d1 d2 d3 hb bS N0 hW0
  have d0 := bS1.2 0 _ rfl
  have d1 := bS1.2 1 _ rfl
  have d2 := bS1.2 2 _ rfl
  have d3 := bS1.2 3 _ rfl
  go_wp2_with fail
  refine (C2.out _).mono ?_
  rintro e w2 ⟨rfl, hb2⟩
  have N2 := N1.trans (hb2.mono N1.size)
  have bS2 := bS1.below hb2
  clear d0 d1 d2 d3 hb2 bS1 N1
  have d0 := bS2.2 0 _ rfl
  have d1 := bS2.2 1 _ rfl
  have d2 := bS2.2 2 _ rfl
  have d3 := bS2.2 3 _ rfl
  go_wp2_with fail
  refine (CB.out _ N2).mono ?_
  rintro e w3 ⟨rfl, hb3⟩
  clear d0 d1 d2 d3
  go_wp2
  go_ret2
  exact ⟨HF.out, N2.trans (hb3.mono N2.size)⟩
theorem lw_eq (xs : List GTableRow) (x m : Int) (b c : Bool) (hb : okBn xs x = b) (hc : inB m (-1000) 2000 = c) : okLw xs x m = (b && (c && decide (m ≤ 600 + bonV xs x))) := by unfold okLw; rw [hb, hc]
theorem okBn_yes {xs : List GTableRow} {x : Int} (h : okBn xs x = true) : okTb xs ∧ (0 ≤ x ∧ x ≤ 1500) ∧ 0 ≤ bonV xs x := by
  unfold okBn at h
  rw [Bool.and_eq_true, Bool.and_eq_true] at h
  exact ⟨goodTb_yes h.1, inB_iff.1 h.2.1, of_decide_eq_true h.2.2⟩
/-- A width between two bounds is the least one where they meet. -/
def betw (m lo hi : Int) : Prop := (1 ≤ lo ∧ lo ≤ hi ∧ hi ≤ 1000000) ∧ m ≤ sizeV hi ∧ ∀ v, 1 ≤ v → v < lo → sizeV v < m
theorem betw_end {m lo : Int} (h : betw m lo lo) : leastW m lo := ⟨⟨h.1.1, h.1.2.2⟩, h.2.1, h.2.2⟩
theorem betw_high {m lo hi k : Int} (h : betw m lo hi) (h1 : lo ≤ k) (h2 : k ≤ hi) (h3 : m ≤ sizeV k) : betw m lo k := ⟨⟨h.1.1, h1, by have := h.1.2.2; omega⟩, h3, h.2.2⟩
theorem betw_low {m lo hi k : Int} (h : betw m lo hi) (h1 : lo ≤ k) (h2 : k < hi) (h3 : sizeV k < m) : betw m (k + 1) hi := by
  obtain ⟨⟨a, b, c⟩, d, e⟩ := h
  refine ⟨⟨by omega, by omega, c⟩, d, fun v hv hk => ?_⟩
  have := sizeV_mono hv (show v ≤ k by omega) (by omega)
  omega
set_option maxRecDepth 100000 in
set_option maxHeartbeats 2000000 in
theorem specLw (xs : List GTableRow) (v : Value) (x m : Int) (w : World) (B : Nat) (h : TableRowL w B v xs) (hB : B ≤ w.heap.size) (hn : szsTableRow xs ≤ 1048576) (hw : ∀ s ∈ xs, wfTableRow s) (hx : I64 x) (hm : I64 m) :
    Calls Tryd.prog 8 #[v, .int .i64 x, .int .i64 m] w fun e w' => e = .returned (.tuple #[.int .i64 (numLw xs x m), .bool (okLw xs x m)]) ∧ Below w.heap.size w w' := by
  have C1 := Lib.hid (specBn xs v x w B h hB hn hw hx)
  have CI := Lib.hid (fun u W hu => specIn m (-1000) 2000 u W hu)
  have CZ := Lib.hid (fun y z W h0 h1 hz => specSize y z W h0 h1 hz)
  have CZ6 := Lib.hid (fun W => specSize 1000000 600 W (by omega) (by omega) sizeV_top)
  obtain ⟨ao, cap, rfl⟩ := h.form
  clear h hw
  cases h1 : okBn xs x with
  | false =>
    have ek := lw_eq xs x m _ _ h1 rfl
    rw [Bool.false_and] at ek
    have HF := Lib.hid (retN (numLw_no ek).symm ek.symm)
    rw [h1] at C1
    generalize numBn xs x = nb at *
    clear ek h1
    go_enter Tryd.func8, Tryd.ntmps8
    go_wp2_with fail
    refine C1.out.mono ?_
    rintro e w1 ⟨rfl, hb⟩
    go_wp2
    go_ret2
    exact ⟨HF.out, hb⟩
  | true =>
  obtain ⟨hok, hx0, hr0⟩ := okBn_yes h1
  have hr1 := (bonV_bd hok x).2
  rw [h1, numBn_yes h1] at C1
  cases h2 : inB m (-1000) 2000 with
  | false =>
    have ek := lw_eq xs x m _ _ h1 h2
    rw [Bool.false_and, Bool.and_false] at ek
    have HF := Lib.hid (retN (numLw_no ek).symm ek.symm)
    have C2 := Lib.hid (fun W => CI.out false W h2)
    generalize bonV xs x = r at *
    clear ek h1 h2
    go_enter Tryd.func8, Tryd.ntmps8
    go_wp2_with fail
    refine C1.out.mono ?_
    rintro e w1 ⟨rfl, hb⟩
    go_wp2_with fail
    refine (C2.out _).mono ?_
    rintro e w2 ⟨rfl, rfl⟩
    go_wp2
    go_ret2
    exact ⟨HF.out, hb⟩
  | true =>
  have C2 := Lib.hid (fun W => CI.out true W h2)
  have ek := lw_eq xs x m _ _ h1 h2
  rw [Bool.true_and, Bool.true_and] at ek
  obtain ⟨hm0, hm1⟩ := inB_iff.1 h2
  by_cases hq : m ≤ 600 + bonV xs x
  case neg =>
    rw [decide_eq_false hq] at ek
    have HF := Lib.hid (retN (numLw_no ek).symm ek.symm)
    generalize bonV xs x = r at *
    have g1 : 600 + r < m := by omega
    clear ek h1 h2 hq
    go_enter Tryd.func8, Tryd.ntmps8
    go_wp2_with fail
    refine C1.out.mono ?_
    rintro e w1 ⟨rfl, hb⟩
    go_wp2_with fail
    refine (C2.out _).mono ?_
    rintro e w2 ⟨rfl, rfl⟩
    go_wp2_with fail
    refine (CZ6.out _).mono ?_
    rintro e w2 ⟨rfl, rfl⟩
    go_wp2
    go_ret2
    exact ⟨HF.out, hb⟩
  rw [decide_eq_true hq] at ek
  have HE : Hid (∀ y, leastW (m - bonV xs x) y → Ending.returned (.tuple #[.int .i64 y, .bool true]) = .returned (.tuple #[.int .i64 (numLw xs x m), .bool (okLw xs x m)])) := Lib.hid (fun y hy => retN (by rw [numLw_yes ek]; exact leastW_one hy (lwV_is (by omega))) ek.symm)
  generalize bonV xs x = r at *
  have g1 : ¬ 600 + r < m := by omega
  clear ek h1 h2
  go_enter Tryd.func8, Tryd.ntmps8
  go_wp2_with fail
  refine C1.out.mono ?_
  rintro e w1 ⟨rfl, hb⟩
  go_wp2_with fail
  refine (C2.out _).mono ?_
  rintro e w2 ⟨rfl, rfl⟩
  go_wp2_with fail
  refine (CZ6.out _).mono ?_
  rintro e w2 ⟨rfl, rfl⟩
  go_wp2_with fail
  have HB0 : Hid (betw (m - r) 1 1000000) := Lib.hid ⟨by omega, by rw [sizeV_top]; omega, fun v h0 h1 => by omega⟩
  go_loopw [10, 11, 12] (fun a b _ wr => ∃ lo hi : Int, a = .int .i64 lo ∧ b = .int .i64 hi ∧ (1 ≤ lo ∧ lo ≤ hi ∧ hi ≤ 1000000) ∧ Hid (betw (m - r) lo hi) ∧ Below w.heap.size w wr) (fun a b _ _ => (intOf b - intOf a).toNat)
  case atStart => exact ⟨1, 1000000, rfl, rfl, by omega, HB0, hb⟩
  case round =>
    obtain ⟨lo, hi, rfl, rfl, ⟨l0, l1, l2⟩, HI, hbl⟩ := hrel
    by_cases hlt : lo < hi
    case neg =>
      obtain rfl : lo = hi := by omega
      have HF := Lib.hid (HE.out lo (betw_end HI.out))
      go_wp2
      go_ret2
      exact ⟨HF.out, hbl⟩
    have d1 : (lo + hi).tdiv 2 = (lo + hi) / 2 := Int.tdiv_eq_ediv_of_nonneg (by omega)
    obtain ⟨k, hk⟩ : ∃ k, (lo + hi) / 2 = k := ⟨_, rfl⟩
    rw [hk] at d1
    have k0 : lo ≤ k := by omega
    have k1 : k < hi := by omega
    have s5 : IntKind.i64.wrap k = k := IntWalk.i64_in _ (by omega)
    have hsb := sizeV_bd (w := k) (by omega) (by omega)
    obtain ⟨z, hz⟩ : ∃ z, sizeV k = z := ⟨_, rfl⟩
    rw [hz] at hsb
    have CK := Lib.hid (fun W => CZ.out k z W (by omega) (by omega) hz)
    have HZ := Lib.hid hz
    clear hz hk
    go_wp2_with fail
    refine (CK.out _).mono ?_
    rintro e w2 ⟨rfl, rfl⟩
    by_cases hle : m ≤ z + r
    · have HI2 : Hid (betw (m - r) lo k) := Lib.hid (betw_high HI.out k0 (by omega) (by rw [HZ.out]; omega))
      go_wp2
      go_roundw
      case rel => exact ⟨lo, k, rfl, rfl, by omega, HI2, hbl⟩
      case measure => simp [intOf]; omega
    · have HI2 : Hid (betw (m - r) (k + 1) hi) := Lib.hid (betw_low HI.out k0 k1 (by rw [HZ.out]; omega))
      go_wp2
      go_roundw
      case rel => exact ⟨k + 1, hi, by go_num, rfl, by omega, HI2, hbl⟩
      case measure => simp [intOf]; omega
end Go.Proofs.YtdiedfpfhbdamaaDoor
