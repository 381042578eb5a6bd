/- Triggers: the greatest ratio, the least threshold, the first motion: the specification. -/
import Derived.Test.YtklilfbokpljkabTgF
import Derived.BigQuiet
namespace Go.Proofs.Ytklilfbokpljkab
open Go.ChangeShapes Go.WideShapes Go.ChangeAt Go.RowKit Go.ChangeMaps
set_option linter.unusedSimpArgs false
set_option linter.unusedVariables false
set_option linter.unusedSimpArgs false
set_option linter.unusedVariables false

theorem results_tmp4 {fn : Func} {t u v x : Tmp} (h : fn.results = #[.tmp t, .tmp u, .tmp v, .tmp x]) (tmps : Array Value) (P : Program) (w : World) :
    (results fn tmps).run P w = .ok (.tuple #[tmps.getD t undef, tmps.getD u undef, tmps.getD v undef, tmps.getD x undef]) w := by
  simp [results, h]
set_option maxRecDepth 100000 in
set_option maxHeartbeats 4000000 in
theorem specGr (xs : List Int) (v : Value) (s : GSetting) (v2 : Value) (w : World) (B : Nat) (h : Lst (Value.int .i64) w B v xs) (h2 : SettingVL w B v2 s) (hB : B ≤ w.heap.size) (hn : xs.length ≤ 1048576) (_ : sz1Setting s ≤ 1048576) (hw : wfSetting s) :
    Calls Try.prog 20 #[v, v2] w fun e w' => e = .returned (.tuple #[.int .i64 (atGr xs s), .int .i64 (numGr xs s), .int .i64 (denGr xs s), .bool (okGr xs s)]) ∧ Below w.heap.size w w' := by
  obtain rfl := h2.form
  clear h2
  have N1 := (Below.refl w.heap.size w).alloc (Nat.le_refl _) (.cells #[.int .i64 s.pShort, .int .i64 s.pLong, .int .i64 s.pOn, .int .i64 s.pOff] 28)
  have bx := Bx.new w [.int .i64 s.pShort, .int .i64 s.pLong, .int .i64 s.pOn, .int .i64 s.pOff] 28
  have C := Lib.hid (fun u hu => specAskT xs v s u _ B (h.below (N1.mono hB)) (Nat.le_trans hB N1.size) hw hu)
  cases hg : goodTg xs s with
  | false =>
    have HF := Lib.hid (noGr (xs := xs) (s := s) (by unfold okGr; rw [hg]; rfl))
    have CA := Lib.hid (C.out false hg)
    obtain ⟨ao, cap, rfl⟩ := h.form
    clear h C hg
    go_enter Try.func20, Try.ntmps20
    go_wp2_with fail
    refine CA.out.mono ?_
    rintro e w1 ⟨rfl, hb⟩
    go_wp2
    (try simp only [Exit.inBlock, Exit.then]); refine bodyPost_ret (results_tmp4 rfl _ _ _) rfl ?_
    exact ⟨HF.out, N1.trans (hb.mono N1.size)⟩
  | true =>
    have CA := Lib.hid (C.out true hg)
    obtain ⟨hx, hs⟩ := goodTg_yes hg
    have hl24 := (okL_yes hx).2
    by_cases hp : s.pLong ≤ (xs.length : Int)
    case neg =>
      have HF := Lib.hid (noGr (xs := xs) (s := s) (by unfold okGr; rw [decide_eq_false hp, Bool.and_false]))
      have hp2 : (xs.length : Int) < s.pLong := by omega
      obtain ⟨ao, cap, rfl⟩ := h.form
      clear h C hg hp hx hs
      go_enter Try.func20, Try.ntmps20
      go_wp2_with fail
      refine CA.out.mono ?_
      rintro e w1 ⟨rfl, hb⟩
      have bx1 := bx.below hb
      have c1 := bx1.2 1 _ rfl
      go_wp2
      (try simp only [Exit.inBlock, Exit.then]); refine bodyPost_ret (results_tmp4 rfl _ _ _) rfl ?_
      exact ⟨HF.out, N1.trans (hb.mono N1.size)⟩
    have HOK : Hid (okGr xs s = true) := Lib.hid (by unfold okGr; rw [hg, decide_eq_true hp]; rfl)
    have HF := Lib.hid (fun k a b c hk ha hb hc => yesGr (k := k) (a := a) (b := b) (c := c) HOK.out hk ha hb hc)
    have CR : Hid (∀ (p : Nat) W, Below w.heap.size w W → s.pLong ≤ (p : Int) + 1 → p < xs.length → Calls Try.prog 74 #[v, aggS s, .int .i64 p] W fun e w' => e = .returned (.tuple #[.int .i64 (nT xs s p), .int .i64 (dT xs s p)]) ∧ Below W.heap.size W w') :=
      Lib.hid (fun p W q h0 hp => specRatT xs v s p _ _ W B (h.below (q.mono hB)) (Nat.le_trans hB q.size) hx hs h0 hp rfl rfl)
    have CB : Hid (∀ p : Nat, s.pLong ≤ (p : Int) + 1 → p < xs.length → (0 ≤ nT xs s p ∧ nT xs s p ≤ 10000000) ∧ (1 ≤ dT xs s p ∧ dT xs s p ≤ 10000000)) := Lib.hid (fun p h0 hp => nT_bd (okL_yes hx).1 hs h0 hp)
    have HG : Hid (∀ k, grT xs s (k + 1) = if decide (nT xs s (grT xs s k) * dT xs s (plT s + k + 1) < nT xs s (plT s + k + 1) * dT xs s (grT xs s k)) then plT s + k + 1 else grT xs s k) := Lib.hid (fun k => rfl)
    have HGL := Lib.hid (fun k => grT_le xs s k)
    have HGB : Hid (bstR xs s = grT xs s (xs.length - s.pLong.toNat)) := Lib.hid rfl
    have HG0 : Hid (grT xs s 0 = plT s) := Lib.hid rfl
    have hpl : ((plT s : Nat) : Int) = s.pLong - 1 := by unfold plT; have := hs.1; have := hs.2.1; omega
    generalize atGr xs s = r1 at *
    generalize numGr xs s = r2 at *
    generalize denGr xs s = r3 at *
    generalize okGr xs s = r4 at *
    generalize nT xs s = nf at *
    generalize dT xs s = df at *
    generalize grT xs s = gr at *
    generalize plT s = pl at *
    generalize bstR xs s = bs at *
    obtain ⟨⟨a1, a2⟩, ⟨b1, b2⟩, -, -⟩ := hs
    have HPL := Lib.hid hpl
    obtain ⟨ao, cap, rfl⟩ := h.form
    clear h C hg hx hpl HOK
    go_enter Try.func20, Try.ntmps20
    go_wp2_with fail
    refine CA.out.mono ?_
    rintro e w1 ⟨rfl, hb⟩
    have bx1 := bx.below hb
    have B1 := N1.trans (hb.mono N1.size)
    clear hb bx N1
    have c0 := bx1.2 0 _ rfl
    have c1 := bx1.2 1 _ rfl
    have c2 := bx1.2 2 _ rfl
    have c3 := bx1.2 3 _ rfl
    go_wp2
    go_loopw [8, 9, 10, 11] (fun a x y i wr => ∃ (j : Nat) (A X Y : Int), i = .int .i64 ((pl + j : Nat) : Int) ∧ a = .int .i64 A ∧ x = .int .i64 X ∧ y = .int .i64 Y ∧ Hid ((j = 0 ∧ A = (pl : Nat) ∧ X = -1 ∧ Y = 1) ∨ ∃ m, j = m + 1 ∧ A = (gr m : Nat) ∧ X = nf (gr m) ∧ Y = df (gr m)) ∧ pl + j ≤ xs.length
        ∧ Bx wr w.heap.size [.int .i64 s.pShort, .int .i64 s.pLong, .int .i64 s.pOn, .int .i64 s.pOff] ∧ Below w.heap.size w wr) (fun _ _ _ i _ => xs.length - (intOf i).toNat)
    case atStart => exact ⟨0, pl, -1, 1, by rw [Nat.add_zero, HPL.out], by rw [HPL.out], rfl, rfl, Lib.hid (Or.inl ⟨rfl, rfl, rfl, rfl⟩), by have := HPL.out; omega, bx1, B1⟩
    case round =>
      obtain ⟨j, A, X, Y, rfl, rfl, rfl, rfl, HJ, hj, bx, hbl⟩ := hrel
      clear bx1 B1 c0 c1 c2 c3
      have hsz := hbl.size
      by_cases hlt : pl + j < xs.length
      case neg =>
        have hq : ¬ ((pl + j : Nat) : Int) < (xs.length : Int) := by omega
        obtain ⟨m, rfl, rfl, rfl, rfl⟩ : ∃ m, j = m + 1 ∧ A = (gr m : Nat) ∧ X = nf (gr m) ∧ Y = df (gr m) := by
          rcases HJ.out with ⟨rfl, -⟩ | h
          · exfalso; have := HPL.out; omega
          · exact h
        have hgl := HGL.out m
        have hmm : xs.length - s.pLong.toNat = m := by have := HPL.out; omega
        have HB : Hid (bs = gr m) := Lib.hid (by rw [HGB.out, hmm])
        obtain ⟨⟨n0, n1⟩, e0, e1⟩ := CB.out (gr m) (by have := HPL.out; omega) (by omega)
        have HE := Lib.hid (fun b c hb hc => HF.out (gr m) ((gr m : Nat) : Int) b c HB.out rfl hb hc)
        generalize ((pl + (m + 1) : Nat) : Int) = ii at *
        generalize nf (gr m) = n at *
        generalize df (gr m) = d at *
        generalize ((gr m : Nat) : Int) = gm at *
        have CD := Lib.hid (fun W => specRed n d W (by omega) (by omega) e0 (by omega))
        have HE2 := Lib.hid (HE.out _ _ rfl rfl)
        generalize hnn : numR n d = nn at *
        generalize hdd : denR n d = dd at *
        clear HE
        go_wp2_with fail
        refine (CD.out _).mono ?_
        rintro e w3 ⟨rfl, hdr⟩
        rw [hnn, hdd]
        clear hnn hdd
        go_wp2
        (try simp only [Exit.inBlock, Exit.then]); refine bodyPost_ret (results_tmp4 rfl _ _ _) rfl ?_
        exact ⟨HE2.out, hbl.trans (hdr.below _)⟩
      have hq : ((pl + j : Nat) : Int) < (xs.length : Int) := by omega
      have C := CR.out (pl + j) wr hbl (by have := HPL.out; omega) hlt
      obtain ⟨⟨n0, n1⟩, e0, e1⟩ := CB.out (pl + j) (by have := HPL.out; omega) hlt
      have hXY : (-1 ≤ X ∧ X ≤ 10000000) ∧ (1 ≤ Y ∧ Y ≤ 10000000) := by
        rcases HJ.out with ⟨-, -, rfl, rfl⟩ | ⟨m, rfl, -, rfl, rfl⟩
        · omega
        · have hgl := HGL.out m
          have := CB.out (gr m) (by have := HPL.out; omega) (by omega)
          omega
      obtain ⟨⟨x0, x1⟩, y0, y1⟩ := hXY
      have HN : Hid ((X * df (pl + j) < nf (pl + j) * Y → gr j = pl + j) ∧ (nf (pl + j) * Y ≤ X * df (pl + j) → A = (gr j : Nat) ∧ X = nf (gr j) ∧ Y = df (gr j))) := Lib.hid (by
        rcases HJ.out with ⟨rfl, rfl, rfl, rfl⟩ | ⟨m, rfl, rfl, rfl, rfl⟩
        · refine ⟨fun _ => HG0.out, fun h => absurd h ?_⟩
          rw [Int.mul_one]; omega
        · have g := HG.out m
          rw [show pl + (m + 1) = pl + m + 1 by omega]
          refine ⟨fun h => ?_, fun h => ?_⟩
          · rw [decide_eq_true h, if_pos rfl] at g; exact g
          · rw [decide_eq_false (Int.not_lt.2 h), if_neg Bool.false_ne_true] at g; rw [g]; exact ⟨rfl, rfl, rfl⟩)
      have HV : Hid ((nf (pl + j) = nf (pl + j)) ∧ True) := Lib.hid ⟨rfl, trivial⟩
      obtain ⟨n, hnn⟩ : ∃ n, nf (pl + j) = n := ⟨_, rfl⟩
      obtain ⟨d, hdd⟩ : ∃ d, df (pl + j) = d := ⟨_, rfl⟩
      have HNN := Lib.hid hnn
      have HDD := Lib.hid hdd
      rw [hnn, hdd] at C
      rw [hnn] at n0 n1
      rw [hdd] at e0 e1
      rw [hnn, hdd] at HN
      clear hnn hdd HV
      have m1 := mul_bdQ (A := 10000000) (B := 10000000) n0 n1 (show 0 ≤ Y by omega) y1
      have m2 := mul_bdQ (A := 10000001) (B := 10000000) (show 0 ≤ X + 1 by omega) (show X + 1 ≤ 10000001 by omega) (show 0 ≤ d by omega) e1
      rw [Int.add_mul, Int.one_mul] at m2
      have s1 : wrap64 (n * Y) = n * Y := by unfold wrap64; omega
      have s2 : wrap64 (X * d) = X * d := by unfold wrap64; omega
      have c0 := bx.2 0 _ rfl
      have c1 := bx.2 1 _ rfl
      have c2 := bx.2 2 _ rfl
      have c3 := bx.2 3 _ rfl
      have HC := Lib.hid C
      have HBX := Lib.hid bx
      clear C bx m1 m2
      go_wp2_with fail
      refine HC.out.mono ?_
      rintro e w2 ⟨rfl, hb⟩
      have bx2 := HBX.out.below hb
      have hbl2 := hbl.trans (hb.mono hsz)
      clear c0 c1 c2 c3 hbl hb HC HBX
      by_cases hc : X * d < n * Y
      case pos =>
        have HJ2 : Hid ((j + 1 = 0 ∧ ((pl + j : Nat) : Int) = (pl : Nat) ∧ n = -1 ∧ d = 1) ∨ ∃ m, j + 1 = m + 1 ∧ ((pl + j : Nat) : Int) = (gr m : Nat) ∧ n = nf (gr m) ∧ d = df (gr m)) := Lib.hid (Or.inr ⟨j, rfl, by rw [HN.out.1 hc], by rw [HN.out.1 hc, HNN.out], by rw [HN.out.1 hc, HDD.out]⟩)
        go_wp2
        go_roundw
        case rel => exact ⟨j + 1, _, n, d, by go_num, rfl, rfl, rfl, HJ2, by omega, bx2, hbl2⟩
        case measure => simp [intOf]; omega
      case neg =>
        have HJ2 : Hid ((j + 1 = 0 ∧ A = (pl : Nat) ∧ X = -1 ∧ Y = 1) ∨ ∃ m, j + 1 = m + 1 ∧ A = (gr m : Nat) ∧ X = nf (gr m) ∧ Y = df (gr m)) := Lib.hid (Or.inr ⟨j, rfl, HN.out.2 (Int.not_lt.1 hc)⟩)
        go_wp2
        go_roundw
        case rel => exact ⟨j + 1, A, X, Y, by go_num, rfl, rfl, rfl, HJ2, by omega, bx2, hbl2⟩
        case measure => simp [intOf]; omega
set_option maxRecDepth 100000 in
set_option maxHeartbeats 4000000 in
theorem specLe (xs : List Int) (v : Value) (s : GSetting) (v2 : Value) (w : World) (B : Nat) (h : Lst (Value.int .i64) w B v xs) (h2 : SettingVL w B v2 s) (hB : B ≤ w.heap.size) (hn : xs.length ≤ 1048576) (_ : sz1Setting s ≤ 1048576) (hw : wfSetting s) :
    Calls Try.prog 24 #[v, v2] w fun e w' => e = .returned (.tuple #[.int .i64 (numLe xs s), .bool (okLe xs s)]) ∧ Below w.heap.size w w' := by
  obtain rfl := h2.form
  clear h2
  have N1 := (Below.refl w.heap.size w).alloc (Nat.le_refl _) (.cells #[.int .i64 s.pShort, .int .i64 s.pLong, .int .i64 s.pOn, .int .i64 s.pOff] 28)
  have bx := Bx.new w [.int .i64 s.pShort, .int .i64 s.pLong, .int .i64 s.pOn, .int .i64 s.pOff] 28
  have C := Lib.hid (fun u hu => specAskT xs v s u _ B (h.below (N1.mono hB)) (Nat.le_trans hB N1.size) hw hu)
  cases hg : goodTg xs s with
  | false =>
    have HF := Lib.hid (noLe (xs := xs) (s := s) (by unfold okLe; rw [hg]; rfl))
    have CA := Lib.hid (C.out false hg)
    obtain ⟨ao, cap, rfl⟩ := h.form
    clear h C hg
    go_enter Try.func24, Try.ntmps24
    go_wp2_with fail
    refine CA.out.mono ?_
    rintro e w1 ⟨rfl, hb⟩
    go_wp2
    go_ret2
    exact ⟨HF.out, N1.trans (hb.mono N1.size)⟩
  | true =>
    have CA := Lib.hid (C.out true hg)
    obtain ⟨hx, hs⟩ := goodTg_yes hg
    have hl24 := (okL_yes hx).2
    have HY := Lib.hid (fun k hk h => yesLe (xs := xs) (s := s) (k := k) hg hk h)
    have HN := Lib.hid (fun (h : ¬ leT xs s < 1001) => noLe (xs := xs) (s := s) (by unfold okLe; rw [decide_eq_false h, Bool.and_false]))
    have HLE : Hid (leT xs s = nxT (noneT xs s) 1001 s.pOff.toNat) := Lib.hid rfl
    have HNI : Hid (∀ t : Nat, decide (timesT xs (setOn s (t : Int)) = []) = noneT xs s t) := Lib.hid (fun t => setOn_nil xs s t)
    have CO : Hid (∀ (t : Nat) W, Below w.heap.size w W → s.pOff ≤ (t : Int) → (t : Int) ≤ 1000 → Calls Try.prog 70 #[v, .agg #[.int .i64 s.pShort, .int .i64 s.pLong, .int .i64 (t : Int), .int .i64 s.pOff]] W fun e w' => ∃ v', e = .returned v' ∧ IntA2SO w' W.heap.size w'.heap.size v' (timesT xs (setOn s (t : Int))) ∧ Below W.heap.size W w') :=
      Lib.hid (fun t W q h0 h1 => specOnT xs v (setOn s (t : Int)) W B (h.below (q.mono hB)) (Nat.le_trans hB q.size) hx (setOn_ok hs h0 h1))
    obtain ⟨-, -, ⟨p1, p2⟩, q1, q2⟩ := hs
    generalize numLe xs s = r1 at *
    generalize okLe xs s = r2 at *
    generalize leT xs s = le at *
    generalize noneT xs s = nf at *
    generalize (fun t : Int => timesT xs (setOn s t)) = tf at *
    obtain ⟨ao, cap, rfl⟩ := h.form
    clear h C hg hx
    go_enter Try.func24, Try.ntmps24
    go_wp2_with fail
    refine CA.out.mono ?_
    rintro e w1 ⟨rfl, hb⟩
    have bx1 := bx.below hb
    have B1 := N1.trans (hb.mono N1.size)
    clear hb bx N1
    have c0 := bx1.2 0 _ rfl
    have c1 := bx1.2 1 _ rfl
    have c2 := bx1.2 2 _ rfl
    have c3 := bx1.2 3 _ rfl
    go_wp2
    go_loopw [6] (fun i wr => ∃ (t : Nat), i = .int .i64 t ∧ s.pOff ≤ (t : Int) ∧ (t : Int) ≤ 1001 ∧ Hid (le = nxT nf 1001 t) ∧ Bx wr w.heap.size [.int .i64 s.pShort, .int .i64 s.pLong, .int .i64 s.pOn, .int .i64 s.pOff] ∧ Below w.heap.size w wr) (fun i _ => 1001 - (intOf i).toNat)
    case atStart => exact ⟨s.pOff.toNat, by rw [Int.toNat_of_nonneg (by omega)], by omega, by omega, HLE, bx1, B1⟩
    case round =>
      obtain ⟨t, rfl, ht0, ht1, HL, bx, hbl⟩ := hrel
      clear bx1 B1 c0 c1 c2 c3
      have hsz := hbl.size
      by_cases hlt : (t : Int) ≤ 1000
      case neg =>
        have HE := Lib.hid (HN.out (by rw [HL.out, nxT_end (by omega)]; omega))
        go_wp2
        go_ret2
        exact ⟨HE.out, hbl⟩
      have C := CO.out t wr hbl ht0 hlt
      have HI := Lib.hid (HNI.out t)
      generalize timesT xs (setOn s (t : Int)) = tms at *
      have c0 := bx.2 0 _ rfl
      have c1 := bx.2 1 _ rfl
      have c2 := bx.2 2 _ rfl
      have c3 := bx.2 3 _ rfl
      have HC := Lib.hid C
      have HBX := Lib.hid bx
      clear C bx
      go_wp2_with fail
      refine HC.out.mono ?_
      rintro e w2 ⟨v', rfl, hO, hb⟩
      have bx2 := HBX.out.below hb
      have hbl2 := hbl.trans (hb.mono hsz)
      obtain ⟨ao2, cap2, rfl⟩ := hO.form
      clear c0 c1 c2 c3 hbl hb HC HBX hO
      cases tms with
      | nil =>
        have HE := Lib.hid (HY.out t (by rw [HL.out]; exact nxT_yes (by omega) (HI.out.symm.trans (decide_eq_true rfl))) (by omega))
        go_wp2
        go_ret2
        exact ⟨HE.out, hbl2⟩
      | cons q l =>
        have HL2 : Hid (le = nxT nf 1001 (t + 1)) := Lib.hid (by rw [HL.out]; exact nxT_no (by omega) (HI.out.symm.trans (decide_eq_false (by simp))))
        have hne : ((((q :: l).length : Nat) : Int) == 0) = false := by simp; omega
        generalize (q :: l).length = ln at *
        go_wp2
        go_roundw
        case rel => exact ⟨t + 1, by go_num, by omega, by omega, HL2, bx2, hbl2⟩
        case measure => simp [intOf]; omega
set_option maxRecDepth 100000 in
set_option maxHeartbeats 4000000 in
theorem specFm (xs : List Int) (v : Value) (s : GSetting) (v2 : Value) (w : World) (B : Nat) (h : Lst (Value.int .i64) w B v xs) (h2 : SettingVL w B v2 s) (hB : B ≤ w.heap.size) (hn : xs.length ≤ 1048576) (_ : sz1Setting s ≤ 1048576) (hw : wfSetting s) :
    Calls Try.prog 15 #[v, v2] w fun e w' => e = .returned (.tuple #[.int .i64 (numFm xs s), .bool (okFm xs s)]) ∧ Below w.heap.size w w' := by
  obtain rfl := h2.form
  clear h2
  have N1 := (Below.refl w.heap.size w).alloc (Nat.le_refl _) (.cells #[.int .i64 s.pShort, .int .i64 s.pLong, .int .i64 s.pOn, .int .i64 s.pOff] 28)
  have bx := Bx.new w [.int .i64 s.pShort, .int .i64 s.pLong, .int .i64 s.pOn, .int .i64 s.pOff] 28
  have C := Lib.hid (fun u hu => specAskT xs v s u _ B (h.below (N1.mono hB)) (Nat.le_trans hB N1.size) hw hu)
  cases hg : goodTg xs s with
  | false =>
    have HF := Lib.hid (noFm (xs := xs) (s := s) (by unfold okFm; rw [hg]; rfl))
    have CA := Lib.hid (C.out false hg)
    obtain ⟨ao, cap, rfl⟩ := h.form
    clear h C hg
    go_enter Try.func15, Try.ntmps15
    go_wp2_with fail
    refine CA.out.mono ?_
    rintro e w1 ⟨rfl, hb⟩
    go_wp2
    go_ret2
    exact ⟨HF.out, N1.trans (hb.mono N1.size)⟩
  | true =>
    have CA := Lib.hid (C.out true hg)
    obtain ⟨hx, hs⟩ := goodTg_yes hg
    have hl24 := (okL_yes hx).2
    have CO := Lib.hid (fun W (q : Below w.heap.size w W) => specOnT xs v s W B (h.below (q.mono hB)) (Nat.le_trans hB q.size) hx hs)
    have hpl : 1 ≤ plT s := by unfold plT; have := hs.1; have := hs.2.1; omega
    by_cases hon : onT xs s s.pOn < xs.length
    case neg =>
      have HF := Lib.hid (noFm (xs := xs) (s := s) (by unfold okFm; rw [decide_eq_false hon, Bool.and_false]))
      have hge : xs.length ≤ onT xs s s.pOn := by omega
      have hnil : timesT xs s = [] := (timesT_nil xs s).2 (Nat.le_antisymm (nxT_le _ _ _) hge)
      rw [hnil] at CO
      obtain ⟨ao, cap, rfl⟩ := h.form
      clear h C hg hx hs hon hnil hge
      go_enter Try.func15, Try.ntmps15
      go_wp2_with fail
      refine CA.out.mono ?_
      rintro e w1 ⟨rfl, hb⟩
      have bx1 := bx.below hb
      have B1 := N1.trans (hb.mono N1.size)
      clear hb bx N1
      have c0 := bx1.2 0 _ rfl
      have c1 := bx1.2 1 _ rfl
      have c2 := bx1.2 2 _ rfl
      have c3 := bx1.2 3 _ rfl
      go_wp2_with fail
      refine (CO.out _ B1).mono ?_
      rintro e w2 ⟨v', rfl, hO, hb⟩
      obtain ⟨ao2, cap2, rfl⟩ := hO.form
      go_wp2
      go_ret2
      exact ⟨HF.out, B1.trans (hb.mono B1.size)⟩
    have hpo : plT s ≤ onT xs s s.pOn := by
      unfold onT at hon ⊢
      by_cases e : xs.length ≤ plT s
      · rw [nxT_end e] at hon; omega
      · exact nxT_ge _ _ _ (by omega)
    obtain ⟨bb, l, htm⟩ := timesT_first hon
    rw [htm] at CO
    have HY := Lib.hid (fun x y r hx hy hr => yesFm (x := x) (y := y) (r := r) hg rfl hon hx hy hr)
    have hxb := (okL_yes hx).1
    generalize onT xs s s.pOn = k at *
    generalize numFm xs s = r1 at *
    generalize okFm xs s = r2 at *
    obtain ⟨x, hxk⟩ := get_of_lt hon
    obtain ⟨y, hyk⟩ := get_of_lt (l := xs) (k := k - 1) (by omega)
    have hb1 := hxb x (List.mem_of_getElem? hxk)
    have hb2 := hxb y (List.mem_of_getElem? hyk)
    have HF := Lib.hid (HY.out x y _ hxk hyk rfl)
    have HLX := Lib.hid h
    obtain ⟨ao, cap, rfl, -, -, -, hc⟩ := h
    obtain ⟨b, off, rfl, hbb, hcx⟩ := hc k x hxk
    obtain ⟨b', off', e9, -, hcy⟩ := hc (k - 1) y hyk
    simp only [Option.some.injEq, Addr.mk.injEq, and_true] at e9
    obtain ⟨rfl, rfl⟩ := e9
    have hk0 : (0 : Int) ≤ (k : Int) := by omega
    have hk1 : (k : Int) < (xs.length : Int) := by omega
    have hk2 : (0 : Int) ≤ (k : Int) - 1 := by omega
    have hk3 : (k : Int) - 1 < (xs.length : Int) := by omega
    have hk4 : ((k : Int) - 1).toNat = k - 1 := by omega
    have hk5 : IntKind.i64.wrap ((k : Int) - 1) = (k : Int) - 1 := IntWalk.i64_in _ (by omega)
    have hk6 : IntKind.i64.wrap (x - y) = x - y := IntWalk.i64_in _ (by omega)
    have HCX : Hid (∀ W, Below w.heap.size w W → W.cell? ⟨b, off + k, none⟩ = some (.int .i64 x) ∧ W.cell? ⟨b, off + (k - 1), none⟩ = some (.int .i64 y)) := Lib.hid (fun W q => ⟨cellOf q (by omega) hcx, cellOf q (by omega) hcy⟩)
    clear C hg hx hs hon htm HY hc hxk hyk hcx hcy hxb HLX
    go_enter Try.func15, Try.ntmps15
    go_wp2_with fail
    refine CA.out.mono ?_
    rintro e w1 ⟨rfl, hb⟩
    have bx1 := bx.below hb
    have B1 := N1.trans (hb.mono N1.size)
    clear hb bx N1
    have c0 := bx1.2 0 _ rfl
    have c1 := bx1.2 1 _ rfl
    have c2 := bx1.2 2 _ rfl
    have c3 := bx1.2 3 _ rfl
    go_wp2_with fail
    refine (CO.out _ B1).mono ?_
    rintro e w2 ⟨v', rfl, hO, hb⟩
    have B2 := B1.trans (hb.mono B1.size)
    obtain ⟨ao2, cap2, rfl, -, -, -, hc⟩ := hO
    obtain ⟨b2, off2, rfl, -, -, hlt2, hce, -⟩ := hc 0 _ rfl
    obtain ⟨x0, y0⟩ := HCX.out w2 B2
    have z0 : w2.cell? ⟨b2, off2, none⟩ = some (.int .i64 (k : Int)) := hce 0 _ rfl
    have z1 : w2.cell? ⟨b2, off2 + 1, none⟩ = some (.int .i64 bb) := hce 1 _ rfl
    have hl1 : 1 ≤ ((((k : Nat) : Int), bb) :: l).length := by simp
    generalize ((((k : Nat) : Int), bb) :: l).length = ln at *
    have hll : (0 : Int) < (ln : Int) := by omega
    have hle : ((ln : Int) == 0) = false := by simp; omega
    have HR1 : Hid (r1 = r1) := Lib.hid rfl
    unfold sgnT at HF
    clear c0 c1 c2 c3 bx1 hb hc hce hl1
    by_cases h1 : x < y
    · rw [if_pos h1] at HF
      have g1 : ¬ 0 < x - y := by omega
      have g2 : x - y < 0 := by omega
      go_wp2
      go_quiet (fail)
      go_wp2
      go_ret2
      exact ⟨HF.out, drewN_b B2 _⟩
    · rw [if_neg h1] at HF
      by_cases h2 : y < x
      · rw [if_pos h2] at HF
        have g1 : 0 < x - y := by omega
        go_wp2
        go_quiet (fail)
        go_wp2
        go_ret2
        exact ⟨HF.out, drewN_b B2 _⟩
      · rw [if_neg h2] at HF
        have g1 : ¬ 0 < x - y := by omega
        have g2 : ¬ x - y < 0 := by omega
        go_wp2
        go_quiet (fail)
        go_wp2
        go_ret2
        exact ⟨HF.out, drewN_b B2 _⟩
end Go.Proofs.Ytklilfbokpljkab
