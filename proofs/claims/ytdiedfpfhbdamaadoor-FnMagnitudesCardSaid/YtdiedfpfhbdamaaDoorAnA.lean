/- Amplitudes: the program's tests. -/
import Derived.Test.YtdiedfpfhbdamaaDoorAmC
import Derived.Lib.QuietBelow
namespace Go.Proofs.YtdiedfpfhbdamaaDoor
open Go.ChangeShapes Go.WideShapes Go.ChangeAt Go.RowKit Go.ChangeMaps Go.Sort
set_option linter.unusedSimpArgs false
set_option linter.unusedVariables false
set_option linter.unusedSimpArgs false
set_option linter.unusedVariables false

/-- areWithin at one number, which lies in a block of its own. -/
theorem withinOneW (lo hi n : Int) (b : Nat) (u : Bool) (w : World) (hb : Bx w b [.int .i64 n]) (hu : decide (lo ≤ n ∧ n ≤ hi) = u) :
    Calls Tryd.prog 47 #[.int .i64 lo, .int .i64 hi, .slice (some ⟨b, 0, none⟩) 1 1] w fun e w' => e = .returned (.bool u) ∧ w' = w := by
  have c0 : w.cell? ⟨b, 0, none⟩ = some (.int .i64 n) := hb.2 0 _ rfl
  have HU := Lib.hid hu
  clear hu hb
  go_enter Tryd.func47, Tryd.ntmps47
  go_wp2
  go_loop [11] (fun i => i = .int .i64 0 ∨ (i = .int .i64 1 ∧ Hid (lo ≤ n ∧ n ≤ hi))) (fun i => 1 - (intOf i).toNat)
  case atStart => exact Or.inl rfl
  case round =>
    rcases hrel with rfl | ⟨rfl, HO⟩
    · by_cases h1 : lo ≤ n
      · by_cases h2 : n ≤ hi
        · have HX := Lib.hid (show lo ≤ n ∧ n ≤ hi from ⟨h1, h2⟩)
          go_wp2
          go_round
          case rel => exact Or.inr ⟨by go_num, HX⟩
          case measure => simp [intOf]
        · have HF : Hid (false = u) := Lib.hid (by rw [← HU.out]; exact (decide_eq_false fun g => h2 g.2).symm)
          go_wp2
          go_ret
          exact ⟨ret_bool HF.out, rfl⟩
      · have HF : Hid (false = u) := Lib.hid (by rw [← HU.out]; exact (decide_eq_false fun g => h1 g.1).symm)
        go_wp2
        go_ret
        exact ⟨ret_bool HF.out, rfl⟩
    · have HF : Hid (true = u) := Lib.hid (by rw [← HU.out]; exact (decide_eq_true HO.out).symm)
      go_wp2
      go_ret
      exact ⟨ret_bool HF.out, rfl⟩
theorem implFar (x : Int) (u : Bool) (w : World) (hu : inB x 0 1500 = u) :
    Calls Tryd.prog 35 #[.int .i64 x] w fun e w' => e = .returned (.bool u) ∧ Below w.heap.size w w' := by
  have N := Lib.hid (below_cell (w := w) (Nat.le_refl _) (.cells #[.int .i64 x] 3))
  have CI := Lib.hid (withinOneW 0 1500 x _ u _ (Bx.new w [.int .i64 x] 3) hu)
  clear hu
  go_enter Tryd.func35, Tryd.ntmps35
  go_wp2_with fail
  refine CI.out.mono ?_
  rintro e w9 ⟨rfl, q9⟩
  subst q9
  go_wp2
  go_ret
  exact ⟨rfl, N.out⟩
theorem implWid (x : Int) (u : Bool) (w : World) (hu : inB x 1 1000000 = u) :
    Calls Tryd.prog 30 #[.int .i64 x] w fun e w' => e = .returned (.bool u) ∧ Below w.heap.size w w' := by
  have N := Lib.hid (below_cell (w := w) (Nat.le_refl _) (.cells #[.int .i64 x] 3))
  have CI := Lib.hid (withinOneW 1 1000000 x _ u _ (Bx.new w [.int .i64 x] 3) hu)
  clear hu
  go_enter Tryd.func30, Tryd.ntmps30
  go_wp2_with fail
  refine CI.out.mono ?_
  rintro e w9 ⟨rfl, q9⟩
  subst q9
  go_wp2
  go_ret
  exact ⟨rfl, N.out⟩
theorem implMgn (x : Int) (u : Bool) (w : World) (hu : inB x (-1000) 2000 = u) :
    Calls Tryd.prog 26 #[.int .i64 x] w fun e w' => e = .returned (.bool u) ∧ Below w.heap.size w w' := by
  have N := Lib.hid (below_cell (w := w) (Nat.le_refl _) (.cells #[.int .i64 x] 3))
  have CI := Lib.hid (withinOneW (-1000) 2000 x _ u _ (Bx.new w [.int .i64 x] 3) hu)
  clear hu
  go_enter Tryd.func26, Tryd.ntmps26
  go_wp2_with fail
  refine CI.out.mono ?_
  rintro e w9 ⟨rfl, q9⟩
  subst q9
  go_wp2
  go_ret
  exact ⟨rfl, N.out⟩
set_option maxRecDepth 100000 in
set_option maxHeartbeats 1000000 in
theorem implSw (a : GSwing) (u : Bool) (w : World) (hu : oneSw a = u) :
    Calls Tryd.prog 33 #[aggW a] w fun e w' => e = .returned (.bool u) ∧ Below w.heap.size w w' := by
  rw [oneSw_eq] at hu
  generalize h0 : inB a.pStation 1 99 = b0 at hu
  generalize h1 : inB a.pFar 0 1500 = b1 at hu
  generalize h2 : inB a.pWidth 1 1000000 = b2 at hu
  generalize h3 : inB a.pTerm (-50) 50 = b3 at hu
  have H0 := Lib.hid h0
  have H1 := Lib.hid h1
  have H2 := Lib.hid h2
  have H3 := Lib.hid h3
  have HU := Lib.hid hu
  clear hu h0 h1 h2 h3
  obtain ⟨W0, hW0⟩ : ∃ W0, w.alloc (.cells #[.int .i64 a.pStation, .int .i64 a.pFar, .int .i64 a.pWidth, .int .i64 a.pTerm] 31) = W0 := ⟨_, rfl⟩
  have N0 : Below w.heap.size w W0 := hW0 ▸ (Below.refl w.heap.size w).alloc (Nat.le_refl _) _
  have bx0 : Bx W0 w.heap.size [.int .i64 a.pStation, .int .i64 a.pFar, .int .i64 a.pWidth, .int .i64 a.pTerm] := hW0 ▸ Bx.new w [.int .i64 a.pStation, .int .i64 a.pFar, .int .i64 a.pWidth, .int .i64 a.pTerm] 31
  have d0 := bx0.2 0 _ rfl
  have d1 := bx0.2 1 _ rfl
  have d2 := bx0.2 2 _ rfl
  have d3 := bx0.2 3 _ rfl
  go_enter Tryd.func33, Tryd.ntmps33
  go_wp2_with fail
  clear hW0
  refine (implId _ b0 _ H0.out).mono ?_
  rintro e w9 ⟨rfl, q9⟩
  subst q9
  cases b0
  case false =>
    have HF : Hid (false = u) := Lib.hid (by rw [← HU.out]; simp)
    go_wp2
    go_ret
    exact ⟨ret_bool HF.out, N0⟩
  go_wp2_with fail
  refine (implFar _ b1 _ H1.out).mono ?_
  rintro e w1 ⟨rfl, hb⟩
  have N1 := N0.trans (hb.mono N0.size)
  have bx1 := bx0.below hb
  clear d0 d1 d2 d3 bx0 hb N0
  have d0 := bx1.2 0 _ rfl
  have d1 := bx1.2 1 _ rfl
  have d2 := bx1.2 2 _ rfl
  have d3 := bx1.2 3 _ rfl
  cases b1
  case false =>
    have HF : Hid (false = u) := Lib.hid (by rw [← HU.out]; simp)
    go_wp2
    go_ret
    exact ⟨ret_bool HF.out, N1⟩
  go_wp2_with fail
  refine (implWid _ b2 _ H2.out).mono ?_
  rintro e w2 ⟨rfl, hb⟩
  have N2 := N1.trans (hb.mono N1.size)
  have bx2 := bx1.below hb
  clear d0 d1 d2 d3 bx1 hb N1
  have d0 := bx2.2 0 _ rfl
  have d1 := bx2.2 1 _ rfl
  have d2 := bx2.2 2 _ rfl
  have d3 := bx2.2 3 _ rfl
  cases b2
  case false =>
    have HF : Hid (false = u) := Lib.hid (by rw [← HU.out]; simp)
    go_wp2
    go_ret
    exact ⟨ret_bool HF.out, N2⟩
  have HF : Hid (b3 = u) := Lib.hid (by rw [← HU.out]; simp)
  obtain ⟨W2, hW2⟩ : ∃ W2, w2.alloc (.cells #[.int .i64 a.pTerm] 3) = W2 := ⟨_, rfl⟩
  have N3 : Below w.heap.size w W2 := hW2 ▸ N2.alloc N2.size _
  have b2x : Bx W2 w2.heap.size [.int .i64 a.pTerm] := hW2 ▸ Bx.new w2 [.int .i64 a.pTerm] 3
  go_wp2_with fail
  clear hW2 d0 d1 d2 d3
  refine (withinOneW (-50) 50 a.pTerm _ b3 _ b2x H3.out).mono ?_
  rintro e w9 ⟨rfl, q9⟩
  obtain rfl : W2 = w9 := q9.symm
  go_wp2
  go_ret
  exact ⟨ret_bool HF.out, N3⟩
set_option maxRecDepth 100000 in
set_option maxHeartbeats 4000000 in
theorem implGoodT (xs : List GTableRow) (v : Value) (u : Bool) (w : World) (B : Nat) (h : TableRowL w B v xs) (hB : B ≤ w.heap.size) (hn : xs.length ≤ 1048576) (hu : goodTb xs = u) :
    Calls Tryd.prog 21 #[v] w fun e w' => e = .returned (.bool u) ∧ Below w.heap.size w w' := by
  obtain ⟨ao, cap, rfl, hcap, hmax, -, hc⟩ := h
  unfold maxLen at hmax
  have HR := Lib.hid hu
  have HC := Lib.hid hc
  clear hc hu
  obtain ⟨W0, hW0⟩ : ∃ W0, w.alloc (.cells #[.int .i64 xs.length] 3) = W0 := ⟨_, rfl⟩
  have N0 : Below w.heap.size w W0 := hW0 ▸ (Below.refl w.heap.size w).alloc (Nat.le_refl _) _
  have bx0 : Bx W0 w.heap.size [.int .i64 xs.length] := hW0 ▸ Bx.new w [.int .i64 xs.length] 3
  cases hl : inB xs.length 2 8 with
  | false =>
    have HF : Hid (false = u) := Lib.hid (by rw [← HR.out]; exact (goodTb_len hl).symm)
    have CL := Lib.hid (withinOneW 2 8 xs.length _ false _ bx0 hl)
    go_enter Tryd.func21, Tryd.ntmps21
    go_wp2_with fail
    clear hW0
    refine CL.out.mono ?_
    rintro e w1 ⟨rfl, q1⟩
    subst q1
    go_wp2
    go_ret
    exact ⟨ret_bool HF.out, N0⟩
  | true =>
  have CL := Lib.hid (withinOneW 2 8 xs.length _ true _ bx0 hl)
  have HLL := Lib.hid hl
  have hl8 := inB_iff.1 hl
  clear hl
  go_enter Tryd.func21, Tryd.ntmps21
  go_wp2_with fail
  clear hW0
  refine CL.out.mono ?_
  rintro e w1 ⟨rfl, q1⟩
  subst q1
  clear CL bx0
  go_wp2
  go_loopw [3, 4, 12] (fun _ _ i wr => ∃ k : Nat, k ≤ xs.length ∧ i = .int .i64 k ∧ Hid (uptoTb xs k) ∧ Below w.heap.size w wr) (fun _ _ i _ => xs.length - (intOf i).toNat)
  case atStart => exact ⟨0, Nat.zero_le _, rfl, Lib.hid (uptoTb_zero xs), N0⟩
  case round =>
    obtain ⟨k, hk, rfl, HU, hbl⟩ := hrel
    have hsz := hbl.size
    by_cases hlt : k < xs.length
    case neg =>
      obtain rfl : k = xs.length := by omega
      have HF : Hid (true = u) := Lib.hid (by rw [← HR.out]; exact (goodTb_all HU.out HLL.out).symm)
      go_wp2
      go_ret
      exact ⟨ret_bool HF.out, hbl⟩
    have hk0 : (0 : Int) ≤ (k : Int) := by omega
    have hk1 : (k : Int) < (xs.length : Int) := by omega
    have hk2 : (k : Int) ≤ 8 := by omega
    obtain ⟨a, ha⟩ := get_of_lt hlt
    obtain ⟨b, off, rfl, hb, hcell⟩ := HC.out k a ha
    have c0 : wr.cell? ⟨b, off + k * 2, none⟩ = some (.int .i64 a.pFar) := cellOf hbl (by omega) (hcell 0 _ rfl)
    have c1 : wr.cell? ⟨b, off + k * 2 + 1, none⟩ = some (.int .i64 a.pBonus) := cellOf hbl (by omega) (hcell 1 _ rfl)
    have HA := Lib.hid ha
    clear ha hcell
    obtain ⟨W1, hW1⟩ : ∃ W1, wr.alloc (.cells #[.int .i64 a.pFar, .int .i64 a.pBonus] 55) = W1 := ⟨_, rfl⟩
    have A1 : Below wr.heap.size wr W1 := hW1 ▸ (Below.refl _ _).alloc (Nat.le_refl _) _
    have bx : Bx W1 wr.heap.size [.int .i64 a.pFar, .int .i64 a.pBonus] := hW1 ▸ Bx.new wr [.int .i64 a.pFar, .int .i64 a.pBonus] 55
    have N1 := hbl.trans (A1.mono hsz)
    have z1 := N1.size
    have e0 := bx.2 0 _ rfl
    have e1 := bx.2 1 _ rfl
    clear A1
    cases h1 : inB a.pFar 0 1500 with
    | false =>
      have HF : Hid (false = u) := Lib.hid (by rw [← HR.out]; exact (atT_no1 (fun g => by rw [inB_yes g.1] at h1; cases h1) HA.out).symm)
      have C1 := Lib.hid (fun W => implFar a.pFar false W h1)
      clear h1
      go_wp2_with fail
      clear hW1
      refine (C1.out _).mono ?_
      rintro e w3 ⟨rfl, hb3⟩
      go_wp2
      go_ret
      exact ⟨ret_bool HF.out, N1.trans (hb3.mono z1)⟩
    | true =>
    have C1 := Lib.hid (fun W => implFar a.pFar true W h1)
    go_wp2_with fail
    clear hW1
    refine (C1.out _).mono ?_
    rintro e w3 ⟨rfl, hb3⟩
    have N3 := N1.trans (hb3.mono z1)
    have bx3 := bx.below hb3
    clear e0 e1 bx hb3 N1 z1 c0 c1 C1
    obtain ⟨W4, hW4⟩ : ∃ W4, w3.alloc (.cells #[.int .i64 a.pBonus] 3) = W4 := ⟨_, rfl⟩
    have N4 : Below w.heap.size w W4 := hW4 ▸ N3.alloc N3.size _
    have b4x : Bx W4 w3.heap.size [.int .i64 a.pBonus] := hW4 ▸ Bx.new w3 [.int .i64 a.pBonus] 3
    have bx4 : Bx W4 wr.heap.size [.int .i64 a.pFar, .int .i64 a.pBonus] := hW4 ▸ bx3.alloc _
    have e0 := bx3.2 0 _ rfl
    have e1 := bx3.2 1 _ rfl
    have z4 := N4.size
    cases h2 : inB a.pBonus 0 600 with
    | false =>
      have HF : Hid (false = u) := Lib.hid (by rw [← HR.out]; exact (atT_no1 (fun g => by rw [inB_yes g.2] at h2; cases h2) HA.out).symm)
      have C2 := Lib.hid (withinOneW 0 600 a.pBonus _ false _ b4x h2)
      clear h1 h2
      go_wp2_with fail
      clear hW4 e0 e1
      refine C2.out.mono ?_
      rintro e w5 ⟨rfl, q5⟩
      subst q5
      go_wp2
      go_ret
      exact ⟨ret_bool HF.out, N4⟩
    | true =>
      have C2 := Lib.hid (withinOneW 0 600 a.pBonus _ true _ b4x h2)
      have HO := Lib.hid (show okRw a from ⟨inB_iff.1 h1, inB_iff.1 h2⟩)
      clear h1 h2
      go_wp2_with fail
      clear hW4 e0 e1
      refine C2.out.mono ?_
      rintro e w5 ⟨rfl, q5⟩
      subst q5
      clear C2 b4x
      have e0 := bx4.2 0 _ rfl
      have e1 := bx4.2 1 _ rfl
      have rd0 := cell_regrown e0
      have rd1 := cell_regrown e1
      have hord : (k = 0 ∧ True) ∨ (0 < k ∧ ∃ q, xs[k - 1]? = some q) := by
        by_cases h0 : k = 0
        · exact Or.inl ⟨h0, trivial⟩
        · exact Or.inr ⟨by omega, get_of_lt (by omega)⟩
      rename World => wo
      rcases hord with ⟨hz, -⟩ | ⟨hz, q, hq⟩
      case inl =>
        have g1 : ¬ (0 : Int) < (k : Int) := by omega
        have g2 : decide ((0 : Int) < (k : Int)) = false := decide_eq_false g1
        have g3 : ¬ 0 < k := by omega
        have g4 : decide (0 < k) = false := decide_eq_false g3
        have HU2 := Lib.hid (uptoTb_succ HU.out HA.out HO.out (Or.inl hz))
        clear hz
        go_wp2_with fail
        go_quiet (fail)
        have N5 := drewN_b N4 nq
        go_wp2
        go_roundw
        case rel => exact ⟨k + 1, by omega, by go_num, HU2, N5⟩
        case measure => simp [intOf]; omega
      case inr =>
        obtain ⟨b', off', e, -, hcq⟩ := HC.out (k - 1) q hq
        simp only [Option.some.injEq, Addr.mk.injEq, and_true] at e
        obtain ⟨rfl, rfl⟩ := e
        have q0 : wo.cell? ⟨b, off + (k - 1) * 2, none⟩ = some (.int .i64 q.pFar) := cellOf N4 (by omega) (hcq 0 _ rfl)
        have q1 : wo.cell? ⟨b, off + (k - 1) * 2 + 1, none⟩ = some (.int .i64 q.pBonus) := cellOf N4 (by omega) (hcq 1 _ rfl)
        have g1 : (0 : Int) < (k : Int) := by omega
        have g2 : decide ((0 : Int) < (k : Int)) = true := decide_eq_true g1
        have g4 : decide (0 < k) = true := decide_eq_true hz
        have g5 : (0 : Int) ≤ (k : Int) - 1 := by omega
        have g6 : (k : Int) - 1 < (xs.length : Int) := by omega
        have g7 : ((k : Int) - 1).toNat = k - 1 := by omega
        have HQ := Lib.hid hq
        clear hq hcq
        by_cases hf : q.pFar < a.pFar
        case neg =>
          have HF : Hid (false = u) := Lib.hid (by rw [← HR.out]; exact (atT_no2 HA.out HQ.out hz (fun g => hf g.1)).symm)
          have g8 : decide (a.pFar ≤ q.pFar) = true := decide_eq_true (by omega)
          have g9 : a.pFar ≤ q.pFar := by omega
          clear hf
          go_wp2_with fail
          go_quiet (fail)
          go_wp2
          go_ret
          exact ⟨ret_bool HF.out, drewN_b N4 _⟩
        have g8 : decide (a.pFar ≤ q.pFar) = false := decide_eq_false (by omega)
        have g9 : ¬ a.pFar ≤ q.pFar := by omega
        by_cases hbn : q.pBonus ≤ a.pBonus
        · have HU2 := Lib.hid (uptoTb_succ HU.out HA.out HO.out (Or.inr ⟨q, HQ.out, hf, hbn⟩))
          have f8 : decide (a.pBonus < q.pBonus) = false := decide_eq_false (by omega)
          have f9 : ¬ a.pBonus < q.pBonus := by omega
          clear hf hbn
          go_wp2_with fail
          go_quiet (fail)
          have N5 := drewN_b N4 nq
          go_wp2
          go_roundw
          case rel => exact ⟨k + 1, by omega, by go_num, HU2, N5⟩
          case measure => simp [intOf]; omega
        · have HF : Hid (false = u) := Lib.hid (by rw [← HR.out]; exact (atT_no2 HA.out HQ.out hz (fun g => hbn g.2)).symm)
          have f8 : decide (a.pBonus < q.pBonus) = true := decide_eq_true (by omega)
          have f9 : a.pBonus < q.pBonus := by omega
          clear hf hbn
          go_wp2_with fail
          go_quiet (fail)
          go_wp2
          go_ret
          exact ⟨ret_bool HF.out, drewN_b N4 _⟩
theorem implIsT (xs : List GTableRow) (v : Value) (w : World) (B : Nat) (h : TableRowL w B v xs) (hB : B ≤ w.heap.size) (hn : szsTableRow xs ≤ 1048576) (hw : ∀ s ∈ xs, wfTableRow s) :
    Calls Tryd.prog 21 #[v] w fun e w' => e = .returned (.bool (goodTb xs)) ∧ Below w.heap.size w w' := implGoodT xs v _ w B h hB (Nat.le_trans (szsTableRow_len xs) hn) rfl
end Go.Proofs.YtdiedfpfhbdamaaDoor
