/- Votes: the program's test of a list. -/
import Derived.Test.YtoogofceoinniabVpA
namespace Go.Proofs.Ytoogofceoinniab
open Go.ChangeShapes Go.WideShapes Go.ChangeAt Go.RowKit Go.ChangeMaps Go.Sort
set_option linter.unusedSimpArgs false
set_option linter.unusedVariables false
set_option linter.unusedSimpArgs false
set_option linter.unusedVariables false

set_option maxRecDepth 100000 in
set_option maxHeartbeats 4000000 in
theorem implGoodA (xs : List GArrival) (v : Value) (u : Bool) (w : World) (B : Nat) (h : ArrivalL w B v xs) (hB : B ≤ w.heap.size) (hn : xs.length ≤ 1048576) (hu : goodAr xs = u) :
    Calls Try.prog 50 #[v] w fun e w' => e = .returned (.bool u) ∧ Below w.heap.size w w' := by
  obtain ⟨ao, cap, rfl, hcap, hmax, -, hc⟩ := h
  unfold maxLen at hmax
  have HR := Lib.hid hu
  have HC := Lib.hid hc
  clear hc hu
  by_cases hl : xs.length ≤ 8
  case neg =>
    have HF : Hid (false = u) := Lib.hid (by rw [← HR.out]; exact (goodA_len (by omega)).symm)
    have hl2 : (8 : Int) < (xs.length : Int) := by omega
    go_enter Try.func50, Try.ntmps50
    go_wp2
    go_ret
    exact ⟨ret_bool HF.out, Below.refl _ _⟩
  have hl2 : ¬ (8 : Int) < (xs.length : Int) := by omega
  go_enter Try.func50, Try.ntmps50
  go_wp2
  go_loopw [10] (fun i wr => ∃ k : Nat, k ≤ xs.length ∧ i = .int .i64 k ∧ Hid (uptoAr xs k) ∧ Below w.heap.size w wr) (fun i _ => xs.length - (intOf i).toNat)
  case atStart => exact ⟨0, Nat.zero_le _, rfl, Lib.hid (uptoAr_zero xs), Below.refl _ _⟩
  case round =>
    obtain ⟨k, hk, rfl, HU, hbl⟩ := hrel
    have hsz := hbl.size
    by_cases hlt : k < xs.length
    case neg =>
      obtain rfl : k = xs.length := by omega
      have HF : Hid (true = u) := Lib.hid (by rw [← HR.out]; exact (goodA_all HU.out hl).symm)
      go_wp2
      go_ret
      exact ⟨ret_bool HF.out, hbl⟩
    have hk0 : (0 : Int) ≤ (k : Int) := by omega
    have hk1 : (k : Int) < (xs.length : Int) := by omega
    have hk2 : (k : Int) ≤ 8 := by omega
    obtain ⟨a, ha⟩ := get_of_lt hlt
    obtain ⟨b, off, rfl, hb, hcell⟩ := HC.out k a ha
    have c0 : wr.cell? ⟨b, off + k * 5, none⟩ = some (.int .i64 a.pId) := cellOf hbl (by omega) (hcell 0 _ rfl)
    have c1 : wr.cell? ⟨b, off + k * 5 + 1, none⟩ = some (.int .i64 a.pX) := cellOf hbl (by omega) (hcell 1 _ rfl)
    have c2 : wr.cell? ⟨b, off + k * 5 + 2, none⟩ = some (.int .i64 a.pY) := cellOf hbl (by omega) (hcell 2 _ rfl)
    have c3 : wr.cell? ⟨b, off + k * 5 + 3, none⟩ = some (.int .i64 a.pTick) := cellOf hbl (by omega) (hcell 3 _ rfl)
    have c4 : wr.cell? ⟨b, off + k * 5 + 4, none⟩ = some (.int .i64 a.pError) := cellOf hbl (by omega) (hcell 4 _ rfl)
    have HA := Lib.hid ha
    clear ha hcell
    obtain ⟨W1, hW1⟩ : ∃ W1, wr.alloc (.cells #[.int .i64 a.pId, .int .i64 a.pX, .int .i64 a.pY, .int .i64 a.pTick, .int .i64 a.pError] 28) = W1 := ⟨_, rfl⟩
    have A1 : Below wr.heap.size wr W1 := hW1 ▸ (Below.refl _ _).alloc (Nat.le_refl _) _
    have bx : Bx W1 wr.heap.size [.int .i64 a.pId, .int .i64 a.pX, .int .i64 a.pY, .int .i64 a.pTick, .int .i64 a.pError] := hW1 ▸ Bx.new wr [.int .i64 a.pId, .int .i64 a.pX, .int .i64 a.pY, .int .i64 a.pTick, .int .i64 a.pError] 28
    have N1 := hbl.trans (A1.mono hsz)
    have z1 := N1.size
    have e0 := bx.2 0 _ rfl
    have rd0 := cell_regrown e0
    have e1 := bx.2 1 _ rfl
    have rd1 := cell_regrown e1
    have e2 := bx.2 2 _ rfl
    have rd2 := cell_regrown e2
    have e3 := bx.2 3 _ rfl
    have rd3 := cell_regrown e3
    have e4 := bx.2 4 _ rfl
    have rd4 := cell_regrown e4
    cases h1 : oneAr a with
    | false =>
      have HF : Hid (false = u) := Lib.hid (by rw [← HR.out]; exact (atA_no1 h1 HA.out).symm)
      have C1 := Lib.hid (fun W => implOneA a false W h1)
      clear h1
      have cs := fun d os => Calls.regrown_of (w := W1) (d := d) (os := os) (C1.out _)
      go_wp2
      clear hW1
      refine wp_region_quiet_below (by kernel_rfl) (by kernel_rfl) ?_
      repeat (go_big_quiet_step (first | with_reducible exact cs _ _))
      refine wpQuiet_nil ?_
      intro _ hw'
      obtain ⟨⟨dq, osq⟩, hw''⟩ := hw'
      subst hw''
      have hb4 := below_regrown (W1) dq osq
      generalize grow (redrawn (W1) dq) osq = w4 at *
      go_wp2
      go_ret
      exact ⟨ret_bool HF.out, N1.trans (hb4.mono z1)⟩
    | true =>
      have HO := Lib.hid (oneAr_yes h1)
      have C1 := Lib.hid (fun W => implOneA a true W h1)
      clear h1
      have hord : (k = 0 ∧ True) ∨ (0 < k ∧ ∃ q, xs[k - 1]? = some q) := by
        by_cases h0 : k = 0
        · exact Or.inl ⟨h0, trivial⟩
        · exact Or.inr ⟨by omega, get_of_lt (by omega)⟩
      have cs := fun d os => Calls.regrown_of (w := W1) (d := d) (os := os) (C1.out _)
      rcases hord with ⟨hz, -⟩ | ⟨hz, q, hq⟩
      case inl =>
        have g1 : ¬ (0 : Int) < (k : Int) := by omega
        have g2 : decide ((0 : Int) < (k : Int)) = false := decide_eq_false g1
        have g3 : ¬ 0 < k := by omega
        have g4 : decide (0 < k) = false := decide_eq_false g3
        have HU2 := Lib.hid (uptoAr_succ HU.out HA.out HO.out (Or.inl hz))
        clear hz
        go_wp2
        clear hW1
        refine wp_region_quiet_below (by kernel_rfl) (by kernel_rfl) ?_
        repeat (go_big_quiet_step (first | with_reducible exact cs _ _))
        refine wpQuiet_nil ?_
        intro _ hw'
        obtain ⟨⟨dq, osq⟩, hw''⟩ := hw'
        subst hw''
        have hb4 := below_regrown (W1) dq osq
        generalize grow (redrawn (W1) dq) osq = w4 at *
        go_wp2
        go_roundw
        case rel => exact ⟨k + 1, by omega, by go_num, HU2, N1.trans (hb4.mono z1)⟩
        case measure => simp [intOf]; omega
      case inr =>
        obtain ⟨b', off', e, -, hcq⟩ := HC.out (k - 1) q hq
        simp only [Option.some.injEq, Addr.mk.injEq, and_true] at e
        obtain ⟨rfl, rfl⟩ := e
        have q0 : W1.cell? ⟨b, off + (k - 1) * 5, none⟩ = some (.int .i64 q.pId) := cellOf N1 (by omega) (hcq 0 _ rfl)
        have rq0 := cell_regrown q0
        have g1 : (0 : Int) < (k : Int) := by omega
        have g2 : decide ((0 : Int) < (k : Int)) = true := decide_eq_true g1
        have g4 : decide (0 < k) = true := decide_eq_true hz
        have g5 : (0 : Int) ≤ (k : Int) - 1 := by omega
        have g6 : (k : Int) - 1 < (xs.length : Int) := by omega
        have g7 : ((k : Int) - 1).toNat = k - 1 := by omega
        have HQ := Lib.hid hq
        clear hq q0 hcq
        by_cases hlt2 : q.pId < a.pId
        · have HU2 := Lib.hid (uptoAr_succ HU.out HA.out HO.out (Or.inr ⟨q, HQ.out, hlt2⟩))
          have g8 : decide (a.pId ≤ q.pId) = false := decide_eq_false (by omega)
          have g9 : ¬ a.pId ≤ q.pId := by omega
          clear hlt2
          go_wp2
          clear hW1
          refine wp_region_quiet_below (by kernel_rfl) (by kernel_rfl) ?_
          repeat (go_big_quiet_step (first | with_reducible exact cs _ _))
          refine wpQuiet_nil ?_
          intro _ hw'
          obtain ⟨⟨dq, osq⟩, hw''⟩ := hw'
          subst hw''
          have hb4 := below_regrown (W1) dq osq
          generalize grow (redrawn (W1) dq) osq = w4 at *
          go_wp2
          go_roundw
          case rel => exact ⟨k + 1, by omega, by go_num, HU2, N1.trans (hb4.mono z1)⟩
          case measure => simp [intOf]; omega
        · have HF : Hid (false = u) := Lib.hid (by rw [← HR.out]; exact (atA_no2 HA.out HQ.out hz (by omega)).symm)
          have g8 : decide (a.pId ≤ q.pId) = true := decide_eq_true (by omega)
          have g9 : a.pId ≤ q.pId := by omega
          clear hlt2
          go_wp2
          clear hW1
          refine wp_region_quiet_below (by kernel_rfl) (by kernel_rfl) ?_
          repeat (go_big_quiet_step (first | with_reducible exact cs _ _))
          refine wpQuiet_nil ?_
          intro _ hw'
          obtain ⟨⟨dq, osq⟩, hw''⟩ := hw'
          subst hw''
          have hb4 := below_regrown (W1) dq osq
          generalize grow (redrawn (W1) dq) osq = w4 at *
          go_wp2
          go_ret
          exact ⟨ret_bool HF.out, N1.trans (hb4.mono z1)⟩
theorem implAreA (xs : List GArrival) (v : Value) (w : World) (B : Nat) (h : ArrivalL w B v xs) (hB : B ≤ w.heap.size) (hn : szsArrival xs ≤ 1048576) (hw : ∀ s ∈ xs, wfArrival s) :
    Calls Try.prog 50 #[v] w fun e w' => e = .returned (.bool (goodAr xs)) ∧ Below w.heap.size w w' := implGoodA xs v _ w B h hB (Nat.le_trans (szsArrival_len xs) hn) rfl
end Go.Proofs.Ytoogofceoinniab
