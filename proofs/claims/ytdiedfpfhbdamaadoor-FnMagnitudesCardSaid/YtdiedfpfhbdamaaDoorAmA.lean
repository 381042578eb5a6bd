/- Amplitudes: the specification's tests. -/
import Derived.Test.YtdiedfpfhbdamaaDoorAmD
import Derived.Test.YtdiedfpfhbdamaaDoorFiA
import Derived.Test.YtdiedfpfhbdamaaDoorGrew
import Derived.BigQuiet
import Derived.IntWalk
import Derived.Lib.QuietBelow
namespace Go.Proofs.YtdiedfpfhbdamaaDoor
open Go.ChangeShapes Go.WideShapes Go.ChangeAt Go.RowKit Go.ChangeMaps Go.Sort
set_option linter.unusedSimpArgs false
set_option linter.unusedVariables false
set_option linter.unusedSimpArgs false
set_option linter.unusedVariables false

abbrev aggW (a : GSwing) : Value := .agg #[.int .i64 a.pStation, .int .i64 a.pFar, .int .i64 a.pWidth, .int .i64 a.pTerm]
abbrev objW (a : GSwing) : Obj := .cells #[.int .i64 a.pStation, .int .i64 a.pFar, .int .i64 a.pWidth, .int .i64 a.pTerm] 31
theorem below_cell {B : Nat} {w : World} (h : B ≤ w.heap.size) (o : Obj) : Below B w (w.alloc o) := (Below.refl _ _).alloc h o
theorem specFar (x : Int) (u : Bool) (w : World) (hu : inB x 0 1500 = u) :
    Calls Tryd.prog 38 #[.int .i64 x] w fun e w' => e = .returned (.bool u) ∧ w' = w := by
  have H := Lib.hid hu
  clear hu
  go_enter Tryd.func38, Tryd.ntmps38
  go_wp2_with fail
  refine (specIn _ _ _ u _ H.out).mono ?_
  rintro e w' ⟨rfl, rfl⟩
  go_wp2
  go_ret
  exact ⟨rfl, rfl⟩
theorem specWid (x : Int) (u : Bool) (w : World) (hu : inB x 1 1000000 = u) :
    Calls Tryd.prog 34 #[.int .i64 x] w fun e w' => e = .returned (.bool u) ∧ w' = w := by
  have H := Lib.hid hu
  clear hu
  go_enter Tryd.func34, Tryd.ntmps34
  go_wp2_with fail
  refine (specIn _ _ _ u _ H.out).mono ?_
  rintro e w' ⟨rfl, rfl⟩
  go_wp2
  go_ret
  exact ⟨rfl, rfl⟩
set_option maxHeartbeats 1000000 in
theorem specSw (a : GSwing) (u : Bool) (w : World) (hu : oneSw a = u) :
    Calls Tryd.prog 41 #[aggW a] w fun e w' => e = .returned (.bool u) ∧ Below w.heap.size w w' := by
  rw [oneSw_eq] at hu
  generalize h0 : inB a.pStation 1 99 = b0 at hu
  generalize h1 : inB a.pFar 0 1500 = b1 at hu
  generalize h2 : inB a.pWidth 1 1000000 = b2 at hu
  generalize h3 : inB a.pTerm (-50) 50 = b3 at hu
  have H0 := Lib.hid h0
  have H1 := Lib.hid h1
  have H2 := Lib.hid h2
  have H3 := Lib.hid h3
  have HU := Lib.hid hu
  clear hu h0 h1 h2 h3
  have N := Lib.hid (below_cell (w := w) (Nat.le_refl _) (objW a))
  go_enter Tryd.func41, Tryd.ntmps41
  go_wp2_with fail
  refine (specIn _ _ _ b0 _ H0.out).mono ?_
  rintro e w' ⟨rfl, rfl⟩
  cases b0
  case false =>
    have HF : Hid (false = u) := Lib.hid (by rw [← HU.out]; simp)
    go_wp2
    go_ret
    exact ⟨ret_bool HF.out, N.out⟩
  go_wp2_with fail
  refine (specFar _ b1 _ H1.out).mono ?_
  rintro e w' ⟨rfl, rfl⟩
  cases b1
  case false =>
    have HF : Hid (false = u) := Lib.hid (by rw [← HU.out]; simp)
    go_wp2
    go_ret
    exact ⟨ret_bool HF.out, N.out⟩
  go_wp2_with fail
  refine (specWid _ b2 _ H2.out).mono ?_
  rintro e w' ⟨rfl, rfl⟩
  cases b2
  case false =>
    have HF : Hid (false = u) := Lib.hid (by rw [← HU.out]; simp)
    go_wp2
    go_ret
    exact ⟨ret_bool HF.out, N.out⟩
  go_wp2_with fail
  refine (specIn _ _ _ b3 _ H3.out).mono ?_
  rintro e w' ⟨rfl, rfl⟩
  have HF : Hid (b3 = u) := Lib.hid (by rw [← HU.out]; simp)
  go_wp2
  go_ret
  exact ⟨ret_bool HF.out, N.out⟩
theorem atW_no1 {xs : List GSwing} {k : Nat} {a : GSwing} (h : oneSw a = false) (ha : xs[k]? = some a) : goodSw xs = false := goodSw_no fun g => by
  rw [oneSw_mk (g.1.1 k a (List.getElem?_eq_some_iff.1 ha).1 ha)] at h; cases h
theorem atW_no2 {xs : List GSwing} {k : Nat} {a p : GSwing} (ha : xs[k]? = some a) (hp : xs[k - 1]? = some p) (h0 : 0 < k) (h : a.pStation ≤ p.pStation) : goodSw xs = false := goodSw_no fun g => by
  have := g.1.2 (k - 1) p a (by have := (List.getElem?_eq_some_iff.1 ha).1; omega) hp (by rw [show k - 1 + 1 = k by omega]; exact ha)
  omega
theorem goodW_len {xs : List GSwing} (h : 10 < xs.length) : goodSw xs = false := goodSw_no fun g => by have := g.2; omega
theorem goodW_all {xs : List GSwing} (h : uptoSw xs xs.length) (hl : xs.length ≤ 10) : goodSw xs = true := goodSw_mk ⟨h, hl⟩
theorem atT_no1 {t : List GTableRow} {k : Nat} {a : GTableRow} (h : ¬ okRw a) (ha : t[k]? = some a) : goodTb t = false := goodTb_no fun g => h (g.1.1 k a (List.getElem?_eq_some_iff.1 ha).1 ha)
theorem atT_no2 {t : List GTableRow} {k : Nat} {a p : GTableRow} (ha : t[k]? = some a) (hp : t[k - 1]? = some p) (h0 : 0 < k) (h : ¬ (p.pFar < a.pFar ∧ p.pBonus ≤ a.pBonus)) : goodTb t = false := goodTb_no fun g => by
  exact h (g.1.2 (k - 1) p a (by have := (List.getElem?_eq_some_iff.1 ha).1; omega) hp (by rw [show k - 1 + 1 = k by omega]; exact ha))
theorem goodTb_len {t : List GTableRow} (h : inB t.length 2 8 = false) : goodTb t = false := goodTb_no fun g => by
  have := g.2
  rw [inB_yes (by omega)] at h; cases h
theorem goodTb_all {t : List GTableRow} (h : uptoTb t t.length) (hl : inB t.length 2 8 = true) : goodTb t = true := by
  have := inB_iff.1 hl
  exact goodTb_mk ⟨h, by omega, by omega⟩
theorem same_below {f : FuncId} {args : Array Value} {w : World} {e1 : Ending} (h : Calls Tryd.prog f args w fun e w' => e = e1 ∧ w' = w) : Calls Tryd.prog f args w fun e w' => e = e1 ∧ Below w.heap.size w w' := h.mono fun e w' hh => ⟨hh.1, hh.2 ▸ Below.refl _ _⟩
theorem specInS (x a b : Int) (v : Bool) (w : World) (hv : inB x a b = v) : Calls Tryd.prog 31 #[.int .i64 x, .int .i64 a, .int .i64 b] w fun e w' => e = .returned (.bool v) ∧ w' = w := (specIn x a b v w hv).mono fun e w' hh => ⟨hh.1, hh.2.symm⟩
set_option maxRecDepth 100000 in
set_option maxHeartbeats 4000000 in
theorem specTab (xs : List GTableRow) (v : Value) (u : Bool) (w : World) (B : Nat) (h : TableRowL w B v xs) (hB : B ≤ w.heap.size) (hn : xs.length ≤ 1048576) (hu : goodTb xs = u) :
    Calls Tryd.prog 37 #[v] w fun e w' => e = .returned (.bool u) ∧ Below w.heap.size w w' := by
  obtain ⟨ao, cap, rfl, hcap, hmax, -, hc⟩ := h
  unfold maxLen at hmax
  have HR := Lib.hid hu
  have HC := Lib.hid hc
  have CL := Lib.hid (fun W => specIn (xs.length : Int) 2 8 (inB xs.length 2 8) W rfl)
  clear hc hu
  go_enter Tryd.func37, Tryd.ntmps37
  go_wp2
  go_loopw [3] (fun i wr => ∃ k : Nat, k ≤ xs.length ∧ i = .int .i64 k ∧ Hid (uptoTb xs k) ∧ Below w.heap.size w wr) (fun i _ => xs.length - (intOf i).toNat)
  case atStart => exact ⟨0, Nat.zero_le _, rfl, Lib.hid (uptoTb_zero xs), Below.refl _ _⟩
  case round =>
    obtain ⟨k, hk, rfl, HU, hbl⟩ := hrel
    have hsz := hbl.size
    by_cases hlt : k < xs.length
    case neg =>
      obtain rfl : k = xs.length := by omega
      have HF : Hid (inB xs.length 2 8 = u) := Lib.hid (by
        rw [← HR.out]
        cases e : inB xs.length 2 8 with
        | false => exact (goodTb_len e).symm
        | true => exact (goodTb_all HU.out e).symm)
      generalize inB xs.length 2 8 = lb at *
      go_wp2_with fail
      refine (CL.out _).mono ?_
      rintro e w1 ⟨rfl, rfl⟩
      go_wp2
      go_ret
      exact ⟨ret_bool HF.out, hbl⟩
    have hk0 : (0 : Int) ≤ (k : Int) := by omega
    have hk1 : (k : Int) < (xs.length : Int) := by omega
    have hk2 : (k : Int) ≤ 1048576 := by omega
    obtain ⟨a, ha⟩ := get_of_lt hlt
    obtain ⟨b, off, rfl, hb, hcell⟩ := HC.out k a ha
    have c0 : wr.cell? ⟨b, off + k * 2, none⟩ = some (.int .i64 a.pFar) := cellOf hbl (by omega) (hcell 0 _ rfl)
    have c1 : wr.cell? ⟨b, off + k * 2 + 1, none⟩ = some (.int .i64 a.pBonus) := cellOf hbl (by omega) (hcell 1 _ rfl)
    have HA := Lib.hid ha
    clear ha hcell CL
    have rd0 := cell_regrown c0
    have rd1 := cell_regrown c1
    clear c0 c1
    cases h1 : inB a.pFar 0 1500 with
    | false =>
      have HF : Hid (false = u) := Lib.hid (by rw [← HR.out]; exact (atT_no1 (fun g => by rw [inB_yes g.1] at h1; cases h1) HA.out).symm)
      have cf := fun d os => Calls.regrown_of (w := wr) (d := d) (os := os) (same_below (specFar a.pFar false _ h1))
      clear h1
      go_wp2_with fail
      refine wp_region_quiet_below (by kernel_rfl) (by kernel_rfl) ?_
      repeat (go_big_quiet_step (first | with_reducible exact cf _ _))
      refine wpQuiet_nil ?_
      intro _ hw'
      obtain ⟨⟨dq, osq⟩, hw''⟩ := hw'
      subst hw''
      have hb4 := below_regrown (wr) dq osq
      generalize grow (redrawn (wr) dq) osq = w4 at *
      go_wp2
      go_ret
      exact ⟨ret_bool HF.out, hbl.trans (hb4.mono hsz)⟩
    | true =>
    have cf := fun d os => Calls.regrown_of (w := wr) (d := d) (os := os) (same_below (specFar a.pFar true _ h1))
    cases h2 : inB a.pBonus 0 600 with
    | false =>
      have HF : Hid (false = u) := Lib.hid (by rw [← HR.out]; exact (atT_no1 (fun g => by rw [inB_yes g.2] at h2; cases h2) HA.out).symm)
      have cb := fun d os => Calls.regrown_of (w := wr) (d := d) (os := os) (same_below (specInS a.pBonus 0 600 false _ h2))
      clear h1 h2
      go_wp2_with fail
      refine wp_region_quiet_below (by kernel_rfl) (by kernel_rfl) ?_
      repeat (go_big_quiet_step (first | with_reducible exact cf _ _ | with_reducible exact cb _ _))
      refine wpQuiet_nil ?_
      intro _ hw'
      obtain ⟨⟨dq, osq⟩, hw''⟩ := hw'
      subst hw''
      have hb4 := below_regrown (wr) dq osq
      generalize grow (redrawn (wr) dq) osq = w4 at *
      go_wp2
      go_ret
      exact ⟨ret_bool HF.out, hbl.trans (hb4.mono hsz)⟩
    | true =>
      have HO := Lib.hid (show okRw a from ⟨inB_iff.1 h1, inB_iff.1 h2⟩)
      have cb := fun d os => Calls.regrown_of (w := wr) (d := d) (os := os) (same_below (specInS a.pBonus 0 600 true _ h2))
      clear h1 h2
      have hord : (k = 0 ∧ True) ∨ (0 < k ∧ ∃ q, xs[k - 1]? = some q) := by
        by_cases h0 : k = 0
        · exact Or.inl ⟨h0, trivial⟩
        · exact Or.inr ⟨by omega, get_of_lt (by omega)⟩
      rcases hord with ⟨hz, -⟩ | ⟨hz, q, hq⟩
      case inl =>
        have g1 : ¬ (0 : Int) < (k : Int) := by omega
        have g2 : decide ((0 : Int) < (k : Int)) = false := decide_eq_false g1
        have g3 : ¬ 0 < k := by omega
        have g4 : decide (0 < k) = false := decide_eq_false g3
        have HU2 := Lib.hid (uptoTb_succ HU.out HA.out HO.out (Or.inl hz))
        clear hz
        go_wp2_with fail
        refine wp_region_quiet_below (by kernel_rfl) (by kernel_rfl) ?_
        repeat (go_big_quiet_step (first | with_reducible exact cf _ _ | with_reducible exact cb _ _))
        refine wpQuiet_nil ?_
        intro _ hw'
        obtain ⟨⟨dq, osq⟩, hw''⟩ := hw'
        subst hw''
        have hb4 := below_regrown (wr) dq osq
        generalize grow (redrawn (wr) dq) osq = w4 at *
        go_wp2
        go_roundw
        case rel => exact ⟨k + 1, by omega, by go_num, HU2, hbl.trans (hb4.mono hsz)⟩
        case measure => simp [intOf]; omega
      case inr =>
        obtain ⟨b', off', e, -, hcq⟩ := HC.out (k - 1) q hq
        simp only [Option.some.injEq, Addr.mk.injEq, and_true] at e
        obtain ⟨rfl, rfl⟩ := e
        have q0 : wr.cell? ⟨b, off + (k - 1) * 2, none⟩ = some (.int .i64 q.pFar) := cellOf hbl (by omega) (hcq 0 _ rfl)
        have q1 : wr.cell? ⟨b, off + (k - 1) * 2 + 1, none⟩ = some (.int .i64 q.pBonus) := cellOf hbl (by omega) (hcq 1 _ rfl)
        have rq0 := cell_regrown q0
        have rq1 := cell_regrown q1
        have g1 : (0 : Int) < (k : Int) := by omega
        have g2 : decide ((0 : Int) < (k : Int)) = true := decide_eq_true g1
        have g4 : decide (0 < k) = true := decide_eq_true hz
        have g5 : (0 : Int) ≤ (k : Int) - 1 := by omega
        have g6 : (k : Int) - 1 < (xs.length : Int) := by omega
        have g7 : ((k : Int) - 1).toNat = k - 1 := by omega
        have HQ := Lib.hid hq
        clear hq q0 q1 hcq
        by_cases hf : q.pFar < a.pFar
        case neg =>
          have HF : Hid (false = u) := Lib.hid (by rw [← HR.out]; exact (atT_no2 HA.out HQ.out hz (fun g => hf g.1)).symm)
          have g8 : decide (a.pFar ≤ q.pFar) = true := decide_eq_true (by omega)
          have g9 : a.pFar ≤ q.pFar := by omega
          clear hf
          go_wp2_with fail
          refine wp_region_quiet_below (by kernel_rfl) (by kernel_rfl) ?_
          repeat (go_big_quiet_step (first | with_reducible exact cf _ _ | with_reducible exact cb _ _))
          refine wpQuiet_nil ?_
          intro _ hw'
          obtain ⟨⟨dq, osq⟩, hw''⟩ := hw'
          subst hw''
          have hb4 := below_regrown (wr) dq osq
          generalize grow (redrawn (wr) dq) osq = w4 at *
          go_wp2
          go_ret
          exact ⟨ret_bool HF.out, hbl.trans (hb4.mono hsz)⟩
        have g8 : decide (a.pFar ≤ q.pFar) = false := decide_eq_false (by omega)
        have g9 : ¬ a.pFar ≤ q.pFar := by omega
        by_cases hbn : q.pBonus ≤ a.pBonus
        · have HU2 := Lib.hid (uptoTb_succ HU.out HA.out HO.out (Or.inr ⟨q, HQ.out, hf, hbn⟩))
          have f8 : decide (a.pBonus < q.pBonus) = false := decide_eq_false (by omega)
          have f9 : ¬ a.pBonus < q.pBonus := by omega
          clear hf hbn
          go_wp2_with fail
          refine wp_region_quiet_below (by kernel_rfl) (by kernel_rfl) ?_
          repeat (go_big_quiet_step (first | with_reducible exact cf _ _ | with_reducible exact cb _ _))
          refine wpQuiet_nil ?_
          intro _ hw'
          obtain ⟨⟨dq, osq⟩, hw''⟩ := hw'
          subst hw''
          have hb4 := below_regrown (wr) dq osq
          generalize grow (redrawn (wr) dq) osq = w4 at *
          go_wp2
          go_roundw
          case rel => exact ⟨k + 1, by omega, by go_num, HU2, hbl.trans (hb4.mono hsz)⟩
          case measure => simp [intOf]; omega
        · have HF : Hid (false = u) := Lib.hid (by rw [← HR.out]; exact (atT_no2 HA.out HQ.out hz (fun g => hbn g.2)).symm)
          have f8 : decide (a.pBonus < q.pBonus) = true := decide_eq_true (by omega)
          have f9 : a.pBonus < q.pBonus := by omega
          clear hf hbn
          go_wp2_with fail
          refine wp_region_quiet_below (by kernel_rfl) (by kernel_rfl) ?_
          repeat (go_big_quiet_step (first | with_reducible exact cf _ _ | with_reducible exact cb _ _))
          refine wpQuiet_nil ?_
          intro _ hw'
          obtain ⟨⟨dq, osq⟩, hw''⟩ := hw'
          subst hw''
          have hb4 := below_regrown (wr) dq osq
          generalize grow (redrawn (wr) dq) osq = w4 at *
          go_wp2
          go_ret
          exact ⟨ret_bool HF.out, hbl.trans (hb4.mono hsz)⟩
end Go.Proofs.YtdiedfpfhbdamaaDoor
