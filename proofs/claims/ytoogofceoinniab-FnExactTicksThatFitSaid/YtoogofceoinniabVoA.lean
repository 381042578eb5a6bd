/- Votes: the specification's tests and small functions. -/
import Derived.Test.YtoogofceoinniabVoM
import Derived.Test.YtoogofceoinniabStaW
import Derived.Test.YtoogofceoinniabFiA
import Derived.Test.YtoogofceoinniabGrew
import Derived.BigQuiet
import Derived.IntWalk
import Derived.Lib.QuietBelow
namespace Go.Proofs.Ytoogofceoinniab
open Go.ChangeShapes Go.WideShapes Go.ChangeAt Go.RowKit Go.ChangeMaps Go.Sort
set_option linter.unusedSimpArgs false
set_option linter.unusedVariables false
set_option linter.unusedSimpArgs false
set_option linter.unusedVariables false

abbrev aggA (a : GArrival) : Value := .agg #[.int .i64 a.pId, .int .i64 a.pX, .int .i64 a.pY, .int .i64 a.pTick, .int .i64 a.pError]
abbrev aggO (o : GOrigin) : Value := .agg #[.int .i64 o.pX, .int .i64 o.pY, .int .i64 o.pTick]
abbrev objA (a : GArrival) : Obj := .cells #[.int .i64 a.pId, .int .i64 a.pX, .int .i64 a.pY, .int .i64 a.pTick, .int .i64 a.pError] 28
abbrev objO (o : GOrigin) : Obj := .cells #[.int .i64 o.pX, .int .i64 o.pY, .int .i64 o.pTick] 30
theorem inB_iff {x a b : Int} : inB x a b = true ↔ a ≤ x ∧ x ≤ b := by unfold inB; exact decide_eq_true_iff
theorem oneAr_eq (a : GArrival) : oneAr a = (inB a.pId 1 99 && (plcB a.pX a.pY && (inB a.pTick 0 1000000 && inB a.pError 0 1000))) := by
  unfold oneAr plcB
  rw [Bool.eq_iff_iff]
  simp only [Bool.and_eq_true, decide_eq_true_eq, inB_iff]
theorem goodOr_eq (o : GOrigin) : goodOr o = (plcB o.pX o.pY && inB o.pTick 0 1000000) := by
  unfold goodOr plcB
  rw [Bool.eq_iff_iff]
  simp only [Bool.and_eq_true, decide_eq_true_eq, inB_iff]
theorem below_cell {B : Nat} {w : World} (h : B ≤ w.heap.size) (o : Obj) : Below B w (w.alloc o) := (Below.refl _ _).alloc h o
set_option maxHeartbeats 1000000 in
theorem specOneA (a : GArrival) (u : Bool) (w : World) (hu : oneAr a = u) :
    Calls Try.prog 57 #[aggA a] w fun e w' => e = .returned (.bool u) ∧ Below w.heap.size w w' := by
  rw [oneAr_eq] at hu
  generalize h0 : inB a.pId 1 99 = b0 at hu
  generalize h1 : plcB a.pX a.pY = b1 at hu
  generalize h2 : inB a.pTick 0 1000000 = b2 at hu
  generalize h3 : inB a.pError 0 1000 = b3 at hu
  have H0 := Lib.hid h0
  have H1 := Lib.hid h1
  have H2 := Lib.hid h2
  have H3 := Lib.hid h3
  have HU := Lib.hid hu
  clear hu h0 h1 h2 h3
  have N := Lib.hid (below_cell (w := w) (Nat.le_refl _) (objA a))
  go_enter Try.func57, Try.ntmps57
  go_wp2_with fail
  refine (specIn _ _ _ b0 _ H0.out).mono ?_
  rintro e w' ⟨rfl, rfl⟩
  cases b0
  case false =>
    have HF : Hid (false = u) := Lib.hid (by rw [← HU.out]; simp)
    go_wp2
    go_ret
    exact ⟨ret_bool HF.out, N.out⟩
  go_wp2_with fail
  refine (specPlace _ _ b1 _ H1.out).mono ?_
  rintro e w' ⟨rfl, rfl⟩
  cases b1
  case false =>
    have HF : Hid (false = u) := Lib.hid (by rw [← HU.out]; simp)
    go_wp2
    go_ret
    exact ⟨ret_bool HF.out, N.out⟩
  go_wp2_with fail
  refine (specTick _ b2 _ H2.out).mono ?_
  rintro e w' ⟨rfl, rfl⟩
  cases b2
  case false =>
    have HF : Hid (false = u) := Lib.hid (by rw [← HU.out]; simp)
    go_wp2
    go_ret
    exact ⟨ret_bool HF.out, N.out⟩
  go_wp2_with fail
  refine (specIn _ _ _ b3 _ H3.out).mono ?_
  rintro e w' ⟨rfl, rfl⟩
  have HF : Hid (b3 = u) := Lib.hid (by rw [← HU.out]; simp)
  go_wp2
  go_ret
  exact ⟨ret_bool HF.out, N.out⟩
set_option maxHeartbeats 1000000 in
theorem specOrG (o : GOrigin) (u : Bool) (w : World) (hu : goodOr o = u) :
    Calls Try.prog 58 #[aggO o] w fun e w' => e = .returned (.bool u) ∧ Below w.heap.size w w' := by
  rw [goodOr_eq] at hu
  generalize h0 : plcB o.pX o.pY = b0 at hu
  generalize h1 : inB o.pTick 0 1000000 = b1 at hu
  have H0 := Lib.hid h0
  have H1 := Lib.hid h1
  have HU := Lib.hid hu
  clear hu h0 h1
  have N := Lib.hid (below_cell (w := w) (Nat.le_refl _) (objO o))
  go_enter Try.func58, Try.ntmps58
  go_wp2_with fail
  refine (specPlace _ _ b0 _ H0.out).mono ?_
  rintro e w' ⟨rfl, rfl⟩
  cases b0
  case false =>
    have HF : Hid (false = u) := Lib.hid (by rw [← HU.out]; simp)
    go_wp2
    go_ret
    exact ⟨ret_bool HF.out, N.out⟩
  go_wp2_with fail
  refine (specTick _ b1 _ H1.out).mono ?_
  rintro e w' ⟨rfl, rfl⟩
  have HF : Hid (b1 = u) := Lib.hid (by rw [← HU.out]; simp)
  go_wp2
  go_ret
  exact ⟨ret_bool HF.out, N.out⟩

theorem atA_no1 {xs : List GArrival} {k : Nat} {a : GArrival} (h : oneAr a = false) (ha : xs[k]? = some a) : goodAr xs = false := goodAr_no fun g => by
  rw [oneAr_mk (g.1.1 k a (List.getElem?_eq_some_iff.1 ha).1 ha)] at h; cases h
theorem atA_no2 {xs : List GArrival} {k : Nat} {a p : GArrival} (ha : xs[k]? = some a) (hp : xs[k - 1]? = some p) (h0 : 0 < k) (h : a.pId ≤ p.pId) : goodAr xs = false := goodAr_no fun g => by
  have := g.1.2 (k - 1) p a (by have := (List.getElem?_eq_some_iff.1 ha).1; omega) hp (by rw [show k - 1 + 1 = k by omega]; exact ha)
  omega
theorem goodA_len {xs : List GArrival} (h : 8 < xs.length) : goodAr xs = false := goodAr_no fun g => by have := g.2; omega
theorem goodA_all {xs : List GArrival} (h : uptoAr xs xs.length) (hl : xs.length ≤ 8) : goodAr xs = true := goodAr_mk ⟨h, hl⟩
set_option maxRecDepth 100000 in
set_option maxHeartbeats 4000000 in
theorem specGoodA (xs : List GArrival) (v : Value) (u : Bool) (w : World) (B : Nat) (h : ArrivalL w B v xs) (hB : B ≤ w.heap.size) (hn : xs.length ≤ 1048576) (hu : goodAr xs = u) :
    Calls Try.prog 71 #[v] w fun e w' => e = .returned (.bool u) ∧ Below w.heap.size w w' := by
  obtain ⟨ao, cap, rfl, hcap, hmax, -, hc⟩ := h
  unfold maxLen at hmax
  have HR := Lib.hid hu
  have HC := Lib.hid hc
  clear hc hu
  go_enter Try.func71, Try.ntmps71
  go_wp2
  go_loopw [3] (fun i wr => ∃ k : Nat, k ≤ xs.length ∧ i = .int .i64 k ∧ Hid (uptoAr xs k) ∧ Below w.heap.size w wr) (fun i _ => xs.length - (intOf i).toNat)
  case atStart => exact ⟨0, Nat.zero_le _, rfl, Lib.hid (uptoAr_zero xs), Below.refl _ _⟩
  case round =>
    obtain ⟨k, hk, rfl, HU, hbl⟩ := hrel
    have hsz := hbl.size
    by_cases hlt : k < xs.length
    case neg =>
      obtain rfl : k = xs.length := by omega
      by_cases hl : xs.length ≤ 8
      · have HF : Hid (true = u) := Lib.hid (by rw [← HR.out]; exact (goodA_all HU.out hl).symm)
        have hl2 : (xs.length : Int) ≤ 8 := by omega
        go_wp2
        go_ret
        exact ⟨ret_bool HF.out, hbl⟩
      · have HF : Hid (false = u) := Lib.hid (by rw [← HR.out]; exact (goodA_len (by omega)).symm)
        have hl2 : ¬ (xs.length : Int) ≤ 8 := by omega
        go_wp2
        go_ret
        exact ⟨ret_bool HF.out, hbl⟩
    have hk0 : (0 : Int) ≤ (k : Int) := by omega
    have hk1 : (k : Int) < (xs.length : Int) := by omega
    have hk2 : (k : Int) ≤ 1048576 := by omega
    obtain ⟨a, ha⟩ := get_of_lt hlt
    obtain ⟨b, off, rfl, hb, hcell⟩ := HC.out k a ha
    have c0 : wr.cell? ⟨b, off + k * 5, none⟩ = some (.int .i64 a.pId) := cellOf hbl (by omega) (hcell 0 _ rfl)
    have c1 : wr.cell? ⟨b, off + k * 5 + 1, none⟩ = some (.int .i64 a.pX) := cellOf hbl (by omega) (hcell 1 _ rfl)
    have c2 : wr.cell? ⟨b, off + k * 5 + 2, none⟩ = some (.int .i64 a.pY) := cellOf hbl (by omega) (hcell 2 _ rfl)
    have c3 : wr.cell? ⟨b, off + k * 5 + 3, none⟩ = some (.int .i64 a.pTick) := cellOf hbl (by omega) (hcell 3 _ rfl)
    have c4 : wr.cell? ⟨b, off + k * 5 + 4, none⟩ = some (.int .i64 a.pError) := cellOf hbl (by omega) (hcell 4 _ rfl)
    have HA := Lib.hid ha
    clear ha hcell
    cases h1 : oneAr a with
    | false =>
      have HF : Hid (false = u) := Lib.hid (by rw [← HR.out]; exact (atA_no1 h1 HA.out).symm)
      have C1 := Lib.hid (fun W => specOneA a false W h1)
      clear h1
      have cs := fun d os => Calls.regrown_of (w := wr) (d := d) (os := os) (C1.out _)
      have rd0 := cell_regrown c0
      have rd1 := cell_regrown c1
      have rd2 := cell_regrown c2
      have rd3 := cell_regrown c3
      have rd4 := cell_regrown c4
      clear c0 c1 c2 c3 c4
      go_wp2_with fail
      refine wp_region_quiet_below (by kernel_rfl) (by kernel_rfl) ?_
      repeat (go_big_quiet_step (first | with_reducible exact cs _ _))
      refine wpQuiet_nil ?_
      intro _ hw'
      obtain ⟨⟨dq, osq⟩, hw''⟩ := hw'
      subst hw''
      have hb4 := below_regrown (wr) dq osq
      generalize grow (redrawn (wr) dq) osq = w4 at *
      go_wp2
      go_ret
      exact ⟨ret_bool HF.out, hbl.trans (hb4.mono hsz)⟩
    | true =>
      have HO := Lib.hid (oneAr_yes h1)
      have C1 := Lib.hid (fun W => specOneA a true W h1)
      clear h1
      have hord : (k = 0 ∧ True) ∨ (0 < k ∧ ∃ q, xs[k - 1]? = some q) := by
        by_cases h0 : k = 0
        · exact Or.inl ⟨h0, trivial⟩
        · exact Or.inr ⟨by omega, get_of_lt (by omega)⟩
      have cs := fun d os => Calls.regrown_of (w := wr) (d := d) (os := os) (C1.out _)
      have rd0 := cell_regrown c0
      have rd1 := cell_regrown c1
      have rd2 := cell_regrown c2
      have rd3 := cell_regrown c3
      have rd4 := cell_regrown c4
      clear c0 c1 c2 c3 c4
      rcases hord with ⟨hz, -⟩ | ⟨hz, q, hq⟩
      case inl =>
        have g1 : ¬ (0 : Int) < (k : Int) := by omega
        have g2 : decide ((0 : Int) < (k : Int)) = false := decide_eq_false g1
        have g3 : ¬ 0 < k := by omega
        have g4 : decide (0 < k) = false := decide_eq_false g3
        have HU2 := Lib.hid (uptoAr_succ HU.out HA.out HO.out (Or.inl hz))
        clear hz
        go_wp2_with fail
        refine wp_region_quiet_below (by kernel_rfl) (by kernel_rfl) ?_
        repeat (go_big_quiet_step (first | with_reducible exact cs _ _))
        refine wpQuiet_nil ?_
        intro _ hw'
        obtain ⟨⟨dq, osq⟩, hw''⟩ := hw'
        subst hw''
        have hb4 := below_regrown (wr) dq osq
        generalize grow (redrawn (wr) dq) osq = w4 at *
        go_wp2
        go_roundw
        case rel => exact ⟨k + 1, by omega, by go_num, HU2, hbl.trans (hb4.mono hsz)⟩
        case measure => simp [intOf]; omega
      case inr =>
        obtain ⟨b', off', e, -, hcq⟩ := HC.out (k - 1) q hq
        simp only [Option.some.injEq, Addr.mk.injEq, and_true] at e
        obtain ⟨rfl, rfl⟩ := e
        have q0 : wr.cell? ⟨b, off + (k - 1) * 5, none⟩ = some (.int .i64 q.pId) := cellOf hbl (by omega) (hcq 0 _ rfl)
        have rq0 := cell_regrown q0
        have g1 : (0 : Int) < (k : Int) := by omega
        have g2 : decide ((0 : Int) < (k : Int)) = true := decide_eq_true g1
        have g4 : decide (0 < k) = true := decide_eq_true hz
        have g5 : (0 : Int) ≤ (k : Int) - 1 := by omega
        have g6 : (k : Int) - 1 < (xs.length : Int) := by omega
        have g7 : ((k : Int) - 1).toNat = k - 1 := by omega
        have HQ := Lib.hid hq
        clear hq q0 hcq
        by_cases hlt2 : q.pId < a.pId
        · have HU2 := Lib.hid (uptoAr_succ HU.out HA.out HO.out (Or.inr ⟨q, HQ.out, hlt2⟩))
          have g8 : decide (a.pId ≤ q.pId) = false := decide_eq_false (by omega)
          have g9 : ¬ a.pId ≤ q.pId := by omega
          clear hlt2
          go_wp2_with fail
          refine wp_region_quiet_below (by kernel_rfl) (by kernel_rfl) ?_
          repeat (go_big_quiet_step (first | with_reducible exact cs _ _))
          refine wpQuiet_nil ?_
          intro _ hw'
          obtain ⟨⟨dq, osq⟩, hw''⟩ := hw'
          subst hw''
          have hb4 := below_regrown (wr) dq osq
          generalize grow (redrawn (wr) dq) osq = w4 at *
          go_wp2
          go_roundw
          case rel => exact ⟨k + 1, by omega, by go_num, HU2, hbl.trans (hb4.mono hsz)⟩
          case measure => simp [intOf]; omega
        · have HF : Hid (false = u) := Lib.hid (by rw [← HR.out]; exact (atA_no2 HA.out HQ.out hz (by omega)).symm)
          have g8 : decide (a.pId ≤ q.pId) = true := decide_eq_true (by omega)
          have g9 : a.pId ≤ q.pId := by omega
          clear hlt2
          go_wp2_with fail
          refine wp_region_quiet_below (by kernel_rfl) (by kernel_rfl) ?_
          repeat (go_big_quiet_step (first | with_reducible exact cs _ _))
          refine wpQuiet_nil ?_
          intro _ hw'
          obtain ⟨⟨dq, osq⟩, hw''⟩ := hw'
          subst hw''
          have hb4 := below_regrown (wr) dq osq
          generalize grow (redrawn (wr) dq) osq = w4 at *
          go_wp2
          go_ret
          exact ⟨ret_bool HF.out, hbl.trans (hb4.mono hsz)⟩
end Go.Proofs.Ytoogofceoinniab
