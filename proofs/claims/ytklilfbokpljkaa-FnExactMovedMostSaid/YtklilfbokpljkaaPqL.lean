/- Picks: the program's test of a list. -/
import Derived.Test.YtklilfbokpljkaaPqK
namespace Go.Proofs.Ytklilfbokpljkaa
open Go.ChangeShapes Go.WideShapes Go.ChangeAt Go.RowKit Go.ChangeMaps Go.Sort Go.Shelf
set_option linter.unusedSimpArgs false
set_option linter.unusedVariables false

set_option maxRecDepth 100000 in
set_option maxHeartbeats 8000000 in
theorem implGoodP (xs : List GPick) (v : Value) (u : Bool) (w : World) (B : Nat) (h : PickL w B v xs) (hB : B ≤ w.heap.size) (hn : xs.length ≤ 1048576) (hu : goodP xs = u) :
    Calls Try.prog 145 #[v] w fun e w' => e = .returned (.bool u) ∧ Below w.heap.size w w' := by
  have HL := Lib.hid h
  obtain ⟨ao, cap, rfl, hcap, hmax, -, hc⟩ := h
  unfold maxLen at hmax
  have HR := Lib.hid hu
  have HC := Lib.hid hc
  clear hc hu
  by_cases hl12 : xs.length ≤ 12
  case neg =>
    have HF : Hid (false = u) := Lib.hid (by rw [← HR.out]; exact (goodP_len (by omega)).symm)
    have hl2 : (12 : Int) < (xs.length : Int) := by omega
    go_enter Try.func145, Try.ntmps145
    go_wp2
    go_ret
    exact ⟨ret_bool HF.out, Below.refl _ _⟩
  have hl2 : ¬ (12 : Int) < (xs.length : Int) := by omega
  go_enter Try.func145, Try.ntmps145
  go_wp2
  go_loopw [10] (fun i wr => ∃ k : Nat, k ≤ xs.length ∧ i = .int .i64 k ∧ Hid (uptoP xs k) ∧ Below w.heap.size w wr) (fun i _ => xs.length - (intOf i).toNat)
  case atStart => exact ⟨0, Nat.zero_le _, rfl, Lib.hid (uptoP_zero xs), Below.refl _ _⟩
  case round =>
    obtain ⟨k, hk, rfl, HU, hbl⟩ := hrel
    have hsz := hbl.size
    by_cases hlt : k < xs.length
    case neg =>
      obtain rfl : k = xs.length := by omega
      have HF : Hid (true = u) := Lib.hid (by rw [← HR.out]; exact (goodP_all HU.out hl12).symm)
      go_wp2
      go_ret
      exact ⟨ret_bool HF.out, hbl⟩
    have hk0 : (0 : Int) ≤ (k : Int) := by omega
    have hk1 : (k : Int) < (xs.length : Int) := by omega
    have hk12 : (k : Int) ≤ 12 := by omega
    obtain ⟨p, hp⟩ := get_of_lt hlt
    obtain ⟨b, off, rfl, hb, hcell⟩ := HC.out k p hp
    have c0 : wr.cell? ⟨b, off + k * 7, none⟩ = some (.int .i64 p.pId) := cellOf hbl (by omega) (hcell 0 _ rfl)
    have c1 : wr.cell? ⟨b, off + k * 7 + 1, none⟩ = some (.int .i64 p.pStation) := cellOf hbl (by omega) (hcell 1 _ rfl)
    have c2 : wr.cell? ⟨b, off + k * 7 + 2, none⟩ = some (.int .i64 p.pWave) := cellOf hbl (by omega) (hcell 2 _ rfl)
    have c3 : wr.cell? ⟨b, off + k * 7 + 3, none⟩ = some (.int .i64 p.pTick) := cellOf hbl (by omega) (hcell 3 _ rfl)
    have c4 : wr.cell? ⟨b, off + k * 7 + 4, none⟩ = some (.int .i64 p.pError) := cellOf hbl (by omega) (hcell 4 _ rfl)
    have c5 : wr.cell? ⟨b, off + k * 7 + 5, none⟩ = some (.int .i64 p.pBy) := cellOf hbl (by omega) (hcell 5 _ rfl)
    have c6 : wr.cell? ⟨b, off + k * 7 + 6, none⟩ = some (.int .i64 p.pAfter) := cellOf hbl (by omega) (hcell 6 _ rfl)
    have HP := Lib.hid hp
    have HLk := Lib.hid (lst_take HL.out hk)
    clear hp hcell
    have N1 := Lib.hid (below_cell (w := wr) (Nat.le_refl _) (.cells #[.int .i64 p.pId, .int .i64 p.pStation, .int .i64 p.pWave, .int .i64 p.pTick, .int .i64 p.pError, .int .i64 p.pBy, .int .i64 p.pAfter] 76))
    have bx : Bx (wr.alloc (.cells #[.int .i64 p.pId, .int .i64 p.pStation, .int .i64 p.pWave, .int .i64 p.pTick, .int .i64 p.pError, .int .i64 p.pBy, .int .i64 p.pAfter] 76)) wr.heap.size (encPick p) := Bx.new wr (encPick p) 76
    by_cases h1 : oneP p
    case neg =>
      have HF : Hid (false = u) := Lib.hid (by rw [← HR.out]; exact (atP_no1 h1 HP.out).symm)
      have C1 := Lib.hid (fun W => implOne p false W (oneB_no h1))
      clear h1
      go_wp2
      generalize wr.alloc (.cells #[.int .i64 p.pId, .int .i64 p.pStation, .int .i64 p.pWave, .int .i64 p.pTick, .int .i64 p.pError, .int .i64 p.pBy, .int .i64 p.pAfter] 76) = w0 at *
      have e0 : w0.cell? ⟨wr.heap.size, 0, none⟩ = some (.int .i64 p.pId) := bx.2 0 _ rfl
      have e1 : w0.cell? ⟨wr.heap.size, 1, none⟩ = some (.int .i64 p.pStation) := bx.2 1 _ rfl
      have e2 : w0.cell? ⟨wr.heap.size, 2, none⟩ = some (.int .i64 p.pWave) := bx.2 2 _ rfl
      have e3 : w0.cell? ⟨wr.heap.size, 3, none⟩ = some (.int .i64 p.pTick) := bx.2 3 _ rfl
      have e4 : w0.cell? ⟨wr.heap.size, 4, none⟩ = some (.int .i64 p.pError) := bx.2 4 _ rfl
      have e5 : w0.cell? ⟨wr.heap.size, 5, none⟩ = some (.int .i64 p.pBy) := bx.2 5 _ rfl
      have e6 : w0.cell? ⟨wr.heap.size, 6, none⟩ = some (.int .i64 p.pAfter) := bx.2 6 _ rfl
      have cs := fun d os => Calls.regrown_of (w := w0) (d := d) (os := os) (C1.out _)
      have rd0 := cell_regrown e0
      have rd1 := cell_regrown e1
      have rd2 := cell_regrown e2
      have rd3 := cell_regrown e3
      have rd4 := cell_regrown e4
      have rd5 := cell_regrown e5
      have rd6 := cell_regrown e6
      refine wp_region_quiet_below (by kernel_rfl) (by kernel_rfl) ?_
      repeat (go_big_quiet_step (first | with_reducible exact cs _ _))
      refine wpQuiet_nil ?_
      intro _ hw'
      obtain ⟨⟨dq, osq⟩, hw''⟩ := hw'
      subst hw''
      have hb4 := below_regrown (w0) dq osq
      generalize grow (redrawn (w0) dq) osq = w4 at *
      go_wp2
      go_ret
      exact ⟨ret_bool HF.out, hbl.trans ((N1.out.trans (hb4.mono N1.out.size)).mono hsz)⟩
    have C1 := Lib.hid (fun W => implOne p true W (oneB_yes h1))
    have HO := Lib.hid h1
    have hid1 := h1.1.1
    have hid2 := h1.1.2
    clear h1
    have hord : (k = 0 ∧ True) ∨ (0 < k ∧ ∃ q, xs[k - 1]? = some q) := by
      by_cases h0 : k = 0
      · exact Or.inl ⟨h0, trivial⟩
      · exact Or.inr ⟨by omega, get_of_lt (by omega)⟩
    rcases hord with ⟨hz, -⟩ | ⟨hz, q, hq⟩
    case inl =>
      have hN1 := N1.out
      have g1 : ¬ (0 : Int) < (k : Int) := by omega
      have g2 : decide ((0 : Int) < (k : Int)) = false := decide_eq_false g1
      have g3 : ¬ 0 < k := by omega
      have g4 : decide (0 < k) = false := decide_eq_false g3
      have HZ := Lib.hid hz
      clear hz
      go_wp2
      generalize wr.alloc (.cells #[.int .i64 p.pId, .int .i64 p.pStation, .int .i64 p.pWave, .int .i64 p.pTick, .int .i64 p.pError, .int .i64 p.pBy, .int .i64 p.pAfter] 76) = w0 at *
      have e0 : w0.cell? ⟨wr.heap.size, 0, none⟩ = some (.int .i64 p.pId) := bx.2 0 _ rfl
      have e1 : w0.cell? ⟨wr.heap.size, 1, none⟩ = some (.int .i64 p.pStation) := bx.2 1 _ rfl
      have e2 : w0.cell? ⟨wr.heap.size, 2, none⟩ = some (.int .i64 p.pWave) := bx.2 2 _ rfl
      have e3 : w0.cell? ⟨wr.heap.size, 3, none⟩ = some (.int .i64 p.pTick) := bx.2 3 _ rfl
      have e4 : w0.cell? ⟨wr.heap.size, 4, none⟩ = some (.int .i64 p.pError) := bx.2 4 _ rfl
      have e5 : w0.cell? ⟨wr.heap.size, 5, none⟩ = some (.int .i64 p.pBy) := bx.2 5 _ rfl
      have e6 : w0.cell? ⟨wr.heap.size, 6, none⟩ = some (.int .i64 p.pAfter) := bx.2 6 _ rfl
      have cs := fun d os => Calls.regrown_of (w := w0) (d := d) (os := os) (C1.out _)
      have rd0 := cell_regrown e0
      have rd1 := cell_regrown e1
      have rd2 := cell_regrown e2
      have rd3 := cell_regrown e3
      have rd4 := cell_regrown e4
      have rd5 := cell_regrown e5
      have rd6 := cell_regrown e6
      refine wp_region_quiet_below (by kernel_rfl) (by kernel_rfl) ?_
      repeat (go_big_quiet_step (first | with_reducible exact cs _ _))
      refine wpQuiet_nil ?_
      intro _ hw'
      obtain ⟨⟨dq, osq⟩, hw''⟩ := hw'
      subst hw''
      have hb4 := below_regrown (w0) dq osq
      generalize grow (redrawn (w0) dq) osq = w4 at *
      clear cs rd0 rd1 rd2 rd3 rd4 rd5 rd6 g1 g2 g3 g4
      have D4 : Below w.heap.size w w4 := hbl.trans ((N1.out.trans (hb4.mono N1.out.size)).mono hsz)
      have z4 := D4.size
      have f0 := cellOf hb4 (cell_of_lt e0) e0
      have f1 := cellOf hb4 (cell_of_lt e1) e1
      have f2 := cellOf hb4 (cell_of_lt e2) e2
      have f3 := cellOf hb4 (cell_of_lt e3) e3
      have f4 := cellOf hb4 (cell_of_lt e4) e4
      have f5 := cellOf hb4 (cell_of_lt e5) e5
      have f6 := cellOf hb4 (cell_of_lt e6) e6
      have rf0 := cell_regrown f0
      have rf1 := cell_regrown f1
      have rf2 := cell_regrown f2
      have rf3 := cell_regrown f3
      have rf4 := cell_regrown f4
      have rf5 := cell_regrown f5
      have rf6 := cell_regrown f6
      clear e0 e1 e2 e3 e4 e5 e6 bx hb4
      by_cases hz0 : p.pAfter = 0
      case pos =>
        have HU2 := Lib.hid (uptoP_succ HU.out HP.out (atP_mk HO.out (Or.inl HZ.out) (Or.inl hz0)))
        have t1 : (p.pAfter == 0) = true := by simp [hz0]
        have t2 : (p.pAfter != 0) = false := by simp [hz0]
        clear hz0
        go_wp2
        refine wp_region_quiet_below (by kernel_rfl) (by kernel_rfl) ?_
        repeat (go_big_quiet_step (fail))
        refine wpQuiet_nil ?_
        intro _ hw'
        obtain ⟨⟨dq, osq⟩, hw''⟩ := hw'
        subst hw''
        have hb6 := below_regrown (w4) dq osq
        generalize grow (redrawn (w4) dq) osq = w6 at *
        go_wp2
        go_roundw
        case rel => exact ⟨k + 1, by omega, by go_num, HU2, D4.trans (hb6.mono z4)⟩
        case measure => simp [intOf]; omega
      have t1 : (p.pAfter == 0) = false := by simp [hz0]
      have t2 : (p.pAfter != 0) = true := by simp [hz0]
      have HL4 := Lib.hid (HLk.out.below (D4.mono hB))
      have HNZ := Lib.hid hz0
      clear hz0
      by_cases hrep : repP (xs.take k) p
      case neg =>
        have HF : Hid (false = u) := Lib.hid (by rw [← HR.out]; exact (atP_no3 HP.out HNZ.out hrep).symm)
        have cf := fun d os => Calls.regrown_of (w := w4) (d := d) (os := os) (implRep (xs.take k) _ p false _ B (HL4.out.below ((below_regrown w4 d os).mono (by omega))) (Nat.le_trans (Nat.le_trans hB z4) (below_regrown w4 d os).size) (by rw [List.length_take]; omega) ⟨fun g => (by cases g), fun g => absurd g hrep⟩)
        clear hrep
        go_wp2
        refine wp_region_quiet_below (by kernel_rfl) (by kernel_rfl) ?_
        repeat (go_big_quiet_step (first | with_reducible exact cf _ _))
        refine wpQuiet_nil ?_
        intro _ hw'
        obtain ⟨⟨dq, osq⟩, hw''⟩ := hw'
        subst hw''
        have hb6 := below_regrown (w4) dq osq
        generalize grow (redrawn (w4) dq) osq = w6 at *
        go_wp2
        go_ret
        exact ⟨ret_bool HF.out, D4.trans (hb6.mono z4)⟩
      have HU2 := Lib.hid (uptoP_succ HU.out HP.out (atP_mk HO.out (Or.inl HZ.out) (Or.inr hrep)))
      have cf := fun d os => Calls.regrown_of (w := w4) (d := d) (os := os) (implRep (xs.take k) _ p true _ B (HL4.out.below ((below_regrown w4 d os).mono (by omega))) (Nat.le_trans (Nat.le_trans hB z4) (below_regrown w4 d os).size) (by rw [List.length_take]; omega) ⟨fun _ => hrep, fun _ => rfl⟩)
      clear hrep
      go_wp2
      refine wp_region_quiet_below (by kernel_rfl) (by kernel_rfl) ?_
      repeat (go_big_quiet_step (first | with_reducible exact cf _ _))
      refine wpQuiet_nil ?_
      intro _ hw'
      obtain ⟨⟨dq, osq⟩, hw''⟩ := hw'
      subst hw''
      have hb6 := below_regrown (w4) dq osq
      generalize grow (redrawn (w4) dq) osq = w6 at *
      go_wp2
      go_roundw
      case rel => exact ⟨k + 1, by omega, by go_num, HU2, D4.trans (hb6.mono z4)⟩
      case measure => simp [intOf]; omega
    case inr =>
      obtain ⟨b', off', e9, -, hcell⟩ := HC.out (k - 1) q hq
      simp only [Option.some.injEq, Addr.mk.injEq, and_true] at e9
      obtain ⟨rfl, rfl⟩ := e9
      have HQ := Lib.hid hq
      have hN1 := N1.out
      have mp0 : (0 : Int) < (k : Int) := by omega
      have mp1 : 0 < k := by omega
      have mp2 : (0 : Int) ≤ (k : Int) - 1 := by omega
      have mp3 : (k : Int) - 1 < (xs.length : Int) := by omega
      have mp4 : ((k : Int) - 1).toNat = k - 1 := by omega
      have mp5 : IntKind.i64.wrap ((k : Int) - 1) = (k : Int) - 1 := IntWalk.i64_in _ (by omega)
      have mp6 : decide ((0 : Int) < (k : Int)) = true := decide_eq_true mp0
      clear hq
      go_wp2
      generalize wr.alloc (.cells #[.int .i64 p.pId, .int .i64 p.pStation, .int .i64 p.pWave, .int .i64 p.pTick, .int .i64 p.pError, .int .i64 p.pBy, .int .i64 p.pAfter] 76) = w0 at *
      have e0 : w0.cell? ⟨wr.heap.size, 0, none⟩ = some (.int .i64 p.pId) := bx.2 0 _ rfl
      have e1 : w0.cell? ⟨wr.heap.size, 1, none⟩ = some (.int .i64 p.pStation) := bx.2 1 _ rfl
      have e2 : w0.cell? ⟨wr.heap.size, 2, none⟩ = some (.int .i64 p.pWave) := bx.2 2 _ rfl
      have e3 : w0.cell? ⟨wr.heap.size, 3, none⟩ = some (.int .i64 p.pTick) := bx.2 3 _ rfl
      have e4 : w0.cell? ⟨wr.heap.size, 4, none⟩ = some (.int .i64 p.pError) := bx.2 4 _ rfl
      have e5 : w0.cell? ⟨wr.heap.size, 5, none⟩ = some (.int .i64 p.pBy) := bx.2 5 _ rfl
      have e6 : w0.cell? ⟨wr.heap.size, 6, none⟩ = some (.int .i64 p.pAfter) := bx.2 6 _ rfl
      have d0 : w0.cell? ⟨b, off + (k - 1) * 7, none⟩ = some (.int .i64 q.pId) := cellOf (hbl.trans (hN1.mono hsz)) (by omega) (hcell 0 _ rfl)
      have cs := fun d os => Calls.regrown_of (w := w0) (d := d) (os := os) (C1.out _)
      have sd0 := cell_regrown d0
      have rd0 := cell_regrown e0
      have rd1 := cell_regrown e1
      have rd2 := cell_regrown e2
      have rd3 := cell_regrown e3
      have rd4 := cell_regrown e4
      have rd5 := cell_regrown e5
      have rd6 := cell_regrown e6
      clear hcell
      by_cases hlt2 : q.pId < p.pId
      case neg =>
        have HF : Hid (false = u) := Lib.hid (by rw [← HR.out]; exact (atP_no2 HP.out HQ.out mp1 (by omega)).symm)
        have hge : p.pId ≤ q.pId := by omega
        refine wp_region_quiet_below (by kernel_rfl) (by kernel_rfl) ?_
        repeat (go_big_quiet_step (first | with_reducible exact cs _ _))
        refine wpQuiet_nil ?_
        intro _ hw'
        obtain ⟨⟨dq, osq⟩, hw''⟩ := hw'
        subst hw''
        have hb4 := below_regrown (w0) dq osq
        generalize grow (redrawn (w0) dq) osq = w4 at *
        go_wp2
        go_ret
        exact ⟨ret_bool HF.out, hbl.trans ((N1.out.trans (hb4.mono N1.out.size)).mono hsz)⟩
      have hge : ¬ p.pId ≤ q.pId := by omega
      have hged : decide (p.pId ≤ q.pId) = false := decide_eq_false hge
      refine wp_region_quiet_below (by kernel_rfl) (by kernel_rfl) ?_
      repeat (go_big_quiet_step (first | with_reducible exact cs _ _))
      refine wpQuiet_nil ?_
      intro _ hw'
      obtain ⟨⟨dq, osq⟩, hw''⟩ := hw'
      subst hw''
      have hb4 := below_regrown (w0) dq osq
      generalize grow (redrawn (w0) dq) osq = w4 at *
      clear cs sd0 rd0 rd1 rd2 rd3 rd4 rd5 rd6
      have D4 : Below w.heap.size w w4 := hbl.trans ((N1.out.trans (hb4.mono N1.out.size)).mono hsz)
      have z4 := D4.size
      have f0 := cellOf hb4 (cell_of_lt e0) e0
      have f1 := cellOf hb4 (cell_of_lt e1) e1
      have f2 := cellOf hb4 (cell_of_lt e2) e2
      have f3 := cellOf hb4 (cell_of_lt e3) e3
      have f4 := cellOf hb4 (cell_of_lt e4) e4
      have f5 := cellOf hb4 (cell_of_lt e5) e5
      have f6 := cellOf hb4 (cell_of_lt e6) e6
      have rf0 := cell_regrown f0
      have rf1 := cell_regrown f1
      have rf2 := cell_regrown f2
      have rf3 := cell_regrown f3
      have rf4 := cell_regrown f4
      have rf5 := cell_regrown f5
      have rf6 := cell_regrown f6
      clear e0 e1 e2 e3 e4 e5 e6 bx hb4
      by_cases hz0 : p.pAfter = 0
      case pos =>
        have HU2 := Lib.hid (uptoP_succ HU.out HP.out (atP_mk HO.out (Or.inr ⟨q, HQ.out, hlt2⟩) (Or.inl hz0)))
        have t1 : (p.pAfter == 0) = true := by simp [hz0]
        have t2 : (p.pAfter != 0) = false := by simp [hz0]
        clear hz0
        go_wp2
        refine wp_region_quiet_below (by kernel_rfl) (by kernel_rfl) ?_
        repeat (go_big_quiet_step (fail))
        refine wpQuiet_nil ?_
        intro _ hw'
        obtain ⟨⟨dq, osq⟩, hw''⟩ := hw'
        subst hw''
        have hb6 := below_regrown (w4) dq osq
        generalize grow (redrawn (w4) dq) osq = w6 at *
        go_wp2
        go_roundw
        case rel => exact ⟨k + 1, by omega, by go_num, HU2, D4.trans (hb6.mono z4)⟩
        case measure => simp [intOf]; omega
      have t1 : (p.pAfter == 0) = false := by simp [hz0]
      have t2 : (p.pAfter != 0) = true := by simp [hz0]
      have HL4 := Lib.hid (HLk.out.below (D4.mono hB))
      have HNZ := Lib.hid hz0
      clear hz0
      by_cases hrep : repP (xs.take k) p
      case neg =>
        have HF : Hid (false = u) := Lib.hid (by rw [← HR.out]; exact (atP_no3 HP.out HNZ.out hrep).symm)
        have cf := fun d os => Calls.regrown_of (w := w4) (d := d) (os := os) (implRep (xs.take k) _ p false _ B (HL4.out.below ((below_regrown w4 d os).mono (by omega))) (Nat.le_trans (Nat.le_trans hB z4) (below_regrown w4 d os).size) (by rw [List.length_take]; omega) ⟨fun g => (by cases g), fun g => absurd g hrep⟩)
        clear hrep
        go_wp2
        refine wp_region_quiet_below (by kernel_rfl) (by kernel_rfl) ?_
        repeat (go_big_quiet_step (first | with_reducible exact cf _ _))
        refine wpQuiet_nil ?_
        intro _ hw'
        obtain ⟨⟨dq, osq⟩, hw''⟩ := hw'
        subst hw''
        have hb6 := below_regrown (w4) dq osq
        generalize grow (redrawn (w4) dq) osq = w6 at *
        go_wp2
        go_ret
        exact ⟨ret_bool HF.out, D4.trans (hb6.mono z4)⟩
      have HU2 := Lib.hid (uptoP_succ HU.out HP.out (atP_mk HO.out (Or.inr ⟨q, HQ.out, hlt2⟩) (Or.inr hrep)))
      have cf := fun d os => Calls.regrown_of (w := w4) (d := d) (os := os) (implRep (xs.take k) _ p true _ B (HL4.out.below ((below_regrown w4 d os).mono (by omega))) (Nat.le_trans (Nat.le_trans hB z4) (below_regrown w4 d os).size) (by rw [List.length_take]; omega) ⟨fun _ => hrep, fun _ => rfl⟩)
      clear hrep
      go_wp2
      refine wp_region_quiet_below (by kernel_rfl) (by kernel_rfl) ?_
      repeat (go_big_quiet_step (first | with_reducible exact cf _ _))
      refine wpQuiet_nil ?_
      intro _ hw'
      obtain ⟨⟨dq, osq⟩, hw''⟩ := hw'
      subst hw''
      have hb6 := below_regrown (w4) dq osq
      generalize grow (redrawn (w4) dq) osq = w6 at *
      go_wp2
      go_roundw
      case rel => exact ⟨k + 1, by omega, by go_num, HU2, D4.trans (hb6.mono z4)⟩
      case measure => simp [intOf]; omega
end Go.Proofs.Ytklilfbokpljkaa
