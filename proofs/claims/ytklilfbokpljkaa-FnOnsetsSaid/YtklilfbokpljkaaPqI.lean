/- Picks: the specification's test. -/
import Derived.Test.YtklilfbokpljkaaPqG
import Derived.Lib.QuietBelow
import Derived.Deep.LoopGhost
namespace Go.Proofs.Ytklilfbokpljkaa
open Go.ChangeShapes Go.WideShapes Go.ChangeAt Go.RowKit Go.ChangeMaps Go.Sort
set_option linter.unusedSimpArgs false
set_option linter.unusedVariables false

theorem atP_no1 {xs : List GPick} {k : Nat} {p : GPick} (h : ¬ oneP p) (hp : xs[k]? = some p) : goodP xs = false := goodP_no fun g => h (okP_at g hp).1
theorem atP_no2 {xs : List GPick} {k : Nat} {p q : GPick} (hp : xs[k]? = some p) (hq : xs[k - 1]? = some q) (h0 : 0 < k) (h : p.pId ≤ q.pId) : goodP xs = false := goodP_no fun g => by have := (okP_at g hp).2.1 q h0 hq; omega
theorem atP_no3 {xs : List GPick} {k : Nat} {p : GPick} (hp : xs[k]? = some p) (h0 : p.pAfter ≠ 0) (h : ¬ repP (xs.take k) p) : goodP xs = false := goodP_no fun g => by
  rcases (okP_at g hp).2.2 with e | e
  · exact h0 e
  · exact h e
theorem goodP_len {xs : List GPick} (h : 12 < xs.length) : goodP xs = false := goodP_no fun g => by have := g.1; omega
theorem goodP_all {xs : List GPick} (h : uptoP xs xs.length) (hl : xs.length ≤ 12) : goodP xs = true := goodP_mk ⟨hl, h⟩
theorem atP_mk {xs : List GPick} {k : Nat} {p : GPick} (h1 : oneP p) (h2 : k = 0 ∨ ∃ q, xs[k - 1]? = some q ∧ q.pId < p.pId) (h3 : p.pAfter = 0 ∨ repP (xs.take k) p) : atP xs k p := ⟨h1, fun q h0 hq => by
  rcases h2 with e | ⟨r, hr, h2⟩
  · omega
  · rw [hr] at hq; cases hq; exact h2, h3⟩
theorem rep_none {xs : List GPick} {p : GPick} (h : lookP xs p.pAfter = none) : ¬ repP xs p := fun ⟨q, hq, _⟩ => by rw [h] at hq; cases hq
theorem rep_not {xs : List GPick} {p s : GPick} (h : lookP xs p.pAfter = some s) (hn : ¬ ((curB xs p.pAfter = true ∧ s.pStation = p.pStation) ∧ s.pWave = p.pWave)) : ¬ repP xs p := fun ⟨q, hq, g⟩ => by rw [h] at hq; cases hq; exact hn g
theorem specFindB (xs : List GPick) (v : Value) (id r : Int) (w : World) (B : Nat) (h : PickL w B v xs) (hr : isIdx xs id r) (hn : xs.length ≤ 1048576) :
    Calls Try.prog 143 #[v, .int .i64 id] w fun e w' => e = .returned (.int .i64 r) ∧ Below w.heap.size w w' :=
  (specFind xs v id r w B h hr hn).mono fun _ _ ⟨h1, h2⟩ => ⟨h1, h2 ▸ Below.refl _ _⟩
theorem specCurBB (xs : List GPick) (v : Value) (id : Int) (r : Bool) (w : World) (B : Nat) (h : PickL w B v xs) (hr : curB xs id = r) (hn : xs.length ≤ 1048576) :
    Calls Try.prog 151 #[v, .int .i64 id] w fun e w' => e = .returned (.bool r) ∧ Below w.heap.size w w' :=
  (specCurB xs v id r w B h hr hn).mono fun _ _ ⟨h1, h2⟩ => ⟨h1, h2 ▸ Below.refl _ _⟩
set_option maxRecDepth 100000 in
set_option maxHeartbeats 8000000 in
theorem specGoodP (xs : List GPick) (v : Value) (u : Bool) (w : World) (B : Nat) (h : PickL w B v xs) (hB : B ≤ w.heap.size) (hn : xs.length ≤ 1048576) (hu : goodP xs = u) :
    Calls Try.prog 142 #[v] w fun e w' => e = .returned (.bool u) ∧ Below w.heap.size w w' := by
  have HL := Lib.hid h
  obtain ⟨ao, cap, rfl, hcap, hmax, -, hc⟩ := h
  unfold maxLen at hmax
  have HR := Lib.hid hu
  have HC := Lib.hid hc
  clear hc hu
  go_enter Try.func142, Try.ntmps142
  go_wp2
  go_loopw [3] (fun i wr => ∃ k : Nat, k ≤ xs.length ∧ k ≤ 13 ∧ i = .int .i64 k ∧ Hid (uptoP xs k) ∧ Below w.heap.size w wr) (fun i _ => xs.length - (intOf i).toNat)
  case atStart => exact ⟨0, Nat.zero_le _, by omega, rfl, Lib.hid (uptoP_zero xs), Below.refl _ _⟩
  case round =>
    obtain ⟨k, hk, hk13, rfl, HU, hbl⟩ := hrel
    have hsz := hbl.size
    by_cases hlt : k < xs.length
    case neg =>
      obtain rfl : k = xs.length := by omega
      by_cases hl : xs.length ≤ 12
      · have HF : Hid (true = u) := Lib.hid (by rw [← HR.out]; exact (goodP_all HU.out hl).symm)
        have hl2 : (xs.length : Int) ≤ 12 := by omega
        go_wp2
        go_ret
        exact ⟨ret_bool HF.out, hbl⟩
      · have HF : Hid (false = u) := Lib.hid (by rw [← HR.out]; exact (goodP_len (by omega)).symm)
        have hl2 : ¬ (xs.length : Int) ≤ 12 := by omega
        go_wp2
        go_ret
        exact ⟨ret_bool HF.out, hbl⟩
    have hk0 : (0 : Int) ≤ (k : Int) := by omega
    have hk1 : (k : Int) < (xs.length : Int) := by omega
    by_cases h12 : k ≤ 12
    case neg =>
      have HF : Hid (false = u) := Lib.hid (by rw [← HR.out]; exact (goodP_len (by omega)).symm)
      have hl2 : ¬ (xs.length : Int) ≤ 12 := by omega
      have hl3 : ¬ (k : Int) ≤ 12 := by omega
      go_wp2
      go_ret
      exact ⟨ret_bool HF.out, hbl⟩
    have hk12 : (k : Int) ≤ 12 := by omega
    obtain ⟨p, hp⟩ := get_of_lt hlt
    obtain ⟨b, off, rfl, hb, hcell⟩ := HC.out k p hp
    have c0 : wr.cell? ⟨b, off + k * 7, none⟩ = some (.int .i64 p.pId) := cellOf hbl (by omega) (hcell 0 _ rfl)
    have c1 : wr.cell? ⟨b, off + k * 7 + 1, none⟩ = some (.int .i64 p.pStation) := cellOf hbl (by omega) (hcell 1 _ rfl)
    have c2 : wr.cell? ⟨b, off + k * 7 + 2, none⟩ = some (.int .i64 p.pWave) := cellOf hbl (by omega) (hcell 2 _ rfl)
    have c3 : wr.cell? ⟨b, off + k * 7 + 3, none⟩ = some (.int .i64 p.pTick) := cellOf hbl (by omega) (hcell 3 _ rfl)
    have c4 : wr.cell? ⟨b, off + k * 7 + 4, none⟩ = some (.int .i64 p.pError) := cellOf hbl (by omega) (hcell 4 _ rfl)
    have c5 : wr.cell? ⟨b, off + k * 7 + 5, none⟩ = some (.int .i64 p.pBy) := cellOf hbl (by omega) (hcell 5 _ rfl)
    have c6 : wr.cell? ⟨b, off + k * 7 + 6, none⟩ = some (.int .i64 p.pAfter) := cellOf hbl (by omega) (hcell 6 _ rfl)
    have HP := Lib.hid hp
    have HLk := Lib.hid (lst_take HL.out hk)
    clear hp hcell
    have N1 := Lib.hid (below_cell (w := wr) (Nat.le_refl _) (.cells #[.int .i64 p.pId, .int .i64 p.pStation, .int .i64 p.pWave, .int .i64 p.pTick, .int .i64 p.pError, .int .i64 p.pBy, .int .i64 p.pAfter] 76))
    have bx : Bx (wr.alloc (.cells #[.int .i64 p.pId, .int .i64 p.pStation, .int .i64 p.pWave, .int .i64 p.pTick, .int .i64 p.pError, .int .i64 p.pBy, .int .i64 p.pAfter] 76)) wr.heap.size (encPick p) := Bx.new wr (encPick p) 76
    by_cases h1 : oneP p
    case neg =>
      have HF : Hid (false = u) := Lib.hid (by rw [← HR.out]; exact (atP_no1 h1 HP.out).symm)
      have C1 := Lib.hid (fun W => specOne p false W (oneB_no h1))
      clear h1
      go_wp2
      generalize wr.alloc (.cells #[.int .i64 p.pId, .int .i64 p.pStation, .int .i64 p.pWave, .int .i64 p.pTick, .int .i64 p.pError, .int .i64 p.pBy, .int .i64 p.pAfter] 76) = w0 at *
      have e0 : w0.cell? ⟨wr.heap.size, 0, none⟩ = some (.int .i64 p.pId) := bx.2 0 _ rfl
      have e1 : w0.cell? ⟨wr.heap.size, 1, none⟩ = some (.int .i64 p.pStation) := bx.2 1 _ rfl
      have e2 : w0.cell? ⟨wr.heap.size, 2, none⟩ = some (.int .i64 p.pWave) := bx.2 2 _ rfl
      have e3 : w0.cell? ⟨wr.heap.size, 3, none⟩ = some (.int .i64 p.pTick) := bx.2 3 _ rfl
      have e4 : w0.cell? ⟨wr.heap.size, 4, none⟩ = some (.int .i64 p.pError) := bx.2 4 _ rfl
      have e5 : w0.cell? ⟨wr.heap.size, 5, none⟩ = some (.int .i64 p.pBy) := bx.2 5 _ rfl
      have e6 : w0.cell? ⟨wr.heap.size, 6, none⟩ = some (.int .i64 p.pAfter) := bx.2 6 _ rfl
      have cs := fun d os => Calls.regrown_of (w := w0) (d := d) (os := os) (C1.out _)
      have rd0 := cell_regrown e0
      have rd1 := cell_regrown e1
      have rd2 := cell_regrown e2
      have rd3 := cell_regrown e3
      have rd4 := cell_regrown e4
      have rd5 := cell_regrown e5
      have rd6 := cell_regrown e6
      refine wp_region_quiet_below (by kernel_rfl) (by kernel_rfl) ?_
      repeat (go_big_quiet_step (first | with_reducible exact cs _ _))
      refine wpQuiet_nil ?_
      intro _ hw'
      obtain ⟨⟨dq, osq⟩, hw''⟩ := hw'
      subst hw''
      have hb4 := below_regrown (w0) dq osq
      generalize grow (redrawn (w0) dq) osq = w4 at *
      go_wp2
      go_ret
      exact ⟨ret_bool HF.out, hbl.trans ((N1.out.trans (hb4.mono N1.out.size)).mono hsz)⟩
    have C1 := Lib.hid (fun W => specOne p true W (oneB_yes h1))
    have HO := Lib.hid h1
    have hid1 := h1.1.1
    have hid2 := h1.1.2
    clear h1
    have hord : (k = 0 ∧ True) ∨ (0 < k ∧ ∃ q, xs[k - 1]? = some q) := by
      by_cases h0 : k = 0
      · exact Or.inl ⟨h0, trivial⟩
      · exact Or.inr ⟨by omega, get_of_lt (by omega)⟩
    rcases hord with ⟨hz, -⟩ | ⟨hz, q, hq⟩
    case inl =>
      have hN1 := N1.out
      have g1 : ¬ (0 : Int) < (k : Int) := by omega
      have g2 : decide ((0 : Int) < (k : Int)) = false := decide_eq_false g1
      have g3 : ¬ 0 < k := by omega
      have g4 : decide (0 < k) = false := decide_eq_false g3
      have HZ := Lib.hid hz
      clear hz
      go_wp2
      generalize wr.alloc (.cells #[.int .i64 p.pId, .int .i64 p.pStation, .int .i64 p.pWave, .int .i64 p.pTick, .int .i64 p.pError, .int .i64 p.pBy, .int .i64 p.pAfter] 76) = w0 at *
      have e0 : w0.cell? ⟨wr.heap.size, 0, none⟩ = some (.int .i64 p.pId) := bx.2 0 _ rfl
      have e1 : w0.cell? ⟨wr.heap.size, 1, none⟩ = some (.int .i64 p.pStation) := bx.2 1 _ rfl
      have e2 : w0.cell? ⟨wr.heap.size, 2, none⟩ = some (.int .i64 p.pWave) := bx.2 2 _ rfl
      have e3 : w0.cell? ⟨wr.heap.size, 3, none⟩ = some (.int .i64 p.pTick) := bx.2 3 _ rfl
      have e4 : w0.cell? ⟨wr.heap.size, 4, none⟩ = some (.int .i64 p.pError) := bx.2 4 _ rfl
      have e5 : w0.cell? ⟨wr.heap.size, 5, none⟩ = some (.int .i64 p.pBy) := bx.2 5 _ rfl
      have e6 : w0.cell? ⟨wr.heap.size, 6, none⟩ = some (.int .i64 p.pAfter) := bx.2 6 _ rfl
      have cs := fun d os => Calls.regrown_of (w := w0) (d := d) (os := os) (C1.out _)
      have rd0 := cell_regrown e0
      have rd1 := cell_regrown e1
      have rd2 := cell_regrown e2
      have rd3 := cell_regrown e3
      have rd4 := cell_regrown e4
      have rd5 := cell_regrown e5
      have rd6 := cell_regrown e6
      refine wp_region_quiet_below (by kernel_rfl) (by kernel_rfl) ?_
      repeat (go_big_quiet_step (first | with_reducible exact cs _ _))
      refine wpQuiet_nil ?_
      intro _ hw'
      obtain ⟨⟨dq, osq⟩, hw''⟩ := hw'
      subst hw''
      have hb4 := below_regrown (w0) dq osq
      generalize grow (redrawn (w0) dq) osq = w4 at *
      clear cs rd0 rd1 rd2 rd3 rd4 rd5 rd6 g1 g2 g3 g4
      have f6 := cellOf hb4 (cell_of_lt e6) e6
      by_cases hz0 : p.pAfter = 0
      case pos =>
        have HU2 := Lib.hid (uptoP_succ HU.out HP.out (atP_mk HO.out (Or.inl HZ.out) (Or.inl hz0)))
        go_wp2
        go_roundw
        case rel => exact ⟨k + 1, by omega, by omega, by go_num, HU2, hbl.trans ((N1.out.trans (hb4.mono N1.out.size)).mono hsz)⟩
        case measure => simp [intOf]; omega
      have hnz : ¬ p.pAfter = 0 := hz0
      obtain ⟨r, hr⟩ := isIdx_ex (xs.take k) p.pAfter
      have D4 : Below w.heap.size w w4 := hbl.trans ((N1.out.trans (hb4.mono N1.out.size)).mono hsz)
      have z4 := D4.size
      have HL4 := Lib.hid (HLk.out.below (D4.mono hB))
      have HI := Lib.hid hr
      have HF1 := Lib.hid (fun d os => Calls.regrown_of (w := w4) (d := d) (os := os) (specFindB (xs.take k) _ p.pAfter r _ B (HL4.out.below ((below_regrown w4 d os).mono (by omega))) HI.out (by rw [List.length_take]; omega)))
      have cf := HF1.out
      have rf6 := cell_regrown f6
      clear hr
      go_wp2
      refine wp_region_quiet_below (by kernel_rfl) (by kernel_rfl) ?_
      repeat (go_big_quiet_step (first | with_reducible exact cf _ _))
      refine wpQuiet_nil ?_
      intro _ hw'
      obtain ⟨⟨dq, osq⟩, hw''⟩ := hw'
      subst hw''
      have hb5 := below_regrown (w4) dq osq
      generalize grow (redrawn (w4) dq) osq = w5 at *
      clear cf rf6 HF1
      have D5 : Below w.heap.size w w5 := D4.trans (hb5.mono z4)
      have z5 := D5.size
      have HL5 := Lib.hid (HLk.out.below (D5.mono hB))
      have g1 := cellOf hb5 (cell_of_lt (cellOf hb4 (cell_of_lt e1) e1)) (cellOf hb4 (cell_of_lt e1) e1)
      have g2 := cellOf hb5 (cell_of_lt (cellOf hb4 (cell_of_lt e2) e2)) (cellOf hb4 (cell_of_lt e2) e2)
      have g6 := cellOf hb5 (cell_of_lt f6) f6
      have rg1 := cell_regrown g1
      have rg2 := cell_regrown g2
      have rg6 := cell_regrown g6
      clear f6 e0 e1 e2 e3 e4 e5 e6 bx hb5 hb4
      have HIO := HI.out
      rcases HIO with ⟨rfl, -, hlk⟩ | ⟨j, s, rfl, hs, -, -, hlk⟩
      · have HF : Hid (false = u) := Lib.hid (by rw [← HR.out]; exact (atP_no3 HP.out hnz (rep_none hlk)).symm)
        go_wp2
        refine wp_region_quiet_below (by kernel_rfl) (by kernel_rfl) ?_
        repeat (go_big_quiet_step (fail))
        refine wpQuiet_nil ?_
        intro _ hw'
        obtain ⟨⟨dq, osq⟩, hw''⟩ := hw'
        subst hw''
        have hb6 := below_regrown (w5) dq osq
        generalize grow (redrawn (w5) dq) osq = w6 at *
        go_wp2
        go_ret
        exact ⟨ret_bool HF.out, D5.trans (hb6.mono z5)⟩
      have hjk : j < k := by
        have := (List.getElem?_eq_some_iff.1 hs).1
        rw [List.length_take] at this; omega
      have hs2 : xs[j]? = some s := by rw [List.getElem?_take, if_pos hjk] at hs; exact hs
      obtain ⟨b', off', e9, -, hcell⟩ := HC.out j s hs2
      simp only [Option.some.injEq, Addr.mk.injEq, and_true] at e9
      obtain ⟨rfl, rfl⟩ := e9
      have s1 : w5.cell? ⟨b, off + j * 7 + 1, none⟩ = some (.int .i64 s.pStation) := cellOf D5 (by omega) (hcell 1 _ rfl)
      have s2 : w5.cell? ⟨b, off + j * 7 + 2, none⟩ = some (.int .i64 s.pWave) := cellOf D5 (by omega) (hcell 2 _ rfl)
      have rs1 := cell_regrown s1
      have rs2 := cell_regrown s2
      have j0 : (0 : Int) ≤ (j : Int) := by omega
      have j1 : (j : Int) < (xs.length : Int) := by omega
      have j2 : ¬ (j : Int) < 0 := by omega
      have j3 : decide ((j : Int) < 0) = false := decide_eq_false j2
      have j4 : ¬ j < 0 := by omega
      have HK := Lib.hid hlk
      clear hs hs2 hcell hlk
      by_cases hst : s.pStation = p.pStation
      case neg =>
        have HF : Hid (false = u) := Lib.hid (by rw [← HR.out]; exact (atP_no3 HP.out hnz (rep_not HK.out (fun g => hst g.1.2))).symm)
        have t1 : (s.pStation == p.pStation) = false := by simp [hst]
        have t2 : (s.pStation != p.pStation) = true := by simp [hst]
        go_wp2
        refine wp_region_quiet_below (by kernel_rfl) (by kernel_rfl) ?_
        repeat (go_big_quiet_step (fail))
        refine wpQuiet_nil ?_
        intro _ hw'
        obtain ⟨⟨dq, osq⟩, hw''⟩ := hw'
        subst hw''
        have hb6 := below_regrown (w5) dq osq
        generalize grow (redrawn (w5) dq) osq = w6 at *
        go_wp2
        go_ret
        exact ⟨ret_bool HF.out, D5.trans (hb6.mono z5)⟩
      have t1 : (s.pStation == p.pStation) = true := by simp [hst]
      have t2 : (s.pStation != p.pStation) = false := by simp [hst]
      by_cases hwv : s.pWave = p.pWave
      case neg =>
        have HF : Hid (false = u) := Lib.hid (by rw [← HR.out]; exact (atP_no3 HP.out hnz (rep_not HK.out (fun g => hwv g.2))).symm)
        have t3 : (s.pWave == p.pWave) = false := by simp [hwv]
        have t4 : (s.pWave != p.pWave) = true := by simp [hwv]
        have HST := Lib.hid hst
        clear hst
        go_wp2
        refine wp_region_quiet_below (by kernel_rfl) (by kernel_rfl) ?_
        repeat (go_big_quiet_step (fail))
        refine wpQuiet_nil ?_
        intro _ hw'
        obtain ⟨⟨dq, osq⟩, hw''⟩ := hw'
        subst hw''
        have hb6 := below_regrown (w5) dq osq
        generalize grow (redrawn (w5) dq) osq = w6 at *
        go_wp2
        go_ret
        exact ⟨ret_bool HF.out, D5.trans (hb6.mono z5)⟩
      have t3 : (s.pWave == p.pWave) = true := by simp [hwv]
      have t4 : (s.pWave != p.pWave) = false := by simp [hwv]
      have HST := Lib.hid hst
      have HWV := Lib.hid hwv
      clear hst hwv
      cases hcu : curB (xs.take k) p.pAfter with
      | false =>
        have HF : Hid (false = u) := Lib.hid (by rw [← HR.out]; exact (atP_no3 HP.out hnz (rep_not HK.out (fun g => absurd (g.1.1.symm.trans hcu) (by simp)))).symm)
        have HCU := Lib.hid hcu
        have cf := fun d os => Calls.regrown_of (w := w5) (d := d) (os := os) (specCurBB (xs.take k) _ p.pAfter false _ B (HL5.out.below ((below_regrown w5 d os).mono (by omega))) HCU.out (by rw [List.length_take]; omega))
        clear hcu
        go_wp2
        refine wp_region_quiet_below (by kernel_rfl) (by kernel_rfl) ?_
        repeat (go_big_quiet_step (first | with_reducible exact cf _ _))
        refine wpQuiet_nil ?_
        intro _ hw'
        obtain ⟨⟨dq, osq⟩, hw''⟩ := hw'
        subst hw''
        have hb6 := below_regrown (w5) dq osq
        generalize grow (redrawn (w5) dq) osq = w6 at *
        go_wp2
        go_ret
        exact ⟨ret_bool HF.out, D5.trans (hb6.mono z5)⟩
      | true =>
        have HU2 := Lib.hid (uptoP_succ HU.out HP.out (atP_mk HO.out (Or.inl HZ.out) (Or.inr ⟨s, HK.out, ⟨hcu, HST.out⟩, HWV.out⟩)))
        have HCU := Lib.hid hcu
        have cf := fun d os => Calls.regrown_of (w := w5) (d := d) (os := os) (specCurBB (xs.take k) _ p.pAfter true _ B (HL5.out.below ((below_regrown w5 d os).mono (by omega))) HCU.out (by rw [List.length_take]; omega))
        clear hcu
        go_wp2
        refine wp_region_quiet_below (by kernel_rfl) (by kernel_rfl) ?_
        repeat (go_big_quiet_step (first | with_reducible exact cf _ _))
        refine wpQuiet_nil ?_
        intro _ hw'
        obtain ⟨⟨dq, osq⟩, hw''⟩ := hw'
        subst hw''
        have hb6 := below_regrown (w5) dq osq
        generalize grow (redrawn (w5) dq) osq = w6 at *
        go_wp2
        go_roundw
        case rel => exact ⟨k + 1, by omega, by omega, by go_num, HU2, D5.trans (hb6.mono z5)⟩
        case measure => simp [intOf]; omega
    case inr =>
      obtain ⟨b', off', e9, -, hcell⟩ := HC.out (k - 1) q hq
      simp only [Option.some.injEq, Addr.mk.injEq, and_true] at e9
      obtain ⟨rfl, rfl⟩ := e9
      have HQ := Lib.hid hq
      have hN1 := N1.out
      have mp0 : (0 : Int) < (k : Int) := by omega
      have mp1 : 0 < k := by omega
      have mp2 : (0 : Int) ≤ (k : Int) - 1 := by omega
      have mp3 : (k : Int) - 1 < (xs.length : Int) := by omega
      have mp4 : ((k : Int) - 1).toNat = k - 1 := by omega
      have mp5 : IntKind.i64.wrap ((k : Int) - 1) = (k : Int) - 1 := IntWalk.i64_in _ (by omega)
      have mp6 : decide ((0 : Int) < (k : Int)) = true := decide_eq_true mp0
      clear hq
      go_wp2
      generalize wr.alloc (.cells #[.int .i64 p.pId, .int .i64 p.pStation, .int .i64 p.pWave, .int .i64 p.pTick, .int .i64 p.pError, .int .i64 p.pBy, .int .i64 p.pAfter] 76) = w0 at *
      have e0 : w0.cell? ⟨wr.heap.size, 0, none⟩ = some (.int .i64 p.pId) := bx.2 0 _ rfl
      have e1 : w0.cell? ⟨wr.heap.size, 1, none⟩ = some (.int .i64 p.pStation) := bx.2 1 _ rfl
      have e2 : w0.cell? ⟨wr.heap.size, 2, none⟩ = some (.int .i64 p.pWave) := bx.2 2 _ rfl
      have e3 : w0.cell? ⟨wr.heap.size, 3, none⟩ = some (.int .i64 p.pTick) := bx.2 3 _ rfl
      have e4 : w0.cell? ⟨wr.heap.size, 4, none⟩ = some (.int .i64 p.pError) := bx.2 4 _ rfl
      have e5 : w0.cell? ⟨wr.heap.size, 5, none⟩ = some (.int .i64 p.pBy) := bx.2 5 _ rfl
      have e6 : w0.cell? ⟨wr.heap.size, 6, none⟩ = some (.int .i64 p.pAfter) := bx.2 6 _ rfl
      have d0 : w0.cell? ⟨b, off + (k - 1) * 7, none⟩ = some (.int .i64 q.pId) := cellOf (hbl.trans (hN1.mono hsz)) (by omega) (hcell 0 _ rfl)
      have cs := fun d os => Calls.regrown_of (w := w0) (d := d) (os := os) (C1.out _)
      have sd0 := cell_regrown d0
      have rd0 := cell_regrown e0
      have rd1 := cell_regrown e1
      have rd2 := cell_regrown e2
      have rd3 := cell_regrown e3
      have rd4 := cell_regrown e4
      have rd5 := cell_regrown e5
      have rd6 := cell_regrown e6
      clear hcell
      by_cases hlt2 : q.pId < p.pId
      case neg =>
        have HF : Hid (false = u) := Lib.hid (by rw [← HR.out]; exact (atP_no2 HP.out HQ.out mp1 (by omega)).symm)
        have hge : p.pId ≤ q.pId := by omega
        refine wp_region_quiet_below (by kernel_rfl) (by kernel_rfl) ?_
        repeat (go_big_quiet_step (first | with_reducible exact cs _ _))
        refine wpQuiet_nil ?_
        intro _ hw'
        obtain ⟨⟨dq, osq⟩, hw''⟩ := hw'
        subst hw''
        have hb4 := below_regrown (w0) dq osq
        generalize grow (redrawn (w0) dq) osq = w4 at *
        go_wp2
        go_ret
        exact ⟨ret_bool HF.out, hbl.trans ((N1.out.trans (hb4.mono N1.out.size)).mono hsz)⟩
      have hge : ¬ p.pId ≤ q.pId := by omega
      have hged : decide (p.pId ≤ q.pId) = false := decide_eq_false hge
      refine wp_region_quiet_below (by kernel_rfl) (by kernel_rfl) ?_
      repeat (go_big_quiet_step (first | with_reducible exact cs _ _))
      refine wpQuiet_nil ?_
      intro _ hw'
      obtain ⟨⟨dq, osq⟩, hw''⟩ := hw'
      subst hw''
      have hb4 := below_regrown (w0) dq osq
      generalize grow (redrawn (w0) dq) osq = w4 at *
      clear cs sd0 rd0 rd1 rd2 rd3 rd4 rd5 rd6
      by_cases hz0 : p.pAfter = 0
      case pos =>
        have f6 := cellOf hb4 (cell_of_lt e6) e6
        have HU2 := Lib.hid (uptoP_succ HU.out HP.out (atP_mk HO.out (Or.inr ⟨q, HQ.out, hlt2⟩) (Or.inl hz0)))
        go_wp2
        go_roundw
        case rel => exact ⟨k + 1, by omega, by omega, by go_num, HU2, hbl.trans ((N1.out.trans (hb4.mono N1.out.size)).mono hsz)⟩
        case measure => simp [intOf]; omega
      have f6 := cellOf hb4 (cell_of_lt e6) e6
      have hnz : ¬ p.pAfter = 0 := hz0
      obtain ⟨r, hr⟩ := isIdx_ex (xs.take k) p.pAfter
      have D4 : Below w.heap.size w w4 := hbl.trans ((N1.out.trans (hb4.mono N1.out.size)).mono hsz)
      have z4 := D4.size
      have HL4 := Lib.hid (HLk.out.below (D4.mono hB))
      have HI := Lib.hid hr
      have HF1 := Lib.hid (fun d os => Calls.regrown_of (w := w4) (d := d) (os := os) (specFindB (xs.take k) _ p.pAfter r _ B (HL4.out.below ((below_regrown w4 d os).mono (by omega))) HI.out (by rw [List.length_take]; omega)))
      have cf := HF1.out
      have rf6 := cell_regrown f6
      clear hr
      go_wp2
      refine wp_region_quiet_below (by kernel_rfl) (by kernel_rfl) ?_
      repeat (go_big_quiet_step (first | with_reducible exact cf _ _))
      refine wpQuiet_nil ?_
      intro _ hw'
      obtain ⟨⟨dq, osq⟩, hw''⟩ := hw'
      subst hw''
      have hb5 := below_regrown (w4) dq osq
      generalize grow (redrawn (w4) dq) osq = w5 at *
      clear cf rf6 HF1
      have D5 : Below w.heap.size w w5 := D4.trans (hb5.mono z4)
      have z5 := D5.size
      have HL5 := Lib.hid (HLk.out.below (D5.mono hB))
      have g1 := cellOf hb5 (cell_of_lt (cellOf hb4 (cell_of_lt e1) e1)) (cellOf hb4 (cell_of_lt e1) e1)
      have g2 := cellOf hb5 (cell_of_lt (cellOf hb4 (cell_of_lt e2) e2)) (cellOf hb4 (cell_of_lt e2) e2)
      have g6 := cellOf hb5 (cell_of_lt f6) f6
      have rg1 := cell_regrown g1
      have rg2 := cell_regrown g2
      have rg6 := cell_regrown g6
      clear f6 e0 e1 e2 e3 e4 e5 e6 bx hb5 hb4
      have HIO := HI.out
      rcases HIO with ⟨rfl, -, hlk⟩ | ⟨j, s, rfl, hs, -, -, hlk⟩
      · have HF : Hid (false = u) := Lib.hid (by rw [← HR.out]; exact (atP_no3 HP.out hnz (rep_none hlk)).symm)
        go_wp2
        refine wp_region_quiet_below (by kernel_rfl) (by kernel_rfl) ?_
        repeat (go_big_quiet_step (fail))
        refine wpQuiet_nil ?_
        intro _ hw'
        obtain ⟨⟨dq, osq⟩, hw''⟩ := hw'
        subst hw''
        have hb6 := below_regrown (w5) dq osq
        generalize grow (redrawn (w5) dq) osq = w6 at *
        go_wp2
        go_ret
        exact ⟨ret_bool HF.out, D5.trans (hb6.mono z5)⟩
      have hjk : j < k := by
        have := (List.getElem?_eq_some_iff.1 hs).1
        rw [List.length_take] at this; omega
      have hs2 : xs[j]? = some s := by rw [List.getElem?_take, if_pos hjk] at hs; exact hs
      obtain ⟨b', off', e9, -, hcell⟩ := HC.out j s hs2
      simp only [Option.some.injEq, Addr.mk.injEq, and_true] at e9
      obtain ⟨rfl, rfl⟩ := e9
      have s1 : w5.cell? ⟨b, off + j * 7 + 1, none⟩ = some (.int .i64 s.pStation) := cellOf D5 (by omega) (hcell 1 _ rfl)
      have s2 : w5.cell? ⟨b, off + j * 7 + 2, none⟩ = some (.int .i64 s.pWave) := cellOf D5 (by omega) (hcell 2 _ rfl)
      have rs1 := cell_regrown s1
      have rs2 := cell_regrown s2
      have j0 : (0 : Int) ≤ (j : Int) := by omega
      have j1 : (j : Int) < (xs.length : Int) := by omega
      have j2 : ¬ (j : Int) < 0 := by omega
      have j3 : decide ((j : Int) < 0) = false := decide_eq_false j2
      have j4 : ¬ j < 0 := by omega
      have HK := Lib.hid hlk
      clear hs hs2 hcell hlk
      by_cases hst : s.pStation = p.pStation
      case neg =>
        have HF : Hid (false = u) := Lib.hid (by rw [← HR.out]; exact (atP_no3 HP.out hnz (rep_not HK.out (fun g => hst g.1.2))).symm)
        have t1 : (s.pStation == p.pStation) = false := by simp [hst]
        have t2 : (s.pStation != p.pStation) = true := by simp [hst]
        go_wp2
        refine wp_region_quiet_below (by kernel_rfl) (by kernel_rfl) ?_
        repeat (go_big_quiet_step (fail))
        refine wpQuiet_nil ?_
        intro _ hw'
        obtain ⟨⟨dq, osq⟩, hw''⟩ := hw'
        subst hw''
        have hb6 := below_regrown (w5) dq osq
        generalize grow (redrawn (w5) dq) osq = w6 at *
        go_wp2
        go_ret
        exact ⟨ret_bool HF.out, D5.trans (hb6.mono z5)⟩
      have t1 : (s.pStation == p.pStation) = true := by simp [hst]
      have t2 : (s.pStation != p.pStation) = false := by simp [hst]
      by_cases hwv : s.pWave = p.pWave
      case neg =>
        have HF : Hid (false = u) := Lib.hid (by rw [← HR.out]; exact (atP_no3 HP.out hnz (rep_not HK.out (fun g => hwv g.2))).symm)
        have t3 : (s.pWave == p.pWave) = false := by simp [hwv]
        have t4 : (s.pWave != p.pWave) = true := by simp [hwv]
        have HST := Lib.hid hst
        clear hst
        go_wp2
        refine wp_region_quiet_below (by kernel_rfl) (by kernel_rfl) ?_
        repeat (go_big_quiet_step (fail))
        refine wpQuiet_nil ?_
        intro _ hw'
        obtain ⟨⟨dq, osq⟩, hw''⟩ := hw'
        subst hw''
        have hb6 := below_regrown (w5) dq osq
        generalize grow (redrawn (w5) dq) osq = w6 at *
        go_wp2
        go_ret
        exact ⟨ret_bool HF.out, D5.trans (hb6.mono z5)⟩
      have t3 : (s.pWave == p.pWave) = true := by simp [hwv]
      have t4 : (s.pWave != p.pWave) = false := by simp [hwv]
      have HST := Lib.hid hst
      have HWV := Lib.hid hwv
      clear hst hwv
      cases hcu : curB (xs.take k) p.pAfter with
      | false =>
        have HF : Hid (false = u) := Lib.hid (by rw [← HR.out]; exact (atP_no3 HP.out hnz (rep_not HK.out (fun g => absurd (g.1.1.symm.trans hcu) (by simp)))).symm)
        have HCU := Lib.hid hcu
        have cf := fun d os => Calls.regrown_of (w := w5) (d := d) (os := os) (specCurBB (xs.take k) _ p.pAfter false _ B (HL5.out.below ((below_regrown w5 d os).mono (by omega))) HCU.out (by rw [List.length_take]; omega))
        clear hcu
        go_wp2
        refine wp_region_quiet_below (by kernel_rfl) (by kernel_rfl) ?_
        repeat (go_big_quiet_step (first | with_reducible exact cf _ _))
        refine wpQuiet_nil ?_
        intro _ hw'
        obtain ⟨⟨dq, osq⟩, hw''⟩ := hw'
        subst hw''
        have hb6 := below_regrown (w5) dq osq
        generalize grow (redrawn (w5) dq) osq = w6 at *
        go_wp2
        go_ret
        exact ⟨ret_bool HF.out, D5.trans (hb6.mono z5)⟩
      | true =>
        have HU2 := Lib.hid (uptoP_succ HU.out HP.out (atP_mk HO.out (Or.inr ⟨q, HQ.out, hlt2⟩) (Or.inr ⟨s, HK.out, ⟨hcu, HST.out⟩, HWV.out⟩)))
        have HCU := Lib.hid hcu
        have cf := fun d os => Calls.regrown_of (w := w5) (d := d) (os := os) (specCurBB (xs.take k) _ p.pAfter true _ B (HL5.out.below ((below_regrown w5 d os).mono (by omega))) HCU.out (by rw [List.length_take]; omega))
        clear hcu
        go_wp2
        refine wp_region_quiet_below (by kernel_rfl) (by kernel_rfl) ?_
        repeat (go_big_quiet_step (first | with_reducible exact cf _ _))
        refine wpQuiet_nil ?_
        intro _ hw'
        obtain ⟨⟨dq, osq⟩, hw''⟩ := hw'
        subst hw''
        have hb6 := below_regrown (w5) dq osq
        generalize grow (redrawn (w5) dq) osq = w6 at *
        go_wp2
        go_roundw
        case rel => exact ⟨k + 1, by omega, by omega, by go_num, HU2, D5.trans (hb6.mono z5)⟩
        case measure => simp [intOf]; omega
end Go.Proofs.Ytklilfbokpljkaa
