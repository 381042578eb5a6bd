/- Picks: the current ones, and those of a station and a wave. -/
import Derived.Test.YtklilfbokpljkaaPqO
namespace Go.Proofs.Ytklilfbokpljkaa
open Go.ChangeShapes Go.WideShapes Go.ChangeAt Go.RowKit Go.ChangeMaps Go.Sort Go.Shelf
set_option linter.unusedSimpArgs false
set_option linter.unusedVariables false

theorem enters_curOf : ∀ args w, (callFunc 177 args).run Try.prog w = .ok (.enter 177 args) w := enters_of Try.func177 (by kernel_rfl) rfl
theorem enters_curAt : ∀ args w, (callFunc 175 args).run Try.prog w = .ok (.enter 175 args) w := enters_of Try.func175 (by kernel_rfl) rfl
set_option maxHeartbeats 1000000 in
theorem testCurOf (xs : List GPick) (v : Value) (bl L B : Nat) (w : World) (hc : w.cell? ⟨bl, 0, none⟩ = some v) (hL : bl < L) (h : PickL w B v xs) (hBL : B ≤ L) (hLw : L ≤ w.heap.size) (hn : xs.length ≤ 1048576) : TestP 177 #[.pointer (some ⟨bl, 0, none⟩)] (fun s => !curB xs s.pId) L w := by
  intro W s hW
  have hc' : W.cell? ⟨bl, 0, none⟩ = some v := cellOf hW hL hc
  show Calls _ _ #[.agg #[.int .i64 s.pId, .int .i64 s.pStation, .int .i64 s.pWave, .int .i64 s.pTick, .int .i64 s.pError, .int .i64 s.pBy, .int .i64 s.pAfter], .pointer (some ⟨bl, 0, none⟩)] _ _
  have hlt := cell_of_lt hc'
  generalize hcu : curB xs s.pId = c
  have HV : Hid ((!c) = !curB xs s.pId) := Lib.hid (by rw [hcu])
  have N1 := Lib.hid (below_cell (w := W) (Nat.le_refl _) (.cells #[.int .i64 s.pId, .int .i64 s.pStation, .int .i64 s.pWave, .int .i64 s.pTick, .int .i64 s.pError, .int .i64 s.pBy, .int .i64 s.pAfter] 76))
  have bx : Bx (W.alloc (.cells #[.int .i64 s.pId, .int .i64 s.pStation, .int .i64 s.pWave, .int .i64 s.pTick, .int .i64 s.pError, .int .i64 s.pBy, .int .i64 s.pAfter] 76)) W.heap.size (encPick s) := Bx.new W (encPick s) 76
  have C := Lib.hid (implCur xs v s c (W.alloc (.cells #[.int .i64 s.pId, .int .i64 s.pStation, .int .i64 s.pWave, .int .i64 s.pTick, .int .i64 s.pError, .int .i64 s.pBy, .int .i64 s.pAfter] 76)) B ((h.below (hW.mono hBL)).below (N1.out.mono (Nat.le_trans hBL (Nat.le_trans hLw hW.size)))) (Nat.le_trans (Nat.le_trans hBL (Nat.le_trans hLw hW.size)) N1.out.size) hn hcu)
  obtain ⟨ao, cap, rfl⟩ := h.form
  clear hW hc h hcu
  go_enter Try.func177, Try.ntmps177
  go_wp2_with fail
  refine C.out.mono ?_
  rintro e w1 ⟨rfl, hb⟩
  go_wp2
  go_ret
  exact ⟨ret_bool HV.out, N1.out.trans (hb.mono N1.out.size)⟩
set_option maxHeartbeats 1000000 in
theorem testCurAt (st wv : Int) (b1 b2 L : Nat) (w : World) (hc1 : w.cell? ⟨b1, 0, none⟩ = some (.int .i64 st)) (hc2 : w.cell? ⟨b2, 0, none⟩ = some (.int .i64 wv)) (hL1 : b1 < L) (hL2 : b2 < L) : TestP 175 #[.pointer (some ⟨b1, 0, none⟩), .pointer (some ⟨b2, 0, none⟩)] (fun s => !(decide (s.pStation = st) && decide (s.pWave = wv))) L w := by
  intro W s hW
  have hc1' : W.cell? ⟨b1, 0, none⟩ = some (.int .i64 st) := cellOf hW hL1 hc1
  have hc2' : W.cell? ⟨b2, 0, none⟩ = some (.int .i64 wv) := cellOf hW hL2 hc2
  show Calls _ _ #[.agg #[.int .i64 s.pId, .int .i64 s.pStation, .int .i64 s.pWave, .int .i64 s.pTick, .int .i64 s.pError, .int .i64 s.pBy, .int .i64 s.pAfter], .pointer (some ⟨b1, 0, none⟩), .pointer (some ⟨b2, 0, none⟩)] _ _
  have hlt1 := cell_of_lt hc1'
  have hlt2 := cell_of_lt hc2'
  clear hW hc1 hc2
  by_cases h1 : s.pStation = st
  case neg =>
    have HV : Hid (true = (!decide (s.pStation = st) || !decide (s.pWave = wv))) := Lib.hid (by simp [h1])
    have t1 : (s.pStation == st) = false := by simp [h1]
    have t2 : (s.pStation != st) = true := by simp [h1]
    clear h1
    go_enter Try.func175, Try.ntmps175
    go_wp2
    go_ret
    exact ⟨ret_bool HV.out, below_cell (Nat.le_refl _) _⟩
  by_cases h2 : s.pWave = wv
  case neg =>
    have HV : Hid (true = (!decide (s.pStation = st) || !decide (s.pWave = wv))) := Lib.hid (by simp [h2])
    have t1 : (s.pStation == st) = true := by simp [h1]
    have t2 : (s.pStation != st) = false := by simp [h1]
    have t3 : (s.pWave == wv) = false := by simp [h2]
    have t4 : (s.pWave != wv) = true := by simp [h2]
    clear h1 h2
    go_enter Try.func175, Try.ntmps175
    go_wp2
    go_ret
    exact ⟨ret_bool HV.out, below_cell (Nat.le_refl _) _⟩
  have HV : Hid (false = (!decide (s.pStation = st) || !decide (s.pWave = wv))) := Lib.hid (by simp [h1, h2])
  have t1 : (s.pStation == st) = true := by simp [h1]
  have t2 : (s.pStation != st) = false := by simp [h1]
  have t3 : (s.pWave == wv) = true := by simp [h2]
  have t4 : (s.pWave != wv) = false := by simp [h2]
  clear h1 h2
  go_enter Try.func175, Try.ntmps175
  go_wp2
  go_ret
  exact ⟨ret_bool HV.out, below_cell (Nat.le_refl _) _⟩
theorem keep_cur (xs : List GPick) : keepP (fun s => !curB xs s.pId) xs = curL xs := by
  unfold keepP curL; congr 1; funext s; simp
theorem keep_sel (xs : List GPick) (st wv : Int) : keepP (fun s => !(decide (s.pStation = st) && decide (s.pWave = wv))) (curL xs) = selL xs st wv := by
  unfold keepP selL; congr 1; funext s; rw [Bool.not_not]
set_option maxHeartbeats 1000000 in
theorem implCurOf (xs : List GPick) (v : Value) (w : World) (B : Nat) (h : PickL w B v xs) (hB : B ≤ w.heap.size) (hn : xs.length ≤ 1048576) :
    Calls Try.prog 153 #[v] w fun e w' => ∃ v', e = .returned v' ∧ PickO w' w.heap.size w'.heap.size v' (curL xs) ∧ Below w.heap.size w w' := by
  have N1 := Lib.hid (below_cell (w := w) (Nat.le_refl _) (.cells #[v] 63))
  have bx := Bx.new w [v] 63
  have HL := Lib.hid h
  have HC := Lib.hid (clonePick xs v _ B (h.below (N1.out.mono hB)) (Nat.le_trans hB N1.out.size) hn)
  obtain ⟨ao, cap, rfl⟩ := h.form
  clear h
  go_enter Try.func153, Try.ntmps153
  go_wp2_with fail
  refine HC.out.mono ?_
  rintro e w1 ⟨v1, rfl, ho, hb⟩
  have C1 := N1.out.trans (hb.mono N1.out.size)
  have c0 := (bx.below hb).2 0 _ rfl
  have z1 := hb.size
  have z2 : w.heap.size + 1 ≤ w1.heap.size := by simpa using z1
  have HT := testCurOf xs _ w.heap.size (w.heap.size + 1) B w1 c0 (by omega) (HL.out.below (C1.mono hB)) (by omega) z2 hn
  have HD := Lib.hid (delFn _ _ _ enters_curOf xs v1 w1 (w.heap.size + 1) (by simpa using ho) z2 hn HT)
  clear bx c0 hb ho HT
  go_wp2_with fail
  refine HD.out.mono ?_
  rintro e w2 ⟨v2, rfl, ho, hb⟩
  rw [keep_cur] at ho
  go_wp2
  go_ret
  exact ⟨_, rfl, ho.mono (by omega) (Nat.le_refl _), C1.trans (hb.mono (by omega))⟩
set_option maxHeartbeats 1000000 in
theorem implCurAt (xs : List GPick) (v : Value) (st wv : Int) (w : World) (B : Nat) (h : PickL w B v xs) (hB : B ≤ w.heap.size) (hn : xs.length ≤ 1048576) :
    Calls Try.prog 150 #[v, .int .i64 st, .int .i64 wv] w fun e w' => ∃ v', e = .returned v' ∧ PickO w' w.heap.size w'.heap.size v' (selL xs st wv) ∧ Below w.heap.size w w' := by
  have N2 : Hid (Below w.heap.size w ((w.alloc (.cells #[.int .i64 st] 3)).alloc (.cells #[.int .i64 wv] 3))) := Lib.hid ((below_cell (w := w) (Nat.le_refl _) (.cells #[.int .i64 st] 3)).alloc (by first | omega | (simp; done) | (simp; omega)) _)
  have b1 := (Bx.new w [.int .i64 st] 3).alloc (.cells #[.int .i64 wv] 3)
  have b2 := Bx.new1 w (.cells #[.int .i64 st] 3) [.int .i64 wv] 3
  have HL := Lib.hid h
  have HC := Lib.hid (implCurOf xs v _ B (h.below (N2.out.mono hB)) (Nat.le_trans hB N2.out.size) hn)
  obtain ⟨ao, cap, rfl⟩ := h.form
  clear h
  go_enter Try.func150, Try.ntmps150
  go_wp2_with fail
  refine HC.out.mono ?_
  rintro e w1 ⟨v1, rfl, ho, hb⟩
  have C1 := N2.out.trans (hb.mono N2.out.size)
  have c1 := (b1.below hb).2 0 _ rfl
  have c2 := (b2.below hb).2 0 _ rfl
  have z1 := hb.size
  have z2 : w.heap.size + 2 ≤ w1.heap.size := by simpa using z1
  have HT := testCurAt st wv w.heap.size (w.heap.size + 1) (w.heap.size + 2) w1 c1 c2 (by omega) (by omega)
  have HD := Lib.hid (delFn _ _ _ enters_curAt (curL xs) v1 w1 (w.heap.size + 2) (by simpa using ho) z2 (Nat.le_trans (curL_len xs) hn) HT)
  clear b1 b2 c1 c2 hb ho HT
  go_wp2_with fail
  refine HD.out.mono ?_
  rintro e w2 ⟨v2, rfl, ho, hb⟩
  rw [keep_sel] at ho
  go_wp2
  go_ret
  exact ⟨_, rfl, ho.mono (by omega) (Nat.le_refl _), C1.trans (hb.mono (by omega))⟩
end Go.Proofs.Ytklilfbokpljkaa
