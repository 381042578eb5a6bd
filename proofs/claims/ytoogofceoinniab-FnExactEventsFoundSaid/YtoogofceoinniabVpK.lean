/- Votes: the program's best ballot of a grid, and the events. -/
import Derived.Test.YtoogofceoinniabVpJ
import Derived.Test.YtoogofceoinniabVpG
import Derived.Test.YtoogofceoinniabVoH
namespace Go.Proofs.Ytoogofceoinniab
open Go.ChangeShapes Go.WideShapes Go.ChangeAt Go.RowKit Go.ChangeMaps Go.Sort Go.Shelf
set_option linter.unusedSimpArgs false
set_option linter.unusedVariables false
set_option linter.unusedSimpArgs false
set_option linter.unusedVariables false

set_option maxRecDepth 100000 in
set_option maxHeartbeats 4000000 in
theorem implBest (xs : List GArrival) (v : Value) (step : Int) (p : GOrigin × Int) (w : World) (B : Nat) (h : ArrivalL w B v xs) (hB : B ≤ w.heap.size) (hok : okArs xs) (hs : 50 ≤ step ∧ step ≤ 500) (hp : bestV xs step = p) :
    Calls Try.prog 77 #[v, .int .i64 step] w fun e w' => e = .returned (aggB p.1 p.2) ∧ Below w.heap.size w w' := by
  obtain ⟨⟨px, py, pt⟩, pn⟩ := p
  have HP := Lib.hid hp
  have HOK := Lib.hid hok
  have HS := Lib.hid hs
  have hl8 := hok.2
  have CM := Lib.hid (fun W x y m (q : Below w.heap.size w W) hx hy hm => implMost xs v x y m W B (h.below (q.mono hB)) (Nat.le_trans hB q.size) hok hx hy hm)
  obtain ⟨hs0, hs1⟩ := hs
  obtain ⟨ao, cap, rfl⟩ := h.form
  clear h hok hp
  go_enter Try.func77, Try.ntmps77
  go_wp2
  have N0 : Below w.heap.size w ((w.alloc (.cells #[.int .i64 0, .int .i64 0, .int .i64 0, .int .i64 0] 93)).alloc (.cells #[.int .i64 0, .int .i64 0, .int .i64 0, .int .i64 0] 93)) := ((Below.refl w.heap.size w).alloc (Nat.le_refl _) _).alloc (by first | omega | (simp; done) | (simp; omega)) _
  have bR := (Bx.new w [.int .i64 0, .int .i64 0, .int .i64 0, .int .i64 0] 93).alloc (.cells #[.int .i64 0, .int .i64 0, .int .i64 0, .int .i64 0] 93)
  have bB := Bx.new1 w (.cells #[.int .i64 0, .int .i64 0, .int .i64 0, .int .i64 0] 93) [.int .i64 0, .int .i64 0, .int .i64 0, .int .i64 0] 93
  generalize (w.alloc (.cells #[.int .i64 0, .int .i64 0, .int .i64 0, .int .i64 0] 93)).alloc (.cells #[.int .i64 0, .int .i64 0, .int .i64 0, .int .i64 0] 93) = W0 at *
  go_loopw [6] (fun x wr => ∃ (i : Nat) (X ox oy ot n : Int), x = .int .i64 X ∧ (0 ≤ X ∧ X ≤ 1500) ∧ (0 ≤ n ∧ n ≤ 8) ∧ i ≤ cntV step ∧ Hid (X = (i : Int) * step) ∧ Hid (gridV xs step i = (⟨ox, oy, ot⟩, n)) ∧ Bx wr w.heap.size [.int .i64 0, .int .i64 0, .int .i64 0, .int .i64 0] ∧ Bx wr (w.heap.size + 1) [.int .i64 ox, .int .i64 oy, .int .i64 ot, .int .i64 n] ∧ Below w.heap.size w wr)
    (fun x _ => 2000 - (intOf x).toNat)
  case atStart => exact ⟨0, 0, 0, 0, 0, 0, rfl, by omega, by omega, Nat.zero_le _, Lib.hid (by simp), Lib.hid rfl, bR, bB, N0⟩
  case round =>
    obtain ⟨i, X, ox, oy, ot, n, rfl, ⟨hX0, hX1⟩, ⟨hn0, hn1⟩, hi, HX, HG, bR1, bB1, hbl⟩ := hrel
    have hsz := hbl.size
    clear bR bB N0
    by_cases hlt : X ≤ 999
    case neg =>
      have hic : i = cntV step := by
        have := mt (cnt_in HS.out HX.out).2 hlt
        omega
      have HE : Hid ((⟨ox, oy, ot⟩, n) = ((⟨px, py, pt⟩, pn) : GOrigin × Int)) := Lib.hid (by rw [← HP.out, ← HG.out, hic]; rfl)
      have e1 := HE.out
      simp only [Prod.mk.injEq, GOrigin.mk.injEq] at e1
      obtain ⟨⟨rfl, rfl, rfl⟩, rfl⟩ := e1
      have r0 := bR1.2 0 _ rfl
      have r1 := bR1.2 1 _ rfl
      have r2 := bR1.2 2 _ rfl
      have r3 := bR1.2 3 _ rfl
      have b0 := bB1.2 0 _ rfl
      have b1 := bB1.2 1 _ rfl
      have b2 := bB1.2 2 _ rfl
      have b3 := bB1.2 3 _ rfl
      have rf := bR1.1.2
      clear hic HE HG
      go_wp2
      change bodyPost _ _ _ _ _ (putCells wr w.heap.size 0 [.int .i64 ox, .int .i64 oy, .int .i64 ot, .int .i64 n] 0)
      have bw := bR1.puts (ds := [.int .i64 ox, .int .i64 oy, .int .i64 ot, .int .i64 n]) rfl
      have BW := below_putCells hbl (b := w.heap.size) (Nat.le_refl _) 0 [.int .i64 ox, .int .i64 oy, .int .i64 ot, .int .i64 n] 0
      generalize putCells wr w.heap.size 0 [.int .i64 ox, .int .i64 oy, .int .i64 ot, .int .i64 n] 0 = wf at *
      have y0 := bw.2 0 _ rfl
      have y1 := bw.2 1 _ rfl
      have y2 := bw.2 2 _ rfl
      have y3 := bw.2 3 _ rfl
      exact bodyPost_ret (v := .agg #[.int .i64 ox, .int .i64 oy, .int .i64 ot, .int .i64 n]) (by simp [results, Try.results77, go_sem, y0, y1, y2, y3]) rfl ⟨rfl, BW⟩
    have hlt' : i < cntV step := (cnt_in HS.out HX.out).1 hlt
    go_wp2
    go_loopw [7] (fun y wr => ∃ (j : Nat) (Y ox oy ot n : Int), y = .int .i64 Y ∧ (0 ≤ Y ∧ Y ≤ 1500) ∧ (0 ≤ n ∧ n ≤ 8) ∧ j ≤ cntV step ∧ Hid (Y = (j : Int) * step) ∧ Hid (lineV xs step X (gridV xs step i) j = (⟨ox, oy, ot⟩, n)) ∧ Bx wr w.heap.size [.int .i64 0, .int .i64 0, .int .i64 0, .int .i64 0] ∧ Bx wr (w.heap.size + 1) [.int .i64 ox, .int .i64 oy, .int .i64 ot, .int .i64 n] ∧ Below w.heap.size w wr)
      (fun y _ => 2000 - (intOf y).toNat)
    case atStart => exact ⟨0, 0, ox, oy, ot, n, rfl, by omega, by omega, Nat.zero_le _, Lib.hid (by simp), Lib.hid HG.out, bR1, bB1, hbl⟩
    case round =>
      clear bR1 bB1 hbl hsz HG hn0 hn1
      obtain ⟨j, Y, ox, oy, ot, n, rfl, ⟨hY0, hY1⟩, ⟨hn0, hn1⟩, hj, HY, HL, bR1, bB1, hbl⟩ := hrel
      have hsz := hbl.size
      by_cases hlt2 : Y ≤ 999
      case neg =>
        have hjc : j = cntV step := by
          have := mt (cnt_in HS.out HY.out).2 hlt2
          omega
        have HG2 : Hid (gridV xs step (i + 1) = (⟨ox, oy, ot⟩, n)) := Lib.hid (by rw [← HL.out, hjc, HX.out]; rfl)
        have HX2 := Lib.hid (step_next HX.out)
        clear hjc
        go_wp2
        go_roundw
        case rel => exact ⟨i + 1, X + step, ox, oy, ot, n, by go_num, by omega, by omega, by omega, HX2, HG2, bR1, bB1, hbl⟩
        case measure => simp [intOf]; omega
      have hlt2' : j < cntV step := (cnt_in HS.out HY.out).1 hlt2
      have HBD := mostV_bd HOK.out ⟨hX0, hlt⟩ ⟨hY0, hlt2⟩ xs.length (Nat.le_refl _)
      have h2 := balB_two X Y (mostV xs X Y xs.length)
      rw [← topB_eq] at h2
      obtain ⟨⟨⟨tx, ty, tt⟩, m⟩, hm⟩ : ∃ p, topB xs X Y = p := ⟨_, rfl⟩
      rw [hm] at h2
      have hm0 : 0 ≤ m ∧ m ≤ 8 := by
        have e : m = (mostV xs X Y xs.length).1 := h2
        rw [e]; exact HBD.1
      obtain ⟨m0, m1⟩ := hm0
      have HM := Lib.hid hm
      have HY2 := Lib.hid (step_next HY.out)
      have HLS : Hid (lineV xs step X (gridV xs step i) (j + 1) = if n < m then (⟨tx, ty, tt⟩, m) else (⟨ox, oy, ot⟩, n)) := Lib.hid (by
        have e : lineV xs step X (gridV xs step i) (j + 1) = pickV xs X Y (⟨ox, oy, ot⟩, n) := by rw [← HL.out, HY.out]; rfl
        rw [e, pick_top hn0, hm])
      clear hm h2 HBD
      go_wp2_with fail
      refine (CM.out _ X Y _ hbl ⟨hX0, hlt⟩ ⟨hY0, hlt2⟩ HM.out).mono ?_
      rintro e w1 ⟨rfl, hb1⟩
      have N1 := hbl.trans (hb1.mono hsz)
      have bR2 := bR1.below hb1
      have bB2 := bB1.below hb1
      clear bR1 bB1 hbl hb1
      obtain ⟨W2, hW2⟩ : ∃ W2, w1.alloc (.cells #[.int .i64 tx, .int .i64 ty, .int .i64 tt, .int .i64 m] 93) = W2 := ⟨_, rfl⟩
      have A2 : Below w1.heap.size w1 W2 := hW2 ▸ (Below.refl _ _).alloc (Nat.le_refl _) _
      have bH : Bx W2 w1.heap.size [.int .i64 tx, .int .i64 ty, .int .i64 tt, .int .i64 m] := hW2 ▸ Bx.new w1 [.int .i64 tx, .int .i64 ty, .int .i64 tt, .int .i64 m] 93
      have N2 := N1.trans (A2.mono N1.size)
      have bR3 := bR2.below A2
      have bB3 := bB2.below A2
      have hlt9 : w.heap.size + 1 < w1.heap.size := bB2.1.1
      clear bR2 bB2 A2
      have h0 := bH.2 0 _ rfl
      have h1 := bH.2 1 _ rfl
      have h2 := bH.2 2 _ rfl
      have h3 := bH.2 3 _ rfl
      have b0 := bB3.2 0 _ rfl
      have b1 := bB3.2 1 _ rfl
      have b2 := bB3.2 2 _ rfl
      have b3 := bB3.2 3 _ rfl
      have bf := bB3.1.2
      by_cases hq : n < m
      case neg =>
        have HL2 : Hid (lineV xs step X (gridV xs step i) (j + 1) = (⟨ox, oy, ot⟩, n)) := Lib.hid (by rw [HLS.out, if_neg hq])
        go_wp2
        go_roundw
        case rel => exact ⟨j + 1, Y + step, ox, oy, ot, n, by go_num, by omega, by omega, by omega, HY2, HL2, bR3, bB3, N2⟩
        case measure => simp [intOf]; omega
      case pos =>
        have HL2 : Hid (lineV xs step X (gridV xs step i) (j + 1) = (⟨tx, ty, tt⟩, m)) := Lib.hid (by rw [HLS.out, if_pos hq])
        have bB4 := bB3.puts (ds := [.int .i64 tx, .int .i64 ty, .int .i64 tt, .int .i64 m]) rfl
        have bR4 := bR3.putsOther (g := w.heap.size + 1) (by omega) [.int .i64 tx, .int .i64 ty, .int .i64 tt, .int .i64 m] 0
        have N4 := below_putCells N2 (b := w.heap.size + 1) (by omega) 0 [.int .i64 tx, .int .i64 ty, .int .i64 tt, .int .i64 m] 0
        go_wp2
        go_roundw
        case rel => exact ⟨j + 1, Y + step, tx, ty, tt, m, by go_num, by omega, by omega, by omega, HY2, HL2, bR4, bB4, N4⟩
        case measure => simp [intOf]; omega
end Go.Proofs.Ytoogofceoinniab
