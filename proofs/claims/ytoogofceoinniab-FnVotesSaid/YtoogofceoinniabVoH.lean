/- Votes: the specification's best origin of a grid, and the events. -/
import Derived.Test.YtoogofceoinniabVoF
namespace Go.Proofs.Ytoogofceoinniab
open Go.ChangeShapes Go.WideShapes Go.ChangeAt Go.RowKit Go.ChangeMaps Go.Sort
set_option linter.unusedSimpArgs false
set_option linter.unusedVariables false
set_option linter.unusedSimpArgs false
set_option linter.unusedVariables false

theorem specStepA (xs : List GArrival) (v : Value) (step : Int) (u : Bool) (w : World) (B : Nat) (h : ArrivalL w B v xs) (hB : B ≤ w.heap.size) (hn : xs.length ≤ 1048576) (hu : askBg xs step = u) :
    Calls Try.prog 74 #[v, .int .i64 step] w fun e w' => e = .returned (.bool u) ∧ Below w.heap.size w w' := by
  unfold askBg at hu
  cases hg : goodAr xs with
  | false =>
    have C := Lib.hid (specGoodA xs v false w B h hB hn hg)
    rw [hg, Bool.false_and] at hu
    subst hu
    obtain ⟨ao, cap, rfl⟩ := h.form
    clear h hg
    go_enter Try.func74, Try.ntmps74
    go_wp2_with fail
    refine C.out.mono ?_
    rintro e w1 ⟨rfl, hb⟩
    go_wp2
    go_ret
    exact ⟨rfl, hb⟩
  | true =>
    have C := Lib.hid (specGoodA xs v true w B h hB hn hg)
    rw [hg, Bool.true_and] at hu
    have CI := Lib.hid (fun W => specIn step 50 500 u W hu)
    obtain ⟨ao, cap, rfl⟩ := h.form
    clear h hg hu
    go_enter Try.func74, Try.ntmps74
    go_wp2_with fail
    refine C.out.mono ?_
    rintro e w1 ⟨rfl, hb⟩
    go_wp2_with fail
    refine (CI.out _).mono ?_
    rintro e w2 ⟨rfl, q2⟩
    subst q2
    go_wp2
    go_ret
    exact ⟨rfl, hb⟩
theorem pickV_up {xs : List GArrival} {x y m t : Int} {b : GOrigin × Int} (hm : (mostV xs x y xs.length).1 = m) (ht : (mostV xs x y xs.length).2 = t) (h : b.2 < m) : pickV xs x y b = (⟨x, y, t⟩, m) := by
  unfold pickV
  rw [hm, ht, if_pos h]
theorem pickV_no {xs : List GArrival} {x y m : Int} {b : GOrigin × Int} (hm : (mostV xs x y xs.length).1 = m) (h : ¬ b.2 < m) : pickV xs x y b = b := by
  unfold pickV
  rw [hm, if_neg h]
theorem step_next {i : Nat} {X step : Int} (h : X = (i : Int) * step) : X + step = ((i + 1 : Nat) : Int) * step := by rw [h, Int.natCast_add, Int.add_mul]; simp
theorem cnt_in {step : Int} (hs : 50 ≤ step ∧ step ≤ 500) {i : Nat} {X : Int} (h : X = (i : Int) * step) : X ≤ 999 ↔ i < cntV step := by rw [h]; exact cnt_le hs i
set_option maxRecDepth 100000 in
set_option maxHeartbeats 4000000 in
theorem specBest (xs : List GArrival) (v : Value) (step : Int) (p : GOrigin × Int) (w : World) (B : Nat) (h : ArrivalL w B v xs) (hB : B ≤ w.heap.size) (hok : okArs xs) (hs : 50 ≤ step ∧ step ≤ 500) (hp : bestV xs step = p) :
    Calls Try.prog 75 #[v, .int .i64 step] w fun e w' => e = .returned (.tuple #[aggO p.1, .int .i64 p.2]) ∧ Below w.heap.size w w' := by
  obtain ⟨⟨px, py, pt⟩, pn⟩ := p
  have HP := Lib.hid hp
  have HOK := Lib.hid hok
  have HS := Lib.hid hs
  have hl8 := hok.2
  have CM := Lib.hid (fun W x y m t (q : Below w.heap.size w W) hx hy hm ht => specMost xs v x y m t W B (h.below (q.mono hB)) (Nat.le_trans hB q.size) hok hx hy hm ht)
  obtain ⟨hs0, hs1⟩ := hs
  obtain ⟨W0, hW0⟩ : ∃ W0, (w.alloc (.cells #[.int .i64 0, .int .i64 0, .int .i64 0] 30)).alloc (.cells #[.int .i64 0, .int .i64 0, .int .i64 0] 30) = W0 := ⟨_, rfl⟩
  have N0 : Below w.heap.size w W0 := hW0 ▸ ((Below.refl w.heap.size w).alloc (Nat.le_refl _) _).alloc (by first | omega | (simp; done) | (simp; omega)) _
  have bR : Bx W0 w.heap.size [.int .i64 0, .int .i64 0, .int .i64 0] := hW0 ▸ (Bx.new w [.int .i64 0, .int .i64 0, .int .i64 0] 30).alloc _
  have bB : Bx W0 (w.heap.size + 1) [.int .i64 0, .int .i64 0, .int .i64 0] := hW0 ▸ Bx.new1 w (.cells #[.int .i64 0, .int .i64 0, .int .i64 0] 30) [.int .i64 0, .int .i64 0, .int .i64 0] 30
  obtain ⟨ao, cap, rfl⟩ := h.form
  clear h hok hp
  have b0 := bB.2 0 _ rfl
  have b1 := bB.2 1 _ rfl
  have b2 := bB.2 2 _ rfl
  have bf := bB.1.2
  go_enter Try.func75, Try.ntmps75
  go_wp2
  have bB9 := bB.put3 (.int .i64 0) (.int .i64 0) (.int .i64 0)
  have bR9 := bR.other3 (g := w.heap.size + 1) (by omega) (.int .i64 0) (.int .i64 0) (.int .i64 0)
  have N9 := ((N0.setCell (p := ⟨w.heap.size + 1, 0, none⟩) (by first | omega | (simp; done) | (simp; omega)) (.int .i64 0)).setCell (p := ⟨w.heap.size + 1, 1, none⟩) (by first | omega | (simp; done) | (simp; omega)) (.int .i64 0)).setCell (p := ⟨w.heap.size + 1, 2, none⟩) (by first | omega | (simp; done) | (simp; omega)) (.int .i64 0)
  generalize ((W0.setCell ⟨w.heap.size + 1, 0, none⟩ (.int .i64 0)).setCell ⟨w.heap.size + 1, 1, none⟩ (.int .i64 0)).setCell ⟨w.heap.size + 1, 2, none⟩ (.int .i64 0) = W9 at *
  clear hW0 b0 b1 b2 bf bB bR N0
  go_loopw [7, 8] (fun m x wr => ∃ (i : Nat) (X ox oy ot n : Int), x = .int .i64 X ∧ m = .int .i64 n ∧ (0 ≤ X ∧ X ≤ 1500) ∧ (0 ≤ n ∧ n ≤ 8) ∧ i ≤ cntV step ∧ Hid (X = (i : Int) * step) ∧ Hid (gridV xs step i = (⟨ox, oy, ot⟩, n)) ∧ Bx wr w.heap.size [.int .i64 0, .int .i64 0, .int .i64 0] ∧ Bx wr (w.heap.size + 1) [.int .i64 ox, .int .i64 oy, .int .i64 ot] ∧ Below w.heap.size w wr)
    (fun _ x _ => 2000 - (intOf x).toNat)
  case atStart => exact ⟨0, 0, 0, 0, 0, 0, rfl, rfl, by omega, by omega, Nat.zero_le _, Lib.hid (by simp), Lib.hid rfl, bR9, bB9, N9⟩
  case round =>
    obtain ⟨i, X, ox, oy, ot, n, rfl, rfl, ⟨hX0, hX1⟩, ⟨hn0, hn1⟩, hi, HX, HG, bR1, bB1, hbl⟩ := hrel
    have hsz := hbl.size
    clear bR9 bB9 N9
    by_cases hlt : X ≤ 999
    case neg =>
      have hic : i = cntV step := by
        have := mt (cnt_in HS.out HX.out).2 hlt
        omega
      have HE : Hid ((⟨ox, oy, ot⟩, n) = ((⟨px, py, pt⟩, pn) : GOrigin × Int)) := Lib.hid (by rw [← HP.out, ← HG.out, hic]; rfl)
      have e1 := HE.out
      simp only [Prod.mk.injEq, GOrigin.mk.injEq] at e1
      obtain ⟨⟨rfl, rfl, rfl⟩, rfl⟩ := e1
      have r0 := bR1.2 0 _ rfl
      have r1 := bR1.2 1 _ rfl
      have r2 := bR1.2 2 _ rfl
      have b0 := bB1.2 0 _ rfl
      have b1 := bB1.2 1 _ rfl
      have b2 := bB1.2 2 _ rfl
      have rf := bR1.1.2
      clear hic HE HG
      go_wp2
      have bR3 := bR1.put3 (.int .i64 ox) (.int .i64 oy) (.int .i64 ot)
      have N3 := ((hbl.setCell (p := ⟨w.heap.size, 0, none⟩) (by first | omega | (simp; done) | (simp; omega)) (.int .i64 ox)).setCell (p := ⟨w.heap.size, 1, none⟩) (by first | omega | (simp; done) | (simp; omega)) (.int .i64 oy)).setCell (p := ⟨w.heap.size, 2, none⟩) (by first | omega | (simp; done) | (simp; omega)) (.int .i64 ot)
      generalize ((wr.setCell ⟨w.heap.size, 0, none⟩ (.int .i64 ox)).setCell ⟨w.heap.size, 1, none⟩ (.int .i64 oy)).setCell ⟨w.heap.size, 2, none⟩ (.int .i64 ot) = wf at *
      have y0 := bR3.2 0 _ rfl
      have y1 := bR3.2 1 _ rfl
      have y2 := bR3.2 2 _ rfl
      exact bodyPost_ret (v := .tuple #[.agg #[.int .i64 ox, .int .i64 oy, .int .i64 ot], .int .i64 n]) (by simp [results, Try.results75, go_sem, y0, y1, y2]) rfl ⟨rfl, N3⟩
    have hlt' : i < cntV step := (cnt_in HS.out HX.out).1 hlt
    go_wp2
    go_loopw [7, 9] (fun m y wr => ∃ (j : Nat) (Y ox oy ot n : Int), y = .int .i64 Y ∧ m = .int .i64 n ∧ (0 ≤ Y ∧ Y ≤ 1500) ∧ (0 ≤ n ∧ n ≤ 8) ∧ j ≤ cntV step ∧ Hid (Y = (j : Int) * step) ∧ Hid (lineV xs step X (gridV xs step i) j = (⟨ox, oy, ot⟩, n)) ∧ Bx wr w.heap.size [.int .i64 0, .int .i64 0, .int .i64 0] ∧ Bx wr (w.heap.size + 1) [.int .i64 ox, .int .i64 oy, .int .i64 ot] ∧ Below w.heap.size w wr)
      (fun _ y _ => 2000 - (intOf y).toNat)
    case atStart => exact ⟨0, 0, ox, oy, ot, n, rfl, rfl, by omega, by omega, Nat.zero_le _, Lib.hid (by simp), Lib.hid HG.out, bR1, bB1, hbl⟩
    case round =>
      clear bR1 bB1 hbl hsz HG hn0 hn1
      rename_i ws _
      obtain ⟨j, Y, ox, oy, ot, n, rfl, rfl, ⟨hY0, hY1⟩, ⟨hn0, hn1⟩, hj, HY, HL, bR1, bB1, hbl⟩ := hrel
      have hsz := hbl.size
      by_cases hlt2 : Y ≤ 999
      case neg =>
        have hjc : j = cntV step := by
          have := mt (cnt_in HS.out HY.out).2 hlt2
          omega
        have HG2 : Hid (gridV xs step (i + 1) = (⟨ox, oy, ot⟩, n)) := Lib.hid (by rw [← HL.out, hjc, HX.out]; rfl)
        have HX2 := Lib.hid (step_next HX.out)
        clear hjc
        go_wp2
        go_roundw
        case rel => exact ⟨i + 1, X + step, ox, oy, ot, n, by go_num, rfl, by omega, by omega, by omega, HX2, HG2, bR1, bB1, hbl⟩
        case measure => simp [intOf]; omega
      have hlt2' : j < cntV step := (cnt_in HS.out HY.out).1 hlt2
      have HBD := mostV_bd HOK.out ⟨hX0, hlt⟩ ⟨hY0, hlt2⟩ xs.length (Nat.le_refl _)
      obtain ⟨m, hm⟩ : ∃ m, (mostV xs X Y xs.length).1 = m := ⟨_, rfl⟩
      obtain ⟨t, ht⟩ : ∃ t, (mostV xs X Y xs.length).2 = t := ⟨_, rfl⟩
      rw [hm, ht] at HBD
      obtain ⟨⟨m0, m1⟩, ⟨t0, t1⟩⟩ := HBD
      have HM := Lib.hid hm
      have HT := Lib.hid ht
      have HY2 := Lib.hid (step_next HY.out)
      have HLS : Hid (lineV xs step X (gridV xs step i) (j + 1) = pickV xs X Y (⟨ox, oy, ot⟩, n)) := Lib.hid (by rw [← HL.out, HY.out]; rfl)
      clear hm ht
      go_wp2_with fail
      refine (CM.out _ X Y m t hbl ⟨hX0, hlt⟩ ⟨hY0, hlt2⟩ HM.out HT.out).mono ?_
      rintro e w1 ⟨rfl, hb1⟩
      have N1 := hbl.trans (hb1.mono hsz)
      have bR2 := bR1.below hb1
      have bB2 := bB1.below hb1
      clear bR1 bB1 hbl hb1
      by_cases hq : n < m
      case neg =>
        have HL2 : Hid (lineV xs step X (gridV xs step i) (j + 1) = (⟨ox, oy, ot⟩, n)) := Lib.hid (by rw [HLS.out]; exact pickV_no HM.out hq)
        go_wp2
        go_roundw
        case rel => exact ⟨j + 1, Y + step, ox, oy, ot, n, by go_num, rfl, by omega, by omega, by omega, HY2, HL2, bR2, bB2, N1⟩
        case measure => simp [intOf]; omega
      case pos =>
        have HL2 : Hid (lineV xs step X (gridV xs step i) (j + 1) = (⟨X, Y, t⟩, m)) := Lib.hid (by rw [HLS.out]; exact pickV_up HM.out HT.out hq)
        have b0 := bB2.2 0 _ rfl
        have b1 := bB2.2 1 _ rfl
        have b2 := bB2.2 2 _ rfl
        have bf := bB2.1.2
        have bB3 := bB2.put3 (.int .i64 X) (.int .i64 Y) (.int .i64 t)
        have bR3 := bR2.other3 (g := w.heap.size + 1) (by omega) (.int .i64 X) (.int .i64 Y) (.int .i64 t)
        have N2 := ((N1.setCell (p := ⟨w.heap.size + 1, 0, none⟩) (by first | omega | (simp; done) | (simp; omega)) (.int .i64 X)).setCell (p := ⟨w.heap.size + 1, 1, none⟩) (by first | omega | (simp; done) | (simp; omega)) (.int .i64 Y)).setCell (p := ⟨w.heap.size + 1, 2, none⟩) (by first | omega | (simp; done) | (simp; omega)) (.int .i64 t)
        go_wp2
        go_roundw
        case rel => exact ⟨j + 1, Y + step, X, Y, t, m, by go_num, rfl, by omega, by omega, by omega, HY2, HL2, bR3, bB3, N2⟩
        case measure => simp [intOf]; omega
set_option maxRecDepth 100000 in
set_option maxHeartbeats 2000000 in
theorem specBg (xs : List GArrival) (v : Value) (step : Int) (w : World) (B : Nat) (h : ArrivalL w B v xs) (hB : B ≤ w.heap.size) (hn : szsArrival xs ≤ 1048576) (hw : ∀ s ∈ xs, wfArrival s) (_ : I64 step) :
    Calls Try.prog 32 #[v, .int .i64 step] w fun e w' => ∃ v', e = .returned (.tuple #[v', .int .i64 (numBg xs step), .bool (okBg xs step)]) ∧ OriginVO w' w.heap.size w'.heap.size v' (resBg xs step) ∧ Below w.heap.size w w' := by
  have hl := Nat.le_trans (szsArrival_len xs) hn
  cases hk : askBg xs step with
  | false =>
    have CA := Lib.hid (fun W (q : Below w.heap.size w W) => specStepA xs v step false W B (h.below (q.mono hB)) (Nat.le_trans hB q.size) hl hk)
    have HF := Lib.hid (noBg hk)
    obtain ⟨ao, cap, rfl⟩ := h.form
    clear h hk
    have N0 := (Below.refl w.heap.size w).alloc (Nat.le_refl _) (.cells #[.int .i64 0, .int .i64 0, .int .i64 0] 30)
    have bR := Bx.new w [.int .i64 0, .int .i64 0, .int .i64 0] 30
    go_enter Try.func32, Try.ntmps32
    go_wp2_with fail
    refine (CA.out _ N0).mono ?_
    rintro e w1 ⟨rfl, hb⟩
    have N1 := N0.trans (hb.mono N0.size)
    have bR1 := bR.below hb
    clear N0 bR hb
    have r0 := bR1.2 0 _ rfl
    have r1 := bR1.2 1 _ rfl
    have r2 := bR1.2 2 _ rfl
    have rf := bR1.1.2
    go_wp2
    have bR3 := bR1.put3 (.int .i64 0) (.int .i64 0) (.int .i64 0)
    have N3 := ((N1.setCell (p := ⟨w.heap.size, 0, none⟩) (by first | omega | (simp; done) | (simp; omega)) (.int .i64 0)).setCell (p := ⟨w.heap.size, 1, none⟩) (by first | omega | (simp; done) | (simp; omega)) (.int .i64 0)).setCell (p := ⟨w.heap.size, 2, none⟩) (by first | omega | (simp; done) | (simp; omega)) (.int .i64 0)
    generalize ((w1.setCell ⟨w.heap.size, 0, none⟩ (.int .i64 0)).setCell ⟨w.heap.size, 1, none⟩ (.int .i64 0)).setCell ⟨w.heap.size, 2, none⟩ (.int .i64 0) = wf at *
    have y0 := bR3.2 0 _ rfl
    have y1 := bR3.2 1 _ rfl
    have y2 := bR3.2 2 _ rfl
    exact bodyPost_ret (v := .tuple #[.agg #[.int .i64 0, .int .i64 0, .int .i64 0], .int .i64 0, .bool false]) (by simp [results, Try.results32, go_sem, y0, y1, y2]) rfl ⟨_, HF.out, rfl, N3⟩
  | true =>
    obtain ⟨hok, hs⟩ := askBg_yes hk
    have CA := Lib.hid (fun W (q : Below w.heap.size w W) => specStepA xs v step true W B (h.below (q.mono hB)) (Nat.le_trans hB q.size) hl hk)
    obtain ⟨⟨⟨ox, oy, ot⟩, n⟩, hp⟩ : ∃ p, bestV xs step = p := ⟨_, rfl⟩
    have CB := Lib.hid (fun W (q : Below w.heap.size w W) => specBest xs v step _ W B (h.below (q.mono hB)) (Nat.le_trans hB q.size) hok hs hp)
    have HF := Lib.hid (fun u hu => yesBg (o := ⟨ox, oy, ot⟩) (m := n) (u := u) hk (by rw [hp]) (by rw [hp]) hu)
    obtain ⟨ao, cap, rfl⟩ := h.form
    clear h hk hok hs hp
    have N0 := (Below.refl w.heap.size w).alloc (Nat.le_refl _) (.cells #[.int .i64 0, .int .i64 0, .int .i64 0] 30)
    have bR := Bx.new w [.int .i64 0, .int .i64 0, .int .i64 0] 30
    go_enter Try.func32, Try.ntmps32
    go_wp2_with fail
    refine (CA.out _ N0).mono ?_
    rintro e w1 ⟨rfl, hb⟩
    have N1 := N0.trans (hb.mono N0.size)
    have bR1 := bR.below hb
    clear N0 bR hb
    go_wp2_with fail
    refine (CB.out _ N1).mono ?_
    rintro e w2 ⟨rfl, hb⟩
    have N2 := N1.trans (hb.mono N1.size)
    have bR2 := bR1.below hb
    clear N1 bR1 hb
    have N3 := N2.alloc N2.size (.cells #[.int .i64 ox, .int .i64 oy, .int .i64 ot] 30)
    have bR3 := bR2.alloc (.cells #[.int .i64 ox, .int .i64 oy, .int .i64 ot] 30)
    have bB3 := Bx.new w2 [.int .i64 ox, .int .i64 oy, .int .i64 ot] 30
    have r0 := bR3.2 0 _ rfl
    have r1 := bR3.2 1 _ rfl
    have r2 := bR3.2 2 _ rfl
    have rf := bR3.1.2
    have b0 := bB3.2 0 _ rfl
    have b1 := bB3.2 1 _ rfl
    have b2 := bB3.2 2 _ rfl
    go_wp2
    generalize w2.alloc (.cells #[.int .i64 ox, .int .i64 oy, .int .i64 ot] 30) = W3 at *
    have bR4 := bR3.put3 (.int .i64 ox) (.int .i64 oy) (.int .i64 ot)
    have N4 := ((N3.setCell (p := ⟨w.heap.size, 0, none⟩) (by first | omega | (simp; done) | (simp; omega)) (.int .i64 ox)).setCell (p := ⟨w.heap.size, 1, none⟩) (by first | omega | (simp; done) | (simp; omega)) (.int .i64 oy)).setCell (p := ⟨w.heap.size, 2, none⟩) (by first | omega | (simp; done) | (simp; omega)) (.int .i64 ot)
    generalize ((W3.setCell ⟨w.heap.size, 0, none⟩ (.int .i64 ox)).setCell ⟨w.heap.size, 1, none⟩ (.int .i64 oy)).setCell ⟨w.heap.size, 2, none⟩ (.int .i64 ot) = wf at *
    have y0 := bR4.2 0 _ rfl
    have y1 := bR4.2 1 _ rfl
    have y2 := bR4.2 2 _ rfl
    exact bodyPost_ret (v := .tuple #[.agg #[.int .i64 ox, .int .i64 oy, .int .i64 ot], .int .i64 n, .bool (decide (0 < n))]) (by simp [results, Try.results32, go_sem, y0, y1, y2]) rfl ⟨_, HF.out _ rfl, rfl, N4⟩
end Go.Proofs.Ytoogofceoinniab
