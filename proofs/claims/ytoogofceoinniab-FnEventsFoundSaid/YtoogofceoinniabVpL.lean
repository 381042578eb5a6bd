/- Votes: the program's BestOnGrid. -/
import Derived.Test.YtoogofceoinniabVpK
import Derived.StillTailTactics
namespace Go.Proofs.Ytoogofceoinniab
open Go.ChangeShapes Go.WideShapes Go.ChangeAt Go.RowKit Go.ChangeMaps Go.Sort Go.Shelf
set_option linter.unusedSimpArgs false
set_option linter.unusedVariables false
set_option linter.unusedSimpArgs false
set_option linter.unusedVariables false

def zeroI (b : GOrigin × Int) : Prop := 0 ≤ b.2 ∧ (b.2 = 0 → b.1 = ⟨0, 0, 0⟩)
theorem pick_zero {xs : List GArrival} {x y : Int} {b : GOrigin × Int} (h : zeroI b) : zeroI (pickV xs x y b) := by
  unfold pickV
  split
  · rename_i q
    have := h.1
    exact ⟨by show 0 ≤ (mostV xs x y xs.length).1; omega, fun e => by
      have e' : (mostV xs x y xs.length).1 = 0 := e
      omega⟩
  · exact h
theorem line_zero {xs : List GArrival} {step x : Int} {b : GOrigin × Int} (h : zeroI b) : ∀ k, zeroI (lineV xs step x b k)
  | 0 => h
  | k + 1 => pick_zero (line_zero h k)
theorem grid_zero {xs : List GArrival} {step : Int} : ∀ k, zeroI (gridV xs step k)
  | 0 => ⟨Int.le_refl _, fun _ => rfl⟩
  | k + 1 => line_zero (grid_zero k) _
theorem best_zero {xs : List GArrival} {step : Int} (h : (bestV xs step).2 = 0) : (bestV xs step).1 = ⟨0, 0, 0⟩ := (grid_zero _).2 h
set_option maxRecDepth 100000 in
set_option maxHeartbeats 4000000 in
theorem implBg (xs : List GArrival) (v : Value) (step : Int) (w : World) (B : Nat) (h : ArrivalL w B v xs) (hB : B ≤ w.heap.size) (hn : szsArrival xs ≤ 1048576) (hw : ∀ s ∈ xs, wfArrival s) (_ : I64 step) :
    Calls Try.prog 33 #[v, .int .i64 step] w fun e w' => ∃ v', e = .returned (.tuple #[v', .int .i64 (numBg xs step), .bool (okBg xs step)]) ∧ OriginVO w' w.heap.size w'.heap.size v' (resBg xs step) ∧ Below w.heap.size w w' := by
  have hl := Nat.le_trans (szsArrival_len xs) hn
  have N0 := (Below.refl w.heap.size w).alloc (Nat.le_refl _) (.cells #[.int .i64 0, .int .i64 0, .int .i64 0] 30)
  have bR := Bx.new w [.int .i64 0, .int .i64 0, .int .i64 0] 30
  have CG := Lib.hid (fun u W (q : Below w.heap.size w W) hu => implGoodA xs v u W B (h.below (q.mono hB)) (Nat.le_trans hB q.size) hl hu)
  have CS := Lib.hid (fun u W hu => implStepB step u W hu)
  cases h1 : goodAr xs with
  | false =>
    have CA := Lib.hid (fun W q => CG.out false W q h1)
    have HF := Lib.hid (noBg (xs := xs) (step := step) (by unfold askBg; rw [h1]; rfl))
    obtain ⟨ao, cap, rfl⟩ := h.form
    clear h h1 CG CS
    go_enter Try.func33, Try.ntmps33
    go_wp2_with fail
    refine (CA.out _ N0).mono ?_
    rintro e w1 ⟨rfl, hb⟩
    have N1 := N0.trans (hb.mono N0.size)
    have bR1 := bR.below hb
    clear N0 bR hb
    obtain ⟨w2, hw2⟩ : ∃ w2, w2 = w1 := ⟨_, rfl⟩
    have N2 := hw2 ▸ N1
    have bR2 := hw2 ▸ bR1
    subst hw2
    have r0 := bR2.2 0 _ rfl
    have r1 := bR2.2 1 _ rfl
    have r2 := bR2.2 2 _ rfl
    have rf := bR2.1.2
    go_wp2
    have bR3 := bR2.put3 (.int .i64 0) (.int .i64 0) (.int .i64 0)
    have N3 := ((N2.setCell (p := ⟨w.heap.size, 0, none⟩) (by first | omega | (simp; done) | (simp; omega)) (.int .i64 0)).setCell (p := ⟨w.heap.size, 1, none⟩) (by first | omega | (simp; done) | (simp; omega)) (.int .i64 0)).setCell (p := ⟨w.heap.size, 2, none⟩) (by first | omega | (simp; done) | (simp; omega)) (.int .i64 0)
    generalize ((w2.setCell ⟨w.heap.size, 0, none⟩ (.int .i64 0)).setCell ⟨w.heap.size, 1, none⟩ (.int .i64 0)).setCell ⟨w.heap.size, 2, none⟩ (.int .i64 0) = wf at *
    have y0 := bR3.2 0 _ rfl
    have y1 := bR3.2 1 _ rfl
    have y2 := bR3.2 2 _ rfl
    exact bodyPost_ret (v := .tuple #[.agg #[.int .i64 0, .int .i64 0, .int .i64 0], .int .i64 0, .bool false]) (by simp [results, Try.results33, go_sem, y0, y1, y2]) rfl ⟨_, HF.out, rfl, N3⟩
  | true =>
  have CA := Lib.hid (fun W q => CG.out true W q h1)
  cases h2 : inB step 50 500 with
  | false =>
    have CT := Lib.hid (fun W => CS.out false W h2)
    have HF := Lib.hid (noBg (xs := xs) (step := step) (by unfold askBg; rw [h2, Bool.and_false]))
    obtain ⟨ao, cap, rfl⟩ := h.form
    clear h h1 h2 CG CS
    go_enter Try.func33, Try.ntmps33
    go_wp2_with fail
    refine (CA.out _ N0).mono ?_
    rintro e w1 ⟨rfl, hb⟩
    have N1 := N0.trans (hb.mono N0.size)
    have bR1 := bR.below hb
    clear N0 bR hb
    go_wp2_with fail
    refine (CT.out _).mono ?_
    rintro e w2 ⟨rfl, hb⟩
    have N2 := N1.trans (hb.mono N1.size)
    have bR2 := bR1.below hb
    clear N1 bR1 hb
    have r0 := bR2.2 0 _ rfl
    have r1 := bR2.2 1 _ rfl
    have r2 := bR2.2 2 _ rfl
    have rf := bR2.1.2
    go_wp2
    have bR3 := bR2.put3 (.int .i64 0) (.int .i64 0) (.int .i64 0)
    have N3 := ((N2.setCell (p := ⟨w.heap.size, 0, none⟩) (by first | omega | (simp; done) | (simp; omega)) (.int .i64 0)).setCell (p := ⟨w.heap.size, 1, none⟩) (by first | omega | (simp; done) | (simp; omega)) (.int .i64 0)).setCell (p := ⟨w.heap.size, 2, none⟩) (by first | omega | (simp; done) | (simp; omega)) (.int .i64 0)
    generalize ((w2.setCell ⟨w.heap.size, 0, none⟩ (.int .i64 0)).setCell ⟨w.heap.size, 1, none⟩ (.int .i64 0)).setCell ⟨w.heap.size, 2, none⟩ (.int .i64 0) = wf at *
    have y0 := bR3.2 0 _ rfl
    have y1 := bR3.2 1 _ rfl
    have y2 := bR3.2 2 _ rfl
    exact bodyPost_ret (v := .tuple #[.agg #[.int .i64 0, .int .i64 0, .int .i64 0], .int .i64 0, .bool false]) (by simp [results, Try.results33, go_sem, y0, y1, y2]) rfl ⟨_, HF.out, rfl, N3⟩
  | true =>
  have CT := Lib.hid (fun W => CS.out true W h2)
  have hk : askBg xs step = true := by unfold askBg; rw [h1, h2]; rfl
  obtain ⟨hok, hs⟩ := askBg_yes hk
  obtain ⟨⟨⟨ox, oy, ot⟩, n⟩, hp⟩ : ∃ p, bestV xs step = p := ⟨_, rfl⟩
  have CB := Lib.hid (fun W (q : Below w.heap.size w W) => implBest xs v step _ W B (h.below (q.mono hB)) (Nat.le_trans hB q.size) hok hs hp)
  have hf := (bestV_fine hok hs).2.1
  rw [hp] at hf
  have hf0 : 0 ≤ n := hf.1
  by_cases hz : n = 0
  case pos =>
    have hzz := best_zero (xs := xs) (step := step) (by rw [hp]; exact hz)
    rw [hp] at hzz
    simp only [GOrigin.mk.injEq] at hzz
    obtain ⟨rfl, rfl, rfl⟩ := hzz
    subst hz
    have HF := Lib.hid (yesBg (o := ⟨0, 0, 0⟩) (m := 0) (u := false) hk (by rw [hp]) (by rw [hp]) (by simp))
    obtain ⟨ao, cap, rfl⟩ := h.form
    clear h h1 h2 CG CS hk hok hs hp hf hf0
    go_enter Try.func33, Try.ntmps33
    go_wp2_with fail
    refine (CA.out _ N0).mono ?_
    rintro e w1 ⟨rfl, hb⟩
    have N1 := N0.trans (hb.mono N0.size)
    have bR1 := bR.below hb
    clear N0 bR hb
    go_wp2_with fail
    refine (CT.out _).mono ?_
    rintro e w2 ⟨rfl, hb⟩
    have N2 := N1.trans (hb.mono N1.size)
    have bR2 := bR1.below hb
    clear N1 bR1 hb
    go_wp2_with fail
    refine (CB.out _ N2).mono ?_
    rintro e w3 ⟨rfl, hb⟩
    have N3 := N2.trans (hb.mono N2.size)
    have bR3 := bR2.below hb
    clear N2 bR2 hb
    have bB := Bx.new w3 [.int .i64 0, .int .i64 0, .int .i64 0, .int .i64 0] 93
    have N4 := N3.alloc N3.size (.cells #[.int .i64 0, .int .i64 0, .int .i64 0, .int .i64 0] 93)
    have bR4 := bR3.alloc (.cells #[.int .i64 0, .int .i64 0, .int .i64 0, .int .i64 0] 93)
    have hlt3 : w.heap.size < w3.heap.size := bR3.1.1
    clear N3 bR3
    have r0 := bR4.2 0 _ rfl
    have r1 := bR4.2 1 _ rfl
    have r2 := bR4.2 2 _ rfl
    have rf := bR4.1.2
    have b0 := bB.2 0 _ rfl
    have b1 := bB.2 1 _ rfl
    have b2 := bB.2 2 _ rfl
    have b3 := bB.2 3 _ rfl
    go_wp2
    generalize w3.alloc (.cells #[.int .i64 0, .int .i64 0, .int .i64 0, .int .i64 0] 93) = W4 at *
    have bBd : Bx W4.drew w3.heap.size [.int .i64 0, .int .i64 0, .int .i64 0, .int .i64 0] := bB
    have bRd : Bx W4.drew w.heap.size [.int .i64 0, .int .i64 0, .int .i64 0] := bR4
    have N5 : Below w.heap.size w W4.drew := N4.drew
    have hne9 : w.heap.size ≠ w3.heap.size := by have := hlt3; omega
    have q0 := r0
    have q1 := r1
    have q2 := r2
    have qf := rf
    have p0 := b0
    have p1 := b1
    have p2 := b2
    have p3 := b3
    clear r0 r1 r2 rf b0 b1 b2 b3
    have r0 := bRd.2 0 _ rfl
    have r1 := bRd.2 1 _ rfl
    have r2 := bRd.2 2 _ rfl
    have rf := bRd.1.2
    have b0 := bBd.2 0 _ rfl
    have b1 := bBd.2 1 _ rfl
    have b2 := bBd.2 2 _ rfl
    have b3 := bBd.2 3 _ rfl
    have bRz := bRd.put3 (.int .i64 0) (.int .i64 0) (.int .i64 0)
    have bBz := bBd.other3 (g := w.heap.size) hne9 (.int .i64 0) (.int .i64 0) (.int .i64 0)
    have Nz := ((N5.setCell (p := ⟨w.heap.size, 0, none⟩) (by first | omega | (simp; done) | (simp; omega)) (.int .i64 0)).setCell (p := ⟨w.heap.size, 1, none⟩) (by first | omega | (simp; done) | (simp; omega)) (.int .i64 0)).setCell (p := ⟨w.heap.size, 2, none⟩) (by first | omega | (simp; done) | (simp; omega)) (.int .i64 0)
    go_region_held3 (fun w' => w'.cell? ⟨w3.heap.size, 0, none⟩ = some (.int .i64 0) ∧ w'.cell? ⟨w3.heap.size, 1, none⟩ = some (.int .i64 0) ∧ w'.cell? ⟨w3.heap.size, 2, none⟩ = some (.int .i64 0) ∧ w'.cell? ⟨w3.heap.size, 3, none⟩ = some (.int .i64 0))
      (first
        | exact ⟨b0, b1, b2, b3⟩
        | exact ⟨bBz.2 0 _ rfl, bBz.2 1 _ rfl, bBz.2 2 _ rfl, bBz.2 3 _ rfl⟩)
      (fail)
    have bRw : Bx (((W4.setCell ⟨w.heap.size, 0, none⟩ (.int .i64 0)).setCell ⟨w.heap.size, 1, none⟩ (.int .i64 0)).setCell ⟨w.heap.size, 2, none⟩ (.int .i64 0)).drew w.heap.size [.int .i64 0, .int .i64 0, .int .i64 0] := bR4.put3 (.int .i64 0) (.int .i64 0) (.int .i64 0)
    have Nw := (((N4.setCell (p := ⟨w.heap.size, 0, none⟩) (by first | omega | (simp; done) | (simp; omega)) (.int .i64 0)).setCell (p := ⟨w.heap.size, 1, none⟩) (by first | omega | (simp; done) | (simp; omega)) (.int .i64 0)).setCell (p := ⟨w.heap.size, 2, none⟩) (by first | omega | (simp; done) | (simp; omega)) (.int .i64 0)).drew
    generalize (((W4.setCell ⟨w.heap.size, 0, none⟩ (.int .i64 0)).setCell ⟨w.heap.size, 1, none⟩ (.int .i64 0)).setCell ⟨w.heap.size, 2, none⟩ (.int .i64 0)).drew = wf at *
    have y0 := bRw.2 0 _ rfl
    have y1 := bRw.2 1 _ rfl
    have y2 := bRw.2 2 _ rfl
    clear r0 r1 r2 rf b0 b1 b2 b3 q0 q1 q2 qf p0 p1 p2 p3 bBz bRz Nz
    go_wp2
    exact bodyPost_ret (v := .tuple #[.agg #[.int .i64 0, .int .i64 0, .int .i64 0], .int .i64 0, .bool false]) (by simp [results, Try.results33, go_sem, y0, y1, y2]) rfl ⟨_, HF.out, rfl, Nw⟩
  case neg =>
    have HF := Lib.hid (yesBg (o := ⟨ox, oy, ot⟩) (m := n) (u := true) hk (by rw [hp]) (by rw [hp]) (decide_eq_true (by omega)))
    have hz2 : (n == 0) = false := by simpa using hz
    obtain ⟨ao, cap, rfl⟩ := h.form
    clear h h1 h2 CG CS hk hok hs hp hf hf0
    go_enter Try.func33, Try.ntmps33
    go_wp2_with fail
    refine (CA.out _ N0).mono ?_
    rintro e w1 ⟨rfl, hb⟩
    have N1 := N0.trans (hb.mono N0.size)
    have bR1 := bR.below hb
    clear N0 bR hb
    go_wp2_with fail
    refine (CT.out _).mono ?_
    rintro e w2 ⟨rfl, hb⟩
    have N2 := N1.trans (hb.mono N1.size)
    have bR2 := bR1.below hb
    clear N1 bR1 hb
    go_wp2_with fail
    refine (CB.out _ N2).mono ?_
    rintro e w3 ⟨rfl, hb⟩
    have N3 := N2.trans (hb.mono N2.size)
    have bR3 := bR2.below hb
    clear N2 bR2 hb
    obtain ⟨W4, hW4⟩ : ∃ W4, w3.alloc (.cells #[.int .i64 ox, .int .i64 oy, .int .i64 ot, .int .i64 n] 93) = W4 := ⟨_, rfl⟩
    have A4 : Below w3.heap.size w3 W4 := hW4 ▸ (Below.refl _ _).alloc (Nat.le_refl _) _
    have bB : Bx W4 w3.heap.size [.int .i64 ox, .int .i64 oy, .int .i64 ot, .int .i64 n] := hW4 ▸ Bx.new w3 [.int .i64 ox, .int .i64 oy, .int .i64 ot, .int .i64 n] 93
    have N4 := N3.trans (A4.mono N3.size)
    have bR4 := bR3.below A4
    have hlt3 : w.heap.size < w3.heap.size := bR3.1.1
    clear A4 N3 bR3
    have r0 := bR4.2 0 _ rfl
    have r1 := bR4.2 1 _ rfl
    have r2 := bR4.2 2 _ rfl
    have rf := bR4.1.2
    have b0 := bB.2 0 _ rfl
    have b1 := bB.2 1 _ rfl
    have b2 := bB.2 2 _ rfl
    have b3 := bB.2 3 _ rfl
    go_wp2
    have bBd : Bx W4.drew w3.heap.size [.int .i64 ox, .int .i64 oy, .int .i64 ot, .int .i64 n] := bB
    have bRd : Bx W4.drew w.heap.size [.int .i64 0, .int .i64 0, .int .i64 0] := bR4
    have N5 : Below w.heap.size w W4.drew := N4.drew
    have hne9 : w.heap.size ≠ w3.heap.size := by have := hlt3; omega
    have q0 := r0
    have q1 := r1
    have q2 := r2
    have qf := rf
    have p0 := b0
    have p1 := b1
    have p2 := b2
    have p3 := b3
    clear r0 r1 r2 rf b0 b1 b2 b3
    have r0 := bRd.2 0 _ rfl
    have r1 := bRd.2 1 _ rfl
    have r2 := bRd.2 2 _ rfl
    have rf := bRd.1.2
    have b0 := bBd.2 0 _ rfl
    have b1 := bBd.2 1 _ rfl
    have b2 := bBd.2 2 _ rfl
    have b3 := bBd.2 3 _ rfl
    have bRz := bRd.put3 (.int .i64 ox) (.int .i64 oy) (.int .i64 ot)
    have bBz := bBd.other3 (g := w.heap.size) hne9 (.int .i64 ox) (.int .i64 oy) (.int .i64 ot)
    have Nz := ((N5.setCell (p := ⟨w.heap.size, 0, none⟩) (by first | omega | (simp; done) | (simp; omega)) (.int .i64 ox)).setCell (p := ⟨w.heap.size, 1, none⟩) (by first | omega | (simp; done) | (simp; omega)) (.int .i64 oy)).setCell (p := ⟨w.heap.size, 2, none⟩) (by first | omega | (simp; done) | (simp; omega)) (.int .i64 ot)
    go_region_held3 (fun w' => w'.cell? ⟨w3.heap.size, 0, none⟩ = some (.int .i64 ox) ∧ w'.cell? ⟨w3.heap.size, 1, none⟩ = some (.int .i64 oy) ∧ w'.cell? ⟨w3.heap.size, 2, none⟩ = some (.int .i64 ot) ∧ w'.cell? ⟨w3.heap.size, 3, none⟩ = some (.int .i64 n))
      (first
        | exact ⟨b0, b1, b2, b3⟩
        | exact ⟨bBz.2 0 _ rfl, bBz.2 1 _ rfl, bBz.2 2 _ rfl, bBz.2 3 _ rfl⟩)
      (fail)
    have bRw : Bx (((W4.setCell ⟨w.heap.size, 0, none⟩ (.int .i64 ox)).setCell ⟨w.heap.size, 1, none⟩ (.int .i64 oy)).setCell ⟨w.heap.size, 2, none⟩ (.int .i64 ot)).drew w.heap.size [.int .i64 ox, .int .i64 oy, .int .i64 ot] := bR4.put3 (.int .i64 ox) (.int .i64 oy) (.int .i64 ot)
    have Nw := (((N4.setCell (p := ⟨w.heap.size, 0, none⟩) (by first | omega | (simp; done) | (simp; omega)) (.int .i64 ox)).setCell (p := ⟨w.heap.size, 1, none⟩) (by first | omega | (simp; done) | (simp; omega)) (.int .i64 oy)).setCell (p := ⟨w.heap.size, 2, none⟩) (by first | omega | (simp; done) | (simp; omega)) (.int .i64 ot)).drew
    generalize (((W4.setCell ⟨w.heap.size, 0, none⟩ (.int .i64 ox)).setCell ⟨w.heap.size, 1, none⟩ (.int .i64 oy)).setCell ⟨w.heap.size, 2, none⟩ (.int .i64 ot)).drew = wf at *
    have y0 := bRw.2 0 _ rfl
    have y1 := bRw.2 1 _ rfl
    have y2 := bRw.2 2 _ rfl
    clear r0 r1 r2 rf b0 b1 b2 b3 q0 q1 q2 qf p0 p1 p2 p3 bBz bRz Nz
    go_wp2
    exact bodyPost_ret (v := .tuple #[.agg #[.int .i64 ox, .int .i64 oy, .int .i64 ot], .int .i64 n, .bool true]) (by simp [results, Try.results33, go_sem, y0, y1, y2]) rfl ⟨_, HF.out, rfl, Nw⟩
end Go.Proofs.Ytoogofceoinniab
