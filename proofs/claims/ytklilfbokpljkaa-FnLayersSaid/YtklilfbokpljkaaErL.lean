/- Models of the ground: the program's TimeVia, FirstVia, FirstTime. -/
import Derived.Test.YtklilfbokpljkaaErK
namespace Go.Proofs.Ytklilfbokpljkaa
open Go.ChangeShapes Go.WideShapes Go.ChangeAt Go.RowKit Go.ChangeMaps Go.Sort
set_option linter.unusedSimpArgs false
set_option linter.unusedVariables false
set_option linter.unusedSimpArgs false
set_option linter.unusedVariables false

theorem Drawn.grew {a b : World} (h : Drawn a b) : Grew a b := by
  obtain ⟨n, rfl⟩ := h
  exact ⟨n, #[], by rw [grow_empty]⟩
theorem viaE_mem {xs : List GEarth} (h : okE xs) {D : Int} (h0 : 0 ≤ D) (h1 : D ≤ 2000) {k : Nat} (hk : k < xs.length) : -1000000000000000 ≤ viaE (prodE xs) xs D k ∧ viaE (prodE xs) xs D k ≤ 1000000000000000 := by
  have := viaE_bd h h0 h1 hk
  omega
/-- lowestTerms of a time in a model. -/
theorem implRedE {xs : List GEarth} (h : okE xs) (t : Int) (W : World) (h0 : 0 ≤ t) (h1 : t ≤ 22500000000) :
    Calls Try.prog 101 #[.int .i64 t, .int .i64 (prodE xs)] W fun e w' => e = .returned (.tuple #[.int .i64 (numR t (prodE xs)), .int .i64 (denR t (prodE xs))]) ∧ Grew W w' := by
  have hP := prodE_all h
  refine (implRed t (prodE xs) W (by omega) (by omega) hP.1 (by omega)).mono fun e w' hh => ?_
  exact ⟨hh.1, Drawn.grew hh.2⟩
set_option maxRecDepth 100000 in
set_option maxHeartbeats 4000000 in
theorem implVi (xs : List GEarth) (v : Value) (k : Int) (D : Int) (w : World) (B : Nat) (h : EarthL w B v xs) (hB : B ≤ w.heap.size) (hn : szsEarth xs ≤ 1048576) (hw : ∀ s ∈ xs, wfEarth s) (_ : I64 k) (_ : I64 D) :
    Calls Try.prog 25 #[v, .int .i64 k, .int .i64 D] w fun e w' => e = .returned (.tuple #[.int .i64 (numVi xs k D), .int .i64 (denVi xs k D), .bool (okVi xs k D)]) ∧ Below w.heap.size w w' := by
  have hl := Nat.le_trans (szsEarth_len xs) hn
  have N0 := Below.refl w.heap.size w
  cases hg : goodE xs with
  | false =>
    have CG : Hid (∀ W, Below w.heap.size w W → Calls Try.prog 35 #[v] W fun e w9 => e = .returned (.bool false) ∧ Below W.heap.size W w9) := Lib.hid (fun W q => implGoodE xs v false W B (h.below (q.mono hB)) (Nat.le_trans hB q.size) hl hg)
    have HF := Lib.hid (noVi (xs := xs) (k := k) (D := D) (by unfold okVi; rw [hg]; rfl))
    obtain ⟨ao, cap, rfl⟩ := h.form
    clear h hg
    go_enter Try.func25, Try.ntmps25
    go_wp2_with fail
    refine (CG.out _ N0).mono ?_
    rintro e w1 ⟨rfl, hb1⟩
    have N1 := N0.trans (hb1.mono N0.size)
    clear hb1 N0
    go_wp2
    go_ret3
    exact ⟨HF.out, N1⟩
  | true =>
    have hok := goodE_yes hg
    have CG : Hid (∀ W, Below w.heap.size w W → Calls Try.prog 35 #[v] W fun e w9 => e = .returned (.bool true) ∧ Below W.heap.size W w9) := Lib.hid (fun W q => implGoodE xs v true W B (h.below (q.mono hB)) (Nat.le_trans hB q.size) hl hg)
    by_cases hk : 0 ≤ k ∧ k ≤ (xs.length : Int) - 1
    case neg =>
      have CL : Hid (∀ W, Below w.heap.size w W → Calls Try.prog 110 #[v, .int .i64 k] W fun e w9 => e = .returned (.bool false) ∧ Below W.heap.size W w9) := Lib.hid (fun W q => implHasL xs v k false W B (h.below (q.mono hB)) hl (decide_eq_false hk))
      have HF := Lib.hid (noVi (xs := xs) (k := k) (D := D) (by unfold okVi; rw [decide_eq_false hk, Bool.and_false]))
      obtain ⟨ao, cap, rfl⟩ := h.form
      clear h hg hk hok
      go_enter Try.func25, Try.ntmps25
      go_wp2_with fail
      refine (CG.out _ N0).mono ?_
      rintro e w1 ⟨rfl, hb1⟩
      have N1 := N0.trans (hb1.mono N0.size)
      clear hb1 N0
      go_wp2_with fail
      refine (CL.out _ N1).mono ?_
      rintro e w2 ⟨rfl, hb2⟩
      have N2 := N1.trans (hb2.mono N1.size)
      clear hb2 N1
      go_wp2
      go_ret3
      exact ⟨HF.out, N2⟩
    have CL : Hid (∀ W, Below w.heap.size w W → Calls Try.prog 110 #[v, .int .i64 k] W fun e w9 => e = .returned (.bool true) ∧ Below W.heap.size W w9) := Lib.hid (fun W q => implHasL xs v k true W B (h.below (q.mono hB)) hl (decide_eq_true hk))
    by_cases hd : 0 ≤ D ∧ D ≤ 2000
    case neg =>
      have CD : Hid (∀ W, Below w.heap.size w W → Calls Try.prog 99 #[.int .i64 D] W fun e w9 => e = .returned (.bool false) ∧ Below W.heap.size W w9) := Lib.hid (fun W q => implDist D false W (decide_eq_false hd))
      have HF := Lib.hid (noVi (xs := xs) (k := k) (D := D) (by unfold okVi; rw [decide_eq_false hd, Bool.and_false, Bool.false_and]))
      obtain ⟨ao, cap, rfl⟩ := h.form
      clear h hg hk hd hok
      go_enter Try.func25, Try.ntmps25
      go_wp2_with fail
      refine (CG.out _ N0).mono ?_
      rintro e w1 ⟨rfl, hb1⟩
      have N1 := N0.trans (hb1.mono N0.size)
      clear hb1 N0
      go_wp2_with fail
      refine (CL.out _ N1).mono ?_
      rintro e w2 ⟨rfl, hb2⟩
      have N2 := N1.trans (hb2.mono N1.size)
      clear hb2 N1
      go_wp2_with fail
      refine (CD.out _ N2).mono ?_
      rintro e w3 ⟨rfl, hb3⟩
      have N3 := N2.trans (hb3.mono N2.size)
      clear hb3 N2
      go_wp2
      go_ret3
      exact ⟨HF.out, N3⟩
    have CD : Hid (∀ W, Below w.heap.size w W → Calls Try.prog 99 #[.int .i64 D] W fun e w9 => e = .returned (.bool true) ∧ Below W.heap.size W w9) := Lib.hid (fun W q => implDist D true W (decide_eq_true hd))
    have CT : Hid (∀ W, Below w.heap.size w W → Calls Try.prog 100 #[v] W fun e w9 => e = .returned (.agg (tvE xs).toArray) ∧ Below W.heap.size W w9) := Lib.hid (fun W q => implTvl xs v W B (h.below (q.mono hB)) (Nat.le_trans hB q.size) hok)
    have HF := Lib.hid (yesVi (xs := xs) (k := k) (D := D) (by unfold okVi; rw [hg, decide_eq_true hd, decide_eq_true hk]; rfl) rfl rfl)
    have vb := viaE_bd hok hd.1 hd.2 (k := k.toNat) (by omega)
    have CA : Hid (∀ (W : World) n os, Calls Try.prog 111 #[.agg (tvE xs).toArray, .int .i64 k, .int .i64 D] (grow (W.drewN n) os) fun e w'' => e = .returned (.int .i64 (viaE (prodE xs) xs D k.toNat)) ∧ ∃ p : Gr, w'' = grow (W.drewN p.n) p.os) := Lib.hid (fun W n os => Calls.gr_of (by have := implVia xs k.toNat D _ (grow (W.drewN n) os) hok (by omega) hd.1 hd.2 rfl; rwa [show ((k.toNat : Nat) : Int) = k by omega] at this))
    have CB : Hid (∀ (W : World) n os, Calls Try.prog 101 #[.int .i64 (viaE (prodE xs) xs D k.toNat), .int .i64 (prodE xs)] (grow (W.drewN n) os) fun e w'' => e = .returned (.tuple #[.int .i64 (numR (viaE (prodE xs) xs D k.toNat) (prodE xs)), .int .i64 (denR (viaE (prodE xs) xs D k.toNat) (prodE xs))]) ∧ ∃ p : Gr, w'' = grow (W.drewN p.n) p.os) := Lib.hid (fun W n os => Calls.gr_of (implRedE hok _ (grow (W.drewN n) os) vb.1 vb.2))
    obtain ⟨f0, f1, f2, f3, f4, t0, t1, t2, t3, t4, ht⟩ := tvE_form xs
    rw [ht] at CT CA
    generalize numR (viaE (prodE xs) xs D k.toNat) (prodE xs) = nu at *
    generalize denR (viaE (prodE xs) xs D k.toNat) (prodE xs) = de at *
    generalize viaE (prodE xs) xs D k.toNat = vi at *
    generalize prodE xs = P at *
    obtain ⟨ao, cap, rfl⟩ := h.form
    clear h hg hk hd hok vb ht
    go_enter Try.func25, Try.ntmps25
    go_wp2_with fail
    refine (CG.out _ N0).mono ?_
    rintro e w1 ⟨rfl, hb1⟩
    have N1 := N0.trans (hb1.mono N0.size)
    clear hb1 N0
    go_wp2_with fail
    refine (CL.out _ N1).mono ?_
    rintro e w2 ⟨rfl, hb2⟩
    have N2 := N1.trans (hb2.mono N1.size)
    clear hb2 N1
    go_wp2_with fail
    refine (CD.out _ N2).mono ?_
    rintro e w3 ⟨rfl, hb3⟩
    have N3 := N2.trans (hb3.mono N2.size)
    clear hb3 N2
    go_wp2_with fail
    refine (CT.out _ N3).mono ?_
    rintro e w4 ⟨rfl, hb4⟩
    have N4 := N3.trans (hb4.mono N3.size)
    clear hb4 N3
    have bt := Bx.new w4 [.int .i64 xs.length, .int .i64 P, .int .i64 f0, .int .i64 f1, .int .i64 f2, .int .i64 f3, .int .i64 f4, .int .i64 t0, .int .i64 t1, .int .i64 t2, .int .i64 t3, .int .i64 t4] 89
    have NB := N4.alloc N4.size (.cells #[.int .i64 xs.length, .int .i64 P, .int .i64 f0, .int .i64 f1, .int .i64 f2, .int .i64 f3, .int .i64 f4, .int .i64 t0, .int .i64 t1, .int .i64 t2, .int .i64 t3, .int .i64 t4] 89)
    have r0 := cell_gr (bt.2 0 _ rfl)
    have r1 := cell_gr (bt.2 1 _ rfl)
    have r2 := cell_gr (bt.2 2 _ rfl)
    have r3 := cell_gr (bt.2 3 _ rfl)
    have r4 := cell_gr (bt.2 4 _ rfl)
    have r5 := cell_gr (bt.2 5 _ rfl)
    have r6 := cell_gr (bt.2 6 _ rfl)
    have r7 := cell_gr (bt.2 7 _ rfl)
    have r8 := cell_gr (bt.2 8 _ rfl)
    have r9 := cell_gr (bt.2 9 _ rfl)
    have r10 := cell_gr (bt.2 10 _ rfl)
    have r11 := cell_gr (bt.2 11 _ rfl)
    have cA := fun n os => CA.out (w4.alloc (.cells #[.int .i64 xs.length, .int .i64 P, .int .i64 f0, .int .i64 f1, .int .i64 f2, .int .i64 f3, .int .i64 f4, .int .i64 t0, .int .i64 t1, .int .i64 t2, .int .i64 t3, .int .i64 t4] 89)) n os
    have cB := fun n os => CB.out (w4.alloc (.cells #[.int .i64 xs.length, .int .i64 P, .int .i64 f0, .int .i64 f1, .int .i64 f2, .int .i64 f3, .int .i64 f4, .int .i64 t0, .int .i64 t1, .int .i64 t2, .int .i64 t3, .int .i64 t4] 89)) n os
    go_wp2
    refine region_grw (by kernel_rfl) (by kernel_rfl) ?_
    iterate 4 (go_big_quiet_step (with_reducible exact cA _ _))
    repeat (go_big_quiet_step (with_reducible exact cB _ _))
    refine wpQuiet_nil ?_
    intro _ hw'
    obtain ⟨⟨nq, osq⟩, hw''⟩ := hw'
    subst hw''
    go_wp2
    go_ret3
    exact ⟨HF.out, NB.trans ((grew_gr _ nq osq).below.mono NB.size)⟩
set_option maxRecDepth 100000 in
set_option maxHeartbeats 4000000 in
theorem implFi (xs : List GEarth) (v : Value) (D : Int) (w : World) (B : Nat) (h : EarthL w B v xs) (hB : B ≤ w.heap.size) (hn : szsEarth xs ≤ 1048576) (hw : ∀ s ∈ xs, wfEarth s) (_ : I64 D) :
    Calls Try.prog 37 #[v, .int .i64 D] w fun e w' => e = .returned (.tuple #[.int .i64 (layFi xs D), .bool (okFi xs D)]) ∧ Below w.heap.size w w' := by
  have hl := Nat.le_trans (szsEarth_len xs) hn
  have N0 := Below.refl w.heap.size w
  cases hg : goodE xs with
  | false =>
    have CG : Hid (∀ W, Below w.heap.size w W → Calls Try.prog 35 #[v] W fun e w9 => e = .returned (.bool false) ∧ Below W.heap.size W w9) := Lib.hid (fun W q => implGoodE xs v false W B (h.below (q.mono hB)) (Nat.le_trans hB q.size) hl hg)
    have HF := Lib.hid (noFi (xs := xs) (D := D) (by unfold okFi; rw [hg]; rfl))
    obtain ⟨ao, cap, rfl⟩ := h.form
    clear h hg
    go_enter Try.func37, Try.ntmps37
    go_wp2_with fail
    refine (CG.out _ N0).mono ?_
    rintro e w1 ⟨rfl, hb1⟩
    have N1 := N0.trans (hb1.mono N0.size)
    clear hb1 N0
    go_wp2
    go_ret2
    exact ⟨HF.out, N1⟩
  | true =>
    have hok := goodE_yes hg
    have CG : Hid (∀ W, Below w.heap.size w W → Calls Try.prog 35 #[v] W fun e w9 => e = .returned (.bool true) ∧ Below W.heap.size W w9) := Lib.hid (fun W q => implGoodE xs v true W B (h.below (q.mono hB)) (Nat.le_trans hB q.size) hl hg)
    by_cases hd : 0 ≤ D ∧ D ≤ 2000
    case neg =>
      have CD : Hid (∀ W, Below w.heap.size w W → Calls Try.prog 99 #[.int .i64 D] W fun e w9 => e = .returned (.bool false) ∧ Below W.heap.size W w9) := Lib.hid (fun W q => implDist D false W (decide_eq_false hd))
      have HF := Lib.hid (noFi (xs := xs) (D := D) (by unfold okFi; rw [decide_eq_false hd, Bool.and_false]))
      obtain ⟨ao, cap, rfl⟩ := h.form
      clear h hg hd hok
      go_enter Try.func37, Try.ntmps37
      go_wp2_with fail
      refine (CG.out _ N0).mono ?_
      rintro e w1 ⟨rfl, hb1⟩
      have N1 := N0.trans (hb1.mono N0.size)
      clear hb1 N0
      go_wp2_with fail
      refine (CD.out _ N1).mono ?_
      rintro e w2 ⟨rfl, hb2⟩
      have N2 := N1.trans (hb2.mono N1.size)
      clear hb2 N1
      go_wp2
      go_ret2
      exact ⟨HF.out, N2⟩
    have CD : Hid (∀ W, Below w.heap.size w W → Calls Try.prog 99 #[.int .i64 D] W fun e w9 => e = .returned (.bool true) ∧ Below W.heap.size W w9) := Lib.hid (fun W q => implDist D true W (decide_eq_true hd))
    have CT : Hid (∀ W, Below w.heap.size w W → Calls Try.prog 100 #[v] W fun e w9 => e = .returned (.agg (tvE xs).toArray) ∧ Below W.heap.size W w9) := Lib.hid (fun W q => implTvl xs v W B (h.below (q.mono hB)) (Nat.le_trans hB q.size) hok)
    have HF := Lib.hid (yesFi (xs := xs) (D := D) (by unfold okFi; rw [hg, decide_eq_true hd]; rfl) rfl)
    have CA : Hid (∀ W, Below w.heap.size w W → Calls Try.prog 117 #[.agg (tvE xs).toArray, .int .i64 D] W fun e w9 => e = .returned (.int .i64 ((bestE (viaE (prodE xs) xs D) (xs.length - 1) : Nat) : Int)) ∧ Below W.heap.size W w9) := Lib.hid (fun W q => (implFast xs D _ W hok hd.1 hd.2 rfl).mono fun e w9 hh => ⟨hh.1, hh.2.below⟩)
    obtain ⟨f0, f1, f2, f3, f4, t0, t1, t2, t3, t4, ht⟩ := tvE_form xs
    rw [ht] at CT CA
    generalize ((bestE (viaE (prodE xs) xs D) (xs.length - 1) : Nat) : Int) = be at *
    generalize prodE xs = P at *
    obtain ⟨ao, cap, rfl⟩ := h.form
    clear h hg hd hok ht
    go_enter Try.func37, Try.ntmps37
    go_wp2_with fail
    refine (CG.out _ N0).mono ?_
    rintro e w1 ⟨rfl, hb1⟩
    have N1 := N0.trans (hb1.mono N0.size)
    clear hb1 N0
    go_wp2_with fail
    refine (CD.out _ N1).mono ?_
    rintro e w2 ⟨rfl, hb2⟩
    have N2 := N1.trans (hb2.mono N1.size)
    clear hb2 N1
    go_wp2_with fail
    refine (CT.out _ N2).mono ?_
    rintro e w3 ⟨rfl, hb3⟩
    have N3 := N2.trans (hb3.mono N2.size)
    clear hb3 N2
    go_wp2_with fail
    refine (CA.out _ N3).mono ?_
    rintro e w4 ⟨rfl, hb4⟩
    have N4 := N3.trans (hb4.mono N3.size)
    clear hb4 N3
    go_wp2
    go_ret2
    exact ⟨HF.out, N4⟩
set_option maxRecDepth 100000 in
set_option maxHeartbeats 4000000 in
theorem implFt (xs : List GEarth) (v : Value) (D : Int) (w : World) (B : Nat) (h : EarthL w B v xs) (hB : B ≤ w.heap.size) (hn : szsEarth xs ≤ 1048576) (hw : ∀ s ∈ xs, wfEarth s) (_ : I64 D) :
    Calls Try.prog 18 #[v, .int .i64 D] w fun e w' => e = .returned (.tuple #[.int .i64 (numFt xs D), .int .i64 (denFt xs D), .bool (okFi xs D)]) ∧ Below w.heap.size w w' := by
  have hl := Nat.le_trans (szsEarth_len xs) hn
  have N0 := Below.refl w.heap.size w
  cases hg : goodE xs with
  | false =>
    have CG : Hid (∀ W, Below w.heap.size w W → Calls Try.prog 35 #[v] W fun e w9 => e = .returned (.bool false) ∧ Below W.heap.size W w9) := Lib.hid (fun W q => implGoodE xs v false W B (h.below (q.mono hB)) (Nat.le_trans hB q.size) hl hg)
    have HF := Lib.hid (noFt (xs := xs) (D := D) (by unfold okFi; rw [hg]; rfl))
    obtain ⟨ao, cap, rfl⟩ := h.form
    clear h hg
    go_enter Try.func18, Try.ntmps18
    go_wp2_with fail
    refine (CG.out _ N0).mono ?_
    rintro e w1 ⟨rfl, hb1⟩
    have N1 := N0.trans (hb1.mono N0.size)
    clear hb1 N0
    go_wp2
    go_ret3
    exact ⟨HF.out, N1⟩
  | true =>
    have hok := goodE_yes hg
    have CG : Hid (∀ W, Below w.heap.size w W → Calls Try.prog 35 #[v] W fun e w9 => e = .returned (.bool true) ∧ Below W.heap.size W w9) := Lib.hid (fun W q => implGoodE xs v true W B (h.below (q.mono hB)) (Nat.le_trans hB q.size) hl hg)
    by_cases hd : 0 ≤ D ∧ D ≤ 2000
    case neg =>
      have CD : Hid (∀ W, Below w.heap.size w W → Calls Try.prog 99 #[.int .i64 D] W fun e w9 => e = .returned (.bool false) ∧ Below W.heap.size W w9) := Lib.hid (fun W q => implDist D false W (decide_eq_false hd))
      have HF := Lib.hid (noFt (xs := xs) (D := D) (by unfold okFi; rw [decide_eq_false hd, Bool.and_false]))
      obtain ⟨ao, cap, rfl⟩ := h.form
      clear h hg hd hok
      go_enter Try.func18, Try.ntmps18
      go_wp2_with fail
      refine (CG.out _ N0).mono ?_
      rintro e w1 ⟨rfl, hb1⟩
      have N1 := N0.trans (hb1.mono N0.size)
      clear hb1 N0
      go_wp2_with fail
      refine (CD.out _ N1).mono ?_
      rintro e w2 ⟨rfl, hb2⟩
      have N2 := N1.trans (hb2.mono N1.size)
      clear hb2 N1
      go_wp2
      go_ret3
      exact ⟨HF.out, N2⟩
    have CD : Hid (∀ W, Below w.heap.size w W → Calls Try.prog 99 #[.int .i64 D] W fun e w9 => e = .returned (.bool true) ∧ Below W.heap.size W w9) := Lib.hid (fun W q => implDist D true W (decide_eq_true hd))
    have CT : Hid (∀ W, Below w.heap.size w W → Calls Try.prog 100 #[v] W fun e w9 => e = .returned (.agg (tvE xs).toArray) ∧ Below W.heap.size W w9) := Lib.hid (fun W q => implTvl xs v W B (h.below (q.mono hB)) (Nat.le_trans hB q.size) hok)
    have HF := Lib.hid (yesFt (xs := xs) (D := D) (by unfold okFi; rw [hg, decide_eq_true hd]; rfl) rfl rfl)
    have vb := minE_bd hok hd.1 hd.2
    have CA : Hid (∀ (W : World) n os, Calls Try.prog 102 #[.agg (tvE xs).toArray, .int .i64 D] (grow (W.drewN n) os) fun e w'' => e = .returned (.int .i64 (minE (prodE xs) xs D)) ∧ ∃ p : Gr, w'' = grow (W.drewN p.n) p.os) := Lib.hid (fun W n os => Calls.gr_of (implMin xs D _ (grow (W.drewN n) os) hok hd.1 hd.2 rfl))
    have CB : Hid (∀ (W : World) n os, Calls Try.prog 101 #[.int .i64 (minE (prodE xs) xs D), .int .i64 (prodE xs)] (grow (W.drewN n) os) fun e w'' => e = .returned (.tuple #[.int .i64 (numR (minE (prodE xs) xs D) (prodE xs)), .int .i64 (denR (minE (prodE xs) xs D) (prodE xs))]) ∧ ∃ p : Gr, w'' = grow (W.drewN p.n) p.os) := Lib.hid (fun W n os => Calls.gr_of (implRedE hok _ (grow (W.drewN n) os) vb.1 vb.2))
    obtain ⟨f0, f1, f2, f3, f4, t0, t1, t2, t3, t4, ht⟩ := tvE_form xs
    rw [ht] at CT CA
    generalize numR (minE (prodE xs) xs D) (prodE xs) = nu at *
    generalize denR (minE (prodE xs) xs D) (prodE xs) = de at *
    generalize minE (prodE xs) xs D = vi at *
    generalize prodE xs = P at *
    obtain ⟨ao, cap, rfl⟩ := h.form
    clear h hg hd hok vb ht
    go_enter Try.func18, Try.ntmps18
    go_wp2_with fail
    refine (CG.out _ N0).mono ?_
    rintro e w1 ⟨rfl, hb1⟩
    have N1 := N0.trans (hb1.mono N0.size)
    clear hb1 N0
    go_wp2_with fail
    refine (CD.out _ N1).mono ?_
    rintro e w2 ⟨rfl, hb2⟩
    have N2 := N1.trans (hb2.mono N1.size)
    clear hb2 N1
    go_wp2_with fail
    refine (CT.out _ N2).mono ?_
    rintro e w3 ⟨rfl, hb3⟩
    have N3 := N2.trans (hb3.mono N2.size)
    clear hb3 N2
    have bt := Bx.new w3 [.int .i64 xs.length, .int .i64 P, .int .i64 f0, .int .i64 f1, .int .i64 f2, .int .i64 f3, .int .i64 f4, .int .i64 t0, .int .i64 t1, .int .i64 t2, .int .i64 t3, .int .i64 t4] 89
    have NB := N3.alloc N3.size (.cells #[.int .i64 xs.length, .int .i64 P, .int .i64 f0, .int .i64 f1, .int .i64 f2, .int .i64 f3, .int .i64 f4, .int .i64 t0, .int .i64 t1, .int .i64 t2, .int .i64 t3, .int .i64 t4] 89)
    have r0 := cell_gr (bt.2 0 _ rfl)
    have r1 := cell_gr (bt.2 1 _ rfl)
    have r2 := cell_gr (bt.2 2 _ rfl)
    have r3 := cell_gr (bt.2 3 _ rfl)
    have r4 := cell_gr (bt.2 4 _ rfl)
    have r5 := cell_gr (bt.2 5 _ rfl)
    have r6 := cell_gr (bt.2 6 _ rfl)
    have r7 := cell_gr (bt.2 7 _ rfl)
    have r8 := cell_gr (bt.2 8 _ rfl)
    have r9 := cell_gr (bt.2 9 _ rfl)
    have r10 := cell_gr (bt.2 10 _ rfl)
    have r11 := cell_gr (bt.2 11 _ rfl)
    have cA := fun n os => CA.out (w3.alloc (.cells #[.int .i64 xs.length, .int .i64 P, .int .i64 f0, .int .i64 f1, .int .i64 f2, .int .i64 f3, .int .i64 f4, .int .i64 t0, .int .i64 t1, .int .i64 t2, .int .i64 t3, .int .i64 t4] 89)) n os
    have cB := fun n os => CB.out (w3.alloc (.cells #[.int .i64 xs.length, .int .i64 P, .int .i64 f0, .int .i64 f1, .int .i64 f2, .int .i64 f3, .int .i64 f4, .int .i64 t0, .int .i64 t1, .int .i64 t2, .int .i64 t3, .int .i64 t4] 89)) n os
    go_wp2
    refine region_grw (by kernel_rfl) (by kernel_rfl) ?_
    iterate 3 (go_big_quiet_step (with_reducible exact cA _ _))
    repeat (go_big_quiet_step (with_reducible exact cB _ _))
    refine wpQuiet_nil ?_
    intro _ hw'
    obtain ⟨⟨nq, osq⟩, hw''⟩ := hw'
    subst hw''
    go_wp2
    go_ret3
    exact ⟨HF.out, NB.trans ((grew_gr _ nq osq).below.mono NB.size)⟩
end Go.Proofs.Ytklilfbokpljkaa
