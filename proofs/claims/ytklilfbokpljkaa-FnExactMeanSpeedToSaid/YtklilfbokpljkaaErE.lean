/- Models of the ground: the specification's functions without loops. -/
import Derived.Test.YtklilfbokpljkaaErD
namespace Go.Proofs.Ytklilfbokpljkaa
open Go.ChangeShapes Go.WideShapes Go.ChangeAt Go.RowKit Go.ChangeMaps
set_option linter.unusedSimpArgs false
set_option linter.unusedVariables false
set_option linter.unusedSimpArgs false
set_option linter.unusedVariables false

theorem specIsM (xs : List GEarth) (v : Value) (w : World) (B : Nat) (h : EarthL w B v xs) (hB : B ≤ w.heap.size) (hn : szsEarth xs ≤ 1048576) (hw : ∀ s ∈ xs, wfEarth s) :
    Calls Try.prog 36 #[v] w fun e w' => e = .returned (.bool (goodE xs)) ∧ Below w.heap.size w w' := by
  have C := Lib.hid (specGoodE xs v _ w B h (Nat.le_trans (szsEarth_len xs) hn) rfl)
  obtain ⟨ao, cap, rfl⟩ := h.form
  go_enter Try.func36, Try.ntmps36
  go_wp2_with fail
  refine C.out.mono ?_
  rintro e w9 ⟨rfl, q9⟩
  obtain rfl : w = w9 := q9.symm
  go_wp2
  go_ret
  exact ⟨rfl, Below.refl _ _⟩
theorem inF {x a b : Int} (h : ¬ (a ≤ x ∧ x ≤ b)) : decide (a ≤ x ∧ x ≤ b) = false := decide_eq_false h
/-- The specification's test of a model and a distance. -/
theorem specFar (xs : List GEarth) (v : Value) (D : Int) (u : Bool) (w : World) (B : Nat) (h : EarthL w B v xs) (hl : xs.length ≤ 1048576) (hu : okFi xs D = u) :
    Calls Try.prog 95 #[v, .int .i64 D] w fun e w' => e = .returned (.bool u) ∧ w' = w := by
  subst hu
  unfold okFi
  cases hg : goodE xs with
  | false =>
    have C := Lib.hid (specGoodE xs v false w B h hl hg)
    obtain ⟨ao, cap, rfl⟩ := h.form
    go_enter Try.func95, Try.ntmps95
    go_wp2_with fail
    refine C.out.mono ?_
    rintro e w9 ⟨rfl, q9⟩
    obtain rfl : w = w9 := q9.symm
    go_wp2
    go_ret
    exact ⟨rfl, rfl⟩
  | true =>
    have C := Lib.hid (specGoodE xs v true w B h hl hg)
    obtain ⟨u, hu⟩ : ∃ u, decide (0 ≤ D ∧ D ≤ 2000) = u := ⟨_, rfl⟩
    have CI := Lib.hid (fun W => inEB D 0 2000 u W hu)
    rw [hu]
    clear hu
    obtain ⟨ao, cap, rfl⟩ := h.form
    go_enter Try.func95, Try.ntmps95
    go_wp2_with fail
    refine C.out.mono ?_
    rintro e w9 ⟨rfl, q9⟩
    obtain rfl : w = w9 := q9.symm
    go_wp2_with fail
    refine (CI.out _).mono ?_
    rintro e w9 ⟨rfl, q9⟩
    obtain rfl : w = w9 := q9.symm
    go_wp2
    go_ret
    exact ⟨rfl, rfl⟩
theorem okFi_yes {xs : List GEarth} {D : Int} (h : okFi xs D = true) : okE xs ∧ (0 ≤ D ∧ D ≤ 2000) := by
  unfold okFi at h
  rw [Bool.and_eq_true] at h
  exact ⟨goodE_yes h.1, of_decide_eq_true h.2⟩
set_option maxRecDepth 100000 in
set_option maxHeartbeats 1000000 in
theorem specMd (xs : List GEarth) (v : Value) (w : World) (B : Nat) (h : EarthL w B v xs) (hB : B ≤ w.heap.size) (hn : szsEarth xs ≤ 1048576) (hw : ∀ s ∈ xs, wfEarth s) :
    Calls Try.prog 33 #[v] w fun e w' => e = .returned (.tuple #[.int .i64 (numMd xs), .bool (okMd xs)]) ∧ Below w.heap.size w w' := by
  have hl := Nat.le_trans (szsEarth_len xs) hn
  have D0 := Drawn.refl w
  cases hg : goodE xs with
  | false =>
    have CG : Hid (∀ W, Drawn w W → Calls Try.prog 104 #[v] W fun e w9 => e = .returned (.bool false) ∧ w9 = W) := Lib.hid (fun W q => specGoodE xs v false W B (h.below (q.below _)) hl hg)
    have HF := Lib.hid (noMd (xs := xs) (by unfold okMd; exact hg))
    obtain ⟨ao, cap, rfl⟩ := h.form
    clear h hg
    go_enter Try.func33, Try.ntmps33
    go_wp2_with fail
    refine (CG.out _ D0).mono ?_
    rintro e w9 ⟨rfl, q9⟩
    obtain rfl : w = w9 := q9.symm
    go_wp2
    go_ret2
    exact ⟨HF.out, D0.below _⟩
  | true =>
    have hok := goodE_yes hg
    obtain ⟨dp, hdp⟩ : ∃ dp, depE xs = dp := ⟨_, rfl⟩
    have CG : Hid (∀ W, Drawn w W → Calls Try.prog 104 #[v] W fun e w9 => e = .returned (.bool true) ∧ w9 = W) := Lib.hid (fun W q => specGoodE xs v true W B (h.below (q.below _)) hl hg)
    have CD : Hid (∀ W, Drawn w W → Calls Try.prog 106 #[v] W fun e w9 => e = .returned (.int .i64 dp) ∧ w9 = W) := Lib.hid (fun W q => specDepE xs v dp W B (h.below (q.below _)) hok.1.2 hok.2 hdp)
    have HF := Lib.hid (yesMd (xs := xs) (by unfold okMd; exact hg) hdp)
    obtain ⟨ao, cap, rfl⟩ := h.form
    clear h hg hdp hok
    go_enter Try.func33, Try.ntmps33
    go_wp2_with fail
    refine (CG.out _ D0).mono ?_
    rintro e w9 ⟨rfl, q9⟩
    obtain rfl : w = w9 := q9.symm
    go_wp2_with fail
    refine (CD.out _ D0).mono ?_
    rintro e w9 ⟨rfl, q9⟩
    obtain rfl : w = w9 := q9.symm
    go_wp2
    go_ret2
    exact ⟨HF.out, D0.below _⟩
set_option maxRecDepth 100000 in
set_option maxHeartbeats 1000000 in
theorem specTo3 (xs : List GEarth) (v : Value) (d : Int) (w : World) (B : Nat) (h : EarthL w B v xs) (hB : B ≤ w.heap.size) (hn : szsEarth xs ≤ 1048576) (hw : ∀ s ∈ xs, wfEarth s) (_ : I64 d) :
    Calls Try.prog 22 #[v, .int .i64 d] w fun e w' => e = .returned (.tuple #[.int .i64 (numTo xs d), .int .i64 (denTo xs d), .bool (okTo xs d)]) ∧ Below w.heap.size w w' := by
  have hl := Nat.le_trans (szsEarth_len xs) hn
  have D0 := Drawn.refl w
  cases hg : goodE xs with
  | false =>
    have CG : Hid (∀ W, Drawn w W → Calls Try.prog 104 #[v] W fun e w9 => e = .returned (.bool false) ∧ w9 = W) := Lib.hid (fun W q => specGoodE xs v false W B (h.below (q.below _)) hl hg)
    have HF := Lib.hid (noTo (xs := xs) (d := d) (by unfold okTo; rw [hg]; rfl))
    obtain ⟨ao, cap, rfl⟩ := h.form
    clear h hg
    go_enter Try.func22, Try.ntmps22
    go_wp2_with fail
    refine (CG.out _ D0).mono ?_
    rintro e w9 ⟨rfl, q9⟩
    obtain rfl : w = w9 := q9.symm
    go_wp2
    go_ret3
    exact ⟨HF.out, D0.below _⟩
  | true =>
    have hok := goodE_yes hg
    obtain ⟨dp, hdp⟩ : ∃ dp, depE xs = dp := ⟨_, rfl⟩
    have hda := depE_all hok
    rw [hdp] at hda
    have CG : Hid (∀ W, Drawn w W → Calls Try.prog 104 #[v] W fun e w9 => e = .returned (.bool true) ∧ w9 = W) := Lib.hid (fun W q => specGoodE xs v true W B (h.below (q.below _)) hl hg)
    have CD : Hid (∀ W, Drawn w W → Calls Try.prog 106 #[v] W fun e w9 => e = .returned (.int .i64 dp) ∧ w9 = W) := Lib.hid (fun W q => specDepE xs v dp W B (h.below (q.below _)) hok.1.2 hok.2 hdp)
    by_cases hd : 0 ≤ d ∧ d ≤ dp
    case neg =>
      have CI := Lib.hid (fun W => inEB d 0 dp false W (decide_eq_false hd))
      have HF := Lib.hid (noTo (xs := xs) (d := d) (by unfold okTo; rw [hdp, decide_eq_false hd, Bool.and_false]))
      obtain ⟨ao, cap, rfl⟩ := h.form
      clear h hg hd hdp hok
      go_enter Try.func22, Try.ntmps22
      go_wp2_with fail
      refine (CG.out _ D0).mono ?_
      rintro e w9 ⟨rfl, q9⟩
      obtain rfl : w = w9 := q9.symm
      go_wp2_with fail
      refine (CD.out _ D0).mono ?_
      rintro e w9 ⟨rfl, q9⟩
      obtain rfl : w = w9 := q9.symm
      go_wp2_with fail
      refine (CI.out _).mono ?_
      rintro e w9 ⟨rfl, q9⟩
      obtain rfl : w = w9 := q9.symm
      go_wp2
      go_ret3
      exact ⟨HF.out, D0.below _⟩
    have CI := Lib.hid (fun W => inEB d 0 dp true W (decide_eq_true hd))
    have HF := Lib.hid (yesTo (xs := xs) (d := d) (by unfold okTo; rw [hg, hdp, decide_eq_true hd]; rfl) rfl rfl)
    have CT : Hid (∀ W, Drawn w W → Calls Try.prog 107 #[v, .int .i64 d] W fun e w9 => e = .returned (.tuple #[.int .i64 (numR (toE (prodE xs) xs d xs.length) (prodE xs)), .int .i64 (denR (toE (prodE xs) xs d xs.length) (prodE xs))]) ∧ Drawn W w9) := Lib.hid (fun W q => specTo xs v d _ _ W B (h.below (q.below _)) hok (by omega) (by omega) rfl rfl)
    generalize numR (toE (prodE xs) xs d xs.length) (prodE xs) = nu at *
    generalize denR (toE (prodE xs) xs d xs.length) (prodE xs) = de at *
    obtain ⟨ao, cap, rfl⟩ := h.form
    clear h hg hd hdp hok hda
    go_enter Try.func22, Try.ntmps22
    go_wp2_with fail
    refine (CG.out _ D0).mono ?_
    rintro e w9 ⟨rfl, q9⟩
    obtain rfl : w = w9 := q9.symm
    go_wp2_with fail
    refine (CD.out _ D0).mono ?_
    rintro e w9 ⟨rfl, q9⟩
    obtain rfl : w = w9 := q9.symm
    go_wp2_with fail
    refine (CI.out _).mono ?_
    rintro e w9 ⟨rfl, q9⟩
    obtain rfl : w = w9 := q9.symm
    go_wp2_with fail
    refine (CT.out _ D0).mono ?_
    rintro e w4 ⟨rfl, q9⟩
    have D4 := D0.trans q9
    clear q9 D0
    go_wp2
    go_ret3
    exact ⟨HF.out, D4.below _⟩
set_option maxRecDepth 100000 in
set_option maxHeartbeats 1000000 in
theorem specMs (xs : List GEarth) (v : Value) (d : Int) (w : World) (B : Nat) (h : EarthL w B v xs) (hB : B ≤ w.heap.size) (hn : szsEarth xs ≤ 1048576) (hw : ∀ s ∈ xs, wfEarth s) (_ : I64 d) :
    Calls Try.prog 20 #[v, .int .i64 d] w fun e w' => e = .returned (.tuple #[.int .i64 (numMs xs d), .int .i64 (denMs xs d), .bool (okMs xs d)]) ∧ Below w.heap.size w w' := by
  have hl := Nat.le_trans (szsEarth_len xs) hn
  have D0 := Drawn.refl w
  cases hg : goodE xs with
  | false =>
    have CG : Hid (∀ W, Drawn w W → Calls Try.prog 104 #[v] W fun e w9 => e = .returned (.bool false) ∧ w9 = W) := Lib.hid (fun W q => specGoodE xs v false W B (h.below (q.below _)) hl hg)
    have HF := Lib.hid (noMs (xs := xs) (d := d) (by unfold okMs; rw [hg]; rfl))
    obtain ⟨ao, cap, rfl⟩ := h.form
    clear h hg
    go_enter Try.func20, Try.ntmps20
    go_wp2_with fail
    refine (CG.out _ D0).mono ?_
    rintro e w9 ⟨rfl, q9⟩
    obtain rfl : w = w9 := q9.symm
    go_wp2
    go_ret3
    exact ⟨HF.out, D0.below _⟩
  | true =>
    have hok := goodE_yes hg
    obtain ⟨dp, hdp⟩ : ∃ dp, depE xs = dp := ⟨_, rfl⟩
    have hda := depE_all hok
    rw [hdp] at hda
    have CG : Hid (∀ W, Drawn w W → Calls Try.prog 104 #[v] W fun e w9 => e = .returned (.bool true) ∧ w9 = W) := Lib.hid (fun W q => specGoodE xs v true W B (h.below (q.below _)) hl hg)
    have CD : Hid (∀ W, Drawn w W → Calls Try.prog 106 #[v] W fun e w9 => e = .returned (.int .i64 dp) ∧ w9 = W) := Lib.hid (fun W q => specDepE xs v dp W B (h.below (q.below _)) hok.1.2 hok.2 hdp)
    by_cases hd : 1 ≤ d ∧ d ≤ dp
    case neg =>
      have CI := Lib.hid (fun W => inEB d 1 dp false W (decide_eq_false hd))
      have HF := Lib.hid (noMs (xs := xs) (d := d) (by unfold okMs; rw [hdp, decide_eq_false hd, Bool.and_false]))
      obtain ⟨ao, cap, rfl⟩ := h.form
      clear h hg hd hdp hok
      go_enter Try.func20, Try.ntmps20
      go_wp2_with fail
      refine (CG.out _ D0).mono ?_
      rintro e w9 ⟨rfl, q9⟩
      obtain rfl : w = w9 := q9.symm
      go_wp2_with fail
      refine (CD.out _ D0).mono ?_
      rintro e w9 ⟨rfl, q9⟩
      obtain rfl : w = w9 := q9.symm
      go_wp2_with fail
      refine (CI.out _).mono ?_
      rintro e w9 ⟨rfl, q9⟩
      obtain rfl : w = w9 := q9.symm
      go_wp2
      go_ret3
      exact ⟨HF.out, D0.below _⟩
    have CI := Lib.hid (fun W => inEB d 1 dp true W (decide_eq_true hd))
    have HF := Lib.hid (yesMs (xs := xs) (d := d) (by unfold okMs; rw [hg, hdp, decide_eq_true hd]; rfl) rfl rfl)
    have CT : Hid (∀ W, Drawn w W → Calls Try.prog 107 #[v, .int .i64 d] W fun e w9 => e = .returned (.tuple #[.int .i64 (numR (toE (prodE xs) xs d xs.length) (prodE xs)), .int .i64 (denR (toE (prodE xs) xs d xs.length) (prodE xs))]) ∧ Drawn W w9) := Lib.hid (fun W q => specTo xs v d _ _ W B (h.below (q.below _)) hok (by omega) (by omega) rfl rfl)
    have tb := to_bd hok d
    have tp := num_pos (P := prodE xs) (toE_all hok hd.1)
    generalize numR (toE (prodE xs) xs d xs.length) (prodE xs) = nu at *
    generalize denR (toE (prodE xs) xs d xs.length) (prodE xs) = de at *
    have m1 := mul_bdE (A := 1000) (C := 312500000) (show 0 ≤ d by omega) (show d ≤ 1000 by omega) (show 0 ≤ de by omega) tb.2.2
    have s1 : IntKind.i64.wrap (d * de) = d * de := IntWalk.i64_in _ (by omega)
    have CR : Hid (∀ W, Calls Try.prog 108 #[.int .i64 (d * de), .int .i64 nu] W fun e w9 => e = .returned (.tuple #[.int .i64 (numR (d * de) nu), .int .i64 (denR (d * de) nu)]) ∧ Drawn W w9) := Lib.hid (fun W => specRed (d * de) nu W (by omega) (by omega) (by omega) (by omega))
    generalize numR (d * de) nu = nu2 at *
    generalize denR (d * de) nu = de2 at *
    have CR2 : Hid (∀ W, Drawn w W → Calls Try.prog 108 #[.int .i64 (d * de), .int .i64 nu] W fun e w9 => e = .returned (.tuple #[.int .i64 nu2, .int .i64 de2]) ∧ Drawn W w9) := Lib.hid (fun W _ => CR.out W)
    obtain ⟨ao, cap, rfl⟩ := h.form
    clear h hg hd hdp hok hda tb tp m1 CR
    go_enter Try.func20, Try.ntmps20
    go_wp2_with fail
    refine (CG.out _ D0).mono ?_
    rintro e w9 ⟨rfl, q9⟩
    obtain rfl : w = w9 := q9.symm
    go_wp2_with fail
    refine (CD.out _ D0).mono ?_
    rintro e w9 ⟨rfl, q9⟩
    obtain rfl : w = w9 := q9.symm
    go_wp2_with fail
    refine (CI.out _).mono ?_
    rintro e w9 ⟨rfl, q9⟩
    obtain rfl : w = w9 := q9.symm
    go_wp2_with fail
    refine (CT.out _ D0).mono ?_
    rintro e w4 ⟨rfl, q9⟩
    have D4 := D0.trans q9
    clear q9 D0
    go_wp2_with fail
    refine (CR2.out _ D4).mono ?_
    rintro e w5 ⟨rfl, q9⟩
    have D5 := D4.trans q9
    clear q9 D4
    go_wp2
    go_ret3
    exact ⟨HF.out, D5.below _⟩
set_option maxRecDepth 100000 in
set_option maxHeartbeats 1000000 in
theorem specVi (xs : List GEarth) (v : Value) (k : Int) (D : Int) (w : World) (B : Nat) (h : EarthL w B v xs) (hB : B ≤ w.heap.size) (hn : szsEarth xs ≤ 1048576) (hw : ∀ s ∈ xs, wfEarth s) (_ : I64 k) (_ : I64 D) :
    Calls Try.prog 24 #[v, .int .i64 k, .int .i64 D] w fun e w' => e = .returned (.tuple #[.int .i64 (numVi xs k D), .int .i64 (denVi xs k D), .bool (okVi xs k D)]) ∧ Below w.heap.size w w' := by
  have hl := Nat.le_trans (szsEarth_len xs) hn
  have D0 := Drawn.refl w
  cases hg : okFi xs D with
  | false =>
    have CF : Hid (∀ W, Drawn w W → Calls Try.prog 95 #[v, .int .i64 D] W fun e w9 => e = .returned (.bool false) ∧ w9 = W) := Lib.hid (fun W q => specFar xs v D false W B (h.below (q.below _)) hl hg)
    have HF := Lib.hid (noVi (xs := xs) (k := k) (D := D) (by unfold okVi; unfold okFi at hg; rw [hg]; rfl))
    obtain ⟨ao, cap, rfl⟩ := h.form
    clear h hg
    go_enter Try.func24, Try.ntmps24
    go_wp2_with fail
    refine (CF.out _ D0).mono ?_
    rintro e w9 ⟨rfl, q9⟩
    obtain rfl : w = w9 := q9.symm
    go_wp2
    go_ret3
    exact ⟨HF.out, D0.below _⟩
  | true =>
    obtain ⟨hok, hD0, hD1⟩ := okFi_yes hg
    have CF : Hid (∀ W, Drawn w W → Calls Try.prog 95 #[v, .int .i64 D] W fun e w9 => e = .returned (.bool true) ∧ w9 = W) := Lib.hid (fun W q => specFar xs v D true W B (h.below (q.below _)) hl hg)
    have s9 : IntKind.i64.wrap ((xs.length : Int) - 1) = (xs.length : Int) - 1 := IntWalk.i64_in _ (by omega)
    by_cases hd : 0 ≤ k ∧ k ≤ (xs.length : Int) - 1
    case neg =>
      have CI := Lib.hid (fun W => inEB k 0 ((xs.length : Int) - 1) false W (decide_eq_false hd))
      have HF := Lib.hid (noVi (xs := xs) (k := k) (D := D) (by unfold okVi; rw [decide_eq_false hd, Bool.and_false]))
      obtain ⟨ao, cap, rfl⟩ := h.form
      clear h hg hd hok
      go_enter Try.func24, Try.ntmps24
      go_wp2_with fail
      refine (CF.out _ D0).mono ?_
      rintro e w9 ⟨rfl, q9⟩
      obtain rfl : w = w9 := q9.symm
      go_wp2_with fail
      refine (CI.out _).mono ?_
      rintro e w9 ⟨rfl, q9⟩
      obtain rfl : w = w9 := q9.symm
      go_wp2
      go_ret3
      exact ⟨HF.out, D0.below _⟩
    have CI := Lib.hid (fun W => inEB k 0 ((xs.length : Int) - 1) true W (decide_eq_true hd))
    have HF := Lib.hid (yesVi (xs := xs) (k := k) (D := D) (by unfold okVi; unfold okFi at hg; rw [hg, decide_eq_true hd]; rfl) rfl rfl)
    have CT : Hid (∀ W, Drawn w W → Calls Try.prog 96 #[v, .int .i64 k, .int .i64 D] W fun e w9 => e = .returned (.tuple #[.int .i64 (numR (viaE (prodE xs) xs D k.toNat) (prodE xs)), .int .i64 (denR (viaE (prodE xs) xs D k.toNat) (prodE xs))]) ∧ Drawn W w9) := Lib.hid (fun W q => by have := specVia xs v k.toNat D _ _ W B (h.below (q.below _)) hok (by omega) hD0 hD1 rfl rfl; rwa [show ((k.toNat : Nat) : Int) = k by omega] at this)
    generalize numR (viaE (prodE xs) xs D k.toNat) (prodE xs) = nu at *
    generalize denR (viaE (prodE xs) xs D k.toNat) (prodE xs) = de at *
    obtain ⟨ao, cap, rfl⟩ := h.form
    clear h hg hd hok
    go_enter Try.func24, Try.ntmps24
    go_wp2_with fail
    refine (CF.out _ D0).mono ?_
    rintro e w9 ⟨rfl, q9⟩
    obtain rfl : w = w9 := q9.symm
    go_wp2_with fail
    refine (CI.out _).mono ?_
    rintro e w9 ⟨rfl, q9⟩
    obtain rfl : w = w9 := q9.symm
    go_wp2_with fail
    refine (CT.out _ D0).mono ?_
    rintro e w3 ⟨rfl, q9⟩
    have D3 := D0.trans q9
    clear q9 D0
    go_wp2
    go_ret3
    exact ⟨HF.out, D3.below _⟩
set_option maxRecDepth 100000 in
set_option maxHeartbeats 1000000 in
theorem specFi (xs : List GEarth) (v : Value) (D : Int) (w : World) (B : Nat) (h : EarthL w B v xs) (hB : B ≤ w.heap.size) (hn : szsEarth xs ≤ 1048576) (hw : ∀ s ∈ xs, wfEarth s) (_ : I64 D) :
    Calls Try.prog 38 #[v, .int .i64 D] w fun e w' => e = .returned (.tuple #[.int .i64 (layFi xs D), .bool (okFi xs D)]) ∧ Below w.heap.size w w' := by
  have hl := Nat.le_trans (szsEarth_len xs) hn
  have D0 := Drawn.refl w
  cases hg : okFi xs D with
  | false =>
    have CF : Hid (∀ W, Drawn w W → Calls Try.prog 95 #[v, .int .i64 D] W fun e w9 => e = .returned (.bool false) ∧ w9 = W) := Lib.hid (fun W q => specFar xs v D false W B (h.below (q.below _)) hl hg)
    have HF := Lib.hid (noFi (xs := xs) (D := D) hg)
    rw [hg] at HF
    obtain ⟨ao, cap, rfl⟩ := h.form
    clear h hg
    go_enter Try.func38, Try.ntmps38
    go_wp2_with fail
    refine (CF.out _ D0).mono ?_
    rintro e w9 ⟨rfl, q9⟩
    obtain rfl : w = w9 := q9.symm
    go_wp2
    go_ret2
    exact ⟨HF.out, D0.below _⟩
  | true =>
    obtain ⟨hok, hD0, hD1⟩ := okFi_yes hg
    have CF : Hid (∀ W, Drawn w W → Calls Try.prog 95 #[v, .int .i64 D] W fun e w9 => e = .returned (.bool true) ∧ w9 = W) := Lib.hid (fun W q => specFar xs v D true W B (h.below (q.below _)) hl hg)
    have CX : Hid (∀ W, Drawn w W → Calls Try.prog 97 #[v, .int .i64 xs.length, .int .i64 D] W fun e w9 => e = .returned (.int .i64 ((bestE (viaE (prodE xs) xs D) (xs.length - 1) : Nat) : Int)) ∧ Drawn W w9) := Lib.hid (fun W q => specFirst xs v xs.length D _ W B (h.below (q.below _)) hok hok.1.1 (Nat.le_refl _) hD0 hD1 rfl)
    have HF := Lib.hid (yesFi (xs := xs) (D := D) hg rfl)
    rw [hg] at HF
    generalize ((bestE (viaE (prodE xs) xs D) (xs.length - 1) : Nat) : Int) = be at *
    obtain ⟨ao, cap, rfl⟩ := h.form
    clear h hg hok
    go_enter Try.func38, Try.ntmps38
    go_wp2_with fail
    refine (CF.out _ D0).mono ?_
    rintro e w9 ⟨rfl, q9⟩
    obtain rfl : w = w9 := q9.symm
    go_wp2_with fail
    refine (CX.out _ D0).mono ?_
    rintro e w2 ⟨rfl, q9⟩
    have D2 := D0.trans q9
    clear q9 D0
    go_wp2
    go_ret2
    exact ⟨HF.out, D2.below _⟩
set_option maxRecDepth 100000 in
set_option maxHeartbeats 1000000 in
theorem specFt (xs : List GEarth) (v : Value) (D : Int) (w : World) (B : Nat) (h : EarthL w B v xs) (hB : B ≤ w.heap.size) (hn : szsEarth xs ≤ 1048576) (hw : ∀ s ∈ xs, wfEarth s) (_ : I64 D) :
    Calls Try.prog 16 #[v, .int .i64 D] w fun e w' => e = .returned (.tuple #[.int .i64 (numFt xs D), .int .i64 (denFt xs D), .bool (okFi xs D)]) ∧ Below w.heap.size w w' := by
  have hl := Nat.le_trans (szsEarth_len xs) hn
  have D0 := Drawn.refl w
  cases hg : okFi xs D with
  | false =>
    have CF : Hid (∀ W, Drawn w W → Calls Try.prog 95 #[v, .int .i64 D] W fun e w9 => e = .returned (.bool false) ∧ w9 = W) := Lib.hid (fun W q => specFar xs v D false W B (h.below (q.below _)) hl hg)
    have HF := Lib.hid (noFt (xs := xs) (D := D) hg)
    rw [hg] at HF
    obtain ⟨ao, cap, rfl⟩ := h.form
    clear h hg
    go_enter Try.func16, Try.ntmps16
    go_wp2_with fail
    refine (CF.out _ D0).mono ?_
    rintro e w9 ⟨rfl, q9⟩
    obtain rfl : w = w9 := q9.symm
    go_wp2
    go_ret3
    exact ⟨HF.out, D0.below _⟩
  | true =>
    obtain ⟨hok, hD0, hD1⟩ := okFi_yes hg
    have CF : Hid (∀ W, Drawn w W → Calls Try.prog 95 #[v, .int .i64 D] W fun e w9 => e = .returned (.bool true) ∧ w9 = W) := Lib.hid (fun W q => specFar xs v D true W B (h.below (q.below _)) hl hg)
    have CX : Hid (∀ W, Drawn w W → Calls Try.prog 97 #[v, .int .i64 xs.length, .int .i64 D] W fun e w9 => e = .returned (.int .i64 ((bestE (viaE (prodE xs) xs D) (xs.length - 1) : Nat) : Int)) ∧ Drawn W w9) := Lib.hid (fun W q => specFirst xs v xs.length D _ W B (h.below (q.below _)) hok hok.1.1 (Nat.le_refl _) hD0 hD1 rfl)
    have HF := Lib.hid (yesFt (xs := xs) (D := D) hg rfl rfl)
    rw [hg] at HF
    have hbl := bestE_le (viaE (prodE xs) xs D) (xs.length - 1)
    have CT : Hid (∀ W, Drawn w W → Calls Try.prog 96 #[v, .int .i64 ((bestE (viaE (prodE xs) xs D) (xs.length - 1) : Nat) : Int), .int .i64 D] W fun e w9 => e = .returned (.tuple #[.int .i64 (numR (minE (prodE xs) xs D) (prodE xs)), .int .i64 (denR (minE (prodE xs) xs D) (prodE xs))]) ∧ Drawn W w9) := Lib.hid (fun W q => specVia xs v _ D _ _ W B (h.below (q.below _)) hok (by have := hok.1.1; omega) hD0 hD1 rfl rfl)
    generalize numR (minE (prodE xs) xs D) (prodE xs) = nu at *
    generalize denR (minE (prodE xs) xs D) (prodE xs) = de at *
    generalize ((bestE (viaE (prodE xs) xs D) (xs.length - 1) : Nat) : Int) = be at *
    obtain ⟨ao, cap, rfl⟩ := h.form
    clear h hg hok hbl
    go_enter Try.func16, Try.ntmps16
    go_wp2_with fail
    refine (CF.out _ D0).mono ?_
    rintro e w9 ⟨rfl, q9⟩
    obtain rfl : w = w9 := q9.symm
    go_wp2_with fail
    refine (CX.out _ D0).mono ?_
    rintro e w2 ⟨rfl, q9⟩
    have D2 := D0.trans q9
    clear q9 D0
    go_wp2_with fail
    refine (CT.out _ D2).mono ?_
    rintro e w3 ⟨rfl, q9⟩
    have D3 := D2.trans q9
    clear q9 D2
    go_wp2
    go_ret3
    exact ⟨HF.out, D3.below _⟩
end Go.Proofs.Ytklilfbokpljkaa
