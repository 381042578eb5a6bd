/- Triggers: the specification's tests, sums and ratios. -/
import Derived.Test.YtklilfbokpljkabTgM
import Derived.Test.YtklilfbokpljkabGrew
import Derived.BigQuiet
import Derived.IntWalk
import Derived.Lib.QuietBelow
namespace Go.Proofs.Ytklilfbokpljkab
open Go.ChangeShapes Go.WideShapes Go.ChangeAt Go.RowKit Go.ChangeMaps
set_option linter.unusedSimpArgs false
set_option linter.unusedVariables false
set_option linter.unusedSimpArgs false
set_option linter.unusedVariables false

abbrev aggS (s : GSetting) : Value := .agg #[.int .i64 s.pShort, .int .i64 s.pLong, .int .i64 s.pOn, .int .i64 s.pOff]
theorem specGoodS (s : GSetting) (u : Bool) (w : World) (hu : goodS s = u) (hw : wfSetting s) :
    Calls Try.prog 89 #[aggS s] w fun e w' => e = .returned (.bool u) ∧ Below w.heap.size w w' := by
  subst hu
  obtain ⟨w1, w2, w3, w4⟩ := hw
  unfold I64 at w1 w2 w3 w4
  by_cases h1 : 1 ≤ s.pShort ∧ s.pShort ≤ 5
  case neg =>
    have HF := Lib.hid (goodS_no (s := s) (fun g => h1 g.1))
    go_enter Try.func89, Try.ntmps89
    go_wp2_with fail
    refine (inNo _ _ _ _ h1).mono ?_
    rintro e w9 ⟨rfl, rfl⟩
    go_wp2
    go_ret
    exact ⟨ret_bool HF.out.symm, (Below.refl _ _).alloc (Nat.le_refl _) _⟩
  by_cases h2 : s.pShort + 1 ≤ s.pLong ∧ s.pLong ≤ 20
  case neg =>
    have HF := Lib.hid (goodS_no (s := s) (fun g => h2 g.2.1))
    go_enter Try.func89, Try.ntmps89
    go_wp2_with fail
    refine (inYes _ _ _ _ h1).mono ?_
    rintro e w9 ⟨rfl, rfl⟩
    go_wp2_with fail
    refine (inNo _ _ _ _ h2).mono ?_
    rintro e w9 ⟨rfl, rfl⟩
    go_wp2
    go_ret
    exact ⟨ret_bool HF.out.symm, (Below.refl _ _).alloc (Nat.le_refl _) _⟩
  by_cases h3 : 10 ≤ s.pOn ∧ s.pOn ≤ 1000
  case neg =>
    have HF := Lib.hid (goodS_no (s := s) (fun g => h3 g.2.2.1))
    go_enter Try.func89, Try.ntmps89
    go_wp2_with fail
    refine (inYes _ _ _ _ h1).mono ?_
    rintro e w9 ⟨rfl, rfl⟩
    go_wp2_with fail
    refine (inYes _ _ _ _ h2).mono ?_
    rintro e w9 ⟨rfl, rfl⟩
    go_wp2_with fail
    refine (inNo _ _ _ _ h3).mono ?_
    rintro e w9 ⟨rfl, rfl⟩
    go_wp2
    go_ret
    exact ⟨ret_bool HF.out.symm, (Below.refl _ _).alloc (Nat.le_refl _) _⟩
  by_cases h4 : 10 ≤ s.pOff ∧ s.pOff ≤ s.pOn
  case neg =>
    have HF := Lib.hid (goodS_no (s := s) (fun g => h4 g.2.2.2))
    go_enter Try.func89, Try.ntmps89
    go_wp2_with fail
    refine (inYes _ _ _ _ h1).mono ?_
    rintro e w9 ⟨rfl, rfl⟩
    go_wp2_with fail
    refine (inYes _ _ _ _ h2).mono ?_
    rintro e w9 ⟨rfl, rfl⟩
    go_wp2_with fail
    refine (inYes _ _ _ _ h3).mono ?_
    rintro e w9 ⟨rfl, rfl⟩
    go_wp2_with fail
    refine (inNo _ _ _ _ h4).mono ?_
    rintro e w9 ⟨rfl, rfl⟩
    go_wp2
    go_ret
    exact ⟨ret_bool HF.out.symm, (Below.refl _ _).alloc (Nat.le_refl _) _⟩
  have HF := Lib.hid (goodS_mk (s := s) ⟨h1, h2, h3, h4⟩)
  go_enter Try.func89, Try.ntmps89
  go_wp2_with fail
  refine (inYes _ _ _ _ h1).mono ?_
  rintro e w9 ⟨rfl, rfl⟩
  go_wp2_with fail
  refine (inYes _ _ _ _ h2).mono ?_
  rintro e w9 ⟨rfl, rfl⟩
  go_wp2_with fail
  refine (inYes _ _ _ _ h3).mono ?_
  rintro e w9 ⟨rfl, rfl⟩
  go_wp2_with fail
  refine (inYes _ _ _ _ h4).mono ?_
  rintro e w9 ⟨rfl, rfl⟩
  go_wp2
  go_ret
  exact ⟨ret_bool HF.out.symm, (Below.refl _ _).alloc (Nat.le_refl _) _⟩
theorem specIsSet (s : GSetting) (v : Value) (w : World) (B : Nat) (h : SettingVL w B v s) (hB : B ≤ w.heap.size) (_ : sz1Setting s ≤ 1048576) (hw : wfSetting s) :
    Calls Try.prog 47 #[v] w fun e w' => e = .returned (.bool (goodS s)) ∧ Below w.heap.size w w' := by
  obtain rfl := h.form
  have hz := (Below.refl w.heap.size w).alloc (Nat.le_refl _) (.cells #[.int .i64 s.pShort, .int .i64 s.pLong, .int .i64 s.pOn, .int .i64 s.pOff] 28)
  have C := Lib.hid (fun W => specGoodS s _ W rfl hw)
  generalize goodS s = u at *
  go_enter Try.func47, Try.ntmps47
  go_wp2_with fail
  refine (C.out _).mono ?_
  rintro e w1 ⟨rfl, hb⟩
  go_wp2
  go_ret
  exact ⟨rfl, hz.trans (hb.mono hz.size)⟩
theorem specAskT (xs : List Int) (v : Value) (s : GSetting) (u : Bool) (w : World) (B : Nat) (h : Lst (Value.int .i64) w B v xs) (hB : B ≤ w.heap.size) (hw : wfSetting s) (hu : goodTg xs s = u) :
    Calls Try.prog 69 #[v, aggS s] w fun e w' => e = .returned (.bool u) ∧ Below w.heap.size w w' := by
  have hz := (Below.refl w.heap.size w).alloc (Nat.le_refl _) (.cells #[.int .i64 s.pShort, .int .i64 s.pLong, .int .i64 s.pOn, .int .i64 s.pOff] 28)
  have h1 := h.below (hz.mono hB)
  unfold goodTg at hu
  cases hl : okL xs with
  | false =>
    have CL := Lib.hid (l2SamplesB xs v _ B false h1 hl)
    rw [hl, Bool.false_and] at hu
    subst hu
    obtain ⟨ao, cap, rfl⟩ := h.form
    clear h h1 hl
    go_enter Try.func69, Try.ntmps69
    go_wp2_with fail
    refine CL.out.mono ?_
    rintro e w9 ⟨rfl, rfl⟩
    go_wp2
    go_ret
    exact ⟨rfl, hz⟩
  | true =>
    have CL := Lib.hid (l2SamplesB xs v _ B true h1 hl)
    rw [hl, Bool.true_and] at hu
    have CS := Lib.hid (fun W => specGoodS s u W hu hw)
    obtain ⟨ao, cap, rfl⟩ := h.form
    clear h h1 hl hu
    go_enter Try.func69, Try.ntmps69
    go_wp2_with fail
    refine CL.out.mono ?_
    rintro e w9 ⟨rfl, rfl⟩
    go_wp2_with fail
    refine (CS.out _).mono ?_
    rintro e w1 ⟨rfl, hb⟩
    go_wp2
    go_ret
    exact ⟨rfl, hz.trans (hb.mono hz.size)⟩
/-- A sum without signs. -/
theorem specSumT (xs : List Int) (v : Value) (n : Int) (p : Nat) (r : Int) (w : World) (B : Nat) (h : Lst (Value.int .i64) w B v xs) (hx : ∀ x ∈ xs, -100000 ≤ x ∧ x ≤ 100000) (hl : xs.length ≤ 24)
    (h0 : 0 ≤ n) (hn : n ≤ (p : Int) + 1) (hp : p < xs.length) (hr : wA xs n.toNat p = r) :
    Calls Try.prog 118 #[v, .int .i64 n, .int .i64 p] w fun e w' => e = .returned (.int .i64 r) ∧ w' = w := by
  obtain ⟨ao, cap, rfl, hcap, hmax, -, hc⟩ := h
  unfold maxLen at hmax
  obtain ⟨m, rfl⟩ : ∃ m : Nat, n = (m : Int) := ⟨n.toNat, by omega⟩
  rw [Int.toNat_natCast] at hr
  have HR := Lib.hid hr
  have HX := Lib.hid hx
  have HC := Lib.hid hc
  obtain ⟨b0, hb0⟩ : ∃ b0, p + 1 - m = b0 := ⟨_, rfl⟩
  have hbb : (p : Int) - m + 1 = (b0 : Int) := by omega
  have HB0 := Lib.hid hb0
  have hp24 : (p : Int) < 24 := by omega
  have hpl : (p : Int) < (xs.length : Int) := by omega
  have hm0 : (m : Int) ≤ 24 := by omega
  have hb1 : b0 ≤ p + 1 := by omega
  clear hr hx hc hb0
  go_enter Try.func118, Try.ntmps118
  go_wp2
  go_loop [7, 8] (fun a i => ∃ k : Nat, b0 ≤ k ∧ k ≤ p + 1 ∧ i = .int .i64 k ∧ a = .int .i64 (preA xs k - preA xs b0)) (fun _ i => p + 1 - (intOf i).toNat)
  case atStart => exact ⟨b0, Nat.le_refl _, hb1, by rw [← hbb], by rw [Int.sub_self]⟩
  case round =>
    obtain ⟨k, hk0, hk, rfl, rfl⟩ := hrel
    have hk0i : (0 : Int) ≤ (k : Int) := by omega
    by_cases hlt : k ≤ p
    · obtain ⟨x, hx⟩ := get_of_lt (l := xs) (k := k) (by omega)
      obtain ⟨b, off, rfl, hb, hcell⟩ := HC.out k x hx
      have hxb := HX.out x (List.mem_of_getElem? hx)
      have hs := preA_snoc hx
      have hbd := preA_bd HX.out (a := b0) k hk0 (by omega)
      have habd := ab_bd hxb
      have hki : (k : Int) ≤ (p : Int) := by omega
      have hkl : (k : Int) < (xs.length : Int) := by omega
      have HS := Lib.hid hs
      clear hx hs
      generalize preA xs b0 = P0 at *
      generalize preA xs k = P1 at *
      generalize hab : ab x = y at *
      have CS := Lib.hid (fun W => sizeAny x y W (by omega) (by omega) hab)
      clear hab
      go_wp2_with fail
      refine (CS.out _).mono ?_
      rintro e w9 ⟨rfl, rfl⟩
      go_wp2
      go_round
      case rel => exact ⟨k + 1, by omega, by omega, by go_num, by rw [HS.out]; go_num⟩
      case measure => simp [intOf]; omega
    · obtain rfl : k = p + 1 := by omega
      have HF : Hid (preA xs (p + 1) - preA xs b0 = r) := Lib.hid (by rw [← HR.out, ← HB0.out]; rfl)
      have hki : ¬ ((p + 1 : Nat) : Int) ≤ (p : Int) := by omega
      generalize preA xs (p + 1) - preA xs b0 = P0 at *
      go_wp2
      go_ret
      exact ⟨ret_int HF.out, rfl⟩
/-- A ratio that is not in lowest terms. -/
theorem specRatT (xs : List Int) (v : Value) (s : GSetting) (p : Nat) (n d : Int) (w : World) (B : Nat) (h : Lst (Value.int .i64) w B v xs) (hB : B ≤ w.heap.size) (hx : okL xs = true) (hs : okS s)
    (h0 : s.pLong ≤ (p : Int) + 1) (hp : p < xs.length) (hn : nT xs s p = n) (hd : dT xs s p = d) :
    Calls Try.prog 74 #[v, aggS s, .int .i64 p] w fun e w' => e = .returned (.tuple #[.int .i64 n, .int .i64 d]) ∧ Below w.heap.size w w' := by
  obtain ⟨hx1, hx2⟩ := okL_yes hx
  have hz := (Below.refl w.heap.size w).alloc (Nat.le_refl _) (.cells #[.int .i64 s.pShort, .int .i64 s.pLong, .int .i64 s.pOn, .int .i64 s.pOff] 28)
  have h1 := h.below (hz.mono hB)
  obtain ⟨⟨a1, a2⟩, ⟨b1, b2⟩, -, -⟩ := hs
  have ml := wA_bd hx1 (n := s.pLong.toNat) (p := p) (by omega) hp
  have ms := wA_bd hx1 (n := s.pShort.toNat) (p := p) (by omega) hp
  have CL := Lib.hid (fun W (q : Drawn (w.alloc (.cells #[.int .i64 s.pShort, .int .i64 s.pLong, .int .i64 s.pOn, .int .i64 s.pOff] 28)) W) => specSumT xs v s.pLong p _ W B (h1.below (q.below _)) hx1 hx2 (by omega) h0 hp rfl)
  have CS := Lib.hid (fun W (q : Drawn (w.alloc (.cells #[.int .i64 s.pShort, .int .i64 s.pLong, .int .i64 s.pOn, .int .i64 s.pOff] 28)) W) => specSumT xs v s.pShort p _ W B (h1.below (q.below _)) hx1 hx2 (by omega) (by omega) hp rfl)
  unfold nT at hn
  unfold dT at hd
  generalize wA xs s.pLong.toNat p = lg at *
  generalize wA xs s.pShort.toNat p = sh at *
  by_cases hq : lg = 0
  · rw [if_pos hq] at hn hd
    subst hn hd hq
    obtain ⟨ao, cap, rfl⟩ := h.form
    clear h h1 ml ms
    go_enter Try.func74, Try.ntmps74
    go_wp2_with fail
    refine (CL.out _ (Drawn.refl _)).mono ?_
    rintro e w9 ⟨rfl, rfl⟩
    go_wp2
    go_ret2
    exact ⟨rfl, hz⟩
  · rw [if_neg hq] at hn hd
    have m1 := mul_bdQ (A := 500000) (B := 20) ms.1 (by omega) (show 0 ≤ s.pLong by omega) b2
    have m2 := mul_bdQ (A := 2000000) (B := 5) ml.1 (by omega) (show 0 ≤ s.pShort by omega) a2
    have s1 : IntKind.i64.wrap (sh * s.pLong) = n := by rw [← hn]; exact IntWalk.i64_in _ (by omega)
    have s2 : IntKind.i64.wrap (lg * s.pShort) = d := by rw [← hd]; exact IntWalk.i64_in _ (by omega)
    have hq1 : (lg == 0) = false := by simpa using hq
    obtain ⟨ao, cap, rfl⟩ := h.form
    clear h h1 m1 m2 hn hd ml ms
    go_enter Try.func74, Try.ntmps74
    go_wp2_with fail
    refine (CL.out _ (Drawn.refl _)).mono ?_
    rintro e w9 ⟨rfl, rfl⟩
    go_wp2
    go_quiet ((go_at_call 118; exact Calls.quiet_of_same (CS.out _ (Drawn.drewN (Drawn.refl _) _))))
    go_wp2
    go_ret2
    exact ⟨rfl, drewN_b hz _⟩
end Go.Proofs.Ytklilfbokpljkab
