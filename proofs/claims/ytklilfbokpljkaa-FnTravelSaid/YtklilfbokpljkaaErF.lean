/- Models of the ground: the specification's overtaking and reach. -/
import Derived.Test.YtklilfbokpljkaaErE
namespace Go.Proofs.Ytklilfbokpljkaa
open Go.ChangeShapes Go.WideShapes Go.ChangeAt Go.RowKit Go.ChangeMaps
set_option linter.unusedSimpArgs false
set_option linter.unusedVariables false
set_option linter.unusedSimpArgs false
set_option linter.unusedVariables false

theorem runE_succ {p : Nat → Bool} {n : Nat} (h : runE p n = n) (hp : p n = false) : runE p (n + 1) = n + 1 := by unfold runE; rw [if_pos ⟨h, hp⟩]
theorem runE_stop {p : Nat → Bool} {n m : Nat} (h : runE p n = n) (hp : p n = true) (hm : n ≤ m) : runE p m = n := runE_is hm (fun i hi => runE_no p n i (by omega)) (Or.inr hp)
set_option maxRecDepth 100000 in
set_option maxHeartbeats 2000000 in
theorem specOv (xs : List GEarth) (v : Value) (l : Int) (w : World) (B : Nat) (h : EarthL w B v xs) (hB : B ≤ w.heap.size) (hn : szsEarth xs ≤ 1048576) (hw : ∀ s ∈ xs, wfEarth s) (_ : I64 l) :
    Calls Try.prog 29 #[v, .int .i64 l] w fun e w' => e = .returned (.tuple #[.int .i64 (atOv xs l), .bool (okOv xs l)]) ∧ Below w.heap.size w w' := by
  have hl := Nat.le_trans (szsEarth_len xs) hn
  cases hg : goodE xs with
  | false =>
    have C := Lib.hid (specGoodE xs v false w B h hl hg)
    have HF := Lib.hid (noOv (okOv_bad (xs := xs) (l := l) hg))
    obtain ⟨ao, cap, rfl⟩ := h.form
    clear h hg
    go_enter Try.func29, Try.ntmps29
    go_wp2_with fail
    refine C.out.mono ?_
    rintro e w9 ⟨rfl, q9⟩
    obtain rfl : w = w9 := q9.symm
    go_wp2
    go_ret2
    exact ⟨HF.out, Below.refl _ _⟩
  | true =>
    have hok := goodE_yes hg
    have C := Lib.hid (specGoodE xs v true w B h hl hg)
    have hl1 := hok.1.1
    have hl5 := hok.1.2
    have s9 : IntKind.i64.wrap ((xs.length : Int) - 1) = (xs.length : Int) - 1 := IntWalk.i64_in _ (by omega)
    by_cases hd : 1 ≤ l ∧ l ≤ (xs.length : Int) - 1
    case neg =>
      have CI := Lib.hid (fun W => inEB l 1 ((xs.length : Int) - 1) false W (decide_eq_false hd))
      have HF := Lib.hid (noOv (okOv_lay (xs := xs) (l := l) hd))
      obtain ⟨ao, cap, rfl⟩ := h.form
      clear h hg hd hok
      go_enter Try.func29, Try.ntmps29
      go_wp2_with fail
      refine C.out.mono ?_
      rintro e w9 ⟨rfl, q9⟩
      obtain rfl : w = w9 := q9.symm
      go_wp2_with fail
      refine (CI.out _).mono ?_
      rintro e w9 ⟨rfl, q9⟩
      obtain rfl : w = w9 := q9.symm
      go_wp2
      go_ret2
      exact ⟨HF.out, Below.refl _ _⟩
    have CI := Lib.hid (fun W => inEB l 1 ((xs.length : Int) - 1) true W (decide_eq_true hd))
    have hln : ((l.toNat : Nat) : Int) = l := by omega
    have CX : Hid (∀ (D r : Int), 0 ≤ D → D ≤ 2000 → ((bestE (viaE (prodE xs) xs D) l.toNat : Nat) : Int) = r → ∀ W, Drawn w W → Calls Try.prog 97 #[v, .int .i64 (l + 1), .int .i64 D] W fun e w9 => e = .returned (.int .i64 r) ∧ Drawn W w9) := Lib.hid (fun D r h0 h1 hr W q => by
      have := specFirst xs v (l.toNat + 1) D r W B (h.below (q.below _)) hok (by omega) (by omega) h0 h1 hr
      rwa [show (((l.toNat + 1 : Nat)) : Int) = l + 1 by omega] at this)
    have s8 : IntKind.i64.wrap (l + 1) = l + 1 := IntWalk.i64_in _ (by omega)
    have HY := Lib.hid (fun (x : Int) h1 h2 => yesOv (xs := xs) (l := l) (x := x) hg hd h1 h2)
    have HN := Lib.hid (fun h1 => noOv (okOv_never (xs := xs) (l := l) h1))
    have HP : Hid (∀ d : Nat, overE (prodE xs) xs l.toNat d = decide (bestE (viaE (prodE xs) xs (d : Int)) l.toNat = l.toNat)) := Lib.hid (fun d => rfl)
    obtain ⟨p, hp⟩ : ∃ p, overE (prodE xs) xs l.toNat = p := ⟨_, rfl⟩
    rw [hp] at HY HN HP
    obtain ⟨ao, cap, rfl⟩ := h.form
    clear h hg hok hp
    go_enter Try.func29, Try.ntmps29
    go_wp2_with fail
    refine C.out.mono ?_
    rintro e w9 ⟨rfl, q9⟩
    obtain rfl : w = w9 := q9.symm
    go_wp2_with fail
    refine (CI.out _).mono ?_
    rintro e w9 ⟨rfl, q9⟩
    obtain rfl : w = w9 := q9.symm
    go_wp2
    go_loopw [6] (fun i wr => ∃ (d q : Nat), d ≤ 2001 ∧ i = .int .i64 d ∧ Hid (runE p d = d) ∧ wr = w.drewN q) (fun i _ => 2001 - (intOf i).toNat)
    case atStart => exact ⟨0, 0, by omega, rfl, Lib.hid rfl, by simp [World.drewN]⟩
    case round =>
      obtain ⟨d, q, hd9, rfl, HU, hw9⟩ := hrel
      have HW : Hid (Drawn w wr) := Lib.hid ⟨q, hw9⟩
      clear hw9
      by_cases hlt : d ≤ 2000
      case neg =>
        obtain rfl : d = 2001 := by omega
        have HF := Lib.hid (HN.out (by rw [HU.out]; omega))
        go_wp2
        go_ret2
        exact ⟨HF.out, HW.out.below _⟩
      have hd1 : (d : Int) ≤ 2000 := by omega
      have hd0 : (0 : Int) ≤ (d : Int) := by omega
      have s7 : IntKind.i64.wrap ((d : Int) + 1) = (d : Int) + 1 := IntWalk.i64_in _ (by omega)
      by_cases hc : bestE (viaE (prodE xs) xs (d : Int)) l.toNat = l.toNat
      case pos =>
        have CY := Lib.hid (CX.out (d : Int) l hd0 hd1 (by rw [hc]; exact hln))
        have hpd : p d = true := by rw [HP.out]; exact decide_eq_true hc
        have hst := runE_stop HU.out hpd (show d ≤ 2001 by omega)
        have HF := Lib.hid (HY.out (d : Int) (by rw [hst]; omega) (by rw [hst]))
        clear hc hpd hst
        go_wp2_with fail
        refine (CY.out _ HW.out).mono ?_
        rintro e w1 ⟨rfl, q1⟩
        have D1 := HW.out.trans q1
        clear q1
        go_wp2
        go_ret2
        exact ⟨HF.out, D1.below _⟩
      case neg =>
        obtain ⟨r, hr⟩ : ∃ r : Int, ((bestE (viaE (prodE xs) xs (d : Int)) l.toNat : Nat) : Int) = r := ⟨_, rfl⟩
        have CY := Lib.hid (CX.out (d : Int) r hd0 hd1 hr)
        have hpd : p d = false := by rw [HP.out]; exact decide_eq_false hc
        have HU2 := Lib.hid (runE_succ HU.out hpd)
        have hne : ¬ r = l := by omega
        have hne2 : (r == l) = false := by simpa using hne
        clear hc hpd hr
        go_wp2_with fail
        refine (CY.out _ HW.out).mono ?_
        rintro e w1 ⟨rfl, q1⟩
        have D1 := HW.out.trans q1
        clear q1
        go_wp2
        go_roundw
        case rel => obtain ⟨y, hy⟩ := D1; exact ⟨d + 1, y, by omega, by go_num, HU2, hy⟩
        case measure => simp [intOf]; omega
set_option maxRecDepth 100000 in
set_option maxHeartbeats 2000000 in
theorem specRe (xs : List GEarth) (v : Value) (s : Int) (w : World) (B : Nat) (h : EarthL w B v xs) (hB : B ≤ w.heap.size) (hn : szsEarth xs ≤ 1048576) (hw : ∀ s ∈ xs, wfEarth s) (_ : I64 s) :
    Calls Try.prog 41 #[v, .int .i64 s] w fun e w' => e = .returned (.tuple #[.int .i64 (atRe xs s), .bool (okRe xs s)]) ∧ Below w.heap.size w w' := by
  have hl := Nat.le_trans (szsEarth_len xs) hn
  cases hg : goodE xs with
  | false =>
    have C := Lib.hid (specGoodE xs v false w B h hl hg)
    have HF := Lib.hid (noRe (xs := xs) (s := s) (by unfold okRe; rw [hg]; rfl))
    obtain ⟨ao, cap, rfl⟩ := h.form
    clear h hg
    go_enter Try.func41, Try.ntmps41
    go_wp2_with fail
    refine C.out.mono ?_
    rintro e w9 ⟨rfl, q9⟩
    obtain rfl : w = w9 := q9.symm
    go_wp2
    go_ret2
    exact ⟨HF.out, Below.refl _ _⟩
  | true =>
    have hok := goodE_yes hg
    have C := Lib.hid (specGoodE xs v true w B h hl hg)
    have hl1 := hok.1.1
    have hl5 := hok.1.2
    by_cases hd : 0 ≤ s ∧ s ≤ 100000
    case neg =>
      have CI := Lib.hid (fun W => inEB s 0 100000 false W (decide_eq_false hd))
      have HF := Lib.hid (noRe (xs := xs) (s := s) (by unfold okRe; rw [decide_eq_false hd, Bool.and_false]))
      obtain ⟨ao, cap, rfl⟩ := h.form
      clear h hg hd hok
      go_enter Try.func41, Try.ntmps41
      go_wp2_with fail
      refine C.out.mono ?_
      rintro e w9 ⟨rfl, q9⟩
      obtain rfl : w = w9 := q9.symm
      go_wp2_with fail
      refine (CI.out _).mono ?_
      rintro e w9 ⟨rfl, q9⟩
      obtain rfl : w = w9 := q9.symm
      go_wp2
      go_ret2
      exact ⟨HF.out, Below.refl _ _⟩
    have CI := Lib.hid (fun W => inEB s 0 100000 true W (decide_eq_true hd))
    have CX : Hid (∀ (D : Int), 0 ≤ D → D ≤ 2000 → ∀ W, Drawn w W → Calls Try.prog 97 #[v, .int .i64 xs.length, .int .i64 D] W fun e w9 => e = .returned (.int .i64 ((bestE (viaE (prodE xs) xs D) (xs.length - 1) : Nat) : Int)) ∧ Drawn W w9) := Lib.hid (fun D h0 h1 W q => specFirst xs v xs.length D _ W B (h.below (q.below _)) hok hl1 (Nat.le_refl _) h0 h1 rfl)
    have CV : Hid (∀ (D : Int), 0 ≤ D → D ≤ 2000 → ∀ W, Drawn w W → Calls Try.prog 96 #[v, .int .i64 ((bestE (viaE (prodE xs) xs D) (xs.length - 1) : Nat) : Int), .int .i64 D] W fun e w9 => e = .returned (.tuple #[.int .i64 (numR (minE (prodE xs) xs D) (prodE xs)), .int .i64 (denR (minE (prodE xs) xs D) (prodE xs))]) ∧ Drawn W w9) := Lib.hid (fun D h0 h1 W q => specVia xs v _ D _ _ W B (h.below (q.below _)) hok (by have := bestE_le (viaE (prodE xs) xs D) (xs.length - 1); omega) h0 h1 rfl rfl)
    have HO := Lib.hid hok
    have HY := Lib.hid (fun (x : Int) h2 => yesRe (xs := xs) (s := s) (x := x) (by unfold okRe; rw [hg, decide_eq_true hd]; rfl) h2)
    obtain ⟨hs0, hs1⟩ := hd
    obtain ⟨ao, cap, rfl⟩ := h.form
    clear h hg hok
    go_enter Try.func41, Try.ntmps41
    go_wp2_with fail
    refine C.out.mono ?_
    rintro e w9 ⟨rfl, q9⟩
    obtain rfl : w = w9 := q9.symm
    go_wp2_with fail
    refine (CI.out _).mono ?_
    rintro e w9 ⟨rfl, q9⟩
    obtain rfl : w = w9 := q9.symm
    go_wp2
    go_loopw [6, 7] (fun a b wr => ∃ (lo hi q : Nat), lo ≤ hi ∧ hi ≤ 2000 ∧ a = .int .i64 lo ∧ b = .int .i64 hi ∧ Hid (farE (prodE xs) xs s lo = false ∧ (hi = 2000 ∨ farE (prodE xs) xs s (hi + 1) = true)) ∧ wr = w.drewN q) (fun a b _ => (intOf b).toNat - (intOf a).toNat)
    case atStart => exact ⟨0, 2000, 0, by omega, by omega, rfl, rfl, Lib.hid ⟨farE_zero HO.out hs0, Or.inl rfl⟩, by simp [World.drewN]⟩
    case round =>
      obtain ⟨lo, hi, q, hlh, hh, rfl, rfl, HU, hw9⟩ := hrel
      have HW : Hid (Drawn w wr) := Lib.hid ⟨q, hw9⟩
      clear hw9
      by_cases hlt : lo < hi
      case neg =>
        obtain rfl : lo = hi := by omega
        have hrs := reach_is HO.out hs0 hh HU.out.1 HU.out.2
        have HF := Lib.hid (HY.out (lo : Int) (by rw [hrs]; omega))
        have g : ¬ (lo : Int) < (lo : Int) := by omega
        clear hrs
        go_wp2
        go_ret2
        exact ⟨HF.out, HW.out.below _⟩
      obtain ⟨mid, hmid⟩ : ∃ mid : Nat, mid = (lo + hi + 1) / 2 := ⟨_, rfl⟩
      have g0 : (lo : Int) < (hi : Int) := by omega
      have g1 : ((lo : Int) + (hi : Int) + 1).tdiv 2 = (mid : Int) := by rw [Int.tdiv_eq_ediv_of_nonneg (by omega)]; omega
      have g2 : IntKind.i64.wrap ((lo : Int) + (hi : Int)) = (lo : Int) + (hi : Int) := IntWalk.i64_in _ (by omega)
      have g3 : IntKind.i64.wrap ((lo : Int) + (hi : Int) + 1) = (lo : Int) + (hi : Int) + 1 := IntWalk.i64_in _ (by omega)
      have g4 : IntKind.i64.wrap (mid : Int) = (mid : Int) := IntWalk.i64_in _ (by omega)
      have b0 : lo < mid := by omega
      have b1 : mid ≤ hi := by omega
      clear hmid
      have CX2 := Lib.hid (CX.out (mid : Int) (by omega) (by omega))
      have CV2 := Lib.hid (CV.out (mid : Int) (by omega) (by omega))
      have hP := prodE_all HO.out
      have mb := minE_bd HO.out (d := (mid : Int)) (by omega) (by omega)
      have rb := red_bdE hP.1 mb.1 mb.2
      have hcmp := cmp_sec (x := minE (prodE xs) xs (mid : Int)) (s := s) hP.1
      have HFE : Hid (farE (prodE xs) xs s mid = decide (s * prodE xs < minE (prodE xs) xs (mid : Int))) := Lib.hid rfl
      have hPb : prodE xs ≤ 312500000 := hP.2
      generalize ((bestE (viaE (prodE xs) xs (mid : Int)) (xs.length - 1) : Nat) : Int) = be at *
      generalize numR (minE (prodE xs) xs (mid : Int)) (prodE xs) = nu at *
      generalize denR (minE (prodE xs) xs (mid : Int)) (prodE xs) = de at *
      have m1 := mul_bdE (A := 100000) (C := 312500000) hs0 hs1 (show 0 ≤ de by omega) (show de ≤ 312500000 by omega)
      have s7 : IntKind.i64.wrap (s * de) = s * de := IntWalk.i64_in _ (by omega)
      have s8 : IntKind.i64.wrap ((mid : Int) - 1) = (mid : Int) - 1 := IntWalk.i64_in _ (by omega)
      by_cases hc : nu ≤ s * de
      case pos =>
        have HU2 : Hid (farE (prodE xs) xs s mid = false ∧ (hi = 2000 ∨ farE (prodE xs) xs s (hi + 1) = true)) := Lib.hid ⟨by rw [HFE.out]; exact decide_eq_false (by have := hcmp.1 hc; omega), HU.out.2⟩
        clear hcmp mb rb m1 hP hPb
        go_wp2_with fail
        refine (CX2.out _ HW.out).mono ?_
        rintro e w1 ⟨rfl, q1⟩
        have D1 := HW.out.trans q1
        clear q1
        go_wp2_with fail
        refine (CV2.out _ D1).mono ?_
        rintro e w2 ⟨rfl, q2⟩
        have D2 := D1.trans q2
        clear q2 D1
        go_wp2
        go_roundw
        case rel => obtain ⟨y, hy⟩ := D2; exact ⟨mid, hi, y, b1, hh, by go_num, by go_num, HU2, hy⟩
        case measure => simp [intOf]; omega
      case neg =>
        have HU2 : Hid (farE (prodE xs) xs s lo = false ∧ (mid - 1 = 2000 ∨ farE (prodE xs) xs s (mid - 1 + 1) = true)) := Lib.hid ⟨HU.out.1, Or.inr (by rw [show mid - 1 + 1 = mid by omega, HFE.out]; exact decide_eq_true (by have := fun q => hc (hcmp.2 q); omega))⟩
        have g9 : ¬ nu ≤ s * de := hc
        clear hcmp mb rb m1 hP hPb
        go_wp2_with fail
        refine (CX2.out _ HW.out).mono ?_
        rintro e w1 ⟨rfl, q1⟩
        have D1 := HW.out.trans q1
        clear q1
        go_wp2_with fail
        refine (CV2.out _ D1).mono ?_
        rintro e w2 ⟨rfl, q2⟩
        have D2 := D1.trans q2
        clear q2 D1
        go_wp2
        go_roundw
        case rel => obtain ⟨y, hy⟩ := D2; exact ⟨lo, mid - 1, y, by omega, by omega, by go_num, by go_num, HU2, hy⟩
        case measure => simp [intOf]; omega
end Go.Proofs.Ytklilfbokpljkaa
