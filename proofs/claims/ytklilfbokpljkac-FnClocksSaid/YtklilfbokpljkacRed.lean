/- Sizes and fractions in lowest terms: both programs. -/
import Derived.Test.YtklilfbokpljkacGood
import Derived.Test.YtklilfbokpljkacBx
import Derived.BigQuiet
import Derived.IntWalk
namespace Go.Proofs.Ytklilfbokpljkac
open Go.ChangeShapes Go.WideShapes Go.ChangeAt Go.RowKit Go.ChangeMaps
set_option linter.unusedSimpArgs false
set_option linter.unusedVariables false

def ab (n : Int) : Int := if n < 0 then -n else n
theorem magAny (x y : Int) (w : World) (h0 : -1000000000000000 ≤ x) (h1 : x ≤ 1000000000000000) (hy : ab x = y) :
    Calls Try.prog 81 #[.int .i64 x] w fun e w' => e = .returned (.int .i64 y) ∧ w' = w := by
  subst hy
  unfold ab
  by_cases h : x < 0
  · rw [if_pos h]
    go_enter Try.func81, Try.ntmps81
    go_wp2
    go_ret
    exact ⟨rfl, rfl⟩
  · rw [if_neg h]
    go_enter Try.func81, Try.ntmps81
    go_wp2
    go_ret
    exact ⟨rfl, rfl⟩
theorem sizeAny (x y : Int) (w : World) (h0 : -1000000000000000 ≤ x) (h1 : x ≤ 1000000000000000) (hy : ab x = y) :
    Calls Try.prog 78 #[.int .i64 x] w fun e w' => e = .returned (.int .i64 y) ∧ w' = w := by
  subst hy
  unfold ab
  by_cases h : x < 0
  · rw [if_pos h]
    go_enter Try.func78, Try.ntmps78
    go_wp2_with fail
    refine (mostB x (-x) (-x) _ (by rw [if_neg (by omega)])).mono ?_
    rintro e w' ⟨rfl, rfl⟩
    go_wp2
    go_ret
    exact ⟨rfl, rfl⟩
  · rw [if_neg h]
    go_enter Try.func78, Try.ntmps78
    go_wp2_with fail
    refine (mostB x (-x) x _ (by split <;> omega)).mono ?_
    rintro e w' ⟨rfl, rfl⟩
    go_wp2
    go_ret
    exact ⟨rfl, rfl⟩


def gcdR (n d : Int) : Nat := Nat.gcd n.natAbs d.toNat
def numR (n d : Int) : Int := n.tdiv (gcdR n d : Nat)
def denR (n d : Int) : Int := d.tdiv (gcdR n d : Nat)
theorem gcdR_pos {n d : Int} (h : 1 ≤ d) : 1 ≤ gcdR n d := Nat.gcd_pos_of_pos_right _ (by omega)
theorem gcdR_le {n d : Int} (h : 1 ≤ d) : (gcdR n d : Int) ≤ d := by
  have := Nat.gcd_le_right n.natAbs (show 0 < d.toNat by omega)
  unfold gcdR
  omega
theorem tdiv_abs (n : Int) (g : Nat) : (n.tdiv g).natAbs ≤ n.natAbs := by
  rw [Int.natAbs_tdiv]
  exact Nat.div_le_self _ _
theorem tdiv_lo (n : Int) (g : Nat) (h0 : -1000000000000000 ≤ n) (h1 : n ≤ 1000000000000000) : -1000000000000000 ≤ n.tdiv g ∧ n.tdiv g ≤ 1000000000000000 := by
  have := tdiv_abs n g
  omega
theorem gcd_mod (p q : Nat) : Nat.gcd q (p % q) = Nat.gcd p q := by rw [Nat.gcd_comm q, ← Nat.gcd_rec, Nat.gcd_comm]
theorem tmod_nat (p q : Nat) : (p : Int).tmod q = ((p % q : Nat) : Int) := by rw [Int.tmod_eq_emod_of_nonneg (by omega)]; rfl
theorem ab_nat (n : Int) : ab n = (n.natAbs : Int) := by unfold ab; split <;> omega

def RedPost (n d : Int) (w : World) (e : Ending) (w' : World) : Prop := e = .returned (.tuple #[.int .i64 (numR n d), .int .i64 (denR n d)]) ∧ Drawn w w'
theorem ret2i {a b a' b' : Int} (h1 : a = a') (h2 : b = b') : Ending.returned (.tuple #[.int .i64 a, .int .i64 b]) = .returned (.tuple #[.int .i64 a', .int .i64 b']) := by rw [h1, h2]

set_option maxHeartbeats 400000 in
theorem implRed (n d : Int) (w : World) (h0 : -1000000000000000 ≤ n) (h1 : n ≤ 1000000000000000) (hd0 : 1 ≤ d) (hd1 : d ≤ 1000000000000000) :
    Calls Try.prog 83 #[.int .i64 n, .int .i64 d] w (RedPost n d w) := by
  have HM := Lib.hid (ab_nat n)
  have hna : (n.natAbs : Int) ≤ 1000000000000000 := by omega
  go_enter Try.func83, Try.ntmps83
  go_wp2_with fail
  refine (magAny n n.natAbs _ h0 h1 HM.out).mono ?_
  rintro e w' ⟨rfl, rfl⟩
  go_wp2
  go_loopw [6, 7] (fun a b wr => ∃ (p q : Nat), a = .int .i64 p ∧ b = .int .i64 q ∧ Nat.gcd p q = gcdR n d ∧ (p : Int) ≤ 1000000000000000 ∧ (q : Int) ≤ 1000000000000000 ∧ Drawn w' wr) (fun _ b _ => (intOf b).toNat)
  case atStart => exact ⟨n.natAbs, d.toNat, rfl, by rw [Int.toNat_of_nonneg (by omega)], rfl, by omega, by omega, Drawn.refl _⟩
  case round =>
    obtain ⟨p, q, rfl, rfl, hg, hp, hq, hdr⟩ := hrel
    have HG := Lib.hid hg
    clear hg
    by_cases hz : q = 0
    · have hq0 : ((q : Int) != 0) = false := by simp [hz]
      have hpg : p = gcdR n d := by have := HG.out; rw [hz, Nat.gcd_zero_right] at this; exact this
      have gp := gcdR_pos (n := n) hd0
      have b1 := tdiv_lo n p h0 h1
      have b2 := tdiv_lo d p (by omega) hd1
      have HP := Lib.hid hpg
      have hp1 : (p : Int) ≠ 0 := by omega
      have hp2 : ((p : Int) == 0) = false := by simp; omega
      have s1 : IntKind.i64.wrap (n.tdiv (p : Int)) = n.tdiv p := IntWalk.i64_in _ (by omega)
      have s2 : IntKind.i64.wrap (d.tdiv (p : Int)) = d.tdiv p := IntWalk.i64_in _ (by omega)
      clear hpg gp b1 b2 hz
      go_wp2
      go_quiet (fail)
      go_wp2
      go_ret2
      exact ⟨ret2i (by unfold numR; rw [HP.out]) (by unfold denR; rw [HP.out]), hdr.drewN _⟩
    · have hq0 : ((q : Int) != 0) = true := by simp; omega
      have hq2 : ((q : Int) == 0) = false := by simp; omega
      have hq1 : (q : Int) ≠ 0 := by omega
      have hlt : p % q < q := Nat.mod_lt _ (by omega)
      have s1 : (p : Int).tmod q = ((p % q : Nat) : Int) := tmod_nat p q
      have hg2 := Lib.hid (gcd_mod p q)
      generalize hr : p % q = r at *
      have HR := Lib.hid hr
      have s2 : IntKind.i64.wrap (r : Int) = r := IntWalk.i64_in _ (by omega)
      clear hr hz
      go_wp2
      go_quiet (fail)
      go_wp2
      go_roundw
      case rel => exact ⟨q, r, rfl, rfl, hg2.out.trans HG.out, by omega, by omega, hdr.drewN _⟩
      case measure => simp [intOf]; omega

set_option maxHeartbeats 400000 in
theorem specRed (n d : Int) (w : World) (h0 : -1000000000000000 ≤ n) (h1 : n ≤ 1000000000000000) (hd0 : 1 ≤ d) (hd1 : d ≤ 1000000000000000) :
    Calls Try.prog 82 #[.int .i64 n, .int .i64 d] w (RedPost n d w) := by
  have HM := Lib.hid (show (if -n < n then n else -n) = (n.natAbs : Int) by split <;> omega)
  have hna : (n.natAbs : Int) ≤ 1000000000000000 := by omega
  go_enter Try.func82, Try.ntmps82
  go_wp2_with fail
  refine (mostB n (-n) n.natAbs _ HM.out).mono ?_
  rintro e w' ⟨rfl, rfl⟩
  go_wp2
  go_loopw [6, 7] (fun a b wr => ∃ (p q : Nat), a = .int .i64 p ∧ b = .int .i64 q ∧ Nat.gcd p q = gcdR n d ∧ (p : Int) ≤ 1000000000000000 ∧ (q : Int) ≤ 1000000000000000 ∧ Drawn w' wr) (fun _ b _ => (intOf b).toNat)
  case atStart => exact ⟨n.natAbs, d.toNat, rfl, by rw [Int.toNat_of_nonneg (by omega)], rfl, by omega, by omega, Drawn.refl _⟩
  case round =>
    obtain ⟨p, q, rfl, rfl, hg, hp, hq, hdr⟩ := hrel
    have HG := Lib.hid hg
    clear hg
    by_cases hz : q = 0
    · have hq0 : ((q : Int) != 0) = false := by simp [hz]
      have hpg : p = gcdR n d := by have := HG.out; rw [hz, Nat.gcd_zero_right] at this; exact this
      have gp := gcdR_pos (n := n) hd0
      have b1 := tdiv_lo n p h0 h1
      have b2 := tdiv_lo d p (by omega) hd1
      have HP := Lib.hid hpg
      have hp1 : (p : Int) ≠ 0 := by omega
      have hp2 : ((p : Int) == 0) = false := by simp; omega
      have s1 : IntKind.i64.wrap (n.tdiv (p : Int)) = n.tdiv p := IntWalk.i64_in _ (by omega)
      have s2 : IntKind.i64.wrap (d.tdiv (p : Int)) = d.tdiv p := IntWalk.i64_in _ (by omega)
      clear hpg gp b1 b2 hz
      go_wp2
      go_quiet (fail)
      go_wp2
      go_ret2
      exact ⟨ret2i (by unfold numR; rw [HP.out]) (by unfold denR; rw [HP.out]), hdr.drewN _⟩
    · have hq0 : ((q : Int) != 0) = true := by simp; omega
      have hq2 : ((q : Int) == 0) = false := by simp; omega
      have hq1 : (q : Int) ≠ 0 := by omega
      have hlt : p % q < q := Nat.mod_lt _ (by omega)
      have hg2 := Lib.hid (gcd_mod p q)
      generalize hr : p % q = r at *
      have HR := Lib.hid hr
      clear hr hz
      go_wp2
      go_roundw
      case rel => exact ⟨q, r, rfl, by rw [← HR.out]; rfl, hg2.out.trans HG.out, hq, Int.le_trans (Int.ofNat_le.2 (Nat.le_of_lt hlt)) hq, hdr⟩
      case measure =>
        show (intOf (.int .i64 ((p : Int) % (q : Int)))).toNat < (intOf (.int .i64 (q : Int))).toNat
        have e : (p : Int) % (q : Int) = r := by rw [← HR.out]; rfl
        rw [e]
        simp [intOf]; omega
end Go.Proofs.Ytklilfbokpljkac
