/- Sizes and fractions in lowest terms: both programs. -/
import Derived.Test.YtoogofceoinniabGood
import Derived.Test.YtoogofceoinniabBx
import Derived.BigQuiet
import Derived.IntWalk
namespace Go.Proofs.Ytoogofceoinniab
open Go.ChangeShapes Go.WideShapes Go.ChangeAt Go.RowKit Go.ChangeMaps
set_option linter.unusedSimpArgs false
set_option linter.unusedVariables false

def ab (n : Int) : Int := if n < 0 then -n else n
def gcdR (n d : Int) : Nat := Nat.gcd n.natAbs d.toNat
def numR (n d : Int) : Int := n.tdiv (gcdR n d : Nat)
def denR (n d : Int) : Int := d.tdiv (gcdR n d : Nat)
theorem gcdR_pos {n d : Int} (h : 1 ≤ d) : 1 ≤ gcdR n d := Nat.gcd_pos_of_pos_right _ (by omega)
theorem gcdR_le {n d : Int} (h : 1 ≤ d) : (gcdR n d : Int) ≤ d := by
  have := Nat.gcd_le_right n.natAbs (show 0 < d.toNat by omega)
  unfold gcdR
  omega
theorem tdiv_abs (n : Int) (g : Nat) : (n.tdiv g).natAbs ≤ n.natAbs := by
  rw [Int.natAbs_tdiv]
  exact Nat.div_le_self _ _
theorem tdiv_lo (n : Int) (g : Nat) (h0 : -1000000000000000 ≤ n) (h1 : n ≤ 1000000000000000) : -1000000000000000 ≤ n.tdiv g ∧ n.tdiv g ≤ 1000000000000000 := by
  have := tdiv_abs n g
  omega
theorem gcd_mod (p q : Nat) : Nat.gcd q (p % q) = Nat.gcd p q := by rw [Nat.gcd_comm q, ← Nat.gcd_rec, Nat.gcd_comm]
theorem tmod_nat (p q : Nat) : (p : Int).tmod q = ((p % q : Nat) : Int) := by rw [Int.tmod_eq_emod_of_nonneg (by omega)]; rfl
theorem ab_nat (n : Int) : ab n = (n.natAbs : Int) := by unfold ab; split <;> omega

def RedPost (n d : Int) (w : World) (e : Ending) (w' : World) : Prop := e = .returned (.tuple #[.int .i64 (numR n d), .int .i64 (denR n d)]) ∧ Drawn w w'
theorem ret2i {a b a' b' : Int} (h1 : a = a') (h2 : b = b') : Ending.returned (.tuple #[.int .i64 a, .int .i64 b]) = .returned (.tuple #[.int .i64 a', .int .i64 b']) := by rw [h1, h2]

end Go.Proofs.Ytoogofceoinniab
