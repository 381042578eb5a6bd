/- The square of a distance, by its two differences. -/
import Derived.Test.YtoogofceoinniabBase
import Derived.IntWalk
namespace Go.Proofs.Ytoogofceoinniab
open Go.ChangeShapes Go.WideShapes Go.ChangeAt Go.RowKit Go.ChangeMaps
set_option linter.unusedSimpArgs false
set_option linter.unusedVariables false
set_option linter.unusedSimpArgs false
set_option linter.unusedVariables false

theorem sq_bdO {d : Int} (h0 : -999 ≤ d) (h1 : d ≤ 999) : 0 ≤ d * d ∧ d * d ≤ 998001 := by
  have h1 : 0 ≤ (d + 999) * (999 - d) := Int.mul_nonneg (by omega) (by omega)
  have h2 : (d + 999) * (999 - d) = 998001 - d * d := by simp only [Int.add_mul, Int.mul_sub]; omega
  have h3 : 0 ≤ d * d := by
    rcases Int.le_total 0 d with h | h
    · exact Int.mul_nonneg h h
    · have := Int.mul_nonneg (show 0 ≤ -d by omega) (show 0 ≤ -d by omega)
      rwa [Int.neg_mul_neg] at this
  omega
theorem implSqOf (dx dy r : Int) (w : World) (h0 : -999 ≤ dx ∧ dx ≤ 999) (h1 : -999 ≤ dy ∧ dy ≤ 999) (hr : dx * dx + dy * dy = r) :
    Calls Try.prog 98 #[.int .i64 dx, .int .i64 dy] w fun e w' => e = .returned (.int .i64 r) ∧ w' = w := by
  obtain ⟨a1, a2⟩ := sq_bdO h0.1 h0.2
  obtain ⟨b1, b2⟩ := sq_bdO h1.1 h1.2
  obtain ⟨p, hp⟩ : ∃ p, dx * dx = p := ⟨_, rfl⟩
  obtain ⟨q, hq⟩ : ∃ q, dy * dy = q := ⟨_, rfl⟩
  have s1 : wrap64 (dx * dx) = p := by rw [hp] at a1 a2 ⊢; unfold wrap64; omega
  have s2 : wrap64 (dy * dy) = q := by rw [hq] at b1 b2 ⊢; unfold wrap64; omega
  rw [hp] at hr a1 a2
  rw [hq] at hr b1 b2
  have HR := Lib.hid hr
  clear hp hq hr
  go_enter Try.func98, Try.ntmps98
  go_wp2
  go_ret
  exact ⟨ret_int HR.out, rfl⟩
end Go.Proofs.Ytoogofceoinniab
