/- Integer filters: what the specification asks; its small functions. -/
import Derived.Test.YtoogofceoinniabFiM
import Derived.Lib.MinMax
namespace Go.Proofs.Ytoogofceoinniab
open Go.ChangeShapes Go.WideShapes Go.ChangeAt Go.RowKit Go.ChangeMaps
set_option linter.unusedSimpArgs false
set_option linter.unusedVariables false

theorem leastF (x y z : Int) (w : World) (h : min x y = z) :
    Calls Try.prog 96 #[.int .i64 x, .int .i64 y] w fun e w' => e = .returned (.int .i64 z) ∧ w' = w := by
  subst h
  by_cases h : x < y
  · have HG := Lib.hid (show x = min x y by omega)
    go_enter Try.func96, Try.ntmps96
    go_wp2
    go_ret
    exact ⟨ret_int HG.out, rfl⟩
  · have HG := Lib.hid (show y = min x y by omega)
    go_enter Try.func96, Try.ntmps96
    go_wp2
    go_ret
    exact ⟨ret_int HG.out, rfl⟩
theorem mostF (x y z : Int) (w : World) (h : max x y = z) :
    Calls Try.prog 95 #[.int .i64 x, .int .i64 y] w fun e w' => e = .returned (.int .i64 z) ∧ w' = w := mostB x y z w (by subst h; split <;> omega)

theorem floor_up {a b : Int} (ha : a < 0) (hb : 1 ≤ b) : -((-a + b - 1).tdiv b) = a / b := by
  rw [Int.tdiv_eq_ediv_of_nonneg (by omega)]
  have e := Int.mul_ediv_add_emod a b
  have h0 := Int.emod_nonneg a (show b ≠ 0 by omega)
  have h1 := Int.emod_lt_of_pos a (show 0 < b by omega)
  have : (-a + b - 1) / b = -(a / b) := by
    rw [show -a + b - 1 = (b - 1 - a % b) + b * (-(a / b)) by rw [Int.mul_neg]; omega, Int.add_mul_ediv_left _ _ (by omega), Int.ediv_eq_zero_of_lt (by omega) (by omega)]
    omega
  rw [this]; omega
theorem okWs_get {ws : List Int} (h : decide (∀ w ∈ ws, -100 ≤ w ∧ w ≤ 100) = true) {k : Nat} {x : Int} (hx : ws[k]? = some x) : -100 ≤ x ∧ x ≤ 100 := of_decide_eq_true h x (List.mem_of_getElem? hx)
def okWx (ws : List Int) : Bool := decide (∀ w ∈ ws, -100 ≤ w ∧ w ≤ 100)
theorem okWx_bad {l : List Int} {k : Nat} {x : Int} (hx : l[k]? = some x) (h : ¬ (-100 ≤ x ∧ x ≤ 100)) : okWx l = false := decide_eq_false fun g => h (g x (List.mem_of_getElem? hx))
theorem okWx_snoc {l : List Int} {k : Nat} {x : Int} (hx : l[k]? = some x) (h : -100 ≤ x ∧ x ≤ 100) (g : okWx (l.take k) = true) : okWx (l.take (k + 1)) = true := by
  unfold okWx at *
  rw [take_snoc hx]
  have g' := of_decide_eq_true g
  refine decide_eq_true fun y hy => ?_
  rcases List.mem_append.1 hy with hy | hy
  · exact g' y hy
  · rw [List.mem_singleton.1 hy]; exact h
theorem get_getD {l : List Int} {k : Nat} {x : Int} (h : l[k]? = some x) : l.getD k 0 = x := by simp [List.getD, h]

end Go.Proofs.Ytoogofceoinniab
