/- Integer filters: the program's division and copy. -/
import Derived.Test.YtklilfbokpljkaaFjA
import Derived.BigQuiet
import Derived.IntWalk
import Derived.Lib.MinMax
import Derived.Test.YtklilfbokpljkaaCln
import Derived.StillTailTactics
namespace Go.Proofs.Ytklilfbokpljkaa
open Go.ChangeShapes Go.WideShapes Go.ChangeAt Go.RowKit Go.ChangeMaps
set_option linter.unusedSimpArgs false
set_option linter.unusedVariables false

theorem div_downF {a b : Int} (hb : 0 < b) : (if a.tmod b < 0 then a.tdiv b - 1 else a.tdiv b) = a / b := by
  have e1 := Int.mul_tdiv_add_tmod a b
  have e2 := Int.mul_ediv_add_emod a b
  have h0 := Int.emod_nonneg a (show b ≠ 0 by omega)
  have h1 := Int.emod_lt_of_pos a hb
  have h2 : (a.tmod b).natAbs < b.natAbs := by rw [Int.natAbs_tmod]; exact Nat.mod_lt _ (by omega)
  split
  · rename_i c
    have : b * (a.tdiv b - 1) + (a.tmod b + b) = a := by rw [Int.mul_sub, Int.mul_one]; omega
    exact ((Int.ediv_emod_unique hb).2 ⟨(Int.add_comm _ _).trans this, by omega, by omega⟩).1.symm
  · rename_i c
    exact ((Int.ediv_emod_unique hb).2 ⟨(Int.add_comm _ _).trans e1, by omega, by omega⟩).1.symm
set_option maxRecDepth 100000 in
set_option maxHeartbeats 1000000 in
theorem implDownF (a b : Int) (w : World) (hb : 0 < b) (h0 : -4000000000000 ≤ a) (h1 : a ≤ 4000000000000) :
    Calls Try.prog 139 #[.int .i64 a, .int .i64 b] w fun e w' => e = .returned (.int .i64 (a / b)) ∧ w' = w := by
  have hd0 : ¬ b = 0 := by omega
  have hd1 : (b == 0) = false := by simp; omega
  have hdd := div_downF (a := a) hb
  have hbd := Int.natAbs_tdiv_le_natAbs a b
  obtain ⟨q, hq⟩ : ∃ q, a.tdiv b = q := ⟨_, rfl⟩
  obtain ⟨m, hm⟩ : ∃ m, a.tmod b = m := ⟨_, rfl⟩
  rw [hq] at hbd
  rw [hq, hm] at hdd
  by_cases c : m < 0
  · rw [if_pos c] at hdd
    have s6 : IntKind.i64.wrap (q - 1) = q - 1 := IntWalk.i64_in _ (by omega)
    have s5 : IntKind.i64.wrap q = q := IntWalk.i64_in _ (by omega)
    have HD := Lib.hid hdd
    clear hdd hbd
    go_enter Try.func139, Try.ntmps139
    go_wp2
    go_ret
    exact ⟨ret_int HD.out, rfl⟩
  · rw [if_neg c] at hdd
    have s5 : IntKind.i64.wrap q = q := IntWalk.i64_in _ (by omega)
    have HD := Lib.hid hdd
    clear hdd hbd
    go_enter Try.func139, Try.ntmps139
    go_wp2
    go_ret
    exact ⟨ret_int HD.out, rfl⟩
end Go.Proofs.Ytklilfbokpljkaa
