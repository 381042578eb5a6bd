/- The laws' helper on a number in a list. -/
import Derived.Test.YtoogofceoinniabVi
namespace Go.Proofs.Ytoogofceoinniab
open Go.ChangeShapes Go.WideShapes Go.ChangeAt Go.RowKit Go.ChangeMaps
set_option linter.unusedSimpArgs false
set_option linter.unusedVariables false
set_option linter.unusedSimpArgs false
set_option linter.unusedVariables false

theorem vHasYes (l : List Int) (v : Value) (x : Int) (w : World) (B : Nat) (h : Lst (Value.int .i64) w B v l) (hx : x ∈ l) :
    Calls Try.prog 52 #[v, .int .i64 x] w fun e w' => e = .returned (.bool true) ∧ w' = w := by
  obtain ⟨ao, cap, rfl, hcap, hmax, -, hc⟩ := h
  unfold maxLen at hmax
  obtain ⟨j, hj⟩ := List.mem_iff_getElem?.1 hx
  have hjl := (List.getElem?_eq_some_iff.1 hj).1
  have HC := Lib.hid hc
  have HJ := Lib.hid hj
  clear hc hx hj
  go_enter Try.func52, Try.ntmps52
  go_wp2
  go_loop [5] (fun i => ∃ k : Nat, k ≤ j ∧ i = .int .i64 k) (fun i => l.length - (intOf i).toNat)
  case atStart => exact ⟨0, Nat.zero_le _, rfl⟩
  case round =>
    obtain ⟨k, hk, rfl⟩ := hrel
    have hlt : k < l.length := by omega
    obtain ⟨y, hy⟩ := get_of_lt hlt
    obtain ⟨b, off, rfl, hb, hcell⟩ := HC.out k y hy
    by_cases he : y = x
    · subst he
      clear hy
      go_wp2
      go_ret
      exact ⟨rfl, rfl⟩
    · have he2 : (y == x) = false := by simpa using he
      have hne : k ≠ j := by
        intro e
        subst e
        have := HJ.out
        rw [hy] at this
        exact he (Option.some.inj this)
      have hkj : k < j := by omega
      clear hy hne he
      go_wp2
      go_round
      case rel => exact ⟨k + 1, by omega, by go_num⟩
      case measure => simp [intOf]; omega
theorem vHasNo (ss : List Int) (x : Int) (v : Value) (w : World) (B : Nat) (h : Lst (Value.int .i64) w B v ss) (hB : B ≤ w.heap.size) (hx : ∀ y ∈ ss, y ≠ x) :
    Calls Try.prog 52 #[v, .int .i64 x] w fun e w' => e = .returned (.bool false) ∧ Below w.heap.size w w' := by
  obtain ⟨ao, cap, rfl, hcap, hmax, -, hc⟩ := h
  unfold maxLen at hmax
  go_enter Try.func52, Try.ntmps52
  go_wp2
  go_loopw [5] (fun i wr => ∃ (k : Nat), k ≤ ss.length ∧ i = .int .i64 k ∧ Below w.heap.size w wr)
    (fun i _ => ss.length - (intOf i).toNat)
  case atStart => exact ⟨0, Nat.zero_le _, rfl, Below.refl _ _⟩
  case round =>
    obtain ⟨k, hk, rfl, hbl⟩ := hrel
    by_cases hlt : k < ss.length
    · obtain ⟨s, hs⟩ := get_of_lt hlt
      have hne := hx s (List.mem_of_getElem? hs)
      obtain ⟨b, off, rfl, hb, hcell⟩ := hc k s hs
      have hcell' := cellOf hbl (by omega) hcell
      have hne1 : (s == x) = false := by simpa using hne
      have hne2 : ¬ s = x := hne
      clear hs hcell
      have hi0 : (0 : Int) ≤ (k : Int) := by omega
      have hi1 : (k : Int) < (ss.length : Int) := by omega
      go_wp2
      go_roundw
      case rel => exact ⟨k + 1, by omega, by go_num, hbl⟩
      case measure => simp [intOf]; omega
    · go_wp2
      go_ret
      exact ⟨rfl, hbl⟩
end Go.Proofs.Ytoogofceoinniab
