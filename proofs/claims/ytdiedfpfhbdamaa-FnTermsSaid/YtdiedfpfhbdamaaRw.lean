/- Lists of swings compared by the laws; a number in a list. -/
import Derived.Test.YtdiedfpfhbdamaaFSwing
import Derived.Test.YtdiedfpfhbdamaaInt
import Derived.Laws.StructEq
namespace Go.Proofs.Ytdiedfpfhbdamaa
open Go.ChangeShapes Go.WideShapes Go.ChangeAt Go.RowKit Go.ChangeMaps
set_option linter.unusedSimpArgs false
set_option linter.unusedVariables false
set_option linter.unusedSimpArgs false
set_option linter.unusedVariables false

set_option maxRecDepth 100000 in
set_option maxHeartbeats 2000000 in
theorem rSwings_same (xs : List GSwing) (v v2 : Value) (w : World) (B : Nat) (h : SwingL w B v xs) (h2 : SwingL w B v2 xs) (hB : B ≤ w.heap.size) :
    Calls Try.prog 46 #[v, v2] w fun e w' => e = .returned (.bool true) ∧ Below w.heap.size w w' := by
  obtain ⟨ao, cap, rfl, hcap, hmax, -, hc⟩ := h
  obtain ⟨ao2, cap2, rfl, hcap2, hmax2, -, hc2⟩ := h2
  unfold maxLen at hmax hmax2
  go_enter Try.func46, Try.ntmps46
  go_wp2
  go_loopw [5] (fun i wr => ∃ (k : Nat), k ≤ xs.length ∧ i = .int .i64 k ∧ Below w.heap.size w wr)
    (fun i _ => xs.length - (intOf i).toNat)
  case atStart => exact ⟨0, Nat.zero_le _, rfl, Below.refl _ _⟩
  case round =>
    obtain ⟨k, hk, rfl, hbl⟩ := hrel
    have hsz := hbl.size
    by_cases hlt : k < xs.length
    · obtain ⟨s, hs⟩ := get_of_lt hlt
      obtain ⟨b, off, rfl, hb, hcell⟩ := hc k s hs
      obtain ⟨b2, off2, rfl, hb2, hcell2⟩ := hc2 k s hs
      have c0 : wr.cell? ⟨b, off + k * 4, none⟩ = some (.int .i64 s.pStation) := cellOf hbl (by omega) (hcell 0 _ rfl)
      have c1 : wr.cell? ⟨b, off + k * 4 + 1, none⟩ = some (.int .i64 s.pFar) := cellOf hbl (by omega) (hcell 1 _ rfl)
      have c2 : wr.cell? ⟨b, off + k * 4 + 2, none⟩ = some (.int .i64 s.pWidth) := cellOf hbl (by omega) (hcell 2 _ rfl)
      have c3 : wr.cell? ⟨b, off + k * 4 + 3, none⟩ = some (.int .i64 s.pTerm) := cellOf hbl (by omega) (hcell 3 _ rfl)
      have d0 : wr.cell? ⟨b2, off2 + k * 4, none⟩ = some (.int .i64 s.pStation) := cellOf hbl (by omega) (hcell2 0 _ rfl)
      have d1 : wr.cell? ⟨b2, off2 + k * 4 + 1, none⟩ = some (.int .i64 s.pFar) := cellOf hbl (by omega) (hcell2 1 _ rfl)
      have d2 : wr.cell? ⟨b2, off2 + k * 4 + 2, none⟩ = some (.int .i64 s.pWidth) := cellOf hbl (by omega) (hcell2 2 _ rfl)
      have d3 : wr.cell? ⟨b2, off2 + k * 4 + 3, none⟩ = some (.int .i64 s.pTerm) := cellOf hbl (by omega) (hcell2 3 _ rfl)
      have hi0 : (0 : Int) ≤ (k : Int) := by omega
      have hi1 : (k : Int) < (xs.length : Int) := by omega
      have hbs : b < wr.heap.size := by omega
      have hbs2 : b2 < wr.heap.size := by omega
      clear hs hcell hcell2 hc hc2
      go_wp2
      go_quiet (fail)
      go_wp2
      go_roundw
      case rel => exact ⟨k + 1, by omega, by go_num, drewN_b hbl _⟩
      case measure => simp [intOf]; omega
    · go_wp2
      go_ret
      exact ⟨rfl, hbl⟩
theorem rHasYes (l : List Int) (v : Value) (x : Int) (w : World) (B : Nat) (h : Lst (Value.int .i64) w B v l) (hx : x ∈ l) :
    Calls Try.prog 42 #[v, .int .i64 x] w fun e w' => e = .returned (.bool true) ∧ w' = w := by
  obtain ⟨ao, cap, rfl, hcap, hmax, -, hc⟩ := h
  unfold maxLen at hmax
  obtain ⟨j, hj⟩ := List.mem_iff_getElem?.1 hx
  have hjl := (List.getElem?_eq_some_iff.1 hj).1
  have HC := Lib.hid hc
  have HJ := Lib.hid hj
  clear hc hx hj
  go_enter Try.func42, Try.ntmps42
  go_wp2
  go_loop [5] (fun i => ∃ k : Nat, k ≤ j ∧ i = .int .i64 k) (fun i => l.length - (intOf i).toNat)
  case atStart => exact ⟨0, Nat.zero_le _, rfl⟩
  case round =>
    obtain ⟨k, hk, rfl⟩ := hrel
    have hlt : k < l.length := by omega
    obtain ⟨y, hy⟩ := get_of_lt hlt
    obtain ⟨b, off, rfl, hb, hcell⟩ := HC.out k y hy
    by_cases he : y = x
    · subst he
      clear hy
      go_wp2
      go_ret
      exact ⟨rfl, rfl⟩
    · have he2 : (y == x) = false := by simpa using he
      have hne : k ≠ j := by
        intro e
        subst e
        have := HJ.out
        rw [hy] at this
        exact he (Option.some.inj this)
      have hkj : k < j := by omega
      clear hy hne he
      go_wp2
      go_round
      case rel => exact ⟨k + 1, by omega, by go_num⟩
      case measure => simp [intOf]; omega
end Go.Proofs.Ytdiedfpfhbdamaa
