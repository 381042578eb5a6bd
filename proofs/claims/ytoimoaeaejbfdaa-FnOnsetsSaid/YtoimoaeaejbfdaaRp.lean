/- Lists of picks compared by the laws; a number in a list. -/
import Derived.Test.YtoimoaeaejbfdaaFPick
import Derived.Test.YtoimoaeaejbfdaaInt
import Derived.Laws.StructEq
namespace Go.Proofs.Ytoimoaeaejbfdaa
open Go.ChangeShapes Go.WideShapes Go.ChangeAt Go.RowKit Go.ChangeMaps
set_option linter.unusedSimpArgs false
set_option linter.unusedVariables false
set_option linter.unusedSimpArgs false
set_option linter.unusedVariables false

set_option maxRecDepth 100000 in
set_option maxHeartbeats 2000000 in
theorem rPicks_same (xs : List GPick) (v v2 : Value) (w : World) (B : Nat) (h : PickL w B v xs) (h2 : PickL w B v2 xs) (hB : B ≤ w.heap.size) :
    Calls Try.prog 19 #[v, v2] w fun e w' => e = .returned (.bool true) ∧ Below w.heap.size w w' := by
  obtain ⟨ao, cap, rfl, hcap, hmax, -, hc⟩ := h
  obtain ⟨ao2, cap2, rfl, hcap2, hmax2, -, hc2⟩ := h2
  unfold maxLen at hmax hmax2
  go_enter Try.func19, Try.ntmps19
  go_wp2
  go_loopw [5] (fun i wr => ∃ (k : Nat), k ≤ xs.length ∧ i = .int .i64 k ∧ Below w.heap.size w wr)
    (fun i _ => xs.length - (intOf i).toNat)
  case atStart => exact ⟨0, Nat.zero_le _, rfl, Below.refl _ _⟩
  case round =>
    obtain ⟨k, hk, rfl, hbl⟩ := hrel
    have hsz := hbl.size
    by_cases hlt : k < xs.length
    · obtain ⟨s, hs⟩ := get_of_lt hlt
      obtain ⟨b, off, rfl, hb, hcell⟩ := hc k s hs
      obtain ⟨b2, off2, rfl, hb2, hcell2⟩ := hc2 k s hs
      have c0 : wr.cell? ⟨b, off + k * 7, none⟩ = some (.int .i64 s.pId) := cellOf hbl (by omega) (hcell 0 _ rfl)
      have c1 : wr.cell? ⟨b, off + k * 7 + 1, none⟩ = some (.int .i64 s.pStation) := cellOf hbl (by omega) (hcell 1 _ rfl)
      have c2 : wr.cell? ⟨b, off + k * 7 + 2, none⟩ = some (.int .i64 s.pWave) := cellOf hbl (by omega) (hcell 2 _ rfl)
      have c3 : wr.cell? ⟨b, off + k * 7 + 3, none⟩ = some (.int .i64 s.pTick) := cellOf hbl (by omega) (hcell 3 _ rfl)
      have c4 : wr.cell? ⟨b, off + k * 7 + 4, none⟩ = some (.int .i64 s.pError) := cellOf hbl (by omega) (hcell 4 _ rfl)
      have c5 : wr.cell? ⟨b, off + k * 7 + 5, none⟩ = some (.int .i64 s.pBy) := cellOf hbl (by omega) (hcell 5 _ rfl)
      have c6 : wr.cell? ⟨b, off + k * 7 + 6, none⟩ = some (.int .i64 s.pAfter) := cellOf hbl (by omega) (hcell 6 _ rfl)
      have d0 : wr.cell? ⟨b2, off2 + k * 7, none⟩ = some (.int .i64 s.pId) := cellOf hbl (by omega) (hcell2 0 _ rfl)
      have d1 : wr.cell? ⟨b2, off2 + k * 7 + 1, none⟩ = some (.int .i64 s.pStation) := cellOf hbl (by omega) (hcell2 1 _ rfl)
      have d2 : wr.cell? ⟨b2, off2 + k * 7 + 2, none⟩ = some (.int .i64 s.pWave) := cellOf hbl (by omega) (hcell2 2 _ rfl)
      have d3 : wr.cell? ⟨b2, off2 + k * 7 + 3, none⟩ = some (.int .i64 s.pTick) := cellOf hbl (by omega) (hcell2 3 _ rfl)
      have d4 : wr.cell? ⟨b2, off2 + k * 7 + 4, none⟩ = some (.int .i64 s.pError) := cellOf hbl (by omega) (hcell2 4 _ rfl)
      have d5 : wr.cell? ⟨b2, off2 + k * 7 + 5, none⟩ = some (.int .i64 s.pBy) := cellOf hbl (by omega) (hcell2 5 _ rfl)
      have d6 : wr.cell? ⟨b2, off2 + k * 7 + 6, none⟩ = some (.int .i64 s.pAfter) := cellOf hbl (by omega) (hcell2 6 _ rfl)
      have hi0 : (0 : Int) ≤ (k : Int) := by omega
      have hi1 : (k : Int) < (xs.length : Int) := by omega
      have hbs : b < wr.heap.size := by omega
      have hbs2 : b2 < wr.heap.size := by omega
      clear hs hcell hcell2 hc hc2
      go_wp2
      go_quiet (fail)
      go_wp2
      go_roundw
      case rel => exact ⟨k + 1, by omega, by go_num, drewN_b hbl _⟩
      case measure => simp [intOf]; omega
    · go_wp2
      go_ret
      exact ⟨rfl, hbl⟩
theorem rHasYes (l : List Int) (v : Value) (x : Int) (w : World) (B : Nat) (h : Lst (Value.int .i64) w B v l) (hx : x ∈ l) :
    Calls Try.prog 23 #[v, .int .i64 x] w fun e w' => e = .returned (.bool true) ∧ w' = w := by
  obtain ⟨ao, cap, rfl, hcap, hmax, -, hc⟩ := h
  unfold maxLen at hmax
  obtain ⟨j, hj⟩ := List.mem_iff_getElem?.1 hx
  have hjl := (List.getElem?_eq_some_iff.1 hj).1
  have HC := Lib.hid hc
  have HJ := Lib.hid hj
  clear hc hx hj
  go_enter Try.func23, Try.ntmps23
  go_wp2
  go_loop [5] (fun i => ∃ k : Nat, k ≤ j ∧ i = .int .i64 k) (fun i => l.length - (intOf i).toNat)
  case atStart => exact ⟨0, Nat.zero_le _, rfl⟩
  case round =>
    obtain ⟨k, hk, rfl⟩ := hrel
    have hlt : k < l.length := by omega
    obtain ⟨y, hy⟩ := get_of_lt hlt
    obtain ⟨b, off, rfl, hb, hcell⟩ := HC.out k y hy
    by_cases he : y = x
    · subst he
      clear hy
      go_wp2
      go_ret
      exact ⟨rfl, rfl⟩
    · have he2 : (y == x) = false := by simpa using he
      have hne : k ≠ j := by
        intro e
        subst e
        have := HJ.out
        rw [hy] at this
        exact he (Option.some.inj this)
      have hkj : k < j := by omega
      clear hy hne he
      go_wp2
      go_round
      case rel => exact ⟨k + 1, by omega, by go_num⟩
      case measure => simp [intOf]; omega
theorem rHasNo (ss : List Int) (x : Int) (v : Value) (w : World) (B : Nat) (h : Lst (Value.int .i64) w B v ss) (hB : B ≤ w.heap.size) (hx : ∀ y ∈ ss, y ≠ x) :
    Calls Try.prog 23 #[v, .int .i64 x] w fun e w' => e = .returned (.bool false) ∧ Below w.heap.size w w' := by
  obtain ⟨ao, cap, rfl, hcap, hmax, -, hc⟩ := h
  unfold maxLen at hmax
  go_enter Try.func23, Try.ntmps23
  go_wp2
  go_loopw [5] (fun i wr => ∃ (k : Nat), k ≤ ss.length ∧ i = .int .i64 k ∧ Below w.heap.size w wr)
    (fun i _ => ss.length - (intOf i).toNat)
  case atStart => exact ⟨0, Nat.zero_le _, rfl, Below.refl _ _⟩
  case round =>
    obtain ⟨k, hk, rfl, hbl⟩ := hrel
    by_cases hlt : k < ss.length
    · obtain ⟨s, hs⟩ := get_of_lt hlt
      have hne := hx s (List.mem_of_getElem? hs)
      obtain ⟨b, off, rfl, hb, hcell⟩ := hc k s hs
      have hcell' := cellOf hbl (by omega) hcell
      have hne1 : (s == x) = false := by simpa using hne
      have hne2 : ¬ s = x := hne
      clear hs hcell
      have hi0 : (0 : Int) ≤ (k : Int) := by omega
      have hi1 : (k : Int) < (ss.length : Int) := by omega
      go_wp2
      go_roundw
      case rel => exact ⟨k + 1, by omega, by go_num, hbl⟩
      case measure => simp [intOf]; omega
    · go_wp2
      go_ret
      exact ⟨rfl, hbl⟩
end Go.Proofs.Ytoimoaeaejbfdaa
