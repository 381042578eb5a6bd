/- The specification's draws for the law on terms. -/
import Derived.Test.YtdiedfpfhbdamaaAoB
import Derived.Test.YtdiedfpfhbdamaaAoC
namespace Go.Proofs.Ytdiedfpfhbdamaa
open Go.ChangeShapes Go.WideShapes Go.ChangeAt Go.RowKit Go.ChangeMaps
set_option linter.unusedSimpArgs false
set_option linter.unusedVariables false
set_option linter.unusedSimpArgs false
set_option linter.unusedVariables false

/-- A table and swings that a draw gives. -/
structure DrTW (w w' : World) (v v2 : Value) (xs : List GTableRow) (ys : List GSwing) : Prop where
  tl : TableRowL w' w'.heap.size v xs
  tlen : xs.length ≤ 12
  tbd : ∀ s ∈ xs, BdT s
  sl : SwingL w' w'.heap.size v2 ys
  slen : ys.length ≤ 12
  sbd : ∀ s ∈ ys, BdW s
  below : Below w.heap.size w w'
set_option maxRecDepth 100000 in
set_option maxHeartbeats 2000000 in
theorem drawMM (w : World) (B : Nat) (v : Value) (h : CodeArg w B v) :
    Calls Try.prog 49 #[v] w fun e w' => ∃ (v1 v2 : Value) (xs : List GTableRow) (ys : List GSwing), e = .returned (.tuple #[v1, v2]) ∧ DrTW w w' v1 v2 xs ys := by
  obtain ⟨h0, ao, n, cap, rfl, h2, h3⟩ := h
  have hcu := cur_new w B ao n cap h0 h2 h3
  have hbw : w.heap.size < (w.alloc (.cells #[.slice ao n cap, .int .i64 0, .int .u64 0] 104)).heap.size := by simp
  clear h3
  go_enter Try.func49, Try.ntmps49
  go_wp2_with fail
  refine (cur_table _ B w.heap.size 0 hcu (by omega)).mono ?_
  rintro e w1 ⟨v1, xs, rfl, hS⟩
  obtain ⟨g1, cap1, rfl⟩ := hS.form
  have HS1 := Lib.hid hS
  clear hS hcu
  go_wp2_with fail
  refine (cur_swings _ B w.heap.size _ HS1.out.cur (by omega)).mono ?_
  rintro e w2 ⟨v2, ys, rfl, hW⟩
  obtain ⟨g2, cap2, rfl⟩ := hW.form
  have HS2 := Lib.hid (HS1.out.draw hbw hW.gr hW.cur)
  have HW2 := Lib.hid hW
  clear HS1 hW
  go_wp2
  go_ret2
  exact ⟨_, _, xs, ys, rfl, HS2.out.own.lst, HS2.out.len, HS2.out.bd, HW2.out.own.lst, HW2.out.len, HW2.out.bd, grown_below HS2.out.gr⟩
theorem drawRs (w : World) (B : Nat) (v : Value) (h : CodeArg w B v) :
    Calls Try.prog 36 #[v] w fun e w' => ∃ (v1 v2 : Value) (xs : List GTableRow) (ys : List GSwing), e = .returned (.tuple #[v1, v2]) ∧ DrTW w w' v1 v2 xs ys := by
  have C := Lib.hid (drawMM w B v h)
  obtain ⟨h0, ao, n, cap, rfl, h2, h3⟩ := h
  clear h3
  go_enter Try.func36, Try.ntmps36
  go_wp2_with fail
  refine C.out.mono ?_
  rintro e w1 ⟨v1, v2, xs, ys, rfl, hD⟩
  go_wp2
  go_ret2
  exact ⟨v1, v2, xs, ys, rfl, hD⟩
theorem drawNt (w : World) (B : Nat) (v : Value) (h : CodeArg w B v) :
    Calls Try.prog 43 #[v] w fun e w' => ∃ (v1 v2 : Value) (xs : List GTableRow) (ys : List GSwing), e = .returned (.tuple #[v1, v2]) ∧ DrTW w w' v1 v2 xs ys := by
  have C := Lib.hid (drawMM w B v h)
  obtain ⟨h0, ao, n, cap, rfl, h2, h3⟩ := h
  clear h3
  go_enter Try.func43, Try.ntmps43
  go_wp2_with fail
  refine C.out.mono ?_
  rintro e w1 ⟨v1, v2, xs, ys, rfl, hD⟩
  go_wp2
  go_ret2
  exact ⟨v1, v2, xs, ys, rfl, hD⟩
end Go.Proofs.Ytdiedfpfhbdamaa
