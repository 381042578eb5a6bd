/- True and shown ticks: the specification. -/
import Derived.Test.YtkafmfpbfedmdabTkN
namespace Go.Proofs.Ytkafmfpbfedmdab
open Go.ChangeShapes Go.WideShapes Go.ChangeAt Go.RowKit Go.ChangeMaps
set_option linter.unusedSimpArgs false
set_option linter.unusedVariables false

def tickB (z : Int) : Bool := decide (0 ≤ z ∧ z ≤ 1000000)
theorem tickB_yes {z : Int} (h : tickB z = true) : 0 ≤ z ∧ z ≤ 1000000 := of_decide_eq_true h
theorem tickB_no {z : Int} (h : tickB z = false) : ¬ (0 ≤ z ∧ z ≤ 1000000) := of_decide_eq_false h
noncomputable def okTT (xs : List GClockMark) (x : Int) : Bool := goodTk xs && (tickB x && tickB (lineL xs x))
noncomputable def numTT (xs : List GClockMark) (x : Int) : Int := if okTT xs x then lineL xs x else 0
noncomputable def okST (xs : List GClockMark) (t : Int) : Bool := goodTk xs && (tickB t && (decide (firstTk xs t ≤ 1000000) && tickB (lineL xs (firstTk xs t))))
noncomputable def numST (xs : List GClockMark) (t : Int) : Int := if okST xs t then firstTk xs t else 0
theorem noTT {xs : List GClockMark} {x : Int} (h : okTT xs x = false) : Ending.returned (.tuple #[.int .i64 0, .bool false]) = .returned (.tuple #[.int .i64 (numTT xs x), .bool (okTT xs x)]) := by unfold numTT; rw [h]; rfl
theorem yesTT {xs : List GClockMark} {x : Int} (h : okTT xs x = true) : Ending.returned (.tuple #[.int .i64 (lineL xs x), .bool true]) = .returned (.tuple #[.int .i64 (numTT xs x), .bool (okTT xs x)]) := by unfold numTT; rw [h]; rfl
theorem noST {xs : List GClockMark} {x : Int} (h : okST xs x = false) : Ending.returned (.tuple #[.int .i64 0, .bool false]) = .returned (.tuple #[.int .i64 (numST xs x), .bool (okST xs x)]) := by unfold numST; rw [h]; rfl
theorem yesST {xs : List GClockMark} {x r : Int} (h : okST xs x = true) (hr : firstTk xs x = r) : Ending.returned (.tuple #[.int .i64 r, .bool true]) = .returned (.tuple #[.int .i64 (numST xs x), .bool (okST xs x)]) := by unfold numST; rw [h, ← hr]; rfl
theorem specGoodTkV (xs : List GClockMark) (v : Value) (w : World) (B : Nat) (h : ClockMarkL w B v xs) (hB : B ≤ w.heap.size) (hn : xs.length ≤ 1048576) (u : Bool) (hu : goodTk xs = u) :
    Calls Try.prog 17 #[v] w fun e w' => e = .returned (.bool u) ∧ Below w.heap.size w w' := by
  subst hu
  refine (specGoodTk xs v w B h hB hn).mono ?_
  rintro e w' ⟨rfl, n, rfl⟩
  exact ⟨rfl, drewN_b (Below.refl _ _) n⟩
end Go.Proofs.Ytkafmfpbfedmdab
