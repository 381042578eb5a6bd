/- TableRow: what it reads as; the laws' helpers on it and on slices of it. -/
import Derived.Test.YtdiedfpfhbdamaaDoorFlat
import Derived.Handy
import Derived.Deep.Slices
import Derived.Deep.Fields
namespace Go.Proofs.YtdiedfpfhbdamaaDoor
open Go.ChangeShapes Go.WideShapes Go.ChangeAt Go.RowKit Go.ChangeMaps
set_option linter.unusedSimpArgs false
set_option linter.unusedVariables false

structure GTableRow where
  pFar : Int
  pBonus : Int
def encTableRow (s : GTableRow) : List Value := [.int .i64 s.pFar, .int .i64 s.pBonus]
theorem encTableRow_len : ∀ s, (encTableRow s).length = 2 := fun _ => rfl
def zeroTableRow : GTableRow := ⟨0, 0⟩
abbrev TableRowL (w : World) (B : Nat) (v : Value) (xs : List GTableRow) : Prop := LstK encTableRow 2 w B v xs
abbrev TableRowO (w : World) (L B : Nat) (v : Value) (xs : List GTableRow) : Prop := OwnK encTableRow 2 w L B v xs
def sz1TableRow (s : GTableRow) : Nat := 0
def szsTableRow (xs : List GTableRow) : Nat := (xs.map fun s => 1 + sz1TableRow s).sum
theorem szsTableRow_len (xs : List GTableRow) : xs.length ≤ szsTableRow xs := by
  unfold szsTableRow
  induction xs with
  | nil => simp
  | cons a l ih => simp only [List.map_cons, List.sum_cons, List.length_cons]; omega
theorem szsTableRow_mem {xs : List GTableRow} {s : GTableRow} (h : s ∈ xs) : sz1TableRow s ≤ szsTableRow xs := by
  unfold szsTableRow
  induction xs with
  | nil => simp at h
  | cons a l ih =>
    simp only [List.map_cons, List.sum_cons]
    rcases List.mem_cons.1 h with rfl | h
    · omega
    · have := ih h; omega
theorem szsTableRow_split (xs : List GTableRow) : szsTableRow xs = xs.length := by
  unfold szsTableRow
  induction xs with
  | nil => simp
  | cons a l ih => rw [List.map_cons, List.sum_cons, List.length_cons, ih]; unfold sz1TableRow; omega

/-- One of them by value. -/
def TableRowV (v : Value) (s : GTableRow) : Prop := v = .agg #[.int .i64 s.pFar, .int .i64 s.pBonus]
theorem info_TableRow : (Tryd.prog.info? 55).map (fun i => (i.zero, i.size, i.bytes)) = some (some (.agg #[.int .i64 0, .int .i64 0]), 2, 16) := by kernel_rfl
def mkTableRow (k : Int) : GTableRow := ⟨k, k + 1⟩
def marksTableRow (k : Int) (n : Nat) : List GTableRow := (List.range n).map fun (i : Nat) => mkTableRow (k + 2 * i)
theorem marksTableRow_get {k : Int} {n i : Nat} (h : i < n) : (marksTableRow k n)[i]? = some (mkTableRow (k + 2 * i)) := by simp [marksTableRow, h]
theorem marksTableRow_len (k : Int) (n : Nat) : (marksTableRow k n).length = n := by simp [marksTableRow]
theorem eq_marksTableRow {k : Int} {n : Nat} {cs : List GTableRow} (hl : cs.length = n) (h : ∀ i, i < n → cs[i]? = some (mkTableRow (k + 2 * i))) : cs = marksTableRow k n := by
  apply List.ext_getElem?
  intro i
  by_cases hi : i < n
  · rw [h i hi, marksTableRow_get hi]
  · rw [List.getElem?_eq_none (by omega), List.getElem?_eq_none (by rw [marksTableRow_len]; omega)]
theorem oneTableRow (xs : List GTableRow) : ∀ u ∈ xs.flatMap encTableRow, u.oneCell' = true := by
  intro u hu
  obtain ⟨x, _, hx⟩ := List.mem_flatMap.1 hu
  simp only [encTableRow, List.mem_cons, List.not_mem_nil, or_false] at hx
  rcases hx with rfl | rfl <;> rfl
def wfTableRow (s : GTableRow) : Prop := I64 s.pFar ∧ I64 s.pBonus
/-- One of them, by value. -/
def TableRowVL (_ : World) (_ : Nat) (v : Value) (s : GTableRow) : Prop := v = .agg #[.int .i64 s.pFar, .int .i64 s.pBonus]
def TableRowVO (_ : World) (_ _ : Nat) (v : Value) (s : GTableRow) : Prop := v = .agg #[.int .i64 s.pFar, .int .i64 s.pBonus]
theorem TableRowVO.lst {w : World} {L B : Nat} {v : Value} {s : GTableRow} (h : TableRowVO w L B v s) : TableRowVL w B v s := h
theorem TableRowVL.below {w w' : World} {B : Nat} {v : Value} {s : GTableRow} (h : TableRowVL w B v s) (_ : Below B w w') : TableRowVL w' B v s := h
theorem TableRowVL.mono {w : World} {B B' : Nat} {v : Value} {s : GTableRow} (h : TableRowVL w B v s) (_ : B ≤ B') : TableRowVL w B' v s := h
theorem TableRowVO.below {w w' : World} {L B : Nat} {v : Value} {s : GTableRow} (h : TableRowVO w L B v s) (_ : Below B w w') : TableRowVO w' L B v s := h
theorem TableRowVO.mono {w : World} {L B L' B' : Nat} {v : Value} {s : GTableRow} (h : TableRowVO w L B v s) (_ : L' ≤ L) (_ : B ≤ B') : TableRowVO w L' B' v s := h
theorem TableRowVO.high {w w' : World} {L B L' U' : Nat} {v : Value} {s : GTableRow} (h : TableRowVO w L B v s) (_ : Upd L' U' w w') (_ : U' ≤ L) : TableRowVO w' L B v s := h
theorem TableRowVL.form {w : World} {B : Nat} {v : Value} {s : GTableRow} (h : TableRowVL w B v s) : v = .agg #[.int .i64 s.pFar, .int .i64 s.pBonus] := h
theorem TableRowVO.form {w : World} {L B : Nat} {v : Value} {s : GTableRow} (h : TableRowVO w L B v s) : v = .agg #[.int .i64 s.pFar, .int .i64 s.pBonus] := h
end Go.Proofs.YtdiedfpfhbdamaaDoor
