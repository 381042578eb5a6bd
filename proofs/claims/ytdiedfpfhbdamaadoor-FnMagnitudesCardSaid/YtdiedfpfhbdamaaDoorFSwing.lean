/- Swing: what it reads as; the laws' helpers on it and on slices of it. -/
import Derived.Test.YtdiedfpfhbdamaaDoorFlat
import Derived.Handy
import Derived.Deep.Slices
import Derived.Deep.Fields
namespace Go.Proofs.YtdiedfpfhbdamaaDoor
open Go.ChangeShapes Go.WideShapes Go.ChangeAt Go.RowKit Go.ChangeMaps
set_option linter.unusedSimpArgs false
set_option linter.unusedVariables false

structure GSwing where
  pStation : Int
  pFar : Int
  pWidth : Int
  pTerm : Int
def encSwing (s : GSwing) : List Value := [.int .i64 s.pStation, .int .i64 s.pFar, .int .i64 s.pWidth, .int .i64 s.pTerm]
theorem encSwing_len : ∀ s, (encSwing s).length = 4 := fun _ => rfl
def zeroSwing : GSwing := ⟨0, 0, 0, 0⟩
abbrev SwingL (w : World) (B : Nat) (v : Value) (xs : List GSwing) : Prop := LstK encSwing 4 w B v xs
abbrev SwingO (w : World) (L B : Nat) (v : Value) (xs : List GSwing) : Prop := OwnK encSwing 4 w L B v xs
def sz1Swing (s : GSwing) : Nat := 0
def szsSwing (xs : List GSwing) : Nat := (xs.map fun s => 1 + sz1Swing s).sum
theorem szsSwing_len (xs : List GSwing) : xs.length ≤ szsSwing xs := by
  unfold szsSwing
  induction xs with
  | nil => simp
  | cons a l ih => simp only [List.map_cons, List.sum_cons, List.length_cons]; omega
theorem szsSwing_mem {xs : List GSwing} {s : GSwing} (h : s ∈ xs) : sz1Swing s ≤ szsSwing xs := by
  unfold szsSwing
  induction xs with
  | nil => simp at h
  | cons a l ih =>
    simp only [List.map_cons, List.sum_cons]
    rcases List.mem_cons.1 h with rfl | h
    · omega
    · have := ih h; omega
theorem szsSwing_split (xs : List GSwing) : szsSwing xs = xs.length := by
  unfold szsSwing
  induction xs with
  | nil => simp
  | cons a l ih => rw [List.map_cons, List.sum_cons, List.length_cons, ih]; unfold sz1Swing; omega

/-- One of them by value. -/
def SwingV (v : Value) (s : GSwing) : Prop := v = .agg #[.int .i64 s.pStation, .int .i64 s.pFar, .int .i64 s.pWidth, .int .i64 s.pTerm]
theorem info_Swing : (Tryd.prog.info? 31).map (fun i => (i.zero, i.size, i.bytes)) = some (some (.agg #[.int .i64 0, .int .i64 0, .int .i64 0, .int .i64 0]), 4, 32) := by kernel_rfl
def mkSwing (k : Int) : GSwing := ⟨k, k + 1, k + 1 + 1, k + 1 + 1 + 1⟩
def marksSwing (k : Int) (n : Nat) : List GSwing := (List.range n).map fun (i : Nat) => mkSwing (k + 4 * i)
theorem marksSwing_get {k : Int} {n i : Nat} (h : i < n) : (marksSwing k n)[i]? = some (mkSwing (k + 4 * i)) := by simp [marksSwing, h]
theorem marksSwing_len (k : Int) (n : Nat) : (marksSwing k n).length = n := by simp [marksSwing]
theorem eq_marksSwing {k : Int} {n : Nat} {cs : List GSwing} (hl : cs.length = n) (h : ∀ i, i < n → cs[i]? = some (mkSwing (k + 4 * i))) : cs = marksSwing k n := by
  apply List.ext_getElem?
  intro i
  by_cases hi : i < n
  · rw [h i hi, marksSwing_get hi]
  · rw [List.getElem?_eq_none (by omega), List.getElem?_eq_none (by rw [marksSwing_len]; omega)]
theorem oneSwing (xs : List GSwing) : ∀ u ∈ xs.flatMap encSwing, u.oneCell' = true := by
  intro u hu
  obtain ⟨x, _, hx⟩ := List.mem_flatMap.1 hu
  simp only [encSwing, List.mem_cons, List.not_mem_nil, or_false] at hx
  rcases hx with rfl | rfl | rfl | rfl <;> rfl
def wfSwing (s : GSwing) : Prop := I64 s.pStation ∧ I64 s.pFar ∧ I64 s.pWidth ∧ I64 s.pTerm
/-- One of them, by value. -/
def SwingVL (_ : World) (_ : Nat) (v : Value) (s : GSwing) : Prop := v = .agg #[.int .i64 s.pStation, .int .i64 s.pFar, .int .i64 s.pWidth, .int .i64 s.pTerm]
def SwingVO (_ : World) (_ _ : Nat) (v : Value) (s : GSwing) : Prop := v = .agg #[.int .i64 s.pStation, .int .i64 s.pFar, .int .i64 s.pWidth, .int .i64 s.pTerm]
theorem SwingVO.lst {w : World} {L B : Nat} {v : Value} {s : GSwing} (h : SwingVO w L B v s) : SwingVL w B v s := h
theorem SwingVL.below {w w' : World} {B : Nat} {v : Value} {s : GSwing} (h : SwingVL w B v s) (_ : Below B w w') : SwingVL w' B v s := h
theorem SwingVL.mono {w : World} {B B' : Nat} {v : Value} {s : GSwing} (h : SwingVL w B v s) (_ : B ≤ B') : SwingVL w B' v s := h
theorem SwingVO.below {w w' : World} {L B : Nat} {v : Value} {s : GSwing} (h : SwingVO w L B v s) (_ : Below B w w') : SwingVO w' L B v s := h
theorem SwingVO.mono {w : World} {L B L' B' : Nat} {v : Value} {s : GSwing} (h : SwingVO w L B v s) (_ : L' ≤ L) (_ : B ≤ B') : SwingVO w L' B' v s := h
theorem SwingVO.high {w w' : World} {L B L' U' : Nat} {v : Value} {s : GSwing} (h : SwingVO w L B v s) (_ : Upd L' U' w w') (_ : U' ≤ L) : SwingVO w' L B v s := h
theorem SwingVL.form {w : World} {B : Nat} {v : Value} {s : GSwing} (h : SwingVL w B v s) : v = .agg #[.int .i64 s.pStation, .int .i64 s.pFar, .int .i64 s.pWidth, .int .i64 s.pTerm] := h
theorem SwingVO.form {w : World} {L B : Nat} {v : Value} {s : GSwing} (h : SwingVO w L B v s) : v = .agg #[.int .i64 s.pStation, .int .i64 s.pFar, .int .i64 s.pWidth, .int .i64 s.pTerm] := h
end Go.Proofs.YtdiedfpfhbdamaaDoor
