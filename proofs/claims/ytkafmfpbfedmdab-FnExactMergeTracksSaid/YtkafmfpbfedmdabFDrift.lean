/- Drift: what it reads as; the laws' helpers on it and on slices of it. -/
import Derived.Test.YtkafmfpbfedmdabFlat
import Derived.Handy
import Derived.Deep.Slices
import Derived.Deep.Fields
namespace Go.Proofs.Ytkafmfpbfedmdab
open Go.ChangeShapes Go.WideShapes Go.ChangeAt Go.RowKit Go.ChangeMaps
set_option linter.unusedSimpArgs false
set_option linter.unusedVariables false

structure GDrift where
  pNum : Int
  pDen : Int
def encDrift (s : GDrift) : List Value := [.int .i64 s.pNum, .int .i64 s.pDen]
theorem encDrift_len : ∀ s, (encDrift s).length = 2 := fun _ => rfl
def zeroDrift : GDrift := ⟨0, 0⟩
abbrev DriftL (w : World) (B : Nat) (v : Value) (xs : List GDrift) : Prop := LstK encDrift 2 w B v xs
abbrev DriftO (w : World) (L B : Nat) (v : Value) (xs : List GDrift) : Prop := OwnK encDrift 2 w L B v xs
def sz1Drift (s : GDrift) : Nat := 0
def szsDrift (xs : List GDrift) : Nat := (xs.map fun s => 1 + sz1Drift s).sum
theorem szsDrift_len (xs : List GDrift) : xs.length ≤ szsDrift xs := by
  unfold szsDrift
  induction xs with
  | nil => simp
  | cons a l ih => simp only [List.map_cons, List.sum_cons, List.length_cons]; omega
theorem szsDrift_mem {xs : List GDrift} {s : GDrift} (h : s ∈ xs) : sz1Drift s ≤ szsDrift xs := by
  unfold szsDrift
  induction xs with
  | nil => simp at h
  | cons a l ih =>
    simp only [List.map_cons, List.sum_cons]
    rcases List.mem_cons.1 h with rfl | h
    · omega
    · have := ih h; omega
theorem szsDrift_split (xs : List GDrift) : szsDrift xs = xs.length := by
  unfold szsDrift
  induction xs with
  | nil => simp
  | cons a l ih => rw [List.map_cons, List.sum_cons, List.length_cons, ih]; unfold sz1Drift; omega

/-- One of them by value. -/
def DriftV (v : Value) (s : GDrift) : Prop := v = .agg #[.int .i64 s.pNum, .int .i64 s.pDen]
def mkDrift (k : Int) : GDrift := ⟨k, k + 1⟩
def marksDrift (k : Int) (n : Nat) : List GDrift := (List.range n).map fun (i : Nat) => mkDrift (k + 2 * i)
theorem marksDrift_get {k : Int} {n i : Nat} (h : i < n) : (marksDrift k n)[i]? = some (mkDrift (k + 2 * i)) := by simp [marksDrift, h]
theorem marksDrift_len (k : Int) (n : Nat) : (marksDrift k n).length = n := by simp [marksDrift]
theorem eq_marksDrift {k : Int} {n : Nat} {cs : List GDrift} (hl : cs.length = n) (h : ∀ i, i < n → cs[i]? = some (mkDrift (k + 2 * i))) : cs = marksDrift k n := by
  apply List.ext_getElem?
  intro i
  by_cases hi : i < n
  · rw [h i hi, marksDrift_get hi]
  · rw [List.getElem?_eq_none (by omega), List.getElem?_eq_none (by rw [marksDrift_len]; omega)]
theorem oneDrift (xs : List GDrift) : ∀ u ∈ xs.flatMap encDrift, u.oneCell' = true := by
  intro u hu
  obtain ⟨x, _, hx⟩ := List.mem_flatMap.1 hu
  simp only [encDrift, List.mem_cons, List.not_mem_nil, or_false] at hx
  rcases hx with rfl | rfl <;> rfl
def wfDrift (s : GDrift) : Prop := I64 s.pNum ∧ I64 s.pDen
/-- One of them, by value. -/
def DriftVL (_ : World) (_ : Nat) (v : Value) (s : GDrift) : Prop := v = .agg #[.int .i64 s.pNum, .int .i64 s.pDen]
def DriftVO (_ : World) (_ _ : Nat) (v : Value) (s : GDrift) : Prop := v = .agg #[.int .i64 s.pNum, .int .i64 s.pDen]
theorem DriftVO.lst {w : World} {L B : Nat} {v : Value} {s : GDrift} (h : DriftVO w L B v s) : DriftVL w B v s := h
theorem DriftVL.below {w w' : World} {B : Nat} {v : Value} {s : GDrift} (h : DriftVL w B v s) (_ : Below B w w') : DriftVL w' B v s := h
theorem DriftVL.mono {w : World} {B B' : Nat} {v : Value} {s : GDrift} (h : DriftVL w B v s) (_ : B ≤ B') : DriftVL w B' v s := h
theorem DriftVO.below {w w' : World} {L B : Nat} {v : Value} {s : GDrift} (h : DriftVO w L B v s) (_ : Below B w w') : DriftVO w' L B v s := h
theorem DriftVO.mono {w : World} {L B L' B' : Nat} {v : Value} {s : GDrift} (h : DriftVO w L B v s) (_ : L' ≤ L) (_ : B ≤ B') : DriftVO w L' B' v s := h
theorem DriftVO.high {w w' : World} {L B L' U' : Nat} {v : Value} {s : GDrift} (h : DriftVO w L B v s) (_ : Upd L' U' w w') (_ : U' ≤ L) : DriftVO w' L B v s := h
theorem DriftVL.form {w : World} {B : Nat} {v : Value} {s : GDrift} (h : DriftVL w B v s) : v = .agg #[.int .i64 s.pNum, .int .i64 s.pDen] := h
theorem DriftVO.form {w : World} {L B : Nat} {v : Value} {s : GDrift} (h : DriftVO w L B v s) : v = .agg #[.int .i64 s.pNum, .int .i64 s.pDen] := h
end Go.Proofs.Ytkafmfpbfedmdab
