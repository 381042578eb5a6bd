/- Station: what it reads as; the laws' helpers on it and on slices of it. -/
import Derived.Test.YtklilfbokpljkacFlat
import Derived.Handy
import Derived.Deep.Slices
import Derived.Deep.Fields
import Derived.Test.YtklilfbokpljkacStr
namespace Go.Proofs.Ytklilfbokpljkac
open Go.ChangeShapes Go.WideShapes Go.ChangeAt Go.RowKit Go.ChangeMaps
set_option linter.unusedSimpArgs false
set_option linter.unusedVariables false

structure GStation where
  pId : Int
  pName : ByteArray
  pX : Int
  pY : Int
  pGain : Int
  pLow : Int
  pHigh : Int
  pUntil : Int
def encStation (s : GStation) : List Value := [.int .i64 s.pId, .string s.pName, .int .i64 s.pX, .int .i64 s.pY, .int .i64 s.pGain, .int .i64 s.pLow, .int .i64 s.pHigh, .int .i64 s.pUntil]
theorem encStation_len : ∀ s, (encStation s).length = 8 := fun _ => rfl
def zeroStation : GStation := ⟨0, .empty, 0, 0, 0, 0, 0, 0⟩
abbrev StationL (w : World) (B : Nat) (v : Value) (xs : List GStation) : Prop := LstK encStation 8 w B v xs
abbrev StationO (w : World) (L B : Nat) (v : Value) (xs : List GStation) : Prop := OwnK encStation 8 w L B v xs
def sz1Station (s : GStation) : Nat := 0 + s.pName.size
def szsStation (xs : List GStation) : Nat := (xs.map fun s => 1 + sz1Station s).sum
theorem szsStation_len (xs : List GStation) : xs.length ≤ szsStation xs := by
  unfold szsStation
  induction xs with
  | nil => simp
  | cons a l ih => simp only [List.map_cons, List.sum_cons, List.length_cons]; omega
theorem szsStation_mem {xs : List GStation} {s : GStation} (h : s ∈ xs) : sz1Station s ≤ szsStation xs := by
  unfold szsStation
  induction xs with
  | nil => simp at h
  | cons a l ih =>
    simp only [List.map_cons, List.sum_cons]
    rcases List.mem_cons.1 h with rfl | h
    · omega
    · have := ih h; omega
def szpStation (xs : List GStation) (k : Nat) : Nat := ((xs.take k).map sz1Station).sum
theorem szpStation_zero (xs : List GStation) : szpStation xs 0 = 0 := by simp [szpStation]
theorem szpStation_succ {xs : List GStation} {k : Nat} {s : GStation} (h : xs[k]? = some s) : szpStation xs (k + 1) = szpStation xs k + sz1Station s := by
  unfold szpStation; rw [take_snoc h, List.map_append, List.sum_append]; simp
theorem szsStation_split (xs : List GStation) : szsStation xs = xs.length + szpStation xs xs.length := by
  unfold szsStation szpStation
  rw [List.take_length]
  induction xs with
  | nil => simp
  | cons a l ih => simp only [List.map_cons, List.sum_cons, List.length_cons, ih]; omega
theorem szpStation_le (xs : List GStation) (k : Nat) : szpStation xs k ≤ szpStation xs xs.length := by
  unfold szpStation
  rw [List.take_length]
  conv => rhs; rw [← List.take_append_drop k xs, List.map_append, List.sum_append]
  omega

/-- One of them by value. -/
def StationV (v : Value) (s : GStation) : Prop := v = .agg #[.int .i64 s.pId, .string s.pName, .int .i64 s.pX, .int .i64 s.pY, .int .i64 s.pGain, .int .i64 s.pLow, .int .i64 s.pHigh, .int .i64 s.pUntil]
def mkStation (k : Int) : GStation := ⟨k, mark (k + 1), k + 1 + 1, k + 1 + 1 + 1, k + 1 + 1 + 1 + 1, k + 1 + 1 + 1 + 1 + 1, k + 1 + 1 + 1 + 1 + 1 + 1, k + 1 + 1 + 1 + 1 + 1 + 1 + 1⟩
def marksStation (k : Int) (n : Nat) : List GStation := (List.range n).map fun (i : Nat) => mkStation (k + 8 * i)
theorem marksStation_get {k : Int} {n i : Nat} (h : i < n) : (marksStation k n)[i]? = some (mkStation (k + 8 * i)) := by simp [marksStation, h]
theorem marksStation_len (k : Int) (n : Nat) : (marksStation k n).length = n := by simp [marksStation]
theorem eq_marksStation {k : Int} {n : Nat} {cs : List GStation} (hl : cs.length = n) (h : ∀ i, i < n → cs[i]? = some (mkStation (k + 8 * i))) : cs = marksStation k n := by
  apply List.ext_getElem?
  intro i
  by_cases hi : i < n
  · rw [h i hi, marksStation_get hi]
  · rw [List.getElem?_eq_none (by omega), List.getElem?_eq_none (by rw [marksStation_len]; omega)]
theorem oneStation (xs : List GStation) : ∀ u ∈ xs.flatMap encStation, u.oneCell' = true := by
  intro u hu
  obtain ⟨x, _, hx⟩ := List.mem_flatMap.1 hu
  simp only [encStation, List.mem_cons, List.not_mem_nil, or_false] at hx
  rcases hx with rfl | rfl | rfl | rfl | rfl | rfl | rfl | rfl <;> rfl
def wfStation (s : GStation) : Prop := I64 s.pId ∧ (s.pName.size : Int) ≤ 9223372036854775807 ∧ I64 s.pX ∧ I64 s.pY ∧ I64 s.pGain ∧ I64 s.pLow ∧ I64 s.pHigh ∧ I64 s.pUntil
/-- One of them, by value. -/
def StationVL (_ : World) (_ : Nat) (v : Value) (s : GStation) : Prop := v = .agg #[.int .i64 s.pId, .string s.pName, .int .i64 s.pX, .int .i64 s.pY, .int .i64 s.pGain, .int .i64 s.pLow, .int .i64 s.pHigh, .int .i64 s.pUntil]
def StationVO (_ : World) (_ _ : Nat) (v : Value) (s : GStation) : Prop := v = .agg #[.int .i64 s.pId, .string s.pName, .int .i64 s.pX, .int .i64 s.pY, .int .i64 s.pGain, .int .i64 s.pLow, .int .i64 s.pHigh, .int .i64 s.pUntil]
theorem StationVO.lst {w : World} {L B : Nat} {v : Value} {s : GStation} (h : StationVO w L B v s) : StationVL w B v s := h
theorem StationVL.below {w w' : World} {B : Nat} {v : Value} {s : GStation} (h : StationVL w B v s) (_ : Below B w w') : StationVL w' B v s := h
theorem StationVL.mono {w : World} {B B' : Nat} {v : Value} {s : GStation} (h : StationVL w B v s) (_ : B ≤ B') : StationVL w B' v s := h
theorem StationVO.below {w w' : World} {L B : Nat} {v : Value} {s : GStation} (h : StationVO w L B v s) (_ : Below B w w') : StationVO w' L B v s := h
theorem StationVO.mono {w : World} {L B L' B' : Nat} {v : Value} {s : GStation} (h : StationVO w L B v s) (_ : L' ≤ L) (_ : B ≤ B') : StationVO w L' B' v s := h
theorem StationVO.high {w w' : World} {L B L' U' : Nat} {v : Value} {s : GStation} (h : StationVO w L B v s) (_ : Upd L' U' w w') (_ : U' ≤ L) : StationVO w' L B v s := h
theorem StationVL.form {w : World} {B : Nat} {v : Value} {s : GStation} (h : StationVL w B v s) : v = .agg #[.int .i64 s.pId, .string s.pName, .int .i64 s.pX, .int .i64 s.pY, .int .i64 s.pGain, .int .i64 s.pLow, .int .i64 s.pHigh, .int .i64 s.pUntil] := h
theorem StationVO.form {w : World} {L B : Nat} {v : Value} {s : GStation} (h : StationVO w L B v s) : v = .agg #[.int .i64 s.pId, .string s.pName, .int .i64 s.pX, .int .i64 s.pY, .int .i64 s.pGain, .int .i64 s.pLow, .int .i64 s.pHigh, .int .i64 s.pUntil] := h
end Go.Proofs.Ytklilfbokpljkac
