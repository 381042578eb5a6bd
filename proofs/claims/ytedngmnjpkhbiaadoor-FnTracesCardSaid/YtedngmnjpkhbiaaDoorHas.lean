/- Does a text hold a byte: contracts. -/
import Derived.Test.YtedngmnjpkhbiaaDoorBase
namespace Go.Proofs.YtedngmnjpkhbiaaDoor
open Go.ChangeShapes Go.WideShapes Go.ChangeAt Go.RowKit Go.ChangeMaps
set_option linter.unusedSimpArgs false
set_option linter.unusedVariables false

theorem byteAt (s : ByteArray) (k : Nat) (h : k < s.size) : s.data.toList[k]? = some s[k] := by
  rw [List.getElem?_eq_getElem (by simpa using h)]; rfl
theorem u8_inj {a b : UInt8} (h : (a.toNat : Int) = b.toNat) : a = b := UInt8.toNat_inj.1 (by omega)

/-- Does a text hold a byte? -/
def has (s : ByteArray) (c : UInt8) : Bool := decide (c ∈ s.data.toList)
theorem has_yes {s : ByteArray} {c : UInt8} (h : c ∈ s.data.toList) : has s c = true := by simp [has] at *; exact h
theorem has_no {s : ByteArray} {c : UInt8} (h : c ∉ s.data.toList) : has s c = false := by simp [has] at *; exact h

end Go.Proofs.YtedngmnjpkhbiaaDoor
