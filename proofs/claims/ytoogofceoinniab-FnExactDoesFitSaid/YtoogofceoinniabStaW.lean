/- Words, places, numbers within bounds: both programs ask the same. -/
import Derived.Test.YtoogofceoinniabFlat
import Derived.Handy
namespace Go.Proofs.Ytoogofceoinniab
open Go.ChangeShapes Go.WideShapes Go.ChangeAt Go.RowKit Go.ChangeMaps
set_option linter.unusedSimpArgs false
set_option linter.unusedVariables false

def inB (x a b : Int) : Bool := decide (a ≤ x ∧ x ≤ b)
theorem inB_yes {x a b : Int} (h : a ≤ x ∧ x ≤ b) : inB x a b = true := decide_eq_true h
theorem inB_no {x a b : Int} (h : ¬ (a ≤ x ∧ x ≤ b)) : inB x a b = false := decide_eq_false h
def lowB (c : UInt8) : Prop := 97 ≤ (c.toNat : Int) ∧ (c.toNat : Int) ≤ 122
instance (c : UInt8) : Decidable (lowB c) := by unfold lowB; infer_instance
def okW (l : List UInt8) : Bool := l.all fun c => decide (lowB c)
def goodW (s : ByteArray) : Bool := decide (1 ≤ s.size ∧ s.size ≤ 10) && okW s.data.toList
theorem okW_snoc {s : ByteArray} {k : Nat} (h : k < s.size) (g : okW (s.data.toList.take k) = true) (hc : lowB s[k]) : okW (s.data.toList.take (k + 1)) = true := by
  have e : s.data.toList[k]? = some s[k] := by
    have : s.data.toList[k]? = some (s.data.toList[k]'(by simpa using h)) := List.getElem?_eq_getElem _
    rw [this]; rfl
  rw [take_snoc e]
  unfold okW at *
  rw [List.all_append, g]
  simp [hc]
theorem okW_bad {s : ByteArray} {k : Nat} (h : k < s.size) (hc : ¬ lowB s[k]) : okW s.data.toList = false := by
  unfold okW
  rw [List.all_eq_false]
  exact ⟨s[k], List.mem_iff_getElem.2 ⟨k, by simpa using h, rfl⟩, by simpa using hc⟩
theorem okW_all {s : ByteArray} {k : Nat} (h : ¬ k < s.size) (g : okW (s.data.toList.take k) = true) : okW s.data.toList = true := by
  rwa [List.take_of_length_le (by rw [show s.data.toList.length = s.size from by simp]; omega)] at g

theorem implRange_close {a b : Bool} (h : a = b) : b = a := h.symm
theorem specIn (x a b : Int) (v : Bool) (w : World) (hv : inB x a b = v) :
    Calls Try.prog 80 #[.int .i64 x, .int .i64 a, .int .i64 b] w fun e w' => e = .returned (.bool v) ∧ w = w' := by
  subst hv
  by_cases h1 : a ≤ x
  case neg =>
    have H := Lib.hid (inB_no (x := x) (a := a) (b := b) (fun h => h1 h.1))
    go_enter Try.func80, Try.ntmps80
    go_wp2
    go_ret
    exact ⟨ret_bool H.out.symm, rfl⟩
  by_cases h2 : x ≤ b
  case neg =>
    have H := Lib.hid (inB_no (x := x) (a := a) (b := b) (fun h => h2 h.2))
    go_enter Try.func80, Try.ntmps80
    go_wp2
    go_ret
    exact ⟨ret_bool H.out.symm, rfl⟩
  have H := Lib.hid (inB_yes ⟨h1, h2⟩)
  go_enter Try.func80, Try.ntmps80
  go_wp2
  go_ret
  exact ⟨ret_bool H.out.symm, rfl⟩
theorem implTick (x : Int) (v : Bool) (w : World) (hv : inB x 0 1000000 = v) :
    Calls Try.prog 91 #[.int .i64 x] w fun e w' => e = .returned (.bool v) ∧ w = w' := by
  subst hv
  by_cases h1 : 0 ≤ x
  case neg =>
    have H := Lib.hid (inB_no (x := x) (a := 0) (b := 1000000) (fun h => h1 h.1))
    go_enter Try.func91, Try.ntmps91
    go_wp2
    go_ret
    exact ⟨ret_bool H.out.symm, rfl⟩
  by_cases h2 : x ≤ 1000000
  case neg =>
    have H := Lib.hid (inB_no (x := x) (a := 0) (b := 1000000) (fun h => h2 h.2))
    go_enter Try.func91, Try.ntmps91
    go_wp2
    go_ret
    exact ⟨ret_bool H.out.symm, rfl⟩
  have H := Lib.hid (inB_yes ⟨h1, h2⟩)
  go_enter Try.func91, Try.ntmps91
  go_wp2
  go_ret
  exact ⟨ret_bool H.out.symm, rfl⟩
theorem specTick (x : Int) (v : Bool) (w : World) (hv : inB x 0 1000000 = v) :
    Calls Try.prog 89 #[.int .i64 x] w fun e w' => e = .returned (.bool v) ∧ w = w' := by
  have HV := Lib.hid hv
  clear hv
  go_enter Try.func89, Try.ntmps89
  go_wp2_with fail
  refine (specIn _ _ _ v _ HV.out).mono ?_
  rintro e w' ⟨rfl, rfl⟩
  go_wp2
  go_ret
  exact ⟨rfl, rfl⟩
def plcB (x y : Int) : Bool := inB x 0 999 && inB y 0 999
theorem specPlace (x y : Int) (v : Bool) (w : World) (hv : plcB x y = v) :
    Calls Try.prog 66 #[.int .i64 x, .int .i64 y] w fun e w' => e = .returned (.bool v) ∧ w = w' := by
  subst hv
  unfold plcB
  cases h1 : inB x 0 999
  · have H := Lib.hid h1
    clear h1
    go_enter Try.func66, Try.ntmps66
    go_wp2_with fail
    refine (specIn _ _ _ false _ H.out).mono ?_
    rintro e w' ⟨rfl, rfl⟩
    go_wp2
    go_ret
    exact ⟨rfl, rfl⟩
  · have H := Lib.hid h1
    clear h1
    generalize h2 : inB y 0 999 = q
    have H2 := Lib.hid h2
    clear h2
    go_enter Try.func66, Try.ntmps66
    go_wp2_with fail
    refine (specIn _ _ _ true _ H.out).mono ?_
    rintro e w' ⟨rfl, rfl⟩
    go_wp2_with fail
    refine (specIn _ _ _ q _ H2.out).mono ?_
    rintro e w' ⟨rfl, rfl⟩
    go_wp2
    go_ret
    exact ⟨rfl, rfl⟩
theorem implPlace (x y : Int) (v : Bool) (w : World) (hv : plcB x y = v) :
    Calls Try.prog 68 #[.int .i64 x, .int .i64 y] w fun e w' => e = .returned (.bool v) ∧ w = w' := by
  subst hv
  by_cases h : (0 ≤ x ∧ x ≤ 999) ∧ (0 ≤ y ∧ y ≤ 999)
  · have H : Hid (plcB x y = true) := Lib.hid (by unfold plcB; rw [inB_yes h.1, inB_yes h.2]; rfl)
    obtain ⟨⟨h1, h2⟩, h3, h4⟩ := h
    go_enter Try.func68, Try.ntmps68
    go_wp2
    go_ret
    exact ⟨ret_bool H.out.symm, rfl⟩
  · have H : Hid (plcB x y = false) := Lib.hid (by
      unfold plcB
      by_cases h1 : 0 ≤ x ∧ x ≤ 999
      · rw [inB_no (fun g => h ⟨h1, g⟩), Bool.and_false]
      · rw [inB_no h1]; rfl)
    by_cases h1 : 0 ≤ x
    case neg => go_enter Try.func68, Try.ntmps68; go_wp2; go_ret; exact ⟨ret_bool H.out.symm, rfl⟩
    by_cases h2 : x ≤ 999
    case neg => go_enter Try.func68, Try.ntmps68; go_wp2; go_ret; exact ⟨ret_bool H.out.symm, rfl⟩
    by_cases h3 : 0 ≤ y
    case neg => go_enter Try.func68, Try.ntmps68; go_wp2; go_ret; exact ⟨ret_bool H.out.symm, rfl⟩
    have h4 : ¬ y ≤ 999 := fun g => h ⟨⟨h1, h2⟩, h3, g⟩
    go_enter Try.func68, Try.ntmps68
    go_wp2
    go_ret
    exact ⟨ret_bool H.out.symm, rfl⟩
end Go.Proofs.Ytoogofceoinniab
