/- Does a text hold a byte: contracts. -/
import Derived.Test.YtkjiejobiihipaaDoorBase
namespace Go.Proofs.YtkjiejobiihipaaDoor
open Go.ChangeShapes Go.WideShapes Go.ChangeAt Go.RowKit Go.ChangeMaps

theorem byteAt (s : ByteArray) (k : Nat) (h : k < s.size) : s.data.toList[k]? = some s[k] := by
  rw [List.getElem?_eq_getElem (by simpa using h)]; rfl
theorem u8_inj {a b : UInt8} (h : (a.toNat : Int) = b.toNat) : a = b := UInt8.toNat_inj.1 (by omega)

/-- Does a text hold a byte? -/
def has (s : ByteArray) (c : UInt8) : Bool := decide (c ∈ s.data.toList)
theorem has_yes {s : ByteArray} {c : UInt8} (h : c ∈ s.data.toList) : has s c = true := by simp [has] at *; exact h
theorem has_no {s : ByteArray} {c : UInt8} (h : c ∉ s.data.toList) : has s c = false := by simp [has] at *; exact h

theorem l1Stands_any (s : ByteArray) (c : UInt8) (w : World) (hs : s.size ≤ maxLen) :
    Calls Tryd.prog 33 #[.string s, .int .u8 c.toNat] w fun e w' => e = .returned (.bool (has s c)) ∧ w = w' := by
  unfold maxLen at hs
  go_enter Tryd.func33, Tryd.ntmps33
  go_wp2
  go_loop [5] (fun i => ∃ k : Nat, k ≤ s.size ∧ i = .int .i64 k ∧ c ∉ s.data.toList.take k) (fun i => s.size - (intOf i).toNat)
  case atStart => exact ⟨0, Nat.zero_le _, rfl, by simp⟩
  case round =>
    obtain ⟨k, hk, rfl, hn⟩ := hrel
    have HN := Lib.hid hn
    clear hn
    by_cases hlt : k < s.size
    · have hb := byteAt s k hlt
      have HB := Lib.hid hb
      clear hb
      by_cases he : (s[k].toNat : Int) = c.toNat
      · have he1 : ((s[k].toNat : Int) == c.toNat) = true := by simpa using he
        have HE := Lib.hid (u8_inj he)
        clear he
        go_wp2
        go_ret
        refine ⟨ret_bool ?_, rfl⟩
        rw [has_yes]
        rw [← HE.out]
        exact List.mem_of_getElem? HB.out
      · have he1 : ((s[k].toNat : Int) == c.toNat) = false := by simpa using he
        have HE := Lib.hid (show s[k] ≠ c from fun e => he (by rw [e]))
        clear he
        go_wp2
        go_round
        case rel =>
          refine ⟨k + 1, by omega, by go_num, ?_⟩
          rw [take_snoc HB.out]
          intro h
          rcases List.mem_append.1 h with h | h
          · exact HN.out h
          · exact HE.out (List.mem_singleton.1 h).symm
        case measure => simp [intOf]; omega
    · go_wp2
      go_ret
      refine ⟨ret_bool ?_, rfl⟩
      rw [has_no]
      have := HN.out
      rwa [take_all (l := s.data.toList) (k := k) (by simpa using hlt)] at this

theorem standsYes (s : ByteArray) (c : UInt8) (w : World) (hs : s.size ≤ maxLen) (h : Hid (has s c = true)) :
    Calls Tryd.prog 33 #[.string s, .int .u8 c.toNat] w fun e w' => e = .returned (.bool true) ∧ w' = w :=
  (l1Stands_any s c w hs).mono fun e w' ⟨he, hw⟩ => ⟨by rw [he, h.out], hw.symm⟩
theorem standsNo (s : ByteArray) (c : UInt8) (w : World) (hs : s.size ≤ maxLen) (h : Hid (has s c = false)) :
    Calls Tryd.prog 33 #[.string s, .int .u8 c.toNat] w fun e w' => e = .returned (.bool false) ∧ w' = w :=
  (l1Stands_any s c w hs).mono fun e w' ⟨he, hw⟩ => ⟨by rw [he, h.out], hw.symm⟩
end Go.Proofs.YtkjiejobiihipaaDoor
