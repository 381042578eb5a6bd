/- The specification's reading of a tick: contract. -/
import Derived.Test.YtedngmnjpkhbiaaDoorPtR
namespace Go.Proofs.YtedngmnjpkhbiaaDoor
open Go.ChangeShapes Go.WideShapes Go.ChangeAt Go.RowKit Go.ChangeMaps
set_option linter.unusedSimpArgs false
set_option linter.unusedVariables false

def rd2 (s : ByteArray) : Int := if decide (1 ≤ s.size ∧ s.size ≤ 7) && digs s.data.toList then val s.data.toList else -1
theorem rd2_yes {s : ByteArray} (h : 1 ≤ s.size ∧ s.size ≤ 7) (g : digs s.data.toList = true) : rd2 s = val s.data.toList := by
  unfold rd2; rw [decide_eq_true h, g]; rfl
theorem rd2_no {s : ByteArray} (h : ¬ (1 ≤ s.size ∧ s.size ≤ 7) ∨ digs s.data.toList = false) : rd2 s = -1 := by
  unfold rd2
  rcases h with h | h
  · rw [decide_eq_false h]; rfl
  · rw [h]; simp
theorem val7 {l : List UInt8} (h : l.length ≤ 7) (hd : digs l = true) : val l ≤ 9999999 := by
  have h1 := val_lt _ l rfl hd
  have h2 : (10 : Nat) ^ l.length ≤ 10 ^ 7 := Nat.pow_le_pow_right (by omega) h
  have h3 : (10 : Nat) ^ 7 = 10000000 := by decide
  omega

set_option maxHeartbeats 1000000 in
theorem l2Read_any (s : ByteArray) (w : World) (hs : s.size ≤ 1048576) :
    Calls Tryd.prog 38 #[.string s] w fun e w' => e = .returned (.int .i64 (rd2 s)) ∧ w = w' := by
  go_enter Tryd.func38, Tryd.ntmps38
  go_wp2
  go_loop [3, 4] (fun n i => ∃ k : Nat, k ≤ s.size ∧ k ≤ 7 ∧ i = .int .i64 k ∧ n = .int .i64 (val (s.data.toList.take k)) ∧ digs (s.data.toList.take k) = true) (fun _ i => s.size - (intOf i).toNat)
  case atStart => exact ⟨0, Nat.zero_le _, by omega, rfl, rfl, rfl⟩
  case round =>
    obtain ⟨k, hk, hk7, rfl, rfl, hdk⟩ := hrel
    have hv := val7 (l := s.data.toList.take k) (by rw [List.length_take]; omega) hdk
    have hv2 : (val (s.data.toList.take k) : Int) ≤ 9999999 := by omega
    have HK := Lib.hid hdk
    clear hdk hv
    by_cases hlt : k < s.size
    · have HB := Lib.hid (byteAt s k hlt)
      by_cases hdig : isDig s[k] = true
      · have hr : 48 ≤ s[k].toNat ∧ s[k].toNat ≤ 57 := of_decide_eq_true hdig
        have d1 : decide ((s[k].toNat : Int) < 48) = false := by simp; omega
        have d2 : decide (57 < (s[k].toNat : Int)) = false := by simp; omega
        have hr1 : (48 : Int) ≤ (s[k].toNat : Int) := by omega
        have hr2 : (s[k].toNat : Int) ≤ 57 := by omega
        by_cases h6 : (6 : Int) < (k : Int)
        · have HR := Lib.hid (rd2_no (s := s) (Or.inl (by omega)))
          clear hr hdig
          go_wp2
          go_ret
          exact ⟨ret_int HR.out.symm, rfl⟩
        · have HN := Lib.hid (show (val (s.data.toList.take (k + 1)) : Int) = 10 * val (s.data.toList.take k) + ((s[k].toNat : Int) - 48) by rw [take_snoc HB.out, val_snoc]; omega)
          have HG := Lib.hid (show digs (s.data.toList.take (k + 1)) = true by rw [take_snoc HB.out, digs_snoc, HK.out, hdig]; rfl)
          clear hr hdig
          go_wp2
          go_round
          case rel => exact ⟨k + 1, by omega, by omega, by go_num, by rw [HN.out], HG.out⟩
          case measure => simp [intOf]; omega
      · have HR := Lib.hid (rd2_no (s := s) (Or.inr (by
          unfold digs
          rw [List.all_eq_false]
          exact ⟨s[k], List.mem_of_getElem? HB.out, hdig⟩)))
        by_cases h48 : (s[k].toNat : Int) < 48
        · have d1 : decide ((s[k].toNat : Int) < 48) = true := by simpa using h48
          clear hdig h48
          go_wp2
          go_ret
          exact ⟨ret_int HR.out.symm, rfl⟩
        · have d1 : decide ((s[k].toNat : Int) < 48) = false := by simpa using h48
          have d2 : decide (57 < (s[k].toNat : Int)) = true := by
            simp only [isDig, decide_eq_true_eq] at hdig
            simp; omega
          clear hdig h48
          go_wp2
          go_ret
          exact ⟨ret_int HR.out.symm, rfl⟩
    · have hdt := HK.out
      have HA := Lib.hid (take_all (l := s.data.toList) (k := k) (by rw [Array.length_toList]; exact hlt))
      rw [HA.out] at hdt hv2
      rw [HA.out]
      by_cases h0 : s.size = 0
      · have HR := Lib.hid (rd2_no (s := s) (Or.inl (by omega)))
        have i0 : (s.size : Int) = 0 := by omega
        clear hdt
        go_wp2
        go_ret
        exact ⟨ret_int HR.out.symm, rfl⟩
      · have HR := Lib.hid (rd2_yes (s := s) (by omega) hdt)
        have i0 : ¬ (s.size : Int) = 0 := by omega
        clear hdt
        go_wp2
        go_ret
        exact ⟨ret_int HR.out.symm, rfl⟩
end Go.Proofs.YtedngmnjpkhbiaaDoor
