/- The specification's reading of numerals (Read's, without Fmt). -/
import Derived.Test.YtedngmnjpkhbiaaDoorPtM
namespace Go.Proofs.YtedngmnjpkhbiaaDoor
open Go.ChangeShapes Go.WideShapes Go.ChangeAt Go.RowKit Go.ChangeMaps
set_option linter.unusedSimpArgs false
set_option linter.unusedVariables false

theorem l1In_any (x a b : Int) (r : Bool) (hr : r = decide (a ≤ x ∧ x ≤ b)) (w : World) :
    Calls Tryd.prog 49 #[.int .i64 x, .int .i64 a, .int .i64 b] w fun e w' => e = .returned (.bool r) ∧ w = w' := by
  by_cases h1 : a ≤ x
  · by_cases h2 : x ≤ b
    · have hr1 : r = true := by rw [hr]; simp [h1, h2]
      subst hr1
      clear hr
      have d1 : decide (a ≤ x) = true := by simpa using h1
      have d2 : decide (x ≤ b) = true := by simpa using h2
      go_enter Tryd.func49, Tryd.ntmps49
      go_wp2
      go_ret
      exact ⟨rfl, rfl⟩
    · have hr1 : r = false := by rw [hr]; simp [h2]
      subst hr1
      clear hr
      go_enter Tryd.func49, Tryd.ntmps49
      go_wp2
      go_ret
      exact ⟨rfl, rfl⟩
  · have hr1 : r = false := by rw [hr]; simp [h1]
    subst hr1
    clear hr
    go_enter Tryd.func49, Tryd.ntmps49
    go_wp2
    go_ret
    exact ⟨rfl, rfl⟩

set_option maxHeartbeats 1000000 in
theorem l1Read_neg (s t : ByteArray) (w : World) (hs : s.size ≤ 1048576) (h : 1 < s.size ∧ s.data.toList[0]? = some 45) (HT : Hid (tl s = t)) :
    Calls Tryd.prog 37 #[.string s] w fun e w' => e = .returned (.tuple #[.int .i64 (resP s), .bool (okP s)]) ∧ ∃ m, w' = w.drewN m := by
  have hs1 : (1 : Int) < (s.size : Int) := by omega
  have hs2 : 1 ≤ s.size := by omega
  have hs0 : 0 < s.size := by omega
  have he : s.extract 1 s.size = t := by have := HT.out; unfold tl at this; rw [if_pos h] at this; exact this
  have htz : t.size = s.size - 1 := by rw [← he, ByteArray.size_extract]; omega
  have hlt0 : (t.size : Int) < (s.size : Int) := by omega
  have hb := h.2
  rw [byteAt s 0 hs0] at hb
  have hc : ((s[0].toNat : Int) == 45) = true := by rw [Option.some.inj hb]; rfl
  have HV := Lib.hid (show readV s = -(val t.data.toList : Int) by unfold readV; rw [HT.out, if_pos (by omega)])
  clear h hb htz
  by_cases h6 : 1 ≤ t.size ∧ t.size ≤ 6
  · have hd6 : true = decide ((1 : Int) ≤ (t.size : Int) ∧ (t.size : Int) ≤ 6) := (decide_eq_true (by omega)).symm
    have HD6 := Lib.hid hd6
    have hz1 : 1 ≤ t.size := h6.1
    have hz6 : t.size ≤ 6 := h6.2
    have H6 := Lib.hid h6
    clear hd6 h6
    go_enter Tryd.func37, Tryd.ntmps37
    go_wp2_with (go_at_call 49; refine (l1In_any _ _ _ true HD6.out _).mono ?_; rintro e w' ⟨rfl, rfl⟩)
    go_loop [5, 6] (fun n i => ∃ k : Nat, k ≤ t.size ∧ i = .int .i64 k ∧ n = .int .i64 (val (t.data.toList.take k)) ∧ digs (t.data.toList.take k) = true) (fun _ i => t.size - (intOf i).toNat)
    case atStart => exact ⟨0, Nat.zero_le _, rfl, rfl, rfl⟩
    case round =>
      obtain ⟨k, hk, rfl, rfl, hdk⟩ := hrel
      have hv := val6 (l := t.data.toList.take k) (by rw [List.length_take]; omega) hdk
      have hv2 : (val (t.data.toList.take k) : Int) ≤ 999999 := by omega
      have HK := Lib.hid hdk
      clear hdk hv
      by_cases hlt : k < t.size
      · have HB := Lib.hid (byteAt t k hlt)
        by_cases hdig : isDig t[k] = true
        · have hr : 48 ≤ t[k].toNat ∧ t[k].toNat ≤ 57 := of_decide_eq_true hdig
          have d1 : decide ((t[k].toNat : Int) < 48) = false := by simp; omega
          have d2 : decide (57 < (t[k].toNat : Int)) = false := by simp; omega
          have hr1 : (48 : Int) ≤ (t[k].toNat : Int) := by omega
          have hr2 : (t[k].toNat : Int) ≤ 57 := by omega
          have HN := Lib.hid (show (val (t.data.toList.take (k + 1)) : Int) = 10 * val (t.data.toList.take k) + ((t[k].toNat : Int) - 48) by rw [take_snoc HB.out, val_snoc]; omega)
          have HG := Lib.hid (show digs (t.data.toList.take (k + 1)) = true by rw [take_snoc HB.out, digs_snoc, HK.out, hdig]; rfl)
          clear hr hdig
          go_wp2
          go_round
          case rel => exact ⟨k + 1, by omega, by go_num, by rw [HN.out], HG.out⟩
          case measure => simp [intOf]; omega
        · have HR := Lib.hid (okP_no (s := s) (Or.inr (Or.inl (by
            rw [HT.out]
            unfold digs
            rw [List.all_eq_false]
            exact ⟨t[k], List.mem_of_getElem? HB.out, hdig⟩))))
          by_cases h48 : (t[k].toNat : Int) < 48
          · have d1 : decide ((t[k].toNat : Int) < 48) = true := by simpa using h48
            clear hdig h48
            go_wp2
            go_ret2
            exact ⟨ret2P HR.out.1.symm HR.out.2.symm, 0, rfl⟩
          · have d1 : decide ((t[k].toNat : Int) < 48) = false := by simpa using h48
            have d2 : decide (57 < (t[k].toNat : Int)) = true := by
              simp only [isDig, decide_eq_true_eq] at hdig
              simp; omega
            clear hdig h48
            go_wp2
            go_ret2
            exact ⟨ret2P HR.out.1.symm HR.out.2.symm, 0, rfl⟩
      · have hdt := HK.out
        have HA := Lib.hid (take_all (l := t.data.toList) (k := k) (by rw [Array.length_toList]; exact hlt))
        rw [HA.out] at hdt hv2
        rw [HA.out]
        have hi1 : -1000000000 ≤ -(val t.data.toList : Int) := by omega
        have hi2 : -(val t.data.toList : Int) ≤ 1000000000 := by omega
        have HI1 := Lib.hid hi1
        have HI2 := Lib.hid hi2
        by_cases hn : numB (readV s) = s
        · have HR := Lib.hid (okP_yes (s := s) (by rw [HT.out]; exact H6.out) (by rw [HT.out]; exact hdt) hn)
          rw [HV.out] at hn
          have HN := Lib.hid hn
          have HR1 := Lib.hid (HR.out.1.trans HV.out)
          clear hn hdt hi1 hi2
          go_wp2_with (go_at_call 53; refine (l1Num_any _ HI1.out HI2.out _).mono ?_; rintro e w' ⟨rfl, m, rfl⟩; rw [HN.out])
          go_ret2
          exact ⟨ret2P HR1.out.symm HR.out.2.symm, _, rfl⟩
        · have HR := Lib.hid (okP_no (s := s) (Or.inr (Or.inr hn)))
          rw [HV.out] at hn
          have hne := str_ne hn
          clear hn hdt hi1 hi2
          go_wp2_with (go_at_call 53; refine (l1Num_any _ HI1.out HI2.out _).mono ?_; rintro e w' ⟨rfl, m, rfl⟩)
          go_ret2
          exact ⟨ret2P HR.out.1.symm HR.out.2.symm, _, rfl⟩
  · have HR := Lib.hid (okP_no (s := s) (Or.inl (by rw [HT.out]; exact h6)))
    have HD6 := Lib.hid (show false = decide ((1 : Int) ≤ (t.size : Int) ∧ (t.size : Int) ≤ 6) from (decide_eq_false (by omega)).symm)
    clear h6
    go_enter Tryd.func37, Tryd.ntmps37
    go_wp2_with (go_at_call 49; refine (l1In_any _ _ _ false HD6.out _).mono ?_; rintro e w' ⟨rfl, rfl⟩)
    go_ret2
    exact ⟨ret2P HR.out.1.symm HR.out.2.symm, 0, rfl⟩

set_option maxHeartbeats 1000000 in
theorem l1Read_pos (s t : ByteArray) (w : World) (hs : s.size ≤ 1048576) (h : ¬ (1 < s.size ∧ s.data.toList[0]? = some 45)) (HT : Hid (tl s = t)) (hcase : Hid (¬ 1 < s.size ∨ ∃ c : UInt8, s.data.toList[0]? = some c ∧ c ≠ 45)) :
    Calls Tryd.prog 37 #[.string s] w fun e w' => e = .returned (.tuple #[.int .i64 (resP s), .bool (okP s)]) ∧ ∃ m, w' = w.drewN m := by
  obtain rfl : t = s := by have := HT.out; unfold tl at this; rw [if_neg h] at this; exact this.symm
  have HV := Lib.hid (show readV t = (val t.data.toList : Int) by unfold readV; rw [HT.out, if_neg (by omega)])
  clear h
  rcases hcase.out with hsm | ⟨c, hc0, hc45⟩
  · have hsm1 : ¬ (1 : Int) < (t.size : Int) := by omega
    clear hcase hsm
    by_cases h6 : 1 ≤ t.size ∧ t.size ≤ 6
    · have hd6 : true = decide ((1 : Int) ≤ (t.size : Int) ∧ (t.size : Int) ≤ 6) := (decide_eq_true (by omega)).symm
      have HD6 := Lib.hid hd6
      have hz1 : 1 ≤ t.size := h6.1
      have hz6 : t.size ≤ 6 := h6.2
      have H6 := Lib.hid h6
      clear hd6 h6
      go_enter Tryd.func37, Tryd.ntmps37
      go_wp2_with (go_at_call 49; refine (l1In_any _ _ _ true HD6.out _).mono ?_; rintro e w' ⟨rfl, rfl⟩)
      go_loop [5, 6] (fun n i => ∃ k : Nat, k ≤ t.size ∧ i = .int .i64 k ∧ n = .int .i64 (val (t.data.toList.take k)) ∧ digs (t.data.toList.take k) = true) (fun _ i => t.size - (intOf i).toNat)
      case atStart => exact ⟨0, Nat.zero_le _, rfl, rfl, rfl⟩
      case round =>
        obtain ⟨k, hk, rfl, rfl, hdk⟩ := hrel
        have hv := val6 (l := t.data.toList.take k) (by rw [List.length_take]; omega) hdk
        have hv2 : (val (t.data.toList.take k) : Int) ≤ 999999 := by omega
        have HK := Lib.hid hdk
        clear hdk hv
        by_cases hlt : k < t.size
        · have HB := Lib.hid (byteAt t k hlt)
          by_cases hdig : isDig t[k] = true
          · have hr : 48 ≤ t[k].toNat ∧ t[k].toNat ≤ 57 := of_decide_eq_true hdig
            have d1 : decide ((t[k].toNat : Int) < 48) = false := by simp; omega
            have d2 : decide (57 < (t[k].toNat : Int)) = false := by simp; omega
            have hr1 : (48 : Int) ≤ (t[k].toNat : Int) := by omega
            have hr2 : (t[k].toNat : Int) ≤ 57 := by omega
            have HN := Lib.hid (show (val (t.data.toList.take (k + 1)) : Int) = 10 * val (t.data.toList.take k) + ((t[k].toNat : Int) - 48) by rw [take_snoc HB.out, val_snoc]; omega)
            have HG := Lib.hid (show digs (t.data.toList.take (k + 1)) = true by rw [take_snoc HB.out, digs_snoc, HK.out, hdig]; rfl)
            clear hr hdig
            go_wp2
            go_round
            case rel => exact ⟨k + 1, by omega, by go_num, by rw [HN.out], HG.out⟩
            case measure => simp [intOf]; omega
          · have HR := Lib.hid (okP_no (s := t) (Or.inr (Or.inl (by
              rw [HT.out]
              unfold digs
              rw [List.all_eq_false]
              exact ⟨t[k], List.mem_of_getElem? HB.out, hdig⟩))))
            by_cases h48 : (t[k].toNat : Int) < 48
            · have d1 : decide ((t[k].toNat : Int) < 48) = true := by simpa using h48
              clear hdig h48
              go_wp2
              go_ret2
              exact ⟨ret2P HR.out.1.symm HR.out.2.symm, 0, rfl⟩
            · have d1 : decide ((t[k].toNat : Int) < 48) = false := by simpa using h48
              have d2 : decide (57 < (t[k].toNat : Int)) = true := by
                simp only [isDig, decide_eq_true_eq] at hdig
                simp; omega
              clear hdig h48
              go_wp2
              go_ret2
              exact ⟨ret2P HR.out.1.symm HR.out.2.symm, 0, rfl⟩
        · have hdt := HK.out
          have HA := Lib.hid (take_all (l := t.data.toList) (k := k) (by rw [Array.length_toList]; exact hlt))
          rw [HA.out] at hdt hv2
          rw [HA.out]
          have hi1 : -1000000000 ≤ (val t.data.toList : Int) := by omega
          have hi2 : (val t.data.toList : Int) ≤ 1000000000 := by omega
          have HI1 := Lib.hid hi1
          have HI2 := Lib.hid hi2
          by_cases hn : numB (readV t) = t
          · have HR := Lib.hid (okP_yes (s := t) (by rw [HT.out]; exact H6.out) (by rw [HT.out]; exact hdt) hn)
            rw [HV.out] at hn
            have HN := Lib.hid hn
            have HR1 := Lib.hid (HR.out.1.trans HV.out)
            clear hn hdt hi1 hi2
            go_wp2_with (go_at_call 53; refine (l1Num_any _ HI1.out HI2.out _).mono ?_; rintro e w' ⟨rfl, m, rfl⟩; rw [HN.out])
            go_ret2
            exact ⟨ret2P HR1.out.symm HR.out.2.symm, _, rfl⟩
          · have HR := Lib.hid (okP_no (s := t) (Or.inr (Or.inr hn)))
            rw [HV.out] at hn
            have hne := str_ne hn
            clear hn hdt hi1 hi2
            go_wp2_with (go_at_call 53; refine (l1Num_any _ HI1.out HI2.out _).mono ?_; rintro e w' ⟨rfl, m, rfl⟩)
            go_ret2
            exact ⟨ret2P HR.out.1.symm HR.out.2.symm, _, rfl⟩
    · have HR := Lib.hid (okP_no (s := t) (Or.inl (by rw [HT.out]; exact h6)))
      have HD6 := Lib.hid (show false = decide ((1 : Int) ≤ (t.size : Int) ∧ (t.size : Int) ≤ 6) from (decide_eq_false (by omega)).symm)
      clear h6
      go_enter Tryd.func37, Tryd.ntmps37
      go_wp2_with (go_at_call 49; refine (l1In_any _ _ _ false HD6.out _).mono ?_; rintro e w' ⟨rfl, rfl⟩)
      go_ret2
      exact ⟨ret2P HR.out.1.symm HR.out.2.symm, 0, rfl⟩
  · by_cases hsm : 1 < t.size
    · have hsm1 : (1 : Int) < (t.size : Int) := by omega
      have hs0 : 0 < t.size := by omega
      rw [byteAt t 0 hs0] at hc0
      have hcc : ((t[0].toNat : Int) == 45) = false := by
        rw [Option.some.inj hc0]
        rw [beq_eq_false_iff_ne]
        intro e
        exact hc45 (UInt8.toNat_inj.1 (by simp; omega))
      clear hcase hc0 hc45
      by_cases h6 : 1 ≤ t.size ∧ t.size ≤ 6
      · have hd6 : true = decide ((1 : Int) ≤ (t.size : Int) ∧ (t.size : Int) ≤ 6) := (decide_eq_true (by omega)).symm
        have HD6 := Lib.hid hd6
        have hz1 : 1 ≤ t.size := h6.1
        have hz6 : t.size ≤ 6 := h6.2
        have H6 := Lib.hid h6
        clear hd6 h6
        go_enter Tryd.func37, Tryd.ntmps37
        go_wp2_with (go_at_call 49; refine (l1In_any _ _ _ true HD6.out _).mono ?_; rintro e w' ⟨rfl, rfl⟩)
        go_loop [5, 6] (fun n i => ∃ k : Nat, k ≤ t.size ∧ i = .int .i64 k ∧ n = .int .i64 (val (t.data.toList.take k)) ∧ digs (t.data.toList.take k) = true) (fun _ i => t.size - (intOf i).toNat)
        case atStart => exact ⟨0, Nat.zero_le _, rfl, rfl, rfl⟩
        case round =>
          obtain ⟨k, hk, rfl, rfl, hdk⟩ := hrel
          have hv := val6 (l := t.data.toList.take k) (by rw [List.length_take]; omega) hdk
          have hv2 : (val (t.data.toList.take k) : Int) ≤ 999999 := by omega
          have HK := Lib.hid hdk
          clear hdk hv
          by_cases hlt : k < t.size
          · have HB := Lib.hid (byteAt t k hlt)
            by_cases hdig : isDig t[k] = true
            · have hr : 48 ≤ t[k].toNat ∧ t[k].toNat ≤ 57 := of_decide_eq_true hdig
              have d1 : decide ((t[k].toNat : Int) < 48) = false := by simp; omega
              have d2 : decide (57 < (t[k].toNat : Int)) = false := by simp; omega
              have hr1 : (48 : Int) ≤ (t[k].toNat : Int) := by omega
              have hr2 : (t[k].toNat : Int) ≤ 57 := by omega
              have HN := Lib.hid (show (val (t.data.toList.take (k + 1)) : Int) = 10 * val (t.data.toList.take k) + ((t[k].toNat : Int) - 48) by rw [take_snoc HB.out, val_snoc]; omega)
              have HG := Lib.hid (show digs (t.data.toList.take (k + 1)) = true by rw [take_snoc HB.out, digs_snoc, HK.out, hdig]; rfl)
              clear hr hdig
              go_wp2
              go_round
              case rel => exact ⟨k + 1, by omega, by go_num, by rw [HN.out], HG.out⟩
              case measure => simp [intOf]; omega
            · have HR := Lib.hid (okP_no (s := t) (Or.inr (Or.inl (by
                rw [HT.out]
                unfold digs
                rw [List.all_eq_false]
                exact ⟨t[k], List.mem_of_getElem? HB.out, hdig⟩))))
              by_cases h48 : (t[k].toNat : Int) < 48
              · have d1 : decide ((t[k].toNat : Int) < 48) = true := by simpa using h48
                clear hdig h48
                go_wp2
                go_ret2
                exact ⟨ret2P HR.out.1.symm HR.out.2.symm, 0, rfl⟩
              · have d1 : decide ((t[k].toNat : Int) < 48) = false := by simpa using h48
                have d2 : decide (57 < (t[k].toNat : Int)) = true := by
                  simp only [isDig, decide_eq_true_eq] at hdig
                  simp; omega
                clear hdig h48
                go_wp2
                go_ret2
                exact ⟨ret2P HR.out.1.symm HR.out.2.symm, 0, rfl⟩
          · have hdt := HK.out
            have HA := Lib.hid (take_all (l := t.data.toList) (k := k) (by rw [Array.length_toList]; exact hlt))
            rw [HA.out] at hdt hv2
            rw [HA.out]
            have hi1 : -1000000000 ≤ (val t.data.toList : Int) := by omega
            have hi2 : (val t.data.toList : Int) ≤ 1000000000 := by omega
            have HI1 := Lib.hid hi1
            have HI2 := Lib.hid hi2
            by_cases hn : numB (readV t) = t
            · have HR := Lib.hid (okP_yes (s := t) (by rw [HT.out]; exact H6.out) (by rw [HT.out]; exact hdt) hn)
              rw [HV.out] at hn
              have HN := Lib.hid hn
              have HR1 := Lib.hid (HR.out.1.trans HV.out)
              clear hn hdt hi1 hi2
              go_wp2_with (go_at_call 53; refine (l1Num_any _ HI1.out HI2.out _).mono ?_; rintro e w' ⟨rfl, m, rfl⟩; rw [HN.out])
              go_ret2
              exact ⟨ret2P HR1.out.symm HR.out.2.symm, _, rfl⟩
            · have HR := Lib.hid (okP_no (s := t) (Or.inr (Or.inr hn)))
              rw [HV.out] at hn
              have hne := str_ne hn
              clear hn hdt hi1 hi2
              go_wp2_with (go_at_call 53; refine (l1Num_any _ HI1.out HI2.out _).mono ?_; rintro e w' ⟨rfl, m, rfl⟩)
              go_ret2
              exact ⟨ret2P HR.out.1.symm HR.out.2.symm, _, rfl⟩
      · have HR := Lib.hid (okP_no (s := t) (Or.inl (by rw [HT.out]; exact h6)))
        have HD6 := Lib.hid (show false = decide ((1 : Int) ≤ (t.size : Int) ∧ (t.size : Int) ≤ 6) from (decide_eq_false (by omega)).symm)
        clear h6
        go_enter Tryd.func37, Tryd.ntmps37
        go_wp2_with (go_at_call 49; refine (l1In_any _ _ _ false HD6.out _).mono ?_; rintro e w' ⟨rfl, rfl⟩)
        go_ret2
        exact ⟨ret2P HR.out.1.symm HR.out.2.symm, 0, rfl⟩
    · have hsm1 : ¬ (1 : Int) < (t.size : Int) := by omega
      clear hcase hsm hc0 hc45
      by_cases h6 : 1 ≤ t.size ∧ t.size ≤ 6
      · have hd6 : true = decide ((1 : Int) ≤ (t.size : Int) ∧ (t.size : Int) ≤ 6) := (decide_eq_true (by omega)).symm
        have HD6 := Lib.hid hd6
        have hz1 : 1 ≤ t.size := h6.1
        have hz6 : t.size ≤ 6 := h6.2
        have H6 := Lib.hid h6
        clear hd6 h6
        go_enter Tryd.func37, Tryd.ntmps37
        go_wp2_with (go_at_call 49; refine (l1In_any _ _ _ true HD6.out _).mono ?_; rintro e w' ⟨rfl, rfl⟩)
        go_loop [5, 6] (fun n i => ∃ k : Nat, k ≤ t.size ∧ i = .int .i64 k ∧ n = .int .i64 (val (t.data.toList.take k)) ∧ digs (t.data.toList.take k) = true) (fun _ i => t.size - (intOf i).toNat)
        case atStart => exact ⟨0, Nat.zero_le _, rfl, rfl, rfl⟩
        case round =>
          obtain ⟨k, hk, rfl, rfl, hdk⟩ := hrel
          have hv := val6 (l := t.data.toList.take k) (by rw [List.length_take]; omega) hdk
          have hv2 : (val (t.data.toList.take k) : Int) ≤ 999999 := by omega
          have HK := Lib.hid hdk
          clear hdk hv
          by_cases hlt : k < t.size
          · have HB := Lib.hid (byteAt t k hlt)
            by_cases hdig : isDig t[k] = true
            · have hr : 48 ≤ t[k].toNat ∧ t[k].toNat ≤ 57 := of_decide_eq_true hdig
              have d1 : decide ((t[k].toNat : Int) < 48) = false := by simp; omega
              have d2 : decide (57 < (t[k].toNat : Int)) = false := by simp; omega
              have hr1 : (48 : Int) ≤ (t[k].toNat : Int) := by omega
              have hr2 : (t[k].toNat : Int) ≤ 57 := by omega
              have HN := Lib.hid (show (val (t.data.toList.take (k + 1)) : Int) = 10 * val (t.data.toList.take k) + ((t[k].toNat : Int) - 48) by rw [take_snoc HB.out, val_snoc]; omega)
              have HG := Lib.hid (show digs (t.data.toList.take (k + 1)) = true by rw [take_snoc HB.out, digs_snoc, HK.out, hdig]; rfl)
              clear hr hdig
              go_wp2
              go_round
              case rel => exact ⟨k + 1, by omega, by go_num, by rw [HN.out], HG.out⟩
              case measure => simp [intOf]; omega
            · have HR := Lib.hid (okP_no (s := t) (Or.inr (Or.inl (by
                rw [HT.out]
                unfold digs
                rw [List.all_eq_false]
                exact ⟨t[k], List.mem_of_getElem? HB.out, hdig⟩))))
              by_cases h48 : (t[k].toNat : Int) < 48
              · have d1 : decide ((t[k].toNat : Int) < 48) = true := by simpa using h48
                clear hdig h48
                go_wp2
                go_ret2
                exact ⟨ret2P HR.out.1.symm HR.out.2.symm, 0, rfl⟩
              · have d1 : decide ((t[k].toNat : Int) < 48) = false := by simpa using h48
                have d2 : decide (57 < (t[k].toNat : Int)) = true := by
                  simp only [isDig, decide_eq_true_eq] at hdig
                  simp; omega
                clear hdig h48
                go_wp2
                go_ret2
                exact ⟨ret2P HR.out.1.symm HR.out.2.symm, 0, rfl⟩
          · have hdt := HK.out
            have HA := Lib.hid (take_all (l := t.data.toList) (k := k) (by rw [Array.length_toList]; exact hlt))
            rw [HA.out] at hdt hv2
            rw [HA.out]
            have hi1 : -1000000000 ≤ (val t.data.toList : Int) := by omega
            have hi2 : (val t.data.toList : Int) ≤ 1000000000 := by omega
            have HI1 := Lib.hid hi1
            have HI2 := Lib.hid hi2
            by_cases hn : numB (readV t) = t
            · have HR := Lib.hid (okP_yes (s := t) (by rw [HT.out]; exact H6.out) (by rw [HT.out]; exact hdt) hn)
              rw [HV.out] at hn
              have HN := Lib.hid hn
              have HR1 := Lib.hid (HR.out.1.trans HV.out)
              clear hn hdt hi1 hi2
              go_wp2_with (go_at_call 53; refine (l1Num_any _ HI1.out HI2.out _).mono ?_; rintro e w' ⟨rfl, m, rfl⟩; rw [HN.out])
              go_ret2
              exact ⟨ret2P HR1.out.symm HR.out.2.symm, _, rfl⟩
            · have HR := Lib.hid (okP_no (s := t) (Or.inr (Or.inr hn)))
              rw [HV.out] at hn
              have hne := str_ne hn
              clear hn hdt hi1 hi2
              go_wp2_with (go_at_call 53; refine (l1Num_any _ HI1.out HI2.out _).mono ?_; rintro e w' ⟨rfl, m, rfl⟩)
              go_ret2
              exact ⟨ret2P HR.out.1.symm HR.out.2.symm, _, rfl⟩
      · have HR := Lib.hid (okP_no (s := t) (Or.inl (by rw [HT.out]; exact h6)))
        have HD6 := Lib.hid (show false = decide ((1 : Int) ≤ (t.size : Int) ∧ (t.size : Int) ≤ 6) from (decide_eq_false (by omega)).symm)
        clear h6
        go_enter Tryd.func37, Tryd.ntmps37
        go_wp2_with (go_at_call 49; refine (l1In_any _ _ _ false HD6.out _).mono ?_; rintro e w' ⟨rfl, rfl⟩)
        go_ret2
        exact ⟨ret2P HR.out.1.symm HR.out.2.symm, 0, rfl⟩

theorem l1Read_any (s : ByteArray) (w : World) (hs : s.size ≤ 1048576) :
    Calls Tryd.prog 37 #[.string s] w fun e w' => e = .returned (.tuple #[.int .i64 (resP s), .bool (okP s)]) ∧ ∃ m, w' = w.drewN m := by
  by_cases h : 1 < s.size ∧ s.data.toList[0]? = some 45
  · exact l1Read_neg s (tl s) w hs h (Lib.hid rfl)
  · refine l1Read_pos s (tl s) w hs h (Lib.hid rfl) (Lib.hid ?_)
    by_cases h1 : 1 < s.size
    · right
      have hb := byteAt s 0 (by omega)
      exact ⟨_, hb, fun e => h ⟨h1, by rw [hb, e]⟩⟩
    · exact Or.inl h1

end Go.Proofs.YtedngmnjpkhbiaaDoor
