/- A text and its checksum: contracts. -/
import Derived.Test.YtkjiejobiihipaaDoorCsum
import Derived.Test.YtkjiejobiihipaaDoorHas
import Derived.Test.YtkjiejobiihipaaDoorNum
import Derived.Test.YtkjiejobiihipaaDoorTab
namespace Go.Proofs.YtkjiejobiihipaaDoor
open Go.ChangeShapes Go.WideShapes Go.ChangeAt Go.RowKit Go.ChangeMaps

theorem indexByte_mem (l : List UInt8) (c : UInt8) : (0 ≤ Lib.indexByte l c) ↔ c ∈ l := by
  induction l with
  | nil => simp [Lib.indexByte]
  | cons b r ih =>
    by_cases hb : b = c
    · subst hb; simp [Lib.indexByte]
    · have hb' : ¬ c = b := fun e => hb e.symm
      have hne : (b == c) = false := by simpa using hb
      have hge := Lib.indexByte_ge r c
      rw [List.mem_cons, ← ih]
      simp only [Lib.indexByte, hne, Bool.false_eq_true, if_false, hb', false_or]
      by_cases h1 : Lib.indexByte r c = -1
      · simp [h1]
      · have h2 : (Lib.indexByte r c == -1) = false := by simpa using h1
        simp only [h2, Bool.false_eq_true, if_false]
        omega

def seal_ (s : ByteArray) : ByteArray := s ++ ⟨#[35]⟩ ++ numB (csum s.data.toList)
theorem numB_size (n : Int) (h : 0 ≤ n) (h' : n ≤ 1000000000) : (numB n).size ≤ 10 := by
  obtain ⟨u, rfl⟩ : ∃ u : Nat, n = (u : Int) := ⟨n.toNat, by omega⟩
  rw [numB_pos]; exact dec_size u (by omega)
def okS (s : ByteArray) : Bool := decide (s.size ≤ 4000) && !has s 35 && decide ((seal_ s).size ≤ 4000)
def resS (s : ByteArray) : ByteArray := if okS s then seal_ s else .empty
theorem resS_yes {s : ByteArray} (h1 : s.size ≤ 4000) (h2 : has s 35 = false) (h3 : (seal_ s).size ≤ 4000) : resS s = seal_ s ∧ okS s = true := by
  have : okS s = true := by unfold okS; rw [decide_eq_true h1, h2, decide_eq_true h3]; rfl
  exact ⟨by unfold resS; rw [this]; rfl, this⟩
theorem resS_no {s : ByteArray} (h : ¬ s.size ≤ 4000 ∨ has s 35 = true ∨ ¬ (seal_ s).size ≤ 4000) : resS s = .empty ∧ okS s = false := by
  have : okS s = false := by
    unfold okS
    rcases h with h | h | h
    · rw [decide_eq_false h]; rfl
    · rw [h]; simp
    · rw [decide_eq_false h]; simp
  exact ⟨by unfold resS; rw [this]; rfl, this⟩
theorem ret2S {a b : ByteArray} {x y : Bool} (h : a = b) (h2 : x = y) : Ending.returned (.tuple #[.string a, .bool x]) = .returned (.tuple #[.string b, .bool y]) := by rw [h, h2]

theorem l1Seal_any (s : ByteArray) (w : World) (hs : s.size ≤ 1048576) :
    Calls Tryd.prog 34 #[.string s] w fun e w' => e = .returned (.string (seal_ s)) ∧ ∃ m, w' = w.drewN m := by
  have hm : s.size ≤ maxLen := by unfold maxLen; omega
  have hc := csum_bd s.data.toList
  have hz := numB_size (csum s.data.toList) hc.1 (by omega)
  have hc1 : -1000000000 ≤ csum s.data.toList := by omega
  have hc2 : csum s.data.toList ≤ 1000000000 := by omega
  go_enter Tryd.func34, Tryd.ntmps34
  go_wp2_with (first
    | (go_at_call 42; refine (l1Sum_any _ _ hm).mono ?_; rintro e w' ⟨rfl, rfl⟩)
    | (go_at_call 25; refine (l1Num_any _ hc1 hc2 _).mono ?_; rintro e w' ⟨rfl, m, rfl⟩))
  go_ret
  exact ⟨rfl, _, rfl⟩

theorem specAppend (s : ByteArray) (w : World) (hs : s.size ≤ 1048576) :
    Calls Tryd.prog 17 #[.string s] w fun e w' => e = .returned (.tuple #[.string (resS s), .bool (okS s)]) ∧ ∃ m, w' = w.drewN m := by
  have hm : s.size ≤ maxLen := by unfold maxLen; omega
  by_cases h1 : s.size ≤ 4000
  · have d1 : decide (4000 < (s.size : Int)) = false := by simp; omega
    cases hh : has s 35 with
    | true =>
      have HR := Lib.hid (resS_no (s := s) (Or.inr (Or.inl hh)))
      have HH := Lib.hid hh
      clear hh
      go_enter Tryd.func17, Tryd.ntmps17
      go_wp2_with (first
        | (go_at_call 33; refine (standsYes s 35 _ hm HH).mono ?_; rintro e w' ⟨rfl, rfl⟩))
      go_ret2
      exact ⟨ret2S HR.out.1.symm HR.out.2.symm, 0, rfl⟩
    | false =>
      have HH := Lib.hid hh
      by_cases h3 : (seal_ s).size ≤ 4000
      · have d3 : decide (4000 < ((seal_ s).size : Int)) = false := by simp; omega
        have HR := Lib.hid (resS_yes h1 hh h3)
        clear hh
        go_enter Tryd.func17, Tryd.ntmps17
        go_wp2_with (first
          | (go_at_call 33; refine (standsNo s 35 _ hm HH).mono ?_; rintro e w' ⟨rfl, rfl⟩)
          | (go_at_call 34; refine (l1Seal_any s _ hs).mono ?_; rintro e w' ⟨rfl, m, rfl⟩))
        go_ret2
        exact ⟨ret2S HR.out.1.symm HR.out.2.symm, _, rfl⟩
      · have d3 : decide (4000 < ((seal_ s).size : Int)) = true := by simp; omega
        have HR := Lib.hid (resS_no (s := s) (Or.inr (Or.inr h3)))
        clear hh
        go_enter Tryd.func17, Tryd.ntmps17
        go_wp2_with (first
          | (go_at_call 33; refine (standsNo s 35 _ hm HH).mono ?_; rintro e w' ⟨rfl, rfl⟩)
          | (go_at_call 34; refine (l1Seal_any s _ hs).mono ?_; rintro e w' ⟨rfl, m, rfl⟩))
        go_ret2
        exact ⟨ret2S HR.out.1.symm HR.out.2.symm, _, rfl⟩
  · have d1 : decide (4000 < (s.size : Int)) = true := by simp; omega
    have HR := Lib.hid (resS_no (s := s) (Or.inl h1))
    go_enter Tryd.func17, Tryd.ntmps17
    go_wp2
    go_ret2
    exact ⟨ret2S HR.out.1.symm HR.out.2.symm, 0, rfl⟩

theorem contains_has (s : ByteArray) (w : World) (b : Bool) (h : has s 35 = b) :
    Calls Tryd.prog 32 #[.string s, .string ⟨#[35]⟩] w fun e w' => e = .returned (.bool b) ∧ w' = w := by
  refine (Tryd.strings_Contains_one s 35 w).mono fun e w' ⟨he, hw⟩ => ⟨?_, hw⟩
  rw [he]
  congr 2
  rw [← h]
  unfold has
  exact decide_eq_decide.2 (indexByte_mem _ _)

theorem implChecksum_ok (s : ByteArray) (w : World) (h : s.size ≤ 4000) :
    Calls Tryd.prog 31 #[.string s] w fun e w' => e = .returned (.tuple #[.int .i64 (csum s.data.toList), .bool true]) ∧ w' = w := by
  refine (implChecksum s w (by omega)).mono fun e w' ⟨he, hw⟩ => ⟨?_, hw.symm⟩
  rw [he, if_neg (by omega), decide_eq_false (by omega)]; rfl
theorem implChecksum_no (s : ByteArray) (w : World) (h : 4000 < s.size) (h2 : s.size ≤ 1048576) :
    Calls Tryd.prog 31 #[.string s] w fun e w' => e = .returned (.tuple #[.int .i64 0, .bool false]) ∧ w' = w := by
  refine (implChecksum s w h2).mono fun e w' ⟨he, hw⟩ => ⟨?_, hw.symm⟩
  rw [he, if_pos h, decide_eq_true h]; rfl

theorem itoa_num (n : Int) (h0 : -9223372036854775808 ≤ n) (h1 : n ≤ 9223372036854775807) (w : World) (hp : Pow10 w) :
    Calls Tryd.prog 23 #[.int .i64 n] w fun e w' => e = .returned (.string (numB n)) ∧ ∃ k os, w' = Go.Sort.grow (w.drewN k) os :=
  Tryd.strconv_Itoa n h0 h1 w hp

theorem implAppend (s : ByteArray) (w : World) (hs : s.size ≤ 1048576) (hp : Pow10 w) :
    Calls Tryd.prog 16 #[.string s] w fun e w' => e = .returned (.tuple #[.string (resS s), .bool (okS s)]) ∧ Below w.heap.size w w' := by
  by_cases h1 : s.size ≤ 4000
  · cases hh : has s 35 with
    | true =>
      have HR := Lib.hid (resS_no (s := s) (Or.inr (Or.inl hh)))
      have HH := Lib.hid hh
      clear hh
      go_enter Tryd.func16, Tryd.ntmps16
      go_wp2_with (first
        | (go_at_call 31; refine (implChecksum_ok s _ h1).mono ?_; rintro e w' ⟨rfl, rfl⟩)
        | (go_at_call 32; refine (contains_has s _ true HH.out).mono ?_; rintro e w' ⟨rfl, rfl⟩))
      go_ret2
      exact ⟨ret2S HR.out.1.symm HR.out.2.symm, Below.refl _ _⟩
    | false =>
      have hc := csum_bd s.data.toList
      have hz := numB_size (csum s.data.toList) hc.1 (by omega)
      have hc1 : -9223372036854775808 ≤ csum s.data.toList := by omega
      have hc2 : csum s.data.toList ≤ 9223372036854775807 := by omega
      have HC1 := Lib.hid hc1
      have HC2 := Lib.hid hc2
      have HP := Lib.hid hp
      have HH := Lib.hid hh
      have hss : (seal_ s).size = s.size + 1 + (numB (csum s.data.toList)).size := by
        unfold seal_; rw [ByteArray.size_append, ByteArray.size_append]; rfl
      by_cases h3 : (seal_ s).size ≤ 4000
      · have HR := Lib.hid (resS_yes h1 hh h3)
        rw [hss] at h3
        clear hh hc1 hc2 hp hss
        go_enter Tryd.func16, Tryd.ntmps16
        go_wp2_with (first
          | (go_at_call 31; refine (implChecksum_ok s _ h1).mono ?_; rintro e w' ⟨rfl, rfl⟩)
          | (go_at_call 32; refine (contains_has s _ false HH.out).mono ?_; rintro e w' ⟨rfl, rfl⟩)
          | (go_at_call 23; refine (itoa_num _ HC1.out HC2.out _ HP.out).mono ?_; rintro e w' ⟨rfl, k, os, rfl⟩))
        go_ret2
        exact ⟨ret2S HR.out.1.symm HR.out.2.symm, below_grew _ _ _⟩
      · have HR := Lib.hid (resS_no (s := s) (Or.inr (Or.inr h3)))
        rw [hss] at h3
        clear hh hc1 hc2 hp hss
        go_enter Tryd.func16, Tryd.ntmps16
        go_wp2_with (first
          | (go_at_call 31; refine (implChecksum_ok s _ h1).mono ?_; rintro e w' ⟨rfl, rfl⟩)
          | (go_at_call 32; refine (contains_has s _ false HH.out).mono ?_; rintro e w' ⟨rfl, rfl⟩)
          | (go_at_call 23; refine (itoa_num _ HC1.out HC2.out _ HP.out).mono ?_; rintro e w' ⟨rfl, k, os, rfl⟩))
        go_ret2
        exact ⟨ret2S HR.out.1.symm HR.out.2.symm, below_grew _ _ _⟩
  · have HR := Lib.hid (resS_no (s := s) (Or.inl h1))
    go_enter Tryd.func16, Tryd.ntmps16
    go_wp2_with (first
      | (go_at_call 31; refine (implChecksum_no s _ (by omega) hs).mono ?_; rintro e w' ⟨rfl, rfl⟩))
    go_ret2
    exact ⟨ret2S HR.out.1.symm HR.out.2.symm, Below.refl _ _⟩
end Go.Proofs.YtkjiejobiihipaaDoor
