/- Contracts of the specification's decimal numerals. -/
import Derived.Test.YtdiedfpfhbdamaaDoorBase
import Derived.Test.YtdiedfpfhbdamaaDoorShelf
namespace Go.Proofs.YtdiedfpfhbdamaaDoor
open Go.ChangeShapes Go.WideShapes Go.ChangeAt Go.RowKit Go.ChangeMaps
set_option linter.unusedSimpArgs false
set_option linter.unusedVariables false

theorem digit_at (d : Nat) (h : d < 10) : (({ data := #[48, 49, 50, 51, 52, 53, 54, 55, 56, 57] } : ByteArray).extract d (d + 1)) = ⟨#[UInt8.ofNat (48 + d)]⟩ := by
  have : ∀ d : Fin 10, (({ data := #[48, 49, 50, 51, 52, 53, 54, 55, 56, 57] } : ByteArray).extract d (d + 1)) = ⟨#[UInt8.ofNat (48 + d)]⟩ := by decide
  exact this ⟨d, h⟩
theorem dec_small {u : Nat} (h : u < 10) : Lib.decDigits u = [UInt8.ofNat (48 + u)] := by rw [Lib.decDigits, dif_pos h]
theorem dec_big {u : Nat} (h : ¬ u < 10) : Lib.decDigits u = Lib.decDigits (u / 10) ++ [UInt8.ofNat (48 + u % 10)] := by rw [Lib.decDigits, dif_neg h]
theorem dec_len (u : Nat) (h : u ≤ 1000000000) : (Lib.decDigits u).length ≤ 10 := by
  have step : ∀ (k u : Nat), u < 10 ^ k → 0 < k → (Lib.decDigits u).length ≤ k := by
    intro k
    induction k with
    | zero => intro u _ h; omega
    | succ k ih =>
      intro u hu _
      by_cases h10 : u < 10
      · rw [dec_small h10]; simp
      · rw [dec_big h10, List.length_append, List.length_singleton]
        have hk : 0 < k := by
          rcases Nat.eq_zero_or_pos k with rfl | h
          · simp at hu; omega
          · exact h
        have := ih (u / 10) (by rw [Nat.pow_succ] at hu; omega) hk
        omega
  exact step 10 u (by have : (10 : Nat) ^ 10 = 10000000000 := by decide
                      omega) (by omega)
/-- The numeral of a natural number, as a string. -/
def dec (u : Nat) : ByteArray := ⟨(Lib.decDigits u).toArray⟩
theorem dec_size (u : Nat) (h : u ≤ 1000000000) : (dec u).size ≤ 10 := by
  have := dec_len u h
  unfold dec ByteArray.size
  simpa using this

set_option maxHeartbeats 400000 in
theorem l1Num_pos : ∀ (u : Nat), u ≤ 1000000000 → ∀ w : World,
    Calls Tryd.prog 46 #[.int .i64 u] w fun e w' => e = .returned (.string (dec u)) ∧ ∃ m, w' = w.drewN m := by
  intro u
  induction u using Nat.strongRecOn with
  | _ u ih =>
    intro hu w
    by_cases h10 : u < 10
    · have h1 : (u : Int) < 10 := by omega
      clear ih
      go_enter Tryd.func46, Tryd.ntmps46
      go_wp2
      go_ret
      exact ⟨ret_str (by rw [digit_at u h10]; unfold dec; rw [dec_small h10]), 0, rfl⟩
    · have h1 : ¬ (u : Int) < 10 := by omega
      have h2 : (u : Int) ≤ 1000000000 := by omega
      obtain ⟨q, hq⟩ : ∃ q, q = u / 10 := ⟨_, rfl⟩
      obtain ⟨d, hd⟩ : ∃ d, d = u % 10 := ⟨_, rfl⟩
      have e1 : (u : Int) / 10 = (q : Int) := by omega
      have e2 : (u : Int) % 10 = (d : Int) := by omega
      have hd0 : (0 : Int) ≤ (d : Int) := by omega
      have hd9 : (d : Int) ≤ 9 := by omega
      have hdn : d < 10 := by omega
      have hqs := dec_size q (by omega)
      have IH := Lib.hid (ih q (by omega) (by omega))
      have HQ := Lib.hid hq
      have HD := Lib.hid hd
      clear ih hq hd
      go_enter Tryd.func46, Tryd.ntmps46
      go_wp2
      go_quiet ((go_at_call 46; exact Calls.quiet_of (IH.out _)))
      go_wp2
      go_ret
      refine ⟨ret_str ?_, _, rfl⟩
      rw [digit_at d hdn]
      apply bytes_ext
      unfold dec
      rw [dec_big h10, ← HQ.out, ← HD.out]
      simp

theorem below_grew (w : World) (k : Nat) (os : Array Obj) : Below w.heap.size w (Go.Sort.grow (w.drewN k) os) :=
  ⟨rfl, rfl, rfl, by show w.heap.size ≤ (w.heap ++ os).size; rw [Array.size_append]; omega, fun j hj => by
    show (w.heap ++ os)[j]? = w.heap[j]?
    rw [Array.getElem?_append_left hj]⟩

/-- The numeral of an integer. -/
def numB (n : Int) : ByteArray := ⟨(Lib.itoa n).toArray⟩
theorem numB_pos (u : Nat) : numB (u : Int) = dec u := by
  unfold numB dec Lib.itoa
  rw [if_neg (by omega), Int.toNat_natCast]
theorem numB_neg (u : Nat) (h : 0 < u) : numB (-(u : Int)) = { data := #[45] } ++ dec u := by
  unfold numB Lib.itoa
  rw [if_pos (by omega)]
  apply bytes_ext
  unfold dec
  simp

theorem l1Num_any (n : Int) (h : -1000000000 ≤ n) (h' : n ≤ 1000000000) (w : World) :
    Calls Tryd.prog 46 #[.int .i64 n] w fun e w' => e = .returned (.string (numB n)) ∧ ∃ m, w' = w.drewN m := by
  by_cases hn : n < 0
  · obtain ⟨u, rfl⟩ : ∃ u : Nat, n = -(u : Int) := ⟨n.natAbs, by omega⟩
    have hu := dec_size u (by omega)
    have HN := Lib.hid (numB_neg u (by omega))
    go_enter Tryd.func46, Tryd.ntmps46
    go_wp2_with (go_at_call 46; refine (l1Num_pos u (by omega) _).mono ?_; rintro e w' ⟨rfl, m, rfl⟩)
    go_ret
    exact ⟨ret_str HN.out.symm, _, rfl⟩
  · obtain ⟨u, rfl⟩ : ∃ u : Nat, n = (u : Int) := ⟨n.toNat, by omega⟩
    rw [numB_pos]
    exact l1Num_pos u (by omega) w
end Go.Proofs.YtdiedfpfhbdamaaDoor
