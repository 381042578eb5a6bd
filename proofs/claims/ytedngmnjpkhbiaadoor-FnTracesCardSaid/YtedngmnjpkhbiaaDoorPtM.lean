/- Numerals read: the mathematics (Par's, without Fmt). -/
import Derived.Test.YtedngmnjpkhbiaaDoorTxt
import Derived.Test.YtedngmnjpkhbiaaDoorHas
namespace Go.Proofs.YtedngmnjpkhbiaaDoor
open Go.ChangeShapes Go.WideShapes Go.ChangeAt Go.RowKit Go.ChangeMaps
set_option linter.unusedSimpArgs false
set_option linter.unusedVariables false

def isDig (c : UInt8) : Bool := decide (48 ≤ c.toNat ∧ c.toNat ≤ 57)
def digs (l : List UInt8) : Bool := l.all isDig
def val (l : List UInt8) : Nat := l.foldl (fun n c => 10 * n + (c.toNat - 48)) 0
theorem val_snoc (l : List UInt8) (c : UInt8) : val (l ++ [c]) = 10 * val l + (c.toNat - 48) := by simp [val]
theorem digs_snoc (l : List UInt8) (c : UInt8) : digs (l ++ [c]) = (digs l && isDig c) := by simp [digs]
theorem val_lt : ∀ (k : Nat) (l : List UInt8), l.length = k → digs l = true → val l < 10 ^ k := by
  intro k
  induction k with
  | zero => intro l hl _; rw [List.length_eq_zero_iff.1 hl]; simp [val]
  | succ k ih =>
    intro l hl hd
    rcases List.eq_nil_or_concat l with h | ⟨r, c, h⟩
    · rw [h] at hl; simp at hl
    · rw [List.concat_eq_append] at h
      subst h
      rw [digs_snoc, Bool.and_eq_true] at hd
      have h1 := ih r (by simpa using hl) hd.1
      have h2 : 48 ≤ c.toNat ∧ c.toNat ≤ 57 := of_decide_eq_true hd.2
      rw [val_snoc, Nat.pow_succ]
      omega
theorem val6 {l : List UInt8} (h : l.length ≤ 6) (hd : digs l = true) : val l ≤ 999999 := by
  have h1 := val_lt _ l rfl hd
  have h2 : (10 : Nat) ^ l.length ≤ 10 ^ 6 := Nat.pow_le_pow_right (by omega) h
  have h3 : (10 : Nat) ^ 6 = 1000000 := by decide
  omega
theorem dig_ofNat (d : Nat) (h : d < 10) : (UInt8.ofNat (48 + d)).toNat = 48 + d := by
  rw [UInt8.toNat_ofNat']; omega
theorem dec_val : ∀ u : Nat, val (Lib.decDigits u) = u ∧ digs (Lib.decDigits u) = true := by
  intro u
  induction u using Nat.strongRecOn with
  | _ u ih =>
    by_cases h : u < 10
    · rw [dec_small h]
      have := dig_ofNat u h
      refine ⟨by simp only [val, List.foldl_cons, List.foldl_nil]; omega, ?_⟩
      simp only [digs, List.all_cons, List.all_nil, Bool.and_true, isDig]
      exact decide_eq_true (by omega)
    · rw [dec_big h, val_snoc, digs_snoc]
      obtain ⟨h1, h2⟩ := ih (u / 10) (by omega)
      have := dig_ofNat (u % 10) (by omega)
      refine ⟨by omega, ?_⟩
      rw [h2, Bool.true_and]
      exact decide_eq_true (by omega)
theorem dec_len6 {u : Nat} (h : u ≤ 999999) : 1 ≤ (Lib.decDigits u).length ∧ (Lib.decDigits u).length ≤ 6 := by
  have step : ∀ (k u : Nat), u < 10 ^ k → 0 < k → 1 ≤ (Lib.decDigits u).length ∧ (Lib.decDigits u).length ≤ k := by
    intro k
    induction k with
    | zero => intro u _ h; omega
    | succ k ih =>
      intro u hu _
      by_cases h10 : u < 10
      · rw [dec_small h10]; simp
      · rw [dec_big h10, List.length_append, List.length_singleton]
        have hk : 0 < k := by
          rcases Nat.eq_zero_or_pos k with rfl | h
          · simp at hu; omega
          · exact h
        have := ih (u / 10) (by rw [Nat.pow_succ] at hu; omega) hk
        omega
  exact step 6 u (by have : (10 : Nat) ^ 6 = 1000000 := by decide
                     omega) (by omega)

def tl (s : ByteArray) : ByteArray := if 1 < s.size ∧ s.data.toList[0]? = some 45 then s.extract 1 s.size else s
def readV (s : ByteArray) : Int := if (tl s).size < s.size then -(val (tl s).data.toList : Int) else val (tl s).data.toList
def okP (s : ByteArray) : Bool := decide (1 ≤ (tl s).size ∧ (tl s).size ≤ 6) && digs (tl s).data.toList && decide (numB (readV s) = s)
def resP (s : ByteArray) : Int := if okP s then readV s else 0
theorem okP_yes {s : ByteArray} (h1 : 1 ≤ (tl s).size ∧ (tl s).size ≤ 6) (h2 : digs (tl s).data.toList = true) (h3 : numB (readV s) = s) : resP s = readV s ∧ okP s = true := by
  have : okP s = true := by unfold okP; rw [decide_eq_true h1, h2, decide_eq_true h3]; rfl
  exact ⟨by unfold resP; rw [this]; rfl, this⟩
theorem okP_no {s : ByteArray} (h : ¬ (1 ≤ (tl s).size ∧ (tl s).size ≤ 6) ∨ digs (tl s).data.toList = false ∨ ¬ numB (readV s) = s) : resP s = 0 ∧ okP s = false := by
  have : okP s = false := by
    unfold okP
    rcases h with h | h | h
    · rw [decide_eq_false h]; rfl
    · rw [h]; simp
    · rw [decide_eq_false h]; simp
  exact ⟨by unfold resP; rw [this]; rfl, this⟩
theorem ret2P {a b : Int} {x y : Bool} (h : a = b) (h2 : x = y) : Ending.returned (.tuple #[.int .i64 a, .bool x]) = .returned (.tuple #[.int .i64 b, .bool y]) := by rw [h, h2]

/-- A numeral is read as what it says. -/
theorem read_dec (u : Nat) (h : u ≤ 999999) : okP (dec u) = true ∧ readV (dec u) = u := by
  obtain ⟨hv, hd⟩ := dec_val u
  have hl := dec_len6 h
  have hls : (dec u).data.toList = Lib.decDigits u := by simp [dec]
  have hsz : (dec u).size = (Lib.decDigits u).length := by simp [dec, ByteArray.size]
  have ht : tl (dec u) = dec u := by
    unfold tl
    rw [if_neg]
    rintro ⟨_, h0⟩
    rw [hls] at h0
    have := List.all_eq_true.1 hd 45 (List.mem_of_getElem? h0)
    exact absurd this (by decide)
  have hr : readV (dec u) = u := by unfold readV; rw [ht, if_neg (by omega), hls, hv]
  exact ⟨(okP_yes (by rw [ht, hsz]; exact hl) (by rw [ht, hls]; exact hd) (by rw [hr, numB_pos])).2, hr⟩
theorem read_neg (u : Nat) (h0 : 0 < u) (h : u ≤ 999999) : okP (numB (-(u : Int))) = true ∧ readV (numB (-(u : Int))) = -(u : Int) := by
  obtain ⟨hv, hd⟩ := dec_val u
  have hl := dec_len6 h
  have hls : (numB (-(u : Int))).data.toList = 45 :: Lib.decDigits u := by rw [numB_neg u h0]; simp [dec]
  have hsz : (numB (-(u : Int))).size = (Lib.decDigits u).length + 1 := by
    have := congrArg List.length hls
    rw [Array.length_toList, List.length_cons] at this
    exact this
  have ht : (tl (numB (-(u : Int)))).data.toList = Lib.decDigits u := by
    unfold tl
    rw [if_pos ⟨by omega, by rw [hls]; rfl⟩, ByteArray.data_extract, Array.toList_extract, hls, hsz]
    simp [List.extract_eq_take_drop]
  have hts : (tl (numB (-(u : Int)))).size = (Lib.decDigits u).length := by rw [← ht, Array.length_toList]; rfl
  have hr : readV (numB (-(u : Int))) = -(u : Int) := by unfold readV; rw [if_pos (by omega), ht, hv]
  exact ⟨(okP_yes (by rw [hts]; exact hl) (by rw [ht]; exact hd) (by rw [hr])).2, hr⟩
theorem read_num (n : Int) (h : -999999 ≤ n ∧ n ≤ 999999) : okP (numB n) = true ∧ readV (numB n) = n := by
  by_cases hn : n < 0
  · obtain ⟨u, rfl⟩ : ∃ u : Nat, n = -(u : Int) := ⟨n.natAbs, by omega⟩
    exact read_neg u (by omega) (by omega)
  · obtain ⟨u, rfl⟩ : ∃ u : Nat, n = (u : Int) := ⟨n.toNat, by omega⟩
    rw [numB_pos]
    exact read_dec u (by omega)
theorem readV_bd {s : ByteArray} (h : okP s = true) : (-999999 ≤ readV s ∧ readV s ≤ 999999) ∧ numB (readV s) = s := by
  unfold okP at h
  rw [Bool.and_eq_true, Bool.and_eq_true, decide_eq_true_eq, decide_eq_true_eq] at h
  obtain ⟨⟨h1, h2⟩, h3⟩ := h
  have h4 := val6 (l := (tl s).data.toList) (by rw [Array.length_toList]; exact h1.2) h2
  refine ⟨?_, h3⟩
  unfold readV
  split <;> omega
end Go.Proofs.YtedngmnjpkhbiaaDoor
