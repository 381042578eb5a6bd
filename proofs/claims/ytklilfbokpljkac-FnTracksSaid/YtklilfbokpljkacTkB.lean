/- Marks dropped: the mathematics of the loop. -/
import Derived.Test.YtklilfbokpljkacTkM
import Derived.Test.YtklilfbokpljkacTkP
namespace Go.Proofs.Ytklilfbokpljkac
open Go.ChangeShapes Go.WideShapes Go.ChangeAt Go.RowKit Go.ChangeMaps
set_option linter.unusedSimpArgs false
set_option linter.unusedVariables false

def cutAt (out : List GClockMark) (i : Nat) : List GClockMark := out.take i ++ out.drop (i + 1)
def invD (w : Int) (res out : List GClockMark) (i : Nat) : Prop := okTk out ∧ 1 ≤ i ∧ i < out.length ∧ dropR w (out.take i) (out.drop i) = res
theorem invD_start {xs : List GClockMark} (h : okTk xs) (w : Int) : invD w (dropTk xs w) xs 1 := by
  refine ⟨h, Nat.le_refl _, by have := h.1.1; omega, ?_⟩
  match xs, h.1.1 with
  | a :: b :: r, _ => rfl
theorem cutAt_len {out : List GClockMark} {i : Nat} (hi : i < out.length) : (cutAt out i).length = out.length - 1 := by
  unfold cutAt; rw [List.length_append, List.length_take, List.length_drop]; omega
theorem cutAt_sub (out : List GClockMark) (i : Nat) : (cutAt out i).Sublist out := by
  have e : out = out.take i ++ out.drop i := (List.take_append_drop i out).symm
  unfold cutAt
  conv => rhs; rw [e]
  refine List.Sublist.append (List.Sublist.refl _) ?_
  rw [← List.drop_drop]
  exact List.drop_sublist _ _
theorem cutAt_ok {out : List GClockMark} (h : okTk out) {i : Nat} (h1 : 1 ≤ i) (hi : i + 1 < out.length) : okTk (cutAt out i) := by
  have hl := cutAt_len (out := out) (i := i) (by omega)
  exact ⟨by have := h.1; omega, fun m hm => h.2.1 m ((cutAt_sub out i).subset hm), h.2.2.sublist (cutAt_sub out i)⟩
theorem invD_end {w : Int} {res out : List GClockMark} {i : Nat} (h : invD w res out i) (he : out.length ≤ i + 1) : out = res := by
  obtain ⟨-, h1, h2, h3⟩ := h
  obtain ⟨m, hm⟩ := get_of_lt h2
  have e1 : out.drop i = [m] := by
    rw [List.drop_eq_getElem_cons h2, List.drop_of_length_le he, (List.getElem?_eq_some_iff.1 hm).2]
  rw [← h3, e1, dropR, ← e1, List.take_append_drop]
theorem drop_two {out : List GClockMark} {i : Nat} {m : GClockMark} (hi : i + 1 < out.length) (hm : out[i]? = some m) : ∃ p r, out.drop (i + 1) = p :: r ∧ out.drop i = m :: p :: r := by
  refine ⟨out[i + 1]'hi, out.drop (i + 2), by rw [List.drop_eq_getElem_cons hi], ?_⟩
  rw [List.drop_eq_getElem_cons (show i < out.length by omega), List.drop_eq_getElem_cons hi, (List.getElem?_eq_some_iff.1 hm).2]
theorem invD_near {w : Int} {res out : List GClockMark} {i : Nat} {m : GClockMark} (h : invD w res out i) (hi : i + 1 < out.length) (hm : out[i]? = some m) (hn : nearTk (cutAt out i) m w) : invD w res (cutAt out i) i := by
  obtain ⟨h0, h1, h2, h3⟩ := h
  refine ⟨cutAt_ok h0 h1 hi, h1, by rw [cutAt_len h2]; omega, ?_⟩
  obtain ⟨p, r, e1, e2⟩ := drop_two hi hm
  have hl : (out.take i).length = i := by rw [List.length_take]; omega
  have t1 : (cutAt out i).take i = out.take i := by unfold cutAt; rw [List.take_append_of_le_length (by omega), List.take_of_length_le (by omega)]
  have t2 : (cutAt out i).drop i = out.drop (i + 1) := by unfold cutAt; rw [List.drop_append_of_le_length (by omega), List.drop_of_length_le (by omega), List.nil_append]
  have hn' : nearTk (out.take i ++ p :: r) m w := by rw [← e1]; exact hn
  rw [t1, t2, e1, ← h3, e2, dropR, if_pos hn']
theorem invD_far {w : Int} {res out : List GClockMark} {i : Nat} {m : GClockMark} (h : invD w res out i) (hi : i + 1 < out.length) (hm : out[i]? = some m) (hn : ¬ nearTk (cutAt out i) m w) : invD w res out (i + 1) := by
  obtain ⟨h0, h1, h2, h3⟩ := h
  refine ⟨h0, by omega, hi, ?_⟩
  obtain ⟨p, r, e1, e2⟩ := drop_two hi hm
  have hn' : ¬ nearTk (out.take i ++ p :: r) m w := by rw [← e1]; exact hn
  have t1 : out.take (i + 1) = out.take i ++ [m] := take_snoc hm
  rw [t1, e1, ← h3, e2, dropR, if_neg hn']
theorem nearTk_ab {rest : List GClockMark} {m : GClockMark} {w y : Int} (hy : ab (m.pTrue - lineL rest m.pShown) = y) : nearTk rest m w ↔ ¬ w < y := by
  unfold nearTk
  unfold ab at hy
  split at hy <;> omega
noncomputable def okDrp (xs : List GClockMark) (j : Int) : Bool := goodTk xs && decide (0 ≤ j ∧ j ≤ 1000)
noncomputable def resDrp (xs : List GClockMark) (j : Int) : List GClockMark := if okDrp xs j then dropTk xs j else []
theorem resDrp_len (xs : List GClockMark) (j : Int) (_ : szsClockMark xs ≤ 1048576) : szsClockMark (resDrp xs j) ≤ 1048576 := by
  rw [szsClockMark_split]
  unfold resDrp
  split
  · rename_i h
    unfold okDrp at h
    rw [Bool.and_eq_true] at h
    have := (dropTk_ok (goodTk_yes h.1) j).1.2
    omega
  · simp
theorem cut_flat {out : List GClockMark} {i : Nat} (hi : i < out.length) : (((out.flatMap encClockMark).drop (0 * 2)).take ((i - 0) * 2)) ++ (((out.flatMap encClockMark).drop ((i + 1) * 2)).take ((out.length - (i + 1)) * 2)) = (cutAt out i).flatMap encClockMark := by
  unfold cutAt
  rw [List.flatMap_append, ← flat_takeM encClockMark_len, ← flat_dropM encClockMark_len, Nat.zero_mul, List.drop_zero, Nat.sub_zero]
  congr 1
  refine List.take_of_length_le ?_
  rw [List.length_drop, flat_len encClockMark_len, Nat.sub_mul]
  exact Nat.le_refl _
end Go.Proofs.Ytklilfbokpljkac
