/- Drifts of a track: the mathematics. -/
import Derived.Test.YtklilfbokpljkacTkM
namespace Go.Proofs.Ytklilfbokpljkac
open Go.ChangeShapes Go.WideShapes Go.ChangeAt Go.RowKit Go.ChangeMaps
set_option linter.unusedSimpArgs false
set_option linter.unusedVariables false

/-- How much the true time grows from a to b. -/
def drT (a b : GClockMark) : GDrift := ⟨numR (b.pTrue - a.pTrue) (b.pShown - a.pShown), denR (b.pTrue - a.pTrue) (b.pShown - a.pShown)⟩
def driftsL : List GClockMark → List GDrift
  | a :: b :: r => drT a b :: driftsL (b :: r)
  | _ => []
theorem driftsL_len : ∀ xs : List GClockMark, (driftsL xs).length = xs.length - 1
  | [] => rfl
  | [_] => rfl
  | a :: b :: r => by rw [driftsL, List.length_cons, driftsL_len (b :: r)]; simp
theorem driftsL_get : ∀ {xs : List GClockMark} {i : Nat} {a b : GClockMark}, xs[i]? = some a → xs[i + 1]? = some b → (driftsL xs)[i]? = some (drT a b)
  | [], i, a, b, h, _ => by simp at h
  | [x], i, a, b, _, h => by simp at h
  | x :: y :: r, 0, a, b, h, k => by
    simp at h k
    subst h k
    rfl
  | x :: y :: r, i + 1, a, b, h, k => by
    rw [driftsL, List.getElem?_cons_succ]
    exact driftsL_get (by simpa using h) (by simpa using k)
theorem driftsL_take {xs : List GClockMark} {i : Nat} {a b : GClockMark} (ha : xs[i]? = some a) (hb : xs[i + 1]? = some b) : (driftsL xs).take (i + 1) = (driftsL xs).take i ++ [drT a b] := take_snoc (driftsL_get ha hb)
theorem num_gcdT (n d : Int) : numR n d * (gcdR n d : Nat) = n := by
  unfold numR
  refine Int.tdiv_mul_cancel ?_
  rw [Int.ofNat_dvd_left]
  exact Nat.gcd_dvd_left _ _
theorem den_gcdT {n d : Int} (h : 1 ≤ d) : denR n d * (gcdR n d : Nat) = d := by
  unfold denR
  refine Int.tdiv_mul_cancel ?_
  rw [Int.ofNat_dvd_left]
  have := Nat.gcd_dvd_right n.natAbs d.toNat
  have e : d.natAbs = d.toNat := by omega
  rw [e]; exact this
/-- A fraction in lowest terms stays within its bounds. -/
theorem red_bd {n d N : Int} (hd : 1 ≤ d) (h0 : 0 ≤ n) (h1 : n ≤ N) : (0 ≤ numR n d ∧ numR n d ≤ N) ∧ (1 ≤ denR n d ∧ denR n d ≤ d) := by
  have a1 := num_gcdT n d
  have b1 := den_gcdT (n := n) hd
  have g1 := gcdR_pos (n := n) hd
  generalize gcdR n d = g at *
  generalize numR n d = a at *
  generalize denR n d = b at *
  have hg : (1 : Int) ≤ (g : Nat) := by omega
  have ha : 0 ≤ a := by
    rcases Int.lt_or_le a 0 with q | q
    · have := Int.mul_le_mul_of_nonneg_right (show a ≤ -1 by omega) (show (0 : Int) ≤ (g : Nat) by omega)
      omega
    · exact q
  have hb : 1 ≤ b := by
    rcases Int.lt_or_le 0 b with q | q
    · omega
    · have := Int.mul_nonpos_of_nonpos_of_nonneg q (show (0 : Int) ≤ (g : Nat) by omega)
      omega
  have e1 := Int.mul_le_mul_of_nonneg_left hg ha
  have e2 := Int.mul_le_mul_of_nonneg_left hg (show (0 : Int) ≤ b by omega)
  omega
theorem drT_bd {a b : GClockMark} (ha : tickM a) (hb : tickM b) (h : befTk a b) : (0 ≤ (drT a b).pNum ∧ (drT a b).pNum ≤ 1000000) ∧ (1 ≤ (drT a b).pDen ∧ (drT a b).pDen ≤ 1000000) := by
  unfold tickM at ha hb
  unfold befTk at h
  have := red_bd (n := b.pTrue - a.pTrue) (d := b.pShown - a.pShown) (N := 1000000) (by omega) (by omega) (by omega)
  unfold drT
  simp only
  omega
theorem driftsL_bd : ∀ {xs : List GClockMark}, xs.Pairwise befTk → (∀ m ∈ xs, tickM m) → ∀ d ∈ driftsL xs, (0 ≤ d.pNum ∧ d.pNum ≤ 1000000) ∧ (1 ≤ d.pDen ∧ d.pDen ≤ 1000000)
  | [], _, _, d, hd => by simp [driftsL] at hd
  | [_], _, _, d, hd => by simp [driftsL] at hd
  | a :: b :: r, h, ht, d, hd => by
    rw [driftsL] at hd
    rcases List.mem_cons.1 hd with q | q
    · rw [q]
      exact drT_bd (ht a (List.mem_cons_self ..)) (ht b (List.mem_cons_of_mem _ (List.mem_cons_self ..))) (pw_head h).1
    · exact driftsL_bd (pw_head h).2 (fun m hm => ht m (List.mem_cons_of_mem _ hm)) d q
/-- The distance of a drift from 1, times its denominator. -/
def offD (d : GDrift) : Int := if d.pDen - d.pNum < d.pNum - d.pDen then d.pNum - d.pDen else d.pDen - d.pNum
theorem offD_ab (d : GDrift) : offD d = ab (d.pNum - d.pDen) := by unfold offD ab; split <;> split <;> omega
def zD : GDrift := ⟨0, 0⟩
def bestD (ds : List GDrift) : Nat → Nat
  | 0 => 0
  | k + 1 => if offD (ds.getD (bestD ds k) zD) * (ds.getD k zD).pDen < offD (ds.getD k zD) * (ds.getD (bestD ds k) zD).pDen then k else bestD ds k
theorem bestD_le (ds : List GDrift) : ∀ k, bestD ds k ≤ k - 1 ∧ (0 < k → bestD ds k < k)
  | 0 => ⟨Nat.le_refl _, by omega⟩
  | k + 1 => by
    have := bestD_le ds k
    rw [bestD]
    split
    · omega
    · rcases Nat.eq_zero_or_pos k with q | q
      · subst q; exact ⟨by simp [bestD], fun _ => by simp [bestD]⟩
      · have := this.2 q; omega
theorem bestD_max {ds : List GDrift} (hp : ∀ d ∈ ds, 1 ≤ d.pDen) : ∀ k, k ≤ ds.length → ∀ i, i < k → offD (ds.getD i zD) * (ds.getD (bestD ds k) zD).pDen ≤ offD (ds.getD (bestD ds k) zD) * (ds.getD i zD).pDen
  | 0, _, i, h => by omega
  | k + 1, hk, i, h => by
    have den : ∀ j, j < ds.length → 1 ≤ (ds.getD j zD).pDen := fun j hj => by
      obtain ⟨d, hd⟩ := get_of_lt hj
      have := hp d (List.mem_of_getElem? hd)
      simpa [List.getD, hd] using this
    rw [bestD]
    by_cases hc : offD (ds.getD (bestD ds k) zD) * (ds.getD k zD).pDen < offD (ds.getD k zD) * (ds.getD (bestD ds k) zD).pDen
    · rw [if_pos hc]
      by_cases hik : i = k
      · subst hik; exact Int.le_refl _
      · have ih := bestD_max hp k (by omega) i (by omega)
        have dk := den k (by omega)
        have di := den i (by omega)
        have db := den (bestD ds k) (by have := (bestD_le ds k).2 (by omega); omega)
        generalize offD (ds.getD i zD) = oi at *
        generalize offD (ds.getD (bestD ds k) zD) = ob at *
        generalize offD (ds.getD k zD) = ok at *
        generalize (ds.getD i zD).pDen = ei at *
        generalize (ds.getD (bestD ds k) zD).pDen = eb at *
        generalize (ds.getD k zD).pDen = ek at *
        have m1 := Int.mul_le_mul_of_nonneg_right ih (show (0 : Int) ≤ ek by omega)
        have m2 := Int.mul_le_mul_of_nonneg_right (Int.le_of_lt hc) (show (0 : Int) ≤ ei by omega)
        have e1 : ob * ei * ek = ob * ek * ei := by rw [Int.mul_assoc, Int.mul_assoc, Int.mul_comm ei]
        have e2 : oi * eb * ek = oi * ek * eb := by rw [Int.mul_assoc, Int.mul_assoc, Int.mul_comm eb]
        have e3 : ok * eb * ei = ok * ei * eb := by rw [Int.mul_assoc, Int.mul_assoc, Int.mul_comm eb]
        exact Int.le_of_mul_le_mul_right (show oi * ek * eb ≤ ok * ei * eb by omega) (by omega)
    · rw [if_neg hc]
      by_cases hik : i = k
      · subst hik; omega
      · exact bestD_max hp k (by omega) i (by omega)
/-- The offsets of marks. -/
def offM (m : GClockMark) : Int := m.pTrue - m.pShown
def loM : List GClockMark → Int
  | [] => 0
  | [a] => offM a
  | a :: r => if loM r < offM a then loM r else offM a
end Go.Proofs.Ytklilfbokpljkac
