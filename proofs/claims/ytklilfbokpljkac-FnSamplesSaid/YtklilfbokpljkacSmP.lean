/- FnSamples: the mathematics and the helpers. -/
import Derived.Test.YtklilfbokpljkacSub
import Derived.Test.YtklilfbokpljkacMean
import Derived.Test.YtklilfbokpljkacVi
namespace Go.Proofs.Ytklilfbokpljkac
open Go.ChangeShapes Go.WideShapes Go.ChangeAt Go.RowKit Go.ChangeMaps
set_option linter.unusedSimpArgs false
set_option linter.unusedVariables false

theorem bst_max (xs : List Int) : ∀ k i, i < k → ab (xs.getD i 0) ≤ ab (xs.getD (bst xs k) 0) := by
  intro k
  induction k with
  | zero => intro i h; omega
  | succ k ih =>
    intro i h
    simp only [bst]
    by_cases hi : i = k
    · subst hi
      split
      · exact Int.le_refl _
      · omega
    · have := ih i (by omega)
      split
      · omega
      · exact this
theorem val_max {t : Tr} (h : okN t = true) {i : Nat} {x : Int} (hx : t.xs[i]? = some x) : ab x ≤ ab (valL t) := by
  have hi := (List.getElem?_eq_some_iff.1 hx).1
  have := bst_max t.xs t.xs.length i hi
  unfold valL
  rw [if_pos h]
  simpa [List.getD, hx] using this
theorem okN_parts {t : Tr} (h : okN t = true) : goodT t = true ∧ 0 < t.xs.length := by
  unfold okN at h
  rw [Bool.and_eq_true, decide_eq_true_eq] at h
  exact h
theorem at_largest {t : Tr} (h : okN t = true) : okAt t (tickL t) = true ∧ resAt t (tickL t) = valL t := by
  obtain ⟨g, hp⟩ := okN_parts h
  have hb := bst_le t.xs t.xs.length
  have ht : tickL t = t.start + (bst t.xs t.xs.length : Nat) := by unfold tickL; rw [if_pos h]
  have ho : okAt t (tickL t) = true := by
    unfold okAt hasT
    rw [g, Bool.true_and, decide_eq_true_eq, ht]
    omega
  refine ⟨ho, ?_⟩
  unfold resAt valL
  rw [if_pos ho, if_pos h, ht]
  congr 1
  omega
theorem low_sum (xs : List Int) (l : Int) : (low xs l).sum = xs.sum - l * (xs.length : Int) := by
  induction xs with
  | nil => simp [low]
  | cons x xs ih =>
    have : low (x :: xs) l = (x - l) :: low xs l := rfl
    rw [this, List.sum_cons, List.sum_cons, ih, List.length_cons]
    push_cast
    rw [Int.mul_add, Int.mul_one]
    omega
theorem num_gcd (n d : Int) : numR n d * (gcdR n d : Nat) = n := by
  unfold numR
  refine Int.tdiv_mul_cancel ?_
  rw [Int.ofNat_dvd_left]
  exact Nat.gcd_dvd_left _ _
theorem den_gcd {n d : Int} (h : 1 ≤ d) : denR n d * (gcdR n d : Nat) = d := by
  unfold denR
  refine Int.tdiv_mul_cancel ?_
  rw [Int.ofNat_dvd_left]
  have := Nat.gcd_dvd_right n.natAbs d.toNat
  have e : d.natAbs = d.toNat := by omega
  rw [e]; exact this
theorem mean_cross (S l : Int) (n : Int) (hn : 1 ≤ n) : (numR S n - l * denR S n) * denR (S - l * n) n = numR (S - l * n) n * denR S n := by
  have a1 := num_gcd S n
  have b1 := den_gcd (n := S) hn
  have c1 := num_gcd (S - l * n) n
  have d1 := den_gcd (n := S - l * n) hn
  have g1 := gcdR_pos (n := S) hn
  have g2 := gcdR_pos (n := S - l * n) hn
  generalize (gcdR S n) = g at *
  generalize (gcdR (S - l * n) n) = k at *
  generalize numR S n = a at *
  generalize denR S n = b at *
  generalize numR (S - l * n) n = c at *
  generalize denR (S - l * n) n = d at *
  have hg : ((g : Int) * (k : Int)) ≠ 0 := Int.mul_ne_zero (by omega) (by omega)
  refine Int.eq_of_mul_eq_mul_right hg ?_
  have e1 : (a - l * b) * (g : Int) = S - l * n := by rw [Int.sub_mul, a1, Int.mul_assoc, b1]
  calc (a - l * b) * d * ((g : Int) * (k : Int)) = ((a - l * b) * (g : Int)) * (d * (k : Int)) := by
        rw [Int.mul_assoc, Int.mul_assoc]; congr 1; rw [← Int.mul_assoc, ← Int.mul_assoc, Int.mul_comm d]
    _ = (S - l * n) * n := by rw [e1, d1]
    _ = (c * (k : Int)) * (b * (g : Int)) := by rw [c1, b1]
    _ = c * b * ((g : Int) * (k : Int)) := by
        rw [Int.mul_assoc, Int.mul_assoc]; congr 1; rw [Int.mul_left_comm, Int.mul_comm (k : Int)]
theorem okS_parts {t : Tr} {l : Int} (h : okS t l = true) : goodT t = true ∧ (-100000 ≤ l ∧ l ≤ 100000) ∧ resS t l = ⟨t.st, t.start, low t.xs l⟩ ∧ goodT (resS t l) = true := by
  have h2 := h
  unfold okS inS at h2
  simp only [Bool.and_eq_true, decide_eq_true_eq] at h2
  obtain ⟨g, hl, hx⟩ := h2
  have e : resS t l = ⟨t.st, t.start, low t.xs l⟩ := by unfold resS; rw [if_pos h]
  exact ⟨g, hl, e, by rw [e, good_low g]; exact hx⟩
/-- The means before and behind. -/
theorem means {t : Tr} {l : Int} (h : okS t l = true) (hp : 0 < t.xs.length) :
    okN t = true ∧ okN (resS t l) = true ∧ (mnum t - l * mden t) * mden (resS t l) = mnum (resS t l) * mden t ∧ (-2400000 ≤ mnum t ∧ mnum t ≤ 2400000) ∧ (1 ≤ mden t ∧ mden t ≤ 24) ∧ (-2400000 ≤ mnum (resS t l) ∧ mnum (resS t l) ≤ 2400000) ∧ (1 ≤ mden (resS t l) ∧ mden (resS t l) ≤ 24) := by
  obtain ⟨g, hl, e, g2⟩ := okS_parts h
  have o1 := okN_yes g hp
  have hlen : (resS t l).xs.length = t.xs.length := by rw [e]; exact low_len _ _
  have o2 : okN (resS t l) = true := okN_yes g2 (by omega)
  have s1 := sum_bd t.xs (goodT_yes g).2 t.xs.length
  have s2 := sum_bd (resS t l).xs (goodT_yes g2).2 t.xs.length
  rw [List.take_length] at s1
  rw [← hlen, List.take_length, hlen] at s2
  have hn := (goodT_yes g).1.2.2.2.2.1
  have es : (resS t l).xs.sum = t.xs.sum - l * (t.xs.length : Int) := by rw [e]; exact low_sum _ _
  have m1 : mnum t = numR t.xs.sum t.xs.length := by unfold mnum; rw [if_pos o1]
  have m2 : mden t = denR t.xs.sum t.xs.length := by unfold mden; rw [if_pos o1]
  have m3 : mnum (resS t l) = numR (t.xs.sum - l * (t.xs.length : Int)) t.xs.length := by unfold mnum; rw [if_pos o2, es, hlen]
  have m4 : mden (resS t l) = denR (t.xs.sum - l * (t.xs.length : Int)) t.xs.length := by unfold mden; rw [if_pos o2, es, hlen]
  have hp1 : (1 : Int) ≤ (t.xs.length : Int) := by omega
  have bd : ∀ S : Int, -2400000 ≤ S ∧ S ≤ 2400000 → (-2400000 ≤ numR S t.xs.length ∧ numR S t.xs.length ≤ 2400000) ∧ (1 ≤ denR S t.xs.length ∧ denR S t.xs.length ≤ 24) := by
    intro S hS
    have h1 := tdiv_abs S (gcdR S t.xs.length)
    have h2 := den_gcd (n := S) hp1
    have h3 := gcdR_pos (n := S) hp1
    have h4 := tdiv_abs (t.xs.length : Int) (gcdR S t.xs.length)
    unfold numR
    have h5 : denR S t.xs.length = (t.xs.length : Int).tdiv (gcdR S t.xs.length : Nat) := rfl
    refine ⟨by omega, ?_, by omega⟩
    have h6 : 0 < denR S t.xs.length := by
      rcases Int.lt_or_le 0 (denR S t.xs.length) with q | q
      · exact q
      · have := Int.mul_nonpos_of_nonpos_of_nonneg q (show (0 : Int) ≤ (gcdR S t.xs.length : Nat) by omega)
        omega
    omega
  rw [m1, m2, m3, m4]
  rw [← es]
  refine ⟨o1, o2, by rw [es]; exact mean_cross _ _ _ hp1, (bd _ (by omega)).1, (bd _ (by omega)).2, (bd _ (by omega)).1, (bd _ (by omega)).2⟩
theorem vSize_is (x : Int) (w : World) (h0 : -100000 ≤ x) (h1 : x ≤ 100000) : Calls Try.prog 22 #[.int .i64 x] w fun e w' => e = .returned (.int .i64 (ab x)) ∧ w' = w := by
  by_cases h : x < 0
  · have HA := Lib.hid (show ab x = -x from if_pos h)
    go_enter Try.func22, Try.ntmps22
    go_wp2
    go_ret
    exact ⟨ret_int (by rw [HA.out]), rfl⟩
  · have HA := Lib.hid (show ab x = x from if_neg h)
    go_enter Try.func22, Try.ntmps22
    go_wp2
    go_ret
    exact ⟨ret_int (by rw [HA.out]), rfl⟩
set_option maxHeartbeats 400000 in
theorem vTrace_same (t : Tr) (v v2 : Value) (w : World) (h : TrL w w.heap.size v t) (h2 : TrL w w.heap.size v2 t) :
    Calls Try.prog 26 #[v, v2] w fun e w' => e = .returned (.bool true) ∧ Below w.heap.size w w' := by
  obtain ⟨vs, rfl, hl⟩ := h
  obtain ⟨vs2, rfl, hl2⟩ := h2
  have hb := ((Below.refl w.heap.size w).alloc (Nat.le_refl _) (.cells #[.int .i64 t.st, .int .i64 t.start, vs] 28)).alloc (by simp) (.cells #[.int .i64 t.st, .int .i64 t.start, vs2] 28)
  have C := Lib.hid (vInts_same t.xs vs vs2 _ w.heap.size (hl.below hb) (hl2.below hb) hb.size)
  clear hl hl2
  go_enter Try.func26, Try.ntmps26
  go_wp2_with fail
  refine C.out.mono ?_
  rintro e w1 ⟨rfl, hb1⟩
  go_wp2
  go_ret
  exact ⟨rfl, hb.trans (hb1.mono hb.size)⟩
end Go.Proofs.Ytklilfbokpljkac
