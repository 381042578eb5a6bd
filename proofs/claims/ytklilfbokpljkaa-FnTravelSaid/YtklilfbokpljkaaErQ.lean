/- Models of the ground: what the laws ask. -/
import Derived.Test.YtklilfbokpljkaaErD
namespace Go.Proofs.Ytklilfbokpljkaa
open Go.ChangeShapes Go.WideShapes Go.ChangeAt Go.RowKit Go.ChangeMaps
set_option linter.unusedSimpArgs false
set_option linter.unusedVariables false

theorem okFi_ok {xs : List GEarth} {D : Int} (h : okFi xs D = true) : okE xs ∧ (0 ≤ D ∧ D ≤ 2000) := by
  unfold okFi at h
  rw [Bool.and_eq_true] at h
  exact ⟨goodE_yes h.1, of_decide_eq_true h.2⟩
theorem okFi_mk {xs : List GEarth} {D : Int} (h : okE xs) (hd : 0 ≤ D ∧ D ≤ 2000) : okFi xs D = true := by unfold okFi; rw [goodE_mk h, decide_eq_true hd]; rfl
theorem okVi_mk {xs : List GEarth} {k D : Int} (h : okE xs) (hd : 0 ≤ D ∧ D ≤ 2000) (hk : 0 ≤ k ∧ k ≤ (xs.length : Int) - 1) : okVi xs k D = true := by unfold okVi; rw [goodE_mk h, decide_eq_true hd, decide_eq_true hk]; rfl
theorem frac_bd {xs : List GEarth} (h : okE xs) {t : Int} (h0 : 0 ≤ t) (h1 : t ≤ 22500000000) : (0 ≤ numR t (prodE xs) ∧ numR t (prodE xs) ≤ 22500000000) ∧ (1 ≤ denR t (prodE xs) ∧ denR t (prodE xs) ≤ 312500000) := by
  have hP := prodE_all h
  have := red_bdE hP.1 h0 h1
  omega
theorem ft_bd {xs : List GEarth} {D : Int} (h : okFi xs D = true) : (0 ≤ numFt xs D ∧ numFt xs D ≤ 22500000000) ∧ (1 ≤ denFt xs D ∧ denFt xs D ≤ 312500000) := by
  obtain ⟨ho, hd⟩ := okFi_ok h
  have m := minE_bd ho hd.1 hd.2
  unfold numFt denFt
  rw [h]
  exact frac_bd ho m.1 m.2
theorem vi_at {xs : List GEarth} {k D : Int} (h : okVi xs k D = true) : numVi xs k D = numR (viaE (prodE xs) xs D k.toNat) (prodE xs) ∧ denVi xs k D = denR (viaE (prodE xs) xs D k.toNat) (prodE xs) := by unfold numVi denVi; rw [h]; exact ⟨rfl, rfl⟩
theorem vi_bd {xs : List GEarth} {k D : Int} (h : okVi xs k D = true) : (0 ≤ numVi xs k D ∧ numVi xs k D ≤ 22500000000) ∧ (1 ≤ denVi xs k D ∧ denVi xs k D ≤ 312500000) := by
  obtain ⟨e1, e2⟩ := vi_at h
  unfold okVi at h
  rw [Bool.and_eq_true, Bool.and_eq_true] at h
  have ho := goodE_yes h.1.1
  have hd := of_decide_eq_true h.1.2
  have hk := of_decide_eq_true h.2
  have m := viaE_bd ho hd.1 hd.2 (k := k.toNat) (by have := ho.1; omega)
  rw [e1, e2]
  exact frac_bd ho m.1 m.2
theorem ft_at {xs : List GEarth} {D : Int} (h : okFi xs D = true) : numFt xs D = numR (minE (prodE xs) xs D) (prodE xs) ∧ denFt xs D = denR (minE (prodE xs) xs D) (prodE xs) := by unfold numFt denFt; rw [h]; exact ⟨rfl, rfl⟩
/-- No way is faster than the first one. -/
theorem trav_facts {xs : List GEarth} {D : Int} (h : okFi xs D = true) (k : Nat) (hk : k < xs.length) :
    okVi xs (k : Int) D = true ∧ ¬ (numVi xs (k : Int) D * denFt xs D < numFt xs D * denVi xs (k : Int) D) ∧ ((k : Int) = layFi xs D → numVi xs (k : Int) D = numFt xs D ∧ denVi xs (k : Int) D = denFt xs D) := by
  obtain ⟨ho, hd⟩ := okFi_ok h
  have hv : okVi xs (k : Int) D = true := okVi_mk ho hd (by omega)
  obtain ⟨e1, e2⟩ := vi_at hv
  obtain ⟨e3, e4⟩ := ft_at h
  rw [Int.toNat_natCast] at e1 e2
  refine ⟨hv, ?_, fun hl => ?_⟩
  · rw [e1, e2, e3, e4, cmp_red (prodE_all ho).1]
    have := bestE_min (viaE (prodE xs) xs D) (xs.length - 1) k (by omega)
    unfold minE
    omega
  · unfold layFi at hl
    rw [h, if_pos rfl] at hl
    have : k = bestE (viaE (prodE xs) xs D) (xs.length - 1) := by omega
    rw [e1, e2, e3, e4]
    unfold minE
    rw [← this]
    exact ⟨rfl, rfl⟩
/-- A greater distance never has a smaller first time. -/
theorem next_facts {xs : List GEarth} {D : Int} (h : okFi xs D = true) (hd2 : D < 2000) : okFi xs (D + 1) = true ∧ ¬ (numFt xs (D + 1) * denFt xs D < numFt xs D * denFt xs (D + 1)) := by
  obtain ⟨ho, hd⟩ := okFi_ok h
  have h2 : okFi xs (D + 1) = true := okFi_mk ho (by omega)
  obtain ⟨e1, e2⟩ := ft_at h
  obtain ⟨e3, e4⟩ := ft_at h2
  refine ⟨h2, ?_⟩
  rw [e1, e2, e3, e4, cmp_red (prodE_all ho).1]
  have := minE_mono ho (c := D) (d := D + 1) (by omega)
  omega
/-- The reach is the greatest distance in time. -/
theorem reach_facts {xs : List GEarth} {s : Int} (h : okRe xs s = true) : (0 ≤ s ∧ s ≤ 100000) ∧ (0 ≤ atRe xs s ∧ atRe xs s ≤ 2000) ∧ okFi xs (atRe xs s) = true ∧ ¬ (s * denFt xs (atRe xs s) < numFt xs (atRe xs s)) ∧
    (atRe xs s < 2000 → okFi xs (atRe xs s + 1) = true ∧ ¬ (numFt xs (atRe xs s + 1) ≤ s * denFt xs (atRe xs s + 1))) := by
  have h' := h
  unfold okRe at h'
  rw [Bool.and_eq_true] at h'
  have ho := goodE_yes h'.1
  have hs := of_decide_eq_true h'.2
  have hr : atRe xs s = ((runE (farE (prodE xs) xs s) 2001 : Nat) : Int) - 1 := by unfold atRe; rw [h, if_pos rfl]
  have le := runE_le (farE (prodE xs) xs s) 2001
  have no := runE_no (farE (prodE xs) xs s) 2001
  have at_ := runE_at (farE (prodE xs) xs s) 2001
  have z := farE_zero ho hs.1
  generalize runE (farE (prodE xs) xs s) 2001 = r at *
  have hr1 : 1 ≤ r := by
    rcases Nat.eq_zero_or_pos r with q | q
    · have := at_ (by omega)
      rw [q, z] at this; cases this
    · exact q
  have hP := (prodE_all ho).1
  rw [hr]
  have ha : okFi xs ((r : Int) - 1) = true := okFi_mk ho (by omega)
  refine ⟨hs, by omega, ha, ?_, fun h2 => ?_⟩
  · obtain ⟨e1, e2⟩ := ft_at ha
    rw [e1, e2]
    have := no (r - 1) (by omega)
    unfold farE at this
    rw [decide_eq_false_iff_not, show ((r - 1 : Nat) : Int) = (r : Int) - 1 by omega] at this
    have := (cmp_sec (x := minE (prodE xs) xs ((r : Int) - 1)) (s := s) hP).2 (by omega)
    omega
  · have hb : okFi xs ((r : Int) - 1 + 1) = true := okFi_mk ho (by omega)
    refine ⟨hb, ?_⟩
    obtain ⟨e1, e2⟩ := ft_at hb
    rw [e1, e2, show (r : Int) - 1 + 1 = (r : Int) by omega]
    have := at_ (by omega)
    unfold farE at this
    rw [decide_eq_true_eq] at this
    intro q
    have := (cmp_sec (x := minE (prodE xs) xs (r : Int)) (s := s) hP).1 q
    omega
/-- A layer that overtakes is faster than those above. -/
theorem over_facts {xs : List GEarth} {l : Int} (h : okOv xs l = true) : (1 ≤ l ∧ l ≤ 4) ∧ I64 (atOv xs l) ∧ okVi xs l (atOv xs l) = true ∧
    ∀ k : Nat, (k : Int) < l → okVi xs (k : Int) (atOv xs l) = true ∧ numVi xs l (atOv xs l) * denVi xs (k : Int) (atOv xs l) < numVi xs (k : Int) (atOv xs l) * denVi xs l (atOv xs l) := by
  have h' := h
  unfold okOv at h'
  rw [Bool.and_eq_true, Bool.and_eq_true] at h'
  have ho := goodE_yes h'.1.1
  have hl := of_decide_eq_true h'.1.2
  have hr := of_decide_eq_true h'.2
  have hlen := ho.1
  have ha : atOv xs l = ((runE (overE (prodE xs) xs l.toNat) 2001 : Nat) : Int) := by unfold atOv; rw [h, if_pos rfl]
  have at_ := runE_at (overE (prodE xs) xs l.toNat) 2001 hr
  generalize runE (overE (prodE xs) xs l.toNat) 2001 = d at *
  rw [ha]
  have hd : (0 : Int) ≤ (d : Int) ∧ (d : Int) ≤ 2000 := by omega
  have hv := okVi_mk ho hd (k := l) (by omega)
  refine ⟨by omega, by unfold I64; omega, hv, fun k hk => ?_⟩
  have hvk := okVi_mk ho hd (k := (k : Int)) (by omega)
  refine ⟨hvk, ?_⟩
  obtain ⟨e1, e2⟩ := vi_at hv
  obtain ⟨e3, e4⟩ := vi_at hvk
  rw [Int.toNat_natCast] at e3 e4
  rw [e1, e2, e3, e4, cmp_red (prodE_all ho).1]
  unfold overE at at_
  have := (bestE_last _ _).1 (of_decide_eq_true at_)
  exact this k (by omega)
/-- The mean speed gives the time. -/
theorem mean_ok (xs : List GEarth) (d : Int) : okMs xs d = (okTo xs d && decide (0 < d)) := by
  unfold okMs okTo
  cases goodE xs with
  | false => rfl
  | true =>
    rw [Bool.true_and, Bool.true_and]
    by_cases h1 : 1 ≤ d ∧ d ≤ depE xs
    · rw [decide_eq_true h1, decide_eq_true (show 0 ≤ d ∧ d ≤ depE xs by omega), decide_eq_true (show 0 < d by omega)]; rfl
    · rw [decide_eq_false h1]
      by_cases h2 : 0 < d
      · rw [decide_eq_false (show ¬ (0 ≤ d ∧ d ≤ depE xs) by omega)]; rfl
      · rw [decide_eq_false h2, Bool.and_false]
theorem mean_facts {xs : List GEarth} {d : Int} (h : okMs xs d = true) : (0 ≤ d * denMs xs d ∧ d * denMs xs d ≤ 6250000000000) ∧ numMs xs d * numTo xs d = d * denMs xs d * denTo xs d := by
  have h' := h
  unfold okMs at h'
  rw [Bool.and_eq_true] at h'
  have ho := goodE_yes h'.1
  have hd := of_decide_eq_true h'.2
  have hda := depE_all ho
  have ht : okTo xs d = true := by have := mean_ok xs d; rw [h] at this; cases hq : okTo xs d with
    | false => rw [hq] at this; cases this
    | true => rfl
  have e1 : numTo xs d = numR (toE (prodE xs) xs d xs.length) (prodE xs) := by unfold numTo; rw [ht]; rfl
  have e2 : denTo xs d = denR (toE (prodE xs) xs d xs.length) (prodE xs) := by unfold denTo; rw [ht]; rfl
  have e3 : numMs xs d = numR (d * denTo xs d) (numTo xs d) := by rw [e1, e2]; unfold numMs; rw [h]; rfl
  have e4 : denMs xs d = denR (d * denTo xs d) (numTo xs d) := by rw [e1, e2]; unfold denMs; rw [h]; rfl
  have tb := to_bd ho d
  have tp := num_pos (P := prodE xs) (toE_all ho hd.1)
  rw [← e1, ← e2] at tb
  rw [← e1] at tp
  have b1 := den_gcdE (n := d * denTo xs d) tp
  have a1 := num_gcdE (d * denTo xs d) (numTo xs d)
  have dp := den_pos (t := d * denTo xs d) tp
  have g1 := gcdR_pos (n := d * denTo xs d) tp
  rw [← e4] at b1 dp
  rw [← e3] at a1
  generalize gcdR (d * denTo xs d) (numTo xs d) = g at *
  generalize numMs xs d = a at *
  generalize denMs xs d = b at *
  generalize numTo xs d = n at *
  generalize denTo xs d = e at *
  have hbn : b ≤ n := by
    have := Int.mul_le_mul_of_nonneg_left (show (1 : Int) ≤ (g : Nat) by omega) (show 0 ≤ b by omega)
    omega
  refine ⟨?_, ?_⟩
  · have := mul_bdE (A := 1000) (C := 6250000000) (show 0 ≤ d by omega) (show d ≤ 1000 by omega) (show 0 ≤ b by omega) (show b ≤ 6250000000 by omega)
    omega
  · rw [← b1]
    have : d * b * e = (d * e) * b := by simp only [Int.mul_assoc, Int.mul_comm, Int.mul_left_comm]
    rw [this, ← a1]
    simp only [Int.mul_assoc, Int.mul_comm, Int.mul_left_comm]
theorem depth_facts {xs : List GEarth} (h : okMd xs = true) : okTo xs (numMd xs) = true ∧ okTo xs (numMd xs + 1) = false := by
  have e : numMd xs = depE xs := by unfold numMd; rw [h]; rfl
  unfold okMd at h
  have := depE_all (goodE_yes h)
  unfold okTo
  rw [e, h, decide_eq_true (show 0 ≤ depE xs ∧ depE xs ≤ depE xs by omega), decide_eq_false (show ¬ (0 ≤ depE xs + 1 ∧ depE xs + 1 ≤ depE xs) by omega)]
  exact ⟨rfl, rfl⟩
end Go.Proofs.Ytklilfbokpljkaa
