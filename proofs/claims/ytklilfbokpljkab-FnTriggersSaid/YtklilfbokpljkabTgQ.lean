/- Triggers: what the two laws ask. -/
import Derived.Test.YtklilfbokpljkabTgD
namespace Go.Proofs.Ytklilfbokpljkab
open Go.ChangeShapes Go.WideShapes Go.ChangeAt Go.RowKit Go.ChangeMaps
set_option linter.unusedSimpArgs false
set_option linter.unusedVariables false
set_option linter.unusedSimpArgs false
set_option linter.unusedVariables false

/-- Each time begins behind the end of the one before it. -/
theorem tmA_pw (L Q : Nat → Bool) (n : Nat) : ∀ d p, n - p = d → (tmA L Q n p none).Pairwise (fun a b => a.2 < b.1) ∧ ∀ a, (tmA L Q n p (some a)).Pairwise (fun a b => a.2 < b.1)
  | 0, p, h => by
    refine ⟨?_, fun a => ?_⟩
    · rw [tmA_end (by omega)]; exact List.Pairwise.nil
    · rw [tmA_last (by omega)]; simp
  | d + 1, p, h => by
    obtain ⟨i, j⟩ := tmA_pw L Q n d (p + 1) (by omega)
    refine ⟨?_, fun a => ?_⟩
    · rw [tmA_off (by omega)]; split
      · exact j _
      · exact i
    · rw [tmA_on (by omega)]; split
      · refine List.Pairwise.cons (fun q hq => ?_) i
        have := (tmA_mem L Q n _ (p + 1) rfl).1 q hq
        show (p : Int) < q.1
        omega
      · exact j a
theorem timesT_pw (xs : List Int) (s : GSetting) : (timesT xs s).Pairwise (fun a b => a.2 < b.1) := (tmA_pw _ _ _ _ _ rfl).1
theorem timesT_next {xs : List Int} {s : GSetting} {k : Nat} {q r : Int × Int} (h : (timesT xs s)[k]? = some q) (h2 : (timesT xs s)[k + 1]? = some r) : q.2 < r.1 := by
  have hp := timesT_pw xs s
  obtain ⟨hk, e⟩ := List.getElem?_eq_some_iff.1 h
  obtain ⟨hk2, e2⟩ := List.getElem?_eq_some_iff.1 h2
  have := List.pairwise_iff_getElem.1 hp k (k + 1) hk hk2 (by omega)
  rw [e, e2] at this
  exact this
/-- The lengths of the times. -/
def sumD (l : List (Int × Int)) : Int := (l.map fun q => q.2 - q.1).sum
theorem sumD_take {l : List (Int × Int)} {k : Nat} {q : Int × Int} (h : l[k]? = some q) : sumD (l.take (k + 1)) = sumD (l.take k) + (q.2 - q.1) := by
  unfold sumD
  rw [take_snoc h, List.map_append, List.sum_append]
  simp
theorem sumD_bd {n : Int} : ∀ (l : List (Int × Int)), (∀ q ∈ l, q.1 < q.2 ∧ q.2 - q.1 ≤ n) → 0 ≤ sumD l ∧ sumD l ≤ n * l.length
  | [], _ => by simp [sumD]
  | q :: l, h => by
    have i := sumD_bd l (fun r hr => h r (List.mem_cons_of_mem _ hr))
    have := h q (List.mem_cons_self ..)
    have e : sumD (q :: l) = (q.2 - q.1) + sumD l := by simp [sumD]
    have e2 : n * (((q :: l).length : Nat) : Int) = n * (l.length : Int) + n := by rw [List.length_cons]; push_cast; rw [Int.mul_add, Int.mul_one]
    rw [e, e2]
    omega
def cntT (l : List (Int × Int)) : Nat → Int
  | 0 => 0
  | k + 1 => cntT l k + if inP l (k : Int) then 1 else 0
theorem cntT_bd (l : List (Int × Int)) : ∀ k : Nat, 0 ≤ cntT l k ∧ cntT l k ≤ (k : Int)
  | 0 => ⟨Int.le_refl _, Int.le_refl _⟩
  | k + 1 => by
    have := cntT_bd l k
    unfold cntT
    split <;> omega
def cnt1 (q : Int × Int) (k : Int) : Int := if k ≤ q.1 then 0 else if k ≤ q.2 then k - q.1 else q.2 - q.1
theorem cntT_cons (q : Int × Int) (l : List (Int × Int)) (h0 : 0 ≤ q.1) (h1 : q.1 < q.2) (hp : ∀ r ∈ l, q.2 < r.1) : ∀ k : Nat, cntT (q :: l) k = cnt1 q (k : Int) + cntT l k
  | 0 => by
    show (0 : Int) = cnt1 q 0 + 0
    unfold cnt1
    rw [if_pos h0]; rfl
  | k + 1 => by
    have i := cntT_cons q l h0 h1 hp k
    show cntT (q :: l) k + (if inP (q :: l) (k : Int) then 1 else 0) = cnt1 q ((k + 1 : Nat) : Int) + (cntT l k + if inP l (k : Int) then 1 else 0)
    rw [i]
    have hin : inP (q :: l) (k : Int) = (decide (q.1 ≤ (k : Int) ∧ (k : Int) < q.2) || inP l (k : Int)) := by unfold inP; rw [List.any_cons]
    rw [hin]
    by_cases hq : q.1 ≤ (k : Int) ∧ (k : Int) < q.2
    · have hno : inP l (k : Int) = false := by
        unfold inP
        rw [List.any_eq_false]
        intro r hr
        have := hp r hr
        simp only [decide_eq_true_eq, not_and, Int.not_lt]
        omega
      rw [hno, decide_eq_true hq]
      simp only [Bool.or_false, if_true, Bool.false_eq_true, if_false]
      unfold cnt1
      split <;> split <;> (try split) <;> (try split) <;> omega
    · rw [decide_eq_false hq, Bool.false_or]
      unfold cnt1
      split <;> split <;> (try split) <;> (try split) <;> (try split) <;> omega
theorem cntT_all {n : Nat} : ∀ l : List (Int × Int), l.Pairwise (fun a b => a.2 < b.1) → (∀ q ∈ l, 0 ≤ q.1 ∧ q.1 < q.2 ∧ q.2 ≤ (n : Int)) → cntT l n = sumD l
  | [], _, _ => by
    have : ∀ k, cntT [] k = 0 := fun k => by
      induction k with
      | zero => rfl
      | succ k ih => unfold cntT; rw [ih]; rfl
    rw [this]; rfl
  | q :: l, hp, hb => by
    rw [List.pairwise_cons] at hp
    have hq := hb q (List.mem_cons_self ..)
    rw [cntT_cons q l hq.1 hq.2.1 hp.1, cntT_all l hp.2 (fun r hr => hb r (List.mem_cons_of_mem _ hr))]
    have e : sumD (q :: l) = (q.2 - q.1) + sumD l := by simp [sumD]
    rw [e]
    unfold cnt1
    split
    · omega
    · split <;> omega
theorem count_times (xs : List Int) (s : GSetting) : cntT (timesT xs s) xs.length = sumD (timesT xs s) :=
  cntT_all _ (timesT_pw xs s) fun q hq => by have := timesT_mem xs s hq; omega
theorem bstP_pos : ∀ (l : List (Int × Int)) (b : Int × Int), 0 ≤ b.2 → (∀ q ∈ l, q.1 < q.2) → (0 < b.2 ∨ l ≠ [] ↔ 0 < (l.foldl stepP b).2) ∧ 0 ≤ (l.foldl stepP b).2
  | [], b, h, _ => ⟨by simp, h⟩
  | q :: l, b, h, hl => by
    have hq := hl q (List.mem_cons_self ..)
    have hs : 0 < (stepP b q).2 := by
      unfold stepP
      split
      · show 0 < q.2 - q.1; omega
      · rename_i g; omega
    have i := bstP_pos l (stepP b q) (by omega) (fun r hr => hl r (List.mem_cons_of_mem _ hr))
    refine ⟨⟨fun _ => ?_, fun _ => Or.inr (by simp)⟩, i.2⟩
    exact i.1.1 (Or.inl hs)
theorem long_iff (xs : List Int) (s : GSetting) : decide (0 < (bstP (timesT xs s)).2) = decide (0 < (timesT xs s).length) := by
  rw [decide_eq_decide]
  have := (bstP_pos (timesT xs s) (0, 0) (Int.le_refl _) (fun q hq => (timesT_mem xs s hq).2.1)).1
  unfold bstP
  rw [← this, List.length_pos_iff]
  simp
/-- No ratio is greater than the greatest. -/
theorem frac_trans {a b c d e f : Int} (hd : 1 ≤ d) (h1 : a * d ≤ c * b) (h2 : c * f ≤ e * d) (hb : 1 ≤ b) (hf : 1 ≤ f) : a * f ≤ e * b := by
  have e1 := Int.mul_le_mul_of_nonneg_right h1 (show 0 ≤ f by omega)
  have e2 := Int.mul_le_mul_of_nonneg_right h2 (show 0 ≤ b by omega)
  refine Int.le_of_mul_le_mul_right (a := d) ?_ (by omega)
  have q1 : a * f * d = a * d * f := by grind
  have q2 : e * b * d = e * d * b := by grind
  have q3 : c * b * f = c * f * b := by grind
  omega
theorem grT_max {xs : List Int} {s : GSetting} (hx : ∀ x ∈ xs, -100000 ≤ x ∧ x ≤ 100000) (hs : okS s) : ∀ k, plT s + k < xs.length → ∀ j, j ≤ k → nT xs s (plT s + j) * dT xs s (grT xs s k) ≤ nT xs s (grT xs s k) * dT xs s (plT s + j)
  | 0, _, j, hj => by obtain rfl : j = 0 := by omega
                      exact Int.le_refl _
  | k + 1, hk, j, hj => by
    have hpl : ((plT s : Nat) : Int) = s.pLong - 1 := by unfold plT; have := hs.1; have := hs.2.1; omega
    have i := grT_max hx hs k (by omega)
    have hgl := grT_le xs s k
    have b1 := nT_bd hx hs (p := grT xs s k) (by omega) (by omega)
    have b2 := nT_bd hx hs (p := plT s + k + 1) (by omega) (by omega)
    have b3 := nT_bd hx hs (p := plT s + j) (by omega) (by omega)
    show nT xs s (plT s + j) * dT xs s (if gtT xs s (plT s + k + 1) (grT xs s k) then plT s + k + 1 else grT xs s k) ≤ nT xs s (if gtT xs s (plT s + k + 1) (grT xs s k) then plT s + k + 1 else grT xs s k) * dT xs s (plT s + j)
    cases hg : gtT xs s (plT s + k + 1) (grT xs s k) with
    | true =>
      have hg2 := of_decide_eq_true hg
      rw [if_pos rfl]
      rcases Nat.lt_or_ge k j with q | q
      · obtain rfl : j = k + 1 := by omega
        exact Int.le_refl _
      · exact frac_trans b1.2.1 (i j q) (Int.le_of_lt hg2) b3.2.1 b2.2.1
    | false =>
      have hg2 := of_decide_eq_false hg
      rw [if_neg Bool.false_ne_true]
      rcases Nat.lt_or_ge k j with q | q
      · obtain rfl : j = k + 1 := by omega
        exact Int.not_lt.1 hg2
      · exact i j q
/-- What the law on ratios asks at a place. -/
theorem ratio_facts {xs : List Int} {s : GSetting} (h : okGr xs s = true) :
    (goodTg xs s = true ∧ s.pLong - 1 ≤ atGr xs s ∧ atGr xs s ≤ 30 ∧ (0 ≤ numGr xs s ∧ numGr xs s ≤ 10000000) ∧ (1 ≤ denGr xs s ∧ denGr xs s ≤ 10000000)) ∧
    ∀ p : Int, s.pLong - 1 ≤ p → p < (xs.length : Int) → okRa xs s p = true ∧ (0 ≤ numRa xs s p ∧ numRa xs s p ≤ 10000000) ∧ (1 ≤ denRa xs s p ∧ denRa xs s p ≤ 10000000) ∧ numRa xs s p * denGr xs s ≤ numGr xs s * denRa xs s p ∧ (p = atGr xs s → numRa xs s p = numGr xs s ∧ denRa xs s p = denGr xs s) := by
  obtain ⟨hg, hL⟩ := okGr_yes h
  obtain ⟨hx, hs⟩ := goodTg_yes hg
  obtain ⟨hx1, hx2⟩ := okL_yes hx
  have hpl : ((plT s : Nat) : Int) = s.pLong - 1 := by unfold plT; have := hs.1; have := hs.2.1; omega
  have h1 := hs.1
  have h2 := hs.2.1
  have hgl := grT_le xs s (xs.length - s.pLong.toNat)
  have hb : bstR xs s = grT xs s (xs.length - s.pLong.toNat) := rfl
  rw [← hb] at hgl
  have b1 := nT_bd hx1 hs (p := bstR xs s) (by omega) (by omega)
  have r1 := red_bdQ (n := nT xs s (bstR xs s)) (d := dT xs s (bstR xs s)) (N := 10000000) b1.2.1 b1.1.1 b1.1.2
  have e1 : atGr xs s = (bstR xs s : Nat) := by unfold atGr; rw [h, if_pos rfl]
  have e2 : numGr xs s = numR (nT xs s (bstR xs s)) (dT xs s (bstR xs s)) := by unfold numGr; rw [h, if_pos rfl]
  have e3 : denGr xs s = denR (nT xs s (bstR xs s)) (dT xs s (bstR xs s)) := by unfold denGr; rw [h, if_pos rfl]
  rw [e1, e2, e3]
  refine ⟨⟨hg, by omega, by omega, r1.1, by omega⟩, fun p hp0 hp1 => ?_⟩
  obtain ⟨q, rfl⟩ : ∃ q : Nat, p = (q : Int) := ⟨p.toNat, by omega⟩
  have ho : okRa xs s (q : Int) = true := by unfold okRa; rw [hg, decide_eq_true (by omega)]; rfl
  have b2 := nT_bd hx1 hs (p := q) (by omega) (by omega)
  have r2 := red_bdQ (n := nT xs s q) (d := dT xs s q) (N := 10000000) b2.2.1 b2.1.1 b2.1.2
  have e4 : numRa xs s (q : Int) = numR (nT xs s q) (dT xs s q) := by unfold numRa; rw [ho, if_pos rfl, Int.toNat_natCast]
  have e5 : denRa xs s (q : Int) = denR (nT xs s q) (dT xs s q) := by unfold denRa; rw [ho, if_pos rfl, Int.toNat_natCast]
  rw [e4, e5]
  refine ⟨ho, r2.1, by omega, ?_, fun e => ?_⟩
  · rw [red_cmpQ b2.2.1 b1.2.1]
    obtain ⟨j, hj⟩ : ∃ j, q = plT s + j := ⟨q - plT s, by omega⟩
    rw [hj, hb]
    exact grT_max hx1 hs _ (by omega) j (by omega)
  · have : q = bstR xs s := by omega
    rw [this]; exact ⟨rfl, rfl⟩
/-- What the law on ratios asks of the least threshold. -/
theorem least_facts {xs : List Int} {s : GSetting} (h : okLe xs s = true) :
    (s.pOff ≤ numLe xs s ∧ numLe xs s ≤ 1000 ∧ 10 ≤ s.pOff) ∧ (goodTg xs (setOn s (numLe xs s)) = true ∧ onsT xs (setOn s (numLe xs s)) = []) ∧
    (s.pOff < numLe xs s → goodTg xs (setOn s (numLe xs s - 1)) = true ∧ 0 < (onsT xs (setOn s (numLe xs s - 1))).length) := by
  have hn : numLe xs s = (leT xs s : Nat) := by unfold numLe; rw [h, if_pos rfl]
  unfold okLe at h
  rw [Bool.and_eq_true] at h
  obtain ⟨hg, hlt⟩ := h
  have hlt := of_decide_eq_true hlt
  obtain ⟨hx, hs⟩ := goodTg_yes hg
  obtain ⟨q1, q2, ⟨q3, q4⟩, q5, q6⟩ := id hs
  have hge : s.pOff.toNat ≤ leT xs s := nxT_ge _ _ _ (by omega)
  have hat : noneT xs s (leT xs s) = true := nxT_at (noneT xs s) 1001 s.pOff.toNat hlt
  rw [hn]
  have gd : ∀ t : Int, s.pOff ≤ t → t ≤ 1000 → goodTg xs (setOn s t) = true := fun t t0 t1 => by
    unfold goodTg; rw [hx, goodS_mk (setOn_ok hs t0 t1)]; rfl
  refine ⟨⟨by omega, by omega, q5⟩, ⟨gd _ (by omega) (by omega), ?_⟩, fun hlt2 => ?_⟩
  · have := setOn_nil xs s (leT xs s)
    rw [hat] at this
    unfold onsT
    rw [gd _ (by omega) (by omega), if_pos rfl, of_decide_eq_true this]
    rfl
  · have hb : noneT xs s (leT xs s - 1) = false := nxT_before (noneT xs s) 1001 s.pOff.toNat (leT xs s - 1) (by omega) (by show leT xs s - 1 < leT xs s; omega)
    have e : ((leT xs s : Nat) : Int) - 1 = ((leT xs s - 1 : Nat) : Int) := by omega
    rw [e]
    have g := gd ((leT xs s - 1 : Nat) : Int) (by omega) (by omega)
    refine ⟨g, ?_⟩
    have := setOn_nil xs s (leT xs s - 1)
    rw [hb] at this
    have hne := of_decide_eq_false this
    unfold onsT
    rw [g, if_pos rfl, List.length_map]
    exact List.length_pos_iff.2 hne
/-- What the law on triggers asks. -/
theorem times_facts {xs : List Int} {s : GSetting} (h : goodTg xs s = true) : xs.length ≤ 24 ∧ trgT xs s = timesT xs s ∧ lenLo xs s = (bstP (timesT xs s)).2 ∧ okLo xs s = decide (0 < (timesT xs s).length) ∧ (onsT xs s).length = (timesT xs s).length := by
  have e : trgT xs s = timesT xs s := by unfold trgT; rw [h, if_pos rfl]
  have e2 : lenLo xs s = (bstP (timesT xs s)).2 := by unfold lenLo; rw [e]
  refine ⟨(okL_yes (goodTg_yes h).1).2, e, e2, ?_, ?_⟩
  · unfold okLo; rw [e2]; exact long_iff xs s
  · unfold onsT; rw [h, if_pos rfl, List.length_map]
theorem isOn_facts {xs : List Int} {s : GSetting} (h : goodTg xs s = true) (i : Nat) (hi : i < xs.length) : okAt xs s (i : Int) = true ∧ isOnT xs s (i : Int) = inP (timesT xs s) (i : Int) := by
  have e : okAt xs s (i : Int) = true := by unfold okAt; rw [h, decide_eq_true (by omega)]; rfl
  exact ⟨e, by unfold isOnT; rw [e]; rfl⟩
theorem ons_trg_len (xs : List Int) (s : GSetting) : (onsT xs s).length = (trgT xs s).length := by
  unfold onsT trgT
  split
  · rw [List.length_map]
  · rfl
end Go.Proofs.Ytklilfbokpljkab
