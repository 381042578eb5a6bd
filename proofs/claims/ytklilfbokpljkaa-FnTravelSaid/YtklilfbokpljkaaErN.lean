/- Models of the ground: the fastest way, the first overtaking, the reach. -/
import Derived.Test.YtklilfbokpljkaaErM
namespace Go.Proofs.Ytklilfbokpljkaa
open Go.ChangeShapes Go.WideShapes Go.ChangeAt Go.RowKit Go.ChangeMaps
set_option linter.unusedSimpArgs false
set_option linter.unusedVariables false

/-- The first place with the smallest value among 0 .. n. -/
def bestE (V : Nat → Int) : Nat → Nat
  | 0 => 0
  | n + 1 => if V (n + 1) < V (bestE V n) then n + 1 else bestE V n
theorem bestE_le (V : Nat → Int) : ∀ n, bestE V n ≤ n
  | 0 => Nat.le_refl _
  | n + 1 => by
    have := bestE_le V n
    unfold bestE
    split <;> omega
theorem bestE_min (V : Nat → Int) : ∀ n k, k ≤ n → V (bestE V n) ≤ V k
  | 0, k, h => by obtain rfl : k = 0 := by omega
                  exact Int.le_refl _
  | n + 1, k, h => by
    have i := bestE_min V n
    unfold bestE
    split
    · rename_i q
      rcases Nat.lt_or_ge n k with r | r
      · obtain rfl : k = n + 1 := by omega
        exact Int.le_refl _
      · have := i k r; omega
    · rename_i q
      rcases Nat.lt_or_ge n k with r | r
      · obtain rfl : k = n + 1 := by omega
        omega
      · exact i k r
/-- The last place is the best one just where its value is smaller than all before it. -/
theorem bestE_last (V : Nat → Int) (n : Nat) : bestE V n = n ↔ ∀ j, j < n → V n < V j := by
  cases n with
  | zero => simp [bestE]
  | succ n =>
    constructor
    · intro h j hj
      unfold bestE at h
      split at h
      · rename_i q
        have := bestE_min V n j (by omega)
        omega
      · have := bestE_le V n
        omega
    · intro h
      unfold bestE
      rw [if_pos (h _ (by have := bestE_le V n; omega))]
/-- The smallest time over a distance, in parts. -/
def minE (P : Int) (xs : List GEarth) (d : Int) : Int := viaE P xs d (bestE (viaE P xs d) (xs.length - 1))
theorem viaE_mono {xs : List GEarth} (h : okE xs) {c d : Int} (hcd : c ≤ d) {k : Nat} (hk : k < xs.length) : viaE (prodE xs) xs c k ≤ viaE (prodE xs) xs d k := by
  obtain ⟨e, he⟩ := get_of_lt hk
  have f := fkE_bd h (List.mem_of_getElem? he)
  rw [viaE_at he, viaE_at he]
  have := Int.mul_le_mul_of_nonneg_right hcd (show 0 ≤ fkE (prodE xs) e by omega)
  omega
theorem minE_mono {xs : List GEarth} (h : okE xs) {c d : Int} (hcd : c ≤ d) : minE (prodE xs) xs c ≤ minE (prodE xs) xs d := by
  have hl := h.1
  have hb := bestE_le (viaE (prodE xs) xs d) (xs.length - 1)
  have h1 := bestE_min (viaE (prodE xs) xs c) (xs.length - 1) _ hb
  have h2 := viaE_mono h hcd (k := bestE (viaE (prodE xs) xs d) (xs.length - 1)) (by omega)
  unfold minE
  omega
theorem minE_zero {xs : List GEarth} (h : okE xs) : minE (prodE xs) xs 0 = 0 := by
  have hl := h.1
  have h1 := bestE_min (viaE (prodE xs) xs 0) (xs.length - 1) 0 (by omega)
  have hb := bestE_le (viaE (prodE xs) xs 0) (xs.length - 1)
  have h2 := (viaE_bd h (d := 0) (by omega) (by omega) (k := bestE (viaE (prodE xs) xs 0) (xs.length - 1)) (by omega)).1
  have h3 : viaE (prodE xs) xs 0 0 = 0 := by unfold viaE; rw [Int.zero_mul]; rfl
  unfold minE
  omega
theorem minE_bd {xs : List GEarth} (h : okE xs) {d : Int} (h0 : 0 ≤ d) (h1 : d ≤ 2000) : 0 ≤ minE (prodE xs) xs d ∧ minE (prodE xs) xs d ≤ 22500000000 := by
  have hl := h.1
  have hb := bestE_le (viaE (prodE xs) xs d) (xs.length - 1)
  exact viaE_bd h h0 h1 (by omega)
/-- The first n numbers for which p does not hold, one after another. -/
def runE (p : Nat → Bool) : Nat → Nat
  | 0 => 0
  | n + 1 => if runE p n = n ∧ p n = false then n + 1 else runE p n
theorem runE_le (p : Nat → Bool) : ∀ n, runE p n ≤ n
  | 0 => Nat.le_refl _
  | n + 1 => by have := runE_le p n; unfold runE; split <;> omega
theorem runE_no (p : Nat → Bool) : ∀ n i, i < runE p n → p i = false
  | 0, i, h => by simp [runE] at h
  | n + 1, i, h => by
    unfold runE at h
    split at h
    · rename_i q
      rcases Nat.lt_or_ge i n with r | r
      · exact runE_no p n i (by omega)
      · obtain rfl : i = n := by omega
        exact q.2
    · exact runE_no p n i h
theorem runE_at (p : Nat → Bool) : ∀ n, runE p n < n → p (runE p n) = true
  | 0, h => by simp at h
  | n + 1, h => by
    unfold runE at h ⊢
    split at h
    · omega
    · rename_i q
      rw [if_neg q]
      have := runE_le p n
      rcases Nat.lt_or_ge (runE p n) n with r | r
      · exact runE_at p n r
      · have e : runE p n = n := by omega
        rw [e]
        cases hp : p n with
        | true => rfl
        | false => exact absurd ⟨e, hp⟩ q
/-- Whoever is such a first number is it. -/
theorem runE_is {p : Nat → Bool} {n r : Nat} (hr : r ≤ n) (h0 : ∀ i, i < r → p i = false) (h1 : r = n ∨ p r = true) : runE p n = r := by
  have a := runE_le p n
  have b := runE_no p n
  have c := runE_at p n
  rcases Nat.lt_trichotomy (runE p n) r with q | q | q
  · have := c (by omega)
    rw [h0 _ q] at this; cases this
  · exact q
  · have := b r q
    rcases h1 with rfl | h1
    · omega
    · rw [h1] at this; cases this
/-- The distance at which a layer overtakes. -/
def overE (P : Int) (xs : List GEarth) (k : Nat) (d : Nat) : Bool := decide (bestE (viaE P xs (d : Int)) k = k)
theorem overE_yes {P : Int} {xs : List GEarth} {k d : Nat} (h : ∀ j, j < k → viaE P xs d k < viaE P xs d j) : overE P xs k d = true := by
  unfold overE; exact decide_eq_true ((bestE_last _ _).2 h)
theorem overE_no {P : Int} {xs : List GEarth} {k d j : Nat} (hj : j < k) (h : ¬ viaE P xs d k < viaE P xs d j) : overE P xs k d = false := by
  unfold overE; exact decide_eq_false fun g => h ((bestE_last _ _).1 g j hj)
noncomputable def okOv (xs : List GEarth) (l : Int) : Bool := goodE xs && decide (1 ≤ l ∧ l ≤ (xs.length : Int) - 1) && decide (runE (overE (prodE xs) xs l.toNat) 2001 < 2001)
noncomputable def atOv (xs : List GEarth) (l : Int) : Int := if okOv xs l = true then (runE (overE (prodE xs) xs l.toNat) 2001 : Nat) else 0
/-- How far a wave comes in some seconds. -/
def farE (P : Int) (xs : List GEarth) (s : Int) (d : Nat) : Bool := decide (s * P < minE P xs (d : Int))
noncomputable def okRe (xs : List GEarth) (s : Int) : Bool := goodE xs && decide (0 ≤ s ∧ s ≤ 100000)
noncomputable def atRe (xs : List GEarth) (s : Int) : Int := if okRe xs s = true then (runE (farE (prodE xs) xs s) 2001 : Nat) - 1 else 0
theorem farE_mono {xs : List GEarth} (h : okE xs) (s : Int) {a b : Nat} (hab : a ≤ b) (ha : farE (prodE xs) xs s a = true) : farE (prodE xs) xs s b = true := by
  have := minE_mono h (c := (a : Int)) (d := (b : Int)) (by omega)
  unfold farE at *
  rw [decide_eq_true_eq] at *
  omega
theorem farE_zero {xs : List GEarth} (h : okE xs) {s : Int} (hs : 0 ≤ s) : farE (prodE xs) xs s 0 = false := by
  unfold farE
  have := minE_zero h
  have := Int.mul_nonneg hs (show 0 ≤ prodE xs by have := prodE_all h; omega)
  rw [decide_eq_false_iff_not]
  show ¬ s * prodE xs < minE (prodE xs) xs 0
  omega
theorem runE_count {p : Nat → Bool} (hm : ∀ a b : Nat, a ≤ b → p a = true → p b = true) : ∀ n : Nat, (List.range n).countP (fun (i : Nat) => !p i) = runE p n := by
  intro n
  induction n with
  | zero => rfl
  | succ n ih =>
    rw [List.range_succ, List.countP_append, ih]
    have le := runE_le p n
    show _ = if runE p n = n ∧ p n = false then n + 1 else runE p n
    by_cases hp : p n = true
    · rw [if_neg (fun g => by rw [hp] at g; cases g.2)]
      simp [hp]
    · have hp : p n = false := by simpa using hp
      have : runE p n = n := by
        rcases Nat.lt_or_ge (runE p n) n with q | q
        · have := hm _ n (by omega) (runE_at p n q)
          rw [hp] at this; cases this
        · omega
      rw [if_pos ⟨this, hp⟩]
      simp [hp, this]
/-- Where the search by halves ends. -/
theorem reach_is {xs : List GEarth} (h : okE xs) {s : Int} (hs : 0 ≤ s) {r : Nat} (hr : r ≤ 2000) (h0 : farE (prodE xs) xs s r = false) (h1 : r = 2000 ∨ farE (prodE xs) xs s (r + 1) = true) : runE (farE (prodE xs) xs s) 2001 = r + 1 := by
  refine runE_is (by omega) (fun i hi => ?_) (by rcases h1 with rfl | h1; exact Or.inl rfl; exact Or.inr h1)
  cases hq : farE (prodE xs) xs s i with
  | false => rfl
  | true =>
    have := farE_mono h s (show i ≤ r by omega) hq
    rw [h0] at this; cases this
end Go.Proofs.Ytklilfbokpljkaa
