/- Triggers: the mathematics of ratios, places and times. -/
import Derived.Test.YtklilfbokpljkabFSetting
import Derived.Test.YtklilfbokpljkabRed
import Derived.Test.YtklilfbokpljkabAcc
namespace Go.Proofs.Ytklilfbokpljkab
open Go.ChangeShapes Go.WideShapes Go.ChangeAt Go.RowKit Go.ChangeMaps
set_option linter.unusedSimpArgs false
set_option linter.unusedVariables false

theorem num_gcdQ (n d : Int) : numR n d * (gcdR n d : Nat) = n := by
  unfold numR
  refine Int.tdiv_mul_cancel ?_
  rw [Int.ofNat_dvd_left]
  exact Nat.gcd_dvd_left _ _
theorem den_gcdQ {n d : Int} (h : 1 ≤ d) : denR n d * (gcdR n d : Nat) = d := by
  unfold denR
  refine Int.tdiv_mul_cancel ?_
  rw [Int.ofNat_dvd_left]
  have := Nat.gcd_dvd_right n.natAbs d.toNat
  have e : d.natAbs = d.toNat := by omega
  rw [e]; exact this
/-- A fraction in lowest terms stays within its bounds. -/
theorem red_bdQ {n d N : Int} (hd : 1 ≤ d) (h0 : 0 ≤ n) (h1 : n ≤ N) : (0 ≤ numR n d ∧ numR n d ≤ N) ∧ (1 ≤ denR n d ∧ denR n d ≤ d) := by
  have a1 := num_gcdQ n d
  have b1 := den_gcdQ (n := n) hd
  have g1 := gcdR_pos (n := n) hd
  generalize gcdR n d = g at *
  generalize numR n d = a at *
  generalize denR n d = b at *
  have hg : (1 : Int) ≤ (g : Nat) := by omega
  have ha : 0 ≤ a := by
    rcases Int.lt_or_le a 0 with q | q
    · have := Int.mul_le_mul_of_nonneg_right (show a ≤ -1 by omega) (show (0 : Int) ≤ (g : Nat) by omega)
      omega
    · exact q
  have hb : 1 ≤ b := by
    rcases Int.lt_or_le 0 b with q | q
    · omega
    · have := Int.mul_nonpos_of_nonpos_of_nonneg q (show (0 : Int) ≤ (g : Nat) by omega)
      omega
  have e1 := Int.mul_le_mul_of_nonneg_left hg ha
  have e2 := Int.mul_le_mul_of_nonneg_left hg (show (0 : Int) ≤ b by omega)
  omega
theorem numR_normQ {n d : Int} (h : 1 ≤ d) : numR n d = (Rat.normalize n d.toNat (by omega)).num ∧ denR n d = ((Rat.normalize n d.toNat (by omega)).den : Nat) := by
  rw [Rat.normalize_eq]
  unfold numR denR gcdR
  have g1 : 0 < Nat.gcd n.natAbs d.toNat := Nat.gcd_pos_of_pos_right _ (by omega)
  constructor
  · show n.tdiv _ = n / _
    rw [Int.tdiv_eq_ediv_of_dvd]
    rw [Int.ofNat_dvd_left]
    exact Nat.gcd_dvd_left _ _
  · show d.tdiv _ = ((d.toNat / _ : Nat) : Int)
    rw [Int.tdiv_eq_ediv_of_nonneg (by omega), Int.natCast_ediv]
    congr 1
    omega
/-- Two fractions of one value have the same lowest terms. -/
theorem red_eqQ {a b c d : Int} (hb : 1 ≤ b) (hd : 1 ≤ d) (h : a * d = c * b) : numR a b = numR c d ∧ denR a b = denR c d := by
  have e : Rat.normalize a b.toNat (by omega) = Rat.normalize c d.toNat (by omega) := by
    rw [Rat.normalize_eq_iff]
    rw [show ((d.toNat : Nat) : Int) = d by omega, show ((b.toNat : Nat) : Int) = b by omega]
    exact h
  have e1 := numR_normQ (n := a) hb
  have e2 := numR_normQ (n := c) hd
  rw [e1.1, e1.2, e2.1, e2.2, e]
  exact ⟨rfl, rfl⟩
theorem mul_leQ {x y : Int} {g : Nat} (hg : 1 ≤ g) : x * g ≤ y * g ↔ x ≤ y :=
  ⟨fun h => Int.le_of_mul_le_mul_right h (by omega), fun h => Int.mul_le_mul_of_nonneg_right h (by omega)⟩
/-- A multiple compares to a fraction as it does to its lowest terms. -/
theorem red_leQ {n d : Int} (hd : 1 ≤ d) (a t : Int) : t * denR n d ≤ a * numR n d ↔ t * d ≤ a * n := by
  have g1 := gcdR_pos (n := n) hd
  have e1 := num_gcdQ n d
  have e2 := den_gcdQ (n := n) hd
  rw [← mul_leQ g1, Int.mul_assoc, Int.mul_assoc, e1, e2]
theorem red_geQ {n d : Int} (hd : 1 ≤ d) (a t : Int) : a * numR n d ≤ t * denR n d ↔ a * n ≤ t * d := by
  have g1 := gcdR_pos (n := n) hd
  have e1 := num_gcdQ n d
  have e2 := den_gcdQ (n := n) hd
  rw [← mul_leQ g1, Int.mul_assoc, Int.mul_assoc, e1, e2]
/-- Two fractions compare as their lowest terms do. -/
theorem red_cmpQ {a b c d : Int} (hb : 1 ≤ b) (hd : 1 ≤ d) : numR a b * denR c d ≤ numR c d * denR a b ↔ a * d ≤ c * b := by
  have g1 := gcdR_pos (n := a) hb
  have g2 := gcdR_pos (n := c) hd
  have e1 := num_gcdQ a b
  have e2 := den_gcdQ (n := a) hb
  have e3 := num_gcdQ c d
  have e4 := den_gcdQ (n := c) hd
  generalize gcdR a b = g at *
  generalize gcdR c d = k at *
  generalize numR a b = p at *
  generalize denR a b = q at *
  generalize numR c d = r at *
  generalize denR c d = s at *
  subst e1 e2 e3 e4
  rw [← mul_leQ (x := p * s) g1, ← mul_leQ (x := p * s * g) g2]
  rw [show p * s * g * k = p * g * (s * k) by grind, show r * q * g * k = r * k * (q * g) by grind]
theorem mul_bdQ {a b A B : Int} (ha : 0 ≤ a) (ha1 : a ≤ A) (hb : 0 ≤ b) (hb1 : b ≤ B) : 0 ≤ a * b ∧ a * b ≤ A * B :=
  ⟨Int.mul_nonneg ha hb, Int.mul_le_mul ha1 hb1 hb (by omega)⟩

def okS (s : GSetting) : Prop := (1 ≤ s.pShort ∧ s.pShort ≤ 5) ∧ (s.pShort + 1 ≤ s.pLong ∧ s.pLong ≤ 20) ∧ (10 ≤ s.pOn ∧ s.pOn ≤ 1000) ∧ (10 ≤ s.pOff ∧ s.pOff ≤ s.pOn)
def goodS (s : GSetting) : Bool := decide ((1 ≤ s.pShort ∧ s.pShort ≤ 5) ∧ (s.pShort + 1 ≤ s.pLong ∧ s.pLong ≤ 20) ∧ (10 ≤ s.pOn ∧ s.pOn ≤ 1000) ∧ (10 ≤ s.pOff ∧ s.pOff ≤ s.pOn))
theorem goodS_yes {s : GSetting} (h : goodS s = true) : okS s := by unfold goodS at h; have g := of_decide_eq_true h; exact g
theorem goodS_mk {s : GSetting} (h : okS s) : goodS s = true := by unfold goodS; apply decide_eq_true; exact h
theorem goodS_no {s : GSetting} (h : ¬ okS s) : goodS s = false := by unfold goodS; exact decide_eq_false (fun g => h g)
def goodTg (xs : List Int) (s : GSetting) : Bool := okL xs && goodS s
theorem goodTg_yes {xs : List Int} {s : GSetting} (h : goodTg xs s = true) : okL xs = true ∧ okS s := by
  unfold goodTg at h
  rw [Bool.and_eq_true] at h
  exact ⟨h.1, goodS_yes h.2⟩

/-- The sum of the first numbers without their signs. -/
def preA (xs : List Int) (k : Nat) : Int := ((xs.take k).map ab).sum
theorem preA_snoc {xs : List Int} {k : Nat} {x : Int} (h : xs[k]? = some x) : preA xs (k + 1) = preA xs k + ab x := by
  unfold preA
  rw [take_snoc h, List.map_append, List.sum_append]
  simp
theorem ab_bd {x M : Int} (h : -M ≤ x ∧ x ≤ M) : 0 ≤ ab x ∧ ab x ≤ M := by unfold ab; split <;> omega
theorem preA_bd {xs : List Int} (hx : ∀ x ∈ xs, -100000 ≤ x ∧ x ≤ 100000) {a : Nat} : ∀ b, a ≤ b → b ≤ xs.length → 0 ≤ preA xs b - preA xs a ∧ preA xs b - preA xs a ≤ 100000 * ((b : Int) - a)
  | 0, h, _ => by obtain rfl : a = 0 := by omega
                  simp
  | b + 1, h, hb => by
    rcases Nat.lt_or_ge b a with q | q
    · obtain rfl : a = b + 1 := by omega
      simp
    · have i := preA_bd hx b q (by omega)
      obtain ⟨x, hxb⟩ := get_of_lt (l := xs) (k := b) (by omega)
      have g := ab_bd (hx x (List.mem_of_getElem? hxb))
      rw [preA_snoc hxb]
      omega
/-- The sum of the n numbers up to a place. -/
def wA (xs : List Int) (n p : Nat) : Int := preA xs (p + 1) - preA xs (p + 1 - n)
theorem wA_bd {xs : List Int} (hx : ∀ x ∈ xs, -100000 ≤ x ∧ x ≤ 100000) {n p : Nat} (hn : n ≤ p + 1) (hp : p < xs.length) : 0 ≤ wA xs n p ∧ wA xs n p ≤ 100000 * (n : Int) := by
  have := preA_bd hx (a := p + 1 - n) (p + 1) (by omega) (by omega)
  unfold wA
  omega
def nT (xs : List Int) (s : GSetting) (p : Nat) : Int := if wA xs s.pLong.toNat p = 0 then 0 else wA xs s.pShort.toNat p * s.pLong
def dT (xs : List Int) (s : GSetting) (p : Nat) : Int := if wA xs s.pLong.toNat p = 0 then 1 else wA xs s.pLong.toNat p * s.pShort
theorem nT_bd {xs : List Int} {s : GSetting} (hx : ∀ x ∈ xs, -100000 ≤ x ∧ x ≤ 100000) (hs : okS s) {p : Nat} (h0 : s.pLong ≤ (p : Int) + 1) (hp : p < xs.length) : (0 ≤ nT xs s p ∧ nT xs s p ≤ 10000000) ∧ (1 ≤ dT xs s p ∧ dT xs s p ≤ 10000000) := by
  obtain ⟨⟨a1, a2⟩, ⟨b1, b2⟩, -, -⟩ := hs
  have l := wA_bd hx (n := s.pLong.toNat) (p := p) (by omega) hp
  have m := wA_bd hx (n := s.pShort.toNat) (p := p) (by omega) hp
  unfold nT dT
  by_cases h : wA xs s.pLong.toNat p = 0
  · rw [if_pos h, if_pos h]; omega
  · rw [if_neg h, if_neg h]
    have m1 := mul_bdQ (A := 500000) (B := 20) m.1 (by omega) (show 0 ≤ s.pLong by omega) b2
    have m2 := mul_bdQ (A := 2000000) (B := 5) l.1 (by omega) (show 0 ≤ s.pShort by omega) a2
    have m3 := Int.mul_le_mul (show (1 : Int) ≤ wA xs s.pLong.toNat p by omega) a1 (by omega) l.1
    omega
def loudT (xs : List Int) (s : GSetting) (t : Int) (p : Nat) : Bool := decide (t * dT xs s p ≤ 10 * nT xs s p)
def quietT (xs : List Int) (s : GSetting) (t : Int) (p : Nat) : Bool := decide (10 * nT xs s p ≤ t * dT xs s p)

/-- The first place from p on at which f holds, or n. -/
def nextT (f : Nat → Bool) : Nat → Nat → Nat
  | 0, p => p
  | d + 1, p => if f p then p else nextT f d (p + 1)
def nxT (f : Nat → Bool) (n p : Nat) : Nat := if n ≤ p then n else nextT f (n - p) p
theorem nxT_end {f : Nat → Bool} {n p : Nat} (h : n ≤ p) : nxT f n p = n := if_pos h
theorem nextT_zero (f : Nat → Bool) (p : Nat) : nextT f 0 p = p := rfl
theorem nextT_succ (f : Nat → Bool) (d p : Nat) : nextT f (d + 1) p = if f p then p else nextT f d (p + 1) := rfl
theorem nxT_yes {f : Nat → Bool} {n p : Nat} (h : p < n) (hf : f p = true) : nxT f n p = p := by
  unfold nxT
  rw [if_neg (by omega)]
  obtain ⟨d, hd⟩ : ∃ d, n - p = d + 1 := ⟨n - p - 1, by omega⟩
  rw [hd, nextT_succ, if_pos hf]
theorem nxT_no {f : Nat → Bool} {n p : Nat} (h : p < n) (hf : f p = false) : nxT f n p = nxT f n (p + 1) := by
  unfold nxT
  rw [if_neg (by omega)]
  obtain ⟨d, hd⟩ : ∃ d, n - p = d + 1 := ⟨n - p - 1, by omega⟩
  rw [hd, nextT_succ, hf, if_neg Bool.false_ne_true]
  by_cases q : n ≤ p + 1
  · rw [if_pos q]
    obtain rfl : d = 0 := by omega
    show p + 1 = n
    omega
  · rw [if_neg q, show n - (p + 1) = d by omega]
theorem nxT_ind {f : Nat → Bool} {n : Nat} (P : Nat → Prop) (h0 : ∀ p, n ≤ p → P p) (h1 : ∀ p, p < n → f p = true → P p) (h2 : ∀ p, p < n → f p = false → P (p + 1) → P p) (p : Nat) : P p := by
  have : ∀ d p, n - p = d → P p := by
    intro d
    induction d with
    | zero => intro p h; exact h0 p (by omega)
    | succ d ih =>
      intro p h
      cases hf : f p with
      | true => exact h1 p (by omega) hf
      | false => exact h2 p (by omega) hf (ih (p + 1) (by omega))
  exact this _ p rfl
theorem nxT_le (f : Nat → Bool) (n p : Nat) : nxT f n p ≤ n :=
  nxT_ind (f := f) (n := n) (fun p => nxT f n p ≤ n) (fun p h => by rw [nxT_end h]; omega) (fun p h hf => by rw [nxT_yes h hf]; omega) (fun p h hf i => by rw [nxT_no h hf]; exact i) p
theorem nxT_ge (f : Nat → Bool) (n p : Nat) (h : p ≤ n) : p ≤ nxT f n p :=
  nxT_ind (f := f) (n := n) (fun p => p ≤ n → p ≤ nxT f n p) (fun p h g => by rw [nxT_end h]; omega) (fun p h hf _ => by rw [nxT_yes h hf]; omega) (fun p h hf i _ => by rw [nxT_no h hf]; have := i (by omega); omega) p h
theorem nxT_at (f : Nat → Bool) (n p : Nat) (h : nxT f n p < n) : f (nxT f n p) = true :=
  nxT_ind (f := f) (n := n) (fun p => nxT f n p < n → f (nxT f n p) = true) (fun p h g => by rw [nxT_end h] at g; omega) (fun p h hf _ => by rw [nxT_yes h hf]; exact hf) (fun p h hf i g => by rw [nxT_no h hf] at g ⊢; exact i g) p h
theorem nxT_before (f : Nat → Bool) (n p : Nat) : ∀ q, p ≤ q → q < nxT f n p → f q = false :=
  nxT_ind (f := f) (n := n) (fun p => ∀ q, p ≤ q → q < nxT f n p → f q = false) (fun p h q g k => by rw [nxT_end h] at k; omega) (fun p h hf q g k => by rw [nxT_yes h hf] at k; omega)
    (fun p h hf i q g k => by
      rw [nxT_no h hf] at k
      by_cases e : p = q
      · subst e; exact hf
      · exact i q (by omega) k) p
theorem nxT_all {f : Nat → Bool} {n p : Nat} : nxT f n p = n ↔ ∀ q, p ≤ q → q < n → f q = false := by
  constructor
  · intro h q g k; exact nxT_before f n p q g (by rw [h]; exact k)
  · intro h
    rcases Nat.lt_or_ge (nxT f n p) n with q | q
    · have a := nxT_at f n p q
      have b : p ≤ nxT f n p := by
        by_cases e : n ≤ p
        · rw [nxT_end e] at q; omega
        · exact nxT_ge f n p (by omega)
      rw [h _ b q] at a
      cases a
    · exact Nat.le_antisymm (nxT_le f n p) q

/-- The times that a trigger is on, from a place on; st: since when it is on. -/
def tmT (L Q : Nat → Bool) (n : Nat) : Nat → Option Nat → List (Int × Int)
  | 0, none => []
  | 0, some a => [((a : Int), (n : Int))]
  | d + 1, none => if L (n - (d + 1)) then tmT L Q n d (some (n - (d + 1))) else tmT L Q n d none
  | d + 1, some a => if Q (n - (d + 1)) then ((a : Int), ((n - (d + 1) : Nat) : Int)) :: tmT L Q n d none else tmT L Q n d (some a)
def tmA (L Q : Nat → Bool) (n p : Nat) (st : Option Nat) : List (Int × Int) := tmT L Q n (n - p) st
theorem tmA_end {L Q : Nat → Bool} {n p : Nat} (h : n ≤ p) : tmA L Q n p none = [] := by
  unfold tmA; rw [show n - p = 0 by omega]; rfl
theorem tmA_last {L Q : Nat → Bool} {n p a : Nat} (h : n ≤ p) : tmA L Q n p (some a) = [((a : Int), (n : Int))] := by
  unfold tmA; rw [show n - p = 0 by omega]; rfl
theorem tmA_off {L Q : Nat → Bool} {n p : Nat} (h : p < n) : tmA L Q n p none = if L p then tmA L Q n (p + 1) (some p) else tmA L Q n (p + 1) none := by
  unfold tmA
  obtain ⟨d, hd⟩ : ∃ d, n - p = d + 1 := ⟨n - p - 1, by omega⟩
  rw [hd, show n - (p + 1) = d by omega]
  have e : n - (d + 1) = p := by omega
  conv => lhs; unfold tmT
  rw [e]
theorem tmA_on {L Q : Nat → Bool} {n p a : Nat} (h : p < n) : tmA L Q n p (some a) = if Q p then ((a : Int), (p : Int)) :: tmA L Q n (p + 1) none else tmA L Q n (p + 1) (some a) := by
  unfold tmA
  obtain ⟨d, hd⟩ : ∃ d, n - p = d + 1 := ⟨n - p - 1, by omega⟩
  rw [hd, show n - (p + 1) = d by omega]
  have e : n - (d + 1) = p := by omega
  conv => lhs; unfold tmT
  rw [e]
/-- What is still to come at the next place where it goes on. -/
def goT (L Q : Nat → Bool) (n o : Nat) : List (Int × Int) := if o < n then tmA L Q n (o + 1) (some o) else []
theorem tmA_none (L Q : Nat → Bool) (n p : Nat) : tmA L Q n p none = goT L Q n (nxT L n p) :=
  nxT_ind (f := L) (n := n) (fun p => tmA L Q n p none = goT L Q n (nxT L n p))
    (fun p h => by rw [nxT_end h, tmA_end h]; unfold goT; rw [if_neg (by omega)])
    (fun p h hf => by rw [nxT_yes h hf, tmA_off h, hf, if_pos rfl]; unfold goT; rw [if_pos h])
    (fun p h hf i => by rw [nxT_no h hf, tmA_off h, hf, if_neg Bool.false_ne_true]; exact i) p
theorem tmA_some (L Q : Nat → Bool) (n a p : Nat) : tmA L Q n p (some a) = ((a : Int), ((nxT Q n p : Nat) : Int)) :: tmA L Q n (nxT Q n p + 1) none :=
  nxT_ind (f := Q) (n := n) (fun p => tmA L Q n p (some a) = ((a : Int), ((nxT Q n p : Nat) : Int)) :: tmA L Q n (nxT Q n p + 1) none)
    (fun p h => by rw [nxT_end h, tmA_last h, tmA_end (by omega)])
    (fun p h hf => by rw [nxT_yes h hf, tmA_on h, hf, if_pos rfl])
    (fun p h hf i => by rw [nxT_no h hf, tmA_on h, hf, if_neg Bool.false_ne_true]; exact i) p
/-- One time more. -/
theorem goT_step (L Q : Nat → Bool) {n o : Nat} (h : o < n) : goT L Q n o = ((o : Int), ((nxT Q n (o + 1) : Nat) : Int)) :: goT L Q n (nxT L n (nxT Q n (o + 1) + 1)) := by
  rw [← tmA_none, ← tmA_some]
  unfold goT
  rw [if_pos h]
theorem goT_end (L Q : Nat → Bool) {n o : Nat} (h : n ≤ o) : goT L Q n o = [] := if_neg (by omega)
theorem tmT_len (L Q : Nat → Bool) (n : Nat) : ∀ d, (tmT L Q n d none).length ≤ d ∧ ∀ a, (tmT L Q n d (some a)).length ≤ d + 1
  | 0 => ⟨Nat.le_refl _, fun _ => Nat.le_refl _⟩
  | d + 1 => by
    obtain ⟨i, j⟩ := tmT_len L Q n d
    constructor
    · unfold tmT; split
      · exact j _
      · omega
    · intro a; unfold tmT; split
      · simp; omega
      · have := j a; omega
/-- Every time lies between the place where it begins and the number of places. -/
theorem tmA_mem (L Q : Nat → Bool) (n : Nat) : ∀ d p, n - p = d → (∀ q ∈ tmA L Q n p none, (p : Int) ≤ q.1 ∧ q.1 < q.2 ∧ q.2 ≤ (n : Int)) ∧ ∀ a, a < p → p ≤ n → ∀ q ∈ tmA L Q n p (some a), (a : Int) ≤ q.1 ∧ q.1 < q.2 ∧ q.2 ≤ (n : Int)
  | 0, p, h => by
    refine ⟨fun q hq => ?_, fun a ha hp q hq => ?_⟩
    · rw [tmA_end (by omega)] at hq; cases hq
    · rw [tmA_last (by omega), List.mem_singleton] at hq
      subst hq
      show (a : Int) ≤ a ∧ (a : Int) < n ∧ (n : Int) ≤ n
      omega
  | d + 1, p, h => by
    obtain ⟨i, j⟩ := tmA_mem L Q n d (p + 1) (by omega)
    refine ⟨fun q hq => ?_, fun a ha hp q hq => ?_⟩
    · rw [tmA_off (by omega)] at hq
      split at hq
      · have := j p (by omega) (by omega) q hq; omega
      · have := i q hq; omega
    · rw [tmA_on (by omega)] at hq
      split at hq
      · rcases List.mem_cons.1 hq with rfl | hq
        · show (a : Int) ≤ a ∧ (a : Int) < p ∧ (p : Int) ≤ n
          omega
        · have := i q hq; omega
      · exact j a (by omega) (by omega) q hq
def plT (s : GSetting) : Nat := s.pLong.toNat - 1
def timesT (xs : List Int) (s : GSetting) : List (Int × Int) := tmA (loudT xs s s.pOn) (quietT xs s s.pOff) xs.length (plT s) none
def onT (xs : List Int) (s : GSetting) (t : Int) : Nat := nxT (loudT xs s t) xs.length (plT s)
theorem timesT_go (xs : List Int) (s : GSetting) : timesT xs s = goT (loudT xs s s.pOn) (quietT xs s s.pOff) xs.length (onT xs s s.pOn) := tmA_none _ _ _ _
theorem timesT_nil (xs : List Int) (s : GSetting) : timesT xs s = [] ↔ onT xs s s.pOn = xs.length := by
  rw [timesT_go]
  constructor
  · intro h
    rcases Nat.lt_or_ge (onT xs s s.pOn) xs.length with q | q
    · rw [goT_step _ _ q] at h; cases h
    · exact Nat.le_antisymm (nxT_le _ _ _) q
  · intro h; exact goT_end _ _ (by omega)
theorem timesT_first {xs : List Int} {s : GSetting} (h : onT xs s s.pOn < xs.length) : ∃ b l, timesT xs s = (((onT xs s s.pOn : Nat) : Int), b) :: l := by
  rw [timesT_go, goT_step _ _ h]; exact ⟨_, _, rfl⟩
theorem timesT_len (xs : List Int) (s : GSetting) : (timesT xs s).length ≤ xs.length := by
  have := (tmT_len (loudT xs s s.pOn) (quietT xs s s.pOff) xs.length (xs.length - plT s)).1
  unfold timesT tmA
  omega
theorem timesT_mem (xs : List Int) (s : GSetting) {q : Int × Int} (h : q ∈ timesT xs s) : (plT s : Int) ≤ q.1 ∧ q.1 < q.2 ∧ q.2 ≤ (xs.length : Int) := (tmA_mem _ _ _ _ _ rfl).1 q h
end Go.Proofs.Ytklilfbokpljkab
