/- Models of the ground: the mathematics. -/
import Derived.Test.YtklilfbokpljkaaFEarth
import Derived.Test.YtklilfbokpljkaaRed
import Derived.Test.YtklilfbokpljkaaAcc
namespace Go.Proofs.Ytklilfbokpljkaa
open Go.ChangeShapes Go.WideShapes Go.ChangeAt Go.RowKit Go.ChangeMaps
set_option linter.unusedSimpArgs false
set_option linter.unusedVariables false

theorem num_gcdE (n d : Int) : numR n d * (gcdR n d : Nat) = n := by
  unfold numR
  refine Int.tdiv_mul_cancel ?_
  rw [Int.ofNat_dvd_left]
  exact Nat.gcd_dvd_left _ _
theorem den_gcdE {n d : Int} (h : 1 ≤ d) : denR n d * (gcdR n d : Nat) = d := by
  unfold denR
  refine Int.tdiv_mul_cancel ?_
  rw [Int.ofNat_dvd_left]
  have := Nat.gcd_dvd_right n.natAbs d.toNat
  have e : d.natAbs = d.toNat := by omega
  rw [e]; exact this
/-- A fraction in lowest terms stays within its bounds. -/
theorem red_bdE {n d N : Int} (hd : 1 ≤ d) (h0 : 0 ≤ n) (h1 : n ≤ N) : (0 ≤ numR n d ∧ numR n d ≤ N) ∧ (1 ≤ denR n d ∧ denR n d ≤ d) := by
  have a1 := num_gcdE n d
  have b1 := den_gcdE (n := n) hd
  have g1 := gcdR_pos (n := n) hd
  generalize gcdR n d = g at *
  generalize numR n d = a at *
  generalize denR n d = b at *
  have hg : (1 : Int) ≤ (g : Nat) := by omega
  have ha : 0 ≤ a := by
    rcases Int.lt_or_le a 0 with q | q
    · have := Int.mul_le_mul_of_nonneg_right (show a ≤ -1 by omega) (show (0 : Int) ≤ (g : Nat) by omega)
      omega
    · exact q
  have hb : 1 ≤ b := by
    rcases Int.lt_or_le 0 b with q | q
    · omega
    · have := Int.mul_nonpos_of_nonpos_of_nonneg q (show (0 : Int) ≤ (g : Nat) by omega)
      omega
  have e1 := Int.mul_le_mul_of_nonneg_left hg ha
  have e2 := Int.mul_le_mul_of_nonneg_left hg (show (0 : Int) ≤ b by omega)
  omega
theorem numR_norm {n d : Int} (h : 1 ≤ d) : numR n d = (Rat.normalize n d.toNat (by omega)).num ∧ denR n d = ((Rat.normalize n d.toNat (by omega)).den : Nat) := by
  rw [Rat.normalize_eq]
  unfold numR denR gcdR
  have g1 : 0 < Nat.gcd n.natAbs d.toNat := Nat.gcd_pos_of_pos_right _ (by omega)
  constructor
  · show n.tdiv _ = n / _
    rw [Int.tdiv_eq_ediv_of_dvd]
    rw [Int.ofNat_dvd_left]
    exact Nat.gcd_dvd_left _ _
  · show d.tdiv _ = ((d.toNat / _ : Nat) : Int)
    rw [Int.tdiv_eq_ediv_of_nonneg (by omega), Int.natCast_ediv]
    congr 1
    omega
/-- Two fractions of one value have the same lowest terms. -/
theorem red_eq {a b c d : Int} (hb : 1 ≤ b) (hd : 1 ≤ d) (h : a * d = c * b) : numR a b = numR c d ∧ denR a b = denR c d := by
  have e : Rat.normalize a b.toNat (by omega) = Rat.normalize c d.toNat (by omega) := by
    rw [Rat.normalize_eq_iff]
    rw [show ((d.toNat : Nat) : Int) = d by omega, show ((b.toNat : Nat) : Int) = b by omega]
    exact h
  have e1 := numR_norm (n := a) hb
  have e2 := numR_norm (n := c) hd
  rw [e1.1, e1.2, e2.1, e2.2, e]
  exact ⟨rfl, rfl⟩
theorem mul_lt_iff {a b : Int} {c : Int} (hc : 0 < c) : a * c < b * c ↔ a < b := by
  constructor
  · intro h
    exact Int.lt_of_mul_lt_mul_right h (by omega)
  · intro h
    exact Int.mul_lt_mul_of_pos_right h hc
/-- Fractions of one denominator, in lowest terms, compare as their numerators do. -/
theorem cmp_red {x y P : Int} (hP : 1 ≤ P) : numR x P * denR y P < numR y P * denR x P ↔ x < y := by
  have a1 := num_gcdE x P
  have b1 := den_gcdE (n := x) hP
  have g1 := gcdR_pos (n := x) hP
  have a2 := num_gcdE y P
  have b2 := den_gcdE (n := y) hP
  have g2 := gcdR_pos (n := y) hP
  generalize gcdR x P = g at *
  generalize numR x P = a at *
  generalize denR x P = b at *
  generalize gcdR y P = h at *
  generalize numR y P = p at *
  generalize denR y P = q at *
  have hg : (0 : Int) < (g : Nat) := by omega
  have hh : (0 : Int) < (h : Nat) := by omega
  rw [← mul_lt_iff (c := (g : Int) * (h : Int)) (Int.mul_pos hg hh)]
  rw [← mul_lt_iff (a := x) (c := P) (by omega)]
  have e1 : a * q * ((g : Int) * (h : Int)) = x * P := by rw [← b2, ← a1]; simp only [Int.mul_assoc, Int.mul_comm, Int.mul_left_comm]
  have e2 : p * b * ((g : Int) * (h : Int)) = y * P := by rw [← b1, ← a2]; simp only [Int.mul_assoc, Int.mul_comm, Int.mul_left_comm]
  rw [e1, e2]
theorem cmp_sec {x s P : Int} (hP : 1 ≤ P) : numR x P ≤ s * denR x P ↔ x ≤ s * P := by
  have a1 := num_gcdE x P
  have b1 := den_gcdE (n := x) hP
  have g1 := gcdR_pos (n := x) hP
  generalize gcdR x P = g at *
  generalize numR x P = a at *
  generalize denR x P = b at *
  have hg : (0 : Int) < (g : Nat) := by omega
  have e : s * P = s * b * (g : Int) := by rw [← b1, Int.mul_assoc]
  rw [e, ← a1]
  constructor
  · intro h
    exact Int.mul_le_mul_of_nonneg_right h (by omega)
  · intro h
    exact Int.le_of_mul_le_mul_right h hg

def okEa (e : GEarth) : Prop := (1 ≤ e.pThick ∧ e.pThick ≤ 200) ∧ (1 ≤ e.pSpeed ∧ e.pSpeed ≤ 50)
def okE (xs : List GEarth) : Prop := (1 ≤ xs.length ∧ xs.length ≤ 5) ∧ ∀ e ∈ xs, okEa e
noncomputable def goodE (xs : List GEarth) : Bool := @decide (okE xs) (Classical.propDecidable _)
theorem goodE_mk {xs : List GEarth} (h : okE xs) : goodE xs = true := by unfold goodE; exact @decide_eq_true _ (Classical.propDecidable _) h
theorem goodE_no {xs : List GEarth} (h : ¬ okE xs) : goodE xs = false := by unfold goodE; exact @decide_eq_false _ (Classical.propDecidable _) h
theorem goodE_yes {xs : List GEarth} (h : goodE xs = true) : okE xs := by unfold goodE at h; exact @of_decide_eq_true _ (Classical.propDecidable _) h
theorem okE_at {xs : List GEarth} (h : okE xs) {k : Nat} {e : GEarth} (he : xs[k]? = some e) : okEa e := h.2 e (List.mem_of_getElem? he)
/-- The sum of all layers. -/
def depE (xs : List GEarth) : Int := (xs.map (·.pThick)).sum
theorem depE_nil : depE [] = 0 := rfl
theorem depE_snoc {xs : List GEarth} {k : Nat} {e : GEarth} (h : xs[k]? = some e) : depE (xs.take (k + 1)) = depE (xs.take k) + e.pThick := by
  rw [take_snoc h]; unfold depE; simp
theorem depE_bd {xs : List GEarth} (h : okE xs) : ∀ k, k ≤ xs.length → (k : Int) ≤ depE (xs.take k) ∧ depE (xs.take k) ≤ 200 * k
  | 0, _ => by simp [depE]
  | k + 1, hk => by
    obtain ⟨e, he⟩ := get_of_lt (l := xs) (k := k) (by omega)
    have i := depE_bd h k (by omega)
    have o := okE_at h he
    rw [depE_snoc he]
    unfold okEa at o
    omega
theorem depE_mono {xs : List GEarth} (h : okE xs) {j : Nat} : ∀ k, j ≤ k → k ≤ xs.length → depE (xs.take j) ≤ depE (xs.take k)
  | 0, h1, _ => by obtain rfl : j = 0 := by omega
                   exact Int.le_refl _
  | k + 1, h1, h2 => by
    rcases Nat.lt_or_ge k j with q | q
    · obtain rfl : j = k + 1 := by omega
      exact Int.le_refl _
    · obtain ⟨e, he⟩ := get_of_lt (l := xs) (k := k) (by omega)
      have i := depE_mono h (j := j) k q (by omega)
      have o := okE_at h he
      rw [depE_snoc he]
      unfold okEa at o
      omega
theorem depE_all {xs : List GEarth} (h : okE xs) : 1 ≤ depE xs ∧ depE xs ≤ 1000 := by
  have := depE_bd h xs.length (Nat.le_refl _)
  rw [List.take_length] at this
  have := h.1
  omega
/-- The product of all speeds. -/
def prodE : List GEarth → Int
  | [] => 1
  | a :: l => a.pSpeed * prodE l
theorem prodE_app : ∀ (l : List GEarth) (e : GEarth), prodE (l ++ [e]) = prodE l * e.pSpeed
  | [], e => by simp [prodE]
  | a :: l, e => by simp only [List.cons_append, prodE]; rw [prodE_app l e, Int.mul_assoc]
theorem prodE_snoc {xs : List GEarth} {k : Nat} {e : GEarth} (h : xs[k]? = some e) : prodE (xs.take (k + 1)) = prodE (xs.take k) * e.pSpeed := by
  rw [take_snoc h, prodE_app]
def pw50 : Nat → Int
  | 0 => 1
  | n + 1 => 50 * pw50 n
theorem pw50_pos : ∀ n, 1 ≤ pw50 n
  | 0 => by simp [pw50]
  | n + 1 => by have := pw50_pos n; simp only [pw50]; omega
theorem pw50_mono {a : Nat} : ∀ {b : Nat}, a ≤ b → pw50 a ≤ pw50 b
  | 0, h => by obtain rfl : a = 0 := by omega
               exact Int.le_refl _
  | b + 1, h => by
    rcases Nat.lt_or_ge b a with q | q
    · obtain rfl : a = b + 1 := by omega
      exact Int.le_refl _
    · have := pw50_mono (a := a) (b := b) q
      have := pw50_pos b
      simp only [pw50]; omega
theorem prodE_bd : ∀ {l : List GEarth}, (∀ e ∈ l, okEa e) → 1 ≤ prodE l ∧ prodE l ≤ pw50 l.length
  | [], _ => by simp [prodE, pw50]
  | a :: l, h => by
    have i := prodE_bd (l := l) (fun e he => h e (List.mem_cons_of_mem _ he))
    have o := h a (List.mem_cons_self ..)
    simp only [prodE, List.length_cons, pw50]
    unfold okEa at o
    have h1 := Int.mul_le_mul (a := 1) (b := 1) (c := a.pSpeed) (d := prodE l) o.2.1 i.1 (by omega) (by omega)
    have h2 := Int.mul_le_mul (a := a.pSpeed) (b := prodE l) (c := 50) (d := pw50 l.length) o.2.2 i.2 (by omega) (by omega)
    omega
theorem prodE_part : ∀ {l : List GEarth}, (∀ e ∈ l, okEa e) → ∀ e ∈ l, ∃ q, prodE l = e.pSpeed * q ∧ 1 ≤ q ∧ q ≤ pw50 (l.length - 1)
  | [], _, e, he => by simp at he
  | a :: l, h, e, he => by
    have ih := prodE_part (l := l) (fun e he => h e (List.mem_cons_of_mem _ he))
    have o := h a (List.mem_cons_self ..)
    rcases List.mem_cons.1 he with rfl | he
    · have i := prodE_bd (l := l) (fun e he => h e (List.mem_cons_of_mem _ he))
      exact ⟨prodE l, rfl, i.1, i.2⟩
    · obtain ⟨q, e1, e2, e3⟩ := ih e he
      refine ⟨a.pSpeed * q, by simp only [prodE]; rw [e1]; simp only [Int.mul_left_comm], ?_, ?_⟩
      · have := Int.mul_le_mul (a := 1) (b := 1) (c := a.pSpeed) (d := q) o.2.1 e2 (by omega) (by unfold okEa at o; omega)
        omega
      · have hl : 1 ≤ l.length := by cases l with
          | nil => simp at he
          | cons => simp
        have := Int.mul_le_mul (a := a.pSpeed) (b := q) (c := 50) (d := pw50 (l.length - 1)) o.2.2 e3 (by omega) (by omega)
        simp only [List.length_cons]
        rw [show l.length + 1 - 1 = (l.length - 1) + 1 by omega]
        simp only [pw50]
        exact this
/-- The time for a kilometer of a layer, in parts. -/
def fkE (P : Int) (e : GEarth) : Int := P.tdiv e.pSpeed
theorem fkE_bd {xs : List GEarth} (h : okE xs) {e : GEarth} (he : e ∈ xs) : fkE (prodE xs) e * e.pSpeed = prodE xs ∧ 1 ≤ fkE (prodE xs) e ∧ fkE (prodE xs) e ≤ 6250000 := by
  obtain ⟨q, e1, e2, e3⟩ := prodE_part h.2 e he
  have o := h.2 e he
  unfold okEa at o
  have hf : fkE (prodE xs) e = q := by
    unfold fkE
    rw [e1]
    exact Int.mul_tdiv_cancel_left _ (by omega)
  rw [hf]
  refine ⟨by rw [e1, Int.mul_comm], e2, ?_⟩
  have := pw50_mono (a := xs.length - 1) (b := 4) (by have := h.1; omega)
  have : pw50 4 = 6250000 := by decide
  omega
theorem prodE_all {xs : List GEarth} (h : okE xs) : 1 ≤ prodE xs ∧ prodE xs ≤ 312500000 := by
  have := prodE_bd h.2
  have := pw50_mono (a := xs.length) (b := 5) (by have := h.1; omega)
  have : pw50 5 = 312500000 := by decide
  omega
theorem prodE_take {xs : List GEarth} (h : okE xs) (k : Nat) : 1 ≤ prodE (xs.take k) ∧ prodE (xs.take k) ≤ 312500000 := by
  have := prodE_bd (l := xs.take k) (fun e he => h.2 e (List.mem_of_mem_take he))
  have := pw50_mono (a := (xs.take k).length) (b := 5) (by have := h.1; rw [List.length_take]; omega)
  have : pw50 5 = 312500000 := by decide
  omega
/-- What is above a depth of the layer behind k others. -/
def inE (xs : List GEarth) (d : Int) (k : Nat) (e : GEarth) : Int := if d - depE (xs.take k) < 0 then 0 else if e.pThick < d - depE (xs.take k) then e.pThick else d - depE (xs.take k)
/-- The time to a depth through the first k layers, in parts. -/
def toE (P : Int) (xs : List GEarth) (d : Int) : Nat → Int
  | 0 => 0
  | k + 1 => toE P xs d k + (match xs[k]? with | some e => inE xs d k e * fkE P e | none => 0)
theorem toE_succ {P : Int} {xs : List GEarth} {d : Int} {k : Nat} {e : GEarth} (h : xs[k]? = some e) : toE P xs d (k + 1) = toE P xs d k + inE xs d k e * fkE P e := by
  simp only [toE, h]
theorem inE_bd {xs : List GEarth} {d : Int} {k : Nat} {e : GEarth} (h : okEa e) : 0 ≤ inE xs d k e ∧ inE xs d k e ≤ 200 := by
  unfold inE
  unfold okEa at h
  split
  · omega
  · split <;> omega
theorem toE_bd {xs : List GEarth} (h : okE xs) (d : Int) : ∀ k, k ≤ xs.length → 0 ≤ toE (prodE xs) xs d k ∧ toE (prodE xs) xs d k ≤ 1250000000 * k
  | 0, _ => by simp [toE]
  | k + 1, hk => by
    obtain ⟨e, he⟩ := get_of_lt (l := xs) (k := k) (by omega)
    have i := toE_bd h d k (by omega)
    have f := fkE_bd h (List.mem_of_getElem? he)
    have o := inE_bd (xs := xs) (d := d) (k := k) (okE_at h he)
    rw [toE_succ he]
    have h1 := Int.mul_nonneg o.1 (show 0 ≤ fkE (prodE xs) e by omega)
    have h2 := Int.mul_le_mul (a := inE xs d k e) (b := fkE (prodE xs) e) (c := 200) (d := 6250000) o.2 f.2.2 (by omega) (by omega)
    omega
/-- The time to a layer's top, in parts. -/
def topE (P : Int) (xs : List GEarth) : Nat → Int
  | 0 => 0
  | k + 1 => topE P xs k + (match xs[k]? with | some e => e.pThick * fkE P e | none => 0)
theorem topE_succ {P : Int} {xs : List GEarth} {k : Nat} {e : GEarth} (h : xs[k]? = some e) : topE P xs (k + 1) = topE P xs k + e.pThick * fkE P e := by
  simp only [topE, h]
theorem topE_bd {xs : List GEarth} (h : okE xs) : ∀ k, k ≤ xs.length → 0 ≤ topE (prodE xs) xs k ∧ topE (prodE xs) xs k ≤ 1250000000 * k
  | 0, _ => by simp [topE]
  | k + 1, hk => by
    obtain ⟨e, he⟩ := get_of_lt (l := xs) (k := k) (by omega)
    have i := topE_bd h k (by omega)
    have f := fkE_bd h (List.mem_of_getElem? he)
    have o := okE_at h he
    unfold okEa at o
    rw [topE_succ he]
    have h1 := Int.mul_nonneg (show 0 ≤ e.pThick by omega) (show 0 ≤ fkE (prodE xs) e by omega)
    have h2 := Int.mul_le_mul (a := e.pThick) (b := fkE (prodE xs) e) (c := 200) (d := 6250000) o.1.2 f.2.2 (by omega) (by omega)
    omega
theorem toE_top {P : Int} {xs : List GEarth} (h : okE xs) {k : Nat} (hk : k ≤ xs.length) : ∀ j, j ≤ xs.length → toE P xs (depE (xs.take k)) j = topE P xs (min j k)
  | 0, _ => by rw [Nat.zero_min]; rfl
  | j + 1, hj => by
    obtain ⟨e, he⟩ := get_of_lt (l := xs) (k := j) (by omega)
    have i := toE_top (P := P) h hk j (by omega)
    have o := okE_at h he
    unfold okEa at o
    rw [toE_succ he, i]
    rcases Nat.lt_or_ge j k with q | q
    · rw [show min j k = j by omega, show min (j + 1) k = j + 1 by omega, topE_succ he]
      have m := depE_mono h (j := j + 1) k (by omega) hk
      rw [depE_snoc he] at m
      have : inE xs (depE (xs.take k)) j e = e.pThick := by
        unfold inE
        rw [if_neg (by omega)]
        split <;> omega
      rw [this]
    · rw [show min j k = k by omega, show min (j + 1) k = k by omega]
      have m := depE_mono h (j := k) j q (by omega)
      have : inE xs (depE (xs.take k)) j e = 0 := by
        unfold inE
        split
        · rfl
        · rw [if_neg (by omega)]; omega
      rw [this]; omega
/-- The time of a wave via a layer, in parts. -/
def viaE (P : Int) (xs : List GEarth) (d : Int) (k : Nat) : Int := 2 * topE P xs k + d * (match xs[k]? with | some e => fkE P e | none => 0)
theorem viaE_at {P : Int} {xs : List GEarth} {d : Int} {k : Nat} {e : GEarth} (h : xs[k]? = some e) : viaE P xs d k = 2 * topE P xs k + d * fkE P e := by simp only [viaE, h]
theorem viaE_bd {xs : List GEarth} (h : okE xs) {d : Int} (h0 : 0 ≤ d) (h1 : d ≤ 2000) {k : Nat} (hk : k < xs.length) : 0 ≤ viaE (prodE xs) xs d k ∧ viaE (prodE xs) xs d k ≤ 22500000000 := by
  obtain ⟨e, he⟩ := get_of_lt hk
  have f := fkE_bd h (List.mem_of_getElem? he)
  have t := topE_bd h k (by omega)
  rw [viaE_at he]
  have h2 := Int.mul_nonneg h0 (show 0 ≤ fkE (prodE xs) e by omega)
  have h3 := Int.mul_le_mul (a := d) (b := fkE (prodE xs) e) (c := 2000) (d := 6250000) h1 f.2.2 (by omega) (by omega)
  have := h.1
  omega
/-- One step of the specification's sum of fractions. -/
theorem step_red {xs : List GEarth} (h : okE xs) {e : GEarth} (he : e ∈ xs) (t p : Int) :
    numR (numR t (prodE xs) * e.pSpeed + p * denR t (prodE xs)) (denR t (prodE xs) * e.pSpeed) = numR (t + p * fkE (prodE xs) e) (prodE xs) ∧
    denR (numR t (prodE xs) * e.pSpeed + p * denR t (prodE xs)) (denR t (prodE xs) * e.pSpeed) = denR (t + p * fkE (prodE xs) e) (prodE xs) := by
  have hP := (prodE_all h).1
  have f := fkE_bd h he
  have o := h.2 e he
  unfold okEa at o
  have b1 := den_gcdE (n := t) hP
  have a1 := num_gcdE t (prodE xs)
  have g1 := gcdR_pos (n := t) hP
  have hden : 1 ≤ denR t (prodE xs) := by
    generalize gcdR t (prodE xs) = g at *
    generalize denR t (prodE xs) = b at *
    rcases Int.lt_or_le 0 b with q | q
    · omega
    · have := Int.mul_nonpos_of_nonpos_of_nonneg q (show (0 : Int) ≤ (g : Nat) by omega)
      omega
  have hq : 1 ≤ denR t (prodE xs) * e.pSpeed := by
    have := Int.mul_le_mul (a := 1) (b := 1) (c := denR t (prodE xs)) (d := e.pSpeed) hden o.2.1 (by omega) (by omega)
    omega
  refine red_eq hq hP ?_
  have f1 := f.1
  generalize fkE (prodE xs) e = y at *
  generalize e.pSpeed = v at *
  generalize gcdR t (prodE xs) = g at *
  generalize numR t (prodE xs) = a at *
  generalize denR t (prodE xs) = b at *
  generalize prodE xs = P at *
  -- (a v + p b) P = (t + p y) (b v) with b g = P, a g = t, y v = P
  rw [Int.add_mul, Int.add_mul]
  congr 1
  · rw [← a1, ← b1]; simp only [Int.mul_assoc, Int.mul_comm, Int.mul_left_comm]
  · conv => lhs; rw [← f1]
    simp only [Int.mul_assoc, Int.mul_comm, Int.mul_left_comm]
end Go.Proofs.Ytklilfbokpljkaa
