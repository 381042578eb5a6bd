/- Amplitudes: the mathematics of tables, sizes, magnitudes, medians and terms. -/
import Derived.Test.YtdiedfpfhbdamaaDoorFTableRow
import Derived.Test.YtdiedfpfhbdamaaDoorFSwing
import Derived.Test.YtdiedfpfhbdamaaDoorFiM
namespace Go.Proofs.YtdiedfpfhbdamaaDoor
open Go.ChangeShapes Go.WideShapes Go.ChangeAt Go.RowKit Go.ChangeMaps
set_option linter.unusedSimpArgs false
set_option linter.unusedVariables false
set_option linter.unusedSimpArgs false
set_option linter.unusedVariables false

def okRw (r : GTableRow) : Prop := (0 ≤ r.pFar ∧ r.pFar ≤ 1500) ∧ (0 ≤ r.pBonus ∧ r.pBonus ≤ 600)
def uptoTb (t : List GTableRow) (k : Nat) : Prop := (∀ j a, j < k → t[j]? = some a → okRw a) ∧ ∀ j a b, j + 1 < k → t[j]? = some a → t[j + 1]? = some b → a.pFar < b.pFar ∧ a.pBonus ≤ b.pBonus
def okTb (t : List GTableRow) : Prop := uptoTb t t.length ∧ 2 ≤ t.length ∧ t.length ≤ 8
noncomputable def goodTb (t : List GTableRow) : Bool := @decide (okTb t) (Classical.propDecidable _)
theorem goodTb_yes {t : List GTableRow} (h : goodTb t = true) : okTb t := by unfold goodTb at h; exact @of_decide_eq_true _ (Classical.propDecidable _) h
theorem goodTb_mk {t : List GTableRow} (h : okTb t) : goodTb t = true := by unfold goodTb; exact @decide_eq_true _ (Classical.propDecidable _) h
theorem goodTb_no {t : List GTableRow} (h : ¬ okTb t) : goodTb t = false := by unfold goodTb; exact @decide_eq_false _ (Classical.propDecidable _) h
theorem uptoTb_zero (t : List GTableRow) : uptoTb t 0 := ⟨fun j a h => by omega, fun j a b h => by omega⟩
theorem uptoTb_succ {t : List GTableRow} {k : Nat} {a : GTableRow} (h : uptoTb t k) (ha : t[k]? = some a) (ho : okRw a) (hp : k = 0 ∨ ∃ p, t[k - 1]? = some p ∧ p.pFar < a.pFar ∧ p.pBonus ≤ a.pBonus) : uptoTb t (k + 1) := by
  refine ⟨fun j b hj hb => ?_, fun j b c hj hb hc => ?_⟩
  · by_cases e : j = k
    · subst e; rw [ha] at hb; cases hb; exact ho
    · exact h.1 j b (by omega) hb
  · by_cases e : j + 1 = k
    · subst e
      rw [ha] at hc; cases hc
      rcases hp with e | ⟨p, hp, hlt⟩
      · omega
      · rw [Nat.add_sub_cancel] at hp
        rw [hp] at hb; cases hb; exact hlt
    · exact h.2 j b c (by omega) hb hc
/-- Rows farther on in a table are farther and have no smaller bonus. -/
theorem okTb_lt {t : List GTableRow} (h : okTb t) {i j : Nat} {a b : GTableRow} (hij : i < j) (ha : t[i]? = some a) (hb : t[j]? = some b) : a.pFar < b.pFar ∧ a.pBonus ≤ b.pBonus := by
  obtain ⟨n, rfl⟩ : ∃ n, j = i + 1 + n := ⟨j - i - 1, by omega⟩
  clear hij
  induction n generalizing b with
  | zero => exact h.1.2 i a b (List.getElem?_eq_some_iff.1 hb).1 ha hb
  | succ n ih =>
    have hl := (List.getElem?_eq_some_iff.1 hb).1
    obtain ⟨c, hc⟩ := get_of_lt (l := t) (k := i + 1 + n) (by omega)
    have h1 := ih hc
    have h2 := h.1.2 (i + 1 + n) c b (by omega) hc hb
    omega
theorem okTb_le {t : List GTableRow} (h : okTb t) {i j : Nat} {a b : GTableRow} (hij : i ≤ j) (ha : t[i]? = some a) (hb : t[j]? = some b) : a.pFar ≤ b.pFar ∧ a.pBonus ≤ b.pBonus := by
  rcases Nat.lt_or_eq_of_le hij with q | q
  · have := okTb_lt h q ha hb; omega
  · subst q; rw [ha] at hb; cases hb; omega
def okSw (s : GSwing) : Prop := (1 ≤ s.pStation ∧ s.pStation ≤ 99) ∧ (0 ≤ s.pFar ∧ s.pFar ≤ 1500) ∧ (1 ≤ s.pWidth ∧ s.pWidth ≤ 1000000) ∧ (-50 ≤ s.pTerm ∧ s.pTerm ≤ 50)
def oneSw (s : GSwing) : Bool := decide ((1 ≤ s.pStation ∧ s.pStation ≤ 99) ∧ (0 ≤ s.pFar ∧ s.pFar ≤ 1500) ∧ (1 ≤ s.pWidth ∧ s.pWidth ≤ 1000000) ∧ (-50 ≤ s.pTerm ∧ s.pTerm ≤ 50))
theorem oneSw_yes {a : GSwing} (h : oneSw a = true) : okSw a := by unfold oneSw at h; have g := of_decide_eq_true h; exact g
theorem oneSw_mk {a : GSwing} (h : okSw a) : oneSw a = true := by unfold oneSw; apply decide_eq_true; exact h
theorem oneSw_no {a : GSwing} (h : ¬ okSw a) : oneSw a = false := by unfold oneSw; exact decide_eq_false (fun g => h g)
def uptoSw (xs : List GSwing) (k : Nat) : Prop := (∀ j a, j < k → xs[j]? = some a → okSw a) ∧ ∀ j a b, j + 1 < k → xs[j]? = some a → xs[j + 1]? = some b → a.pStation < b.pStation
def okSws (xs : List GSwing) : Prop := uptoSw xs xs.length ∧ xs.length ≤ 10
noncomputable def goodSw (xs : List GSwing) : Bool := @decide (okSws xs) (Classical.propDecidable _)
theorem goodSw_yes {xs : List GSwing} (h : goodSw xs = true) : okSws xs := by unfold goodSw at h; exact @of_decide_eq_true _ (Classical.propDecidable _) h
theorem goodSw_mk {xs : List GSwing} (h : okSws xs) : goodSw xs = true := by unfold goodSw; exact @decide_eq_true _ (Classical.propDecidable _) h
theorem goodSw_no {xs : List GSwing} (h : ¬ okSws xs) : goodSw xs = false := by unfold goodSw; exact @decide_eq_false _ (Classical.propDecidable _) h
theorem uptoSw_zero (xs : List GSwing) : uptoSw xs 0 := ⟨fun j a h => by omega, fun j a b h => by omega⟩
theorem uptoSw_succ {xs : List GSwing} {k : Nat} {a : GSwing} (h : uptoSw xs k) (ha : xs[k]? = some a) (ho : okSw a) (hp : k = 0 ∨ ∃ p, xs[k - 1]? = some p ∧ p.pStation < a.pStation) : uptoSw xs (k + 1) := by
  refine ⟨fun j b hj hb => ?_, fun j b c hj hb hc => ?_⟩
  · by_cases e : j = k
    · subst e; rw [ha] at hb; cases hb; exact ho
    · exact h.1 j b (by omega) hb
  · by_cases e : j + 1 = k
    · subst e
      rw [ha] at hc; cases hc
      rcases hp with e | ⟨p, hp, hlt⟩
      · omega
      · rw [Nat.add_sub_cancel] at hp
        rw [hp] at hb; cases hb; exact hlt
    · exact h.2 j b c (by omega) hb hc
theorem okSws_mem {xs : List GSwing} (h : okSws xs) {a : GSwing} (ha : a ∈ xs) : okSw a := by
  obtain ⟨j, hj⟩ := List.mem_iff_getElem?.1 ha
  exact h.1.1 j a (List.getElem?_eq_some_iff.1 hj).1 hj

/-- The straight line between two rows. -/
def lineB (a b : GTableRow) (far : Int) : Int := a.pBonus + (far - a.pFar) * (b.pBonus - a.pBonus) / (b.pFar - a.pFar)
theorem lineB_bd {a b : GTableRow} (h1 : a.pFar < b.pFar) (h2 : a.pBonus ≤ b.pBonus) {far : Int} (h3 : a.pFar ≤ far) (h4 : far ≤ b.pFar) : a.pBonus ≤ lineB a b far ∧ lineB a b far ≤ b.pBonus := by
  unfold lineB
  have e0 : 0 ≤ (far - a.pFar) * (b.pBonus - a.pBonus) := Int.mul_nonneg (by omega) (by omega)
  have e1 : (far - a.pFar) * (b.pBonus - a.pBonus) ≤ (b.pBonus - a.pBonus) * (b.pFar - a.pFar) := by
    rw [Int.mul_comm (b.pBonus - a.pBonus)]
    exact Int.mul_le_mul_of_nonneg_right (by omega) (by omega)
  have e2 := Int.ediv_nonneg e0 (show 0 ≤ b.pFar - a.pFar by omega)
  have e3 : (far - a.pFar) * (b.pBonus - a.pBonus) / (b.pFar - a.pFar) ≤ b.pBonus - a.pBonus := Int.ediv_le_of_le_mul (by omega) e1
  omega
theorem lineB_mono {a b : GTableRow} (h1 : a.pFar < b.pFar) (h2 : a.pBonus ≤ b.pBonus) {x y : Int} (h : x ≤ y) : lineB a b x ≤ lineB a b y := by
  unfold lineB
  have e1 : (x - a.pFar) * (b.pBonus - a.pBonus) ≤ (y - a.pFar) * (b.pBonus - a.pBonus) := Int.mul_le_mul_of_nonneg_right (by omega) (by omega)
  have := Int.ediv_le_ediv (show 0 < b.pFar - a.pFar by omega) e1
  omega
/-- The first row that is at least so far: its number. -/
def atB (t : List GTableRow) (far : Int) (i : Nat) : Prop := i ≤ t.length ∧ (∀ j a, j < i → t[j]? = some a → a.pFar < far) ∧ ∀ a, t[i]? = some a → far ≤ a.pFar
theorem atB_one {t : List GTableRow} {far : Int} {i j : Nat} (h : atB t far i) (g : atB t far j) : i = j := by
  rcases Nat.lt_trichotomy i j with q | q | q
  · obtain ⟨a, ha⟩ := get_of_lt (l := t) (k := i) (by have := g.1; omega)
    have := h.2.2 a ha; have := g.2.1 i a q ha; omega
  · exact q
  · obtain ⟨a, ha⟩ := get_of_lt (l := t) (k := j) (by have := h.1; omega)
    have := g.2.2 a ha; have := h.2.1 j a q ha; omega
def findB (far : Int) : List GTableRow → Nat
  | [] => 0
  | a :: l => if far ≤ a.pFar then 0 else findB far l + 1
theorem findB_at (far : Int) : ∀ t, atB t far (findB far t)
  | [] => ⟨Nat.le_refl _, fun j a h => by unfold findB at h; omega, fun a h => by simp at h⟩
  | b :: l => by
    have i := findB_at far l
    unfold findB
    split
    · refine ⟨Nat.zero_le _, fun j a h => by omega, fun a h => ?_⟩
      rw [List.getElem?_cons_zero] at h; cases h; assumption
    · refine ⟨by rw [List.length_cons]; have := i.1; omega, fun j a hj ha => ?_, fun a ha => ?_⟩
      · cases j with
        | zero => rw [List.getElem?_cons_zero] at ha; cases ha; omega
        | succ j => rw [List.getElem?_cons_succ] at ha; exact i.2.1 j a (by omega) ha
      · rw [List.getElem?_cons_succ] at ha; exact i.2.2 a ha
/-- The bonus of a distance, or -1. -/
def bonAt (t : List GTableRow) (far : Int) : Nat → Int
  | 0 => match t[0]? with
    | some a => a.pBonus
    | none => -1
  | i + 1 => match t[i]?, t[i + 1]? with
    | some a, some b => lineB a b far
    | _, _ => -1
def bonV (t : List GTableRow) (far : Int) : Int := bonAt t far (findB far t)
theorem bonV_at {t : List GTableRow} {far : Int} {i : Nat} (h : atB t far i) : bonV t far = bonAt t far i := by unfold bonV; rw [atB_one (findB_at far t) h]
theorem bonV_zero {t : List GTableRow} {far : Int} {a : GTableRow} (ha : t[0]? = some a) (h : far ≤ a.pFar) : bonV t far = a.pBonus := by
  rw [bonV_at (i := 0) ⟨Nat.zero_le _, fun j a h => by omega, fun b hb => by rw [ha] at hb; cases hb; exact h⟩]
  show (match t[0]? with | some a => a.pBonus | none => -1) = _
  rw [ha]
theorem bonV_mid {t : List GTableRow} (h : okTb t) {far : Int} {i : Nat} {a b : GTableRow} (ha : t[i]? = some a) (hb : t[i + 1]? = some b) (h1 : a.pFar < far) (h2 : far ≤ b.pFar) : bonV t far = lineB a b far := by
  have hl := (List.getElem?_eq_some_iff.1 hb).1
  rw [bonV_at (i := i + 1) ⟨by omega, fun j c hj hc => by have := okTb_le h (show j ≤ i by omega) hc ha; omega, fun c hc => by rw [hb] at hc; cases hc; exact h2⟩]
  show (match t[i]?, t[i + 1]? with | some a, some b => lineB a b far | _, _ => -1) = _
  rw [ha, hb]
theorem bonV_off {t : List GTableRow} (h : okTb t) {far : Int} {a : GTableRow} (ha : t[t.length - 1]? = some a) (h1 : a.pFar < far) : bonV t far = -1 := by
  have hl := h.2
  rw [bonV_at (i := t.length) ⟨Nat.le_refl _, fun j c hj hc => by have := okTb_le h (show j ≤ t.length - 1 by omega) hc ha; omega, fun c hc => by rw [List.getElem?_eq_none (Nat.le_refl _)] at hc; cases hc⟩]
  obtain ⟨n, hn⟩ : ∃ n, t.length = n + 1 := ⟨t.length - 1, by omega⟩
  rw [hn]
  show (match t[n]?, t[n + 1]? with | some a, some b => lineB a b far | _, _ => -1) = _
  rw [← hn, List.getElem?_eq_none (Nat.le_refl _)]
  cases t[n]? <;> rfl
/-- The three ways that a distance lies. -/
theorem bon_ways {t : List GTableRow} (h : okTb t) (far : Int) : (∃ a, t[0]? = some a ∧ far ≤ a.pFar) ∨ (∃ i a b, t[i]? = some a ∧ t[i + 1]? = some b ∧ a.pFar < far ∧ far ≤ b.pFar) ∨ ∃ a, t[t.length - 1]? = some a ∧ a.pFar < far := by
  have f := findB_at far t
  have hl := h.2
  generalize findB far t = i at f
  cases i with
  | zero =>
    obtain ⟨a, ha⟩ := get_of_lt (l := t) (k := 0) (by omega)
    exact Or.inl ⟨a, ha, f.2.2 a ha⟩
  | succ i =>
    obtain ⟨a, ha⟩ := get_of_lt (l := t) (k := i) (by have := f.1; omega)
    have h1 := f.2.1 i a (by omega) ha
    by_cases q : i + 1 < t.length
    · obtain ⟨b, hb⟩ := get_of_lt (l := t) (k := i + 1) q
      exact Or.inr (Or.inl ⟨i, a, b, ha, hb, h1, f.2.2 b hb⟩)
    · have e : t.length - 1 = i := by have := f.1; omega
      rw [e]
      exact Or.inr (Or.inr ⟨a, ha, h1⟩)
theorem okTb_mem {t : List GTableRow} (h : okTb t) {i : Nat} {a : GTableRow} (ha : t[i]? = some a) : okRw a := h.1.1 i a (List.getElem?_eq_some_iff.1 ha).1 ha
theorem bonV_bd {t : List GTableRow} (h : okTb t) (far : Int) : -1 ≤ bonV t far ∧ bonV t far ≤ 600 := by
  rcases bon_ways h far with ⟨a, ha, h1⟩ | ⟨i, a, b, ha, hb, h1, h2⟩ | ⟨a, ha, h1⟩
  · rw [bonV_zero ha h1]; have := (okTb_mem h ha).2; omega
  · rw [bonV_mid h ha hb h1 h2]
    have l := okTb_lt h (show i < i + 1 by omega) ha hb
    have := lineB_bd l.1 l.2 (Int.le_of_lt h1) h2
    have := (okTb_mem h ha).2; have := (okTb_mem h hb).2; omega
  · rw [bonV_off h ha h1]; omega
/-- A greater distance has no smaller bonus, if it has one. -/
theorem bonV_mono {t : List GTableRow} (h : okTb t) {x y : Int} (hxy : x ≤ y) (hy : 0 ≤ bonV t y) : bonV t x ≤ bonV t y := by
  have hl := h.2
  rcases bon_ways h y with ⟨a, ha, h1⟩ | ⟨i, a, b, ha, hb, h1, h2⟩ | ⟨a, ha, h1⟩
  · rw [bonV_zero ha h1, bonV_zero ha (show x ≤ a.pFar by omega)]; omega
  · rw [bonV_mid h ha hb h1 h2]
    have l := okTb_lt h (show i < i + 1 by omega) ha hb
    have ly := lineB_bd l.1 l.2 (Int.le_of_lt h1) h2
    rcases bon_ways h x with ⟨c, hc, h3⟩ | ⟨j, c, d, hc, hd, h3, h4⟩ | ⟨c, hc, h3⟩
    · rw [bonV_zero hc h3]
      have := okTb_le h (Nat.zero_le i) hc ha
      omega
    · rw [bonV_mid h hc hd h3 h4]
      have m := okTb_lt h (show j < j + 1 by omega) hc hd
      have lx := lineB_bd m.1 m.2 (Int.le_of_lt h3) h4
      rcases Nat.lt_trichotomy j i with q | q | q
      · have := okTb_le h (show j + 1 ≤ i by omega) hd ha
        omega
      · subst q
        rw [ha] at hc; cases hc
        rw [hb] at hd; cases hd
        exact lineB_mono l.1 l.2 hxy
      · have := okTb_le h (show i + 1 ≤ j by omega) hb hc
        omega
    · have := okTb_le h (show i + 1 ≤ t.length - 1 by have := (List.getElem?_eq_some_iff.1 hb).1; omega) hb hc
      omega
  · rw [bonV_off h ha h1] at hy; omega

/-- The size of a width. -/
def sizeV (w : Int) : Int :=
  if w < 10 then 11 * (w - 1) else if w < 100 then 100 + 11 * (w / 10 - 1) else if w < 1000 then 200 + 11 * (w / 100 - 1) else if w < 10000 then 300 + 11 * (w / 1000 - 1)
  else if w < 100000 then 400 + 11 * (w / 10000 - 1) else if w < 1000000 then 500 + 11 * (w / 100000 - 1) else 600 + 11 * (w / 1000000 - 1)
theorem sizeV_low {w : Int} (h : w < 10) : sizeV w = 11 * (w - 1) := by unfold sizeV; rw [if_pos h]
theorem sizeV_step {w : Int} (h : 10 ≤ w) (h1 : w ≤ 1000000) : sizeV w = 100 + sizeV (w / 10) := by
  unfold sizeV
  repeat' split
  all_goals omega
theorem sizeV_mono {v w : Int} (h0 : 1 ≤ v) (h : v ≤ w) (h1 : w ≤ 1000000) : sizeV v ≤ sizeV w := by
  unfold sizeV
  repeat' split
  all_goals omega
theorem sizeV_top : sizeV 1000000 = 600 := by decide
theorem sizeV_bd {w : Int} (h0 : 1 ≤ w) (h1 : w ≤ 1000000) : 0 ≤ sizeV w ∧ sizeV w ≤ 600 := by
  have a := sizeV_mono (v := 1) (w := w) (by omega) h0 h1
  have b := sizeV_mono h0 h1 (Int.le_refl _)
  rw [sizeV_top] at b
  rw [sizeV_low (show (1 : Int) < 10 by omega)] at a
  omega
/-- The least width with a size of at least m. -/
def leastW (m w : Int) : Prop := (1 ≤ w ∧ w ≤ 1000000) ∧ m ≤ sizeV w ∧ ∀ v, 1 ≤ v → v < w → sizeV v < m
theorem leastW_one {m v w : Int} (h : leastW m v) (g : leastW m w) : v = w := by
  rcases Int.lt_trichotomy v w with q | q | q
  · have := g.2.2 v h.1.1 q; have := h.2.1; omega
  · exact q
  · have := h.2.2 w g.1.1 q; have := g.2.1; omega
theorem leastW_ex {m : Int} (h : m ≤ 600) : ∃ w, leastW m w := by
  have key : ∀ n : Nat, (∃ w, leastW m w) ∨ ((n : Int) ≤ 1000000 → ∀ v : Int, 1 ≤ v → v ≤ n → sizeV v < m) := by
    intro n
    induction n with
    | zero => exact Or.inr fun _ v h1 h2 => by omega
    | succ n ih =>
      rcases ih with ih | ih
      · exact Or.inl ih
      · by_cases q : (n : Int) + 1 ≤ 1000000
        · by_cases e : m ≤ sizeV ((n : Int) + 1)
          · exact Or.inl ⟨(n : Int) + 1, ⟨by omega, q⟩, e, fun v h1 h2 => ih (by omega) v h1 (by omega)⟩
          · refine Or.inr fun _ v h1 h2 => ?_
            by_cases f : v = (n : Int) + 1
            · subst f; omega
            · exact ih (by omega) v h1 (by omega)
        · exact Or.inr fun g => by omega
  rcases key 1000000 with k | k
  · exact k
  · have := k (by omega) 1000000 (by omega) (by omega)
    rw [sizeV_top] at this
    omega
/-- Magnitudes. -/
def hasM (t : List GTableRow) (s : GSwing) : Bool := decide (0 ≤ bonV t s.pFar)
def magV (t : List GTableRow) (s : GSwing) : Int := sizeV s.pWidth + bonV t s.pFar + s.pTerm
theorem magV_bd {t : List GTableRow} (h : okTb t) {s : GSwing} (hs : okSw s) : -51 ≤ magV t s ∧ magV t s ≤ 1250 := by
  have a := bonV_bd h s.pFar
  have b := sizeV_bd hs.2.2.1.1 hs.2.2.1.2
  have c := hs.2.2.2
  unfold magV
  omega
def magsV (t : List GTableRow) (l : List GSwing) : List Int := (l.filter (hasM t)).map (magV t)
theorem magsV_take {t : List GTableRow} {l : List GSwing} {k : Nat} {s : GSwing} (h : l[k]? = some s) : magsV t (l.take (k + 1)) = if hasM t s then magsV t (l.take k) ++ [magV t s] else magsV t (l.take k) := by
  unfold magsV
  rw [take_snoc h, List.filter_append, List.map_append]
  cases hf : hasM t s <;> simp [hf]
theorem magsV_len (t : List GTableRow) (l : List GSwing) : (magsV t l).length ≤ l.length := by unfold magsV; rw [List.length_map]; exact List.length_filter_le _ _
theorem magsV_bd {t : List GTableRow} (h : okTb t) {l : List GSwing} (hl : okSws l) : ∀ m ∈ magsV t l, -51 ≤ m ∧ m ≤ 1250 := by
  intro m hm
  unfold magsV at hm
  obtain ⟨s, hs, rfl⟩ := List.mem_map.1 hm
  exact magV_bd h (okSws_mem hl (List.mem_filter.1 hs).1)
def medV (t : List GTableRow) (l : List GSwing) : Int := mid (magsV t l)
theorem medV_bd {t : List GTableRow} (h : okTb t) {l : List GSwing} (hl : okSws l) (hn : 0 < (magsV t l).length) : -51 ≤ medV t l ∧ medV t l ≤ 1250 := magsV_bd h hl _ (mid_mem hn)
def resV (t : List GTableRow) (l : List GSwing) : List Int := (magsV t l).map (· - medV t l)
theorem resV_zero {t : List GTableRow} {l : List GSwing} (hn : 0 < (magsV t l).length) : 0 ∈ resV t l := by
  unfold resV
  rw [List.mem_map]
  exact ⟨_, mid_mem hn, by show mid _ - mid _ = 0; omega⟩
/-- Half of the residuals, or more, are at most 0. -/
theorem mid_half (l : List Int) : l.length ≤ 2 * (l.filter (fun x => decide (x ≤ mid l))).length := by
  rcases Nat.eq_zero_or_pos l.length with q | q
  · omega
  have hp := (srt_perm l).filter (fun x => decide (x ≤ mid l))
  have e := hp.length_eq
  rw [← e]
  have hg := mid_get q
  have hle := pw_take (srt_pw l) hg
  have hs := srt_len l
  have h1 : ((srt l).take ((l.length - 1) / 2 + 1)).Sublist (srt l) := List.take_sublist _ _
  have h2 := (h1.filter (fun x => decide (x ≤ mid l))).length_le
  have h3 : ((srt l).take ((l.length - 1) / 2 + 1)).filter (fun x => decide (x ≤ mid l)) = (srt l).take ((l.length - 1) / 2 + 1) := by
    rw [List.filter_eq_self]
    intro a ha
    exact decide_eq_true (hle a ha)
  rw [h3, List.length_take, hs] at h2
  omega
theorem resV_half (t : List GTableRow) (l : List GSwing) : (resV t l).length ≤ 2 * ((resV t l).filter (fun x => decide (x ≤ 0))).length := by
  have h := mid_half (magsV t l)
  unfold resV
  rw [List.filter_map, List.length_map, List.length_map]
  have e : ((fun x : Int => decide (x ≤ 0)) ∘ fun x => x - medV t l) = fun x => decide (x ≤ mid (magsV t l)) := by
    funext x
    show decide (x - mid (magsV t l) ≤ 0) = _
    rw [decide_eq_decide]
    omega
  rw [e]
  exact h
/-- New terms. -/
def termV (t : List GTableRow) (m : Int) (s : GSwing) : GSwing := if hasM t s then ⟨s.pStation, s.pFar, s.pWidth, max (-50) (min 50 (s.pTerm - magV t s + m))⟩ else s
def termsV (t : List GTableRow) (l : List GSwing) : List GSwing := l.map (termV t (medV t l))
theorem termV_ok {t : List GTableRow} {m : Int} {s : GSwing} (h : okSw s) : okSw (termV t m s) := by
  unfold termV
  split
  · refine ⟨h.1, h.2.1, h.2.2.1, ?_⟩
    show -50 ≤ max (-50) (min 50 (s.pTerm - magV t s + m)) ∧ max (-50) (min 50 (s.pTerm - magV t s + m)) ≤ 50
    omega
  · exact h
theorem termV_st (t : List GTableRow) (m : Int) (s : GSwing) : (termV t m s).pStation = s.pStation := by unfold termV; split <;> rfl
theorem termV_far (t : List GTableRow) (m : Int) (s : GSwing) : (termV t m s).pFar = s.pFar := by unfold termV; split <;> rfl
theorem termsV_ok {t : List GTableRow} {l : List GSwing} (h : okSws l) : okSws (termsV t l) := by
  unfold termsV
  refine ⟨⟨fun j a _ ha => ?_, fun j a b hj ha hb => ?_⟩, by rw [List.length_map]; exact h.2⟩
  · rw [List.getElem?_map] at ha
    obtain ⟨s, hs, rfl⟩ := Option.map_eq_some_iff.1 ha
    exact termV_ok (okSws_mem h (List.mem_of_getElem? hs))
  · rw [List.getElem?_map] at ha hb
    obtain ⟨s, hs, rfl⟩ := Option.map_eq_some_iff.1 ha
    obtain ⟨u, hu, rfl⟩ := Option.map_eq_some_iff.1 hb
    rw [termV_st, termV_st]
    exact h.1.2 j s u (List.getElem?_eq_some_iff.1 hu).1 hs hu
theorem termV_has (t : List GTableRow) (m : Int) (s : GSwing) : hasM t (termV t m s) = hasM t s := by unfold hasM; rw [termV_far]
/-- With its new term no swing is farther from the median. -/
theorem termV_near {t : List GTableRow} {m : Int} {s : GSwing} (hs : okSw s) (h : hasM t s = true) : (magV t (termV t m s) - m) * (magV t (termV t m s) - m) ≤ (magV t s - m) * (magV t s - m) := by
  have hc := hs.2.2.2
  have e : magV t (termV t m s) - m = (magV t s - m) + (max (-50) (min 50 (s.pTerm - magV t s + m)) - s.pTerm) := by
    unfold termV
    rw [if_pos h]
    unfold magV
    dsimp only
    omega
  rw [e]
  generalize magV t s = g at *
  generalize s.pTerm = u at *
  have sq : ∀ a b : Int, 0 ≤ a → a ≤ b → a * a ≤ b * b := fun a b h0 h1 => Int.mul_le_mul h1 h1 h0 (by omega)
  have ng : ∀ a : Int, a * a = (-a) * (-a) := fun a => by grind
  rcases Int.le_total 0 (g - m) with q | q
  · exact sq _ _ (by omega) (by omega)
  · rw [ng, ng (g - m)]
    exact sq _ _ (by omega) (by omega)
end Go.Proofs.YtdiedfpfhbdamaaDoor
