/- Tracks of clock marks: the mathematics. -/
import Derived.Test.YtklilfbokpljkacFClockMark
import Derived.Test.YtklilfbokpljkacFDrift
import Derived.Test.YtklilfbokpljkacStaW
import Derived.Test.YtklilfbokpljkacRed
namespace Go.Proofs.Ytklilfbokpljkac
open Go.ChangeShapes Go.WideShapes Go.ChangeAt Go.RowKit Go.ChangeMaps
set_option linter.unusedSimpArgs false
set_option linter.unusedVariables false

/-- a comes before b, on both scales. -/
def befTk (a b : GClockMark) : Prop := a.pShown < b.pShown ∧ a.pTrue < b.pTrue
def tickM (m : GClockMark) : Prop := (0 ≤ m.pShown ∧ m.pShown ≤ 1000000) ∧ (0 ≤ m.pTrue ∧ m.pTrue ≤ 1000000)
def okTk (xs : List GClockMark) : Prop := (2 ≤ xs.length ∧ xs.length ≤ 10) ∧ (∀ m ∈ xs, tickM m) ∧ xs.Pairwise befTk
noncomputable def goodTk (xs : List GClockMark) : Bool := @decide (okTk xs) (Classical.propDecidable _)
theorem goodTk_yes {xs : List GClockMark} (h : goodTk xs = true) : okTk xs := @of_decide_eq_true _ (Classical.propDecidable _) h
theorem goodTk_mk {xs : List GClockMark} (h : okTk xs) : goodTk xs = true := @decide_eq_true _ (Classical.propDecidable _) h
theorem goodTk_no {xs : List GClockMark} (h : ¬ okTk xs) : goodTk xs = false := @decide_eq_false _ (Classical.propDecidable _) h
/-- The line through two marks, rounded down. -/
def lineAt (a b : GClockMark) (x : Int) : Int := a.pTrue + (x - a.pShown) * (b.pTrue - a.pTrue) / (b.pShown - a.pShown)
def lineL : List GClockMark → Int → Int
  | [a, b], x => lineAt a b x
  | a :: b :: c :: r, x => if b.pShown < x then lineL (b :: c :: r) x else lineAt a b x
  | _, _ => 0
theorem lineAt_fst (a b : GClockMark) : lineAt a b a.pShown = a.pTrue := by unfold lineAt; simp
theorem lineAt_snd {a b : GClockMark} (h : befTk a b) : lineAt a b b.pShown = b.pTrue := by
  unfold lineAt
  rw [Int.mul_ediv_cancel_left _ (by unfold befTk at h; omega)]
  omega
theorem lineAt_mono {a b : GClockMark} (h : befTk a b) {x y : Int} (hxy : x ≤ y) : lineAt a b x ≤ lineAt a b y := by
  unfold befTk at h
  unfold lineAt
  have h1 : (x - a.pShown) * (b.pTrue - a.pTrue) ≤ (y - a.pShown) * (b.pTrue - a.pTrue) := Int.mul_le_mul_of_nonneg_right (by omega) (by omega)
  have h2 := Int.ediv_le_ediv (show 0 < b.pShown - a.pShown by omega) h1
  omega
theorem lineL_fst {a b : GClockMark} {r : List GClockMark} (h : befTk a b) : lineL (a :: b :: r) a.pShown = a.pTrue := by
  cases r with
  | nil => exact lineAt_fst a b
  | cons c r =>
    unfold befTk at h
    show (if b.pShown < a.pShown then lineL (b :: c :: r) a.pShown else lineAt a b a.pShown) = _
    rw [if_neg (by omega)]
    exact lineAt_fst a b
theorem pw_head {a b : GClockMark} {r : List GClockMark} (h : (a :: b :: r).Pairwise befTk) : befTk a b ∧ (b :: r).Pairwise befTk := by
  rw [List.pairwise_cons] at h
  exact ⟨h.1 b (List.mem_cons_self ..), h.2⟩
theorem lineL_mono : ∀ (xs : List GClockMark), xs.Pairwise befTk → 2 ≤ xs.length → ∀ {x y : Int}, x ≤ y → lineL xs x ≤ lineL xs y
  | [], _, h, _, _, _ => by simp at h
  | [a], _, h, _, _, _ => by simp at h
  | [a, b], h, _, x, y, hxy => lineAt_mono (pw_head h).1 hxy
  | a :: b :: c :: r, h, _, x, y, hxy => by
    have h1 := pw_head h
    have h2 := pw_head h1.2
    show (if b.pShown < x then lineL (b :: c :: r) x else lineAt a b x) ≤ (if b.pShown < y then lineL (b :: c :: r) y else lineAt a b y)
    by_cases hx : b.pShown < x
    · rw [if_pos hx, if_pos (by omega)]
      exact lineL_mono (b :: c :: r) h1.2 (by simp) hxy
    · rw [if_neg hx]
      by_cases hy : b.pShown < y
      · rw [if_pos hy]
        have q1 := lineAt_mono h1.1 (show x ≤ b.pShown by omega)
        rw [lineAt_snd h1.1] at q1
        have q2 := lineL_mono (b :: c :: r) h1.2 (by simp) (show b.pShown ≤ y by omega)
        rw [lineL_fst h2.1] at q2
        omega
      · rw [if_neg hy]
        exact lineAt_mono h1.1 hxy
/-- Each mark is met exactly. -/
theorem lineL_mark : ∀ (xs : List GClockMark), xs.Pairwise befTk → 2 ≤ xs.length → ∀ m ∈ xs, lineL xs m.pShown = m.pTrue
  | [], _, h, _, _ => by simp at h
  | [a], _, h, _, _ => by simp at h
  | [a, b], h, _, m, hm => by
    have h1 := pw_head h
    rcases List.mem_cons.1 hm with rfl | hm
    · exact lineL_fst h1.1
    · simp only [List.mem_singleton] at hm
      subst hm
      exact lineAt_snd h1.1
  | a :: b :: c :: r, h, _, m, hm => by
    have h1 := pw_head h
    rcases List.mem_cons.1 hm with rfl | hm
    · exact lineL_fst h1.1
    · show (if b.pShown < m.pShown then lineL (b :: c :: r) m.pShown else lineAt a b m.pShown) = _
      by_cases hb : b.pShown < m.pShown
      · rw [if_pos hb]
        exact lineL_mark (b :: c :: r) h1.2 (by simp) m hm
      · rw [if_neg hb]
        rcases List.mem_cons.1 hm with rfl | hm
        · exact lineAt_snd h1.1
        · have h3 := h1.2
          rw [List.pairwise_cons] at h3
          have := (h3.1 m hm).1
          omega
/-- The segment that a loop over marks comes to. -/
theorem lineL_drop {xs : List GClockMark} {k : Nat} {x : Int} {b : GClockMark} (hk : 1 ≤ k) (hl : k + 1 < xs.length) (hb : xs[k]? = some b) (h : b.pShown < x) : lineL (xs.drop (k - 1)) x = lineL (xs.drop k) x := by
  obtain ⟨j, rfl⟩ : ∃ j, k = j + 1 := ⟨k - 1, by omega⟩
  have e1 : xs.drop j = xs[j]'(by omega) :: xs[j + 1]'(by omega) :: xs[j + 2]'(by omega) :: xs.drop (j + 3) := by
    rw [List.drop_eq_getElem_cons (by omega), List.drop_eq_getElem_cons (by omega), List.drop_eq_getElem_cons (by omega)]
  have e2 : xs.drop (j + 1) = xs[j + 1]'(by omega) :: xs[j + 2]'(by omega) :: xs.drop (j + 3) := by
    rw [List.drop_eq_getElem_cons (by omega), List.drop_eq_getElem_cons (by omega)]
  have e3 : xs[j + 1]'(by omega) = b := (List.getElem?_eq_some_iff.1 hb).2
  rw [Nat.add_sub_cancel, e1, e2, e3]
  show (if b.pShown < x then _ else _) = _
  rw [if_pos h]
theorem lineL_here {xs : List GClockMark} {k : Nat} {x : Int} {a b : GClockMark} (hk : 1 ≤ k) (ha : xs[k - 1]? = some a) (hb : xs[k]? = some b) (h : xs.length ≤ k + 1 ∨ ¬ b.pShown < x) : lineL (xs.drop (k - 1)) x = lineAt a b x := by
  obtain ⟨j, rfl⟩ : ∃ j, k = j + 1 := ⟨k - 1, by omega⟩
  rw [Nat.add_sub_cancel] at ha ⊢
  have hl : j + 1 < xs.length := (List.getElem?_eq_some_iff.1 hb).1
  have e3 : xs[j]'(by omega) = a := (List.getElem?_eq_some_iff.1 ha).2
  have e4 : xs[j + 1]'hl = b := (List.getElem?_eq_some_iff.1 hb).2
  by_cases hc : j + 2 < xs.length
  · have e1 : xs.drop j = xs[j]'(by omega) :: xs[j + 1]'hl :: xs[j + 2]'hc :: xs.drop (j + 3) := by
      rw [List.drop_eq_getElem_cons (by omega), List.drop_eq_getElem_cons (by omega), List.drop_eq_getElem_cons (by omega)]
    rw [e1, e3, e4]
    show (if b.pShown < x then _ else _) = _
    rw [if_neg (by omega)]
  · have e1 : xs.drop j = [xs[j]'(by omega), xs[j + 1]'hl] := by
      rw [List.drop_eq_getElem_cons (by omega), List.drop_eq_getElem_cons (by omega), List.drop_of_length_le (by omega)]
    rw [e1, e3, e4]
    rfl
/-- Division that is rounded towards 0, and then down. -/
theorem div_down {a b : Int} (hb : 0 < b) : (if a < 0 ∧ a.tmod b ≠ 0 then a.tdiv b - 1 else a.tdiv b) = a / b := by
  have h := Int.tdiv_eq_ediv (a := a) (b := b)
  have hs : b.sign = 1 := Int.sign_eq_one_of_pos hb
  rw [hs] at h
  by_cases h0 : a < 0
  · by_cases hd : b ∣ a
    · rw [if_neg (by rw [Int.tmod_eq_zero_of_dvd hd]; simp), h, if_pos (Or.inr hd)]; omega
    · rw [if_pos ⟨h0, fun e => hd (Int.dvd_of_tmod_eq_zero e)⟩, h, if_neg (by simp only [not_or]; exact ⟨by omega, hd⟩)]; omega
  · rw [if_neg (by omega), h, if_pos (Or.inl (by omega))]; omega
theorem lineAt_bd {a b : GClockMark} (ha : tickM a) (hb : tickM b) (h : befTk a b) {x : Int} (h0 : -3000000 ≤ x) (h1 : x ≤ 3000000) :
    (-4000000000000 ≤ (x - a.pShown) * (b.pTrue - a.pTrue) ∧ (x - a.pShown) * (b.pTrue - a.pTrue) ≤ 4000000000000) ∧ -4000001000000 ≤ lineAt a b x ∧ lineAt a b x ≤ 4000001000000 := by
  unfold tickM at ha hb
  unfold befTk at h
  have m1 := Int.mul_le_mul_of_nonneg_right (show x - a.pShown ≤ 4000000 by omega) (show 0 ≤ b.pTrue - a.pTrue by omega)
  have m2 := Int.mul_le_mul_of_nonneg_right (show -4000000 ≤ x - a.pShown by omega) (show 0 ≤ b.pTrue - a.pTrue by omega)
  have hp : -4000000000000 ≤ (x - a.pShown) * (b.pTrue - a.pTrue) ∧ (x - a.pShown) * (b.pTrue - a.pTrue) ≤ 4000000000000 := by omega
  refine ⟨hp, ?_⟩
  unfold lineAt
  generalize (x - a.pShown) * (b.pTrue - a.pTrue) = p at *
  have d0 : 0 < b.pShown - a.pShown := by omega
  generalize b.pShown - a.pShown = d at *
  have q1 : -4000000000000 ≤ p / d := by
    rw [Int.le_ediv_iff_mul_le d0]
    have := Int.mul_le_mul_of_nonpos_left (show (-4000000000000 : Int) ≤ 0 by omega) (show (1 : Int) ≤ d by omega)
    omega
  have q2 : p / d ≤ 4000000000000 := by
    have e1 := Int.ediv_le_self (a := 4000000000000) d (by omega)
    have e2 := Int.ediv_le_ediv d0 hp.2
    omega
  omega
/-- The smallest tick from which on the true time is at least t; 1000001 if there is none. -/
def isFirst (xs : List GClockMark) (t r : Int) : Prop := (0 ≤ r ∧ r ≤ 1000001) ∧ (∀ x, 0 ≤ x → x < r → lineL xs x < t) ∧ (r = 1000001 ∨ t ≤ lineL xs r)
theorem isFirst_uniq {xs : List GClockMark} {t r r' : Int} (h : isFirst xs t r) (h' : isFirst xs t r') : r = r' := by
  obtain ⟨b, f, g⟩ := h
  obtain ⟨b', f', g'⟩ := h'
  rcases Int.lt_trichotomy r r' with q | q | q
  · have := f' r b.1 q; omega
  · exact q
  · have := f r' b'.1 q; omega
/-- Marks in strict order with the same members are the same. -/
theorem asc_ext : ∀ (xs ys : List GClockMark), xs.Pairwise befTk → ys.Pairwise befTk → (∀ m, m ∈ xs ↔ m ∈ ys) → xs = ys
  | [], [], _, _, _ => rfl
  | [], y :: ys, _, _, h => by have := (h y).2 (List.mem_cons_self ..); simp at this
  | x :: xs, [], _, _, h => by have := (h x).1 (List.mem_cons_self ..); simp at this
  | x :: xs, y :: ys, hx, hy, h => by
    rw [List.pairwise_cons] at hx hy
    have e : x = y := by
      rcases List.mem_cons.1 ((h x).1 (List.mem_cons_self ..)) with q | q
      · exact q
      · rcases List.mem_cons.1 ((h y).2 (List.mem_cons_self ..)) with p | p
        · exact p.symm
        · have a := (hy.1 x q).1
          have b := (hx.1 y p).1
          omega
    subst e
    congr 1
    refine asc_ext xs ys hx.2 hy.2 fun m => ⟨fun hm => ?_, fun hm => ?_⟩
    · rcases List.mem_cons.1 ((h m).1 (List.mem_cons_of_mem _ hm)) with q | q
      · have := (hx.1 m hm).1
        rw [q] at this; omega
      · exact q
    · rcases List.mem_cons.1 ((h m).2 (List.mem_cons_of_mem _ hm)) with q | q
      · have := (hy.1 m hm).1
        rw [q] at this; omega
      · exact q
/-- A mark in its place. -/
def putTk (xs : List GClockMark) (m : GClockMark) : List GClockMark := xs.takeWhile (fun a => decide (a.pShown < m.pShown)) ++ m :: xs.dropWhile (fun a => decide (a.pShown < m.pShown))
theorem putTk_mem {xs : List GClockMark} {m y : GClockMark} : y ∈ putTk xs m ↔ y = m ∨ y ∈ xs := by
  have e : xs.takeWhile (fun a => decide (a.pShown < m.pShown)) ++ xs.dropWhile (fun a => decide (a.pShown < m.pShown)) = xs := List.takeWhile_append_dropWhile
  unfold putTk
  rw [List.mem_append, List.mem_cons]
  conv => rhs; rw [← e, List.mem_append]
  constructor
  · rintro (h | h | h)
    · exact Or.inr (Or.inl h)
    · exact Or.inl h
    · exact Or.inr (Or.inr h)
  · rintro (h | h | h)
    · exact Or.inr (Or.inl h)
    · exact Or.inl h
    · exact Or.inr (Or.inr h)
theorem putTk_len (xs : List GClockMark) (m : GClockMark) : (putTk xs m).length = xs.length + 1 := by
  have e : (xs.takeWhile (fun a => decide (a.pShown < m.pShown)) ++ xs.dropWhile (fun a => decide (a.pShown < m.pShown))).length = xs.length := by rw [List.takeWhile_append_dropWhile]
  unfold putTk
  rw [List.length_append] at e ⊢
  rw [List.length_cons]
  omega
theorem lineL_bd : ∀ (xs : List GClockMark), xs.Pairwise befTk → (∀ m ∈ xs, tickM m) → ∀ {x : Int}, -3000000 ≤ x → x ≤ 3000000 → -4000001000000 ≤ lineL xs x ∧ lineL xs x ≤ 4000001000000
  | [], _, _, _, _, _ => ⟨by show _ ≤ (0 : Int); decide, by show (0 : Int) ≤ _; decide⟩
  | [a], _, _, _, _, _ => ⟨by show _ ≤ (0 : Int); decide, by show (0 : Int) ≤ _; decide⟩
  | [a, b], h, ht, x, h0, h1 => (lineAt_bd (ht a (List.mem_cons_self ..)) (ht b (List.mem_cons_of_mem _ (List.mem_cons_self ..))) (pw_head h).1 h0 h1).2
  | a :: b :: c :: r, h, ht, x, h0, h1 => by
    show _ ≤ (if b.pShown < x then lineL (b :: c :: r) x else lineAt a b x) ∧ (if b.pShown < x then lineL (b :: c :: r) x else lineAt a b x) ≤ _
    split
    · exact lineL_bd (b :: c :: r) (pw_head h).2 (fun m hm => ht m (List.mem_cons_of_mem _ hm)) h0 h1
    · exact (lineAt_bd (ht a (List.mem_cons_self ..)) (ht b (List.mem_cons_of_mem _ (List.mem_cons_self ..))) (pw_head h).1 h0 h1).2
noncomputable def firstTk (xs : List GClockMark) (t : Int) : Int := @dite _ (∃ r, isFirst xs t r) (Classical.propDecidable _) (fun h => Classical.choose h) (fun _ => 0)
theorem firstTk_is {xs : List GClockMark} {t r : Int} (h : isFirst xs t r) : firstTk xs t = r := by
  have hex : ∃ r, isFirst xs t r := ⟨r, h⟩
  unfold firstTk
  rw [dif_pos hex]
  exact isFirst_uniq (Classical.choose_spec hex) h
/-- Below the first tick the line is below, from it on it is not. -/
theorem isFirst_mk {xs : List GClockMark} (h : okTk xs) {t r : Int} (hr : 0 ≤ r ∧ r ≤ 1000001) (h1 : r = 0 ∨ lineL xs (r - 1) < t) (h2 : r = 1000001 ∨ t ≤ lineL xs r) : isFirst xs t r := by
  refine ⟨hr, fun x hx0 hx => ?_, h2⟩
  rcases h1 with q | q
  · omega
  · have := lineL_mono xs h.2.2 h.1.1 (show x ≤ r - 1 by omega)
    omega
theorem isFirst_ge {xs : List GClockMark} (h : okTk xs) {t r : Int} (hf : isFirst xs t r) {x : Int} (hx : r ≤ x) (hr : r ≤ 1000000) : t ≤ lineL xs x := by
  have := lineL_mono xs h.2.2 h.1.1 hx
  rcases hf.2.2 with q | q <;> omega
theorem takeW_lt {xs : List GClockMark} {m a : GClockMark} (h : a ∈ xs.takeWhile (fun a => decide (a.pShown < m.pShown))) : a.pShown < m.pShown := of_decide_eq_true (List.all_eq_true.1 (List.all_takeWhile (p := fun a : GClockMark => decide (a.pShown < m.pShown)) (l := xs)) a h)
theorem dropW_ge {xs : List GClockMark} (hp : xs.Pairwise befTk) {m a : GClockMark} (h : a ∈ xs.dropWhile (fun a => decide (a.pShown < m.pShown))) : m.pShown ≤ a.pShown := by
  induction xs with
  | nil => simp at h
  | cons x xs ih =>
    rw [List.pairwise_cons] at hp
    rw [List.dropWhile_cons] at h
    split at h
    · exact ih hp.2 h
    · rename_i hx
      have hx' : ¬ x.pShown < m.pShown := by simpa using hx
      rcases List.mem_cons.1 h with q | q
      · rw [q]; omega
      · have := (hp.1 a q).1
        omega
/-- A mark that is before or behind each other one is put into its place. -/
theorem putTk_asc {xs : List GClockMark} {m : GClockMark} (hp : xs.Pairwise befTk) (hm : ∀ a ∈ xs, befTk a m ∨ befTk m a) : (putTk xs m).Pairwise befTk := by
  have e : xs.takeWhile (fun a => decide (a.pShown < m.pShown)) ++ xs.dropWhile (fun a => decide (a.pShown < m.pShown)) = xs := List.takeWhile_append_dropWhile
  have hp' := hp
  rw [← e, List.pairwise_append] at hp'
  unfold putTk
  rw [List.pairwise_append]
  refine ⟨hp'.1, ?_, fun a ha b hb => ?_⟩
  · rw [List.pairwise_cons]
    refine ⟨fun b hb => ?_, hp'.2.1⟩
    have h1 := dropW_ge hp hb
    rcases hm b (by rw [← e]; exact List.mem_append_right _ hb) with q | q
    · have := q.1; omega
    · exact q
  · rcases List.mem_cons.1 hb with q | q
    · rw [q]
      have h1 := takeW_lt ha
      rcases hm a (by rw [← e]; exact List.mem_append_left _ ha) with p | p
      · exact p
      · have := p.1; omega
    · exact hp'.2.2 a ha b q
theorem asc_cmp {xs : List GClockMark} (hp : xs.Pairwise befTk) {a b : GClockMark} (ha : a ∈ xs) (hb : b ∈ xs) : a = b ∨ befTk a b ∨ befTk b a := by
  obtain ⟨i, hi⟩ := List.mem_iff_getElem?.1 ha
  obtain ⟨j, hj⟩ := List.mem_iff_getElem?.1 hb
  have hi' := List.getElem?_eq_some_iff.1 hi
  have hj' := List.getElem?_eq_some_iff.1 hj
  have h := List.pairwise_iff_getElem.1 hp
  rcases Nat.lt_trichotomy i j with q | q | q
  · have := h i j hi'.1 hj'.1 q
    rw [hi'.2, hj'.2] at this; exact Or.inr (Or.inl this)
  · subst q; rw [hi] at hj; cases hj; exact Or.inl rfl
  · have := h j i hj'.1 hi'.1 q
    rw [hi'.2, hj'.2] at this; exact Or.inr (Or.inr this)
/-- All marks of two tracks. -/
noncomputable def mergeR (a : List GClockMark) : List GClockMark → List GClockMark → List GClockMark
  | out, [] => out
  | out, m :: r => mergeR a (@ite _ (m ∈ a) (Classical.propDecidable _) out (putTk out m)) r
noncomputable def mergeTk (a b : List GClockMark) : List GClockMark := mergeR a a b
theorem mergeR_mem (a : List GClockMark) : ∀ (b out : List GClockMark) (x : GClockMark), x ∈ mergeR a out b ↔ x ∈ out ∨ (x ∈ b ∧ x ∉ a)
  | [], out, x => by simp [mergeR]
  | m :: r, out, x => by
    rw [mergeR, mergeR_mem a r _ x]
    by_cases h : m ∈ a
    · rw [if_pos h, List.mem_cons]
      constructor
      · rintro (q | ⟨q, p⟩)
        · exact Or.inl q
        · exact Or.inr ⟨Or.inr q, p⟩
      · rintro (q | ⟨q | q, p⟩)
        · exact Or.inl q
        · rw [q] at p; exact absurd h p
        · exact Or.inr ⟨q, p⟩
    · rw [if_neg h, putTk_mem, List.mem_cons]
      constructor
      · rintro ((q | q) | ⟨q, p⟩)
        · exact Or.inr ⟨Or.inl q, by rw [q]; exact h⟩
        · exact Or.inl q
        · exact Or.inr ⟨Or.inr q, p⟩
      · rintro (q | ⟨q | q, p⟩)
        · exact Or.inl (Or.inr q)
        · exact Or.inl (Or.inl q)
        · exact Or.inr ⟨q, p⟩
theorem mergeTk_mem {a b : List GClockMark} {x : GClockMark} : x ∈ mergeTk a b ↔ x ∈ a ∨ x ∈ b := by
  unfold mergeTk
  rw [mergeR_mem]
  constructor
  · rintro (q | ⟨q, _⟩)
    · exact Or.inl q
    · exact Or.inr q
  · rintro (q | q)
    · exact Or.inl q
    · by_cases h : x ∈ a
      · exact Or.inl h
      · exact Or.inr ⟨q, h⟩
theorem mergeR_asc (a : List GClockMark) : ∀ (b out : List GClockMark), out.Pairwise befTk → b.Pairwise befTk → (∀ x ∈ out, x ∈ a ∨ ∀ y ∈ b, befTk x y) → (∀ x y, (x ∈ out ∨ x ∈ b) → (y ∈ out ∨ y ∈ b) → x = y ∨ befTk x y ∨ befTk y x) → (mergeR a out b).Pairwise befTk
  | [], out, ho, _, _, _ => ho
  | m :: r, out, ho, hb, hs, hc => by
    rw [List.pairwise_cons] at hb
    rw [mergeR]
    by_cases h : m ∈ a
    · rw [if_pos h]
      exact mergeR_asc a r out ho hb.2 (fun x hx => (hs x hx).imp id fun f y hy => f y (List.mem_cons_of_mem _ hy)) (fun x y hx hy => hc x y (hx.imp id (List.mem_cons_of_mem _)) (hy.imp id (List.mem_cons_of_mem _)))
    · rw [if_neg h]
      refine mergeR_asc a r _ (putTk_asc ho fun x hx => ?_) hb.2 (fun x hx => ?_) (fun x y hx hy => ?_)
      · rcases hc x m (Or.inl hx) (Or.inr (List.mem_cons_self ..)) with q | q
        · rcases hs x hx with p | p
          · rw [q] at p; exact absurd p h
          · exact Or.inl (p m (List.mem_cons_self ..))
        · exact q
      · rcases putTk_mem.1 hx with q | q
        · rw [q]; exact Or.inr fun y hy => hb.1 y hy
        · exact (hs x q).imp id fun f y hy => f y (List.mem_cons_of_mem _ hy)
      · refine hc x y ?_ ?_
        · rcases hx with q | q
          · rcases putTk_mem.1 q with p | p
            · rw [p]; exact Or.inr (List.mem_cons_self ..)
            · exact Or.inl p
          · exact Or.inr (List.mem_cons_of_mem _ q)
        · rcases hy with q | q
          · rcases putTk_mem.1 q with p | p
            · rw [p]; exact Or.inr (List.mem_cons_self ..)
            · exact Or.inl p
          · exact Or.inr (List.mem_cons_of_mem _ q)
/-- If some strict order has all marks of both, merging gives it. -/
theorem mergeTk_eq {a b u : List GClockMark} (ha : a.Pairwise befTk) (hb : b.Pairwise befTk) (hu : u.Pairwise befTk) (hm : ∀ x, x ∈ u ↔ x ∈ a ∨ x ∈ b) : mergeTk a b = u := by
  have h1 : (mergeTk a b).Pairwise befTk := mergeR_asc a b a ha hb (fun x hx => Or.inl hx) (fun x y hx hy => asc_cmp hu ((hm x).2 hx) ((hm y).2 hy))
  exact asc_ext _ _ h1 hu (fun x => by rw [mergeTk_mem, hm])
theorem mergeTk_comm {a b : List GClockMark} (ha : a.Pairwise befTk) (hb : b.Pairwise befTk) (h : (mergeTk a b).Pairwise befTk) : mergeTk b a = mergeTk a b := mergeTk_eq hb ha h (fun x => by rw [mergeTk_mem, Or.comm])
theorem mergeTk_again {a b : List GClockMark} (ha : a.Pairwise befTk) (h : (mergeTk a b).Pairwise befTk) : mergeTk (mergeTk a b) a = mergeTk a b := mergeTk_eq h ha h (fun x => by rw [mergeTk_mem]; constructor; exact Or.inl; rintro (q | q); exact q; exact Or.inl q)
/-- Marks near the line of those that are left are removed. -/
def nearTk (rest : List GClockMark) (m : GClockMark) (w : Int) : Prop := -w ≤ lineL rest m.pShown - m.pTrue ∧ lineL rest m.pShown - m.pTrue ≤ w
noncomputable def dropR (w : Int) : List GClockMark → List GClockMark → List GClockMark
  | pre, [] => pre ++ []
  | pre, [m] => pre ++ [m]
  | pre, m :: p :: r => @ite _ (nearTk (pre ++ p :: r) m w) (Classical.propDecidable _) (dropR w pre (p :: r)) (dropR w (pre ++ [m]) (p :: r))
theorem dropR_sub (w : Int) : ∀ (post pre : List GClockMark), (dropR w pre post).Sublist (pre ++ post) ∧ pre.Sublist (dropR w pre post) ∧ (post ≠ [] → pre.length < (dropR w pre post).length)
  | [], pre => by rw [dropR]; exact ⟨List.Sublist.refl _, by simp, fun h => absurd rfl h⟩
  | [m], pre => by rw [dropR]; exact ⟨List.Sublist.refl _, by simp, fun _ => by simp⟩
  | m :: p :: r, pre => by
    rw [dropR]
    by_cases h : nearTk (pre ++ p :: r) m w
    · rw [if_pos h]
      obtain ⟨h1, h2, h3⟩ := dropR_sub w (p :: r) pre
      exact ⟨h1.trans (List.Sublist.append (List.Sublist.refl _) (List.sublist_cons_self _ _)), h2, fun _ => h3 (by simp)⟩
    · rw [if_neg h]
      obtain ⟨h1, h2, h3⟩ := dropR_sub w (p :: r) (pre ++ [m])
      refine ⟨by simpa using h1, (List.sublist_append_left pre [m]).trans h2, fun _ => ?_⟩
      have := h3 (by simp)
      simp at this
      omega
noncomputable def dropTk (xs : List GClockMark) (w : Int) : List GClockMark := match xs with
  | [] => []
  | a :: r => dropR w [a] r
theorem dropTk_ok {xs : List GClockMark} (h : okTk xs) (w : Int) : okTk (dropTk xs w) := by
  obtain ⟨⟨h2, h10⟩, ht, hp⟩ := h
  match xs, h2 with
  | a :: b :: r, _ =>
    obtain ⟨s1, s2, s3⟩ := dropR_sub w (b :: r) [a]
    have s3 := s3 (by simp)
    have e : dropTk (a :: b :: r) w = dropR w [a] (b :: r) := rfl
    rw [e]
    have l1 := s1.length_le
    simp at s3 l1 h10
    exact ⟨by omega, fun m hm => ht m (s1.subset hm), hp.sublist s1⟩
end Go.Proofs.Ytklilfbokpljkac
