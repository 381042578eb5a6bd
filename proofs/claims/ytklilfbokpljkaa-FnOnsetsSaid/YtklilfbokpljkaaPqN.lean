/- Picks and their history: the current ones in order, pairs, revisions. -/
import Derived.Test.YtklilfbokpljkaaPqM
namespace Go.Proofs.Ytklilfbokpljkaa
open Go.ChangeShapes Go.WideShapes Go.ChangeAt Go.RowKit Go.ChangeMaps
set_option linter.unusedSimpArgs false
set_option linter.unusedVariables false

def curL (xs : List GPick) : List GPick := xs.filter fun p => curB xs p.pId
def curK (xs : List GPick) (k : Nat) : List GPick := (xs.take k).filter fun p => curB xs p.pId
theorem curK_zero (xs : List GPick) : curK xs 0 = [] := by simp [curK]
theorem curK_all (xs : List GPick) : curK xs xs.length = curL xs := by unfold curK curL; rw [List.take_length]
theorem curK_yes {xs : List GPick} {k : Nat} {p : GPick} (hp : xs[k]? = some p) (h : curB xs p.pId = true) : curK xs (k + 1) = curK xs k ++ [p] := by
  have e : xs.take (k + 1) = xs.take k ++ [p] := take_snoc hp
  unfold curK; rw [e, List.filter_append]; simp [h]
theorem curK_no {xs : List GPick} {k : Nat} {p : GPick} (hp : xs[k]? = some p) (h : curB xs p.pId = false) : curK xs (k + 1) = curK xs k := by
  have e : xs.take (k + 1) = xs.take k ++ [p] := take_snoc hp
  unfold curK; rw [e, List.filter_append]; simp [h]
theorem curL_len (xs : List GPick) : (curL xs).length ≤ xs.length := List.length_filter_le _ _
theorem curL_mem {xs : List GPick} {p : GPick} (h : p ∈ curL xs) : p ∈ xs := (List.mem_filter.1 h).1
def ltC (a b : GPick) : Prop := a.pTick < b.pTick ∨ (a.pTick = b.pTick ∧ a.pId < b.pId)
theorem ltC_asymm (a b : GPick) (h : ltC a b) (k : ltC b a) : False := by unfold ltC at *; omega
def leC (a b : GPick) : Bool := decide (a.pTick < b.pTick) || (decide (a.pTick = b.pTick) && decide (a.pId ≤ b.pId))
/-- The current picks in order. -/
def ordC (xs : List GPick) : List GPick := (curL xs).mergeSort leC
theorem leC_trans (a b c : GPick) (h : leC a b = true) (k : leC b c = true) : leC a c = true := by
  unfold leC at *; simp only [Bool.or_eq_true, Bool.and_eq_true, decide_eq_true_eq] at *; omega
theorem leC_total (a b : GPick) : (leC a b || leC b a) = true := by
  unfold leC; simp only [Bool.or_eq_true, Bool.and_eq_true, decide_eq_true_eq]; omega
theorem ordC_perm (xs : List GPick) : (ordC xs).Perm (curL xs) := List.mergeSort_perm _ _
theorem ids_cur {xs : List GPick} (h : okP xs) : (curL xs).Pairwise fun a b => a.pId < b.pId := (ids_asc h).filter _
theorem ordC_asc {xs : List GPick} (h : okP xs) : (ordC xs).Pairwise ltC := by
  have h1 : (ordC xs).Pairwise (fun a b => leC a b = true) := List.pairwise_mergeSort leC_trans leC_total _
  have h2 : (ordC xs).Pairwise (fun a b => a.pId ≠ b.pId) :=
    (ordC_perm xs).symm.pairwise (R := fun a b => a.pId ≠ b.pId) ((ids_cur h).imp (fun h => by omega)) (fun h => Ne.symm h)
  refine (List.Pairwise.and h1 h2).imp ?_
  rintro a b ⟨h1, h2⟩
  unfold leC at h1
  unfold ltC
  simp only [Bool.or_eq_true, Bool.and_eq_true, decide_eq_true_eq] at h1
  omega
/-- Two ascending lists of the same elements are one. -/
theorem asc_uniq {α : Type} {lt : α → α → Prop} (ha : ∀ a b, lt a b → lt b a → False) : ∀ (l k : List α), l.Perm k → l.Pairwise lt → k.Pairwise lt → l = k
  | [], k, h, _, _ => (List.Perm.nil_eq h).symm ▸ rfl
  | a :: l, [], h, _, _ => by have := h.length_eq; simp at this
  | a :: l, b :: k, h, h1, h2 => by
    have e : a = b := by
      have m1 : a ∈ b :: k := h.subset (by simp)
      have m2 : b ∈ a :: l := h.symm.subset (by simp)
      rcases List.mem_cons.1 m1 with e | m1
      · exact e
      · rcases List.mem_cons.1 m2 with e | m2
        · exact e.symm
        · exact absurd ((List.pairwise_cons.1 h1).1 b m2) (fun p => ha a b p ((List.pairwise_cons.1 h2).1 a m1))
    subst e
    rw [asc_uniq ha l k (List.Perm.cons_inv h) (List.pairwise_cons.1 h1).2 (List.pairwise_cons.1 h2).2]
theorem ordC_uniq {xs ol : List GPick} (h : okP xs) (hp : ol.Perm (curL xs)) (ha : ol.Pairwise ltC) : ol = ordC xs :=
  asc_uniq ltC_asymm _ _ (hp.trans (ordC_perm xs).symm) ha (ordC_asc h)
/-- Where an element is put into an ascending list. -/
theorem asc_ins {α : Type} {lt : α → α → Prop} {l : List α} {s : α} {k : Nat} (h : l.Pairwise lt) (h1 : ∀ a ∈ l.take k, lt a s) (h2 : ∀ a ∈ l.drop k, lt s a) : (l.take k ++ s :: l.drop k).Pairwise lt := by
  have h0 := h
  rw [← List.take_append_drop k l, List.pairwise_append] at h0
  obtain ⟨p1, p2, p3⟩ := h0
  rw [List.pairwise_append]
  refine ⟨p1, List.pairwise_cons.2 ⟨h2, p2⟩, fun a ha b hb => ?_⟩
  rcases List.mem_cons.1 hb with rfl | hb
  · exact h1 a ha
  · exact p3 a ha b hb
theorem perm_ins {α : Type} (l : List α) (s : α) (k : Nat) : (l.take k ++ s :: l.drop k).Perm (l ++ [s]) := by
  have h1 : (l.take k ++ s :: l.drop k).Perm (s :: (l.take k ++ l.drop k)) := List.perm_middle
  rw [List.take_append_drop] at h1
  exact h1.trans (List.perm_append_singleton s l).symm
/-- The list so far: the current picks before number i in order. -/
def soFar (xs : List GPick) (i : Nat) (ol : List GPick) : Prop := ol.Perm (curK xs i) ∧ ol.Pairwise ltC
theorem soFar_zero (xs : List GPick) : soFar xs 0 [] := ⟨by rw [curK_zero], by simp⟩
theorem soFar_len {xs ol : List GPick} {i : Nat} (h : soFar xs i ol) : ol.length ≤ i := by
  have := h.1.length_eq
  have h2 := List.length_filter_le (fun p => curB xs p.pId) (xs.take i)
  unfold curK at this
  rw [List.length_take] at h2; omega
theorem soFar_mem {xs ol : List GPick} {i : Nat} (h : soFar xs i ol) {t : GPick} (ht : t ∈ ol) : t ∈ xs :=
  List.mem_of_mem_take (List.mem_filter.1 (h.1.subset ht)).1
theorem soFar_id {xs ol : List GPick} {i : Nat} {s : GPick} (hg : okP xs) (h : soFar xs i ol) (hs : xs[i]? = some s) {t : GPick} (ht : t ∈ ol) : t.pId < s.pId := by
  obtain ⟨j, hj⟩ := List.mem_iff_getElem?.1 (List.mem_filter.1 (h.1.subset ht)).1
  rw [List.getElem?_take] at hj
  split at hj
  · obtain ⟨h1, rfl⟩ := List.getElem?_eq_some_iff.1 hj
    obtain ⟨h2, rfl⟩ := List.getElem?_eq_some_iff.1 hs
    exact List.pairwise_iff_getElem.1 (ids_asc hg) j i h1 h2 (by assumption)
  · cases hj
theorem soFar_no {xs ol : List GPick} {i : Nat} {s : GPick} (h : soFar xs i ol) (hs : xs[i]? = some s) (hc : curB xs s.pId = false) : soFar xs (i + 1) ol := ⟨by rw [curK_no hs hc]; exact h.1, h.2⟩
theorem soFar_succ {xs ol : List GPick} {i k : Nat} {s : GPick} (hg : okP xs) (h : soFar xs i ol) (hs : xs[i]? = some s) (hc : curB xs s.pId = true)
    (h1 : ∀ j t, ol[j]? = some t → k ≤ j → s.pTick < t.pTick) (h2 : ∀ t, ol[k - 1]? = some t → 0 < k → t.pTick ≤ s.pTick) (hk : k ≤ ol.length) : soFar xs (i + 1) (ol.take k ++ s :: ol.drop k) := by
  refine ⟨?_, asc_ins h.2 (fun a ha => ?_) (fun a ha => ?_)⟩
  · rw [curK_yes hs hc]
    exact (perm_ins ol s k).trans (h.1.append_right [s])
  · obtain ⟨j, hj⟩ := List.mem_iff_getElem?.1 ha
    rw [List.getElem?_take] at hj
    split at hj
    · rename_i hjk
      obtain ⟨t, ht⟩ := get_of_lt (l := ol) (k := k - 1) (by omega)
      have h3 := h2 t ht (by omega)
      have hid := soFar_id hg h hs (List.mem_of_mem_take ha)
      have h4 : a.pTick ≤ t.pTick := by
        by_cases e : j = k - 1
        · subst e; rw [hj] at ht; cases ht; omega
        · have hj' := (List.getElem?_eq_some_iff.1 hj)
          have ht' := (List.getElem?_eq_some_iff.1 ht)
          have := (List.pairwise_iff_getElem.1 h.2) j (k - 1) hj'.1 ht'.1 (by omega)
          rw [hj'.2, ht'.2] at this
          unfold ltC at this; omega
      unfold ltC; omega
    · cases hj
  · obtain ⟨j, hj⟩ := List.mem_iff_getElem?.1 ha
    rw [List.getElem?_drop] at hj
    exact Or.inl (h1 (k + j) a hj (by omega))
noncomputable def resCur (xs : List GPick) : List Int := if goodP xs = true then (ordC xs).map fun p => p.pId else []
theorem resCur_yes {xs : List GPick} (h : goodP xs = true) : resCur xs = (ordC xs).map fun p => p.pId := by unfold resCur; rw [if_pos h]
theorem resCur_no {xs : List GPick} (h : goodP xs = false) : resCur xs = [] := by unfold resCur; rw [h]; rfl
theorem ordC_len (xs : List GPick) : (ordC xs).length ≤ xs.length := by rw [(ordC_perm xs).length_eq]; exact curL_len xs
theorem resCur_len (xs : List GPick) : (resCur xs).length ≤ xs.length := by
  unfold resCur
  split
  · rw [List.length_map]; exact ordC_len xs
  · simp
/-- The pick that replaces another one, and the list with it. -/
def newP (q : GPick) (next tick err by_ : Int) : GPick := ⟨next, q.pStation, q.pWave, tick, err, by_, q.pId⟩
def lastId (xs : List GPick) : Int := match xs.getLast? with | some p => p.pId | none => 0
theorem lastId_at {xs : List GPick} {p : GPick} (h : xs[xs.length - 1]? = some p) : lastId xs = p.pId := by
  unfold lastId; rw [List.getLast?_eq_getElem?, h]
def isRev (xs : List GPick) (id tick err by_ : Int) (ys : List GPick) : Prop := goodP xs = true ∧ ∃ q, lookP xs id = some q ∧ ys = xs ++ [newP q (lastId xs + 1) tick err by_] ∧ goodP ys = true
noncomputable def okRev (xs : List GPick) (id tick err by_ : Int) : Bool := @decide (∃ ys, isRev xs id tick err by_ ys) (Classical.propDecidable _)
noncomputable def resRev (xs : List GPick) (id tick err by_ : Int) : List GPick := @dite _ (∃ ys, isRev xs id tick err by_ ys) (Classical.propDecidable _) (fun h => Classical.choose h) (fun _ => [])
noncomputable def nextRev (xs : List GPick) (id tick err by_ : Int) : Int := if okRev xs id tick err by_ = true then lastId xs + 1 else 0
theorem rev_uniq {xs ys zs : List GPick} {id tick err by_ : Int} (h : isRev xs id tick err by_ ys) (k : isRev xs id tick err by_ zs) : ys = zs := by
  obtain ⟨_, q, h1, rfl, _⟩ := h
  obtain ⟨_, r, h2, rfl, _⟩ := k
  rw [h1] at h2; cases h2; rfl
theorem rev_yes {xs ys : List GPick} {id tick err by_ : Int} (h : isRev xs id tick err by_ ys) : okRev xs id tick err by_ = true ∧ resRev xs id tick err by_ = ys ∧ nextRev xs id tick err by_ = lastId xs + 1 := by
  have hx : ∃ ys, isRev xs id tick err by_ ys := ⟨ys, h⟩
  have e : okRev xs id tick err by_ = true := @decide_eq_true _ (Classical.propDecidable _) hx
  refine ⟨e, ?_, by unfold nextRev; rw [if_pos e]⟩
  unfold resRev
  rw [dif_pos hx]
  exact rev_uniq (Classical.choose_spec hx) h
theorem rev_no {xs : List GPick} {id tick err by_ : Int} (h : ∀ ys, ¬ isRev xs id tick err by_ ys) : okRev xs id tick err by_ = false ∧ resRev xs id tick err by_ = [] ∧ nextRev xs id tick err by_ = 0 := by
  have hx : ¬ ∃ ys, isRev xs id tick err by_ ys := fun ⟨ys, hy⟩ => h ys hy
  have e : okRev xs id tick err by_ = false := @decide_eq_false _ (Classical.propDecidable _) hx
  refine ⟨e, ?_, by unfold nextRev; rw [if_neg (by rw [e]; simp)]⟩
  unfold resRev
  rw [dif_neg hx]
theorem rev_bad {xs : List GPick} {id tick err by_ : Int} (h : goodP xs = false) : okRev xs id tick err by_ = false ∧ resRev xs id tick err by_ = [] ∧ nextRev xs id tick err by_ = 0 := rev_no fun _ hy => absurd (hy.1.symm.trans h) (by simp)
theorem rev_none {xs : List GPick} {id tick err by_ : Int} (h : lookP xs id = none) : okRev xs id tick err by_ = false ∧ resRev xs id tick err by_ = [] ∧ nextRev xs id tick err by_ = 0 := rev_no fun _ ⟨_, q, hq, _⟩ => by rw [h] at hq; cases hq
theorem rev_mk {xs : List GPick} {id tick err by_ : Int} {q : GPick} (h : goodP xs = true) (hq : lookP xs id = some q) (g : goodP (xs ++ [newP q (lastId xs + 1) tick err by_]) = true) : okRev xs id tick err by_ = true ∧ resRev xs id tick err by_ = xs ++ [newP q (lastId xs + 1) tick err by_] ∧ nextRev xs id tick err by_ = lastId xs + 1 := rev_yes ⟨h, q, hq, rfl, g⟩
theorem rev_not {xs : List GPick} {id tick err by_ : Int} {q : GPick} (hq : lookP xs id = some q) (g : goodP (xs ++ [newP q (lastId xs + 1) tick err by_]) = false) : okRev xs id tick err by_ = false ∧ resRev xs id tick err by_ = [] ∧ nextRev xs id tick err by_ = 0 := rev_no fun _ ⟨_, r, hr, e, hg⟩ => by
  rw [hq] at hr; cases hr; subst e; rw [g] at hg; cases hg
/-- A new pick that replaces one which is not current makes no list. -/
theorem new_cur {xs : List GPick} {id next tick err by_ : Int} {q : GPick} (h : okP xs) (hq : lookP xs id = some q) (g : okP (xs ++ [newP q next tick err by_])) : curB xs id = true := by
  obtain ⟨hm, hi⟩ := look_mem hq
  have h1 := (okP_mem h hm).1
  have ha := (okP_at g (k := xs.length) (p := newP q next tick err by_) (by simp)).2.2
  have hi2 : (newP q next tick err by_).pAfter = id := hi
  rcases ha with ha | ⟨r, _, h4, _⟩
  · rw [hi2] at ha; omega
  · have h5 := h4.1
    rw [hi2, List.take_left'] at h5
    · exact h5
    · rfl
theorem new_not {xs : List GPick} {id next tick err by_ : Int} {q : GPick} (h : goodP xs = true) (hq : lookP xs id = some q) (hc : curB xs id = false) : goodP (xs ++ [newP q next tick err by_]) = false := goodP_no fun g => by
  have := new_cur (goodP_yes h) hq g
  rw [hc] at this; cases this
theorem resRev_len (xs : List GPick) (id tick err by_ : Int) : (resRev xs id tick err by_).length ≤ 12 := by
  by_cases hx : ∃ ys, isRev xs id tick err by_ ys
  · obtain ⟨ys, hy⟩ := hx
    rw [(rev_yes hy).2.1]
    obtain ⟨_, _, _, _, g⟩ := hy
    exact (goodP_yes g).1
  · rw [(rev_no fun ys hy => hx ⟨ys, hy⟩).2.1]; simp
/-- Pairs of a station. -/
def selP (xs : List GPick) (st wv : Int) (p : GPick) : Bool := curB xs p.pId && (decide (p.pStation = st) && decide (p.pWave = wv))
def befP (p s : GPick) : Bool := decide (p.pTick + p.pError < s.pTick - s.pError)
def rowP (xs : List GPick) (st : Int) (p : GPick) (k : Nat) : List (List Int) := ((xs.take k).filter fun s => selP xs st 1 s && befP p s).map fun s => [p.pId, s.pId]
def pairsP (xs : List GPick) (st : Int) (k : Nat) : List (List Int) := ((xs.take k).filter (selP xs st 0)).flatMap fun p => rowP xs st p xs.length
theorem rowP_zero (xs : List GPick) (st : Int) (p : GPick) : rowP xs st p 0 = [] := by simp [rowP]
theorem rowP_yes {xs : List GPick} {st : Int} {p s : GPick} {k : Nat} (hs : xs[k]? = some s) (h1 : selP xs st 1 s = true) (h2 : befP p s = true) : rowP xs st p (k + 1) = rowP xs st p k ++ [[p.pId, s.pId]] := by
  have e : xs.take (k + 1) = xs.take k ++ [s] := take_snoc hs
  unfold rowP; rw [e, List.filter_append, List.map_append]; simp [h1, h2]
theorem rowP_no {xs : List GPick} {st : Int} {p s : GPick} {k : Nat} (hs : xs[k]? = some s) (h : ¬ (selP xs st 1 s = true ∧ befP p s = true)) : rowP xs st p (k + 1) = rowP xs st p k := by
  have e : xs.take (k + 1) = xs.take k ++ [s] := take_snoc hs
  unfold rowP; rw [e, List.filter_append, List.map_append]
  have : (selP xs st 1 s && befP p s) = false := by rw [← Bool.not_eq_true, Bool.and_eq_true]; exact h
  simp [this]
theorem pairsP_zero (xs : List GPick) (st : Int) : pairsP xs st 0 = [] := by simp [pairsP]
theorem pairsP_yes {xs : List GPick} {st : Int} {p : GPick} {k : Nat} (hp : xs[k]? = some p) (h : selP xs st 0 p = true) : pairsP xs st (k + 1) = pairsP xs st k ++ rowP xs st p xs.length := by
  have e : xs.take (k + 1) = xs.take k ++ [p] := take_snoc hp
  unfold pairsP; rw [e, List.filter_append, List.flatMap_append]; simp [h]
theorem pairsP_no {xs : List GPick} {st : Int} {p : GPick} {k : Nat} (hp : xs[k]? = some p) (h : selP xs st 0 p = false) : pairsP xs st (k + 1) = pairsP xs st k := by
  have e : xs.take (k + 1) = xs.take k ++ [p] := take_snoc hp
  unfold pairsP; rw [e, List.filter_append, List.flatMap_append]; simp [h]
theorem rowP_len (xs : List GPick) (st : Int) (p : GPick) (k : Nat) : (rowP xs st p k).length ≤ xs.length := by
  unfold rowP
  rw [List.length_map]
  have := List.length_filter_le (fun s => selP xs st 1 s && befP p s) (xs.take k)
  rw [List.length_take] at this
  omega
theorem pairsP_len (xs : List GPick) (st : Int) (k : Nat) : (pairsP xs st k).length ≤ k * xs.length := by
  induction k with
  | zero => simp [pairsP_zero]
  | succ k ih =>
    rw [Nat.succ_mul]
    by_cases hk : k < xs.length
    · obtain ⟨p, hp⟩ : ∃ p, xs[k]? = some p := ⟨xs[k], List.getElem?_eq_getElem hk⟩
      cases h : selP xs st 0 p with
      | true =>
        rw [pairsP_yes hp h, List.length_append]
        have := rowP_len xs st p xs.length
        omega
      | false => rw [pairsP_no hp h]; omega
    · have e : pairsP xs st (k + 1) = pairsP xs st k := by
        unfold pairsP
        rw [List.take_of_length_le (by omega), List.take_of_length_le (by omega)]
      rw [e]; omega
/-- What the program goes through: the current picks of the station and the wave. -/
def selL (xs : List GPick) (st wv : Int) : List GPick := (curL xs).filter fun p => decide (p.pStation = st) && decide (p.pWave = wv)
theorem selL_eq (xs : List GPick) (st wv : Int) : selL xs st wv = xs.filter (selP xs st wv) := by
  unfold selL curL selP
  rw [List.filter_filter]
  congr 1
  funext p
  exact Bool.and_comm _ _
theorem selL_len (xs : List GPick) (st wv : Int) : (selL xs st wv).length ≤ xs.length := by rw [selL_eq]; exact List.length_filter_le _ _
theorem selL_mem {xs : List GPick} {st wv : Int} {p : GPick} (h : p ∈ selL xs st wv) : p ∈ xs := by rw [selL_eq] at h; exact (List.mem_filter.1 h).1
def rowQ (xs : List GPick) (st : Int) (p : GPick) (k : Nat) : List (List Int) := (((selL xs st 1).take k).filter (befP p)).map fun s => [p.pId, s.pId]
def pairsQ (xs : List GPick) (st : Int) (k : Nat) : List (List Int) := ((selL xs st 0).take k).flatMap fun p => rowQ xs st p (selL xs st 1).length
theorem rowQ_zero (xs : List GPick) (st : Int) (p : GPick) : rowQ xs st p 0 = [] := by simp [rowQ]
theorem rowQ_yes {xs : List GPick} {st : Int} {p s : GPick} {k : Nat} (hs : (selL xs st 1)[k]? = some s) (h2 : befP p s = true) : rowQ xs st p (k + 1) = rowQ xs st p k ++ [[p.pId, s.pId]] := by
  have e : (selL xs st 1).take (k + 1) = (selL xs st 1).take k ++ [s] := take_snoc hs
  unfold rowQ; rw [e, List.filter_append, List.map_append]; simp [h2]
theorem rowQ_no {xs : List GPick} {st : Int} {p s : GPick} {k : Nat} (hs : (selL xs st 1)[k]? = some s) (h : befP p s = false) : rowQ xs st p (k + 1) = rowQ xs st p k := by
  have e : (selL xs st 1).take (k + 1) = (selL xs st 1).take k ++ [s] := take_snoc hs
  unfold rowQ; rw [e, List.filter_append, List.map_append]; simp [h]
theorem pairsQ_zero (xs : List GPick) (st : Int) : pairsQ xs st 0 = [] := by simp [pairsQ]
theorem pairsQ_succ {xs : List GPick} {st : Int} {p : GPick} {k : Nat} (hp : (selL xs st 0)[k]? = some p) : pairsQ xs st (k + 1) = pairsQ xs st k ++ rowQ xs st p (selL xs st 1).length := by
  have e : (selL xs st 0).take (k + 1) = (selL xs st 0).take k ++ [p] := take_snoc hp
  unfold pairsQ; rw [e, List.flatMap_append]; simp
theorem rowQ_all (xs : List GPick) (st : Int) (p : GPick) : rowQ xs st p (selL xs st 1).length = rowP xs st p xs.length := by
  unfold rowQ rowP
  rw [List.take_length, List.take_length, selL_eq, List.filter_filter]
  congr 2
  funext s
  exact Bool.and_comm _ _
theorem pairsQ_all (xs : List GPick) (st : Int) : pairsQ xs st (selL xs st 0).length = pairsP xs st xs.length := by
  unfold pairsQ pairsP
  rw [List.take_length, List.take_length, selL_eq xs st 0]
  congr 1
  funext p
  exact rowQ_all xs st p
theorem rowQ_len (xs : List GPick) (st : Int) (p : GPick) (k : Nat) : (rowQ xs st p k).length ≤ xs.length := by
  unfold rowQ
  rw [List.length_map]
  have := List.length_filter_le (befP p) ((selL xs st 1).take k)
  rw [List.length_take] at this
  have h2 := selL_len xs st 1
  omega
theorem pairsQ_len (xs : List GPick) (st : Int) (k : Nat) : (pairsQ xs st k).length ≤ k * xs.length := by
  induction k with
  | zero => simp [pairsQ_zero]
  | succ k ih =>
    rw [Nat.succ_mul]
    by_cases hk : k < (selL xs st 0).length
    · obtain ⟨p, hp⟩ : ∃ p, (selL xs st 0)[k]? = some p := ⟨_, List.getElem?_eq_getElem hk⟩
      rw [pairsQ_succ hp, List.length_append]
      have := rowQ_len xs st p (selL xs st 1).length
      omega
    · have e : pairsQ xs st (k + 1) = pairsQ xs st k := by
        unfold pairsQ
        rw [List.take_of_length_le (by omega), List.take_of_length_le (by omega)]
      rw [e]; omega
end Go.Proofs.Ytklilfbokpljkaa
