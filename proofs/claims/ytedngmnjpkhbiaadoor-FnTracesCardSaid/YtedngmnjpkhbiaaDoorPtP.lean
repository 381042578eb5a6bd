/- What is read of a trace's text: the mathematics. -/
import Derived.Test.YtedngmnjpkhbiaaDoorPtD
import Derived.Test.YtedngmnjpkhbiaaDoorSplit
import Derived.Test.YtedngmnjpkhbiaaDoorPtN
import Derived.Lib.IndexMore
namespace Go.Proofs.YtedngmnjpkhbiaaDoor
open Go.ChangeShapes Go.WideShapes Go.ChangeAt Go.RowKit Go.ChangeMaps
set_option linter.unusedSimpArgs false
set_option linter.unusedVariables false

theorem dec_len7 {u : Nat} (h : u ≤ 9999999) : 1 ≤ (Lib.decDigits u).length ∧ (Lib.decDigits u).length ≤ 7 := by
  have step : ∀ (k u : Nat), u < 10 ^ k → 0 < k → 1 ≤ (Lib.decDigits u).length ∧ (Lib.decDigits u).length ≤ k := by
    intro k
    induction k with
    | zero => intro u _ h; omega
    | succ k ih =>
      intro u hu _
      by_cases h10 : u < 10
      · rw [dec_small h10]; simp
      · rw [dec_big h10, List.length_append, List.length_singleton]
        have hk : 0 < k := by
          rcases Nat.eq_zero_or_pos k with rfl | h
          · simp at hu; omega
          · exact h
        have := ih (u / 10) (by rw [Nat.pow_succ] at hu; omega) hk
        omega
  exact step 7 u (by have : (10 : Nat) ^ 7 = 10000000 := by decide
                     omega) (by omega)
theorem num_size7 (n : Int) (h : -999999 ≤ n ∧ n ≤ 999999) : (numB n).size ≤ 7 := by
  by_cases hn : n < 0
  · obtain ⟨u, rfl⟩ : ∃ u : Nat, n = -(u : Int) := ⟨n.natAbs, by omega⟩
    rw [numB_neg u (by omega), ByteArray.size_append]
    have := dec_len6 (u := u) (by omega)
    have h2 : (dec u).size = (Lib.decDigits u).length := by simp [dec, ByteArray.size]
    show 1 + (dec u).size ≤ 7
    omega
  · obtain ⟨u, rfl⟩ : ∃ u : Nat, n = (u : Int) := ⟨n.toNat, by omega⟩
    rw [numB_pos]
    have := dec_len6 (u := u) (by omega)
    have h2 : (dec u).size = (Lib.decDigits u).length := by simp [dec, ByteArray.size]
    omega
theorem start_size (n : Int) (h : 0 ≤ n ∧ n ≤ 1000000) : 1 ≤ (numB n).size ∧ (numB n).size ≤ 7 := by
  obtain ⟨u, rfl⟩ : ∃ u : Nat, n = (u : Int) := ⟨n.toNat, by omega⟩
  rw [numB_pos]
  have := dec_len7 (u := u) (by omega)
  have h2 : (dec u).size = (Lib.decDigits u).length := by simp [dec, ByteArray.size]
  omega
theorem rd2_num (n : Int) (h : 0 ≤ n ∧ n ≤ 1000000) : rd2 (numB n) = n := by
  have hz := start_size n h
  obtain ⟨u, rfl⟩ : ∃ u : Nat, n = (u : Int) := ⟨n.toNat, by omega⟩
  rw [numB_pos] at *
  obtain ⟨hv, hd⟩ := dec_val u
  have hls : (dec u).data.toList = Lib.decDigits u := by simp [dec]
  rw [rd2_yes hz (by rw [hls]; exact hd), hls, hv]
theorem num_not (n : Int) (c : UInt8) (h : c.toNat ≠ 45) (h2 : c.toNat < 48 ∨ 57 < c.toNat) : c ∉ (numB n).data.toList := by
  have hd : ∀ u : Nat, c ∉ Lib.decDigits u := by
    intro u hc
    have := List.all_eq_true.1 (dec_val u).2 c hc
    have h3 : 48 ≤ c.toNat ∧ c.toNat ≤ 57 := of_decide_eq_true this
    omega
  by_cases hn : n < 0
  · obtain ⟨u, rfl⟩ : ∃ u : Nat, n = -(u : Int) := ⟨n.natAbs, by omega⟩
    rw [numB_neg u (by omega)]
    simp only [dec, ByteArray.data_append, Array.toList_append, List.mem_append, List.mem_singleton]
    rintro (e | e)
    · subst e; exact h rfl
    · exact hd u e
  · obtain ⟨u, rfl⟩ : ∃ u : Nat, n = (u : Int) := ⟨n.toNat, by omega⟩
    rw [numB_pos]
    simpa [dec] using hd u

theorem data_app (a b : ByteArray) : (a ++ b).data.toList = a.data.toList ++ b.data.toList := by simp
theorem ext_list (s : ByteArray) (a b : Nat) : (s.extract a b).data.toList = (s.data.toList.drop a).take (b - a) := by
  rw [ByteArray.data_extract, Array.toList_extract, List.extract_eq_take_drop]
theorem len_list (s : ByteArray) : s.data.toList.length = s.size := by rw [Array.length_toList]; rfl
theorem ext_pre (p q : ByteArray) (a b : Nat) (h : b ≤ p.size) : (p ++ q).extract a b = p.extract a b := by
  apply bytes_ext
  rw [ext_list, ext_list, data_app]
  by_cases ha : a ≤ b
  · rw [List.drop_append_of_le_length (by rw [len_list]; omega), List.take_append_of_le_length (by rw [List.length_drop, len_list]; omega)]
  · rw [show b - a = 0 by omega, List.take_zero, List.take_zero]
theorem ext_all (s : ByteArray) : s.extract 0 s.size = s := by
  apply bytes_ext
  rw [ext_list, List.drop_zero, List.take_of_length_le (by rw [len_list]; omega)]
theorem scan_none {c : UInt8} {s : ByteArray} : ∀ k, (∀ j, j < k → ¬ s.data.toList[j]? = some c) → scan c s k = ([], 0)
  | 0, _ => rfl
  | k + 1, h => by rw [scan_miss (h k (by omega)), scan_none k (fun j hj => h j (by omega))]
theorem split_none {c : UInt8} {s : ByteArray} (h : c ∉ s.data.toList) : split s c = [s] := by
  unfold split
  rw [scan_none s.size (fun j _ e => h (List.mem_of_getElem? e)), ext_all]
  rfl
theorem scan_pre (c : UInt8) (p q : ByteArray) : ∀ k, k ≤ p.size → scan c (p ++ q) k = scan c p k := by
  intro k
  induction k with
  | zero => intro _; rfl
  | succ k ih =>
    intro hk
    have hc : (p ++ q).data.toList[k]? = p.data.toList[k]? := by rw [data_app, List.getElem?_append_left (by rw [len_list]; omega)]
    by_cases h : p.data.toList[k]? = some c
    · rw [scan_hit h, scan_hit (hc.trans h), ih (by omega), ext_pre _ _ _ _ (by omega)]
    · rw [scan_miss h, scan_miss (by rw [hc]; exact h), ih (by omega)]
theorem split_snoc {c : UInt8} (p b : ByteArray) (h : c ∉ b.data.toList) : split (p ++ (⟨#[c]⟩ ++ b)) c = split p c ++ [b] := by
  have hz : (p ++ (⟨#[c]⟩ ++ b)).size = p.size + 1 + b.size := by rw [ByteArray.size_append, ByteArray.size_append, one_size]; omega
  have hl : (p ++ (⟨#[c]⟩ ++ b)).data.toList = p.data.toList ++ c :: b.data.toList := by rw [data_app, data_app]; rfl
  have h1 : scan c (p ++ (⟨#[c]⟩ ++ b)) (p.size + 1) = (split p c, p.size + 1) := by
    rw [scan_hit (by rw [hl, List.getElem?_append_right (by rw [len_list]; omega), len_list, Nat.sub_self]; rfl), scan_pre _ _ _ _ (Nat.le_refl _), ext_pre _ _ _ _ (Nat.le_refl _)]
    rfl
  have h2 : ∀ j, j ≤ b.size → scan c (p ++ (⟨#[c]⟩ ++ b)) (p.size + 1 + j) = (split p c, p.size + 1) := by
    intro j
    induction j with
    | zero => intro _; exact h1
    | succ j ih =>
      intro hj
      rw [← Nat.add_assoc, scan_miss, ih (by omega)]
      rw [hl, List.getElem?_append_right (by rw [len_list]; omega), len_list, show p.size + 1 + j - p.size = j + 1 by omega, List.getElem?_cons_succ]
      exact fun e => h (List.mem_of_getElem? e)
  rw [show split (p ++ (⟨#[c]⟩ ++ b)) c = (scan c (p ++ (⟨#[c]⟩ ++ b)) (p ++ (⟨#[c]⟩ ++ b)).size).1 ++ [(p ++ (⟨#[c]⟩ ++ b)).extract (scan c (p ++ (⟨#[c]⟩ ++ b)) (p ++ (⟨#[c]⟩ ++ b)).size).2 (p ++ (⟨#[c]⟩ ++ b)).size] from rfl, hz, h2 _ (Nat.le_refl _)]
  congr 2
  apply bytes_ext
  rw [ext_list, hl, show p.size + 1 = p.data.toList.length + 1 by rw [len_list], ← List.drop_drop, List.drop_left, List.drop_one, List.tail_cons, List.take_of_length_le (by rw [len_list, len_list]; omega)]

/-- The text's head, without the mark, and what follows the mark. -/
def hd2 (t : Tr) : ByteArray := numB t.st ++ (⟨#[64]⟩ ++ numB t.start)
def tlT (t : Tr) : Nat → ByteArray
  | 0 => .empty
  | k + 1 => tlT t k ++ (⟨#[32]⟩ ++ numB (t.xs.getD k 0))
theorem tx_zero (t : Tr) : tx t 0 = hd2 t ++ ⟨#[58]⟩ := by
  unfold tx hd2
  simp only [ByteArray.append_assoc]
theorem tx_tl (t : Tr) : ∀ k, tx t k = hd2 t ++ (⟨#[58]⟩ ++ tlT t k)
  | 0 => by rw [tx_zero]; apply bytes_ext; simp [tlT]
  | k + 1 => by rw [show tx t (k + 1) = tx t k ++ ⟨#[32]⟩ ++ numB (t.xs.getD k 0) from rfl, tx_tl t k]; simp only [tlT, ByteArray.append_assoc]
theorem split_tl (t : Tr) : ∀ k, k ≤ t.xs.length → split (tlT t k) 32 = .empty :: (t.xs.take k).map numB := by
  intro k
  induction k with
  | zero => intro _; rw [show tlT t 0 = .empty from rfl, split_none (by simp)]; rfl
  | succ k ih =>
    intro hk
    obtain ⟨x, hx⟩ := get_of_lt (l := t.xs) (k := k) (by omega)
    rw [show tlT t (k + 1) = tlT t k ++ (⟨#[32]⟩ ++ numB (t.xs.getD k 0)) from rfl, split_snoc _ _ (num_not _ 32 (by decide) (Or.inl (by decide))), ih (by omega), take_snoc hx, List.map_append]
    simp [List.getD, hx]
theorem not_zero (t : Tr) : (32 : UInt8) ∉ (tx t 0).data.toList := by
  rw [tx_zero]
  unfold hd2
  rw [data_app, data_app, data_app]
  have h1 := num_not t.st 32 (by decide) (Or.inl (by decide))
  have h2 := num_not t.start 32 (by decide) (Or.inl (by decide))
  simp only [List.mem_append]
  rintro ((h | h | h) | h)
  · exact h1 h
  · simp at h
  · exact h2 h
  · simp at h
theorem split_tx (t : Tr) : ∀ k, k ≤ t.xs.length → split (tx t k) 32 = tx t 0 :: (t.xs.take k).map numB := by
  intro k
  induction k with
  | zero => intro _; rw [split_none (not_zero t)]; rfl
  | succ k ih =>
    intro hk
    obtain ⟨x, hx⟩ := get_of_lt (l := t.xs) (k := k) (by omega)
    rw [show tx t (k + 1) = tx t k ++ (⟨#[32]⟩ ++ numB (t.xs.getD k 0)) by rw [← ByteArray.append_assoc]; rfl, split_snoc _ _ (num_not _ 32 (by decide) (Or.inl (by decide))), ih (by omega), take_snoc hx, List.map_append]
    simp [List.getD, hx]
theorem split_head (t : Tr) : split (tx t 0) 64 = [numB t.st, numB t.start ++ ⟨#[58]⟩] := by
  have h1 := num_not t.st 64 (by decide) (Or.inr (by decide))
  have h2 := num_not t.start 64 (by decide) (Or.inr (by decide))
  rw [tx_zero]
  unfold hd2
  rw [ByteArray.append_assoc, ByteArray.append_assoc, split_snoc _ _ (by rw [data_app]; simp only [List.mem_append]; rintro (h | h); exact h2 h; simp at h), split_none h1]
  rfl
theorem tx_size8 (t : Tr) (h : goodT t = true) : ∀ k, k ≤ t.xs.length → (tx t k).size ≤ 16 + 8 * k := by
  obtain ⟨⟨g0, g1, g2, g3, _, _⟩, gx⟩ := goodT_yes h
  intro k
  induction k with
  | zero =>
    intro _
    have h1 := num_size7 t.st (by omega)
    have h2 := start_size t.start (by omega)
    simp only [tx, ByteArray.size_append, one_size]
    omega
  | succ k ih =>
    intro hk
    obtain ⟨x, hx⟩ := get_of_lt (l := t.xs) (k := k) (by omega)
    have hb := okX_get gx hx
    have h1 := num_size7 x (by omega)
    have := ih (by omega)
    simp only [tx, ByteArray.size_append, one_size, List.getD, hx, Option.getD_some]
    omega

/-- What the specification reads. -/
def hdP (s : ByteArray) : List ByteArray := split ((split s 32).headD .empty) 64
def h0P (s : ByteArray) : ByteArray := (hdP s).getD 0 .empty
def h1P (s : ByteArray) : ByteArray := (hdP s).getD 1 .empty
def spT (s : ByteArray) : Tr := ⟨resP (h0P s), rd2 ((h1P s).extract 0 ((h1P s).size - 1)), (split s 32).tail.map resP⟩
def okPT (s : ByteArray) : Bool := decide (s.size ≤ 220) && (decide ((hdP s).length = 2) && (decide (0 < (h1P s).size) && (goodT (spT s) && decide (textT (spT s) = s))))
def resPT (s : ByteArray) : Tr := if okPT s then spT s else nilT
theorem resPT_yes {s : ByteArray} (h : okPT s = true) : resPT s = spT s := by unfold resPT; rw [h]; rfl
theorem resPT_no {s : ByteArray} (h : okPT s = false) : resPT s = nilT := by unfold resPT; rw [h]; rfl
theorem okPT_yes {s : ByteArray} (h : okPT s = true) : s.size ≤ 220 ∧ (hdP s).length = 2 ∧ 0 < (h1P s).size ∧ goodT (spT s) = true ∧ textT (spT s) = s := by
  unfold okPT at h
  simpa using h
theorem pt_complete {t : Tr} (hg : goodT t = true) : okPT (textT t) = true ∧ spT (textT t) = t := by
  obtain ⟨⟨g0, g1, g2, g3, g4, _⟩, gx⟩ := goodT_yes hg
  have hz := tx_size8 t hg _ (Nat.le_refl _)
  have hs := start_size t.start (by omega)
  have e1 : split (textT t) 32 = tx t 0 :: t.xs.map numB := by
    unfold textT
    rw [split_tx t _ (Nat.le_refl _), List.take_length]
  have e2 : hdP (textT t) = [numB t.st, numB t.start ++ ⟨#[58]⟩] := by
    unfold hdP
    rw [e1]
    exact split_head t
  have e3 : h0P (textT t) = numB t.st := by unfold h0P; rw [e2]; rfl
  have e4 : h1P (textT t) = numB t.start ++ ⟨#[58]⟩ := by unfold h1P; rw [e2]; rfl
  have hst := read_num t.st (by omega)
  have e5 : spT (textT t) = t := by
    unfold spT
    rw [e1, e3, e4, ByteArray.size_append, one_size, Nat.add_sub_cancel, ext_pre _ _ _ _ (Nat.le_refl _), ext_all, rd2_num _ (by omega), List.tail_cons, List.map_map]
    have hx : t.xs.map (resP ∘ numB) = t.xs := by
      have : ∀ l : List Int, (∀ x ∈ l, -100000 ≤ x ∧ x ≤ 100000) → l.map (resP ∘ numB) = l := by
        intro l
        induction l with
        | nil => intro _; rfl
        | cons x r ih =>
          intro h
          have hx := h x (by simp)
          have hr := read_num x (by omega)
          rw [List.map_cons, ih (fun y hy => h y (by simp [hy]))]
          congr 1
          show resP (numB x) = x
          unfold resP; rw [hr.1]; exact hr.2
      exact this t.xs (of_decide_eq_true gx)
    rw [hx]
    have : resP (numB t.st) = t.st := by unfold resP; rw [hst.1]; exact hst.2
    rw [this]
  refine ⟨?_, e5⟩
  unfold okPT
  rw [e5, e2, e4, hg, ByteArray.size_append, one_size]
  have : (textT t).size ≤ 220 := by unfold textT; omega
  simp [this]

/-- Where the text is cut. -/
theorem index_one (c : UInt8) : ∀ (a b : List UInt8), c ∉ a → Lib.index (a ++ c :: b) [c] = a.length
  | [], b, _ => by simp [Lib.index, List.isPrefixOf]
  | x :: a, b, h => by
    have hx : ¬ c = x := fun e => h (by simp [e])
    have ih := index_one c a b (fun e => h (by simp [e]))
    rw [List.cons_append, Lib.index]
    have h0 : ([c].isPrefixOf (x :: (a ++ c :: b))) = false := by simp [List.isPrefixOf, hx]
    rw [h0, ih]
    have h1 : (((a.length : Nat) : Int) == -1) = false := by rw [beq_eq_false_iff_ne]; omega
    simp [h1]
theorem cut_one (c : UInt8) (a b : List UInt8) (h : c ∉ a) : Lib.cut (a ++ c :: b) [c] = (a, b, true) := by
  unfold Lib.cut
  rw [index_one c a b h, if_pos (by omega)]
  simp
theorem bytes_eta (s : ByteArray) : (⟨s.data.toList.toArray⟩ : ByteArray) = s := by simp
theorem not58 (t : Tr) : (58 : UInt8) ∉ (hd2 t).data.toList := by
  unfold hd2
  rw [data_app, data_app]
  have h1 := num_not t.st 58 (by decide) (Or.inr (by decide))
  have h2 := num_not t.start 58 (by decide) (Or.inr (by decide))
  simp only [List.mem_append]
  rintro (h | h | h)
  · exact h1 h
  · simp at h
  · exact h2 h
theorem cut_text (t : Tr) : Lib.cut (textT t).data.toList [58] = ((hd2 t).data.toList, (tlT t t.xs.length).data.toList, true) := by
  unfold textT
  rw [tx_tl, data_app, data_app]
  exact cut_one 58 _ _ (not58 t)
theorem cut_hd (t : Tr) : Lib.cut (hd2 t).data.toList [64] = ((numB t.st).data.toList, (numB t.start).data.toList, true) := by
  unfold hd2
  rw [data_app, data_app]
  exact cut_one 64 _ _ (num_not t.st 64 (by decide) (Or.inr (by decide)))
theorem split_tail (t : Tr) : split (tlT t t.xs.length) 32 = .empty :: t.xs.map numB := by
  rw [split_tl t _ (Nat.le_refl _), List.take_length]
theorem tl_size (t : Tr) (h : goodT t = true) : (tlT t t.xs.length).size ≤ 220 := by
  have h1 := tx_size8 t h _ (Nat.le_refl _)
  obtain ⟨⟨_, _, _, _, g4, _⟩, _⟩ := goodT_yes h
  rw [tx_tl, ByteArray.size_append, ByteArray.size_append] at h1
  omega
theorem nums_hd (t : Tr) (h : goodT t = true) : nums [numB t.st, numB t.start] = some [t.st, t.start] := by
  obtain ⟨⟨g0, g1, g2, g3, _, _⟩, _⟩ := goodT_yes h
  by_cases h9 : t.start ≤ 999999
  · exact nums_map [t.st, t.start] (by simp; omega)
  · have : t.start = 1000000 := by omega
    rw [this]
    have h2 : num1 (numB 1000000) = some 1000000 := by
      unfold num1
      have : Lib.atoiAll (numB 1000000).data.toList = .ok 1000000 := by decide +kernel
      rw [this]
    simp [nums, num1_num t.st (by omega), h2]
theorem nums_xs (t : Tr) (h : goodT t = true) : nums (t.xs.map numB) = some t.xs :=
  nums_map t.xs (fun x hx => by have := of_decide_eq_true (goodT_yes h).2 x hx; omega)
end Go.Proofs.YtedngmnjpkhbiaaDoor
