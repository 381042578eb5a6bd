/- Packing by differences: the mathematics. -/
import Derived.Test.YtklilfbokpljkaaBase
namespace Go.Proofs.Ytklilfbokpljkaa
open Go.ChangeShapes Go.WideShapes Go.ChangeAt Go.RowKit Go.ChangeMaps
set_option linter.unusedSimpArgs false
set_option linter.unusedVariables false

/-- Differences, the one before given. -/
def difF : Int → List Int → List Int
  | _, [] => []
  | l, x :: xs => (x - l) :: difF x xs
def dif (xs : List Int) : List Int := difF 0 xs
theorem difF_len : ∀ (xs : List Int) (l : Int), (difF l xs).length = xs.length
  | [], _ => rfl
  | x :: xs, l => by simp [difF, difF_len xs x]
theorem dif_len (xs : List Int) : (dif xs).length = xs.length := difF_len xs 0
/-- The sample before place k. -/
def prv (l : Int) (xs : List Int) : Nat → Int
  | 0 => l
  | k + 1 => xs.getD k 0
theorem difF_get : ∀ (xs : List Int) (l : Int) (k : Nat) (x : Int), xs[k]? = some x → (difF l xs)[k]? = some (x - prv l xs k)
  | [], _, k, x, h => by simp at h
  | y :: xs, l, 0, x, h => by simp at h; subst h; rfl
  | y :: xs, l, k + 1, x, h => by
    have := difF_get xs y k x (by simpa using h)
    rw [difF, List.getElem?_cons_succ, this]
    cases k <;> simp [prv]
theorem dif_get {xs : List Int} {k : Nat} {x : Int} (h : xs[k]? = some x) : (dif xs)[k]? = some (x - prv 0 xs k) := difF_get xs 0 k x h
theorem difF_snoc : ∀ (xs : List Int) (l x : Int), difF l (xs ++ [x]) = difF l xs ++ [x - (xs.getLast?.getD l)]
  | [], l, x => rfl
  | y :: xs, l, x => by
    have := difF_snoc xs y x
    rw [List.cons_append, difF, difF, this, List.cons_append]
    cases xs <;> simp [List.getLast?_cons]
/-- Folded numbers. -/
def fold (d : Int) : Int := if d < 0 then -2 * d - 1 else 2 * d
def unfoldI (n : Int) : Int := if n % 2 = 1 then -(n + 1) / 2 else n / 2
theorem unfold_fold (d : Int) : unfoldI (fold d) = d := by unfold unfoldI fold; split <;> split <;> omega
theorem fold_unfold (n : Int) (h : 0 ≤ n) : fold (unfoldI n) = n := by unfold unfoldI fold; split <;> split <;> omega
theorem fold_nonneg (d : Int) : 0 ≤ fold d := by unfold fold; split <;> omega
theorem fold_odd (d : Int) : (fold d % 2 = 1) ↔ d < 0 := by unfold fold; split <;> omega
def okD (d : Int) : Bool := decide (-200000 ≤ d ∧ d ≤ 200000)
theorem okD_fold {d : Int} (h : okD d = true) : fold d ≤ 400000 := by
  have := of_decide_eq_true h
  unfold fold; split <;> omega
/-- Bytes of a folded number. -/
def byt (n : Int) : List Int :=
  if n < 192 then [n] else if n < 8384 then [192 + (n - 192) / 256, (n - 192) % 256]
  else [224 + (n - 8384) / 65536, (n - 8384) / 256 % 256, (n - 8384) % 256]
def wid (n : Int) : Nat := if n < 192 then 1 else if n < 8384 then 2 else 3
theorem byt_len (n : Int) : (byt n).length = wid n := by unfold byt wid; split; rfl; split <;> rfl
theorem wid_pos (n : Int) : 1 ≤ wid n ∧ wid n ≤ 3 := by unfold wid; split; omega; split <;> omega
theorem byt_byte {n : Int} (h0 : 0 ≤ n) (h1 : n ≤ 400000) : ∀ b ∈ byt n, 0 ≤ b ∧ b ≤ 255 := by
  intro b hb
  unfold byt at hb
  split at hb
  · simp at hb; omega
  · split at hb
    · simp at hb; rcases hb with rfl | rfl <;> omega
    · simp at hb; rcases hb with rfl | rfl | rfl <;> omega
/-- Bytes of folded numbers, and of differences. -/
def pkN (ns : List Int) : List Int := ns.flatMap byt
def pkD (ds : List Int) : List Int := pkN (ds.map fold)
def pk (xs : List Int) : List Int := pkD (dif xs)
theorem pkN_nil : pkN [] = [] := rfl
theorem pkN_cons (n : Int) (ns : List Int) : pkN (n :: ns) = byt n ++ pkN ns := by simp [pkN]
theorem pkN_snoc (ns : List Int) (n : Int) : pkN (ns ++ [n]) = pkN ns ++ byt n := by simp [pkN]
theorem pkD_snoc (ds : List Int) (d : Int) : pkD (ds ++ [d]) = pkD ds ++ byt (fold d) := by simp [pkD, pkN]
theorem pkN_len (ns : List Int) : ns.length ≤ (pkN ns).length ∧ (pkN ns).length ≤ 3 * ns.length := by
  induction ns with
  | nil => simp [pkN]
  | cons n ns ih =>
    have := wid_pos n
    rw [pkN_cons, List.length_append, byt_len, List.length_cons]
    omega
theorem pkD_len (ds : List Int) : ds.length ≤ (pkD ds).length ∧ (pkD ds).length ≤ 3 * ds.length := by
  have := pkN_len (ds.map fold)
  simpa [pkD] using this
theorem pk_len (xs : List Int) : (pk xs).length ≤ 3 * xs.length := by
  have := (pkD_len (dif xs)).2
  rw [dif_len] at this
  exact this
/-- How many bytes a number takes, by the first one. -/
def lead (b : Int) : Nat := if b < 192 then 1 else if b < 224 then 2 else 3
theorem lead_pos (b : Int) : 1 ≤ lead b ∧ lead b ≤ 3 := by unfold lead; split; omega; split <;> omega
/-- The number that whole bytes make up. -/
def num : List Int → Int
  | [b] => b
  | [b, c] => 192 + (b - 192) * 256 + c
  | [b, c, e] => 8384 + (b - 224) * 65536 + c * 256 + e
  | _ => 0
/-- How many bytes are whole numbers. -/
def tn (l : List Int) : Nat := match l with
  | [] => 0
  | b :: t => if lead b ≤ t.length + 1 then lead b + tn (t.drop (lead b - 1)) else 0
termination_by l.length
decreasing_by (simp; try omega)
theorem tn_nil : tn [] = 0 := by rw [tn]
theorem tn_yes {b : Int} {t : List Int} (h : lead b ≤ t.length + 1) : tn (b :: t) = lead b + tn (t.drop (lead b - 1)) := by rw [tn, if_pos h]
theorem tn_no {b : Int} {t : List Int} (h : ¬ lead b ≤ t.length + 1) : tn (b :: t) = 0 := by rw [tn, if_neg h]
/-- The whole numbers. -/
def rd (l : List Int) : List Int := match l with
  | [] => []
  | b :: t => if lead b ≤ t.length + 1 then num ((b :: t).take (lead b)) :: rd (t.drop (lead b - 1)) else []
termination_by l.length
decreasing_by (simp; try omega)
theorem rd_nil : rd [] = [] := by rw [rd]
theorem rd_yes {b : Int} {t : List Int} (h : lead b ≤ t.length + 1) : rd (b :: t) = num ((b :: t).take (lead b)) :: rd (t.drop (lead b - 1)) := by rw [rd, if_pos h]
theorem rd_no {b : Int} {t : List Int} (h : ¬ lead b ≤ t.length + 1) : rd (b :: t) = [] := by rw [rd, if_neg h]
theorem lead_drop (b : Int) (t : List Int) : t.drop (lead b - 1) = (b :: t).drop (lead b) := by
  have := lead_pos b
  obtain ⟨k, hk⟩ : ∃ k, lead b = k + 1 := ⟨lead b - 1, by omega⟩
  rw [hk, List.drop_succ_cons]; simp
/-- By places: a whole number at place k. -/
theorem at_yes {l : List Int} {k : Nat} {b : Int} (hb : l[k]? = some b) (h : k + lead b ≤ l.length) :
    tn (l.drop k) = lead b + tn (l.drop (k + lead b)) ∧ rd (l.drop k) = num ((l.drop k).take (lead b)) :: rd (l.drop (k + lead b)) := by
  have hk : k < l.length := (List.getElem?_eq_some_iff.1 hb).1
  have e : l.drop k = b :: l.drop (k + 1) := by
    rw [List.drop_eq_getElem_cons hk]
    congr 1
    exact (List.getElem?_eq_some_iff.1 hb).2
  have hl : lead b ≤ (l.drop (k + 1)).length + 1 := by rw [List.length_drop]; have := lead_pos b; omega
  have hd : (l.drop (k + 1)).drop (lead b - 1) = l.drop (k + lead b) := by
    rw [List.drop_drop]; congr 1; have := lead_pos b; omega
  rw [e, tn_yes hl, rd_yes hl, hd]
  exact ⟨rfl, rfl⟩
theorem at_no {l : List Int} {k : Nat} {b : Int} (hb : l[k]? = some b) (h : ¬ k + lead b ≤ l.length) : tn (l.drop k) = 0 ∧ rd (l.drop k) = [] := by
  have hk : k < l.length := (List.getElem?_eq_some_iff.1 hb).1
  have e : l.drop k = b :: l.drop (k + 1) := by
    rw [List.drop_eq_getElem_cons hk]
    congr 1
    exact (List.getElem?_eq_some_iff.1 hb).2
  have hl : ¬ lead b ≤ (l.drop (k + 1)).length + 1 := by rw [List.length_drop]; omega
  rw [e, tn_no hl, rd_no hl]
  exact ⟨rfl, rfl⟩
def okB (l : List Int) : Bool := decide (∀ b ∈ l, 0 ≤ b ∧ b ≤ 255) && decide (l.length ≤ 100)
theorem okB_yes {l : List Int} (h : okB l = true) : (∀ b ∈ l, 0 ≤ b ∧ b ≤ 255) ∧ l.length ≤ 100 := by
  unfold okB at h
  rw [Bool.and_eq_true] at h
  exact ⟨of_decide_eq_true h.1, of_decide_eq_true h.2⟩
/-- Whole bytes: their number packs to them. -/
theorem byt_num {b : Int} {t : List Int} (hb : ∀ x ∈ b :: t, 0 ≤ x ∧ x ≤ 255) (h : lead b ≤ t.length + 1) : byt (num ((b :: t).take (lead b))) = (b :: t).take (lead b) ∧ 0 ≤ num ((b :: t).take (lead b)) ∧ wid (num ((b :: t).take (lead b))) = lead b ∧ num ((b :: t).take (lead b)) ≤ 2105535 := by
  have hb0 := hb b (by simp)
  unfold lead at h ⊢
  split at h
  · rename_i h1
    rw [if_pos h1]
    simp only [List.take_succ_cons, List.take_zero, num, byt, wid]
    exact ⟨if_pos h1, hb0.1, if_pos h1, by omega⟩
  · rename_i h1
    rw [if_neg h1]
    split at h
    · rename_i h2
      rw [if_pos h2]
      match t, hb, h with
      | c :: t, hb, h =>
        have hc := hb c (by simp)
        simp only [List.take_succ_cons, List.take_zero, num, byt, wid]
        have g1 : ¬ 192 + (b - 192) * 256 + c < 192 := by omega
        have g2 : 192 + (b - 192) * 256 + c < 8384 := by omega
        refine ⟨(if_neg g1).trans ((if_pos g2).trans ?_), by omega, (if_neg g1).trans (if_pos g2), by omega⟩
        simp only [List.cons.injEq, and_true]
        omega
    · rename_i h2
      rw [if_neg h2]
      match t, hb, h with
      | [c], hb, h => simp at h
      | c :: e :: t, hb, h =>
        have hc := hb c (by simp)
        have he := hb e (by simp)
        simp only [List.take_succ_cons, List.take_zero, num, byt, wid]
        have g1 : ¬ 8384 + (b - 224) * 65536 + c * 256 + e < 192 := by omega
        have g2 : ¬ 8384 + (b - 224) * 65536 + c * 256 + e < 8384 := by omega
        refine ⟨(if_neg g1).trans ((if_neg g2).trans ?_), by omega, (if_neg g1).trans (if_neg g2), by omega⟩
        simp only [List.cons.injEq, and_true]
        omega
theorem tn_rd : ∀ (n : Nat) (l : List Int), l.length ≤ n → (∀ x ∈ l, 0 ≤ x ∧ x ≤ 255) → pkN (rd l) = l.take (tn l) ∧ tn l ≤ l.length ∧ (∀ m ∈ rd l, 0 ≤ m ∧ m ≤ 2105535)
  | _, [], _, _ => by rw [rd_nil, tn_nil]; simp [pkN]
  | 0, b :: t, h, _ => by simp at h
  | n + 1, b :: t, h, hb => by
    by_cases hl : lead b ≤ t.length + 1
    · have hp := lead_pos b
      have hd : ∀ x ∈ t.drop (lead b - 1), 0 ≤ x ∧ x ≤ 255 := fun x hx => hb x (List.mem_cons_of_mem _ (List.mem_of_mem_drop hx))
      have ih := tn_rd n (t.drop (lead b - 1)) (by simp at h ⊢; omega) hd
      obtain ⟨e1, e2, e3, e4⟩ := byt_num hb hl
      rw [tn_yes hl, rd_yes hl, pkN_cons, e1, ih.1]
      refine ⟨?_, by have := ih.2.1; simp at this ⊢; omega, ?_⟩
      · rw [List.take_add, lead_drop]
      · intro m hm
        rcases List.mem_cons.1 hm with rfl | hm
        · exact ⟨e2, e4⟩
        · exact ih.2.2 m hm
    · rw [tn_no hl, rd_no hl]
      simp [pkN]
theorem pkN_rd {l : List Int} (h : okB l = true) : pkN (rd l) = l.take (tn l) := (tn_rd _ l (Nat.le_refl _) (okB_yes h).1).1
theorem tn_le {l : List Int} (h : okB l = true) : tn l ≤ l.length := (tn_rd _ l (Nat.le_refl _) (okB_yes h).1).2.1
theorem rd_nonneg {l : List Int} (h : okB l = true) : ∀ m ∈ rd l, 0 ≤ m ∧ m ≤ 2105535 := (tn_rd _ l (Nat.le_refl _) (okB_yes h).1).2.2
theorem rd_len : ∀ (n : Nat) (l : List Int), l.length ≤ n → (rd l).length ≤ l.length
  | _, [], _ => by rw [rd_nil]; simp
  | 0, b :: t, h => by simp at h
  | n + 1, b :: t, h => by
    by_cases hl : lead b ≤ t.length + 1
    · have hp := lead_pos b
      have ih := rd_len n (t.drop (lead b - 1)) (by simp at h ⊢; omega)
      rw [rd_yes hl]
      simp at ih ⊢; omega
    · rw [rd_no hl]; simp
/-- Packed numbers are read back. -/
theorem rd_byt {n : Int} (h0 : 0 ≤ n) (h1 : n ≤ 2105535) (l : List Int) : rd (byt n ++ l) = n :: rd l ∧ tn (byt n ++ l) = wid n + tn l := by
  unfold byt wid
  split
  · rename_i h
    have hl : lead n = 1 := by unfold lead; rw [if_pos h]
    have := lead_pos n
    constructor
    · rw [List.cons_append, rd_yes (by rw [hl]; omega), hl]; simp [num]
    · rw [List.cons_append, tn_yes (by rw [hl]; omega), hl]; simp
  · rename_i h
    split
    · rename_i h2
      have hl : lead (192 + (n - 192) / 256) = 2 := by unfold lead; rw [if_neg (by omega), if_pos (by omega)]
      constructor
      · rw [List.cons_append, rd_yes (by rw [hl]; simp), hl]; simp [num]; omega
      · rw [List.cons_append, tn_yes (by rw [hl]; simp), hl]; simp
    · rename_i h2
      have hl : lead (224 + (n - 8384) / 65536) = 3 := by unfold lead; rw [if_neg (by omega), if_neg (by omega)]
      constructor
      · rw [List.cons_append, rd_yes (by rw [hl]; simp), hl]; simp [num]; omega
      · rw [List.cons_append, tn_yes (by rw [hl]; simp), hl]; simp
theorem rd_pkN {ns : List Int} (h : ∀ n ∈ ns, 0 ≤ n ∧ n ≤ 2105535) (l : List Int) : rd (pkN ns ++ l) = ns ++ rd l ∧ tn (pkN ns ++ l) = (pkN ns).length + tn l := by
  induction ns with
  | nil => simp [pkN]
  | cons n ns ih =>
    have h1 := h n (by simp)
    have ih := ih (fun m hm => h m (by simp [hm]))
    rw [pkN_cons, List.append_assoc]
    have g := rd_byt h1.1 h1.2 (pkN ns ++ l)
    rw [g.1, g.2, ih.1, ih.2, List.length_append, byt_len]
    exact ⟨rfl, by omega⟩
/-- Sums, as far as they are samples. -/
def inS' (x : Int) : Bool := decide (-100000 ≤ x ∧ x ≤ 100000)
def smF : Int → Nat → List Int → List Int
  | _, _, [] => []
  | l, n, d :: ds => if okD d && (inS' (l + d) && decide (n < 24)) then (l + d) :: smF (l + d) (n + 1) ds else []
def sm (ds : List Int) : List Int := smF 0 0 ds
theorem smF_len : ∀ (ds : List Int) (l : Int) (n : Nat), (smF l n ds).length ≤ ds.length ∧ (n ≤ 24 → n + (smF l n ds).length ≤ 24)
  | [], _, _ => by simp [smF]
  | d :: ds, l, n => by
    rw [smF]
    split
    · rename_i h
      simp only [Bool.and_eq_true, decide_eq_true_eq] at h
      have := smF_len ds (l + d) (n + 1)
      simp only [List.length_cons]
      omega
    · simp
theorem sm_len (ds : List Int) : (sm ds).length ≤ ds.length ∧ (sm ds).length ≤ 24 := by
  have := smF_len ds 0 0
  unfold sm
  omega
theorem smF_ok : ∀ (ds : List Int) (l : Int) (n : Nat), ∀ x ∈ smF l n ds, -100000 ≤ x ∧ x ≤ 100000
  | [], _, _ => by simp [smF]
  | d :: ds, l, n => by
    rw [smF]
    split
    · rename_i h
      simp only [Bool.and_eq_true, decide_eq_true_eq, inS'] at h
      intro x hx
      rcases List.mem_cons.1 hx with rfl | hx
      · exact h.2.1
      · exact smF_ok ds _ _ x hx
    · simp
/-- The differences of the sums are the first ones. -/
theorem dif_smF : ∀ (ds : List Int) (l : Int) (n : Nat), difF l (smF l n ds) = ds.take (smF l n ds).length
  | [], _, _ => by simp [smF, difF]
  | d :: ds, l, n => by
    rw [smF]
    split
    · rw [difF, dif_smF ds (l + d) (n + 1), List.length_cons, List.take_succ_cons]
      congr 1; omega
    · simp [difF]
theorem dif_sm (ds : List Int) : dif (sm ds) = ds.take (sm ds).length := dif_smF ds 0 0
theorem smF_dif : ∀ (xs : List Int) (l : Int) (n : Nat), -100000 ≤ l ∧ l ≤ 100000 → (∀ x ∈ xs, -100000 ≤ x ∧ x ≤ 100000) → n + xs.length ≤ 24 → smF l n (difF l xs) = xs
  | [], _, _, _, _, _ => rfl
  | x :: xs, l, n, hl, hx, hn => by
    have h1 := hx x (by simp)
    simp only [List.length_cons] at hn
    rw [difF, smF, if_pos (by simp only [okD, inS', Bool.and_eq_true, decide_eq_true_eq]; omega), show l + (x - l) = x by omega, smF_dif xs x (n + 1) h1 (fun y hy => hx y (by simp [hy])) (by omega)]
theorem dif_ok : ∀ (xs : List Int) (l : Int), -100000 ≤ l ∧ l ≤ 100000 → (∀ x ∈ xs, -100000 ≤ x ∧ x ≤ 100000) → ∀ d ∈ difF l xs, okD d = true
  | [], _, _, _ => by simp [difF]
  | x :: xs, l, hl, hx => by
    have h1 := hx x (by simp)
    intro d hd
    rw [difF] at hd
    rcases List.mem_cons.1 hd with rfl | hd
    · simp only [okD, decide_eq_true_eq]; omega
    · exact dif_ok xs x h1 (fun y hy => hx y (by simp [hy])) d hd
/-- One more sum. -/
theorem smF_step {ds : List Int} {k : Nat} {d : Int} (hd : ds[k]? = some d) (l : Int) (n : Nat) :
    smF l n (ds.drop k) = if okD d && (inS' (l + d) && decide (n < 24)) then (l + d) :: smF (l + d) (n + 1) (ds.drop (k + 1)) else [] := by
  have hk : k < ds.length := (List.getElem?_eq_some_iff.1 hd).1
  have e : ds.drop k = d :: ds.drop (k + 1) := by
    rw [List.drop_eq_getElem_cons hk]
    congr 1
    exact (List.getElem?_eq_some_iff.1 hd).2
  rw [e, smF]
/-- The differences that bytes make up. -/
def rdD (bs : List Int) : List Int := (rd bs).map unfoldI
theorem map_fold_unfold {ns : List Int} (h : ∀ m ∈ ns, 0 ≤ m) : (ns.map unfoldI).map fold = ns := by
  induction ns with
  | nil => rfl
  | cons n ns ih => simp only [List.map_cons]; rw [fold_unfold n (h n (by simp)), ih (fun m hm => h m (by simp [hm]))]
theorem map_unfold_fold (ds : List Int) : (ds.map fold).map unfoldI = ds := by
  induction ds with
  | nil => rfl
  | cons d ds ih => simp only [List.map_cons]; rw [unfold_fold, ih]
theorem pkN_append (a b : List Int) : pkN (a ++ b) = pkN a ++ pkN b := by simp [pkN]
theorem pk_sm {bs : List Int} (h : okB bs = true) : pk (sm (rdD bs)) = pkN ((rd bs).take (sm (rdD bs)).length) := by
  unfold pk pkD
  rw [dif_sm]
  congr 1
  rw [rdD, ← List.map_take]
  exact map_fold_unfold fun m hm => (rd_nonneg h m (List.mem_of_mem_take hm)).1
theorem unp_iff {bs : List Int} (h : okB bs = true) : pk (sm (rdD bs)) = bs ↔ (tn bs = bs.length ∧ (sm (rdD bs)).length = (rdD bs).length) := by
  rw [pk_sm h]
  have hl : (rdD bs).length = (rd bs).length := by simp [rdD]
  have h1 := (sm_len (rdD bs)).1
  rw [hl] at h1 ⊢
  generalize (sm (rdD bs)).length = m at *
  have h2 := pkN_rd h
  have h3 := tn_le h
  constructor
  · intro e
    have e2 : pkN (rd bs) = pkN ((rd bs).take m) ++ pkN ((rd bs).drop m) := by rw [← pkN_append, List.take_append_drop]
    have g1 := congrArg List.length e
    have g2 := congrArg List.length e2
    rw [List.length_append] at g2
    have g3 := (pkN_len ((rd bs).drop m)).1
    rw [List.length_drop] at g3
    rw [h2, List.length_take] at g2
    omega
  · rintro ⟨e1, e2⟩
    rw [List.take_of_length_le (by omega), h2, e1, List.take_length]
theorem sm_dif {xs : List Int} (h : ∀ x ∈ xs, -100000 ≤ x ∧ x ≤ 100000) (hn : xs.length ≤ 24) : sm (dif xs) = xs := smF_dif xs 0 0 (by omega) h (by omega)
theorem rdD_pk {xs : List Int} (h : ∀ x ∈ xs, -100000 ≤ x ∧ x ≤ 100000) : rdD (pk xs) = dif xs ∧ tn (pk xs) = (pk xs).length := by
  have hd : ∀ n ∈ (dif xs).map fold, 0 ≤ n ∧ n ≤ 2105535 := by
    intro n hn
    obtain ⟨d, hd, rfl⟩ := List.mem_map.1 hn
    have := okD_fold (dif_ok xs 0 (by omega) h d hd)
    have := fold_nonneg d
    omega
  have := rd_pkN hd []
  rw [List.append_nil, rd_nil, List.append_nil, tn_nil] at this
  unfold rdD pk pkD
  rw [this.1]
  exact ⟨map_unfold_fold _, this.2⟩
end Go.Proofs.Ytklilfbokpljkaa
