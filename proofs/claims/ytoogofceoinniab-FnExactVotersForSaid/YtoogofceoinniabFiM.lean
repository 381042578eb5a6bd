/- Integer filters: the mathematics of both programs. -/
import Derived.Test.YtoogofceoinniabGood
import Derived.Test.YtoogofceoinniabRed
import Derived.Test.YtoogofceoinniabAcc
namespace Go.Proofs.Ytoogofceoinniab
open Go.ChangeShapes Go.WideShapes Go.ChangeAt Go.RowKit Go.ChangeMaps
set_option linter.unusedSimpArgs false
set_option linter.unusedVariables false

/-- What k rounds gave. -/
def up (f : Nat → Int) (k : Nat) : List Int := (List.range k).map f
theorem up_succ (f : Nat → Int) (k : Nat) : up f (k + 1) = up f k ++ [f k] := by simp [up, List.range_succ]
theorem up_len (f : Nat → Int) (k : Nat) : (up f k).length = k := by simp [up]
theorem up_zero (f : Nat → Int) : up f 0 = [] := rfl
theorem up_get {f : Nat → Int} {k i : Nat} (h : i < k) : (up f k)[i]? = some (f i) := by simp [up, h]
theorem up_mem {f : Nat → Int} {k : Nat} {x : Int} (h : x ∈ up f k) : ∃ i, i < k ∧ x = f i := by
  obtain ⟨i, hi, rfl⟩ := List.mem_map.1 h
  exact ⟨i, by simpa using hi, rfl⟩
theorem up_cut (f : Nat → Int) (k : Nat) : (up f k).map (Value.int .i64) ++ [.int .i64 (f k)] = (up f (k + 1)).map (Value.int .i64) := by rw [up_succ]; simp

def inR (n lo hi : Int) : Bool := decide (lo ≤ n ∧ n ≤ hi)
def okA (xs : List Int) (n lo hi : Int) : Bool := okL xs && inR n lo hi
theorem okA_yes {xs : List Int} {n lo hi : Int} (h : okA xs n lo hi = true) : okL xs = true ∧ inR n lo hi = true := by
  unfold okA at h; rwa [Bool.and_eq_true] at h
theorem inR_yes {n lo hi : Int} (h : inR n lo hi = true) : lo ≤ n ∧ n ≤ hi := of_decide_eq_true h
theorem inR_no {n lo hi : Int} (h : inR n lo hi = false) : ¬ (lo ≤ n ∧ n ≤ hi) := of_decide_eq_false h

/-- The sum of a list. -/
def lsum (l : List Int) : Int := l.foldl (· + ·) 0
theorem lsum_snoc (l : List Int) (x : Int) : lsum (l ++ [x]) = lsum l + x := by simp [lsum]
theorem lsum_bd (M : Int) (hM : 0 ≤ M) (l : List Int) (h : ∀ x ∈ l, -M ≤ x ∧ x ≤ M) : -(M * l.length) ≤ lsum l ∧ lsum l ≤ M * l.length := by
  unfold lsum
  suffices H : ∀ (l : List Int) (a : Int), (∀ x ∈ l, -M ≤ x ∧ x ≤ M) → a - M * l.length ≤ l.foldl (· + ·) a ∧ l.foldl (· + ·) a ≤ a + M * l.length by
    have := H l 0 h; omega
  intro l
  induction l with
  | nil => intro a _; simp
  | cons y t ih =>
    intro a h
    have hy := h y (by simp)
    have := ih (a + y) (fun x hx => h x (by simp [hx]))
    simp only [List.foldl_cons, List.length_cons, Int.natCast_add, Int.natCast_one, Int.mul_add, Int.mul_one]
    omega
/-- The samples from b places before i to a places after it. -/
def win (xs : List Int) (b a i : Nat) : List Int := (xs.take (i + a + 1)).drop (i - b)
theorem win_len (xs : List Int) (b a i : Nat) : (win xs b a i).length = min (i + a + 1) xs.length - (i - b) := by simp [win]
theorem win_sub {xs : List Int} {b a i : Nat} {x : Int} (h : x ∈ win xs b a i) : x ∈ xs := List.mem_of_mem_take (List.mem_of_mem_drop h)
theorem win_get {xs : List Int} {b a i j : Nat} (h : j < (win xs b a i).length) : (win xs b a i)[j]? = xs[(i - b) + j]? := by
  rw [win_len] at h
  unfold win
  rw [List.getElem?_drop, List.getElem?_take, if_pos (by omega)]
/-- A part that grows. -/
theorem part_snoc {xs : List Int} {lo k : Nat} {x : Int} (hx : xs[k]? = some x) (h : lo ≤ k) : (xs.take (k + 1)).drop lo = (xs.take k).drop lo ++ [x] := by
  have hk := (List.getElem?_eq_some_iff.1 hx).1
  rw [take_snoc hx, List.drop_append_of_le_length (by rw [List.length_take]; omega)]

def fMS (xs : List Int) (n i : Nat) : Int := lsum (win xs (n - 1) 0 i)
def resMS (xs : List Int) (n : Int) : List Int := if okA xs n 1 10 then up (fMS xs n.toNat) xs.length else []

/-- The sorted list. -/
def srt (l : List Int) : List Int := l.mergeSort fun x y => decide (x ≤ y)
theorem srt_perm (l : List Int) : (srt l).Perm l := List.mergeSort_perm _ _
theorem srt_len (l : List Int) : (srt l).length = l.length := (srt_perm l).length_eq
theorem srt_pw (l : List Int) : (srt l).Pairwise (· ≤ ·) := by
  have := List.pairwise_mergeSort (le := fun x y : Int => decide (x ≤ y)) (fun a b c p q => by rw [decide_eq_true_eq] at *; omega) (fun a b => by rw [Bool.or_eq_true, decide_eq_true_eq, decide_eq_true_eq]; omega) l
  exact this.imp (fun h => of_decide_eq_true h)
theorem srt_uniq {o l : List Int} (hp : o.Perm l) (h : o.Pairwise (· ≤ ·)) : o = srt l :=
  List.Perm.eq_of_pairwise (le := (· ≤ ·)) (fun a b _ _ p q => by omega) h (srt_pw l) (hp.trans (srt_perm l).symm)
def mid (l : List Int) : Int := (srt l).getD ((l.length - 1) / 2) 0
theorem mid_get {l : List Int} (h : 0 < l.length) : (srt l)[(l.length - 1) / 2]? = some (mid l) := by
  have : (l.length - 1) / 2 < (srt l).length := by rw [srt_len]; omega
  simp [mid, List.getD, List.getElem?_eq_getElem this]
theorem mid_mem {l : List Int} (h : 0 < l.length) : mid l ∈ l := (srt_perm l).mem_iff.1 (List.mem_of_getElem? (mid_get h))
def fMed (xs : List Int) (r i : Nat) : Int := mid (win xs r r i)
def resMed (xs : List Int) (r : Int) : List Int := if okA xs r 0 3 then up (fMed xs r.toNat) xs.length else []
/-- An insertion into a sorted list. -/
theorem ins_pw {o : List Int} {x : Int} {k : Nat} (h : o.Pairwise (· ≤ ·)) (hk : k ≤ o.length) (h1 : ∀ y ∈ o.take k, y ≤ x) (h2 : ∀ y ∈ o.drop k, x ≤ y) : (o.take k ++ x :: o.drop k).Pairwise (· ≤ ·) := by
  rw [List.pairwise_append]
  refine ⟨h.sublist (List.take_sublist _ _), ?_, ?_⟩
  · rw [List.pairwise_cons]
    exact ⟨h2, h.sublist (List.drop_sublist _ _)⟩
  · intro a ha b hb
    rcases List.mem_cons.1 hb with rfl | hb
    · exact h1 a ha
    · have := h1 a ha
      have := h2 b hb
      omega
theorem ins_perm (o : List Int) (x : Int) (k : Nat) : (o.take k ++ x :: o.drop k).Perm (o ++ [x]) := by
  have h : (o.take k ++ x :: o.drop k).Perm (x :: (o.take k ++ o.drop k)) := List.perm_middle
  rw [List.take_append_drop] at h
  exact h.trans (List.perm_append_singleton x o).symm
theorem pw_take {o : List Int} {k : Nat} {y : Int} (h : o.Pairwise (· ≤ ·)) (hy : o[k]? = some y) : ∀ z ∈ o.take (k + 1), z ≤ y := by
  intro z hz
  obtain ⟨j, hj⟩ := List.mem_iff_getElem?.1 hz
  have hl := (List.getElem?_eq_some_iff.1 hj).1
  rw [List.length_take] at hl
  rw [List.getElem?_take, if_pos (by omega)] at hj
  rcases Nat.lt_or_ge j k with q | q
  · have := List.pairwise_iff_getElem.1 h j k (by omega) (List.getElem?_eq_some_iff.1 hy).1 q
    rw [(List.getElem?_eq_some_iff.1 hj).2, (List.getElem?_eq_some_iff.1 hy).2] at this
    exact this
  · obtain rfl : j = k := by omega
    rw [hj] at hy; cases hy; exact Int.le_refl _

/-- Smoothed numbers. -/
def smo (xs : List Int) (k : Int) : Nat → Int
  | 0 => xs.getD 0 0
  | i + 1 => smo xs k i + (xs.getD (i + 1) 0 - smo xs k i) / k
theorem div_between {k d : Int} (hk : 1 ≤ k) : (0 ≤ d → 0 ≤ d / k ∧ d / k ≤ d) ∧ (d < 0 → d ≤ d / k ∧ d / k < 0) := by
  have e := Int.mul_ediv_add_emod d k
  have h0 := Int.emod_nonneg d (show k ≠ 0 by omega)
  have h1 := Int.emod_lt_of_pos d (show 0 < k by omega)
  refine ⟨fun h => ?_, fun h => ?_⟩
  · have a := Int.ediv_nonneg h (show 0 ≤ k by omega)
    refine ⟨a, ?_⟩
    have : 1 * (d / k) ≤ k * (d / k) := Int.mul_le_mul_of_nonneg_right hk a
    omega
  · have b : d / k < 0 := Int.ediv_neg_of_neg_of_pos h (by omega)
    refine ⟨?_, b⟩
    have : (k - 1) * (d / k) ≤ (k - 1) * (-1) := Int.mul_le_mul_of_nonneg_left (by omega) (by omega)
    rw [Int.sub_mul, Int.one_mul] at this
    omega
theorem div_toward {x y k lo hi : Int} (hk : 1 ≤ k) (hx : lo ≤ x ∧ x ≤ hi) (hy : lo ≤ y ∧ y ≤ hi) : lo ≤ y + (x - y) / k ∧ y + (x - y) / k ≤ hi := by
  have h := div_between (d := x - y) hk
  rcases Int.lt_or_le (x - y) 0 with c | c
  · have := h.2 c; omega
  · have := h.1 c; omega
theorem smo_bd {xs : List Int} {k lo hi : Int} (hk : 1 ≤ k) (h : ∀ x ∈ xs, lo ≤ x ∧ x ≤ hi) : ∀ i, i < xs.length → lo ≤ smo xs k i ∧ smo xs k i ≤ hi := by
  intro i
  induction i with
  | zero => intro hi'; simp only [smo, List.getD, List.getElem?_eq_getElem hi', Option.getD_some]; exact h _ (List.getElem_mem _)
  | succ i ih =>
    intro hi'
    have a := ih (by omega)
    simp only [smo, List.getD, List.getElem?_eq_getElem hi', Option.getD_some]
    exact div_toward hk (h _ (List.getElem_mem _)) a
def resSmo (xs : List Int) (k : Int) : List Int := if okA xs k 1 100 then up (smo xs k) xs.length else []

def clp (l x : Int) : Int := max (-l) (min x l)
def resClp (xs : List Int) (l : Int) : List Int := if okA xs l 0 100000 then up (fun i => clp l (xs.getD i 0)) xs.length else []

/-- Each n-th one. -/
def evN (len n : Nat) : Nat := (len + n - 1) / n
def resEv (xs : List Int) (n : Int) : List Int := if okA xs n 1 10 then up (fun j => xs.getD (j * n.toNat) 0) (evN xs.length n.toNat) else []
theorem evN_lt {len n j : Nat} (hn : 1 ≤ n) : j < evN len n ↔ j * n < len := by
  unfold evN
  rw [Nat.lt_iff_add_one_le, Nat.le_div_iff_mul_le (by omega), Nat.add_mul]
  omega
theorem evN_le {len n : Nat} (hn : 1 ≤ n) : evN len n ≤ len := by
  rcases Nat.lt_or_ge len (evN len n) with h | h
  · have := (evN_lt hn).1 h
    have := Nat.mul_le_mul_left len hn
    omega
  · exact h

def fCb (xs : List Int) (lag i : Nat) : Int := if lag ≤ i then xs.getD i 0 - xs.getD (i - lag) 0 else 0
def resCb (xs : List Int) (l : Int) : List Int := if okA xs l 1 10 then up (fCb xs l.toNat) xs.length else []

/-- Weights. -/
def okWs (ws : List Int) : Bool := decide (1 ≤ (ws.length : Int) ∧ (ws.length : Int) ≤ 5) && decide (∀ w ∈ ws, -100 ≤ w ∧ w ≤ 100)
theorem okWs_yes {ws : List Int} (h : okWs ws = true) : (1 ≤ (ws.length : Int) ∧ (ws.length : Int) ≤ 5) ∧ ∀ w ∈ ws, -100 ≤ w ∧ w ≤ 100 := by
  unfold okWs at h
  rw [Bool.and_eq_true] at h
  exact ⟨of_decide_eq_true h.1, of_decide_eq_true h.2⟩
def wsum (ws xs : List Int) (i : Nat) : Nat → Int
  | 0 => 0
  | m + 1 => wsum ws xs i m + ws.getD m 0 * xs.getD (i - m) 0
theorem mul_bd {a b A B : Int} (hA : 0 ≤ A) (hB : 0 ≤ B) (ha : -A ≤ a ∧ a ≤ A) (hb : -B ≤ b ∧ b ≤ B) : -(A * B) ≤ a * b ∧ a * b ≤ A * B := by
  have h1 : (a * b).natAbs ≤ (A * B).natAbs := by
    rw [Int.natAbs_mul, Int.natAbs_mul]
    exact Nat.mul_le_mul (by omega) (by omega)
  have h2 : 0 ≤ A * B := Int.mul_nonneg hA hB
  omega
theorem getD_bd {l : List Int} {M : Int} (hM : 0 ≤ M) (h : ∀ x ∈ l, -M ≤ x ∧ x ≤ M) (i : Nat) : -M ≤ l.getD i 0 ∧ l.getD i 0 ≤ M := by
  simp only [List.getD]
  cases hx : l[i]? with
  | none => simp; omega
  | some x => simpa using h x (List.mem_of_getElem? hx)
theorem wsum_bd {ws xs : List Int} {W X : Int} (hW : 0 ≤ W) (hX : 0 ≤ X) (hw : ∀ w ∈ ws, -W ≤ w ∧ w ≤ W) (hx : ∀ x ∈ xs, -X ≤ x ∧ x ≤ X) (i : Nat) : ∀ m : Nat, -(W * X * m) ≤ wsum ws xs i m ∧ wsum ws xs i m ≤ W * X * m := by
  intro m
  induction m with
  | zero => simp [wsum]
  | succ m ih =>
    have := mul_bd hW hX (getD_bd hW hw m) (getD_bd hX hx (i - m))
    simp only [wsum, Int.natCast_add, Int.natCast_one, Int.mul_add, Int.mul_one]
    omega
def fWg (xs ws : List Int) (i : Nat) : Int := wsum ws xs i (min (i + 1) ws.length)
def okWg (xs ws : List Int) : Bool := okL xs && okWs ws
def resWg (xs ws : List Int) : List Int := if okWg xs ws then up (fWg xs ws) xs.length else []
def asum : List Int → Int
  | [] => 0
  | w :: t => ab w + asum t
theorem ab_nonneg (x : Int) : 0 ≤ ab x := by unfold ab; split <;> omega
theorem asum_snoc (l : List Int) (x : Int) : asum (l ++ [x]) = asum l + ab x := by
  induction l with
  | nil => simp [asum]
  | cons y t ih => simp only [List.cons_append, asum, ih]; omega
theorem asum_bd {l : List Int} {M : Int} (h : ∀ x ∈ l, -M ≤ x ∧ x ≤ M) : 0 ≤ asum l ∧ asum l ≤ M * l.length := by
  induction l with
  | nil => simp [asum]
  | cons y t ih =>
    have a := ih (fun x hx => h x (by simp [hx]))
    have b := h y (by simp)
    have c := ab_nonneg y
    have d : ab y ≤ M := by unfold ab; split <;> omega
    simp only [asum, List.length_cons, Int.natCast_add, Int.natCast_one, Int.mul_add, Int.mul_one]
    omega
def numWb (ws : List Int) : Int := if okWs ws then 100000 * asum ws else 0

/-- Turning points. -/
def isTp (xs : List Int) (i : Nat) : Bool := decide (1 ≤ i ∧ i + 1 < xs.length ∧ ((xs.getD i 0 > xs.getD (i - 1) 0 ∧ xs.getD i 0 > xs.getD (i + 1) 0) ∨ (xs.getD i 0 < xs.getD (i - 1) 0 ∧ xs.getD i 0 < xs.getD (i + 1) 0)))
def tps (xs : List Int) : Nat → List Int
  | 0 => []
  | k + 1 => if isTp xs k then tps xs k ++ [(k : Int)] else tps xs k
theorem tps_len (xs : List Int) (k : Nat) : (tps xs k).length ≤ k := by
  induction k with
  | zero => simp [tps]
  | succ k ih => unfold tps; split <;> (try rw [List.length_append, List.length_singleton]) <;> omega
theorem tps_one (xs : List Int) : tps xs 1 = [] := by simp [tps, isTp]
theorem tps_end (xs : List Int) : ∀ k, xs.length - 1 ≤ k → 1 ≤ k → tps xs (k + 1) = tps xs k := by
  intro k h h1
  rw [tps, if_neg]
  unfold isTp
  simp only [decide_eq_true_eq]
  omega
def resTp (xs : List Int) : List Int := if okL xs then tps xs xs.length else []

theorem resMS_len {xs : List Int} (n : Int) (h : xs.length ≤ 1048576) : (resMS xs n).length ≤ 1048576 := by unfold resMS; split <;> simp [up_len]; omega
theorem resMed_len {xs : List Int} (n : Int) (h : xs.length ≤ 1048576) : (resMed xs n).length ≤ 1048576 := by unfold resMed; split <;> simp [up_len]; omega
theorem resSmo_len {xs : List Int} (n : Int) (h : xs.length ≤ 1048576) : (resSmo xs n).length ≤ 1048576 := by unfold resSmo; split <;> simp [up_len]; omega
theorem resClp_len {xs : List Int} (n : Int) (h : xs.length ≤ 1048576) : (resClp xs n).length ≤ 1048576 := by unfold resClp; split <;> simp [up_len]; omega
theorem resCb_len {xs : List Int} (n : Int) (h : xs.length ≤ 1048576) : (resCb xs n).length ≤ 1048576 := by unfold resCb; split <;> simp [up_len]; omega
theorem resWg_len {xs : List Int} (ws : List Int) (h : xs.length ≤ 1048576) : (resWg xs ws).length ≤ 1048576 := by unfold resWg; split <;> simp [up_len]; omega
theorem resTp_len {xs : List Int} (h : xs.length ≤ 1048576) : (resTp xs).length ≤ 1048576 := by
  unfold resTp
  have := tps_len xs xs.length
  split
  · omega
  · simp
theorem resEv_len {xs : List Int} (n : Int) (h : xs.length ≤ 1048576) : (resEv xs n).length ≤ 1048576 := by
  unfold resEv
  split
  · rename_i g
    have := inR_yes (okA_yes g).2
    have := evN_le (len := xs.length) (n := n.toNat) (by omega)
    rw [up_len]; omega
  · simp
end Go.Proofs.Ytoogofceoinniab
