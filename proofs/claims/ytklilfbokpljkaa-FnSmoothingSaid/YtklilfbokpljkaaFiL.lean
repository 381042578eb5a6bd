/- Integer filters: what the laws ask beyond equality. -/
import Derived.Test.YtklilfbokpljkaaFkB
import Derived.Test.YtklilfbokpljkaaFiA
import Derived.Test.YtklilfbokpljkaaVi
namespace Go.Proofs.Ytklilfbokpljkaa
open Go.ChangeShapes Go.WideShapes Go.ChangeAt Go.RowKit Go.ChangeMaps
set_option linter.unusedSimpArgs false
set_option linter.unusedVariables false

theorem asum_take {ws : List Int} {m : Nat} : asum (ws.take (m + 1)) = asum (ws.take m) + ab (ws.getD m 0) := by
  rcases Nat.lt_or_ge m ws.length with h | h
  · obtain ⟨x, hx⟩ := get_of_lt h
    rw [take_snoc hx, asum_snoc, get_getD hx]
  · rw [List.take_of_length_le h, List.take_of_length_le (by omega)]
    have : ws.getD m 0 = 0 := by simp [List.getD, List.getElem?_eq_none h]
    rw [this]
    simp [ab]
theorem asum_nonneg (l : List Int) : 0 ≤ asum l := by
  induction l with
  | nil => simp [asum]
  | cons y t ih => have := ab_nonneg y; simp only [asum]; omega
theorem asum_take_le (ws : List Int) (m : Nat) : asum (ws.take m) ≤ asum ws := by
  induction ws generalizing m with
  | nil => simp [asum]
  | cons y t ih =>
    cases m with
    | zero => simp only [List.take_zero]; exact asum_nonneg _
    | succ m => have := ih m; simp only [List.take_succ_cons, asum]; omega
theorem wsum_asum {ws xs : List Int} {X : Int} (hX : 0 ≤ X) (hx : ∀ x ∈ xs, -X ≤ x ∧ x ≤ X) (i : Nat) : ∀ m : Nat, -(asum (ws.take m) * X) ≤ wsum ws xs i m ∧ wsum ws xs i m ≤ asum (ws.take m) * X := by
  intro m
  induction m with
  | zero => simp [wsum, asum]
  | succ m ih =>
    have hab : -(ab (ws.getD m 0)) ≤ ws.getD m 0 ∧ ws.getD m 0 ≤ ab (ws.getD m 0) := by unfold ab; split <;> omega
    have := mul_bd (ab_nonneg (ws.getD m 0)) hX hab (getD_bd hX hx (i - m))
    rw [asum_take, Int.add_mul]
    simp only [wsum]
    omega
theorem fWg_bd {ws xs : List Int} (hx : ∀ x ∈ xs, -100000 ≤ x ∧ x ≤ 100000) (i : Nat) : ab (fWg xs ws i) ≤ 100000 * asum ws := by
  have h := wsum_asum (ws := ws) (by omega) hx i (min (i + 1) ws.length)
  have h2 := asum_take_le ws (min (i + 1) ws.length)
  have h3 := asum_nonneg (ws.take (min (i + 1) ws.length))
  unfold fWg
  have h4 : asum (ws.take (min (i + 1) ws.length)) * 100000 ≤ asum ws * 100000 := Int.mul_le_mul_of_nonneg_right h2 (by omega)
  unfold ab
  split <;> omega
theorem foldl_add (l : List Int) (a : Int) : l.foldl (· + ·) a = a + l.foldl (· + ·) 0 := by
  induction l generalizing a with
  | nil => simp
  | cons y t ih => simp only [List.foldl_cons]; rw [ih, ih (0 + y)]; omega
theorem lsum_cons (x : Int) (l : List Int) : lsum (x :: l) = x + lsum l := by
  unfold lsum
  rw [List.foldl_cons, foldl_add]; omega
theorem ones_get {n m : Nat} (h : m < n) : (List.replicate n (1 : Int)).getD m 0 = 1 := by simp [List.getD, h]
theorem wsum_ones {xs : List Int} {n i : Nat} (hi : i < xs.length) : ∀ m, m ≤ n → m ≤ i + 1 → wsum (List.replicate n 1) xs i m = lsum ((xs.take (i + 1)).drop (i + 1 - m)) := by
  intro m
  induction m with
  | zero => intro _ _; rw [List.drop_of_length_le (by rw [List.length_take]; omega)]; rfl
  | succ m ih =>
    intro h1 h2
    simp only [wsum]
    rw [ih (by omega) (by omega), ones_get (by omega)]
    have hl : i + 1 - (m + 1) < (xs.take (i + 1)).length := by rw [List.length_take]; omega
    rw [List.drop_eq_getElem_cons hl, lsum_cons, show i + 1 - (m + 1) + 1 = i + 1 - m by omega]
    have e : xs.getD (i - m) 0 = (xs.take (i + 1))[i + 1 - (m + 1)] := by
      rw [List.getElem_take]
      simp [List.getD, List.getElem?_eq_getElem (show i - m < xs.length by omega), show i + 1 - (m + 1) = i - m by omega]
    rw [e]; omega
theorem ones_sum {xs : List Int} {n : Nat} (hn : 1 ≤ n) {i : Nat} (hi : i < xs.length) : fWg xs (List.replicate n 1) i = fMS xs n i := by
  unfold fWg fMS win
  rw [List.length_replicate, wsum_ones hi _ (by omega) (by omega)]
  congr 2
  omega
theorem up_congr {f g : Nat → Int} {k : Nat} (h : ∀ i, i < k → f i = g i) : up f k = up g k := by
  unfold up
  exact List.map_congr_left fun j hj => h j (List.mem_range.1 hj)
theorem ones_res {xs : List Int} {n : Int} (h : okA xs n 1 10 = true) (h5 : n ≤ 5) : okWg xs (List.replicate n.toNat 1) = true ∧ resWg xs (List.replicate n.toNat 1) = resMS xs n := by
  obtain ⟨h1, h2⟩ := okA_yes h
  have h3 := inR_yes h2
  have e : okWg xs (List.replicate n.toNat 1) = true := by
    unfold okWg okWs
    rw [h1, decide_eq_true (by simp; omega), decide_eq_true (by intro w hw; rw [List.eq_of_mem_replicate hw]; omega)]
    rfl
  refine ⟨e, ?_⟩
  unfold resWg resMS
  rw [if_pos e, if_pos h]
  exact up_congr fun i hi => ones_sum (by omega) hi
theorem wg_facts {xs ws : List Int} (h : okWg xs ws = true) : okWs ws = true ∧ numWb ws = 100000 * asum ws ∧ (∀ x ∈ resWg xs ws, ab x ≤ 100000 * asum ws ∧ (-100000000000 ≤ x ∧ x ≤ 100000000000)) := by
  have h2 := h
  unfold okWg at h2
  rw [Bool.and_eq_true] at h2
  refine ⟨h2.2, by unfold numWb; rw [if_pos h2.2], fun x hx => ?_⟩
  unfold resWg at hx
  rw [if_pos h] at hx
  obtain ⟨i, hi, rfl⟩ := up_mem hx
  have hb := fWg_bd (ws := ws) (okL_yes h2.1).1 i
  obtain ⟨⟨_, h5⟩, hw⟩ := okWs_yes h2.2
  have ha := asum_bd (l := ws) (M := 100) hw
  have hlen : (ws.length : Int) ≤ 5 := h5
  refine ⟨hb, ?_⟩
  have : asum ws ≤ 500 := by omega
  unfold ab at hb
  split at hb <;> omega
theorem num_facts (ws : List Int) : 0 ≤ numWb ws ∧ numWb ws ≤ 1000000000 := by
  unfold numWb
  split
  · rename_i h
    obtain ⟨⟨_, h5⟩, hw⟩ := okWs_yes h
    have ha := asum_bd (l := ws) (M := 100) hw
    have : (ws.length : Int) ≤ 5 := h5
    omega
  · omega
theorem vSz (x y : Int) (w : World) (h0 : -1000000000000000 ≤ x) (h1 : x ≤ 1000000000000000) (hy : ab x = y) :
    Calls Try.prog 55 #[.int .i64 x] w fun e w' => e = .returned (.int .i64 y) ∧ w' = w := by
  subst hy
  unfold ab
  by_cases h : x < 0
  · rw [if_pos h]
    go_enter Try.func55, Try.ntmps55
    go_wp2
    go_ret
    exact ⟨rfl, rfl⟩
  · rw [if_neg h]
    go_enter Try.func55, Try.ntmps55
    go_wp2
    go_ret
    exact ⟨rfl, rfl⟩
theorem vHasYes (l : List Int) (v : Value) (x : Int) (w : World) (B : Nat) (h : Lst (Value.int .i64) w B v l) (hx : x ∈ l) :
    Calls Try.prog 137 #[v, .int .i64 x] w fun e w' => e = .returned (.bool true) ∧ w' = w := by
  obtain ⟨ao, cap, rfl, hcap, hmax, -, hc⟩ := h
  unfold maxLen at hmax
  obtain ⟨j, hj⟩ := List.mem_iff_getElem?.1 hx
  have hjl := (List.getElem?_eq_some_iff.1 hj).1
  have HC := Lib.hid hc
  have HJ := Lib.hid hj
  clear hc hx hj
  go_enter Try.func137, Try.ntmps137
  go_wp2
  go_loop [5] (fun i => ∃ k : Nat, k ≤ j ∧ i = .int .i64 k) (fun i => l.length - (intOf i).toNat)
  case atStart => exact ⟨0, Nat.zero_le _, rfl⟩
  case round =>
    obtain ⟨k, hk, rfl⟩ := hrel
    have hlt : k < l.length := by omega
    obtain ⟨y, hy⟩ := get_of_lt hlt
    obtain ⟨b, off, rfl, hb, hcell⟩ := HC.out k y hy
    by_cases he : y = x
    · subst he
      clear hy
      go_wp2
      go_ret
      exact ⟨rfl, rfl⟩
    · have he2 : (y == x) = false := by simpa using he
      have hne : k ≠ j := by
        intro e
        subst e
        have := HJ.out
        rw [hy] at this
        exact he (Option.some.inj this)
      have hkj : k < j := by omega
      clear hy hne he
      go_wp2
      go_round
      case rel => exact ⟨k + 1, by omega, by go_num⟩
      case measure => simp [intOf]; omega
theorem vWithinYes (a l : List Int) (va v : Value) (w : World) (B : Nat) (ha : Lst (Value.int .i64) w B va a) (h : Lst (Value.int .i64) w B v l) (hx : ∀ x ∈ a, x ∈ l) :
    Calls Try.prog 67 #[va, v] w fun e w' => e = .returned (.bool true) ∧ w' = w := by
  have HL := Lib.hid (fun x hx' => vHasYes l v x w B h hx')
  obtain ⟨av, cav, rfl, -, -, -, -⟩ := h
  obtain ⟨ao, cap, rfl, hcap, hmax, -, hc⟩ := ha
  unfold maxLen at hmax
  have HC := Lib.hid hc
  have HX := Lib.hid hx
  clear hc hx
  go_enter Try.func67, Try.ntmps67
  go_wp2
  go_loop [5] (fun i => ∃ k : Nat, k ≤ a.length ∧ i = .int .i64 k) (fun i => a.length - (intOf i).toNat)
  case atStart => exact ⟨0, Nat.zero_le _, rfl⟩
  case round =>
    obtain ⟨k, hk, rfl⟩ := hrel
    by_cases hlt : k < a.length
    · obtain ⟨y, hy⟩ := get_of_lt hlt
      obtain ⟨b, off, rfl, hb, hcell⟩ := HC.out k y hy
      have C := Lib.hid (HL.out y (HX.out y (List.mem_of_getElem? hy)))
      clear hy
      go_wp2_with fail
      refine C.out.mono ?_
      rintro e w1 ⟨rfl, rfl⟩
      go_wp2
      go_round
      case rel => exact ⟨k + 1, by omega, by go_num⟩
      case measure => simp [intOf]; omega
    · go_wp2
      go_ret
      exact ⟨rfl, rfl⟩
end Go.Proofs.Ytklilfbokpljkaa
