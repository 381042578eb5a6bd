/- Integer filters: what the specification asks; its small functions. -/
import Derived.Test.YtklilfbokpljkaaFiM
import Derived.Lib.MinMax
namespace Go.Proofs.Ytklilfbokpljkaa
open Go.ChangeShapes Go.WideShapes Go.ChangeAt Go.RowKit Go.ChangeMaps
set_option linter.unusedSimpArgs false
set_option linter.unusedVariables false

theorem leastF (x y z : Int) (w : World) (h : min x y = z) :
    Calls Try.prog 124 #[.int .i64 x, .int .i64 y] w fun e w' => e = .returned (.int .i64 z) ∧ w' = w := by
  subst h
  by_cases h : x < y
  · have HG := Lib.hid (show x = min x y by omega)
    go_enter Try.func124, Try.ntmps124
    go_wp2
    go_ret
    exact ⟨ret_int HG.out, rfl⟩
  · have HG := Lib.hid (show y = min x y by omega)
    go_enter Try.func124, Try.ntmps124
    go_wp2
    go_ret
    exact ⟨ret_int HG.out, rfl⟩
theorem mostF (x y z : Int) (w : World) (h : max x y = z) :
    Calls Try.prog 123 #[.int .i64 x, .int .i64 y] w fun e w' => e = .returned (.int .i64 z) ∧ w' = w := mostB x y z w (by subst h; split <;> omega)

theorem specAsk (xs : List Int) (v : Value) (n lo hi : Int) (w : World) (B : Nat) (h : Lst (Value.int .i64) w B v xs) :
    Calls Try.prog 121 #[v, .int .i64 n, .int .i64 lo, .int .i64 hi] w fun e w' => e = .returned (.bool (okA xs n lo hi)) ∧ w' = w := by
  cases hk : okL xs with
  | false =>
    have HG := Lib.hid (show okA xs n lo hi = false by unfold okA; rw [hk]; rfl)
    have C := Lib.hid (l2SamplesB xs v w B false h hk)
    obtain ⟨ao, cap, rfl⟩ := h.form
    clear hk h
    go_enter Try.func121, Try.ntmps121
    go_wp2_with fail
    refine C.out.mono ?_
    rintro e w1 ⟨rfl, rfl⟩
    go_wp2
    go_ret
    exact ⟨ret_bool HG.out.symm, rfl⟩
  | true =>
    have C := Lib.hid (l2SamplesB xs v w B true h hk)
    obtain ⟨ao, cap, rfl⟩ := h.form
    clear h
    by_cases hr : lo ≤ n ∧ n ≤ hi
    · have HG := Lib.hid (show okA xs n lo hi = true by unfold okA inR; rw [hk, decide_eq_true hr]; rfl)
      have D := Lib.hid (inYes n lo hi w hr)
      clear hk hr
      go_enter Try.func121, Try.ntmps121
      go_wp2_with fail
      refine C.out.mono ?_
      rintro e w1 ⟨rfl, rfl⟩
      go_wp2_with fail
      refine D.out.mono ?_
      rintro e w2 ⟨rfl, rfl⟩
      go_wp2
      go_ret
      exact ⟨ret_bool HG.out.symm, rfl⟩
    · have HG := Lib.hid (show okA xs n lo hi = false by unfold okA inR; rw [decide_eq_false hr, Bool.and_false])
      have D := Lib.hid (inNo n lo hi w hr)
      clear hk hr
      go_enter Try.func121, Try.ntmps121
      go_wp2_with fail
      refine C.out.mono ?_
      rintro e w1 ⟨rfl, rfl⟩
      go_wp2_with fail
      refine D.out.mono ?_
      rintro e w2 ⟨rfl, rfl⟩
      go_wp2
      go_ret
      exact ⟨ret_bool HG.out.symm, rfl⟩
theorem specAskB (xs : List Int) (v : Value) (n lo hi : Int) (w : World) (B : Nat) (r : Bool) (h : Lst (Value.int .i64) w B v xs) (hr : okA xs n lo hi = r) :
    Calls Try.prog 121 #[v, .int .i64 n, .int .i64 lo, .int .i64 hi] w fun e w' => e = .returned (.bool r) ∧ w' = w := hr ▸ specAsk xs v n lo hi w B h

theorem floor_up {a b : Int} (ha : a < 0) (hb : 1 ≤ b) : -((-a + b - 1).tdiv b) = a / b := by
  rw [Int.tdiv_eq_ediv_of_nonneg (by omega)]
  have e := Int.mul_ediv_add_emod a b
  have h0 := Int.emod_nonneg a (show b ≠ 0 by omega)
  have h1 := Int.emod_lt_of_pos a (show 0 < b by omega)
  have : (-a + b - 1) / b = -(a / b) := by
    rw [show -a + b - 1 = (b - 1 - a % b) + b * (-(a / b)) by rw [Int.mul_neg]; omega, Int.add_mul_ediv_left _ _ (by omega), Int.ediv_eq_zero_of_lt (by omega) (by omega)]
    omega
  rw [this]; omega
theorem specFloor (a b q : Int) (w : World) (h0 : -1000000000 ≤ a) (h1 : a ≤ 1000000000) (hb : 1 ≤ b) (hb1 : b ≤ 1000000000) (hq : a / b = q) :
    Calls Try.prog 140 #[.int .i64 a, .int .i64 b] w fun e w' => e = .returned (.int .i64 q) ∧ w' = w := by
  have hd0 : ¬ b = 0 := by omega
  have hd1 : (b == 0) = false := by simp; omega
  by_cases h : 0 ≤ a
  · have hq2 := Lib.hid (show a.tdiv b = q by rw [Int.tdiv_eq_ediv_of_nonneg h]; exact hq)
    have hbd := Int.natAbs_tdiv_le_natAbs a b
    have s1 : IntKind.i64.wrap (a.tdiv b) = a.tdiv b := IntWalk.i64_in _ (by omega)
    clear hbd
    go_enter Try.func140, Try.ntmps140
    go_wp2
    go_ret
    exact ⟨ret_int hq2.out, rfl⟩
  · have hq2 := Lib.hid (show -((-a + b - 1).tdiv b) = q by rw [floor_up (by omega) hb]; exact hq)
    have hbd := Int.natAbs_tdiv_le_natAbs (-a + b - 1) b
    obtain ⟨p, hp⟩ : ∃ p, (-a + b - 1).tdiv b = p := ⟨_, rfl⟩
    rw [hp] at hbd hq2
    have s1 : IntKind.i64.wrap p = p := IntWalk.i64_in _ (by omega)
    have s2 : IntKind.i64.wrap (-p) = -p := IntWalk.i64_in _ (by omega)
    clear hbd hq
    go_enter Try.func140, Try.ntmps140
    go_wp2
    go_ret
    exact ⟨ret_int hq2.out, rfl⟩

theorem okWs_get {ws : List Int} (h : decide (∀ w ∈ ws, -100 ≤ w ∧ w ≤ 100) = true) {k : Nat} {x : Int} (hx : ws[k]? = some x) : -100 ≤ x ∧ x ≤ 100 := of_decide_eq_true h x (List.mem_of_getElem? hx)
def okWx (ws : List Int) : Bool := decide (∀ w ∈ ws, -100 ≤ w ∧ w ≤ 100)
theorem okWx_bad {l : List Int} {k : Nat} {x : Int} (hx : l[k]? = some x) (h : ¬ (-100 ≤ x ∧ x ≤ 100)) : okWx l = false := decide_eq_false fun g => h (g x (List.mem_of_getElem? hx))
theorem okWx_snoc {l : List Int} {k : Nat} {x : Int} (hx : l[k]? = some x) (h : -100 ≤ x ∧ x ≤ 100) (g : okWx (l.take k) = true) : okWx (l.take (k + 1)) = true := by
  unfold okWx at *
  rw [take_snoc hx]
  have g' := of_decide_eq_true g
  refine decide_eq_true fun y hy => ?_
  rcases List.mem_append.1 hy with hy | hy
  · exact g' y hy
  · rw [List.mem_singleton.1 hy]; exact h
theorem specWs (ws : List Int) (v : Value) (w : World) (B : Nat) (h : Lst (Value.int .i64) w B v ws) :
    Calls Try.prog 128 #[v] w fun e w' => e = .returned (.bool (okWs ws)) ∧ w' = w := by
  obtain ⟨ao, cap, rfl, hcap, hmax, -, hc⟩ := h
  unfold maxLen at hmax
  go_enter Try.func128, Try.ntmps128
  go_wp2
  go_loop [3] (fun i => ∃ k : Nat, k ≤ ws.length ∧ i = .int .i64 k ∧ okWx (ws.take k) = true) (fun i => ws.length - (intOf i).toNat)
  case atStart => exact ⟨0, Nat.zero_le _, rfl, by simp [okWx]⟩
  case round =>
    obtain ⟨k, hk, rfl, hok⟩ := hrel
    have HO := Lib.hid hok
    clear hok
    by_cases hlt : k < ws.length
    · obtain ⟨x, hx⟩ := get_of_lt hlt
      obtain ⟨b, off, rfl, hb, hcell⟩ := hc k x hx
      have HX := Lib.hid hx
      clear hx hc
      by_cases hin : -100 ≤ x ∧ x ≤ 100
      · go_wp2_with fail
        refine (inYes x _ _ _ hin).mono ?_
        rintro e w' ⟨rfl, rfl⟩
        go_wp2
        go_round
        case rel => exact ⟨k + 1, by omega, by go_num, okWx_snoc HX.out hin HO.out⟩
        case measure => simp [intOf]; omega
      · have HG := Lib.hid (show okWs ws = false by unfold okWs; rw [show decide (∀ w ∈ ws, -100 ≤ w ∧ w ≤ 100) = false from okWx_bad HX.out hin, Bool.and_false])
        go_wp2_with fail
        refine (inNo x _ _ _ hin).mono ?_
        rintro e w' ⟨rfl, rfl⟩
        go_wp2
        go_ret
        exact ⟨ret_bool HG.out.symm, rfl⟩
    · rw [take_all hlt] at HO
      clear hc
      by_cases hl : 1 ≤ (ws.length : Int) ∧ (ws.length : Int) ≤ 5
      · have HG := Lib.hid (show okWs ws = true by unfold okWs; rw [decide_eq_true hl, show decide (∀ w ∈ ws, -100 ≤ w ∧ w ≤ 100) = true from HO.out]; rfl)
        go_wp2_with fail
        refine (inYes _ _ _ _ hl).mono ?_
        rintro e w' ⟨rfl, rfl⟩
        go_wp2
        go_ret
        exact ⟨ret_bool HG.out.symm, rfl⟩
      · have HG := Lib.hid (show okWs ws = false by unfold okWs; rw [decide_eq_false hl]; rfl)
        go_wp2_with fail
        refine (inNo _ _ _ _ hl).mono ?_
        rintro e w' ⟨rfl, rfl⟩
        go_wp2
        go_ret
        exact ⟨ret_bool HG.out.symm, rfl⟩
theorem specWsB (ws : List Int) (v : Value) (w : World) (B : Nat) (r : Bool) (h : Lst (Value.int .i64) w B v ws) (hr : okWs ws = r) :
    Calls Try.prog 128 #[v] w fun e w' => e = .returned (.bool r) ∧ w' = w := hr ▸ specWs ws v w B h

theorem get_getD {l : List Int} {k : Nat} {x : Int} (h : l[k]? = some x) : l.getD k 0 = x := by simp [List.getD, h]

set_option maxRecDepth 100000 in
set_option maxHeartbeats 1000000 in
theorem specClp (xs : List Int) (v : Value) (l : Int) (w : World) (B : Nat) (h : Lst (Value.int .i64) w B v xs) (hB : B ≤ w.heap.size) (hn : xs.length ≤ 1048576) (_ : I64 l) :
    Calls Try.prog 73 #[v, .int .i64 l] w fun e w' => ∃ v', e = .returned (.tuple #[v', .bool (okA xs l 0 100000)]) ∧ Own (Value.int .i64) w' w.heap.size w'.heap.size v' (resClp xs l) ∧ Below w.heap.size w w' := by
  have hrow0 := row_empty w (base := w.heap.size) 3 1 (Nat.le_refl _)
  have hb0 : Below w.heap.size w (w.alloc (.cells #[] 3)) := (Below.refl _ _).alloc (Nat.le_refl _) _
  have h1 := h.below (hb0.mono hB)
  cases hk : okA xs l 0 100000 with
  | false =>
    have e2 : resClp xs l = [] := by unfold resClp; rw [hk]; rfl
    have C := Lib.hid (specAskB xs v l 0 100000 _ B false h1 hk)
    rw [e2]
    obtain ⟨ao, cap, rfl⟩ := h.form
    clear e2 hk
    go_enter Try.func73, Try.ntmps73
    go_wp2_with fail
    refine C.out.mono ?_
    rintro e w1 ⟨rfl, rfl⟩
    go_wp2
    go_ret2
    exact ⟨_, rfl, own_empty _ _ (Nat.le_refl _), hb0⟩
  | true =>
    obtain ⟨f, hf⟩ : ∃ f : Nat → Int, f = fun i => clp l (xs.getD i 0) := ⟨_, rfl⟩
    have e2 : resClp xs l = up f xs.length := by unfold resClp; rw [hk, hf]; rfl
    have C := Lib.hid (specAskB xs v l 0 100000 _ B true h1 hk)
    obtain ⟨gl, gr⟩ := okA_yes hk
    obtain ⟨n1, n2⟩ := inR_yes gr
    obtain ⟨gx, gn⟩ := okL_yes gl
    rw [e2]
    obtain ⟨ti, hi, hz0, hz1, hz2⟩ := info_parts infoInt
    obtain ⟨ao, cap, rfl, hcap, hmax, hnn, hc⟩ := h
    unfold maxLen at hmax
    have HF := Lib.hid hf
    have HX := Lib.hid gx
    have HC := Lib.hid hc
    clear e2 hk gl gr gx hc hnn h1 hf
    go_enter Try.func73, Try.ntmps73
    go_wp2_with fail
    refine C.out.mono ?_
    rintro e w1 ⟨rfl, rfl⟩
    go_wp2
    go_loopw [6, 7] (fun o i wr => ∃ (k : Nat), k ≤ xs.length ∧ i = .int .i64 k ∧ wr.ownsRow w.heap.size 3 1 o k ((up f k).map (Value.int .i64)) ∧ Below w.heap.size w wr) (fun _ i _ => xs.length - (intOf i).toNat)
    case atStart => exact ⟨0, Nat.zero_le _, rfl, by simpa [up] using hrow0, hb0⟩
    case round =>
      obtain ⟨k, hk, rfl, hrow, hbl⟩ := hrel
      obtain ⟨aoo, capo, rfl⟩ := row_form hrow
      have hsz := hbl.size
      by_cases hlt : k < xs.length
      case neg =>
        obtain rfl : k = xs.length := by omega
        go_wp2
        go_ret2
        exact ⟨_, rfl, Own.of_row hrow, hbl⟩
      obtain ⟨x, hx⟩ := get_of_lt hlt
      obtain ⟨bx1, bx2⟩ := HX.out x (List.mem_of_getElem? hx)
      obtain ⟨b, off, rfl, hb, hcx⟩ := HC.out k x hx
      have hcx' := cellOf hbl (by omega) hcx
      have HE := Lib.hid (show max (-l) (min l x) = f k by rw [HF.out]; simp only [clp, get_getD hx]; rw [Int.min_comm])
      clear hx hcx
      go_wp2_with fail
      refine (leastF l x _ _ rfl).mono ?_
      rintro e w2 ⟨rfl, rfl⟩
      go_wp2_with fail
      refine (mostF _ _ _ _ HE.out).mono ?_
      rintro e w2 ⟨rfl, rfl⟩
      go_wp2_with (at_builtin; refine wpList_append_own _ rfl _ _ 43 rfl (w.heap.size) 3 ti (.int .i64 0) 1 8 Try.underlying43 hi hz0 hz1 hz2 rfl (by decide) _ k ((up f k).map (Value.int .i64)) rfl (hrow.alloc _) ⟨w2.heap.size, 0, none⟩ 1 1 [.int .i64 (f k)] rfl rfl (cell_one_new _ _ _) (by simp [Value.oneCell']) (by unfold maxLen; omega) (by omega) (by first | omega | (simp; done) | (simp; omega)) ?_; intro v3 w3 hown' hgrow _; have b3 := below_app2 hrow hgrow hsz (Nat.le_refl _))
      rw [up_cut] at hown'
      obtain ⟨a3, c3, rfl⟩ := row_form hown'
      clear hgrow hrow
      go_wp2
      go_roundw
      case rel => exact ⟨k + 1, by omega, by go_num, hown', hbl.trans b3⟩
      case measure => simp [intOf]; omega
end Go.Proofs.Ytklilfbokpljkaa
