/- Integer filters: the program's combed list. -/
import Derived.Test.YtklilfbokpljkaaFjA
import Derived.BigQuiet
import Derived.IntWalk
import Derived.Lib.MinMax
import Derived.Test.YtklilfbokpljkaaCln
import Derived.StillTailTactics
namespace Go.Proofs.Ytklilfbokpljkaa
open Go.ChangeShapes Go.WideShapes Go.ChangeAt Go.RowKit Go.ChangeMaps
set_option linter.unusedSimpArgs false
set_option linter.unusedVariables false

/-- A list that is overwritten from the left: f up to i, g from there on. -/
def mix (f g : Nat → Int) (n i : Nat) : List Int := (List.range n).map fun j => if j < i then f j else g j
theorem mix_len (f g : Nat → Int) (n i : Nat) : (mix f g n i).length = n := by simp [mix]
theorem mix_get {f g : Nat → Int} {n i j : Nat} (h : j < n) : (mix f g n i)[j]? = some (if j < i then f j else g j) := by simp [mix, h]
theorem mix_end {f g : Nat → Int} {n i : Nat} (h : n ≤ i) : mix f g n i = up f n := by
  unfold mix up
  refine List.map_congr_left fun j hj => ?_
  rw [if_pos (by have := List.mem_range.1 hj; omega)]
theorem mix_start {f g : Nat → Int} {n i : Nat} (h : ∀ j, j < i → j < n → f j = g j) : mix f g n i = up g n := by
  unfold mix up
  refine List.map_congr_left fun j hj => ?_
  split
  · rename_i q; exact h j q (List.mem_range.1 hj)
  · rfl
theorem mix_set {f g : Nat → Int} {n i : Nat} (h : i < n) : (mix f g n i).set i (f i) = mix f g n (i + 1) := by
  apply List.ext_getElem?
  intro j
  rcases Nat.lt_or_ge j n with q | q
  · rw [mix_get q, List.getElem?_set]
    by_cases e : i = j
    · subst e
      rw [if_pos rfl, if_pos (by rw [mix_len]; exact h), if_pos (by omega)]
    · rw [if_neg e, mix_get q]
      by_cases e2 : j < i
      · rw [if_pos e2, if_pos (by omega)]
      · rw [if_neg e2, if_neg (by omega)]
  · rw [List.getElem?_eq_none (by rw [List.length_set, mix_len]; exact q), List.getElem?_eq_none (by rw [mix_len]; exact q)]
theorem up_getD (xs : List Int) : up (fun j => xs.getD j 0) xs.length = xs := by
  apply List.ext_getElem
  · simp [up]
  · intro i h1 h2
    simp [up, h2]

set_option maxRecDepth 100000 in
set_option maxHeartbeats 2000000 in
theorem implCb (xs : List Int) (v : Value) (n : Int) (w : World) (B : Nat) (h : Lst (Value.int .i64) w B v xs) (hB : B ≤ w.heap.size) (hn : xs.length ≤ 1048576) (_ : I64 n) :
    Calls Try.prog 60 #[v, .int .i64 n] w fun e w' => ∃ v', e = .returned (.tuple #[v', .bool (okA xs n 1 10)]) ∧ Own (Value.int .i64) w' w.heap.size w'.heap.size v' (resCb xs n) ∧ Below w.heap.size w w' := by
  have hb1 : Below w.heap.size w (w.alloc (.cells #[.int .i64 n] 3)) := (Below.refl _ _).alloc (Nat.le_refl _) _
  have hz1w : w.heap.size ≤ (w.alloc (.cells #[.int .i64 n] 3)).heap.size := by simp
  cases hk : okL xs with
  | false =>
    have e1 : okA xs n 1 10 = false := by unfold okA; rw [hk]; rfl
    have e2 : resCb xs n = [] := by unfold resCb; rw [e1]; rfl
    have C := Lib.hid (implAreSB xs v w B false h hk)
    rw [e1, e2]
    obtain ⟨ao, cap, rfl⟩ := h.form
    clear e1 e2 hk
    go_enter Try.func60, Try.ntmps60
    go_wp2_with fail
    refine C.out.mono ?_
    rintro e w1 ⟨rfl, hw1⟩
    obtain rfl : w = w1 := hw1.symm
    go_wp2
    go_ret2
    exact ⟨_, rfl, own_empty _ _ (Nat.le_refl _), (Below.refl _ _).alloc (Nat.le_refl _) _⟩
  | true =>
  cases hr : inR n 1 10 with
  | false =>
    have e1 : okA xs n 1 10 = false := by unfold okA; rw [hr, Bool.and_false]
    have e2 : resCb xs n = [] := by unfold resCb; rw [e1]; rfl
    have C := Lib.hid (implAreSB xs v w B true h hk)
    have C2 := Lib.hid (implIn 1 10 n w 3 false hr)
    rw [e1, e2]
    obtain ⟨ao, cap, rfl⟩ := h.form
    clear e1 e2 hk hr
    go_enter Try.func60, Try.ntmps60
    go_wp2_with fail
    refine C.out.mono ?_
    rintro e w1 ⟨rfl, hw1⟩
    obtain rfl : w = w1 := hw1.symm
    go_wp2_with fail
    refine C2.out.mono ?_
    rintro e w2 ⟨rfl, rfl⟩
    go_wp2
    go_ret2
    exact ⟨_, rfl, own_empty1 _ _ _ (by omega), hb1.alloc hz1w _⟩
  | true =>
    obtain ⟨f, hf⟩ : ∃ f : Nat → Int, f = fCb xs n.toNat := ⟨_, rfl⟩
    have e1 : okA xs n 1 10 = true := by unfold okA; rw [hk, hr]; rfl
    have e2 : resCb xs n = up f (xs.length) := by unfold resCb; rw [e1, hf]; rfl
    have C := Lib.hid (implAreSB xs v w B true h hk)
    have C2 := Lib.hid (implIn 1 10 n w 3 true hr)
    obtain ⟨n1, n2⟩ := inR_yes hr
    obtain ⟨gx, gn⟩ := okL_yes hk
    rw [e1, e2]
    obtain ⟨ti, hi, hz0, hz1, hz2⟩ := info_parts infoInt
    have HL := Lib.hid h
    obtain ⟨ao, cap, rfl, hcap, hmax, hnn, hc⟩ := h
    unfold maxLen at hmax
    have HF := Lib.hid hf
    have HX := Lib.hid gx
    have HC := Lib.hid hc
    have HNN := Lib.hid hnn
    clear e1 e2 hk hr gx hc hnn hf
    obtain ⟨m, hm⟩ : ∃ m : Nat, (m : Int) = n := ⟨n.toNat, by omega⟩
    have hm0 : n.toNat = m := by omega
    rw [hm0] at HF
    have HM := Lib.hid hm
    have hm1 : 1 ≤ m := by omega
    have hm2 : m ≤ 10 := by omega
    have hnm : xs.length ≤ maxLen := by unfold maxLen; omega
    have HST := Lib.hid (show mix f (fun _ => 0) xs.length m = up (fun _ => 0) xs.length from mix_start (fun j h1 _ => by rw [HF.out]; unfold fCb; rw [if_neg (by omega)]))
    clear hm0 hm
    go_enter Try.func60, Try.ntmps60
    go_wp2_with fail
    refine C.out.mono ?_
    rintro e w1 ⟨rfl, hw1⟩
    obtain rfl : w = w1 := hw1.symm
    go_wp2_with fail
    refine C2.out.mono ?_
    rintro e w2 ⟨rfl, rfl⟩
    generalize w.alloc (.cells #[.int .i64 n] 3) = W1 at *
    go_wp2_with (at_make; refine wpList_make_full _ rfl _ _ 43 rfl w.heap.size 3 ti (.int .i64 0) 1 Try.underlying43 hi hz0 hz1 .i64 .i64 _ _ xs.length rfl rfl rfl rfl (by rw [hz2]; omega) hnm hz1w ?_; intro w3 hown hgrow; have hb3 : Below w.heap.size w w3 := hb1.grown hgrow hz1w (by simp); have hown2 := Lib.hid hown; clear hown hgrow)
    have HR0 := Lib.hid (show w3.ownsRow w.heap.size 3 1 (.slice (some ⟨W1.heap.size, 0, none⟩) xs.length xs.length) xs.length ((mix f (fun _ => 0) xs.length m).map (Value.int .i64)) by
      have h := hown2.out
      rw [HST.out]
      have e3 : (madeCells (Value.int .i64 0).cells (xs.length * 1)).toList = List.replicate xs.length (Value.int .i64 0) := by
        rw [List.eq_replicate_iff]
        refine ⟨by simp [madeCells, Value.cells], fun u hu => ?_⟩
        simp [madeCells, Value.cells] at hu
        obtain ⟨a, _, rfl⟩ := hu
        simp [Nat.mod_one]
      rw [e3] at h
      rwa [show (up (fun _ => 0) xs.length).map (Value.int .i64) = List.replicate xs.length (.int .i64 0) by unfold up; rw [List.map_map]; simp [Function.comp_def, List.map_const']])
    clear hown2
    go_loopw [7] (fun i wr => ∃ (k : Nat), i = .int .i64 k ∧ m ≤ k ∧ k ≤ max m xs.length ∧ wr.ownsRow w.heap.size 3 1 (.slice (some ⟨W1.heap.size, 0, none⟩) xs.length xs.length) xs.length ((mix f (fun _ => 0) xs.length k).map (Value.int .i64)) ∧ Below w.heap.size w wr) (fun i _ => xs.length + 20 - (intOf i).toNat)
    case atStart => exact ⟨m, by rw [HM.out], Nat.le_refl _, by omega, HR0.out, hb3⟩
    case round =>
      obtain ⟨k, rfl, hmk, hk, hrow, hbl⟩ := hrel
      have hsz := hbl.size
      by_cases hlt : k < xs.length
      case neg =>
        rw [mix_end (by omega)] at hrow
        go_wp2
        go_ret2
        exact ⟨_, rfl, Own.of_row hrow, hbl⟩
      obtain ⟨x, hx⟩ := get_of_lt hlt
      obtain ⟨bx1, bx2⟩ := HX.out x (List.mem_of_getElem? hx)
      obtain ⟨b, off, rfl, hb, hcx⟩ := HC.out k x hx
      have hcx' := cellOf hbl (by omega) hcx
      obtain ⟨y, hy⟩ := get_of_lt (show k - m < xs.length by omega)
      obtain ⟨by1, by2⟩ := HX.out y (List.mem_of_getElem? hy)
      obtain ⟨b2, off2, e2, hb2, hcy⟩ := HC.out _ y hy
      simp only [Option.some.injEq, Addr.mk.injEq, and_true] at e2
      obtain ⟨rfl, rfl⟩ := e2
      have hcy' := cellOf hbl (by omega) hcy
      have HE := Lib.hid (show x - y = f k by rw [HF.out]; unfold fCb; rw [if_pos hmk, get_getD hx, get_getD hy])
      have HA := Lib.hid (mix_set (f := f) (g := fun _ => 0) hlt)
      rw [← HE.out] at HA
      have s1 : IntKind.i64.wrap (x - y) = x - y := IntWalk.i64_in _ (by omega)
      have s2 : IntKind.i64.wrap ((k : Int) - n) = ((k - m : Nat) : Int) := by rw [← HM.out, IntWalk.i64_in _ (by omega)]; omega
      have i0 : (0 : Int) ≤ (k : Int) := by omega
      have i1 : (k : Int) < (xs.length : Int) := by omega
      have j0 : (0 : Int) ≤ ((k - m : Nat) : Int) := by omega
      have j1 : ((k - m : Nat) : Int) < (xs.length : Int) := by omega
      have hc0 : wr.cell? ⟨W1.heap.size, k, none⟩ = some (.int .i64 (if k < k then f k else 0)) := (hrow.cellAt k (by omega)).trans (by rw [List.getElem?_map, mix_get hlt]; rfl)
      have hf0 := hrow.frozenAt k
      have hbs : w.heap.size ≤ W1.heap.size := hz1w
      generalize k - m = j at *
      have HRW := Lib.hid hrow
      have hcx1 : (wr.drew).cell? ⟨b, off + k, none⟩ = some (.int .i64 x) := hcx'
      have hcy1 : (wr.drew).cell? ⟨b, off + j, none⟩ = some (.int .i64 y) := hcy'
      clear hx hcx hy hcy hrow
      go_wp2
      have hcx2 : ({ wr with drawn := wr.drawn + 1 } : World).cell? ⟨b, off + k, none⟩ = some (.int .i64 x) := hcx'
      have hcy2 : ({ wr with drawn := wr.drawn + 1 } : World).cell? ⟨b, off + j, none⟩ = some (.int .i64 y) := hcy'
      go_still_tail 14, (by kernel_rfl)
      change wpList _ _ _ _ _ (wr.drewN 1)
      have hc5 : (wr.drewN 1).cell? ⟨W1.heap.size, k, none⟩ = some (.int .i64 (if k < k then f k else 0)) := hc0
      have hf5 : (wr.drewN 1).frozen? ⟨W1.heap.size, k, none⟩ = false := hf0
      have hrow5 := ((row_drewN HRW.out 1).stored k (.int .i64 (x - y))).1
      rw [← List.map_set, HA.out] at hrow5
      have HRW5 := Lib.hid hrow5
      have hb5 := (drewN_b hbl 1).setCell (p := ⟨W1.heap.size, k, none⟩) hbs (.int .i64 (x - y))
      clear hc0 hf0 hrow5 s1 s2 hcx2 hcy2 hcx1 hcy1
      generalize wr.drewN 1 = w5 at *
      go_wp2
      go_roundw
      case rel => exact ⟨k + 1, by go_num, by omega, by omega, HRW5.out, hb5⟩
      case measure => simp [intOf]; omega
end Go.Proofs.Ytklilfbokpljkaa
