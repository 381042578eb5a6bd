/- Integer filters: the program's smoothed list. -/
import Derived.Test.YtklilfbokpljkaaFjA
import Derived.BigQuiet
import Derived.IntWalk
import Derived.Lib.MinMax
import Derived.Test.YtklilfbokpljkaaCln
import Derived.StillTailTactics
import Derived.Test.YtklilfbokpljkaaFjE
import Derived.Test.YtklilfbokpljkaaFjF
namespace Go.Proofs.Ytklilfbokpljkaa
open Go.ChangeShapes Go.WideShapes Go.ChangeAt Go.RowKit Go.ChangeMaps
set_option linter.unusedSimpArgs false
set_option linter.unusedVariables false

theorem row_someF {w : World} {base size n : Nat} {e : TypeId} {v : Value} {xs : List Value} (h : w.ownsRow base e size v n xs) (hn : 0 < n) : ∃ g cap, v = .slice (some ⟨g, 0, none⟩) n cap ∧ n ≤ cap ∧ cap ≤ maxLen ∧ base ≤ g ∧ g < w.heap.size := by
  rcases h.2 with ⟨rfl, rfl⟩ | ⟨g, cap, cur, rfl, h1, h2, h3, h4, _⟩
  · omega
  · exact ⟨g, cap, rfl, h3, h4, h1, (Array.getElem?_eq_some_iff.1 h2).1⟩

set_option maxRecDepth 100000 in
set_option maxHeartbeats 2000000 in
theorem implSmo (xs : List Int) (v : Value) (n : Int) (w : World) (B : Nat) (h : Lst (Value.int .i64) w B v xs) (hB : B ≤ w.heap.size) (hn : xs.length ≤ 1048576) (_ : I64 n) :
    Calls Try.prog 69 #[v, .int .i64 n] w fun e w' => ∃ v', e = .returned (.tuple #[v', .bool (okA xs n 1 100)]) ∧ Own (Value.int .i64) w' w.heap.size w'.heap.size v' (resSmo xs n) ∧ Below w.heap.size w w' := by
  have hb1 : Below w.heap.size w (w.alloc (.cells #[.int .i64 n] 3)) := (Below.refl _ _).alloc (Nat.le_refl _) _
  have hz1w : w.heap.size ≤ (w.alloc (.cells #[.int .i64 n] 3)).heap.size := by simp
  cases hk : okL xs with
  | false =>
    have e1 : okA xs n 1 100 = false := by unfold okA; rw [hk]; rfl
    have e2 : resSmo xs n = [] := by unfold resSmo; rw [e1]; rfl
    have C := Lib.hid (implAreSB xs v w B false h hk)
    rw [e1, e2]
    obtain ⟨ao, cap, rfl⟩ := h.form
    clear e1 e2 hk
    go_enter Try.func69, Try.ntmps69
    go_wp2_with fail
    refine C.out.mono ?_
    rintro e w1 ⟨rfl, hw1⟩
    obtain rfl : w = w1 := hw1.symm
    go_wp2
    go_ret2
    exact ⟨_, rfl, own_empty _ _ (Nat.le_refl _), (Below.refl _ _).alloc (Nat.le_refl _) _⟩
  | true =>
  cases hr : inR n 1 100 with
  | false =>
    have e1 : okA xs n 1 100 = false := by unfold okA; rw [hr, Bool.and_false]
    have e2 : resSmo xs n = [] := by unfold resSmo; rw [e1]; rfl
    have C := Lib.hid (implAreSB xs v w B true h hk)
    have C2 := Lib.hid (implIn 1 100 n w 3 false hr)
    rw [e1, e2]
    obtain ⟨ao, cap, rfl⟩ := h.form
    clear e1 e2 hk hr
    go_enter Try.func69, Try.ntmps69
    go_wp2_with fail
    refine C.out.mono ?_
    rintro e w1 ⟨rfl, hw1⟩
    obtain rfl : w = w1 := hw1.symm
    go_wp2_with fail
    refine C2.out.mono ?_
    rintro e w2 ⟨rfl, rfl⟩
    go_wp2
    go_ret2
    exact ⟨_, rfl, own_empty1 _ _ _ (by omega), hb1.alloc hz1w _⟩
  | true =>
    obtain ⟨f, hf⟩ : ∃ f : Nat → Int, f = smo xs n := ⟨_, rfl⟩
    have e1 : okA xs n 1 100 = true := by unfold okA; rw [hk, hr]; rfl
    have e2 : resSmo xs n = up f (xs.length) := by unfold resSmo; rw [e1, hf]; rfl
    have C := Lib.hid (implAreSB xs v w B true h hk)
    have C2 := Lib.hid (implIn 1 100 n w 3 true hr)
    obtain ⟨n1, n2⟩ := inR_yes hr
    obtain ⟨gx, gn⟩ := okL_yes hk
    rw [e1, e2]
    obtain ⟨ti, hi, hz0, hz1, hz2⟩ := info_parts infoInt
    have HL := Lib.hid h
    obtain ⟨ao, cap, rfl, hcap, hmax, hnn, hc⟩ := h
    unfold maxLen at hmax
    have HF := Lib.hid hf
    have HX := Lib.hid gx
    have HC := Lib.hid hc
    have HNN := Lib.hid hnn
    clear e1 e2 hk hr gx hc hnn hf
    have HL2 := Lib.hid (HL.out.below (hb1.mono hB))
    go_enter Try.func69, Try.ntmps69
    go_wp2_with fail
    refine C.out.mono ?_
    rintro e w1 ⟨rfl, hw1⟩
    obtain rfl : w = w1 := hw1.symm
    go_wp2_with fail
    refine C2.out.mono ?_
    rintro e w2 ⟨rfl, rfl⟩
    generalize w.alloc (.cells #[.int .i64 n] 3) = W1 at *
    go_wp2_with fail
    refine (implClone xs _ W1 B HL2.out (by omega) hn).mono ?_
    rintro e w3 ⟨v3, rfl, hrw, hb⟩
    have hb3 : Below w.heap.size w w3 := hb1.trans (hb.mono hz1w)
    have hrw2 := Go.Joins.ownsRow_le hrw hz1w
    have HW0 := Lib.hid hrw2
    clear hrw hb
    rcases Nat.eq_zero_or_pos xs.length with hl0 | hl0
    · obtain ⟨a3, c3, rfl⟩ := row_form hrw2
      have HU := Lib.hid (show up f xs.length = xs by rw [hl0, List.eq_nil_of_length_eq_zero hl0]; rfl)
      have hl1 : ¬ 1 < xs.length := by omega
      have hl2 : ¬ (1 : Int) < (xs.length : Int) := by omega
      clear hl0 hrw2
      go_wp2
      go_loopw [7] (fun i wr => i = .int .i64 1 ∧ wr = w3) (fun i _ => 0)
      case atStart => exact ⟨rfl, rfl⟩
      case round =>
        obtain ⟨rfl, rfl⟩ := hrel
        go_wp2
        go_ret2
        exact ⟨_, rfl, by rw [HU.out]; exact Own.of_row HW0.out, hb3⟩
    obtain ⟨g3, c3, rfl, hc31, hc32, hg31, hg32⟩ := row_someF hrw2 hl0
    unfold maxLen at hc32
    have HR0 := Lib.hid (show w3.ownsRow w.heap.size 3 1 (.slice (some ⟨g3, 0, none⟩) xs.length c3) xs.length ((mix f (fun j => xs.getD j 0) xs.length 1).map (Value.int .i64)) by
      rw [mix_start (fun j h1 _ => by obtain rfl : j = 0 := (by omega); rw [HF.out]; rfl), up_getD]
      exact hrw2)
    clear hrw2 HW0
    go_wp2
    go_loopw [7] (fun i wr => ∃ (k : Nat), i = .int .i64 k ∧ 1 ≤ k ∧ k ≤ xs.length ∧ wr.ownsRow w.heap.size 3 1 (.slice (some ⟨g3, 0, none⟩) xs.length c3) xs.length ((mix f (fun j => xs.getD j 0) xs.length k).map (Value.int .i64)) ∧ Below w.heap.size w wr) (fun i _ => xs.length - (intOf i).toNat)
    case atStart => exact ⟨1, rfl, Nat.le_refl _, by omega, HR0.out, hb3⟩
    case round =>
      obtain ⟨k, rfl, hk1, hk, hrow, hbl⟩ := hrel
      have hsz := hbl.size
      by_cases hlt : k < xs.length
      case neg =>
        rw [mix_end (by omega)] at hrow
        obtain rfl : k = xs.length := by omega
        go_wp2
        go_ret2
        exact ⟨_, rfl, Own.of_row hrow, hbl⟩
      obtain ⟨x, hx⟩ := get_of_lt hlt
      obtain ⟨bx1, bx2⟩ := HX.out x (List.mem_of_getElem? hx)
      obtain ⟨j, hj⟩ : ∃ j : Nat, j + 1 = k := ⟨k - 1, by omega⟩
      have hcx : wr.cell? ⟨g3, k, none⟩ = some (.int .i64 x) := (hrow.cellAt k (by omega)).trans (by rw [List.getElem?_map, mix_get hlt, if_neg (by omega), get_getD hx]; rfl)
      have hcy : wr.cell? ⟨g3, j, none⟩ = some (.int .i64 (f j)) := (hrow.cellAt j (by omega)).trans (by rw [List.getElem?_map, mix_get (by omega), if_pos (by omega)]; rfl)
      have HE := Lib.hid (show f j + (x - f j) / n = f k by rw [HF.out, ← hj]; simp only [smo]; rw [hj, get_getD hx])
      have fb := smo_bd n1 HX.out j (by omega)
      rw [← HF.out] at fb
      obtain ⟨fb1, fb2⟩ := fb
      have HA := Lib.hid (mix_set (f := f) (g := fun j => xs.getD j 0) hlt)
      rw [← HE.out] at HA
      generalize f j = y at *
      have tb := div_toward (x := x) (y := y) n1 ⟨bx1, bx2⟩ ⟨fb1, fb2⟩
      obtain ⟨q, hq⟩ : ∃ q, (x - y) / n = q := ⟨_, rfl⟩
      have C5 := Lib.hid (fun w => implDownF (x - y) n w (by omega) (by omega) (by omega))
      rw [hq] at HE HA tb C5
      have hf0 := hrow.frozenAt k
      have s1 : IntKind.i64.wrap ((k : Int) - 1) = (j : Int) := by rw [IntWalk.i64_in _ (by omega)]; omega
      have i0 : (0 : Int) ≤ (k : Int) := by omega
      have i1 : (k : Int) < (xs.length : Int) := by omega
      have j0 : (0 : Int) ≤ (j : Int) := by omega
      have j1 : (j : Int) < (xs.length : Int) := by omega
      have HRW := Lib.hid hrow
      obtain ⟨tb1, tb2⟩ := tb
      clear hx hj hq hrow
      go_wp2
      go_quiet (fail)
      clear s1
      have hcx5 : (wr.drewN nq).cell? ⟨g3, k, none⟩ = some (.int .i64 x) := hcx
      have hf5 : (wr.drewN nq).frozen? ⟨g3, k, none⟩ = false := hf0
      have hrow5 := ((row_drewN HRW.out nq).stored k (.int .i64 (y + q))).1
      rw [← List.map_set, HA.out] at hrow5
      have HRW5 := Lib.hid hrow5
      have hb5 := (drewN_b hbl nq).setCell (p := ⟨g3, k, none⟩) hg31 (.int .i64 (y + q))
      clear hcx hf0 hrow5
      generalize wr.drewN nq = w5 at *
      go_wp2_with fail
      refine (C5.out _).mono ?_
      rintro e w6 ⟨rfl, hw6⟩
      obtain rfl := hw6.symm
      go_wp2
      go_roundw
      case rel => exact ⟨k + 1, by go_num, by omega, by omega, HRW5.out, hb5⟩
      case measure => simp [intOf]; omega
end Go.Proofs.Ytklilfbokpljkaa
