/- Integer filters: the specification's turning points. -/
import Derived.Test.YtklilfbokpljkaaFiA
import Derived.BigQuiet
import Derived.IntWalk
namespace Go.Proofs.Ytklilfbokpljkaa
open Go.ChangeShapes Go.WideShapes Go.ChangeAt Go.RowKit Go.ChangeMaps
set_option linter.unusedSimpArgs false
set_option linter.unusedVariables false

theorem tps_fin {xs : List Int} {k : Nat} (h : 1 ≤ k) (h1 : xs.length ≤ k + 1) (h2 : k ≤ max 1 xs.length) : tps xs k = tps xs xs.length := by
  rcases Nat.lt_trichotomy xs.length k with g | g | g
  · have e1 : k = 1 := by omega
    have e2 : xs.length = 0 := by omega
    rw [e1, e2, tps_one]; rfl
  · rw [g]
  · rw [show xs.length = k + 1 by omega, tps_end xs k (by omega) h]
theorem tps_snoc {xs : List Int} {k : Nat} {a x d : Int} (h : 1 ≤ k) (ha : xs[k - 1]? = some a) (hx : xs[k]? = some x) (hd : xs[k + 1]? = some d) :
    tps xs (k + 1) = if (a < x ∧ d < x) ∨ (x < a ∧ x < d) then tps xs k ++ [(k : Int)] else tps xs k := by
  have hl := (List.getElem?_eq_some_iff.1 hd).1
  have : isTp xs k = decide ((a < x ∧ d < x) ∨ (x < a ∧ x < d)) := by
    unfold isTp
    rw [decide_eq_decide, get_getD ha, get_getD hx, get_getD hd]
    constructor
    · rintro ⟨_, _, h⟩; omega
    · intro g; exact ⟨h, hl, by omega⟩
  rw [tps, this]
  by_cases g : (a < x ∧ d < x) ∨ (x < a ∧ x < d)
  · rw [if_pos g, decide_eq_true g, if_pos rfl]
  · rw [if_neg g, decide_eq_false g]; rfl

set_option maxRecDepth 100000 in
set_option maxHeartbeats 4000000 in
theorem specTp (xs : List Int) (v : Value) (w : World) (B : Nat) (h : Lst (Value.int .i64) w B v xs) (hB : B ≤ w.heap.size) (hn : xs.length ≤ 1048576) :
    Calls Try.prog 76 #[v] w fun e w' => ∃ v', e = .returned (.tuple #[v', .bool (okL xs)]) ∧ Own (Value.int .i64) w' w.heap.size w'.heap.size v' (resTp xs) ∧ Below w.heap.size w w' := by
  have hrow0 := row_empty w (base := w.heap.size) 3 1 (Nat.le_refl _)
  have hb0 : Below w.heap.size w (w.alloc (.cells #[] 3)) := (Below.refl _ _).alloc (Nat.le_refl _) _
  have h1 := h.below (hb0.mono hB)
  cases hk : okL xs with
  | false =>
    have e2 : resTp xs = [] := by unfold resTp; rw [hk]; rfl
    have C := Lib.hid (l2SamplesB xs v _ B false h1 hk)
    rw [e2]
    obtain ⟨ao, cap, rfl⟩ := h.form
    clear e2 hk
    go_enter Try.func76, Try.ntmps76
    go_wp2_with fail
    refine C.out.mono ?_
    rintro e w1 ⟨rfl, rfl⟩
    go_wp2
    go_ret2
    exact ⟨_, rfl, own_empty _ _ (Nat.le_refl _), hb0⟩
  | true =>
    have e2 : resTp xs = tps xs xs.length := by unfold resTp; rw [hk]; rfl
    have C := Lib.hid (l2SamplesB xs v _ B true h1 hk)
    obtain ⟨gx, gn⟩ := okL_yes hk
    rw [e2]
    obtain ⟨ti, hi, hz0, hz1, hz2⟩ := info_parts infoInt
    obtain ⟨ao, cap, rfl, hcap, hmax, hnn, hc⟩ := h
    unfold maxLen at hmax
    have HX := Lib.hid gx
    have HC := Lib.hid hc
    clear e2 hk gx hc hnn h1
    go_enter Try.func76, Try.ntmps76
    go_wp2_with fail
    refine C.out.mono ?_
    rintro e w1 ⟨rfl, rfl⟩
    go_wp2
    go_loopw [4, 5] (fun o i wr => ∃ (k n : Nat), 1 ≤ k ∧ k ≤ max 1 xs.length ∧ n = (tps xs k).length ∧ i = .int .i64 k ∧ wr.ownsRow w.heap.size 3 1 o n ((tps xs k).map (Value.int .i64)) ∧ Below w.heap.size w wr) (fun _ i _ => xs.length + 1 - (intOf i).toNat)
    case atStart => exact ⟨1, 0, Nat.le_refl _, by omega, by rw [tps_one]; rfl, rfl, by rw [tps_one]; exact hrow0, hb0⟩
    case round =>
      obtain ⟨k, n, hk1, hk2, hn', rfl, hrow, hbl⟩ := hrel
      have hnk : n ≤ k := by have := tps_len xs k; omega
      have HN := Lib.hid hn'
      clear hn'
      obtain ⟨aoo, capo, rfl⟩ := row_form hrow
      have hsz := hbl.size
      have s0 : IntKind.i64.wrap ((k : Int) + 1) = (k : Int) + 1 := IntWalk.i64_in _ (by omega)
      have s01 : IntKind.i64.wrap ((xs.length : Int) - 1) = (xs.length : Int) - 1 := IntWalk.i64_in _ (by omega)
      by_cases hlt : k + 1 < xs.length
      case neg =>
        have hlt' : ¬ (k : Int) + 1 < (xs.length : Int) := by omega
        have hlt2 : ¬ (k : Int) < (xs.length : Int) - 1 := by omega
        have HE := Lib.hid (tps_fin hk1 (by omega) hk2)
        clear s0 s01
        go_wp2
        go_ret2
        exact ⟨_, rfl, by rw [← HE.out]; exact Own.of_row hrow, hbl⟩
      have hlt' : (k : Int) + 1 < (xs.length : Int) := by omega
      have hlt2 : (k : Int) < (xs.length : Int) - 1 := by omega
      clear hk2
      obtain ⟨j, hj⟩ : ∃ j, k - 1 = j := ⟨_, rfl⟩
      obtain ⟨m, hm⟩ : ∃ m, k + 1 = m := ⟨_, rfl⟩
      obtain ⟨a, ha⟩ := get_of_lt (show j < xs.length by omega)
      obtain ⟨x, hx⟩ := get_of_lt (show k < xs.length by omega)
      obtain ⟨d, hd⟩ := get_of_lt (show m < xs.length by omega)
      have HS := Lib.hid (tps_snoc hk1 (by rw [hj]; exact ha) hx (by rw [hm]; exact hd))
      obtain ⟨b, off, rfl, hb, hcx⟩ := HC.out k x hx
      obtain ⟨b2, off2, e2, hb2, hca⟩ := HC.out j a ha
      simp only [Option.some.injEq, Addr.mk.injEq, and_true] at e2
      obtain ⟨rfl, rfl⟩ := e2
      obtain ⟨b2, off2, e2, hb3, hcd⟩ := HC.out m d hd
      simp only [Option.some.injEq, Addr.mk.injEq, and_true] at e2
      obtain ⟨rfl, rfl⟩ := e2
      have hcx' := cellOf hbl (by omega) hcx
      have hca' := cellOf hbl (by omega) hca
      have hcd' := cellOf hbl (by omega) hcd
      have s1 : IntKind.i64.wrap ((k : Int) - 1) = (j : Int) := by rw [IntWalk.i64_in _ (by omega)]; omega
      have s2 : IntKind.i64.wrap ((k : Int) + 1) = (m : Int) := by rw [IntWalk.i64_in _ (by omega)]; omega
      have i0 : (0 : Int) ≤ (k : Int) := by omega
      have i1 : (k : Int) < (xs.length : Int) := by omega
      have i2 : (0 : Int) ≤ (j : Int) := by omega
      have i3 : (j : Int) < (xs.length : Int) := by omega
      have i4 : (0 : Int) ≤ (m : Int) := by omega
      have i5 : (m : Int) < (xs.length : Int) := by omega
      have HM := Lib.hid hm
      have s3 : IntKind.i64.wrap ((xs.length : Int) - 1) = (xs.length : Int) - 1 := IntWalk.i64_in _ (by omega)
      obtain ⟨bx1, bx2⟩ := HX.out x (List.mem_of_getElem? hx)
      obtain ⟨ba1, ba2⟩ := HX.out a (List.mem_of_getElem? ha)
      obtain ⟨bd1, bd2⟩ := HX.out d (List.mem_of_getElem? hd)
      clear ha hx hd hcx hca hcd s0 s01 hj hm
      go_wp2
      go_quiet (fail)
      clear s1 s2 s3
      by_cases c1 : a < x
      · by_cases c2 : d < x
        · clear HM
          have HY := Lib.hid (show tps xs (k + 1) = tps xs k ++ [(k : Int)] by rw [HS.out]; exact if_pos (by omega))
          clear HS
          go_wp2_with (at_builtin; refine wpList_append_own _ rfl _ _ 43 rfl (w.heap.size) 3 ti (.int .i64 0) 1 8 Try.underlying43 hi hz0 hz1 hz2 rfl (by decide) _ n ((tps xs k).map (Value.int .i64)) rfl (row_drewN hrow nq |>.alloc _) ⟨(wr.drewN nq).heap.size, 0, none⟩ 1 1 [.int .i64 (k : Int)] rfl rfl (cell_one_new _ _ _) (by simp [Value.oneCell']) (by unfold maxLen; omega) (by omega) (by first | omega | (simp; done) | (simp; omega)) ?_; intro v3 w3 hown' hgrow _; have b3 := below_app2 (row_drewN hrow nq) hgrow hsz (Nat.le_refl _))
          rw [show (tps xs k).map (Value.int .i64) ++ [.int .i64 (k : Int)] = (tps xs (k + 1)).map (Value.int .i64) by rw [HY.out]; simp] at hown'
          obtain ⟨a3, c3, rfl⟩ := row_form hown'
          clear hgrow hrow
          go_wp2
          go_roundw
          case rel => exact ⟨k + 1, n + 1, by omega, by omega, by rw [HY.out, HN.out]; simp, by go_num, hown', (drewN_b hbl nq).trans b3⟩
          case measure => simp [intOf]; omega
        · have c3 : ¬ x < a := by omega
          clear HM
          have HY := Lib.hid (show tps xs (k + 1) = tps xs k by rw [HS.out]; exact if_neg (by omega))
          clear HS
          go_wp2
          go_roundw
          case rel => exact ⟨k + 1, n, by omega, by omega, by rw [HY.out, HN.out], by go_num, by rw [HY.out]; exact row_drewN hrow nq, drewN_b hbl nq⟩
          case measure => simp [intOf]; omega
      · by_cases c3 : x < a
        · by_cases c4 : x < d
          · clear HM
            have HY := Lib.hid (show tps xs (k + 1) = tps xs k ++ [(k : Int)] by rw [HS.out]; exact if_pos (by omega))
            clear HS
            go_wp2_with (at_builtin; refine wpList_append_own _ rfl _ _ 43 rfl (w.heap.size) 3 ti (.int .i64 0) 1 8 Try.underlying43 hi hz0 hz1 hz2 rfl (by decide) _ n ((tps xs k).map (Value.int .i64)) rfl (row_drewN hrow nq |>.alloc _) ⟨(wr.drewN nq).heap.size, 0, none⟩ 1 1 [.int .i64 (k : Int)] rfl rfl (cell_one_new _ _ _) (by simp [Value.oneCell']) (by unfold maxLen; omega) (by omega) (by first | omega | (simp; done) | (simp; omega)) ?_; intro v3 w3 hown' hgrow _; have b3 := below_app2 (row_drewN hrow nq) hgrow hsz (Nat.le_refl _))
            rw [show (tps xs k).map (Value.int .i64) ++ [.int .i64 (k : Int)] = (tps xs (k + 1)).map (Value.int .i64) by rw [HY.out]; simp] at hown'
            obtain ⟨a3, c3, rfl⟩ := row_form hown'
            clear hgrow hrow
            go_wp2
            go_roundw
            case rel => exact ⟨k + 1, n + 1, by omega, by omega, by rw [HY.out, HN.out]; simp, by go_num, hown', (drewN_b hbl nq).trans b3⟩
            case measure => simp [intOf]; omega
          · clear HM
            have HY := Lib.hid (show tps xs (k + 1) = tps xs k by rw [HS.out]; exact if_neg (by omega))
            clear HS
            go_wp2
            go_roundw
            case rel => exact ⟨k + 1, n, by omega, by omega, by rw [HY.out, HN.out], by go_num, by rw [HY.out]; exact row_drewN hrow nq, drewN_b hbl nq⟩
            case measure => simp [intOf]; omega
        · clear HM
          have HY := Lib.hid (show tps xs (k + 1) = tps xs k by rw [HS.out]; exact if_neg (by omega))
          clear HS
          go_wp2
          go_roundw
          case rel => exact ⟨k + 1, n, by omega, by omega, by rw [HY.out, HN.out], by go_num, by rw [HY.out]; exact row_drewN hrow nq, drewN_b hbl nq⟩
          case measure => simp [intOf]; omega
end Go.Proofs.Ytklilfbokpljkaa
