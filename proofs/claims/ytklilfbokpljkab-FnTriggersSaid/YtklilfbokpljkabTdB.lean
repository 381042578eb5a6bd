/- The specification's draw of shaken samples. -/
import Derived.Test.YtklilfbokpljkabTdA
import Derived.Test.YtklilfbokpljkabDrS
import Derived.Test.YtklilfbokpljkabAcc
import Derived.Deep.Onto
namespace Go.Proofs.Ytklilfbokpljkab
open Go.ChangeShapes Go.WideShapes Go.ChangeAt Go.RowKit Go.ChangeMaps
set_option linter.unusedSimpArgs false
set_option linter.unusedVariables false

theorem Smp.base {w0 w1 w : World} {B b k : Nat} {v : Value} {xs : List Int} (h : Smp w1 B b k w v xs) (hg : w0.grownBy w1 (some b)) : Smp w0 B b k w v xs := by
  obtain ⟨hrow, hf, hx, hcu, hgr⟩ := h
  exact ⟨hrow.mono hg.size, hf, hx, hcu, hg.trans hgr⟩
set_option maxRecDepth 100000 in
set_option maxHeartbeats 4000000 in
theorem cur_shaken (w : World) (B b k : Nat) (h : Cur w B b k) (hk : k ≤ 700000) :
    Calls Try.prog 86 #[.pointer (some ⟨b, 0, none⟩)] w fun e w' => ∃ (v : Value) (xs : List Int), e = .returned v ∧ xs.length ≤ 40 ∧ Smp w B b (k + 400) w' v xs := by
  obtain ⟨ti, hi, hz0, hz1, hz2⟩ := info_parts infoInt
  have hbw := h.lt
  have hrow0 := World.ownsRow_made (base := w.heap.size) (e := 3) (size := 1) w #[] 0 (Nat.le_refl _) (by simp [maxLen]) rfl
  go_enter Try.func86, Try.ntmps86
  go_wp2_with fail
  refine (cur_pick _ B b k 14 (h.alloc _) (by omega) (by omega) (by omega)).mono ?_
  rintro e w1 ⟨r, rfl, hr0, hr1, hc1, hg1⟩
  obtain ⟨m0, hm0⟩ : ∃ m : Nat, (m : Int) = 6 + r := ⟨(6 + r).toNat, by omega⟩
  have hS0 : Smp w B b (k + 2) w1 (.slice (some ⟨w.heap.size, 0, none⟩) 0 0) [] := ⟨kept_row hrow0 hg1 hbw, ⟨_, _, rfl⟩, by simp, hc1.mono (by simp), (grown_alloc w _ _).trans hg1⟩
  have HS0 := Lib.hid hS0
  have HM0 := Lib.hid hm0
  have hm5 : m0 ≤ 19 := by omega
  clear hS0 hrow0 hg1 hc1 hm0
  go_wp2
  go_loopw [3, 4] (fun o n wr => ∃ (m : Nat) (xs : List Int), n = .int .i64 m ∧ xs.length + m ≤ 19 ∧ Smp w B b (k + 2) wr o xs) (fun _ n _ => (intOf n).toNat)
  case atStart => exact ⟨m0, [], by rw [HM0.out], by simp; omega, HS0.out⟩
  case round =>
    obtain ⟨m, xs, rfl, hlen, hS⟩ := hrel
    obtain ⟨hrow, ⟨ao, cap, rfl⟩, hxs, hcu, hgr⟩ := id hS
    have HS := Lib.hid hS
    have HCU := Lib.hid hcu
    have zr := hgr.size
    clear hS hxs hcu hrow hgr
    by_cases hm : 0 < m
    · have hm1 : (0 : Int) < (m : Int) := by omega
      have hm2 : (m : Int) ≤ 19 := by omega
      have hx20 : (xs.length : Int) ≤ 19 := by omega
      go_wp2_with fail
      refine (cur_among _ B b _ (HCU.out.alloc _) (by omega) _ _ (ints_lit wr b (Nat.lt_of_lt_of_le hbw (by omega)) 3 5 [0, 1, -1, 2, -2]) (by simp) (by simp)).mono ?_
      rintro e w2 ⟨x, rfl, hx, hc2, hg2⟩
      have hx2 : -101 ≤ x ∧ x ≤ 101 := by
        revert x
        decide
      obtain ⟨x1, x2⟩ := hx2
      have HG := Lib.hid ((grown_alloc wr (.cells #[.int .i64 0, .int .i64 1, .int .i64 (-1), .int .i64 2, .int .i64 (-2)] 3) _).trans hg2)
      have HC2 := Lib.hid hc2
      have z2 : wr.heap.size + 1 ≤ w2.heap.size := by have := hg2.size; simpa using this
      clear hx hc2 hg2
      by_cases h6 : (6 : Int) < (xs.length : Int)
      case neg =>
        go_wp2_with (at_builtin; refine wpList_append_own _ rfl _ _ 22 rfl w.heap.size 3 ti (.int .i64 0) 1 8 Try.underlying22 hi hz0 hz1 hz2 rfl (by decide) _ xs.length (xs.map (Value.int .i64)) rfl ((kept_row HS.out.1 HG.out hbw).alloc _) ⟨w2.heap.size, 0, none⟩ 1 1 [.int .i64 x] rfl rfl (cell_one_new _ _ _) (by simp [Value.oneCell']) (by unfold maxLen; omega) (by omega) (by first | omega | (simp; done) | (simp; omega)) ?_; intro v9 w9 hown9 hgrow9 _)
        have hS9 := HS.out.snoc hbw HG.out HC2.out (by omega) hown9 hgrow9 (by omega) (by omega)
        have HS9 := Lib.hid hS9
        obtain ⟨a9, c9, rfl⟩ := hS9.2.1
        clear hS9 hown9 hgrow9
        go_wp2
        go_roundw
        case rel => exact ⟨m - 1, xs ++ [x], by rw [show ((m : Int) - 1) = ((m - 1 : Nat) : Int) by omega], by rw [List.length_append, List.length_singleton]; omega, HS9.out⟩
        case measure => simp [intOf]; omega
      case pos =>
        go_wp2_with fail
        refine (cur_one _ B b _ 4 HC2.out (by omega) (by omega) (by omega)).mono ?_
        rintro e w3 ⟨q, rfl, hc3, hg3⟩
        have HG3 := Lib.hid (HG.out.trans hg3)
        have HC3 := Lib.hid hc3
        have z3 := hg3.size
        clear hc3 hg3
        cases q with
        | false =>
          go_wp2_with (at_builtin; refine wpList_append_own _ rfl _ _ 22 rfl w.heap.size 3 ti (.int .i64 0) 1 8 Try.underlying22 hi hz0 hz1 hz2 rfl (by decide) _ xs.length (xs.map (Value.int .i64)) rfl ((kept_row HS.out.1 HG3.out hbw).alloc _) ⟨w3.heap.size, 0, none⟩ 1 1 [.int .i64 x] rfl rfl (cell_one_new _ _ _) (by simp [Value.oneCell']) (by unfold maxLen; omega) (by omega) (by first | omega | (simp; done) | (simp; omega)) ?_; intro v9 w9 hown9 hgrow9 _)
          have hS9 := HS.out.snoc hbw HG3.out HC3.out (by omega) hown9 hgrow9 (by omega) (by omega)
          have HS9 := Lib.hid hS9
          obtain ⟨a9, c9, rfl⟩ := hS9.2.1
          clear hS9 hown9 hgrow9
          go_wp2
          go_roundw
          case rel => exact ⟨m - 1, xs ++ [x], by rw [show ((m : Int) - 1) = ((m - 1 : Nat) : Int) by omega], by rw [List.length_append, List.length_singleton]; omega, HS9.out⟩
          case measure => simp [intOf]; omega
        | true =>
          go_wp2_with fail
          refine (cur_among _ B b _ (HC3.out.alloc _) (by omega) _ _ (ints_lit w3 b (Nat.lt_of_lt_of_le hbw (by omega)) 3 4 [50, -40, 90, -3000]) (by simp) (by simp)).mono ?_
          rintro e w4 ⟨y, rfl, hy, hc4, hg4⟩
          have hy2 : -3000 ≤ y ∧ y ≤ 101 := by
            revert y
            decide
          obtain ⟨y1, y2⟩ := hy2
          have HG4 := Lib.hid (HG3.out.trans ((grown_alloc w3 (.cells #[.int .i64 50, .int .i64 (-40), .int .i64 90, .int .i64 (-3000)] 3) _).trans hg4))
          have HC4 := Lib.hid hc4
          have z4 : w3.heap.size + 1 ≤ w4.heap.size := by have := hg4.size; simpa using this
          clear hy hc4 hg4
          go_wp2_with (at_builtin; refine wpList_append_own _ rfl _ _ 22 rfl w.heap.size 3 ti (.int .i64 0) 1 8 Try.underlying22 hi hz0 hz1 hz2 rfl (by decide) _ xs.length (xs.map (Value.int .i64)) rfl ((kept_row HS.out.1 HG4.out hbw).alloc _) ⟨w4.heap.size, 0, none⟩ 1 1 [.int .i64 y] rfl rfl (cell_one_new _ _ _) (by simp [Value.oneCell']) (by unfold maxLen; omega) (by omega) (by first | omega | (simp; done) | (simp; omega)) ?_; intro v9 w9 hown9 hgrow9 _)
          have hS9 := HS.out.snoc hbw HG4.out HC4.out (by omega) hown9 hgrow9 (by omega) (by omega)
          have HS9 := Lib.hid hS9
          obtain ⟨a9, c9, rfl⟩ := hS9.2.1
          clear hS9 hown9 hgrow9
          go_wp2
          go_roundw
          case rel => exact ⟨m - 1, xs ++ [y], by rw [show ((m : Int) - 1) = ((m - 1 : Nat) : Int) by omega], by rw [List.length_append, List.length_singleton]; omega, HS9.out⟩
          case measure => simp [intOf]; omega
    · have hm1 : ¬ (0 : Int) < (m : Int) := by omega
      have hx19 : xs.length ≤ 19 := by omega
      go_wp2_with fail
      refine (cur_one _ B b _ 8 HCU.out (by omega) (by omega) (by omega)).mono ?_
      rintro e w2 ⟨q, rfl, hc2, hg2⟩
      cases q with
      | false =>
        have HS2 := Lib.hid (HS.out.draw (k2 := k + 400) hbw hg2 hc2 (by omega))
        go_wp2
        go_ret
        exact ⟨_, xs, rfl, by omega, HS2.out⟩
      | true =>
        have HG2 := Lib.hid (HS.out.2.2.2.2.trans hg2)
        have HC2 := Lib.hid hc2
        clear hc2 hg2
        go_wp2_with fail
        refine (cur_samples _ B b _ HC2.out (by omega)).mono ?_
        rintro e w3 ⟨v, ys, rfl, hl, hSS⟩
        have hB := Lib.hid (Smp.base (hSS.draw (k2 := k + 400) HC2.out.lt (World.grownBy.refl _ _) hSS.2.2.2.1 (by omega)) HG2.out)
        obtain ⟨a9, c9, rfl⟩ := hSS.2.1
        go_wp2
        go_ret
        exact ⟨_, ys, rfl, hl, hB.out⟩
end Go.Proofs.Ytklilfbokpljkab
