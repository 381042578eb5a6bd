/- The specification's draws for filters. -/
import Derived.Test.YtklilfbokpljkaaPkD
namespace Go.Proofs.Ytklilfbokpljkaa
open Go.ChangeShapes Go.WideShapes Go.ChangeAt Go.RowKit Go.ChangeMaps
set_option linter.unusedSimpArgs false
set_option linter.unusedVariables false

set_option maxRecDepth 100000 in
set_option maxHeartbeats 2000000 in
theorem cur_weights (w : World) (B b k : Nat) (h : Cur w B b k) (hk : k ≤ 800000) :
    Calls Try.prog 133 #[.pointer (some ⟨b, 0, none⟩)] w fun e w' => ∃ (v : Value) (xs : List Int), e = .returned v ∧ xs.length ≤ 40 ∧ Smp w B b (k + 80) w' v xs := by
  obtain ⟨ti, hi, hz0, hz1, hz2⟩ := info_parts infoInt
  have hbw := h.lt
  have hrow0 := World.ownsRow_made (base := w.heap.size) (e := 3) (size := 1) w #[] 0 (Nat.le_refl _) (by simp [maxLen]) rfl
  go_enter Try.func133, Try.ntmps133
  go_wp2_with fail
  refine (cur_pick _ B b k 5 (h.alloc _) (by omega) (by omega) (by omega)).mono ?_
  rintro e w1 ⟨r, rfl, hr0, hr1, hc1, hg1⟩
  obtain ⟨m0, hm0⟩ : ∃ m : Nat, (m : Int) = 1 + r := ⟨(1 + r).toNat, by omega⟩
  have hS0 : Smp w B b (k + 2) w1 (.slice (some ⟨w.heap.size, 0, none⟩) 0 0) [] := ⟨kept_row hrow0 hg1 hbw, ⟨_, _, rfl⟩, by simp, hc1.mono (by simp), (grown_alloc w _ _).trans hg1⟩
  have HS0 := Lib.hid hS0
  have HM0 := Lib.hid hm0
  have hm5 : m0 ≤ 5 := by omega
  clear hS0 hrow0 hg1 hc1 hm0
  go_wp2
  go_loopw [3, 4] (fun o n wr => ∃ (m : Nat) (xs : List Int), n = .int .i64 m ∧ xs.length + m ≤ 5 ∧ Smp w B b (k + 2) wr o xs) (fun _ n _ => (intOf n).toNat)
  case atStart => exact ⟨m0, [], by rw [HM0.out], by simp; omega, HS0.out⟩
  case round =>
    obtain ⟨m, xs, rfl, hlen, hS⟩ := hrel
    obtain ⟨hrow, ⟨ao, cap, rfl⟩, hxs, hcu, hgr⟩ := id hS
    have HS := Lib.hid hS
    have HCU := Lib.hid hcu
    have zr := hgr.size
    clear hS hxs hcu hrow hgr
    by_cases hm : 0 < m
    · have hm1 : (0 : Int) < (m : Int) := by omega
      have hm2 : (m : Int) ≤ 5 := by omega
      go_wp2_with fail
      refine (cur_among _ B b _ (HCU.out.alloc _) (by omega) _ _ (ints_lit wr b (Nat.lt_of_lt_of_le hbw (by omega)) 3 7 [0, 1, -1, 2, 50, -100, 100]) (by simp) (by simp)).mono ?_
      rintro e w2 ⟨x, rfl, hx, hc2, hg2⟩
      have hx2 : -101 ≤ x ∧ x ≤ 101 := by
        revert x
        decide
      obtain ⟨x1, x2⟩ := hx2
      have HG := Lib.hid ((grown_alloc wr (.cells #[.int .i64 0, .int .i64 1, .int .i64 (-1), .int .i64 2, .int .i64 50, .int .i64 (-100), .int .i64 100] 3) _).trans hg2)
      have HC2 := Lib.hid hc2
      have z2 : wr.heap.size + 1 ≤ w2.heap.size := by have := hg2.size; simpa using this
      clear hx hc2 hg2
      go_wp2_with (at_builtin; refine wpList_append_own _ rfl _ _ 43 rfl w.heap.size 3 ti (.int .i64 0) 1 8 Try.underlying43 hi hz0 hz1 hz2 rfl (by decide) _ xs.length (xs.map (Value.int .i64)) rfl ((kept_row HS.out.1 HG.out hbw).alloc _) ⟨w2.heap.size, 0, none⟩ 1 1 [.int .i64 x] rfl rfl (cell_one_new _ _ _) (by simp [Value.oneCell']) (by unfold maxLen; omega) (by omega) (Nat.le_trans (show w.heap.size ≤ w2.heap.size by omega) (grown_alloc w2 _ none).size) ?_; intro v9 w9 hown9 hgrow9 _)
      have hS9 := HS.out.snoc hbw HG.out HC2.out (by omega) hown9 hgrow9 (by omega) (by omega)
      have HS9 := Lib.hid hS9
      obtain ⟨a9, c9, rfl⟩ := hS9.2.1
      clear hS9 hown9 hgrow9
      go_wp2
      go_roundw
      case rel => exact ⟨m - 1, xs ++ [x], by rw [show ((m : Int) - 1) = ((m - 1 : Nat) : Int) by omega], by rw [List.length_append, List.length_singleton]; omega, HS9.out⟩
      case measure => simp [intOf]; omega
    · have hm1 : ¬ (0 : Int) < (m : Int) := by omega
      have hx12 : xs.length ≤ 5 := by omega
      go_wp2_with fail
      refine (cur_pick _ B b _ 32 HCU.out (by omega) (by omega) (by omega)).mono ?_
      rintro e w2 ⟨q, rfl, hq0, hq1, hc2, hg2⟩
      have HS2 := Lib.hid (HS.out.draw (k2 := k + 4) hbw hg2 hc2 (by omega))
      have z2 := hg2.size
      clear hg2 hc2
      by_cases h0 : q = 0
      · subst h0
        go_wp2_with fail
        refine (cur_among _ B b _ (HS2.out.2.2.2.1.alloc _) (by omega) _ _ (ints_lit w2 b (Nat.lt_of_lt_of_le hbw (by omega)) 3 2 [101, -101]) (by simp) (by simp)).mono ?_
        rintro e w3 ⟨a, rfl, ha, hc3, hg3⟩
        have ha2 : -100001 ≤ a ∧ a ≤ 100001 := by
          revert a
          decide
        obtain ⟨ha3, ha4⟩ := ha2
        have HG3 := Lib.hid ((grown_alloc w2 (.cells #[.int .i64 101, .int .i64 (-101)] 3) _).trans hg3)
        have HC3 := Lib.hid hc3
        have z3 : w2.heap.size + 1 ≤ w3.heap.size := by have := hg3.size; simpa using this
        clear ha hc3 hg3
        go_wp2_with (at_builtin; refine wpList_append_own _ rfl _ _ 43 rfl w.heap.size 3 ti (.int .i64 0) 1 8 Try.underlying43 hi hz0 hz1 hz2 rfl (by decide) _ xs.length (xs.map (Value.int .i64)) rfl ((kept_row HS2.out.1 HG3.out hbw).alloc _) ⟨w3.heap.size, 0, none⟩ 1 1 [.int .i64 a] rfl rfl (cell_one_new _ _ _) (by simp [Value.oneCell']) (by unfold maxLen; omega) (by omega) (Nat.le_trans (show w.heap.size ≤ w3.heap.size by omega) (grown_alloc w3 _ none).size) ?_; intro v9 w9 hown9 hgrow9 _)
        go_ret
        exact ⟨v9, xs ++ [a], rfl, by simp; omega, (HS2.out.snoc hbw HG3.out HC3.out (by omega) hown9 hgrow9 (by omega) (by omega)).draw (k2 := k + 80) hbw (World.grownBy.refl _ _) (HS2.out.snoc hbw HG3.out HC3.out (by omega) hown9 hgrow9 (by omega) (by omega)).2.2.2.1 (by omega)⟩
      · have hq2 : (q == 0) = false := by simpa using h0
        by_cases h1 : q = 1
        · subst h1
          go_wp2
          go_ret
          refine ⟨_, [], rfl, by simp, row_empty w2 3 1 (by omega), ⟨_, _, rfl⟩, by simp, (HS2.out.2.2.2.1.alloc _).mono (by simp; omega), HS2.out.2.2.2.2.trans (grown_alloc w2 _ _)⟩
        · have hq3 : (q == 1) = false := by simpa using h1
          by_cases h2 : q = 2
          · subst h2
            go_wp2
            go_loopw [3] (fun o wr => ∃ ys : List Int, ys.length ≤ 6 ∧ Smp w B b (k + 8) wr o ys) (fun o _ => match o with | .slice _ n _ => 7 - n | _ => 0)
            case atStart => exact ⟨xs, by omega, HS2.out.draw (k2 := k + 8) hbw (World.grownBy.refl _ _) HS2.out.2.2.2.1 (by omega)⟩
            case round =>
              obtain ⟨ys, hy, hS⟩ := hrel
              obtain ⟨hrow, ⟨ao, cap, rfl⟩, hxs, hcu, hgr⟩ := id hS
              have HS := Lib.hid hS
              have HCU := Lib.hid hcu
              have zr := hgr.size
              have hy2 : (ys.length : Int) ≤ 6 := by omega
              clear hS hxs hcu hrow hgr HS2 z2
              go_wp2_with fail
              refine (cur_pick _ B b _ 2 HCU.out (by omega) (by omega) (by omega)).mono ?_
              rintro e w4 ⟨p, rfl, hp0, hp1, hc4, hg4⟩
              have HC4 := Lib.hid hc4
              have HG4 := Lib.hid hg4
              have z4 := hg4.size
              clear hc4 hg4
              by_cases hl : (ys.length : Int) < 5 + p
              · go_wp2_with (at_builtin; refine wpList_append_own _ rfl _ _ 43 rfl w.heap.size 3 ti (.int .i64 0) 1 8 Try.underlying43 hi hz0 hz1 hz2 rfl (by decide) _ ys.length (ys.map (Value.int .i64)) rfl ((kept_row HS.out.1 HG4.out hbw).alloc _) ⟨w4.heap.size, 0, none⟩ 1 1 [.int .i64 3] rfl rfl (cell_one_new _ _ _) (by simp [Value.oneCell']) (by unfold maxLen; omega) (by omega) (Nat.le_trans (show w.heap.size ≤ w4.heap.size by omega) (grown_alloc w4 _ none).size) ?_; intro v9 w9 hown9 hgrow9 _)
                have hS9 := HS.out.snoc hbw HG4.out HC4.out (by omega) hown9 hgrow9 (by omega) (by omega)
                have HS9 := Lib.hid hS9
                obtain ⟨a9, c9, rfl⟩ := hS9.2.1
                clear hS9 hown9 hgrow9
                go_wp2
                go_roundw
                case rel => exact ⟨_, by rw [List.length_append, List.length_singleton]; omega, HS9.out⟩
                case measure => simp; omega
              · go_wp2
                go_ret
                exact ⟨_, ys, rfl, by omega, HS.out.draw (k2 := k + 80) hbw HG4.out HC4.out (by omega)⟩
          · have hq4 : (q == 2) = false := by simpa using h2
            go_wp2
            go_ret
            exact ⟨_, xs, rfl, by omega, HS2.out.draw (k2 := k + 80) hbw (World.grownBy.refl _ _) HS2.out.2.2.2.1 (by omega)⟩

set_option maxRecDepth 100000 in
set_option maxHeartbeats 1000000 in
theorem drawMS (w : World) (B : Nat) (v : Value) (h : CodeArg w B v) :
    Calls Try.prog 56 #[v] w fun e w' => ∃ (v' : Value) (xs : List Int) (x : Int), e = .returned (.tuple #[v', .int .i64 x]) ∧ (-1000000 ≤ x ∧ x ≤ 1000000) ∧ DrI w w' v' xs := by
  obtain ⟨h0, ao, n, cap, rfl, h2, h3⟩ := h
  have hcu := Lib.hid (cur_new w B ao n cap h0 h2 h3)
  clear h3
  go_enter Try.func56, Try.ntmps56
  go_wp2_with fail
  refine (cur_samples _ B w.heap.size 0 hcu.out (by omega)).mono ?_
  rintro e w1 ⟨v1, xs, rfl, hl, hS⟩
  obtain ⟨a1, c1, rfl⟩ := hS.2.1
  have HS := Lib.hid hS
  have z1 : w.heap.size + 1 ≤ w1.heap.size := by have := hS.2.2.2.2.size; simpa using this
  clear hS
  go_wp2_with fail
  refine (cur_among _ B w.heap.size _ (HS.out.2.2.2.1.alloc _) (by omega) _ _ (ints_lit w1 w.heap.size (by omega) 3 7 [1, 2, 3, 5, 10, 0, 11]) (by simp) (by simp)).mono ?_
  rintro e w2 ⟨x, rfl, hx, hc2, hg2⟩
  have hx2 : -1000000 ≤ x ∧ x ≤ 1000000 := by
    revert x
    decide
  have hG := (grown_alloc w1 (.cells #[.int .i64 1, .int .i64 2, .int .i64 3, .int .i64 5, .int .i64 10, .int .i64 0, .int .i64 11] 3) (some w.heap.size)).trans hg2
  go_wp2
  go_ret2
  exact ⟨_, xs, x, rfl, hx2, by omega, smp_bd HS.out hl, (Own.of_row (kept_row HS.out.1 hG (by simp))).mono (by simp) (Nat.le_refl _), grown_below (HS.out.2.2.2.2.trans hG)⟩

set_option maxRecDepth 100000 in
set_option maxHeartbeats 1000000 in
theorem drawMed (w : World) (B : Nat) (v : Value) (h : CodeArg w B v) :
    Calls Try.prog 66 #[v] w fun e w' => ∃ (v' : Value) (xs : List Int) (x : Int), e = .returned (.tuple #[v', .int .i64 x]) ∧ (-1000000 ≤ x ∧ x ≤ 1000000) ∧ DrI w w' v' xs := by
  obtain ⟨h0, ao, n, cap, rfl, h2, h3⟩ := h
  have hcu := Lib.hid (cur_new w B ao n cap h0 h2 h3)
  clear h3
  go_enter Try.func66, Try.ntmps66
  go_wp2_with fail
  refine (cur_samples _ B w.heap.size 0 hcu.out (by omega)).mono ?_
  rintro e w1 ⟨v1, xs, rfl, hl, hS⟩
  obtain ⟨a1, c1, rfl⟩ := hS.2.1
  have HS := Lib.hid hS
  have z1 : w.heap.size + 1 ≤ w1.heap.size := by have := hS.2.2.2.2.size; simpa using this
  clear hS
  go_wp2_with fail
  refine (cur_among _ B w.heap.size _ (HS.out.2.2.2.1.alloc _) (by omega) _ _ (ints_lit w1 w.heap.size (by omega) 3 7 [0, 1, 1, 2, 3, 4, -1]) (by simp) (by simp)).mono ?_
  rintro e w2 ⟨x, rfl, hx, hc2, hg2⟩
  have hx2 : -1000000 ≤ x ∧ x ≤ 1000000 := by
    revert x
    decide
  have hG := (grown_alloc w1 (.cells #[.int .i64 0, .int .i64 1, .int .i64 1, .int .i64 2, .int .i64 3, .int .i64 4, .int .i64 (-1)] 3) (some w.heap.size)).trans hg2
  go_wp2
  go_ret2
  exact ⟨_, xs, x, rfl, hx2, by omega, smp_bd HS.out hl, (Own.of_row (kept_row HS.out.1 hG (by simp))).mono (by simp) (Nat.le_refl _), grown_below (HS.out.2.2.2.2.trans hG)⟩

set_option maxRecDepth 100000 in
set_option maxHeartbeats 1000000 in
theorem drawSmo (w : World) (B : Nat) (v : Value) (h : CodeArg w B v) :
    Calls Try.prog 68 #[v] w fun e w' => ∃ (v' : Value) (xs : List Int) (x : Int), e = .returned (.tuple #[v', .int .i64 x]) ∧ (-1000000 ≤ x ∧ x ≤ 1000000) ∧ DrI w w' v' xs := by
  obtain ⟨h0, ao, n, cap, rfl, h2, h3⟩ := h
  have hcu := Lib.hid (cur_new w B ao n cap h0 h2 h3)
  clear h3
  go_enter Try.func68, Try.ntmps68
  go_wp2_with fail
  refine (cur_samples _ B w.heap.size 0 hcu.out (by omega)).mono ?_
  rintro e w1 ⟨v1, xs, rfl, hl, hS⟩
  obtain ⟨a1, c1, rfl⟩ := hS.2.1
  have HS := Lib.hid hS
  have z1 : w.heap.size + 1 ≤ w1.heap.size := by have := hS.2.2.2.2.size; simpa using this
  clear hS
  go_wp2_with fail
  refine (cur_among _ B w.heap.size _ (HS.out.2.2.2.1.alloc _) (by omega) _ _ (ints_lit w1 w.heap.size (by omega) 3 7 [1, 2, 3, 10, 100, 0, 101]) (by simp) (by simp)).mono ?_
  rintro e w2 ⟨x, rfl, hx, hc2, hg2⟩
  have hx2 : -1000000 ≤ x ∧ x ≤ 1000000 := by
    revert x
    decide
  have hG := (grown_alloc w1 (.cells #[.int .i64 1, .int .i64 2, .int .i64 3, .int .i64 10, .int .i64 100, .int .i64 0, .int .i64 101] 3) (some w.heap.size)).trans hg2
  go_wp2
  go_ret2
  exact ⟨_, xs, x, rfl, hx2, by omega, smp_bd HS.out hl, (Own.of_row (kept_row HS.out.1 hG (by simp))).mono (by simp) (Nat.le_refl _), grown_below (HS.out.2.2.2.2.trans hG)⟩

set_option maxRecDepth 100000 in
set_option maxHeartbeats 1000000 in
theorem drawClp (w : World) (B : Nat) (v : Value) (h : CodeArg w B v) :
    Calls Try.prog 71 #[v] w fun e w' => ∃ (v' : Value) (xs : List Int) (x : Int), e = .returned (.tuple #[v', .int .i64 x]) ∧ (-1000000 ≤ x ∧ x ≤ 1000000) ∧ DrI w w' v' xs := by
  obtain ⟨h0, ao, n, cap, rfl, h2, h3⟩ := h
  have hcu := Lib.hid (cur_new w B ao n cap h0 h2 h3)
  clear h3
  go_enter Try.func71, Try.ntmps71
  go_wp2_with fail
  refine (cur_samples _ B w.heap.size 0 hcu.out (by omega)).mono ?_
  rintro e w1 ⟨v1, xs, rfl, hl, hS⟩
  obtain ⟨a1, c1, rfl⟩ := hS.2.1
  have HS := Lib.hid hS
  have z1 : w.heap.size + 1 ≤ w1.heap.size := by have := hS.2.2.2.2.size; simpa using this
  clear hS
  go_wp2_with fail
  refine (cur_among _ B w.heap.size _ (HS.out.2.2.2.1.alloc _) (by omega) _ _ (ints_lit w1 w.heap.size (by omega) 3 8 [0, 1, 20, 100, 3000, 100000, 100001, -1]) (by simp) (by simp)).mono ?_
  rintro e w2 ⟨x, rfl, hx, hc2, hg2⟩
  have hx2 : -1000000 ≤ x ∧ x ≤ 1000000 := by
    revert x
    decide
  have hG := (grown_alloc w1 (.cells #[.int .i64 0, .int .i64 1, .int .i64 20, .int .i64 100, .int .i64 3000, .int .i64 100000, .int .i64 100001, .int .i64 (-1)] 3) (some w.heap.size)).trans hg2
  go_wp2
  go_ret2
  exact ⟨_, xs, x, rfl, hx2, by omega, smp_bd HS.out hl, (Own.of_row (kept_row HS.out.1 hG (by simp))).mono (by simp) (Nat.le_refl _), grown_below (HS.out.2.2.2.2.trans hG)⟩

theorem drawEv (w : World) (B : Nat) (v : Value) (h : CodeArg w B v) :
    Calls Try.prog 63 #[v] w fun e w' => ∃ (v' : Value) (xs : List Int) (x : Int), e = .returned (.tuple #[v', .int .i64 x]) ∧ (-1000000 ≤ x ∧ x ≤ 1000000) ∧ DrI w w' v' xs := by
  go_enter Try.func63, Try.ntmps63
  go_wp2_with fail
  refine (drawMS w B v h).mono ?_
  rintro e w1 ⟨v1, xs, x, rfl, hx, hD⟩
  obtain ⟨a1, c1, rfl⟩ := hD.2.2.1.form
  go_wp2
  go_ret2
  exact ⟨_, xs, x, rfl, hx, hD⟩

theorem drawCb (w : World) (B : Nat) (v : Value) (h : CodeArg w B v) :
    Calls Try.prog 59 #[v] w fun e w' => ∃ (v' : Value) (xs : List Int) (x : Int), e = .returned (.tuple #[v', .int .i64 x]) ∧ (-1000000 ≤ x ∧ x ≤ 1000000) ∧ DrI w w' v' xs := by
  go_enter Try.func59, Try.ntmps59
  go_wp2_with fail
  refine (drawMS w B v h).mono ?_
  rintro e w1 ⟨v1, xs, x, rfl, hx, hD⟩
  obtain ⟨a1, c1, rfl⟩ := hD.2.2.1.form
  go_wp2
  go_ret2
  exact ⟨_, xs, x, rfl, hx, hD⟩

set_option maxHeartbeats 400000 in
theorem drawTp (w : World) (B : Nat) (v : Value) (h : CodeArg w B v) :
    Calls Try.prog 74 #[v] w fun e w' => ∃ (v' : Value) (xs : List Int), e = .returned v' ∧ DrI w w' v' xs := by
  go_enter Try.func74, Try.ntmps74
  go_wp2_with fail
  refine (drawDif w B v h).mono ?_
  rintro e w1 ⟨v1, xs, rfl, hD⟩
  obtain ⟨a1, c1, rfl⟩ := hD.2.2.1.form
  go_wp2
  go_ret
  exact ⟨_, xs, rfl, hD⟩
set_option maxHeartbeats 400000 in
theorem drawWb (w : World) (B : Nat) (v : Value) (h : CodeArg w B v) :
    Calls Try.prog 62 #[v] w fun e w' => ∃ (v' : Value) (xs : List Int), e = .returned v' ∧ DrI w w' v' xs := by
  obtain ⟨h0, ao, n, cap, rfl, h2, h3⟩ := h
  have hcu := Lib.hid (cur_new w B ao n cap h0 h2 h3)
  clear h3
  go_enter Try.func62, Try.ntmps62
  go_wp2_with fail
  refine (cur_weights _ B w.heap.size 0 hcu.out (by omega)).mono ?_
  rintro e w1 ⟨v1, xs, rfl, hl, hS⟩
  obtain ⟨a1, c1, rfl⟩ := hS.2.1
  have HS := Lib.hid hS
  clear hS
  go_wp2
  go_ret
  exact ⟨_, xs, rfl, by omega, smp_bd HS.out hl, (Own.of_row HS.out.1).mono (by simp) (Nat.le_refl _), grown_below HS.out.2.2.2.2⟩
set_option maxHeartbeats 1000000 in
theorem drawWg (w : World) (B : Nat) (v : Value) (h : CodeArg w B v) :
    Calls Try.prog 51 #[v] w fun e w' => ∃ (v' : Value) (xs : List Int) (u' : Value) (ws : List Int), e = .returned (.tuple #[v', u']) ∧ DrI w w' v' xs ∧ DrI w w' u' ws := by
  obtain ⟨h0, ao, n, cap, rfl, h2, h3⟩ := h
  have hcu := Lib.hid (cur_new w B ao n cap h0 h2 h3)
  clear h3
  go_enter Try.func51, Try.ntmps51
  go_wp2_with fail
  refine (cur_samples _ B w.heap.size 0 hcu.out (by omega)).mono ?_
  rintro e w1 ⟨v1, xs, rfl, hl, hS⟩
  obtain ⟨a1, c1, rfl⟩ := hS.2.1
  have HS := Lib.hid hS
  have z1 : w.heap.size + 1 ≤ w1.heap.size := by have := hS.2.2.2.2.size; simpa using this
  clear hS
  go_wp2_with fail
  refine (cur_weights _ B w.heap.size _ HS.out.2.2.2.1 (by omega)).mono ?_
  rintro e w2 ⟨v2, ws, rfl, hl2, hS2⟩
  obtain ⟨a2, c2, rfl⟩ := hS2.2.1
  have HS2 := Lib.hid hS2
  clear hS2
  have hG := HS2.out.2.2.2.2
  have hB := grown_below (HS.out.2.2.2.2.trans hG)
  go_wp2
  go_ret2
  exact ⟨_, xs, _, ws, rfl, ⟨by omega, smp_bd HS.out hl, (Own.of_row (kept_row HS.out.1 hG (by simp))).mono (by simp) (Nat.le_refl _), hB⟩, ⟨by omega, smp_bd HS2.out hl2, (Own.of_row HS2.out.1).mono (by omega) (Nat.le_refl _), hB⟩⟩
end Go.Proofs.Ytklilfbokpljkaa
