/- FnExactCrossings: the crossings, both programs. -/
import Derived.Test.YtklilfbokpljkacLrg
import Derived.Test.YtklilfbokpljkacCln
import Derived.Test.YtklilfbokpljkacAcc
namespace Go.Proofs.Ytklilfbokpljkac
open Go.ChangeShapes Go.WideShapes Go.ChangeAt Go.RowKit Go.ChangeMaps
set_option linter.unusedSimpArgs false
set_option linter.unusedVariables false

/-- The ticks of the crossings among the first k samples. -/
def cr (xs : List Int) (s : Int) : Nat → List Int
  | 0 => []
  | k + 1 => if 0 < k ∧ (decide (xs.getD (k - 1) 0 < 0) != decide (xs.getD k 0 < 0)) = true then cr xs s k ++ [s + k] else cr xs s k
theorem cr_len (xs : List Int) (s : Int) : ∀ k, (cr xs s k).length ≤ k := by
  intro k
  induction k with
  | zero => simp [cr]
  | succ k ih => simp only [cr]; split <;> (try simp only [List.length_append, List.length_singleton]) <;> omega
def resC (t : Tr) : List Int := if goodT t then cr t.xs t.start t.xs.length else []
theorem resC_len (t : Tr) (h : t.xs.length ≤ 1048576) : (resC t).length ≤ 1048576 := by
  unfold resC
  have := cr_len t.xs t.start t.xs.length
  split
  · omega
  · simp
set_option maxRecDepth 100000 in
set_option maxHeartbeats 1000000 in
theorem implCrs (t : Tr) (v : Value) (w : World) (B : Nat) (h : TrL w B v t) (hB : B ≤ w.heap.size) (hn : t.xs.length ≤ 1048576) :
    Calls Try.prog 29 #[v] w fun e w' => ∃ v', e = .returned (.tuple #[v', .bool (goodT t)]) ∧ Own (Value.int .i64) w' w.heap.size w'.heap.size v' (resC t) ∧ Below w.heap.size w w' := by
  obtain ⟨ao, cap, rfl⟩ := h.form
  have N0 := (Below.refl w.heap.size w).alloc (Nat.le_refl _) (.cells #[.int .i64 t.st, .int .i64 t.start, .slice ao t.xs.length cap] 28)
  have b0 := Bx.new w [.int .i64 t.st, .int .i64 t.start, .slice ao t.xs.length cap] 28
  have h0 := h.below (N0.mono hB)
  cases hg : goodT t with
  | false =>
    have e2 : resC t = [] := by unfold resC; rw [hg]; rfl
    rw [e2]
    clear e2
    have C := Lib.hid (implGoodB t _ _ B false h0 (Nat.le_trans hB N0.size) hg)
    clear hg
    go_enter Try.func29, Try.ntmps29
    go_wp2_with fail
    refine C.out.mono ?_
    rintro e w1 ⟨rfl, hb1⟩
    go_wp2
    go_ret2
    exact ⟨_, rfl, (Own.of_row (World.ownsRow_made (base := w1.heap.size) (e := 3) (size := 1) w1 #[] 0 (Nat.le_refl _) (by simp [maxLen]) rfl)).mono (N0.trans (hb1.mono N0.size)).size (Nat.le_refl _), (N0.trans (hb1.mono N0.size)).alloc (N0.trans (hb1.mono N0.size)).size _⟩
  | true =>
    have C := Lib.hid (implGoodB t _ _ B true h0 (Nat.le_trans hB N0.size) hg)
    obtain ⟨⟨_, _, g1, g2, g3, _⟩, gx⟩ := goodT_yes hg
    have e2 : resC t = cr t.xs t.start t.xs.length := by unfold resC; rw [hg]; rfl
    rw [e2]
    clear e2
    have GX := Lib.hid gx
    have HG := Lib.hid hg
    clear gx hg
    go_enter Try.func29, Try.ntmps29
    go_wp2_with fail
    refine C.out.mono ?_
    rintro e w1 ⟨rfl, hb1⟩
    have b1 := b0.below hb1
    have h1 := h0.below (hb1.mono (Nat.le_trans hB N0.size))
    have B1 := N0.trans (hb1.mono N0.size)
    have z1 : w.heap.size + 1 ≤ w1.heap.size := by have := hb1.size; simpa using this
    clear hb1 b0 h0 h C N0
    have q0 := b1.2 0 _ rfl
    have q1 := b1.2 1 _ rfl
    have q2 := b1.2 2 _ rfl
    obtain ⟨vs, hv, hl1⟩ := h1
    simp only [Value.agg.injEq, Array.mk.injEq, List.cons.injEq, and_true, true_and] at hv
    subst hv
    obtain ⟨ti, hi, hz0, hz1, hz2⟩ := info_parts infoInt
    obtain ⟨ao', cap', hv', hcap, hmax, _, hc⟩ := hl1
    simp only [Value.slice.injEq] at hv'
    obtain ⟨rfl, _, rfl⟩ := hv'
    unfold maxLen at hmax
    have hrow1 := World.ownsRow_made (base := w.heap.size + 1) (e := 3) (size := 1) w1 #[] 0 z1 (by simp [maxLen]) rfl
    have BB : Below (w.heap.size + 1) w1 (w1.alloc (.cells #[] 3)) := (Below.refl _ _).alloc z1 _
    go_wp2
    go_loopw [4, 5] (fun o i wr => ∃ (k : Nat) (v : Value), 1 ≤ k ∧ (k ≤ t.xs.length ∨ k = 1) ∧ i = .int .i64 k ∧ o = v ∧ wr.ownsRow (w.heap.size + 1) 3 1 v (cr t.xs t.start k).length ((cr t.xs t.start k).map (Value.int .i64)) ∧ (∃ ao cap, v = .slice ao (cr t.xs t.start k).length cap) ∧ Below (w.heap.size + 1) w1 wr) (fun _ i _ => t.xs.length - (intOf i).toNat)
    case atStart => exact ⟨1, _, Nat.le_refl _, Or.inr rfl, rfl, rfl, by simpa [cr] using hrow1, ⟨some ⟨w1.heap.size, 0, none⟩, 0, by simp [cr]⟩, BB⟩
    case round =>
      obtain ⟨k, _, hk0, hk, rfl, rfl, hrow, ⟨aoo, capo, rfl⟩, hbl⟩ := hrel
      have q0' := cellOf hbl (by omega) q0
      have q1' := cellOf hbl (by omega) q1
      have q2' := cellOf hbl (by omega) q2
      have zr : w.heap.size + 1 ≤ wr.heap.size := by have := hbl.size; omega
      have hcl := cr_len t.xs t.start k
      clear q0 q1 q2
      by_cases hlt : k < t.xs.length
      · obtain ⟨x, hx⟩ := get_of_lt hlt
        obtain ⟨y, hy⟩ := get_of_lt (l := t.xs) (k := k - 1) (by omega)
        obtain ⟨b, off, rfl, hb, hcx⟩ := hc k x hx
        obtain ⟨b', off', hbb, _, hcy⟩ := hc (k - 1) y hy
        cases hbb
        have hcx' := cellOf hbl (by omega) hcx
        have hcy' := cellOf hbl (by omega) hcy
        have s2 : ((k : Int) - 1).toNat = k - 1 := by omega
        have hs : cr t.xs t.start (k + 1) = if (decide (y < 0) != decide (x < 0)) = true then cr t.xs t.start k ++ [t.start + k] else cr t.xs t.start k := by
          simp only [cr, List.getD, hx, hy, Option.getD_some]
          simp only [show 0 < k by omega, true_and]
        have HS := Lib.hid hs
        have hi0 : (0 : Int) ≤ (k : Int) := by omega
        have hi1 : (k : Int) < (t.xs.length : Int) := by omega
        have hj0 : (0 : Int) ≤ (k : Int) - 1 := by omega
        have hj1 : (k : Int) - 1 < (t.xs.length : Int) := by omega
        have hj2 : (1 : Int) ≤ (k : Int) := by omega
        have hk9 : k ≤ 24 := by omega
        have s1 : IntKind.i64.wrap ((k : Int) - 1) = (k : Int) - 1 := IntWalk.i64_in _ (by omega)
        clear hs hx hy hc hcx hcy
        generalize hcr : cr t.xs t.start k = cs at *
        have HCR := Lib.hid hcr
        clear hcr
        by_cases hx : x < 0
        · by_cases hy : y < 0
          · have f1 : decide (x < 0) = true := by simpa using hx
            have f3 : decide (0 ≤ x) = false := by simp; omega
            have f2 : decide (y < 0) = true := by simpa using hy
            have f4 : decide (0 ≤ y) = false := by simp; omega
            go_wp2
            go_quiet (fail)
            go_wp2
            go_roundw
            case rel =>
              have e : cr t.xs t.start (k + 1) = cs := by rw [HS.out, if_neg (by rw [f1, f2]; simp)]
              exact ⟨k + 1, _, by omega, Or.inl (by omega), by go_num, rfl, by rw [e]; exact row_drewN hrow _, by rw [e]; exact ⟨_, _, rfl⟩, drewN_b hbl _⟩
            case measure => simp [intOf]; omega
          · have f1 : decide (x < 0) = true := by simpa using hx
            have f3 : decide (0 ≤ x) = false := by simp; omega
            have f2 : decide (y < 0) = false := by simpa using hy
            have f4 : decide (0 ≤ y) = true := by simp; omega
            go_wp2
            go_quiet (fail)
            go_wp2_with (at_builtin; refine wpList_append_own _ rfl _ _ 22 rfl (w.heap.size + 1) 3 ti (.int .i64 0) 1 8 Try.underlying22 hi hz0 hz1 hz2 rfl (by decide) _ cs.length (cs.map (Value.int .i64)) rfl ((row_drewN hrow _).alloc _) ⟨wr.heap.size, 0, none⟩ 1 1 [.int .i64 (t.start + k)] rfl rfl (cell_one_new _ _ _) (by simp [Value.oneCell']) (by unfold maxLen; omega) (by omega) (size_da zr) ?_; intro v' w3 hown' hgrow _)
            have b3 := below_app2 (row_drewN hrow _) hgrow zr (Nat.le_refl _)
            have hrow3 : w3.ownsRow (w.heap.size + 1) 3 1 v' (cs ++ [t.start + (k : Int)]).length ((cs ++ [t.start + (k : Int)]).map (Value.int .i64)) := by simpa using hown'
            obtain ⟨a3, c3, rfl⟩ := row_form hrow3
            go_wp2
            go_roundw
            case rel =>
              have e : cr t.xs t.start (k + 1) = cs ++ [t.start + (k : Int)] := by rw [HS.out, if_pos (by rw [f1, f2]; rfl)]
              exact ⟨k + 1, _, by omega, Or.inl (by omega), by go_num, rfl, by rw [e]; exact hrow3, by rw [e]; exact ⟨_, _, rfl⟩, (drewN_b hbl _).trans b3⟩
            case measure => simp [intOf]; omega
        · by_cases hy : y < 0
          · have f1 : decide (x < 0) = false := by simpa using hx
            have f3 : decide (0 ≤ x) = true := by simp; omega
            have f2 : decide (y < 0) = true := by simpa using hy
            have f4 : decide (0 ≤ y) = false := by simp; omega
            go_wp2
            go_quiet (fail)
            go_wp2_with (at_builtin; refine wpList_append_own _ rfl _ _ 22 rfl (w.heap.size + 1) 3 ti (.int .i64 0) 1 8 Try.underlying22 hi hz0 hz1 hz2 rfl (by decide) _ cs.length (cs.map (Value.int .i64)) rfl ((row_drewN hrow _).alloc _) ⟨wr.heap.size, 0, none⟩ 1 1 [.int .i64 (t.start + k)] rfl rfl (cell_one_new _ _ _) (by simp [Value.oneCell']) (by unfold maxLen; omega) (by omega) (size_da zr) ?_; intro v' w3 hown' hgrow _)
            have b3 := below_app2 (row_drewN hrow _) hgrow zr (Nat.le_refl _)
            have hrow3 : w3.ownsRow (w.heap.size + 1) 3 1 v' (cs ++ [t.start + (k : Int)]).length ((cs ++ [t.start + (k : Int)]).map (Value.int .i64)) := by simpa using hown'
            obtain ⟨a3, c3, rfl⟩ := row_form hrow3
            go_wp2
            go_roundw
            case rel =>
              have e : cr t.xs t.start (k + 1) = cs ++ [t.start + (k : Int)] := by rw [HS.out, if_pos (by rw [f1, f2]; rfl)]
              exact ⟨k + 1, _, by omega, Or.inl (by omega), by go_num, rfl, by rw [e]; exact hrow3, by rw [e]; exact ⟨_, _, rfl⟩, (drewN_b hbl _).trans b3⟩
            case measure => simp [intOf]; omega
          · have f1 : decide (x < 0) = false := by simpa using hx
            have f3 : decide (0 ≤ x) = true := by simp; omega
            have f2 : decide (y < 0) = false := by simpa using hy
            have f4 : decide (0 ≤ y) = true := by simp; omega
            go_wp2
            go_quiet (fail)
            go_wp2
            go_roundw
            case rel =>
              have e : cr t.xs t.start (k + 1) = cs := by rw [HS.out, if_neg (by rw [f1, f2]; simp)]
              exact ⟨k + 1, _, by omega, Or.inl (by omega), by go_num, rfl, by rw [e]; exact row_drewN hrow _, by rw [e]; exact ⟨_, _, rfl⟩, drewN_b hbl _⟩
            case measure => simp [intOf]; omega
      · have e : cr t.xs t.start t.xs.length = cr t.xs t.start k := by
          rcases hk with hk | hk
          · rw [show k = t.xs.length by omega]
          · subst hk
            rcases Nat.eq_zero_or_pos t.xs.length with h0 | h0
            · rw [h0]; simp [cr]
            · rw [show t.xs.length = 1 by omega]
        have E := Lib.hid e
        have hk9 : k ≤ 24 := by omega
        clear hc e
        generalize cr t.xs t.start k = cs at *
        go_wp2
        go_ret2
        exact ⟨_, rfl, by rw [E.out]; exact (Own.of_row hrow).mono (by omega) (Nat.le_refl _), B1.trans (hbl.mono (by omega))⟩
set_option maxRecDepth 100000 in
set_option maxHeartbeats 1000000 in
theorem specCrs (t : Tr) (v : Value) (w : World) (B : Nat) (h : TrL w B v t) (hB : B ≤ w.heap.size) (hn : t.xs.length ≤ 1048576) :
    Calls Try.prog 30 #[v] w fun e w' => ∃ v', e = .returned (.tuple #[v', .bool (goodT t)]) ∧ Own (Value.int .i64) w' w.heap.size w'.heap.size v' (resC t) ∧ Below w.heap.size w w' := by
  obtain ⟨ao, cap, rfl⟩ := h.form
  have N0 := (Below.refl w.heap.size w).alloc (Nat.le_refl _) (.cells #[.int .i64 t.st, .int .i64 t.start, .slice ao t.xs.length cap] 28)
  have b0 := Bx.new w [.int .i64 t.st, .int .i64 t.start, .slice ao t.xs.length cap] 28
  have hrow0 := World.ownsRow_made (base := w.heap.size + 1) (e := 3) (size := 1) (w.alloc (.cells #[.int .i64 t.st, .int .i64 t.start, .slice ao t.xs.length cap] 28)) #[] 0 (by simp) (by simp [maxLen]) rfl
  rw [World.size_alloc] at hrow0
  have h0 := (h.below (N0.mono hB)).below ((Below.refl B _).alloc (Nat.le_trans hB N0.size) (.cells #[] 3))
  cases hg : goodT t with
  | false =>
    have e2 : resC t = [] := by unfold resC; rw [hg]; rfl
    rw [e2]
    clear e2
    have C := Lib.hid (specGoodB t _ _ B false h0 (by simp; omega) hg)
    clear hg
    go_enter Try.func30, Try.ntmps30
    go_wp2_with fail
    refine C.out.mono ?_
    rintro e w1 ⟨rfl, hb1⟩
    go_wp2
    go_ret2
    exact ⟨_, rfl, (((Own.of_row hrow0).below hb1).mono (by simp) hb1.size), (N0.alloc N0.size _).trans (hb1.mono (by simp; omega))⟩
  | true =>
    have C := Lib.hid (specGoodB t _ _ B true h0 (by simp; omega) hg)
    obtain ⟨⟨_, _, g1, g2, g3, _⟩, gx⟩ := goodT_yes hg
    have e2 : resC t = cr t.xs t.start t.xs.length := by unfold resC; rw [hg]; rfl
    rw [e2]
    clear e2
    have GX := Lib.hid gx
    have HG := Lib.hid hg
    clear gx hg
    go_enter Try.func30, Try.ntmps30
    go_wp2_with fail
    refine C.out.mono ?_
    rintro e w1 ⟨rfl, hb1⟩
    have b1 := (b0.alloc _).below hb1
    have h1 := h0.below (hb1.mono (by simp; omega))
    have B1 := (N0.alloc N0.size _).trans (hb1.mono (by simp; omega))
    have z1 : w.heap.size + 1 + 1 ≤ w1.heap.size := by have := hb1.size; simpa using this
    have hrow1 := hrow0.kept (World.Below_grown hb1) (Or.inr (by simp [Value.ownBlock]))
    clear hb1 b0 h0 h C N0
    have q0 := b1.2 0 _ rfl
    have q1 := b1.2 1 _ rfl
    have q2 := b1.2 2 _ rfl
    obtain ⟨vs, hv, hl1⟩ := h1
    simp only [Value.agg.injEq, Array.mk.injEq, List.cons.injEq, and_true, true_and] at hv
    subst hv
    obtain ⟨ti, hi, hz0, hz1, hz2⟩ := info_parts infoInt
    obtain ⟨ao', cap', hv', hcap, hmax, _, hc⟩ := hl1
    simp only [Value.slice.injEq] at hv'
    obtain ⟨rfl, _, rfl⟩ := hv'
    unfold maxLen at hmax
    have BB := Below.refl (w.heap.size + 1) w1
    go_wp2
    go_loopw [4, 5] (fun o i wr => ∃ (k : Nat) (v : Value), 1 ≤ k ∧ (k ≤ t.xs.length ∨ k = 1) ∧ i = .int .i64 k ∧ o = v ∧ wr.ownsRow (w.heap.size + 1) 3 1 v (cr t.xs t.start k).length ((cr t.xs t.start k).map (Value.int .i64)) ∧ (∃ ao cap, v = .slice ao (cr t.xs t.start k).length cap) ∧ Below (w.heap.size + 1) w1 wr) (fun _ i _ => t.xs.length - (intOf i).toNat)
    case atStart => exact ⟨1, _, Nat.le_refl _, Or.inr rfl, rfl, rfl, by simpa [cr] using hrow1, ⟨some ⟨w.heap.size + 1, 0, none⟩, 0, by simp [cr]⟩, BB⟩
    case round =>
      obtain ⟨k, _, hk0, hk, rfl, rfl, hrow, ⟨aoo, capo, rfl⟩, hbl⟩ := hrel
      have q0' := cellOf hbl (by omega) q0
      have q1' := cellOf hbl (by omega) q1
      have q2' := cellOf hbl (by omega) q2
      have zr : w.heap.size + 1 ≤ wr.heap.size := by have := hbl.size; omega
      have hcl := cr_len t.xs t.start k
      clear q0 q1 q2
      by_cases hlt : k < t.xs.length
      · obtain ⟨x, hx⟩ := get_of_lt hlt
        obtain ⟨y, hy⟩ := get_of_lt (l := t.xs) (k := k - 1) (by omega)
        obtain ⟨b, off, rfl, hb, hcx⟩ := hc k x hx
        obtain ⟨b', off', hbb, _, hcy⟩ := hc (k - 1) y hy
        cases hbb
        have hcx' := cellOf hbl (by omega) hcx
        have hcy' := cellOf hbl (by omega) hcy
        have s2 : ((k : Int) - 1).toNat = k - 1 := by omega
        have hs : cr t.xs t.start (k + 1) = if (decide (y < 0) != decide (x < 0)) = true then cr t.xs t.start k ++ [t.start + k] else cr t.xs t.start k := by
          simp only [cr, List.getD, hx, hy, Option.getD_some]
          simp only [show 0 < k by omega, true_and]
        have HS := Lib.hid hs
        have hi0 : (0 : Int) ≤ (k : Int) := by omega
        have hi1 : (k : Int) < (t.xs.length : Int) := by omega
        have hj0 : (0 : Int) ≤ (k : Int) - 1 := by omega
        have hj1 : (k : Int) - 1 < (t.xs.length : Int) := by omega
        have hj2 : (1 : Int) ≤ (k : Int) := by omega
        have hk9 : k ≤ 24 := by omega
        have s1 : IntKind.i64.wrap ((k : Int) - 1) = (k : Int) - 1 := IntWalk.i64_in _ (by omega)
        clear hs hx hy hc hcx hcy
        generalize hcr : cr t.xs t.start k = cs at *
        have HCR := Lib.hid hcr
        clear hcr
        by_cases hx : x < 0
        · by_cases hy : y < 0
          · have f1 : decide (x < 0) = true := by simpa using hx
            have f3 : decide (0 ≤ x) = false := by simp; omega
            have f2 : decide (y < 0) = true := by simpa using hy
            have f4 : decide (0 ≤ y) = false := by simp; omega
            go_wp2
            go_quiet (fail)
            go_wp2
            go_roundw
            case rel =>
              have e : cr t.xs t.start (k + 1) = cs := by rw [HS.out, if_neg (by rw [f1, f2]; simp)]
              exact ⟨k + 1, _, by omega, Or.inl (by omega), by go_num, rfl, by rw [e]; exact row_drewN hrow _, by rw [e]; exact ⟨_, _, rfl⟩, drewN_b hbl _⟩
            case measure => simp [intOf]; omega
          · have f1 : decide (x < 0) = true := by simpa using hx
            have f3 : decide (0 ≤ x) = false := by simp; omega
            have f2 : decide (y < 0) = false := by simpa using hy
            have f4 : decide (0 ≤ y) = true := by simp; omega
            go_wp2
            go_quiet (fail)
            go_wp2_with (at_builtin; refine wpList_append_own _ rfl _ _ 22 rfl (w.heap.size + 1) 3 ti (.int .i64 0) 1 8 Try.underlying22 hi hz0 hz1 hz2 rfl (by decide) _ cs.length (cs.map (Value.int .i64)) rfl ((row_drewN hrow _).alloc _) ⟨wr.heap.size, 0, none⟩ 1 1 [.int .i64 (t.start + k)] rfl rfl (cell_one_new _ _ _) (by simp [Value.oneCell']) (by unfold maxLen; omega) (by omega) (size_da zr) ?_; intro v' w3 hown' hgrow _)
            have b3 := below_app2 (row_drewN hrow _) hgrow zr (Nat.le_refl _)
            have hrow3 : w3.ownsRow (w.heap.size + 1) 3 1 v' (cs ++ [t.start + (k : Int)]).length ((cs ++ [t.start + (k : Int)]).map (Value.int .i64)) := by simpa using hown'
            obtain ⟨a3, c3, rfl⟩ := row_form hrow3
            go_wp2
            go_roundw
            case rel =>
              have e : cr t.xs t.start (k + 1) = cs ++ [t.start + (k : Int)] := by rw [HS.out, if_pos (by rw [f1, f2]; rfl)]
              exact ⟨k + 1, _, by omega, Or.inl (by omega), by go_num, rfl, by rw [e]; exact hrow3, by rw [e]; exact ⟨_, _, rfl⟩, (drewN_b hbl _).trans b3⟩
            case measure => simp [intOf]; omega
        · by_cases hy : y < 0
          · have f1 : decide (x < 0) = false := by simpa using hx
            have f3 : decide (0 ≤ x) = true := by simp; omega
            have f2 : decide (y < 0) = true := by simpa using hy
            have f4 : decide (0 ≤ y) = false := by simp; omega
            go_wp2
            go_quiet (fail)
            go_wp2_with (at_builtin; refine wpList_append_own _ rfl _ _ 22 rfl (w.heap.size + 1) 3 ti (.int .i64 0) 1 8 Try.underlying22 hi hz0 hz1 hz2 rfl (by decide) _ cs.length (cs.map (Value.int .i64)) rfl ((row_drewN hrow _).alloc _) ⟨wr.heap.size, 0, none⟩ 1 1 [.int .i64 (t.start + k)] rfl rfl (cell_one_new _ _ _) (by simp [Value.oneCell']) (by unfold maxLen; omega) (by omega) (size_da zr) ?_; intro v' w3 hown' hgrow _)
            have b3 := below_app2 (row_drewN hrow _) hgrow zr (Nat.le_refl _)
            have hrow3 : w3.ownsRow (w.heap.size + 1) 3 1 v' (cs ++ [t.start + (k : Int)]).length ((cs ++ [t.start + (k : Int)]).map (Value.int .i64)) := by simpa using hown'
            obtain ⟨a3, c3, rfl⟩ := row_form hrow3
            go_wp2
            go_roundw
            case rel =>
              have e : cr t.xs t.start (k + 1) = cs ++ [t.start + (k : Int)] := by rw [HS.out, if_pos (by rw [f1, f2]; rfl)]
              exact ⟨k + 1, _, by omega, Or.inl (by omega), by go_num, rfl, by rw [e]; exact hrow3, by rw [e]; exact ⟨_, _, rfl⟩, (drewN_b hbl _).trans b3⟩
            case measure => simp [intOf]; omega
          · have f1 : decide (x < 0) = false := by simpa using hx
            have f3 : decide (0 ≤ x) = true := by simp; omega
            have f2 : decide (y < 0) = false := by simpa using hy
            have f4 : decide (0 ≤ y) = true := by simp; omega
            go_wp2
            go_quiet (fail)
            go_wp2
            go_roundw
            case rel =>
              have e : cr t.xs t.start (k + 1) = cs := by rw [HS.out, if_neg (by rw [f1, f2]; simp)]
              exact ⟨k + 1, _, by omega, Or.inl (by omega), by go_num, rfl, by rw [e]; exact row_drewN hrow _, by rw [e]; exact ⟨_, _, rfl⟩, drewN_b hbl _⟩
            case measure => simp [intOf]; omega
      · have e : cr t.xs t.start t.xs.length = cr t.xs t.start k := by
          rcases hk with hk | hk
          · rw [show k = t.xs.length by omega]
          · subst hk
            rcases Nat.eq_zero_or_pos t.xs.length with h0 | h0
            · rw [h0]; simp [cr]
            · rw [show t.xs.length = 1 by omega]
        have E := Lib.hid e
        have hk9 : k ≤ 24 := by omega
        clear hc e
        generalize cr t.xs t.start k = cs at *
        go_wp2
        go_ret2
        exact ⟨_, rfl, by rw [E.out]; exact (Own.of_row hrow).mono (by omega) (Nat.le_refl _), B1.trans (hbl.mono (by omega))⟩

end Go.Proofs.Ytklilfbokpljkac
