/- The specification's draws of two tracks. -/
import Derived.Test.YtklilfbokpljkacDrL
import Derived.Test.YtklilfbokpljkacTkH
namespace Go.Proofs.Ytklilfbokpljkac
open Go.ChangeShapes Go.WideShapes Go.ChangeAt Go.RowKit Go.ChangeMaps
set_option linter.unusedSimpArgs false
set_option linter.unusedVariables false
set_option linter.unusedSimpArgs false
set_option linter.unusedVariables false

set_option maxRecDepth 100000 in
set_option maxHeartbeats 2000000 in
theorem drawMrg (w : World) (B : Nat) (v : Value) (h : CodeArg w B v) :
    Calls Try.prog 68 #[v] w fun e w' => ∃ (v1 v2 : Value) (xs ys : List GClockMark), e = .returned (.tuple #[v1, v2]) ∧ DrTk w w' v1 xs ∧ DrTk w w' v2 ys := by
  obtain ⟨h0, ao, n, cap, rfl, h2, h3⟩ := h
  have hcu := cur_new w B ao n cap h0 h2 h3
  have hbw : w.heap.size < (w.alloc (.cells #[.slice ao n cap, .int .i64 0, .int .u64 0] 87)).heap.size := by simp
  clear h3
  go_enter Try.func68, Try.ntmps68
  go_wp2_with fail
  refine (cur_track _ B w.heap.size 0 hcu (by omega)).mono ?_
  rintro e w1 ⟨v1, xs, rfl, hl, hbd, hO, hc1, hg1⟩
  have HO1 := Lib.hid hO
  have HBD := Lib.hid hbd
  obtain ⟨a1, c1, rfl⟩ := hO.form
  clear hO hcu hbd
  have hl0 : (xs.length : Int) ≤ 11 := by omega
  have two : ∀ w2 k2, Hid (ClockMarkO w2 (w.alloc (.cells #[.slice ao n cap, .int .i64 0, .int .u64 0] 87)).heap.size w2.heap.size (.slice a1 xs.length c1) xs) → k2 ≤ 100000 → Cur w2 B w.heap.size k2 → (w.alloc (.cells #[.slice ao n cap, .int .i64 0, .int .u64 0] 87)).grownBy w2 (some w.heap.size) →
      Calls Try.prog 93 #[.pointer (some ⟨w.heap.size, 0, none⟩)] w2 fun e w' => ∃ (v2 : Value) (ys : List GClockMark), e = .returned v2 ∧ DrTk w w' (.slice a1 xs.length c1) xs ∧ DrTk w w' v2 ys := fun w2 k2 ho hk hc hg => (cur_track w2 B w.heap.size k2 hc (by omega)).mono (by
        rintro e w3 ⟨v2, ys, rfl, hl2, hbd2, hO2, hc3, hg3⟩
        have G := grown_below (hg.trans hg3)
        exact ⟨v2, ys, rfl, ⟨(own_drew ho.out hg3 hbw).lst.mono hg3.size, hl, HBD.out, G⟩, ⟨hO2.lst, hl2, hbd2, G⟩⟩)
  have HT := Lib.hid two
  clear two
  by_cases h3 : 3 < xs.length
  case neg =>
    have h3i : ¬ (3 : Int) < (xs.length : Int) := by omega
    clear h3
    go_wp2_with fail
    refine (HT.out _ _ HO1 (by omega) hc1 hg1).mono ?_
    rintro e w3 ⟨v2, ys, rfl, hD1, hD2⟩
    have HD := Lib.hid (And.intro hD1 hD2)
    obtain ⟨a2, c2, rfl⟩ := hD2.lst.form
    clear hD1 hD2
    go_wp2
    go_ret2
    exact ⟨_, _, xs, ys, rfl, HD.out.1, HD.out.2⟩
  have h3i : (3 : Int) < (xs.length : Int) := by omega
  go_wp2_with fail
  refine (cur_one _ B w.heap.size _ 2 hc1 (by omega) (by omega) (by omega)).mono ?_
  rintro e w2 ⟨x, rfl, hc2, hg2⟩
  have HO2 := Lib.hid ((own_drew HO1.out hg2 hbw).mono (Nat.le_refl _) hg2.size)
  have G2 := hg1.trans hg2
  clear HO1 hg1 hg2 hc1
  cases x with
  | false =>
    go_wp2_with fail
    refine (HT.out _ _ HO2 (by omega) hc2 G2).mono ?_
    rintro e w3 ⟨v2, ys, rfl, hD1, hD2⟩
    have HD := Lib.hid (And.intro hD1 hD2)
    obtain ⟨a2, c2, rfl⟩ := hD2.lst.form
    clear hD1 hD2
    go_wp2
    go_ret2
    exact ⟨_, _, xs, ys, rfl, HD.out.1, HD.out.2⟩
  | true =>
    obtain ⟨ti, hi, hz0, hz1, hz2⟩ := info_parts info_ClockMark
    have hlst := HO2.out.lst
    obtain ⟨bb, off, cap4, e4, hcap, hmax, hbb, -, hsrc⟩ := lst_parts hlst (Nat.le_refl _) (by omega)
    simp only [Value.slice.injEq, true_and] at e4
    obtain ⟨rfl, rfl⟩ := e4
    unfold maxLen at hmax
    have hG := grown_below G2
    have hz := hG.size
    have q1 := hsrc w2 (Below.refl _ _) 0 3 c1 (Nat.zero_le _) (by omega)
    have q2 := hsrc w2 (Below.refl _ _) 1 xs.length (c1 - 1) (by omega) (Nat.le_refl _)
    have e5 : off + 0 * 2 = off := by omega
    have e6 : off + 1 * 2 = off + 2 := by omega
    have e7 : (xs.drop 1).take (xs.length - 1) = xs.drop 1 := List.take_of_length_le (by rw [List.length_drop]; exact Nat.le_refl _)
    rw [e5, Nat.sub_zero, List.drop_zero] at q1
    rw [e6, e7] at q2
    have Q1 := Lib.hid q1
    have Q2 := Lib.hid q2
    clear q1 q2 e5 e6 e7 hsrc hlst HO2 HT hc2
    have hcc1 : ¬ c1 = 1 := by omega
    have hcc3 : (3 : Int) ≤ (c1 : Int) := by omega
    have hcc4 : (1 : Int) ≤ (xs.length : Int) := by omega
    have hcc5 : 3 ≤ c1 := by omega
    have KA : Below w2.heap.size w2 (w2.alloc (.cells #[] 50)).drew := ((Below.refl _ _).alloc (Nat.le_refl _) _).drew
    have KB : Below w2.heap.size w2 ((w2.alloc (.cells #[] 50)).alloc (.cells #[] 50)).drew := (((Below.refl _ _).alloc (Nat.le_refl _) _).alloc (by first | omega | (simp; done) | (simp; omega)) _).drew
    have rA : (w2.alloc (.cells #[] 50)).drew.ownsRow w2.heap.size 50 2 (.slice (some ⟨w2.heap.size, 0, none⟩) 0 0) 0 [] := rowK_empty w2 _ _ (Nat.le_refl _)
    have rB0 : ((w2.alloc (.cells #[] 50)).alloc (.cells #[] 50)).drew.ownsRow w2.heap.size 50 2 (.slice (some ⟨w2.heap.size, 0, none⟩) 0 0) 0 [] := (rowK_empty w2 _ _ (Nat.le_refl _)).alloc _
    have rB1 : ((w2.alloc (.cells #[] 50)).alloc (.cells #[] 50)).drew.ownsRow w2.heap.size 50 2 (.slice (some ⟨w2.heap.size + 1, 0, none⟩) 0 0) 0 [] := by
      have := rowK_empty (w2.alloc (.cells #[] 50)) (base := w2.heap.size) 50 2 (by first | omega | (simp; done) | (simp; omega))
      rw [World.size_alloc] at this
      exact this
    go_wp2
    go_region_held3 (fun w' => Below w2.heap.size w2 w')
      (first
        | exact (Below.refl _ _).drew
        | with_reducible assumption)
      (first
        | (refine step_append_srcK (((w2.alloc (.cells #[] 50)).alloc (.cells #[] 50)).drew) (by rfl) _ _ _ (by rfl) w2.heap.size 50 ti (.agg #[.int .i64 0, .int .i64 0]) 2 16 Try.underlying45 hi hz0 hz1 hz2 rfl (by decide) _ (0) ([]) (by rfl) (rB0) _ (3) (((xs.take 3).flatMap encClockMark)) (by rfl) (Q1.out.below KB) (by unfold maxLen; omega) (by omega) (by first | omega | (simp; done) | (simp; omega)) ?_; intro v5 w5 hr5 hg5 hat5; have B5 : Below w2.heap.size w2 w5 := Below.grown KB hg5 (by first | omega | (simp; done) | (simp; omega)) (by intro q hq; cases hq; simp); have z5 := B5.size; have e5 : w5.ownsRow w2.heap.size 50 2 (.slice (some ⟨w2.heap.size + 1, 0, none⟩) 0 0) 0 [] := rB1.kept hg5 (Or.inr (by simp [Value.ownBlock])); have n5 : v5.ownBlock ≠ some (w2.heap.size + 1) := own_neM hat5 (by first | (simp [Value.ownBlock]; done) | (simp [Value.ownBlock]; omega)) (by first | omega | (simp; done) | (simp; omega)); clear hg5 hat5)
        | (refine step_append_srcK (((w2.alloc (.cells #[] 50)).alloc (.cells #[] 50)).drew) (by rfl) _ _ _ (by rfl) w2.heap.size 50 ti (.agg #[.int .i64 0, .int .i64 0]) 2 16 Try.underlying45 hi hz0 hz1 hz2 rfl (by decide) _ (0) ([]) (by rfl) (rB1) _ (3) (((xs.take 3).flatMap encClockMark)) (by rfl) (Q1.out.below KB) (by unfold maxLen; omega) (by omega) (by first | omega | (simp; done) | (simp; omega)) ?_; intro v5 w5 hr5 hg5 hat5; have B5 : Below w2.heap.size w2 w5 := Below.grown KB hg5 (by first | omega | (simp; done) | (simp; omega)) (by intro q hq; cases hq; simp); have z5 := B5.size; have e5 : w5.ownsRow w2.heap.size 50 2 (.slice (some ⟨w2.heap.size, 0, none⟩) 0 0) 0 [] := rB0.kept hg5 (Or.inr (by simp [Value.ownBlock])); have n5 : v5.ownBlock ≠ some w2.heap.size := own_neM hat5 (by first | (simp [Value.ownBlock]; done) | (simp [Value.ownBlock]; omega)) (by first | omega | (simp; done) | (simp; omega)); clear hg5 hat5)
        | (refine step_append_srcK ((w2.alloc (.cells #[] 50)).drew) (by rfl) _ _ _ (by rfl) w2.heap.size 50 ti (.agg #[.int .i64 0, .int .i64 0]) 2 16 Try.underlying45 hi hz0 hz1 hz2 rfl (by decide) _ (0) ([]) (by rfl) (rA) _ (3) (((xs.take 3).flatMap encClockMark)) (by rfl) (Q1.out.below KA) (by unfold maxLen; omega) (by omega) (by first | omega | (simp; done) | (simp; omega)) ?_; intro v5 w5 hr5 hg5 hat5; have B5 : Below w2.heap.size w2 w5 := Below.grown KA hg5 (by first | omega | (simp; done) | (simp; omega)) (by intro q hq; cases hq; simp); have z5 := B5.size; have B5a : Below w2.heap.size w2 (w5.alloc (.cells #[] 50)) := B5.alloc z5 _; have e5a : (w5.alloc (.cells #[] 50)).ownsRow w2.heap.size 50 2 (.slice (some ⟨w5.heap.size, 0, none⟩) 0 0) 0 [] := rowK_empty w5 _ _ z5; have r5a := hr5.alloc (.cells #[] 50); have n5 : v5.ownBlock ≠ some w5.heap.size := (fun e => by have := (hr5.lt _ e).2; omega); clear hg5 hat5)
        | (refine step_append_srcK (((w2.alloc (.cells #[] 50)).alloc (.cells #[] 50)).drew) (by rfl) _ _ _ (by rfl) w2.heap.size 50 ti (.agg #[.int .i64 0, .int .i64 0]) 2 16 Try.underlying45 hi hz0 hz1 hz2 rfl (by decide) _ (0) ([]) (by rfl) (rB0) _ ((xs.length - 1)) (((xs.drop 1).flatMap encClockMark)) (by rfl) (Q2.out.below KB) (by unfold maxLen; omega) (by omega) (by first | omega | (simp; done) | (simp; omega)) ?_; intro v5 w5 hr5 hg5 hat5; have B5 : Below w2.heap.size w2 w5 := Below.grown KB hg5 (by first | omega | (simp; done) | (simp; omega)) (by intro q hq; cases hq; simp); have z5 := B5.size; have e5 : w5.ownsRow w2.heap.size 50 2 (.slice (some ⟨w2.heap.size + 1, 0, none⟩) 0 0) 0 [] := rB1.kept hg5 (Or.inr (by simp [Value.ownBlock])); have n5 : v5.ownBlock ≠ some (w2.heap.size + 1) := own_neM hat5 (by first | (simp [Value.ownBlock]; done) | (simp [Value.ownBlock]; omega)) (by first | omega | (simp; done) | (simp; omega)); clear hg5 hat5)
        | (refine step_append_srcK (((w2.alloc (.cells #[] 50)).alloc (.cells #[] 50)).drew) (by rfl) _ _ _ (by rfl) w2.heap.size 50 ti (.agg #[.int .i64 0, .int .i64 0]) 2 16 Try.underlying45 hi hz0 hz1 hz2 rfl (by decide) _ (0) ([]) (by rfl) (rB1) _ ((xs.length - 1)) (((xs.drop 1).flatMap encClockMark)) (by rfl) (Q2.out.below KB) (by unfold maxLen; omega) (by omega) (by first | omega | (simp; done) | (simp; omega)) ?_; intro v5 w5 hr5 hg5 hat5; have B5 : Below w2.heap.size w2 w5 := Below.grown KB hg5 (by first | omega | (simp; done) | (simp; omega)) (by intro q hq; cases hq; simp); have z5 := B5.size; have e5 : w5.ownsRow w2.heap.size 50 2 (.slice (some ⟨w2.heap.size, 0, none⟩) 0 0) 0 [] := rB0.kept hg5 (Or.inr (by simp [Value.ownBlock])); have n5 : v5.ownBlock ≠ some w2.heap.size := own_neM hat5 (by first | (simp [Value.ownBlock]; done) | (simp [Value.ownBlock]; omega)) (by first | omega | (simp; done) | (simp; omega)); clear hg5 hat5)
        | (refine step_append_srcK ((w2.alloc (.cells #[] 50)).drew) (by rfl) _ _ _ (by rfl) w2.heap.size 50 ti (.agg #[.int .i64 0, .int .i64 0]) 2 16 Try.underlying45 hi hz0 hz1 hz2 rfl (by decide) _ (0) ([]) (by rfl) (rA) _ ((xs.length - 1)) (((xs.drop 1).flatMap encClockMark)) (by rfl) (Q2.out.below KA) (by unfold maxLen; omega) (by omega) (by first | omega | (simp; done) | (simp; omega)) ?_; intro v5 w5 hr5 hg5 hat5; have B5 : Below w2.heap.size w2 w5 := Below.grown KA hg5 (by first | omega | (simp; done) | (simp; omega)) (by intro q hq; cases hq; simp); have z5 := B5.size; have B5a : Below w2.heap.size w2 (w5.alloc (.cells #[] 50)) := B5.alloc z5 _; have e5a : (w5.alloc (.cells #[] 50)).ownsRow w2.heap.size 50 2 (.slice (some ⟨w5.heap.size, 0, none⟩) 0 0) 0 [] := rowK_empty w5 _ _ z5; have r5a := hr5.alloc (.cells #[] 50); have n5 : v5.ownBlock ≠ some w5.heap.size := (fun e => by have := (hr5.lt _ e).2; omega); clear hg5 hat5)
        | (refine step_append_srcK (w5) (by rfl) _ _ _ (by rfl) w2.heap.size 50 ti (.agg #[.int .i64 0, .int .i64 0]) 2 16 Try.underlying45 hi hz0 hz1 hz2 rfl (by decide) _ (0) ([]) (by rfl) (e5) _ (3) (((xs.take 3).flatMap encClockMark)) (by rfl) (Q1.out.below B5) (by unfold maxLen; omega) (by omega) (by first | omega | (simp; done) | (simp; omega)) ?_; intro v6 w6 hr6 hg6 hat6; have B6 : Below w2.heap.size w2 w6 := Below.grown B5 hg6 (by first | omega | (simp; done) | (simp; omega)) (fun q hq => (e5.lt q hq).1); have r56 := hr5.kept hg6 (Or.inr (fun e => n5 e)); clear hg6 hat6)
        | (refine step_append_srcK (w5.alloc (.cells #[] 50)) (by rfl) _ _ _ (by rfl) w2.heap.size 50 ti (.agg #[.int .i64 0, .int .i64 0]) 2 16 Try.underlying45 hi hz0 hz1 hz2 rfl (by decide) _ (0) ([]) (by rfl) (e5a) _ (3) (((xs.take 3).flatMap encClockMark)) (by rfl) (Q1.out.below B5a) (by unfold maxLen; omega) (by omega) (by first | omega | (simp; done) | (simp; omega)) ?_; intro v6 w6 hr6 hg6 hat6; have B6 : Below w2.heap.size w2 w6 := Below.grown B5a hg6 (by first | omega | (simp; done) | (simp; omega)) (fun q hq => (e5a.lt q hq).1); have r56 := r5a.kept hg6 (Or.inr (fun e => n5 e)); clear hg6 hat6)
        | (refine step_append_srcK (w5) (by rfl) _ _ _ (by rfl) w2.heap.size 50 ti (.agg #[.int .i64 0, .int .i64 0]) 2 16 Try.underlying45 hi hz0 hz1 hz2 rfl (by decide) _ (0) ([]) (by rfl) (e5) _ ((xs.length - 1)) (((xs.drop 1).flatMap encClockMark)) (by rfl) (Q2.out.below B5) (by unfold maxLen; omega) (by omega) (by first | omega | (simp; done) | (simp; omega)) ?_; intro v6 w6 hr6 hg6 hat6; have B6 : Below w2.heap.size w2 w6 := Below.grown B5 hg6 (by first | omega | (simp; done) | (simp; omega)) (fun q hq => (e5.lt q hq).1); have r56 := hr5.kept hg6 (Or.inr (fun e => n5 e)); clear hg6 hat6)
        | (refine step_append_srcK (w5.alloc (.cells #[] 50)) (by rfl) _ _ _ (by rfl) w2.heap.size 50 ti (.agg #[.int .i64 0, .int .i64 0]) 2 16 Try.underlying45 hi hz0 hz1 hz2 rfl (by decide) _ (0) ([]) (by rfl) (e5a) _ ((xs.length - 1)) (((xs.drop 1).flatMap encClockMark)) (by rfl) (Q2.out.below B5a) (by unfold maxLen; omega) (by omega) (by first | omega | (simp; done) | (simp; omega)) ?_; intro v6 w6 hr6 hg6 hat6; have B6 : Below w2.heap.size w2 w6 := Below.grown B5a hg6 (by first | omega | (simp; done) | (simp; omega)) (fun q hq => (e5a.lt q hq).1); have r56 := r5a.kept hg6 (Or.inr (fun e => n5 e)); clear hg6 hat6))
    all_goals
      rw [Nat.zero_add, List.nil_append] at r56 hr6
      have HA := Lib.hid (OwnK.of_row encClockMark_len (by omega) r56).lst
      have HB := Lib.hid (OwnK.of_row encClockMark_len (by omega) hr6).lst
      have C6 : Below w.heap.size w w6 := hG.trans (B6.mono hz)
      have e3 : (xs.take 3).length = 3 := by rw [List.length_take]; omega
      have e4 : (xs.drop 1).length = xs.length - 1 := by rw [List.length_drop]
      obtain ⟨a5, c5, rfl⟩ := row_form r56
      obtain ⟨a6, c6, rfl⟩ := row_form hr6
      have HE := Lib.hid (And.intro e3 e4)
      clear r56 hr6 e3 e4 n5 hcc1 hcc3 hcc4 hcc5 KA KB
      go_wp2
      go_ret2
      exact ⟨_, _, xs.take 3, xs.drop 1, rfl, ⟨HA.out, ⟨by rw [HE.out.1]; omega, by rw [HE.out.1]; omega⟩, fun s hs => HBD.out s (List.mem_of_mem_take hs), C6⟩, ⟨HB.out, ⟨by rw [HE.out.2]; omega, by rw [HE.out.2]; omega⟩, fun s hs => HBD.out s (List.mem_of_mem_drop hs), C6⟩⟩
end Go.Proofs.Ytklilfbokpljkac
