/- The specification's cut. -/
import Derived.Test.YtedngmnjpkhbiaaDoorCut
namespace Go.Proofs.YtedngmnjpkhbiaaDoor
open Go.ChangeShapes Go.WideShapes Go.ChangeAt Go.RowKit Go.ChangeMaps
set_option linter.unusedSimpArgs false
set_option linter.unusedVariables false

set_option maxHeartbeats 1000000 in
theorem specCut (t : Tr) (v : Value) (k m : Int) (w : World) (B : Nat) (h : TrL w B v t) (hB : B ≤ w.heap.size) (hn : t.xs.length ≤ 1048576) (_ : I64 k) (_ : I64 m) :
    Calls Tryd.prog 16 #[v, .int .i64 k, .int .i64 m] w fun e w' => ∃ v', e = .returned (.tuple #[v', .bool (okCut t k m)]) ∧ TrO w' w.heap.size w'.heap.size v' (resCut t k m) ∧ Below w.heap.size w w' := by
  obtain ⟨ao, cap, rfl⟩ := h.form
  have N0 := ((Below.refl w.heap.size w).alloc (Nat.le_refl _) (.cells #[.int .i64 t.st, .int .i64 t.start, .slice ao t.xs.length cap] 26)).alloc (by simp) (.cells #[.int .i64 0, .int .i64 0, .slice none 0 0] 26)
  have b0 := (Bx.new w [.int .i64 t.st, .int .i64 t.start, .slice ao t.xs.length cap] 26).alloc (.cells #[.int .i64 0, .int .i64 0, .slice none 0 0] 26)
  have d0 := Bx.new1 w (.cells #[.int .i64 t.st, .int .i64 t.start, .slice ao t.xs.length cap] 26) [.int .i64 0, .int .i64 0, .slice none 0 0] 26
  have h0 := h.below (N0.mono hB)
  cases hg : goodT t with
  | false =>
    have e1 : okCut t k m = false := by unfold okCut; simp [hg]
    have e2 : resCut t k m = nilT := by unfold resCut; rw [e1]; rfl
    rw [e1, e2]
    have C := Lib.hid (specGoodB t _ _ B false h0 (Nat.le_trans hB N0.size) hg)
    clear e1 e2 hg
    go_enter Tryd.func16, Tryd.ntmps16
    go_wp2_with fail
    refine C.out.mono ?_
    rintro e w1 ⟨rfl, hb1⟩
    have B1 := N0.trans (hb1.mono N0.size)
    have b1 := b0.below hb1
    have d1 := d0.below hb1
    have h1 := h0.below (hb1.mono (Nat.le_trans hB N0.size))
    clear hb1 b0 d0 h0
    have x0 := d1.2 0 _ rfl
    have x1 := d1.2 1 _ rfl
    have x2 := d1.2 2 _ rfl
    have x3 := d1.1.2
    go_wp2
    refine bodyPost_ret (v := .tuple #[.agg #[.int .i64 0, .int .i64 0, .slice none 0 0], .bool false]) (by simp [results, Tryd.results16, go_sem, x0, x1, x2]) rfl ⟨_, rfl, ⟨_, rfl, Own.nil _ _ _⟩, ?_⟩
    exact ((B1.setCell (by first | omega | (simp; done) | (simp; omega)) _).setCell (by first | omega | (simp; done) | (simp; omega)) _).setCell (by first | omega | (simp; done) | (simp; omega)) _
  | true =>
    have C := Lib.hid (specGoodB t _ _ B true h0 (Nat.le_trans hB N0.size) hg)
    obtain ⟨⟨_, _, g1, g2, g3, _⟩, _⟩ := goodT_yes hg
    cases hk : hasT t k with
    | false =>
      have e1 : okCut t k m = false := by unfold okCut; simp [hk]
      have e2 : resCut t k m = nilT := by unfold resCut; rw [e1]; rfl
      rw [e1, e2]
      have HK := Lib.hid hk
      clear e1 e2 hg hk
      go_enter Tryd.func16, Tryd.ntmps16
      go_wp2_with fail
      refine C.out.mono ?_
      rintro e w1 ⟨rfl, hb1⟩
      have B1 := N0.trans (hb1.mono N0.size)
      have b1 := b0.below hb1
      have d1 := d0.below hb1
      have h1 := h0.below (hb1.mono (Nat.le_trans hB N0.size))
      clear hb1 b0 d0 h0
      have q0 := b1.2 0 _ rfl
      have q1 := b1.2 1 _ rfl
      have q2 := b1.2 2 _ rfl
      go_wp2_with fail
      refine (specHas t _ k _ B h1 (Nat.le_trans hB B1.size) g1 g2 g3).mono ?_
      rw [HK.out]
      rintro e w2 ⟨rfl, hb2⟩
      have B2 := B1.trans (hb2.mono B1.size)
      have b2 := b1.below hb2
      have d2 := d1.below hb2
      have h2 := h1.below (hb2.mono (Nat.le_trans hB B1.size))
      clear hb2 b1 d1 h1 q0 q1 q2
      have x0 := d2.2 0 _ rfl
      have x1 := d2.2 1 _ rfl
      have x2 := d2.2 2 _ rfl
      have x3 := d2.1.2
      go_wp2
      refine bodyPost_ret (v := .tuple #[.agg #[.int .i64 0, .int .i64 0, .slice none 0 0], .bool false]) (by simp [results, Tryd.results16, go_sem, x0, x1, x2]) rfl ⟨_, rfl, ⟨_, rfl, Own.nil _ _ _⟩, ?_⟩
      exact ((B2.setCell (by first | omega | (simp; done) | (simp; omega)) _).setCell (by first | omega | (simp; done) | (simp; omega)) _).setCell (by first | omega | (simp; done) | (simp; omega)) _
    | true =>
      have HK := Lib.hid hk
      cases hm : hasT t m with
      | false =>
        have e1 : okCut t k m = false := by unfold okCut; simp [hm]
        have e2 : resCut t k m = nilT := by unfold resCut; rw [e1]; rfl
        rw [e1, e2]
        have HM := Lib.hid hm
        clear e1 e2 hg hk hm
        go_enter Tryd.func16, Tryd.ntmps16
        go_wp2_with fail
        refine C.out.mono ?_
        rintro e w1 ⟨rfl, hb1⟩
        have B1 := N0.trans (hb1.mono N0.size)
        have b1 := b0.below hb1
        have d1 := d0.below hb1
        have h1 := h0.below (hb1.mono (Nat.le_trans hB N0.size))
        clear hb1 b0 d0 h0
        have q0 := b1.2 0 _ rfl
        have q1 := b1.2 1 _ rfl
        have q2 := b1.2 2 _ rfl
        go_wp2_with fail
        refine (specHas t _ k _ B h1 (Nat.le_trans hB B1.size) g1 g2 g3).mono ?_
        rw [HK.out]
        rintro e w2 ⟨rfl, hb2⟩
        have B2 := B1.trans (hb2.mono B1.size)
        have b2 := b1.below hb2
        have d2 := d1.below hb2
        have h2 := h1.below (hb2.mono (Nat.le_trans hB B1.size))
        clear hb2 b1 d1 h1 q0 q1 q2
        have q0 := b2.2 0 _ rfl
        have q1 := b2.2 1 _ rfl
        have q2 := b2.2 2 _ rfl
        go_wp2_with fail
        refine (specHas t _ m _ B h2 (Nat.le_trans hB B2.size) g1 g2 g3).mono ?_
        rw [HM.out]
        rintro e w3 ⟨rfl, hb3⟩
        have B3 := B2.trans (hb3.mono B2.size)
        have b3 := b2.below hb3
        have d3 := d2.below hb3
        have h3 := h2.below (hb3.mono (Nat.le_trans hB B2.size))
        clear hb3 b2 d2 h2 q0 q1 q2
        have x0 := d3.2 0 _ rfl
        have x1 := d3.2 1 _ rfl
        have x2 := d3.2 2 _ rfl
        have x3 := d3.1.2
        go_wp2
        refine bodyPost_ret (v := .tuple #[.agg #[.int .i64 0, .int .i64 0, .slice none 0 0], .bool false]) (by simp [results, Tryd.results16, go_sem, x0, x1, x2]) rfl ⟨_, rfl, ⟨_, rfl, Own.nil _ _ _⟩, ?_⟩
        exact ((B3.setCell (by first | omega | (simp; done) | (simp; omega)) _).setCell (by first | omega | (simp; done) | (simp; omega)) _).setCell (by first | omega | (simp; done) | (simp; omega)) _
      | true =>
        have HM := Lib.hid hm
        cases hl : decide (k ≤ m) with
        | false =>
          have e1 : okCut t k m = false := by unfold okCut; simp [hl]
          have e2 : resCut t k m = nilT := by unfold resCut; rw [e1]; rfl
          rw [e1, e2]
          have hle : ¬ k ≤ m := of_decide_eq_false hl
          have hd : decide (m < k) = true := by simp; omega
          clear e1 e2 hg hk hm hl
          go_enter Tryd.func16, Tryd.ntmps16
          go_wp2_with fail
          refine C.out.mono ?_
          rintro e w1 ⟨rfl, hb1⟩
          have B1 := N0.trans (hb1.mono N0.size)
          have b1 := b0.below hb1
          have d1 := d0.below hb1
          have h1 := h0.below (hb1.mono (Nat.le_trans hB N0.size))
          clear hb1 b0 d0 h0
          have q0 := b1.2 0 _ rfl
          have q1 := b1.2 1 _ rfl
          have q2 := b1.2 2 _ rfl
          go_wp2_with fail
          refine (specHas t _ k _ B h1 (Nat.le_trans hB B1.size) g1 g2 g3).mono ?_
          rw [HK.out]
          rintro e w2 ⟨rfl, hb2⟩
          have B2 := B1.trans (hb2.mono B1.size)
          have b2 := b1.below hb2
          have d2 := d1.below hb2
          have h2 := h1.below (hb2.mono (Nat.le_trans hB B1.size))
          clear hb2 b1 d1 h1 q0 q1 q2
          have q0 := b2.2 0 _ rfl
          have q1 := b2.2 1 _ rfl
          have q2 := b2.2 2 _ rfl
          go_wp2_with fail
          refine (specHas t _ m _ B h2 (Nat.le_trans hB B2.size) g1 g2 g3).mono ?_
          rw [HM.out]
          rintro e w3 ⟨rfl, hb3⟩
          have B3 := B2.trans (hb3.mono B2.size)
          have b3 := b2.below hb3
          have d3 := d2.below hb3
          have h3 := h2.below (hb3.mono (Nat.le_trans hB B2.size))
          clear hb3 b2 d2 h2 q0 q1 q2
          have x0 := d3.2 0 _ rfl
          have x1 := d3.2 1 _ rfl
          have x2 := d3.2 2 _ rfl
          have x3 := d3.1.2
          go_wp2
          refine bodyPost_ret (v := .tuple #[.agg #[.int .i64 0, .int .i64 0, .slice none 0 0], .bool false]) (by simp [results, Tryd.results16, go_sem, x0, x1, x2]) rfl ⟨_, rfl, ⟨_, rfl, Own.nil _ _ _⟩, ?_⟩
          exact ((B3.setCell (by first | omega | (simp; done) | (simp; omega)) _).setCell (by first | omega | (simp; done) | (simp; omega)) _).setCell (by first | omega | (simp; done) | (simp; omega)) _
        | true =>
          have hle : k ≤ m := of_decide_eq_true hl
          have hd : decide (m < k) = false := by simp; omega
          have hok : okCut t k m = true := by unfold okCut; simp [hg, hk, hm, hl]
          obtain ⟨k1, k2⟩ := hasT_yes hk
          obtain ⟨m1, m2⟩ := hasT_yes hm
          have e2 : resCut t k m = ⟨t.st, k, (t.xs.drop (k - t.start).toNat).take ((m - t.start + 1).toNat - (k - t.start).toNat)⟩ := by unfold resCut; rw [hok]; rfl
          rw [hok, e2]
          generalize hys : (t.xs.drop (k - t.start).toNat).take ((m - t.start + 1).toNat - (k - t.start).toNat) = ys
          have HYS := Lib.hid hys
          clear hys hg hk hm hl hok e2
          go_enter Tryd.func16, Tryd.ntmps16
          go_wp2_with fail
          refine C.out.mono ?_
          rintro e w1 ⟨rfl, hb1⟩
          have B1 := N0.trans (hb1.mono N0.size)
          have b1 := b0.below hb1
          have d1 := d0.below hb1
          have h1 := h0.below (hb1.mono (Nat.le_trans hB N0.size))
          clear hb1 b0 d0 h0
          have q0 := b1.2 0 _ rfl
          have q1 := b1.2 1 _ rfl
          have q2 := b1.2 2 _ rfl
          go_wp2_with fail
          refine (specHas t _ k _ B h1 (Nat.le_trans hB B1.size) g1 g2 g3).mono ?_
          rw [HK.out]
          rintro e w2 ⟨rfl, hb2⟩
          have B2 := B1.trans (hb2.mono B1.size)
          have b2 := b1.below hb2
          have d2 := d1.below hb2
          have h2 := h1.below (hb2.mono (Nat.le_trans hB B1.size))
          clear hb2 b1 d1 h1 q0 q1 q2
          have q0 := b2.2 0 _ rfl
          have q1 := b2.2 1 _ rfl
          have q2 := b2.2 2 _ rfl
          go_wp2_with fail
          refine (specHas t _ m _ B h2 (Nat.le_trans hB B2.size) g1 g2 g3).mono ?_
          rw [HM.out]
          rintro e w3 ⟨rfl, hb3⟩
          have B3 := B2.trans (hb3.mono B2.size)
          have b3 := b2.below hb3
          have d3 := d2.below hb3
          have h3 := h2.below (hb3.mono (Nat.le_trans hB B2.size))
          clear hb3 b2 d2 h2 q0 q1 q2
          have z3 := b3.1.1
          have y3 := d3.1.1
          have q0 := b3.2 0 _ rfl
          have q1 := b3.2 1 _ rfl
          have q2 := b3.2 2 _ rfl
          obtain ⟨vs, hv, hl3⟩ := h3
          simp only [Value.agg.injEq, Array.mk.injEq, List.cons.injEq, and_true, true_and] at hv
          subst hv
          obtain ⟨x, hx⟩ := get_of_lt (l := t.xs) (k := 0) (by omega)
          obtain ⟨ao', cap', hv', hcap, hmax, _, hc⟩ := id hl3
          simp only [Value.slice.injEq] at hv'
          obtain ⟨rfl, _, rfl⟩ := hv'
          obtain ⟨b, off, rfl, hbb, _⟩ := hc 0 x hx
          clear hc hx
          unfold maxLen at hmax
          have hln : ys.length ≤ 1048576 := by rw [← HYS.out]; simp only [List.length_take, List.length_drop]; omega
          have hl : Lst (Value.int .i64) w3 B (.slice (some ⟨b, off + (k - t.start).toNat, none⟩) ((m - t.start + 1).toNat - (k - t.start).toNat) (cap - (k - t.start).toNat)) ys := by
            rw [← HYS.out]
            exact hl3.sub (k - t.start).toNat (m - t.start + 1).toNat (by omega) (by omega)
          have s1 : IntKind.i64.wrap (k - t.start) = k - t.start := IntWalk.i64_in _ (by omega)
          have s2 : IntKind.i64.wrap (m - t.start) = m - t.start := IntWalk.i64_in _ (by omega)
          have s3 : IntKind.i64.wrap (m - t.start + 1) = m - t.start + 1 := IntWalk.i64_in _ (by omega)
          have s4 : (0 : Int) ≤ k - t.start := by omega
          have s5 : k - t.start ≤ m - t.start + 1 := by omega
          have s6 : m - t.start + 1 ≤ (cap : Int) := by omega
          have s7 : ¬ cap = (k - t.start).toNat := by omega
          go_wp2
          go_region_held3 (fun w' => w'.cell? ⟨w.heap.size, 0, none⟩ = some (.int .i64 t.st) ∧ w'.cell? ⟨w.heap.size, 1, none⟩ = some (.int .i64 t.start) ∧ w'.cell? ⟨w.heap.size, 2, none⟩ = some (.slice (some ⟨b, off, none⟩) t.xs.length cap))
            (first
              | exact ⟨q0, q1, q2⟩
              | (have q := (Below.refl w3.heap.size w3).drew.trans hb4; exact ⟨(b3.below q).2 0 _ rfl, (b3.below q).2 1 _ rfl, (b3.below q).2 2 _ rfl⟩)
              | (have q := ((((b3.below ((Below.refl w3.heap.size w3).drew.trans hb4)).setOther (p := ⟨w.heap.size + 1, 0, none⟩) (by simp) (.int .i64 t.st)).setOther (p := ⟨w.heap.size + 1, 1, none⟩) (by simp) (.int .i64 k)).setOther (p := ⟨w.heap.size + 1, 2, none⟩) (by simp) (.slice ao4 ys.length cap4)); exact ⟨q.2 0 _ rfl, q.2 1 _ rfl, q.2 2 _ rfl⟩))
            (first
              | (go_at_call 42; refine (specOwn ys _ _ B (hl.below (Below.refl _ _).drew) (Nat.le_trans hB B3.size) hln).mono ?_; rintro e w4 ⟨v4, rfl, hrow, hb4⟩; obtain ⟨ao4, cap4, rfl⟩ := row_form hrow; have d4 := d3.below ((Below.refl w3.heap.size w3).drew.trans hb4); have x0 := d4.2 0 _ rfl; have x1 := d4.2 1 _ rfl; have x2 := d4.2 2 _ rfl; have x3 := d4.1.2))
          go_wp2
          refine bodyPost_ret (v := .tuple #[.agg #[.int .i64 t.st, .int .i64 k, .slice ao4 ys.length cap4], .bool true]) (by simp [results, Tryd.results16, go_sem, x0, x1, x2]) rfl ⟨_, rfl, ⟨_, rfl, ?_⟩, ?_⟩
          · exact (((Own.of_row hrow).setLow (by show _ < w3.heap.size; simp; omega) _).setLow (by show _ < w3.heap.size; simp; omega) _).setLow (by show _ < w3.heap.size; simp; omega) _ |>.mono (by show _ ≤ w3.heap.size; omega) (by simp)
          · have B4 : Below w.heap.size w w4 := B3.trans (((Below.refl w3.heap.size w3).drew.trans hb4).mono B3.size)
            exact ((B4.setCell (by first | omega | (simp; done) | (simp; omega)) _).setCell (by first | omega | (simp; done) | (simp; omega)) _).setCell (by first | omega | (simp; done) | (simp; omega)) _

end Go.Proofs.YtedngmnjpkhbiaaDoor
