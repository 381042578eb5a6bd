/- The specification's joined trace. -/
import Derived.Test.YtedngmnjpkhbiaaDoorJn
namespace Go.Proofs.YtedngmnjpkhbiaaDoor
open Go.ChangeShapes Go.WideShapes Go.ChangeAt Go.RowKit Go.ChangeMaps
set_option linter.unusedSimpArgs false
set_option linter.unusedVariables false

set_option maxRecDepth 100000 in
set_option maxHeartbeats 8000000 in
theorem specJn (a : Tr) (va : Value) (b : Tr) (vb : Value) (w : World) (B : Nat) (ha : TrL w B va a) (hb : TrL w B vb b) (hB : B ≤ w.heap.size) (hna : a.xs.length ≤ 1048576) (hnb : b.xs.length ≤ 1048576) :
    Calls Tryd.prog 18 #[va, vb] w fun e w' => ∃ v', e = .returned (.tuple #[v', .bool (okJn a b)]) ∧ TrO w' w.heap.size w'.heap.size v' (resJn a b) ∧ Below w.heap.size w w' := by
  obtain ⟨ao, cap, rfl⟩ := ha.form
  obtain ⟨bo, bap, rfl⟩ := hb.form
  have N0 := (((Below.refl w.heap.size w).alloc (Nat.le_refl _) (.cells #[.int .i64 a.st, .int .i64 a.start, .slice ao a.xs.length cap] 26)).alloc (by simp) (.cells #[.int .i64 b.st, .int .i64 b.start, .slice bo b.xs.length bap] 26)).alloc (by simp; omega) (.cells #[.int .i64 0, .int .i64 0, .slice none 0 0] 26)
  have a0 := ((Bx.new w [.int .i64 a.st, .int .i64 a.start, .slice ao a.xs.length cap] 26).alloc (.cells #[.int .i64 b.st, .int .i64 b.start, .slice bo b.xs.length bap] 26)).alloc (.cells #[.int .i64 0, .int .i64 0, .slice none 0 0] 26)
  have b0 := (Bx.new1 w (.cells #[.int .i64 a.st, .int .i64 a.start, .slice ao a.xs.length cap] 26) [.int .i64 b.st, .int .i64 b.start, .slice bo b.xs.length bap] 26).alloc (.cells #[.int .i64 0, .int .i64 0, .slice none 0 0] 26)
  have d0 := Bx.new2 w (.cells #[.int .i64 a.st, .int .i64 a.start, .slice ao a.xs.length cap] 26) (.cells #[.int .i64 b.st, .int .i64 b.start, .slice bo b.xs.length bap] 26) [.int .i64 0, .int .i64 0, .slice none 0 0] 26
  have ha0 := ha.below (N0.mono hB)
  have hb0 := hb.below (N0.mono hB)
  cases hga : goodT a with
  | false =>
    have e1 : okJn a b = false := by unfold okJn; simp only [hga, Bool.false_and, Bool.and_false]
    have e2 : resJn a b = nilT := by unfold resJn; rw [e1]; rfl
    rw [e1, e2]
    have CGA := Lib.hid (specGoodB a _ _ B false ha0 (Nat.le_trans hB N0.size) hga)
    clear e1 e2 hga
    go_enter Tryd.func18, Tryd.ntmps18
    go_wp2_with fail
    refine CGA.out.mono ?_
    rintro e w1 ⟨rfl, hb1⟩
    have B1 := N0.trans (hb1.mono N0.size)
    have a1 := a0.below hb1
    have b1 := b0.below hb1
    have d1 := d0.below hb1
    have hb1' := hb0.below (hb1.mono (Nat.le_trans hB N0.size))
    have ha1' := ha0.below (hb1.mono (Nat.le_trans hB N0.size))
    clear hb1 a0 b0 d0 ha0 hb0 CGA
    have x0 := d1.2 0 _ rfl
    have x1 := d1.2 1 _ rfl
    have x2 := d1.2 2 _ rfl
    have x3 := d1.1.2
    go_wp2
    refine bodyPost_ret (v := .tuple #[.agg #[.int .i64 0, .int .i64 0, .slice none 0 0], .bool false]) (by simp [results, Tryd.results18, go_sem, x0, x1, x2]) rfl ⟨_, rfl, ⟨_, rfl, Own.nil _ _ _⟩, ?_⟩
    exact ((B1.setCell (by first | omega | (simp; done) | (simp; omega)) _).setCell (by first | omega | (simp; done) | (simp; omega)) _).setCell (by first | omega | (simp; done) | (simp; omega)) _
  | true =>
    have CGA := Lib.hid (specGoodB a _ _ B true ha0 (Nat.le_trans hB N0.size) hga)
    obtain ⟨⟨ga0, ga1, ga2, ga3, ga4, _⟩, _⟩ := goodT_yes hga
    cases hgb : goodT b with
    | false =>
      have e1 : okJn a b = false := by unfold okJn; simp only [hga, hgb, Bool.false_and, Bool.and_false]
      have e2 : resJn a b = nilT := by unfold resJn; rw [e1]; rfl
      rw [e1, e2]
      have HGB := Lib.hid hgb
      clear e1 e2 hga hgb
      go_enter Tryd.func18, Tryd.ntmps18
      go_wp2_with fail
      refine CGA.out.mono ?_
      rintro e w1 ⟨rfl, hb1⟩
      have B1 := N0.trans (hb1.mono N0.size)
      have a1 := a0.below hb1
      have b1 := b0.below hb1
      have d1 := d0.below hb1
      have hb1' := hb0.below (hb1.mono (Nat.le_trans hB N0.size))
      have ha1' := ha0.below (hb1.mono (Nat.le_trans hB N0.size))
      clear hb1 a0 b0 d0 ha0 hb0 CGA
      have q0 := a1.2 0 _ rfl
      have q1 := a1.2 1 _ rfl
      have q2 := a1.2 2 _ rfl
      have r0 := b1.2 0 _ rfl
      have r1 := b1.2 1 _ rfl
      have r2 := b1.2 2 _ rfl
      go_wp2_with fail
      refine (specGoodB b _ _ B false hb1' (Nat.le_trans hB B1.size) HGB.out).mono ?_
      rintro e w2 ⟨rfl, hb2⟩
      have B2 := B1.trans (hb2.mono B1.size)
      have a2 := a1.below hb2
      have b2 := b1.below hb2
      have d2 := d1.below hb2
      have hb2' := hb1'.below (hb2.mono (Nat.le_trans hB B1.size))
      have ha2' := ha1'.below (hb2.mono (Nat.le_trans hB B1.size))
      clear hb2 a1 b1 d1 ha1' hb1' q0 q1 q2 r0 r1 r2
      have q0 := a2.2 0 _ rfl
      have q1 := a2.2 1 _ rfl
      have q2 := a2.2 2 _ rfl
      have r0 := b2.2 0 _ rfl
      have r1 := b2.2 1 _ rfl
      have r2 := b2.2 2 _ rfl
      have x0 := d2.2 0 _ rfl
      have x1 := d2.2 1 _ rfl
      have x2 := d2.2 2 _ rfl
      have x3 := d2.1.2
      go_wp2
      refine bodyPost_ret (v := .tuple #[.agg #[.int .i64 0, .int .i64 0, .slice none 0 0], .bool false]) (by simp [results, Tryd.results18, go_sem, x0, x1, x2]) rfl ⟨_, rfl, ⟨_, rfl, Own.nil _ _ _⟩, ?_⟩
      exact ((B2.setCell (by first | omega | (simp; done) | (simp; omega)) _).setCell (by first | omega | (simp; done) | (simp; omega)) _).setCell (by first | omega | (simp; done) | (simp; omega)) _
    | true =>
      have HGB := Lib.hid hgb
      obtain ⟨⟨gb0, gb1, gb2, gb3, gb4, _⟩, _⟩ := goodT_yes hgb
      cases hst : decide (a.st = b.st) with
      | false =>
        have e1 : okJn a b = false := by unfold okJn; simp only [hga, hgb, hst, Bool.false_and, Bool.and_false]
        have e2 : resJn a b = nilT := by unfold resJn; rw [e1]; rfl
        rw [e1, e2]
        have hs1 : (a.st == b.st) = false := by simpa using hst
        have hs2 : (a.st != b.st) = true := by simpa using hst
        clear e1 e2 hga hgb hst
        go_enter Tryd.func18, Tryd.ntmps18
        go_wp2_with fail
        refine CGA.out.mono ?_
        rintro e w1 ⟨rfl, hb1⟩
        have B1 := N0.trans (hb1.mono N0.size)
        have a1 := a0.below hb1
        have b1 := b0.below hb1
        have d1 := d0.below hb1
        have hb1' := hb0.below (hb1.mono (Nat.le_trans hB N0.size))
        have ha1' := ha0.below (hb1.mono (Nat.le_trans hB N0.size))
        clear hb1 a0 b0 d0 ha0 hb0 CGA
        have q0 := a1.2 0 _ rfl
        have q1 := a1.2 1 _ rfl
        have q2 := a1.2 2 _ rfl
        have r0 := b1.2 0 _ rfl
        have r1 := b1.2 1 _ rfl
        have r2 := b1.2 2 _ rfl
        go_wp2_with fail
        refine (specGoodB b _ _ B true hb1' (Nat.le_trans hB B1.size) HGB.out).mono ?_
        rintro e w2 ⟨rfl, hb2⟩
        have B2 := B1.trans (hb2.mono B1.size)
        have a2 := a1.below hb2
        have b2 := b1.below hb2
        have d2 := d1.below hb2
        have hb2' := hb1'.below (hb2.mono (Nat.le_trans hB B1.size))
        have ha2' := ha1'.below (hb2.mono (Nat.le_trans hB B1.size))
        clear hb2 a1 b1 d1 ha1' hb1' q0 q1 q2 r0 r1 r2
        have q0 := a2.2 0 _ rfl
        have q1 := a2.2 1 _ rfl
        have q2 := a2.2 2 _ rfl
        have r0 := b2.2 0 _ rfl
        have r1 := b2.2 1 _ rfl
        have r2 := b2.2 2 _ rfl
        have x0 := d2.2 0 _ rfl
        have x1 := d2.2 1 _ rfl
        have x2 := d2.2 2 _ rfl
        have x3 := d2.1.2
        go_wp2
        refine bodyPost_ret (v := .tuple #[.agg #[.int .i64 0, .int .i64 0, .slice none 0 0], .bool false]) (by simp [results, Tryd.results18, go_sem, x0, x1, x2]) rfl ⟨_, rfl, ⟨_, rfl, Own.nil _ _ _⟩, ?_⟩
        exact ((B2.setCell (by first | omega | (simp; done) | (simp; omega)) _).setCell (by first | omega | (simp; done) | (simp; omega)) _).setCell (by first | omega | (simp; done) | (simp; omega)) _
      | true =>
        have hs1 : (a.st == b.st) = true := by simpa using hst
        have hs2 : (a.st != b.st) = false := by simpa using hst
        cases hne : decide (0 < a.xs.length) with
        | false =>
          have e1 : okJn a b = false := by unfold okJn; simp only [hga, hgb, hst, hne, Bool.false_and, Bool.and_false]
          have e2 : resJn a b = nilT := by unfold resJn; rw [e1]; rfl
          rw [e1, e2]
          have hz : ((a.xs.length : Int) == 0) = true := by have := of_decide_eq_false hne; simp; exact List.length_eq_zero_iff.1 (by omega)
          clear e1 e2 hga hgb hst hne
          go_enter Tryd.func18, Tryd.ntmps18
          go_wp2_with fail
          refine CGA.out.mono ?_
          rintro e w1 ⟨rfl, hb1⟩
          have B1 := N0.trans (hb1.mono N0.size)
          have a1 := a0.below hb1
          have b1 := b0.below hb1
          have d1 := d0.below hb1
          have hb1' := hb0.below (hb1.mono (Nat.le_trans hB N0.size))
          have ha1' := ha0.below (hb1.mono (Nat.le_trans hB N0.size))
          clear hb1 a0 b0 d0 ha0 hb0 CGA
          have q0 := a1.2 0 _ rfl
          have q1 := a1.2 1 _ rfl
          have q2 := a1.2 2 _ rfl
          have r0 := b1.2 0 _ rfl
          have r1 := b1.2 1 _ rfl
          have r2 := b1.2 2 _ rfl
          go_wp2_with fail
          refine (specGoodB b _ _ B true hb1' (Nat.le_trans hB B1.size) HGB.out).mono ?_
          rintro e w2 ⟨rfl, hb2⟩
          have B2 := B1.trans (hb2.mono B1.size)
          have a2 := a1.below hb2
          have b2 := b1.below hb2
          have d2 := d1.below hb2
          have hb2' := hb1'.below (hb2.mono (Nat.le_trans hB B1.size))
          have ha2' := ha1'.below (hb2.mono (Nat.le_trans hB B1.size))
          clear hb2 a1 b1 d1 ha1' hb1' q0 q1 q2 r0 r1 r2
          have q0 := a2.2 0 _ rfl
          have q1 := a2.2 1 _ rfl
          have q2 := a2.2 2 _ rfl
          have r0 := b2.2 0 _ rfl
          have r1 := b2.2 1 _ rfl
          have r2 := b2.2 2 _ rfl
          have x0 := d2.2 0 _ rfl
          have x1 := d2.2 1 _ rfl
          have x2 := d2.2 2 _ rfl
          have x3 := d2.1.2
          go_wp2
          refine bodyPost_ret (v := .tuple #[.agg #[.int .i64 0, .int .i64 0, .slice none 0 0], .bool false]) (by simp [results, Tryd.results18, go_sem, x0, x1, x2]) rfl ⟨_, rfl, ⟨_, rfl, Own.nil _ _ _⟩, ?_⟩
          exact ((B2.setCell (by first | omega | (simp; done) | (simp; omega)) _).setCell (by first | omega | (simp; done) | (simp; omega)) _).setCell (by first | omega | (simp; done) | (simp; omega)) _
        | true =>
          have hz : ((a.xs.length : Int) == 0) = false := by have := of_decide_eq_true hne; simp; exact fun e => by rw [e] at this; simp at this
          cases hsa : decide (b.start = a.start + (a.xs.length : Int)) with
          | false =>
            have e1 : okJn a b = false := by unfold okJn; simp only [hga, hgb, hst, hne, hsa, Bool.false_and, Bool.and_false]
            have e2 : resJn a b = nilT := by unfold resJn; rw [e1]; rfl
            rw [e1, e2]
            have ht1 : (b.start == a.start + (a.xs.length : Int)) = false := by simpa using hsa
            have ht2 : (b.start != a.start + (a.xs.length : Int)) = true := by simpa using hsa
            have sw : IntKind.i64.wrap (a.start + (a.xs.length : Int)) = a.start + (a.xs.length : Int) := IntWalk.i64_in _ (by omega)
            clear e1 e2 hga hgb hst hne hsa
            go_enter Tryd.func18, Tryd.ntmps18
            go_wp2_with fail
            refine CGA.out.mono ?_
            rintro e w1 ⟨rfl, hb1⟩
            have B1 := N0.trans (hb1.mono N0.size)
            have a1 := a0.below hb1
            have b1 := b0.below hb1
            have d1 := d0.below hb1
            have hb1' := hb0.below (hb1.mono (Nat.le_trans hB N0.size))
            have ha1' := ha0.below (hb1.mono (Nat.le_trans hB N0.size))
            clear hb1 a0 b0 d0 ha0 hb0 CGA
            have q0 := a1.2 0 _ rfl
            have q1 := a1.2 1 _ rfl
            have q2 := a1.2 2 _ rfl
            have r0 := b1.2 0 _ rfl
            have r1 := b1.2 1 _ rfl
            have r2 := b1.2 2 _ rfl
            go_wp2_with fail
            refine (specGoodB b _ _ B true hb1' (Nat.le_trans hB B1.size) HGB.out).mono ?_
            rintro e w2 ⟨rfl, hb2⟩
            have B2 := B1.trans (hb2.mono B1.size)
            have a2 := a1.below hb2
            have b2 := b1.below hb2
            have d2 := d1.below hb2
            have hb2' := hb1'.below (hb2.mono (Nat.le_trans hB B1.size))
            have ha2' := ha1'.below (hb2.mono (Nat.le_trans hB B1.size))
            clear hb2 a1 b1 d1 ha1' hb1' q0 q1 q2 r0 r1 r2
            have q0 := a2.2 0 _ rfl
            have q1 := a2.2 1 _ rfl
            have q2 := a2.2 2 _ rfl
            have r0 := b2.2 0 _ rfl
            have r1 := b2.2 1 _ rfl
            have r2 := b2.2 2 _ rfl
            have x0 := d2.2 0 _ rfl
            have x1 := d2.2 1 _ rfl
            have x2 := d2.2 2 _ rfl
            have x3 := d2.1.2
            go_wp2
            refine bodyPost_ret (v := .tuple #[.agg #[.int .i64 0, .int .i64 0, .slice none 0 0], .bool false]) (by simp [results, Tryd.results18, go_sem, x0, x1, x2]) rfl ⟨_, rfl, ⟨_, rfl, Own.nil _ _ _⟩, ?_⟩
            exact ((B2.setCell (by first | omega | (simp; done) | (simp; omega)) _).setCell (by first | omega | (simp; done) | (simp; omega)) _).setCell (by first | omega | (simp; done) | (simp; omega)) _
          | true =>
            have ht1 : (b.start == a.start + (a.xs.length : Int)) = true := by simpa using hsa
            have ht2 : (b.start != a.start + (a.xs.length : Int)) = false := by simpa using hsa
            have sw : IntKind.i64.wrap (a.start + (a.xs.length : Int)) = a.start + (a.xs.length : Int) := IntWalk.i64_in _ (by omega)
            have e1 : okJn a b = goodT (joinT a b) := by unfold okJn; simp only [hga, hgb, hne, hst, hsa, Bool.true_and]
            have e2 : resJn a b = pickT (goodT (joinT a b)) (joinT a b) := by unfold resJn; rw [e1]
            rw [e1, e2]
            clear e1 e2 hga hgb hne hst hsa
            unfold joinT
            generalize hys : a.xs ++ b.xs = ys
            have HYM := Lib.hid (show a.xs.map (Value.int .i64) ++ b.xs.map (Value.int .i64) = ys.map (Value.int .i64) by rw [← hys, List.map_append])
            have HYL := Lib.hid (show a.xs.length + b.xs.length = ys.length by rw [← hys, List.length_append])
            clear hys
            obtain ⟨ti, hi, hz0, hz1, hz2⟩ := info_parts infoInt
            go_enter Tryd.func18, Tryd.ntmps18
            go_wp2_with fail
            refine CGA.out.mono ?_
            rintro e w1 ⟨rfl, hb1⟩
            have B1 := N0.trans (hb1.mono N0.size)
            have a1 := a0.below hb1
            have b1 := b0.below hb1
            have d1 := d0.below hb1
            have hb1' := hb0.below (hb1.mono (Nat.le_trans hB N0.size))
            have ha1' := ha0.below (hb1.mono (Nat.le_trans hB N0.size))
            clear hb1 a0 b0 d0 ha0 hb0 CGA
            have q0 := a1.2 0 _ rfl
            have q1 := a1.2 1 _ rfl
            have q2 := a1.2 2 _ rfl
            have r0 := b1.2 0 _ rfl
            have r1 := b1.2 1 _ rfl
            have r2 := b1.2 2 _ rfl
            go_wp2_with fail
            refine (specGoodB b _ _ B true hb1' (Nat.le_trans hB B1.size) HGB.out).mono ?_
            rintro e w2 ⟨rfl, hb2⟩
            have B2 := B1.trans (hb2.mono B1.size)
            have a2 := a1.below hb2
            have b2 := b1.below hb2
            have d2 := d1.below hb2
            have hb2' := hb1'.below (hb2.mono (Nat.le_trans hB B1.size))
            have ha2' := ha1'.below (hb2.mono (Nat.le_trans hB B1.size))
            clear hb2 a1 b1 d1 ha1' hb1' q0 q1 q2 r0 r1 r2
            have q0 := a2.2 0 _ rfl
            have q1 := a2.2 1 _ rfl
            have q2 := a2.2 2 _ rfl
            have r0 := b2.2 0 _ rfl
            have r1 := b2.2 1 _ rfl
            have r2 := b2.2 2 _ rfl
            have za : w.heap.size < w2.heap.size := a2.1.1
            have zb : w.heap.size + 1 < w2.heap.size := b2.1.1
            have zd : w.heap.size + 1 + 1 < w2.heap.size := d2.1.1
            obtain ⟨va, hva, hla⟩ := ha2'
            simp only [Value.agg.injEq, Array.mk.injEq, List.cons.injEq, and_true, true_and] at hva
            subst hva
            obtain ⟨vb, hvb, hlb⟩ := hb2'
            simp only [Value.agg.injEq, Array.mk.injEq, List.cons.injEq, and_true, true_and] at hvb
            subst hvb
            go_wp2
            obtain ⟨Z, hZ⟩ : ∃ Z : Obj, Z = .cells #[.int .i64 0, .int .i64 0, .slice none 0 0] 26 := ⟨_, rfl⟩
            have A1 := (Below.refl w2.heap.size w2).drew
            have A2 := A1.alloc (Nat.le_refl _) (.cells #[.int .i64 0, .int .i64 0, .slice none 0 0] 26)
            have hlaA := hla.below (A1.mono (B' := B) (by omega))
            have hlaB := hla.below (A2.mono (B' := B) (by omega))
            have aB := a2.below A2
            have bB := b2.below A2
            have sA2 : B ≤ (w2.drew.alloc (.cells #[.int .i64 0, .int .i64 0, .slice none 0 0] 26)).heap.size := Nat.le_trans (Nat.le_trans hB B2.size) A2.size
            have NB : Bx (w2.drew.alloc (.cells #[.int .i64 0, .int .i64 0, .slice none 0 0] 26)) w2.heap.size [.int .i64 0, .int .i64 0, .slice none 0 0] := Bx.new w2.drew _ _
            clear hZ Z
            go_region_held3 (fun w' => w'.cell? ⟨w.heap.size, 0, none⟩ = some (.int .i64 a.st) ∧ w'.cell? ⟨w.heap.size, 1, none⟩ = some (.int .i64 a.start) ∧ w'.cell? ⟨w.heap.size, 2, none⟩ = some (.slice ao a.xs.length cap) ∧ w'.cell? ⟨w.heap.size + 1, 2, none⟩ = some (.slice bo b.xs.length bap))
              (first
                | exact ⟨q0, q1, q2, r2⟩
                | exact ⟨aB.2 0 _ rfl, aB.2 1 _ rfl, aB.2 2 _ rfl, bB.2 2 _ rfl⟩
                | exact ⟨a4.2 0 _ rfl, a4.2 1 _ rfl, a4.2 2 _ rfl, b4.2 2 _ rfl⟩
                | exact ⟨(a4.alloc _).2 0 _ rfl, (a4.alloc _).2 1 _ rfl, (a4.alloc _).2 2 _ rfl, (b4.alloc _).2 2 _ rfl⟩
                | exact ⟨a5.2 0 _ rfl, a5.2 1 _ rfl, a5.2 2 _ rfl, b5.2 2 _ rfl⟩
                | exact ⟨(a5.alloc _).2 0 _ rfl, (a5.alloc _).2 1 _ rfl, (a5.alloc _).2 2 _ rfl, (b5.alloc _).2 2 _ rfl⟩
                | (have a6 := ((a5.setOther (p := ⟨w2.heap.size, 0, none⟩) (by simp; omega) (.int .i64 a.st)).setOther (p := ⟨w2.heap.size, 1, none⟩) (by simp; omega) (.int .i64 a.start)).setOther (p := ⟨w2.heap.size, 2, none⟩) (by simp; omega) (.slice ao5 (a.xs.length + b.xs.length) cap5)
                   have b6 := ((b5.setOther (p := ⟨w2.heap.size, 0, none⟩) (by simp; omega) (.int .i64 a.st)).setOther (p := ⟨w2.heap.size, 1, none⟩) (by simp; omega) (.int .i64 a.start)).setOther (p := ⟨w2.heap.size, 2, none⟩) (by simp; omega) (.slice ao5 (a.xs.length + b.xs.length) cap5)
                   exact ⟨a6.2 0 _ rfl, a6.2 1 _ rfl, a6.2 2 _ rfl, b6.2 2 _ rfl⟩)
                | (have a6 := ((a5.setOther (p := ⟨w4.heap.size, 0, none⟩) (by simp; omega) (.int .i64 a.st)).setOther (p := ⟨w4.heap.size, 1, none⟩) (by simp; omega) (.int .i64 a.start)).setOther (p := ⟨w4.heap.size, 2, none⟩) (by simp; omega) (.slice ao5 (a.xs.length + b.xs.length) cap5)
                   have b6 := ((b5.setOther (p := ⟨w4.heap.size, 0, none⟩) (by simp; omega) (.int .i64 a.st)).setOther (p := ⟨w4.heap.size, 1, none⟩) (by simp; omega) (.int .i64 a.start)).setOther (p := ⟨w4.heap.size, 2, none⟩) (by simp; omega) (.slice ao5 (a.xs.length + b.xs.length) cap5)
                   exact ⟨a6.2 0 _ rfl, a6.2 1 _ rfl, a6.2 2 _ rfl, b6.2 2 _ rfl⟩))
              (first
                | (go_at_call 42; refine (specOwn a.xs _ w2.drew B hlaA (Nat.le_trans hB B2.size) hna).mono ?_; rintro e w4 ⟨v4, rfl, hrow4, hb4⟩; have hb4' := A1.trans hb4; have hlo4 : ∀ g, v4.ownBlock = some g → w2.heap.size ≤ g ∧ g < w4.heap.size := fun g e => hrow4.lt g e; have hrow4' : w4.ownsRow w2.heap.size 3 1 v4 a.xs.length (a.xs.map (Value.int .i64)) := hrow4; have z4 := hb4'.size; have a4 := a2.below hb4'; have b4 := b2.below hb4'; have d4 := d2.below hb4'; have hlb4 := hlb.below (hb4'.mono (B' := B) (by omega)); have way : True := trivial)
                | (go_at_call 42; refine (specOwn a.xs _ (w2.drew.alloc (.cells #[.int .i64 0, .int .i64 0, .slice none 0 0] 26)) B hlaB sA2 hna).mono ?_; rintro e w4 ⟨v4, rfl, hrow4, hb4⟩; have hb4' := A2.trans (hb4.mono A2.size); have hlo4 : ∀ g, v4.ownBlock = some g → w2.heap.size < g ∧ g < w4.heap.size := fun g e => ⟨Nat.lt_of_lt_of_le NB.1.1 (hrow4.lt g e).1, (hrow4.lt g e).2⟩; have hrow4' : w4.ownsRow w2.heap.size 3 1 v4 a.xs.length (a.xs.map (Value.int .i64)) := Go.Joins.ownsRow_le hrow4 A2.size; have z4 := hb4'.size; have a4 := a2.below hb4'; have b4 := b2.below hb4'; have d4 := d2.below hb4'; have n4 := NB.below hb4; have hlb4 := hlb.below (hb4'.mono (B' := B) (by omega)))
                | (refine step_append_src w4 (by rfl) _ _ _ (by rfl) w2.heap.size 3 ti (.int .i64 0) 8 Tryd.underlying24 hi hz0 hz1 hz2 rfl v4 a.xs.length (a.xs.map (Value.int .i64)) (by rfl) hrow4' _ b.xs.length (b.xs.map (Value.int .i64)) (by rfl) (src_ints hlb4) (by unfold maxLen; omega) (by omega) z4 ?_; intro v5 w5 hrow5 hg5 hat5; obtain ⟨ao5, cap5, rfl⟩ := row_form hrow5; have b5 := b4.grown hg5 (fun e => by have := hlo4 _ e.symm; omega); have a5 := a4.grown hg5 (fun e => by have := hlo4 _ e.symm; omega); have d5 := d4.grown hg5 (fun e => by have := hlo4 _ e.symm; omega); have z5 := hg5.size; first | (have n5 := n4.grown hg5 (fun e => by have := hlo4 _ e.symm; omega); have n50 := n5.2 0 _ rfl; have n51 := n5.2 1 _ rfl; have n52 := n5.2 2 _ rfl; have n53 := n5.1.2; have zx := n5.1.1) | skip)
                | (refine step_append_src (w4.alloc (.cells #[.int .i64 0, .int .i64 0, .slice none 0 0] 26)) (by rfl) _ _ _ (by rfl) w2.heap.size 3 ti (.int .i64 0) 8 Tryd.underlying24 hi hz0 hz1 hz2 rfl v4 a.xs.length (a.xs.map (Value.int .i64)) (by rfl) (hrow4'.alloc _) _ b.xs.length (b.xs.map (Value.int .i64)) (by rfl) (src_ints (hlb4.below ((Below.refl B w4).alloc (by omega) _))) (by unfold maxLen; omega) (by omega) (by simp <;> omega) ?_; intro v5 w5 hrow5 hg5 hat5; obtain ⟨ao5, cap5, rfl⟩ := row_form hrow5; have b5 := (b4.alloc _).grown hg5 (fun e => by have := hlo4 _ e.symm; omega); have a5 := (a4.alloc _).grown hg5 (fun e => by have := hlo4 _ e.symm; omega); have d5 := (d4.alloc _).grown hg5 (fun e => by have := hlo4 _ e.symm; omega); have z5 : w4.heap.size + 1 ≤ w5.heap.size := (by have := hg5.size; simpa using this); have n5 := (Bx.new w4 [.int .i64 0, .int .i64 0, .slice none 0 0] 26).grown hg5 (fun e => by have := hlo4 _ e.symm; omega); have n50 := n5.2 0 _ rfl; have n51 := n5.2 1 _ rfl; have n52 := n5.2 2 _ rfl; have n53 := n5.1.2; have zx := n5.1.1))
            · have hrow5' : w5.ownsRow w2.heap.size 3 1 (.slice ao5 ys.length cap5) ys.length (ys.map (Value.int .i64)) := by
                rw [← HYL.out, ← HYM.out]
                exact hrow5
              have B5 : Below w.heap.size w w5 := (B2.trans (hb4'.mono B2.size)).grown hg5 (by omega) (fun g e => by have := hlo4 g e; omega)
              have zw : w2.heap.size ≤ w5.heap.size := by omega
              rw [HYL.out]
              have n6 := Bx.new w5 [.int .i64 a.st, .int .i64 a.start, .slice ao5 ys.length cap5] 26
              have d6 := d5.alloc (.cells #[.int .i64 a.st, .int .i64 a.start, .slice ao5 ys.length cap5] 26)
              have B6 := B5.alloc B5.size (.cells #[.int .i64 a.st, .int .i64 a.start, .slice ao5 ys.length cap5] 26)
              have z6 : w2.heap.size ≤ (w5.alloc (.cells #[.int .i64 a.st, .int .i64 a.start, .slice ao5 ys.length cap5] 26)).heap.size := by simp; omega
              have hrow6 := hrow5'.alloc (.cells #[.int .i64 a.st, .int .i64 a.start, .slice ao5 ys.length cap5] 26)
              clear hrow5'
              generalize w5.alloc (.cells #[.int .i64 a.st, .int .i64 a.start, .slice ao5 ys.length cap5] 26) = w6 at n6 d6 B6 z6 hrow6 ⊢
              have hl6 : Lst (Value.int .i64) w6 w6.heap.size (.slice ao5 ys.length cap5) ys := row_lst hrow6
              have o6 := Own.of_row hrow6
              have n60 := n6.2 0 _ rfl
              have n61 := n6.2 1 _ rfl
              have n62 := n6.2 2 _ rfl
              clear hrow6
              cases hx2 : goodT ⟨a.st, a.start, ys⟩ with
              | false =>
                have HC := Lib.hid (specGoodB ⟨a.st, a.start, ys⟩ (.agg #[.int .i64 a.st, .int .i64 a.start, .slice ao5 ys.length cap5]) w6 w6.heap.size false ⟨_, rfl, hl6⟩ (Nat.le_refl _) hx2)
                have HX2 := Lib.hid hx2
                clear hx2
                go_wp2_with fail
                refine HC.out.mono ?_
                rintro e w7 ⟨rfl, hb7⟩
                have d7 := d6.below hb7
                have x0 := d7.2 0 _ rfl
                have x1 := d7.2 1 _ rfl
                have x2 := d7.2 2 _ rfl
                have x3 := d7.1.2
                have B7 := B6.trans (hb7.mono B6.size)
                go_wp2
                refine bodyPost_ret (v := .tuple #[.agg #[.int .i64 0, .int .i64 0, .slice none 0 0], .bool false]) (by simp [results, Tryd.results18, go_sem, x0, x1, x2]) rfl ?_
                rw [HX2.out]
                refine ⟨_, rfl, ⟨_, rfl, Own.nil _ _ _⟩, ?_⟩
                exact ((B7.setCell (by first | omega | (simp; done) | (simp; omega)) _).setCell (by first | omega | (simp; done) | (simp; omega)) _).setCell (by first | omega | (simp; done) | (simp; omega)) _
              | true =>
                have HC := Lib.hid (specGoodB ⟨a.st, a.start, ys⟩ (.agg #[.int .i64 a.st, .int .i64 a.start, .slice ao5 ys.length cap5]) w6 w6.heap.size true ⟨_, rfl, hl6⟩ (Nat.le_refl _) hx2)
                have HX2 := Lib.hid hx2
                clear hx2
                go_wp2_with fail
                refine HC.out.mono ?_
                rintro e w7 ⟨rfl, hb7⟩
                have d7 := d6.below hb7
                have n7 := n6.below hb7
                have o7 := o6.below hb7
                have z7 := hb7.size
                have x0 := d7.2 0 _ rfl
                have x1 := d7.2 1 _ rfl
                have x2 := d7.2 2 _ rfl
                have x3 := d7.1.2
                have p0 := n7.2 0 _ rfl
                have p1 := n7.2 1 _ rfl
                have p2 := n7.2 2 _ rfl
                have B7 := B6.trans (hb7.mono B6.size)
                go_wp2
                refine bodyPost_ret (v := .tuple #[.agg #[.int .i64 a.st, .int .i64 a.start, .slice ao5 ys.length cap5], .bool true]) (by simp [results, Tryd.results18, go_sem, x0, x1, x2]) rfl ?_
                rw [HX2.out]
                refine ⟨_, rfl, ⟨_, rfl, ?_⟩, ?_⟩
                · exact (((o7.setLow (by simp; omega) _).setLow (by simp; omega) _).setLow (by simp; omega) _).mono (by omega) (by simp; omega)
                · exact ((B7.setCell (by first | omega | (simp; done) | (simp; omega)) _).setCell (by first | omega | (simp; done) | (simp; omega)) _).setCell (by first | omega | (simp; done) | (simp; omega)) _
            · have hrow5' : w5.ownsRow w2.heap.size 3 1 (.slice ao5 ys.length cap5) ys.length (ys.map (Value.int .i64)) := by
                rw [← HYL.out, ← HYM.out]
                exact hrow5
              have B5 : Below w.heap.size w w5 := ((B2.trans (hb4'.mono B2.size)).alloc (by omega) _).grown hg5 (by simp; omega) (fun g e => by have := hlo4 g e; omega)
              have zw : w2.heap.size ≤ w5.heap.size := by omega
              have hne6 : ∀ g, (Value.slice ao5 (a.xs.length + b.xs.length) cap5).ownBlock = some g → w4.heap.size ≠ g := by
                intro g e
                rcases hat5 with h9 | h9
                · rw [h9] at e; have := hlo4 g e; omega
                · rw [h9] at e; cases e; simp
              rw [HYL.out] at hne6 ⊢
              have n6 := n5.put3 (.int .i64 a.st) (.int .i64 a.start) (.slice ao5 ys.length cap5)
              have d6 := d5.other3 (g := w4.heap.size) (by omega) (.int .i64 a.st) (.int .i64 a.start) (.slice ao5 ys.length cap5)
              have B6 := ((B5.setCell (p := ⟨w4.heap.size, 0, none⟩) (by simp; omega) (.int .i64 a.st)).setCell (p := ⟨w4.heap.size, 1, none⟩) (by simp; omega) (.int .i64 a.start)).setCell (p := ⟨w4.heap.size, 2, none⟩) (by simp; omega) (.slice ao5 ys.length cap5)
              have z6 : w2.heap.size ≤ (((w5.setCell ⟨w4.heap.size, 0, none⟩ (.int .i64 a.st)).setCell ⟨w4.heap.size, 1, none⟩ (.int .i64 a.start)).setCell ⟨w4.heap.size, 2, none⟩ (.slice ao5 ys.length cap5)).heap.size := by simp; omega
              have hrow6 := ownsRow_setOther (ownsRow_setOther (ownsRow_setOther hrow5' (a := ⟨w4.heap.size, 0, none⟩) hne6 (.int .i64 a.st)) (a := ⟨w4.heap.size, 1, none⟩) hne6 (.int .i64 a.start)) (a := ⟨w4.heap.size, 2, none⟩) hne6 (.slice ao5 ys.length cap5)
              clear hrow5'
              generalize ((w5.setCell ⟨w4.heap.size, 0, none⟩ (.int .i64 a.st)).setCell ⟨w4.heap.size, 1, none⟩ (.int .i64 a.start)).setCell ⟨w4.heap.size, 2, none⟩ (.slice ao5 ys.length cap5) = w6 at n6 d6 B6 z6 hrow6 ⊢
              have hl6 : Lst (Value.int .i64) w6 w6.heap.size (.slice ao5 ys.length cap5) ys := row_lst hrow6
              have o6 := Own.of_row hrow6
              have n60 := n6.2 0 _ rfl
              have n61 := n6.2 1 _ rfl
              have n62 := n6.2 2 _ rfl
              clear hrow6
              cases hx2 : goodT ⟨a.st, a.start, ys⟩ with
              | false =>
                have HC := Lib.hid (specGoodB ⟨a.st, a.start, ys⟩ (.agg #[.int .i64 a.st, .int .i64 a.start, .slice ao5 ys.length cap5]) w6 w6.heap.size false ⟨_, rfl, hl6⟩ (Nat.le_refl _) hx2)
                have HX2 := Lib.hid hx2
                clear hx2
                go_wp2_with fail
                refine HC.out.mono ?_
                rintro e w7 ⟨rfl, hb7⟩
                have d7 := d6.below hb7
                have x0 := d7.2 0 _ rfl
                have x1 := d7.2 1 _ rfl
                have x2 := d7.2 2 _ rfl
                have x3 := d7.1.2
                have B7 := B6.trans (hb7.mono B6.size)
                go_wp2
                refine bodyPost_ret (v := .tuple #[.agg #[.int .i64 0, .int .i64 0, .slice none 0 0], .bool false]) (by simp [results, Tryd.results18, go_sem, x0, x1, x2]) rfl ?_
                rw [HX2.out]
                refine ⟨_, rfl, ⟨_, rfl, Own.nil _ _ _⟩, ?_⟩
                exact ((B7.setCell (by first | omega | (simp; done) | (simp; omega)) _).setCell (by first | omega | (simp; done) | (simp; omega)) _).setCell (by first | omega | (simp; done) | (simp; omega)) _
              | true =>
                have HC := Lib.hid (specGoodB ⟨a.st, a.start, ys⟩ (.agg #[.int .i64 a.st, .int .i64 a.start, .slice ao5 ys.length cap5]) w6 w6.heap.size true ⟨_, rfl, hl6⟩ (Nat.le_refl _) hx2)
                have HX2 := Lib.hid hx2
                clear hx2
                go_wp2_with fail
                refine HC.out.mono ?_
                rintro e w7 ⟨rfl, hb7⟩
                have d7 := d6.below hb7
                have n7 := n6.below hb7
                have o7 := o6.below hb7
                have z7 := hb7.size
                have x0 := d7.2 0 _ rfl
                have x1 := d7.2 1 _ rfl
                have x2 := d7.2 2 _ rfl
                have x3 := d7.1.2
                have p0 := n7.2 0 _ rfl
                have p1 := n7.2 1 _ rfl
                have p2 := n7.2 2 _ rfl
                have B7 := B6.trans (hb7.mono B6.size)
                go_wp2
                refine bodyPost_ret (v := .tuple #[.agg #[.int .i64 a.st, .int .i64 a.start, .slice ao5 ys.length cap5], .bool true]) (by simp [results, Tryd.results18, go_sem, x0, x1, x2]) rfl ?_
                rw [HX2.out]
                refine ⟨_, rfl, ⟨_, rfl, ?_⟩, ?_⟩
                · exact (((o7.setLow (by simp; omega) _).setLow (by simp; omega) _).setLow (by simp; omega) _).mono (by omega) (by simp; omega)
                · exact ((B7.setCell (by first | omega | (simp; done) | (simp; omega)) _).setCell (by first | omega | (simp; done) | (simp; omega)) _).setCell (by first | omega | (simp; done) | (simp; omega)) _
            · have hrow5' : w5.ownsRow w2.heap.size 3 1 (.slice ao5 ys.length cap5) ys.length (ys.map (Value.int .i64)) := by
                rw [← HYL.out, ← HYM.out]
                exact hrow5
              have B5 : Below w.heap.size w w5 := (B2.trans (hb4'.mono B2.size)).grown hg5 (by omega) (fun g e => by have := hlo4 g e; omega)
              have zw : w2.heap.size ≤ w5.heap.size := by omega
              have hne6 : ∀ g, (Value.slice ao5 (a.xs.length + b.xs.length) cap5).ownBlock = some g → w2.heap.size ≠ g := by
                intro g e
                rcases hat5 with h9 | h9
                · rw [h9] at e; have := hlo4 g e; omega
                · rw [h9] at e; cases e; have := n4.1.1; omega
              rw [HYL.out] at hne6 ⊢
              have n6 := n5.put3 (.int .i64 a.st) (.int .i64 a.start) (.slice ao5 ys.length cap5)
              have d6 := d5.other3 (g := w2.heap.size) (by omega) (.int .i64 a.st) (.int .i64 a.start) (.slice ao5 ys.length cap5)
              have B6 := ((B5.setCell (p := ⟨w2.heap.size, 0, none⟩) (by simp; omega) (.int .i64 a.st)).setCell (p := ⟨w2.heap.size, 1, none⟩) (by simp; omega) (.int .i64 a.start)).setCell (p := ⟨w2.heap.size, 2, none⟩) (by simp; omega) (.slice ao5 ys.length cap5)
              have z6 : w2.heap.size ≤ (((w5.setCell ⟨w2.heap.size, 0, none⟩ (.int .i64 a.st)).setCell ⟨w2.heap.size, 1, none⟩ (.int .i64 a.start)).setCell ⟨w2.heap.size, 2, none⟩ (.slice ao5 ys.length cap5)).heap.size := by simp; omega
              have hrow6 := ownsRow_setOther (ownsRow_setOther (ownsRow_setOther hrow5' (a := ⟨w2.heap.size, 0, none⟩) hne6 (.int .i64 a.st)) (a := ⟨w2.heap.size, 1, none⟩) hne6 (.int .i64 a.start)) (a := ⟨w2.heap.size, 2, none⟩) hne6 (.slice ao5 ys.length cap5)
              clear hrow5'
              generalize ((w5.setCell ⟨w2.heap.size, 0, none⟩ (.int .i64 a.st)).setCell ⟨w2.heap.size, 1, none⟩ (.int .i64 a.start)).setCell ⟨w2.heap.size, 2, none⟩ (.slice ao5 ys.length cap5) = w6 at n6 d6 B6 z6 hrow6 ⊢
              have hl6 : Lst (Value.int .i64) w6 w6.heap.size (.slice ao5 ys.length cap5) ys := row_lst hrow6
              have o6 := Own.of_row hrow6
              have n60 := n6.2 0 _ rfl
              have n61 := n6.2 1 _ rfl
              have n62 := n6.2 2 _ rfl
              clear hrow6
              cases hx2 : goodT ⟨a.st, a.start, ys⟩ with
              | false =>
                have HC := Lib.hid (specGoodB ⟨a.st, a.start, ys⟩ (.agg #[.int .i64 a.st, .int .i64 a.start, .slice ao5 ys.length cap5]) w6 w6.heap.size false ⟨_, rfl, hl6⟩ (Nat.le_refl _) hx2)
                have HX2 := Lib.hid hx2
                clear hx2
                go_wp2_with fail
                refine HC.out.mono ?_
                rintro e w7 ⟨rfl, hb7⟩
                have d7 := d6.below hb7
                have x0 := d7.2 0 _ rfl
                have x1 := d7.2 1 _ rfl
                have x2 := d7.2 2 _ rfl
                have x3 := d7.1.2
                have B7 := B6.trans (hb7.mono B6.size)
                go_wp2
                refine bodyPost_ret (v := .tuple #[.agg #[.int .i64 0, .int .i64 0, .slice none 0 0], .bool false]) (by simp [results, Tryd.results18, go_sem, x0, x1, x2]) rfl ?_
                rw [HX2.out]
                refine ⟨_, rfl, ⟨_, rfl, Own.nil _ _ _⟩, ?_⟩
                exact ((B7.setCell (by first | omega | (simp; done) | (simp; omega)) _).setCell (by first | omega | (simp; done) | (simp; omega)) _).setCell (by first | omega | (simp; done) | (simp; omega)) _
              | true =>
                have HC := Lib.hid (specGoodB ⟨a.st, a.start, ys⟩ (.agg #[.int .i64 a.st, .int .i64 a.start, .slice ao5 ys.length cap5]) w6 w6.heap.size true ⟨_, rfl, hl6⟩ (Nat.le_refl _) hx2)
                have HX2 := Lib.hid hx2
                clear hx2
                go_wp2_with fail
                refine HC.out.mono ?_
                rintro e w7 ⟨rfl, hb7⟩
                have d7 := d6.below hb7
                have n7 := n6.below hb7
                have o7 := o6.below hb7
                have z7 := hb7.size
                have x0 := d7.2 0 _ rfl
                have x1 := d7.2 1 _ rfl
                have x2 := d7.2 2 _ rfl
                have x3 := d7.1.2
                have p0 := n7.2 0 _ rfl
                have p1 := n7.2 1 _ rfl
                have p2 := n7.2 2 _ rfl
                have B7 := B6.trans (hb7.mono B6.size)
                go_wp2
                refine bodyPost_ret (v := .tuple #[.agg #[.int .i64 a.st, .int .i64 a.start, .slice ao5 ys.length cap5], .bool true]) (by simp [results, Tryd.results18, go_sem, x0, x1, x2]) rfl ?_
                rw [HX2.out]
                refine ⟨_, rfl, ⟨_, rfl, ?_⟩, ?_⟩
                · exact (((o7.setLow (by simp; omega) _).setLow (by simp; omega) _).setLow (by simp; omega) _).mono (by omega) (by simp; omega)
                · exact ((B7.setCell (by first | omega | (simp; done) | (simp; omega)) _).setCell (by first | omega | (simp; done) | (simp; omega)) _).setCell (by first | omega | (simp; done) | (simp; omega)) _

end Go.Proofs.YtedngmnjpkhbiaaDoor
