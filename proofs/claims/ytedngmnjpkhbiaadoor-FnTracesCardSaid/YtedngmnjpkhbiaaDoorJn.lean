/- FnExactJoinTraces: the joined trace, both programs. -/
import Derived.Test.YtedngmnjpkhbiaaDoorSubS
import Derived.Test.YtedngmnjpkhbiaaDoorApS
namespace Go.Proofs.YtedngmnjpkhbiaaDoor
open Go.ChangeShapes Go.WideShapes Go.ChangeAt Go.RowKit Go.ChangeMaps
set_option linter.unusedSimpArgs false
set_option linter.unusedVariables false

def joinT (a b : Tr) : Tr := ⟨a.st, a.start, a.xs ++ b.xs⟩
def okJn (a b : Tr) : Bool := goodT a && (goodT b && (decide (0 < a.xs.length) && (decide (a.st = b.st) && (decide (b.start = a.start + (a.xs.length : Int)) && goodT (joinT a b)))))
def resJn (a b : Tr) : Tr := pickT (okJn a b) (joinT a b)
theorem goodT_len {t : Tr} (h : goodT t = true) : t.xs.length ≤ 24 := by have := (goodT_yes h).1; omega
theorem resJn_len (a b : Tr) (ha : a.xs.length ≤ 1048576) (hb : b.xs.length ≤ 1048576) : (resJn a b).xs.length ≤ 1048576 := by
  unfold resJn pickT
  split
  · rename_i h
    unfold okJn at h
    simp only [Bool.and_eq_true] at h
    have := goodT_len h.2.2.2.2.2
    omega
  · simp [nilT]
theorem endAny (t : Tr) (v : Value) (w : World) (B : Nat) (h : TrL w B v t) (h1 : 0 ≤ t.start) (h2 : t.start ≤ 1000000) (h3 : (t.xs.length : Int) ≤ 24) :
    Calls Tryd.prog 29 #[v] w fun e w' => e = .returned (.int .i64 (t.start + t.xs.length)) ∧ Below w.heap.size w w' := by
  obtain ⟨ao, cap, rfl⟩ := h.form
  clear h
  go_enter Tryd.func29, Tryd.ntmps29
  go_wp2
  go_ret
  exact ⟨rfl, (Below.refl _ _).alloc (Nat.le_refl _) _⟩

set_option maxRecDepth 100000 in
set_option maxHeartbeats 8000000 in
theorem implJn (a : Tr) (va : Value) (b : Tr) (vb : Value) (w : World) (B : Nat) (ha : TrL w B va a) (hb : TrL w B vb b) (hB : B ≤ w.heap.size) (hna : a.xs.length ≤ 1048576) (hnb : b.xs.length ≤ 1048576) :
    Calls Tryd.prog 12 #[va, vb] w fun e w' => ∃ v', e = .returned (.tuple #[v', .bool (okJn a b)]) ∧ TrO w' w.heap.size w'.heap.size v' (resJn a b) ∧ Below w.heap.size w w' := by
  obtain ⟨ao, cap, rfl⟩ := ha.form
  obtain ⟨bo, bap, rfl⟩ := hb.form
  have N0 := (((Below.refl w.heap.size w).alloc (Nat.le_refl _) (.cells #[.int .i64 a.st, .int .i64 a.start, .slice ao a.xs.length cap] 26)).alloc (by simp) (.cells #[.int .i64 b.st, .int .i64 b.start, .slice bo b.xs.length bap] 26)).alloc (by simp; omega) (.cells #[.int .i64 0, .int .i64 0, .slice none 0 0] 26)
  have a0 := ((Bx.new w [.int .i64 a.st, .int .i64 a.start, .slice ao a.xs.length cap] 26).alloc (.cells #[.int .i64 b.st, .int .i64 b.start, .slice bo b.xs.length bap] 26)).alloc (.cells #[.int .i64 0, .int .i64 0, .slice none 0 0] 26)
  have b0 := (Bx.new1 w (.cells #[.int .i64 a.st, .int .i64 a.start, .slice ao a.xs.length cap] 26) [.int .i64 b.st, .int .i64 b.start, .slice bo b.xs.length bap] 26).alloc (.cells #[.int .i64 0, .int .i64 0, .slice none 0 0] 26)
  have d0 := Bx.new2 w (.cells #[.int .i64 a.st, .int .i64 a.start, .slice ao a.xs.length cap] 26) (.cells #[.int .i64 b.st, .int .i64 b.start, .slice bo b.xs.length bap] 26) [.int .i64 0, .int .i64 0, .slice none 0 0] 26
  have ha0 := ha.below (N0.mono hB)
  have hb0 := hb.below (N0.mono hB)
  cases hga : goodT a with
  | false =>
    have e1 : okJn a b = false := by unfold okJn; simp only [hga, Bool.false_and, Bool.and_false]
    have e2 : resJn a b = nilT := by unfold resJn; rw [e1]; rfl
    rw [e1, e2]
    have CGA := Lib.hid (implGoodB a _ _ B false ha0 (Nat.le_trans hB N0.size) hga)
    clear e1 e2 hga
    go_enter Tryd.func12, Tryd.ntmps12
    go_wp2_with fail
    refine CGA.out.mono ?_
    rintro e w1 ⟨rfl, hb1⟩
    have B1 := N0.trans (hb1.mono N0.size)
    have a1 := a0.below hb1
    have b1 := b0.below hb1
    have d1 := d0.below hb1
    have hb1' := hb0.below (hb1.mono (Nat.le_trans hB N0.size))
    have ha1' := ha0.below (hb1.mono (Nat.le_trans hB N0.size))
    clear hb1 a0 b0 d0 ha0 hb0 CGA
    have x0 := d1.2 0 _ rfl
    have x1 := d1.2 1 _ rfl
    have x2 := d1.2 2 _ rfl
    have x3 := d1.1.2
    go_wp2
    refine bodyPost_ret (v := .tuple #[.agg #[.int .i64 0, .int .i64 0, .slice none 0 0], .bool false]) (by simp [results, Tryd.results12, go_sem, x0, x1, x2]) rfl ⟨_, rfl, ⟨_, rfl, Own.nil _ _ _⟩, ?_⟩
    exact ((B1.setCell (by first | omega | (simp; done) | (simp; omega)) _).setCell (by first | omega | (simp; done) | (simp; omega)) _).setCell (by first | omega | (simp; done) | (simp; omega)) _
  | true =>
    have CGA := Lib.hid (implGoodB a _ _ B true ha0 (Nat.le_trans hB N0.size) hga)
    obtain ⟨⟨ga0, ga1, ga2, ga3, ga4, _⟩, _⟩ := goodT_yes hga
    cases hgb : goodT b with
    | false =>
      have e1 : okJn a b = false := by unfold okJn; simp only [hga, hgb, Bool.false_and, Bool.and_false]
      have e2 : resJn a b = nilT := by unfold resJn; rw [e1]; rfl
      rw [e1, e2]
      have HGB := Lib.hid hgb
      clear e1 e2 hga hgb
      go_enter Tryd.func12, Tryd.ntmps12
      go_wp2_with fail
      refine CGA.out.mono ?_
      rintro e w1 ⟨rfl, hb1⟩
      have B1 := N0.trans (hb1.mono N0.size)
      have a1 := a0.below hb1
      have b1 := b0.below hb1
      have d1 := d0.below hb1
      have hb1' := hb0.below (hb1.mono (Nat.le_trans hB N0.size))
      have ha1' := ha0.below (hb1.mono (Nat.le_trans hB N0.size))
      clear hb1 a0 b0 d0 ha0 hb0 CGA
      have q0 := a1.2 0 _ rfl
      have q1 := a1.2 1 _ rfl
      have q2 := a1.2 2 _ rfl
      have r0 := b1.2 0 _ rfl
      have r1 := b1.2 1 _ rfl
      have r2 := b1.2 2 _ rfl
      go_wp2_with fail
      refine (implGoodB b _ _ B false hb1' (Nat.le_trans hB B1.size) HGB.out).mono ?_
      rintro e w2 ⟨rfl, hb2⟩
      have B2 := B1.trans (hb2.mono B1.size)
      have a2 := a1.below hb2
      have b2 := b1.below hb2
      have d2 := d1.below hb2
      have hb2' := hb1'.below (hb2.mono (Nat.le_trans hB B1.size))
      have ha2' := ha1'.below (hb2.mono (Nat.le_trans hB B1.size))
      clear hb2 a1 b1 d1 ha1' hb1' q0 q1 q2 r0 r1 r2
      have q0 := a2.2 0 _ rfl
      have q1 := a2.2 1 _ rfl
      have q2 := a2.2 2 _ rfl
      have r0 := b2.2 0 _ rfl
      have r1 := b2.2 1 _ rfl
      have r2 := b2.2 2 _ rfl
      have x0 := d2.2 0 _ rfl
      have x1 := d2.2 1 _ rfl
      have x2 := d2.2 2 _ rfl
      have x3 := d2.1.2
      go_wp2
      refine bodyPost_ret (v := .tuple #[.agg #[.int .i64 0, .int .i64 0, .slice none 0 0], .bool false]) (by simp [results, Tryd.results12, go_sem, x0, x1, x2]) rfl ⟨_, rfl, ⟨_, rfl, Own.nil _ _ _⟩, ?_⟩
      exact ((B2.setCell (by first | omega | (simp; done) | (simp; omega)) _).setCell (by first | omega | (simp; done) | (simp; omega)) _).setCell (by first | omega | (simp; done) | (simp; omega)) _
    | true =>
      have HGB := Lib.hid hgb
      obtain ⟨⟨gb0, gb1, gb2, gb3, gb4, _⟩, _⟩ := goodT_yes hgb
      cases hne : decide (0 < a.xs.length) with
      | false =>
        have e1 : okJn a b = false := by unfold okJn; simp only [hga, hgb, hne, Bool.false_and, Bool.and_false]
        have e2 : resJn a b = nilT := by unfold resJn; rw [e1]; rfl
        rw [e1, e2]
        have hz : ((a.xs.length : Int) == 0) = true := by have := of_decide_eq_false hne; simp; exact List.length_eq_zero_iff.1 (by omega)
        clear e1 e2 hga hgb hne
        go_enter Tryd.func12, Tryd.ntmps12
        go_wp2_with fail
        refine CGA.out.mono ?_
        rintro e w1 ⟨rfl, hb1⟩
        have B1 := N0.trans (hb1.mono N0.size)
        have a1 := a0.below hb1
        have b1 := b0.below hb1
        have d1 := d0.below hb1
        have hb1' := hb0.below (hb1.mono (Nat.le_trans hB N0.size))
        have ha1' := ha0.below (hb1.mono (Nat.le_trans hB N0.size))
        clear hb1 a0 b0 d0 ha0 hb0 CGA
        have q0 := a1.2 0 _ rfl
        have q1 := a1.2 1 _ rfl
        have q2 := a1.2 2 _ rfl
        have r0 := b1.2 0 _ rfl
        have r1 := b1.2 1 _ rfl
        have r2 := b1.2 2 _ rfl
        go_wp2_with fail
        refine (implGoodB b _ _ B true hb1' (Nat.le_trans hB B1.size) HGB.out).mono ?_
        rintro e w2 ⟨rfl, hb2⟩
        have B2 := B1.trans (hb2.mono B1.size)
        have a2 := a1.below hb2
        have b2 := b1.below hb2
        have d2 := d1.below hb2
        have hb2' := hb1'.below (hb2.mono (Nat.le_trans hB B1.size))
        have ha2' := ha1'.below (hb2.mono (Nat.le_trans hB B1.size))
        clear hb2 a1 b1 d1 ha1' hb1' q0 q1 q2 r0 r1 r2
        have q0 := a2.2 0 _ rfl
        have q1 := a2.2 1 _ rfl
        have q2 := a2.2 2 _ rfl
        have r0 := b2.2 0 _ rfl
        have r1 := b2.2 1 _ rfl
        have r2 := b2.2 2 _ rfl
        have x0 := d2.2 0 _ rfl
        have x1 := d2.2 1 _ rfl
        have x2 := d2.2 2 _ rfl
        have x3 := d2.1.2
        go_wp2
        refine bodyPost_ret (v := .tuple #[.agg #[.int .i64 0, .int .i64 0, .slice none 0 0], .bool false]) (by simp [results, Tryd.results12, go_sem, x0, x1, x2]) rfl ⟨_, rfl, ⟨_, rfl, Own.nil _ _ _⟩, ?_⟩
        exact ((B2.setCell (by first | omega | (simp; done) | (simp; omega)) _).setCell (by first | omega | (simp; done) | (simp; omega)) _).setCell (by first | omega | (simp; done) | (simp; omega)) _
      | true =>
        have hz : ((a.xs.length : Int) == 0) = false := by have := of_decide_eq_true hne; simp; exact fun e => by rw [e] at this; simp at this
        cases hst : decide (a.st = b.st) with
        | false =>
          have e1 : okJn a b = false := by unfold okJn; simp only [hga, hgb, hne, hst, Bool.false_and, Bool.and_false]
          have e2 : resJn a b = nilT := by unfold resJn; rw [e1]; rfl
          rw [e1, e2]
          have hs1 : (a.st == b.st) = false := by simpa using hst
          have hs2 : (a.st != b.st) = true := by simpa using hst
          clear e1 e2 hga hgb hne hst
          go_enter Tryd.func12, Tryd.ntmps12
          go_wp2_with fail
          refine CGA.out.mono ?_
          rintro e w1 ⟨rfl, hb1⟩
          have B1 := N0.trans (hb1.mono N0.size)
          have a1 := a0.below hb1
          have b1 := b0.below hb1
          have d1 := d0.below hb1
          have hb1' := hb0.below (hb1.mono (Nat.le_trans hB N0.size))
          have ha1' := ha0.below (hb1.mono (Nat.le_trans hB N0.size))
          clear hb1 a0 b0 d0 ha0 hb0 CGA
          have q0 := a1.2 0 _ rfl
          have q1 := a1.2 1 _ rfl
          have q2 := a1.2 2 _ rfl
          have r0 := b1.2 0 _ rfl
          have r1 := b1.2 1 _ rfl
          have r2 := b1.2 2 _ rfl
          go_wp2_with fail
          refine (implGoodB b _ _ B true hb1' (Nat.le_trans hB B1.size) HGB.out).mono ?_
          rintro e w2 ⟨rfl, hb2⟩
          have B2 := B1.trans (hb2.mono B1.size)
          have a2 := a1.below hb2
          have b2 := b1.below hb2
          have d2 := d1.below hb2
          have hb2' := hb1'.below (hb2.mono (Nat.le_trans hB B1.size))
          have ha2' := ha1'.below (hb2.mono (Nat.le_trans hB B1.size))
          clear hb2 a1 b1 d1 ha1' hb1' q0 q1 q2 r0 r1 r2
          have q0 := a2.2 0 _ rfl
          have q1 := a2.2 1 _ rfl
          have q2 := a2.2 2 _ rfl
          have r0 := b2.2 0 _ rfl
          have r1 := b2.2 1 _ rfl
          have r2 := b2.2 2 _ rfl
          go_wp2
          go_quiet (fail)
          have x0 := d2.2 0 _ rfl
          have x1 := d2.2 1 _ rfl
          have x2 := d2.2 2 _ rfl
          have x3 := d2.1.2
          go_wp2
          refine bodyPost_ret (v := .tuple #[.agg #[.int .i64 0, .int .i64 0, .slice none 0 0], .bool false]) (by simp [results, Tryd.results12, go_sem, x0, x1, x2]) rfl ⟨_, rfl, ⟨_, rfl, Own.nil _ _ _⟩, ?_⟩
          exact (((drewN_b B2 _).setCell (by first | omega | (simp; done) | (simp; omega)) _).setCell (by first | omega | (simp; done) | (simp; omega)) _).setCell (by first | omega | (simp; done) | (simp; omega)) _
        | true =>
          have hs1 : (a.st == b.st) = true := by simpa using hst
          have hs2 : (a.st != b.st) = false := by simpa using hst
          cases hsa : decide (b.start = a.start + (a.xs.length : Int)) with
          | false =>
            have e1 : okJn a b = false := by unfold okJn; simp only [hga, hgb, hne, hst, hsa, Bool.false_and, Bool.and_false]
            have e2 : resJn a b = nilT := by unfold resJn; rw [e1]; rfl
            rw [e1, e2]
            have ht1 : (b.start == a.start + (a.xs.length : Int)) = false := by simpa using hsa
            have ht2 : (b.start != a.start + (a.xs.length : Int)) = true := by simpa using hsa
            have sw : IntKind.i64.wrap (a.start + (a.xs.length : Int)) = a.start + (a.xs.length : Int) := IntWalk.i64_in _ (by omega)
            clear e1 e2 hga hgb hne hst hsa
            go_enter Tryd.func12, Tryd.ntmps12
            go_wp2_with fail
            refine CGA.out.mono ?_
            rintro e w1 ⟨rfl, hb1⟩
            have B1 := N0.trans (hb1.mono N0.size)
            have a1 := a0.below hb1
            have b1 := b0.below hb1
            have d1 := d0.below hb1
            have hb1' := hb0.below (hb1.mono (Nat.le_trans hB N0.size))
            have ha1' := ha0.below (hb1.mono (Nat.le_trans hB N0.size))
            clear hb1 a0 b0 d0 ha0 hb0 CGA
            have q0 := a1.2 0 _ rfl
            have q1 := a1.2 1 _ rfl
            have q2 := a1.2 2 _ rfl
            have r0 := b1.2 0 _ rfl
            have r1 := b1.2 1 _ rfl
            have r2 := b1.2 2 _ rfl
            go_wp2_with fail
            refine (implGoodB b _ _ B true hb1' (Nat.le_trans hB B1.size) HGB.out).mono ?_
            rintro e w2 ⟨rfl, hb2⟩
            have B2 := B1.trans (hb2.mono B1.size)
            have a2 := a1.below hb2
            have b2 := b1.below hb2
            have d2 := d1.below hb2
            have hb2' := hb1'.below (hb2.mono (Nat.le_trans hB B1.size))
            have ha2' := ha1'.below (hb2.mono (Nat.le_trans hB B1.size))
            clear hb2 a1 b1 d1 ha1' hb1' q0 q1 q2 r0 r1 r2
            have q0 := a2.2 0 _ rfl
            have q1 := a2.2 1 _ rfl
            have q2 := a2.2 2 _ rfl
            have r0 := b2.2 0 _ rfl
            have r1 := b2.2 1 _ rfl
            have r2 := b2.2 2 _ rfl
            go_wp2
            go_region_held3 (fun w' => Below w2.heap.size w2 w' ∧ w'.cell? ⟨w.heap.size, 0, none⟩ = some (.int .i64 a.st) ∧ w'.cell? ⟨w.heap.size, 1, none⟩ = some (.int .i64 a.start) ∧ w'.cell? ⟨w.heap.size, 2, none⟩ = some (.slice ao a.xs.length cap) ∧ w'.cell? ⟨w.heap.size + 1, 0, none⟩ = some (.int .i64 b.st) ∧ w'.cell? ⟨w.heap.size + 1, 1, none⟩ = some (.int .i64 b.start) ∧ w'.cell? ⟨w.heap.size + 1, 2, none⟩ = some (.slice bo b.xs.length bap))
              (first
                | exact ⟨(Below.refl _ _).drew, q0, q1, q2, r0, r1, r2⟩
                | (have q := (Below.refl w2.heap.size w2).drew.trans hb3; exact ⟨q, (a2.below q).2 0 _ rfl, (a2.below q).2 1 _ rfl, (a2.below q).2 2 _ rfl, (b2.below q).2 0 _ rfl, (b2.below q).2 1 _ rfl, (b2.below q).2 2 _ rfl⟩))
              (first
                | (go_at_call 29; refine (endAny a _ _ B (ha2'.below (Below.refl _ _).drew) ga2 ga3 ga4).mono ?_; rintro e w3 ⟨rfl, hb3⟩))
            have qb := (Below.refl w2.heap.size w2).drew.trans hb3
            have B3 := B2.trans (qb.mono B2.size)
            have a3 := a2.below qb
            have b3 := b2.below qb
            have d3 := d2.below qb
            have ha3' := ha2'.below (qb.mono (Nat.le_trans hB B2.size))
            have hb3' := hb2'.below (qb.mono (Nat.le_trans hB B2.size))
            clear qb hb3 a2 b2 d2 ha2' hb2' q0 q1 q2 r0 r1 r2
            have q0 := a3.2 0 _ rfl
            have q1 := a3.2 1 _ rfl
            have q2 := a3.2 2 _ rfl
            have r0 := b3.2 0 _ rfl
            have r1 := b3.2 1 _ rfl
            have r2 := b3.2 2 _ rfl
            have x0 := d3.2 0 _ rfl
            have x1 := d3.2 1 _ rfl
            have x2 := d3.2 2 _ rfl
            have x3 := d3.1.2
            go_wp2
            refine bodyPost_ret (v := .tuple #[.agg #[.int .i64 0, .int .i64 0, .slice none 0 0], .bool false]) (by simp [results, Tryd.results12, go_sem, x0, x1, x2]) rfl ⟨_, rfl, ⟨_, rfl, Own.nil _ _ _⟩, ?_⟩
            exact ((B3.setCell (by first | omega | (simp; done) | (simp; omega)) _).setCell (by first | omega | (simp; done) | (simp; omega)) _).setCell (by first | omega | (simp; done) | (simp; omega)) _
          | true =>
            have ht1 : (b.start == a.start + (a.xs.length : Int)) = true := by simpa using hsa
            have ht2 : (b.start != a.start + (a.xs.length : Int)) = false := by simpa using hsa
            have sw : IntKind.i64.wrap (a.start + (a.xs.length : Int)) = a.start + (a.xs.length : Int) := IntWalk.i64_in _ (by omega)
            have e1 : okJn a b = goodT (joinT a b) := by unfold okJn; simp only [hga, hgb, hne, hst, hsa, Bool.true_and]
            have e2 : resJn a b = pickT (goodT (joinT a b)) (joinT a b) := by unfold resJn; rw [e1]
            rw [e1, e2]
            clear e1 e2 hga hgb hne hst hsa
            unfold joinT
            generalize hys : a.xs ++ b.xs = ys
            have HYM := Lib.hid (show a.xs.map (Value.int .i64) ++ b.xs.map (Value.int .i64) = ys.map (Value.int .i64) by rw [← hys, List.map_append])
            have HYL := Lib.hid (show a.xs.length + b.xs.length = ys.length by rw [← hys, List.length_append])
            clear hys
            obtain ⟨ti, hi, hz0, hz1, hz2⟩ := info_parts infoInt
            go_enter Tryd.func12, Tryd.ntmps12
            go_wp2_with fail
            refine CGA.out.mono ?_
            rintro e w1 ⟨rfl, hb1⟩
            have B1 := N0.trans (hb1.mono N0.size)
            have a1 := a0.below hb1
            have b1 := b0.below hb1
            have d1 := d0.below hb1
            have hb1' := hb0.below (hb1.mono (Nat.le_trans hB N0.size))
            have ha1' := ha0.below (hb1.mono (Nat.le_trans hB N0.size))
            clear hb1 a0 b0 d0 ha0 hb0 CGA
            have q0 := a1.2 0 _ rfl
            have q1 := a1.2 1 _ rfl
            have q2 := a1.2 2 _ rfl
            have r0 := b1.2 0 _ rfl
            have r1 := b1.2 1 _ rfl
            have r2 := b1.2 2 _ rfl
            go_wp2_with fail
            refine (implGoodB b _ _ B true hb1' (Nat.le_trans hB B1.size) HGB.out).mono ?_
            rintro e w2 ⟨rfl, hb2⟩
            have B2 := B1.trans (hb2.mono B1.size)
            have a2 := a1.below hb2
            have b2 := b1.below hb2
            have d2 := d1.below hb2
            have hb2' := hb1'.below (hb2.mono (Nat.le_trans hB B1.size))
            have ha2' := ha1'.below (hb2.mono (Nat.le_trans hB B1.size))
            clear hb2 a1 b1 d1 ha1' hb1' q0 q1 q2 r0 r1 r2
            have q0 := a2.2 0 _ rfl
            have q1 := a2.2 1 _ rfl
            have q2 := a2.2 2 _ rfl
            have r0 := b2.2 0 _ rfl
            have r1 := b2.2 1 _ rfl
            have r2 := b2.2 2 _ rfl
            go_wp2
            go_region_held3 (fun w' => Below w2.heap.size w2 w' ∧ w'.cell? ⟨w.heap.size, 0, none⟩ = some (.int .i64 a.st) ∧ w'.cell? ⟨w.heap.size, 1, none⟩ = some (.int .i64 a.start) ∧ w'.cell? ⟨w.heap.size, 2, none⟩ = some (.slice ao a.xs.length cap) ∧ w'.cell? ⟨w.heap.size + 1, 0, none⟩ = some (.int .i64 b.st) ∧ w'.cell? ⟨w.heap.size + 1, 1, none⟩ = some (.int .i64 b.start) ∧ w'.cell? ⟨w.heap.size + 1, 2, none⟩ = some (.slice bo b.xs.length bap))
              (first
                | exact ⟨(Below.refl _ _).drew, q0, q1, q2, r0, r1, r2⟩
                | (have q := (Below.refl w2.heap.size w2).drew.trans hb3; exact ⟨q, (a2.below q).2 0 _ rfl, (a2.below q).2 1 _ rfl, (a2.below q).2 2 _ rfl, (b2.below q).2 0 _ rfl, (b2.below q).2 1 _ rfl, (b2.below q).2 2 _ rfl⟩))
              (first
                | (go_at_call 29; refine (endAny a _ _ B (ha2'.below (Below.refl _ _).drew) ga2 ga3 ga4).mono ?_; rintro e w3 ⟨rfl, hb3⟩))
            have qb := (Below.refl w2.heap.size w2).drew.trans hb3
            have B3 := B2.trans (qb.mono B2.size)
            have a3 := a2.below qb
            have b3 := b2.below qb
            have d3 := d2.below qb
            have ha3' := ha2'.below (qb.mono (Nat.le_trans hB B2.size))
            have hb3' := hb2'.below (qb.mono (Nat.le_trans hB B2.size))
            clear qb hb3 a2 b2 d2 ha2' hb2' q0 q1 q2 r0 r1 r2
            have q0 := a3.2 0 _ rfl
            have q1 := a3.2 1 _ rfl
            have q2 := a3.2 2 _ rfl
            have r0 := b3.2 0 _ rfl
            have r1 := b3.2 1 _ rfl
            have r2 := b3.2 2 _ rfl
            have za : w.heap.size < w3.heap.size := a3.1.1
            have zb : w.heap.size + 1 < w3.heap.size := b3.1.1
            have zd : w.heap.size + 1 + 1 < w3.heap.size := d3.1.1
            obtain ⟨va, hva, hla⟩ := ha3'
            simp only [Value.agg.injEq, Array.mk.injEq, List.cons.injEq, and_true, true_and] at hva
            subst hva
            obtain ⟨vb, hvb, hlb⟩ := hb3'
            simp only [Value.agg.injEq, Array.mk.injEq, List.cons.injEq, and_true, true_and] at hvb
            subst hvb
            have NJ := (Below.refl w3.heap.size w3).alloc (Nat.le_refl _) (.cells #[.int .i64 a.st, .int .i64 a.start, .slice ao a.xs.length cap] 26)
            have aj := a3.alloc (.cells #[.int .i64 a.st, .int .i64 a.start, .slice ao a.xs.length cap] 26)
            have bj := b3.alloc (.cells #[.int .i64 a.st, .int .i64 a.start, .slice ao a.xs.length cap] 26)
            have dj := d3.alloc (.cells #[.int .i64 a.st, .int .i64 a.start, .slice ao a.xs.length cap] 26)
            have nj := Bx.new w3 [.int .i64 a.st, .int .i64 a.start, .slice ao a.xs.length cap] 26
            have hlaj := hla.below (NJ.mono (B' := B) (by omega))
            have hlbj := hlb.below (NJ.mono (B' := B) (by omega))
            go_wp2
            go_region_held3 (fun w' => w'.cell? ⟨w.heap.size, 2, none⟩ = some (.slice ao a.xs.length cap) ∧ w'.cell? ⟨w.heap.size + 1, 2, none⟩ = some (.slice bo b.xs.length bap))
              (first
                | exact ⟨aj.2 2 _ rfl, bj.2 2 _ rfl⟩
                | exact ⟨(aj.below ((Below.refl _ _).drew.trans hb4)).2 2 _ rfl, (bj.below ((Below.refl _ _).drew.trans hb4)).2 2 _ rfl⟩
                | exact ⟨a5.2 2 _ rfl, b5.2 2 _ rfl⟩
                | exact ⟨(a5.setOther (p := ⟨w3.heap.size, 2, none⟩) (by simp; omega) _).2 2 _ rfl, (b5.setOther (p := ⟨w3.heap.size, 2, none⟩) (by simp; omega) _).2 2 _ rfl⟩)
              (first
                | (go_at_call 32; refine (implClone a.xs _ _ B (hlaj.below (Below.refl _ _).drew) (by show B ≤ (World.alloc _ _).heap.size; simp; omega) hna).mono ?_; rintro e w4 ⟨v4, rfl, hrow4, hb4⟩; have hb4' := (Below.refl _ _).drew.trans hb4)
                | (refine step_append_src _ (by rfl) _ _ _ (by rfl) (w3.heap.size + 1) 3 ti (.int .i64 0) 8 Tryd.underlying24 hi hz0 hz1 hz2 rfl v4 a.xs.length (a.xs.map (Value.int .i64)) (by rfl) (by simpa using hrow4) _ b.xs.length (b.xs.map (Value.int .i64)) (by rfl) (src_ints (hlbj.below (hb4'.mono (B' := B) (by simp; omega)))) (by unfold maxLen; omega) (by omega) (by have := hb4.size; simpa using this) ?_; intro v5 w5 hrow5 hg5 _; obtain ⟨ao5, cap5, rfl⟩ := row_form hrow5; have hlo5 := fun g e => (hrow4.lt g e).1; have b5 := (bj.below hb4').grown hg5 (fun e => by have := hlo5 _ e.symm; simp at this; omega); have a5 := (aj.below hb4').grown hg5 (fun e => by have := hlo5 _ e.symm; simp at this; omega); have d5 := (dj.below hb4').grown hg5 (fun e => by have := hlo5 _ e.symm; simp at this; omega); have n5 := (nj.below hb4').grown hg5 (fun e => by have := hlo5 _ e.symm; simp at this; omega); have n50 := n5.2 0 _ rfl; have n51 := n5.2 1 _ rfl; have n52 := n5.2 2 _ rfl; have n53 := n5.1.2))
            have B5 : Below w.heap.size w w5 := ((B3.trans (NJ.mono B3.size)).trans (hb4'.mono (by simp; omega))).grown hg5 (by have := hb4.size; simp at this; omega) (fun g e => by have := hlo5 g e; simp at this; omega)
            have z5 : w3.heap.size + 1 ≤ w5.heap.size := by have := hb4.size; have h9 := hg5.size; simp at this; omega
            have hrow6 : (w5.setCell ⟨w3.heap.size, 2, none⟩ (.slice ao5 ys.length cap5)).ownsRow (w3.heap.size + 1) 3 1 (.slice ao5 ys.length cap5) ys.length (ys.map (Value.int .i64)) := by
              rw [← HYL.out, ← HYM.out]
              exact ownsRow_setCell_below hrow5 (by simp) _
            have n6 := n5.set3 (.slice ao5 (a.xs.length + b.xs.length) cap5)
            have d6 := d5.setOther (p := ⟨w3.heap.size, 2, none⟩) (by simp; omega) (.slice ao5 (a.xs.length + b.xs.length) cap5)
            have B6 := B5.setCell (p := ⟨w3.heap.size, 2, none⟩) (by simp; omega) (.slice ao5 (a.xs.length + b.xs.length) cap5)
            have z6 : w3.heap.size + 1 ≤ (w5.setCell ⟨w3.heap.size, 2, none⟩ (.slice ao5 (a.xs.length + b.xs.length) cap5)).heap.size := by simpa using z5
            rw [HYL.out] at n6 d6 B6 z6 ⊢
            generalize w5.setCell ⟨w3.heap.size, 2, none⟩ (.slice ao5 ys.length cap5) = w6 at n6 d6 B6 z6 hrow6 ⊢
            have hl6 : Lst (Value.int .i64) w6 w6.heap.size (.slice ao5 ys.length cap5) ys := row_lst hrow6
            have o6 := Own.of_row hrow6
            have n60 := n6.2 0 _ rfl
            have n61 := n6.2 1 _ rfl
            have n62 := n6.2 2 _ rfl
            clear hrow6
            cases hx2 : goodT ⟨a.st, a.start, ys⟩ with
            | false =>
              have HC := Lib.hid (implGoodB ⟨a.st, a.start, ys⟩ (.agg #[.int .i64 a.st, .int .i64 a.start, .slice ao5 ys.length cap5]) w6 w6.heap.size false ⟨_, rfl, hl6⟩ (Nat.le_refl _) hx2)
              have HX2 := Lib.hid hx2
              clear hx2
              go_wp2_with fail
              refine HC.out.mono ?_
              rintro e w7 ⟨rfl, hb7⟩
              have d7 := d6.below hb7
              have x0 := d7.2 0 _ rfl
              have x1 := d7.2 1 _ rfl
              have x2 := d7.2 2 _ rfl
              have x3 := d7.1.2
              have B7 := B6.trans (hb7.mono B6.size)
              go_wp2
              refine bodyPost_ret (v := .tuple #[.agg #[.int .i64 0, .int .i64 0, .slice none 0 0], .bool false]) (by simp [results, Tryd.results12, go_sem, x0, x1, x2]) rfl ?_
              rw [HX2.out]
              refine ⟨_, rfl, ⟨_, rfl, Own.nil _ _ _⟩, ?_⟩
              exact ((B7.setCell (by first | omega | (simp; done) | (simp; omega)) _).setCell (by first | omega | (simp; done) | (simp; omega)) _).setCell (by first | omega | (simp; done) | (simp; omega)) _
            | true =>
              have HC := Lib.hid (implGoodB ⟨a.st, a.start, ys⟩ (.agg #[.int .i64 a.st, .int .i64 a.start, .slice ao5 ys.length cap5]) w6 w6.heap.size true ⟨_, rfl, hl6⟩ (Nat.le_refl _) hx2)
              have HX2 := Lib.hid hx2
              clear hx2
              go_wp2_with fail
              refine HC.out.mono ?_
              rintro e w7 ⟨rfl, hb7⟩
              have d7 := d6.below hb7
              have n7 := n6.below hb7
              have o7 := o6.below hb7
              have z7 := hb7.size
              have x0 := d7.2 0 _ rfl
              have x1 := d7.2 1 _ rfl
              have x2 := d7.2 2 _ rfl
              have x3 := d7.1.2
              have p0 := n7.2 0 _ rfl
              have p1 := n7.2 1 _ rfl
              have p2 := n7.2 2 _ rfl
              have B7 := B6.trans (hb7.mono B6.size)
              go_wp2
              refine bodyPost_ret (v := .tuple #[.agg #[.int .i64 a.st, .int .i64 a.start, .slice ao5 ys.length cap5], .bool true]) (by simp [results, Tryd.results12, go_sem, x0, x1, x2]) rfl ?_
              rw [HX2.out]
              refine ⟨_, rfl, ⟨_, rfl, ?_⟩, ?_⟩
              · exact (((o7.setLow (by simp; omega) _).setLow (by simp; omega) _).setLow (by simp; omega) _).mono (by omega) (by simp; omega)
              · exact ((B7.setCell (by first | omega | (simp; done) | (simp; omega)) _).setCell (by first | omega | (simp; done) | (simp; omega)) _).setCell (by first | omega | (simp; done) | (simp; omega)) _

end Go.Proofs.YtedngmnjpkhbiaaDoor
