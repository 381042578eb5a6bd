/- The sample at a tick: both programs. -/
import Derived.Test.YtklilfbokpljkacGood
import Derived.Test.YtklilfbokpljkacBx
namespace Go.Proofs.Ytklilfbokpljkac
open Go.ChangeShapes Go.WideShapes Go.ChangeAt Go.RowKit Go.ChangeMaps
set_option linter.unusedSimpArgs false
set_option linter.unusedVariables false

def hasT (t : Tr) (k : Int) : Bool := decide (t.start ≤ k ∧ k < t.start + (t.xs.length : Int))
theorem hasT_yes {t : Tr} {k : Int} (h : hasT t k = true) : t.start ≤ k ∧ k < t.start + (t.xs.length : Int) := of_decide_eq_true h
theorem hasT_no {t : Tr} {k : Int} (h : hasT t k = false) : ¬ (t.start ≤ k ∧ k < t.start + (t.xs.length : Int)) := of_decide_eq_false h
def okAt (t : Tr) (k : Int) : Bool := goodT t && hasT t k
def resAt (t : Tr) (k : Int) : Int := if okAt t k then t.xs.getD (k - t.start).toNat 0 else 0

set_option maxHeartbeats 400000 in
theorem implHas (t : Tr) (v : Value) (k : Int) (w : World) (B : Nat) (h : TrL w B v t) (hB : B ≤ w.heap.size) (h0 : 0 ≤ t.start) (h1 : t.start ≤ 1000000) (h2 : (t.xs.length : Int) ≤ 24) :
    Calls Try.prog 85 #[v, .int .i64 k] w fun e w' => e = .returned (.bool (hasT t k)) ∧ Below w.heap.size w w' := by
  obtain ⟨ao, cap, rfl⟩ := h.form
  clear h
  cases hh : hasT t k with
  | true =>
    obtain ⟨h3, h4⟩ := hasT_yes hh
    clear hh
    go_enter Try.func85, Try.ntmps85
    go_wp2
    go_ret
    exact ⟨rfl, ((Below.refl _ w).alloc (Nat.le_refl _) _).alloc (by simp) _⟩
  | false =>
    have h3 := hasT_no hh
    clear hh
    by_cases h4 : t.start ≤ k
    · have h5 : ¬ k < t.start + (t.xs.length : Int) := fun g => h3 ⟨h4, g⟩
      go_enter Try.func85, Try.ntmps85
      go_wp2
      go_ret
      exact ⟨rfl, ((Below.refl _ w).alloc (Nat.le_refl _) _).alloc (by simp) _⟩
    · clear h3
      go_enter Try.func85, Try.ntmps85
      go_wp2
      go_ret
      exact ⟨rfl, ((Below.refl _ w).alloc (Nat.le_refl _) _)⟩

theorem specHas (t : Tr) (v : Value) (k : Int) (w : World) (B : Nat) (h : TrL w B v t) (hB : B ≤ w.heap.size) (h0 : 0 ≤ t.start) (h1 : t.start ≤ 1000000) (h2 : (t.xs.length : Int) ≤ 24) :
    Calls Try.prog 92 #[v, .int .i64 k] w fun e w' => e = .returned (.bool (hasT t k)) ∧ Below w.heap.size w w' := by
  obtain ⟨ao, cap, rfl⟩ := h.form
  clear h
  cases hh : hasT t k with
  | true =>
    have h3 := hasT_yes hh
    clear hh
    go_enter Try.func92, Try.ntmps92
    go_wp2_with fail
    refine (inYes k _ _ _ (by omega)).mono ?_
    rintro e w1 ⟨rfl, rfl⟩
    go_wp2
    go_ret
    exact ⟨rfl, ((Below.refl _ w).alloc (Nat.le_refl _) _)⟩
  | false =>
    have h3 := hasT_no hh
    clear hh
    go_enter Try.func92, Try.ntmps92
    go_wp2_with fail
    refine (inNo k _ _ _ (by omega)).mono ?_
    rintro e w1 ⟨rfl, rfl⟩
    go_wp2
    go_ret
    exact ⟨rfl, ((Below.refl _ w).alloc (Nat.le_refl _) _)⟩

set_option maxHeartbeats 400000 in
theorem implAt (t : Tr) (v : Value) (k : Int) (w : World) (B : Nat) (h : TrL w B v t) (hB : B ≤ w.heap.size) (_ : t.xs.length ≤ 1048576) (_ : I64 k) :
    Calls Try.prog 21 #[v, .int .i64 k] w fun e w' => e = .returned (.tuple #[.int .i64 (resAt t k), .bool (okAt t k)]) ∧ Below w.heap.size w w' := by
  obtain ⟨ao, cap, rfl⟩ := h.form
  have N0 := (Below.refl w.heap.size w).alloc (Nat.le_refl _) (.cells #[.int .i64 t.st, .int .i64 t.start, .slice ao t.xs.length cap] 28)
  have b0 := Bx.new w [.int .i64 t.st, .int .i64 t.start, .slice ao t.xs.length cap] 28
  have h0 := h.below (N0.mono hB)
  cases hg : goodT t with
  | false =>
    have e1 : okAt t k = false := by unfold okAt; rw [hg]; rfl
    have e2 : resAt t k = 0 := by unfold resAt; rw [e1]; rfl
    rw [e1, e2]
    have C := Lib.hid (implGoodB t _ _ B false h0 (Nat.le_trans hB N0.size) hg)
    clear hg e1 e2
    go_enter Try.func21, Try.ntmps21
    go_wp2_with fail
    refine C.out.mono ?_
    rintro e w1 ⟨rfl, hb1⟩
    go_wp2
    go_ret2
    exact ⟨rfl, N0.trans (hb1.mono N0.size)⟩
  | true =>
    obtain ⟨⟨_, _, g1, g2, g3, _⟩, _⟩ := goodT_yes hg
    have C := Lib.hid (implGoodB t _ _ B true h0 (Nat.le_trans hB N0.size) hg)
    cases hh : hasT t k with
    | false =>
      have e1 : okAt t k = false := by unfold okAt; rw [hg, hh]; rfl
      have e2 : resAt t k = 0 := by unfold resAt; rw [e1]; rfl
      rw [e1, e2]
      have HH := Lib.hid hh
      clear hg hh e1 e2
      go_enter Try.func21, Try.ntmps21
      go_wp2_with fail
      refine C.out.mono ?_
      rintro e w1 ⟨rfl, hb1⟩
      have b1 := b0.below hb1
      have h1 := h0.below (hb1.mono (Nat.le_trans hB N0.size))
      have q0 := b1.2 0 _ rfl
      have q1 := b1.2 1 _ rfl
      have q2 := b1.2 2 _ rfl
      have B1 := N0.trans (hb1.mono N0.size)
      clear hb1 b0 h0 b1
      go_wp2_with fail
      refine (implHas t _ k _ B h1 (Nat.le_trans hB B1.size) g1 g2 g3).mono ?_
      rw [HH.out]
      rintro e w2 ⟨rfl, hb2⟩
      go_wp2
      go_ret2
      exact ⟨rfl, B1.trans (hb2.mono B1.size)⟩
    | true =>
      obtain ⟨k1, k2⟩ := hasT_yes hh
      obtain ⟨x, hx⟩ := get_of_lt (l := t.xs) (k := (k - t.start).toNat) (by omega)
      have e1 : okAt t k = true := by unfold okAt; rw [hg, hh]; rfl
      have e2 : resAt t k = x := by
        unfold resAt
        rw [e1]
        simp [List.getD, hx]
      rw [e1, e2]
      have HH := Lib.hid hh
      have HX := Lib.hid hx
      have hj1 : 0 ≤ k - t.start := by omega
      have hj2 : k - t.start < (t.xs.length : Int) := by omega
      clear hg hh e1 e2 hx
      go_enter Try.func21, Try.ntmps21
      go_wp2_with fail
      refine C.out.mono ?_
      rintro e w1 ⟨rfl, hb1⟩
      have b1 := b0.below hb1
      have h1 := h0.below (hb1.mono (Nat.le_trans hB N0.size))
      have q0 := b1.2 0 _ rfl
      have q1 := b1.2 1 _ rfl
      have q2 := b1.2 2 _ rfl
      have B1 := N0.trans (hb1.mono N0.size)
      clear hb1 b0 h0
      go_wp2_with fail
      refine (implHas t _ k _ B h1 (Nat.le_trans hB B1.size) g1 g2 g3).mono ?_
      rw [HH.out]
      rintro e w2 ⟨rfl, hb2⟩
      have h2 := h1.below (hb2.mono (Nat.le_trans hB B1.size))
      have b2 := b1.below hb2
      clear q0 q1 q2 b1 h1
      have q0 := b2.2 0 _ rfl
      have q1 := b2.2 1 _ rfl
      have q2 := b2.2 2 _ rfl
      obtain ⟨vs, hv, hl2⟩ := h2
      simp only [Value.agg.injEq, Array.mk.injEq, List.cons.injEq, and_true, true_and] at hv
      subst hv
      obtain ⟨ao', cap', hv', _, _, _, hc⟩ := hl2
      simp only [Value.slice.injEq] at hv'
      obtain ⟨rfl, _, rfl⟩ := hv'
      obtain ⟨b, off, rfl, hbb, hcell⟩ := hc _ x HX.out
      clear hc
      go_wp2
      go_ret2
      exact ⟨rfl, B1.trans (hb2.mono B1.size)⟩

set_option maxHeartbeats 400000 in
theorem specAt (t : Tr) (v : Value) (k : Int) (w : World) (B : Nat) (h : TrL w B v t) (hB : B ≤ w.heap.size) (_ : t.xs.length ≤ 1048576) (_ : I64 k) :
    Calls Try.prog 33 #[v, .int .i64 k] w fun e w' => e = .returned (.tuple #[.int .i64 (resAt t k), .bool (okAt t k)]) ∧ Below w.heap.size w w' := by
  obtain ⟨ao, cap, rfl⟩ := h.form
  have N0 := (Below.refl w.heap.size w).alloc (Nat.le_refl _) (.cells #[.int .i64 t.st, .int .i64 t.start, .slice ao t.xs.length cap] 28)
  have b0 := Bx.new w [.int .i64 t.st, .int .i64 t.start, .slice ao t.xs.length cap] 28
  have h0 := h.below (N0.mono hB)
  cases hg : goodT t with
  | false =>
    have e1 : okAt t k = false := by unfold okAt; rw [hg]; rfl
    have e2 : resAt t k = 0 := by unfold resAt; rw [e1]; rfl
    rw [e1, e2]
    have C := Lib.hid (specGoodB t _ _ B false h0 (Nat.le_trans hB N0.size) hg)
    clear hg e1 e2
    go_enter Try.func33, Try.ntmps33
    go_wp2_with fail
    refine C.out.mono ?_
    rintro e w1 ⟨rfl, hb1⟩
    go_wp2
    go_ret2
    exact ⟨rfl, N0.trans (hb1.mono N0.size)⟩
  | true =>
    obtain ⟨⟨_, _, g1, g2, g3, _⟩, _⟩ := goodT_yes hg
    have C := Lib.hid (specGoodB t _ _ B true h0 (Nat.le_trans hB N0.size) hg)
    cases hh : hasT t k with
    | false =>
      have e1 : okAt t k = false := by unfold okAt; rw [hg, hh]; rfl
      have e2 : resAt t k = 0 := by unfold resAt; rw [e1]; rfl
      rw [e1, e2]
      have HH := Lib.hid hh
      clear hg hh e1 e2
      go_enter Try.func33, Try.ntmps33
      go_wp2_with fail
      refine C.out.mono ?_
      rintro e w1 ⟨rfl, hb1⟩
      have b1 := b0.below hb1
      have h1 := h0.below (hb1.mono (Nat.le_trans hB N0.size))
      have q0 := b1.2 0 _ rfl
      have q1 := b1.2 1 _ rfl
      have q2 := b1.2 2 _ rfl
      have B1 := N0.trans (hb1.mono N0.size)
      clear hb1 b0 h0 b1
      go_wp2_with fail
      refine (specHas t _ k _ B h1 (Nat.le_trans hB B1.size) g1 g2 g3).mono ?_
      rw [HH.out]
      rintro e w2 ⟨rfl, hb2⟩
      go_wp2
      go_ret2
      exact ⟨rfl, B1.trans (hb2.mono B1.size)⟩
    | true =>
      obtain ⟨k1, k2⟩ := hasT_yes hh
      obtain ⟨x, hx⟩ := get_of_lt (l := t.xs) (k := (k - t.start).toNat) (by omega)
      have e1 : okAt t k = true := by unfold okAt; rw [hg, hh]; rfl
      have e2 : resAt t k = x := by
        unfold resAt
        rw [e1]
        simp [List.getD, hx]
      rw [e1, e2]
      have HH := Lib.hid hh
      have HX := Lib.hid hx
      have hj1 : 0 ≤ k - t.start := by omega
      have hj2 : k - t.start < (t.xs.length : Int) := by omega
      clear hg hh e1 e2 hx
      go_enter Try.func33, Try.ntmps33
      go_wp2_with fail
      refine C.out.mono ?_
      rintro e w1 ⟨rfl, hb1⟩
      have b1 := b0.below hb1
      have h1 := h0.below (hb1.mono (Nat.le_trans hB N0.size))
      have q0 := b1.2 0 _ rfl
      have q1 := b1.2 1 _ rfl
      have q2 := b1.2 2 _ rfl
      have B1 := N0.trans (hb1.mono N0.size)
      clear hb1 b0 h0
      go_wp2_with fail
      refine (specHas t _ k _ B h1 (Nat.le_trans hB B1.size) g1 g2 g3).mono ?_
      rw [HH.out]
      rintro e w2 ⟨rfl, hb2⟩
      have h2 := h1.below (hb2.mono (Nat.le_trans hB B1.size))
      have b2 := b1.below hb2
      clear q0 q1 q2 b1 h1
      have q0 := b2.2 0 _ rfl
      have q1 := b2.2 1 _ rfl
      have q2 := b2.2 2 _ rfl
      obtain ⟨vs, hv, hl2⟩ := h2
      simp only [Value.agg.injEq, Array.mk.injEq, List.cons.injEq, and_true, true_and] at hv
      subst hv
      obtain ⟨ao', cap', hv', _, _, _, hc⟩ := hl2
      simp only [Value.slice.injEq] at hv'
      obtain ⟨rfl, _, rfl⟩ := hv'
      obtain ⟨b, off, rfl, hbb, hcell⟩ := hc _ x HX.out
      clear hc
      go_wp2
      go_ret2
      exact ⟨rfl, B1.trans (hb2.mono B1.size)⟩

end Go.Proofs.Ytklilfbokpljkac
