/- FnExactMeanOf: the mean, both programs. -/
import Derived.Test.YtklilfbokpljkacLrg
namespace Go.Proofs.Ytklilfbokpljkac
open Go.ChangeShapes Go.WideShapes Go.ChangeAt Go.RowKit Go.ChangeMaps
set_option linter.unusedSimpArgs false
set_option linter.unusedVariables false

theorem sum_take (xs : List Int) {k : Nat} {x : Int} (h : xs[k]? = some x) : (xs.take (k + 1)).sum = (xs.take k).sum + x := by
  rw [take_snoc h, List.sum_append]; simp
theorem sum_bd (xs : List Int) (h : okX xs = true) : ∀ k : Nat, -100000 * (k : Int) ≤ (xs.take k).sum ∧ (xs.take k).sum ≤ 100000 * (k : Int) := by
  intro k
  induction k with
  | zero => simp
  | succ k ih =>
    by_cases hk : k < xs.length
    · obtain ⟨x, hx⟩ := get_of_lt hk
      have hb := okX_get h hx
      rw [sum_take xs hx]
      omega
    · rw [take_all (l := xs) (k := k + 1) (by omega), ← take_all (l := xs) (k := k) hk]
      omega
def mnum (t : Tr) : Int := if okN t then numR t.xs.sum t.xs.length else 0
def mden (t : Tr) : Int := if okN t then denR t.xs.sum t.xs.length else 0

set_option maxRecDepth 100000 in
set_option maxHeartbeats 1000000 in
theorem implMean (t : Tr) (v : Value) (w : World) (B : Nat) (h : TrL w B v t) (hB : B ≤ w.heap.size) (hn : t.xs.length ≤ 1048576) :
    Calls Try.prog 18 #[v] w fun e w' => e = .returned (.tuple #[.int .i64 (mnum t), .int .i64 (mden t), .bool (okN t)]) ∧ Below w.heap.size w w' := by
  obtain ⟨ao, cap, rfl⟩ := h.form
  have N0 := (Below.refl w.heap.size w).alloc (Nat.le_refl _) (.cells #[.int .i64 t.st, .int .i64 t.start, .slice ao t.xs.length cap] 28)
  have b0 := Bx.new w [.int .i64 t.st, .int .i64 t.start, .slice ao t.xs.length cap] 28
  have h0 := h.below (N0.mono hB)
  cases hg : goodT t with
  | false =>
    have e1 := okN_no hg
    have e2 : mnum t = 0 := by unfold mnum; rw [e1]; rfl
    have e3 : mden t = 0 := by unfold mden; rw [e1]; rfl
    rw [e1, e2, e3]
    clear e1 e2 e3
    have C := Lib.hid (implGoodB t _ _ B false h0 (Nat.le_trans hB N0.size) hg)
    clear hg
    go_enter Try.func18, Try.ntmps18
    go_wp2_with fail
    refine C.out.mono ?_
    rintro e w1 ⟨rfl, hb1⟩
    go_wp2
    go_ret3
    exact ⟨rfl, N0.trans (hb1.mono N0.size)⟩
  | true =>
    have C := Lib.hid (implGoodB t _ _ B true h0 (Nat.le_trans hB N0.size) hg)
    obtain ⟨⟨_, _, g1, g2, g3, _⟩, gx⟩ := goodT_yes hg
    have GX := Lib.hid gx
    have HG := Lib.hid hg
    clear gx hg
    by_cases hne : 0 < t.xs.length
    case neg =>
      have HG2 := Lib.hid hne
      have e1 := okN_nil hne
      have e2 : mnum t = 0 := by unfold mnum; rw [e1]; rfl
      have e3 : mden t = 0 := by unfold mden; rw [e1]; rfl
      rw [e1, e2, e3]
      clear e1 e2 e3
      have hz : ((t.xs.length : Int) == 0) = true := by simp; exact List.length_eq_zero_iff.1 (by omega)
      clear hne
      go_enter Try.func18, Try.ntmps18
      go_wp2_with fail
      refine C.out.mono ?_
      rintro e w1 ⟨rfl, hb1⟩
      have b1 := b0.below hb1
      have q2 := b1.2 2 _ rfl
      go_wp2
      go_ret3
      exact ⟨rfl, N0.trans (hb1.mono N0.size)⟩
    have e1 := okN_yes HG.out hne
    have e2 : mnum t = numR t.xs.sum t.xs.length := by unfold mnum; rw [e1]; rfl
    have e3 : mden t = denR t.xs.sum t.xs.length := by unfold mden; rw [e1]; rfl
    rw [e1, e2, e3]
    clear e1 e2 e3
    have hz : ((t.xs.length : Int) == 0) = false := by simp; exact fun e => by rw [e] at hne; simp at hne
    go_enter Try.func18, Try.ntmps18
    go_wp2_with fail
    refine C.out.mono ?_
    rintro e w1 ⟨rfl, hb1⟩
    have b1 := b0.below hb1
    have h1 := h0.below (hb1.mono (Nat.le_trans hB N0.size))
    have B1 := N0.trans (hb1.mono N0.size)
    have z1 : w.heap.size + 1 ≤ w1.heap.size := by have := hb1.size; simpa using this
    clear hb1 b0 h0 h C N0
    have q0 := b1.2 0 _ rfl
    have q1 := b1.2 1 _ rfl
    have q2 := b1.2 2 _ rfl
    obtain ⟨vs, hv, hl1⟩ := h1
    simp only [Value.agg.injEq, Array.mk.injEq, List.cons.injEq, and_true, true_and] at hv
    subst hv
    obtain ⟨ao', cap', hv', hcap, hmax, _, hc⟩ := hl1
    simp only [Value.slice.injEq] at hv'
    obtain ⟨rfl, _, rfl⟩ := hv'
    unfold maxLen at hmax
    go_wp2
    go_loop [5, 22] (fun l i => ∃ (k : Nat), k ≤ t.xs.length ∧ i = .int .i64 k ∧ l = .int .i64 (t.xs.take k).sum) (fun _ i => t.xs.length - (intOf i).toNat)
    case atStart => exact ⟨0, Nat.zero_le _, rfl, by simp⟩
    case round =>
      obtain ⟨k, hk, rfl, rfl⟩ := hrel
      obtain ⟨s1, s2⟩ := sum_bd t.xs GX.out k
      by_cases hlt : k < t.xs.length
      · obtain ⟨x, hx⟩ := get_of_lt hlt
        obtain ⟨bx1, bx2⟩ := okX_get GX.out hx
        obtain ⟨b, off, rfl, hb, hcx⟩ := hc k x hx
        have HS := Lib.hid (sum_take t.xs hx)
        have hk9 : k ≤ 24 := by omega
        have hi0 : (0 : Int) ≤ (k : Int) := by omega
        have hi1 : (k : Int) < (t.xs.length : Int) := by omega
        have s3 : IntKind.i64.wrap ((t.xs.take k).sum + x) = (t.xs.take k).sum + x := IntWalk.i64_in _ (by omega)
        clear hx hc
        generalize (t.xs.take k).sum = s at *
        go_wp2
        
        go_round
        case rel => exact ⟨k + 1, by omega, by go_num, by rw [HS.out]⟩
        case measure => simp [intOf]; omega
      · rw [take_all hlt] at s1 s2 ⊢
        have hk9 : k ≤ 24 := by omega
        clear hc
        go_wp2_with fail
        refine (implRed t.xs.sum t.xs.length _ (by omega) (by omega) (by omega) (by omega)).mono ?_
        rintro e w2 ⟨rfl, hdr⟩
        go_wp2
        go_ret3
        exact ⟨rfl, B1.trans (hdr.below _)⟩
set_option maxRecDepth 100000 in
set_option maxHeartbeats 1000000 in
theorem specMean (t : Tr) (v : Value) (w : World) (B : Nat) (h : TrL w B v t) (hB : B ≤ w.heap.size) (hn : t.xs.length ≤ 1048576) :
    Calls Try.prog 17 #[v] w fun e w' => e = .returned (.tuple #[.int .i64 (mnum t), .int .i64 (mden t), .bool (okN t)]) ∧ Below w.heap.size w w' := by
  obtain ⟨ao, cap, rfl⟩ := h.form
  have N0 := (Below.refl w.heap.size w).alloc (Nat.le_refl _) (.cells #[.int .i64 t.st, .int .i64 t.start, .slice ao t.xs.length cap] 28)
  have b0 := Bx.new w [.int .i64 t.st, .int .i64 t.start, .slice ao t.xs.length cap] 28
  have h0 := h.below (N0.mono hB)
  cases hg : goodT t with
  | false =>
    have e1 := okN_no hg
    have e2 : mnum t = 0 := by unfold mnum; rw [e1]; rfl
    have e3 : mden t = 0 := by unfold mden; rw [e1]; rfl
    rw [e1, e2, e3]
    clear e1 e2 e3
    have C := Lib.hid (specGoodB t _ _ B false h0 (Nat.le_trans hB N0.size) hg)
    clear hg
    go_enter Try.func17, Try.ntmps17
    go_wp2_with fail
    refine C.out.mono ?_
    rintro e w1 ⟨rfl, hb1⟩
    go_wp2
    go_ret3
    exact ⟨rfl, N0.trans (hb1.mono N0.size)⟩
  | true =>
    have C := Lib.hid (specGoodB t _ _ B true h0 (Nat.le_trans hB N0.size) hg)
    obtain ⟨⟨_, _, g1, g2, g3, _⟩, gx⟩ := goodT_yes hg
    have GX := Lib.hid gx
    have HG := Lib.hid hg
    clear gx hg
    by_cases hne : 0 < t.xs.length
    case neg =>
      have HG2 := Lib.hid hne
      have e1 := okN_nil hne
      have e2 : mnum t = 0 := by unfold mnum; rw [e1]; rfl
      have e3 : mden t = 0 := by unfold mden; rw [e1]; rfl
      rw [e1, e2, e3]
      clear e1 e2 e3
      have hz : ((t.xs.length : Int) == 0) = true := by simp; exact List.length_eq_zero_iff.1 (by omega)
      clear hne
      go_enter Try.func17, Try.ntmps17
      go_wp2_with fail
      refine C.out.mono ?_
      rintro e w1 ⟨rfl, hb1⟩
      have b1 := b0.below hb1
      have q2 := b1.2 2 _ rfl
      go_wp2
      go_ret3
      exact ⟨rfl, N0.trans (hb1.mono N0.size)⟩
    have e1 := okN_yes HG.out hne
    have e2 : mnum t = numR t.xs.sum t.xs.length := by unfold mnum; rw [e1]; rfl
    have e3 : mden t = denR t.xs.sum t.xs.length := by unfold mden; rw [e1]; rfl
    rw [e1, e2, e3]
    clear e1 e2 e3
    have hz : ((t.xs.length : Int) == 0) = false := by simp; exact fun e => by rw [e] at hne; simp at hne
    go_enter Try.func17, Try.ntmps17
    go_wp2_with fail
    refine C.out.mono ?_
    rintro e w1 ⟨rfl, hb1⟩
    have b1 := b0.below hb1
    have h1 := h0.below (hb1.mono (Nat.le_trans hB N0.size))
    have B1 := N0.trans (hb1.mono N0.size)
    have z1 : w.heap.size + 1 ≤ w1.heap.size := by have := hb1.size; simpa using this
    clear hb1 b0 h0 h C N0
    have q0 := b1.2 0 _ rfl
    have q1 := b1.2 1 _ rfl
    have q2 := b1.2 2 _ rfl
    obtain ⟨vs, hv, hl1⟩ := h1
    simp only [Value.agg.injEq, Array.mk.injEq, List.cons.injEq, and_true, true_and] at hv
    subst hv
    obtain ⟨ao', cap', hv', hcap, hmax, _, hc⟩ := hl1
    simp only [Value.slice.injEq] at hv'
    obtain ⟨rfl, _, rfl⟩ := hv'
    unfold maxLen at hmax
    go_wp2
    go_loop [5, 6] (fun l i => ∃ (k : Nat), k ≤ t.xs.length ∧ i = .int .i64 k ∧ l = .int .i64 (t.xs.take k).sum) (fun _ i => t.xs.length - (intOf i).toNat)
    case atStart => exact ⟨0, Nat.zero_le _, rfl, by simp⟩
    case round =>
      obtain ⟨k, hk, rfl, rfl⟩ := hrel
      obtain ⟨s1, s2⟩ := sum_bd t.xs GX.out k
      by_cases hlt : k < t.xs.length
      · obtain ⟨x, hx⟩ := get_of_lt hlt
        obtain ⟨bx1, bx2⟩ := okX_get GX.out hx
        obtain ⟨b, off, rfl, hb, hcx⟩ := hc k x hx
        have HS := Lib.hid (sum_take t.xs hx)
        have hk9 : k ≤ 24 := by omega
        have hi0 : (0 : Int) ≤ (k : Int) := by omega
        have hi1 : (k : Int) < (t.xs.length : Int) := by omega
        have s3 : IntKind.i64.wrap ((t.xs.take k).sum + x) = (t.xs.take k).sum + x := IntWalk.i64_in _ (by omega)
        clear hx hc
        generalize (t.xs.take k).sum = s at *
        go_wp2
        
        go_round
        case rel => exact ⟨k + 1, by omega, by go_num, by rw [HS.out]⟩
        case measure => simp [intOf]; omega
      · rw [take_all hlt] at s1 s2 ⊢
        have hk9 : k ≤ 24 := by omega
        clear hc
        go_wp2_with fail
        refine (specRed t.xs.sum t.xs.length _ (by omega) (by omega) (by omega) (by omega)).mono ?_
        rintro e w2 ⟨rfl, hdr⟩
        go_wp2
        go_ret3
        exact ⟨rfl, B1.trans (hdr.below _)⟩

end Go.Proofs.Ytklilfbokpljkac
