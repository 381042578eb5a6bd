/- FnExactLargestSample: the largest sample, both programs. -/
import Derived.Test.YtklilfbokpljkacRed
import Derived.Test.YtklilfbokpljkacHasT
import Derived.BigQuiet
namespace Go.Proofs.Ytklilfbokpljkac
open Go.ChangeShapes Go.WideShapes Go.ChangeAt Go.RowKit Go.ChangeMaps
set_option linter.unusedSimpArgs false
set_option linter.unusedVariables false

/-- Where the largest of the first k samples is. -/
def bst (xs : List Int) : Nat → Nat
  | 0 => 0
  | k + 1 => if ab (xs.getD (bst xs k) 0) < ab (xs.getD k 0) then k else bst xs k
theorem bst_le (xs : List Int) (k : Nat) : bst xs k ≤ k - 1 := by
  induction k with
  | zero => simp [bst]
  | succ k ih => simp only [bst]; split <;> omega
theorem bst_one (xs : List Int) : bst xs 1 = 0 := by simp [bst]
def okN (t : Tr) : Bool := goodT t && decide (0 < t.xs.length)
def tickL (t : Tr) : Int := if okN t then t.start + bst t.xs t.xs.length else 0
def valL (t : Tr) : Int := if okN t then t.xs.getD (bst t.xs t.xs.length) 0 else 0
theorem okN_no {t : Tr} (h : goodT t = false) : okN t = false := by unfold okN; rw [h]; rfl
theorem okN_nil {t : Tr} (h : ¬ 0 < t.xs.length) : okN t = false := by unfold okN; rw [decide_eq_false h, Bool.and_false]
theorem okN_yes {t : Tr} (h : goodT t = true) (g : 0 < t.xs.length) : okN t = true := by unfold okN; rw [h, decide_eq_true g]; rfl

set_option maxRecDepth 100000 in
set_option maxHeartbeats 1000000 in
theorem implLrg (t : Tr) (v : Value) (w : World) (B : Nat) (h : TrL w B v t) (hB : B ≤ w.heap.size) (hn : t.xs.length ≤ 1048576) :
    Calls Try.prog 15 #[v] w fun e w' => e = .returned (.tuple #[.int .i64 (tickL t), .int .i64 (valL t), .bool (okN t)]) ∧ Below w.heap.size w w' := by
  obtain ⟨ao, cap, rfl⟩ := h.form
  have N0 := (Below.refl w.heap.size w).alloc (Nat.le_refl _) (.cells #[.int .i64 t.st, .int .i64 t.start, .slice ao t.xs.length cap] 28)
  have b0 := Bx.new w [.int .i64 t.st, .int .i64 t.start, .slice ao t.xs.length cap] 28
  have h0 := h.below (N0.mono hB)
  cases hg : goodT t with
  | false =>
    have e1 := okN_no hg
    have e2 : tickL t = 0 := by unfold tickL; rw [e1]; rfl
    have e3 : valL t = 0 := by unfold valL; rw [e1]; rfl
    rw [e1, e2, e3]
    clear e1 e2 e3
    have C := Lib.hid (implGoodB t _ _ B false h0 (Nat.le_trans hB N0.size) hg)
    clear hg
    go_enter Try.func15, Try.ntmps15
    go_wp2_with fail
    refine C.out.mono ?_
    rintro e w1 ⟨rfl, hb1⟩
    go_wp2
    go_ret3
    exact ⟨rfl, N0.trans (hb1.mono N0.size)⟩
  | true =>
    have C := Lib.hid (implGoodB t _ _ B true h0 (Nat.le_trans hB N0.size) hg)
    obtain ⟨⟨_, _, g1, g2, g3, _⟩, gx⟩ := goodT_yes hg
    have GX := Lib.hid gx
    have HG := Lib.hid hg
    clear gx hg
    by_cases hne : 0 < t.xs.length
    case neg =>
      have HG2 := Lib.hid hne
      have e1 := okN_nil hne
      have e2 : tickL t = 0 := by unfold tickL; rw [e1]; rfl
      have e3 : valL t = 0 := by unfold valL; rw [e1]; rfl
      rw [e1, e2, e3]
      clear e1 e2 e3
      have hz : ((t.xs.length : Int) == 0) = true := by simp; exact List.length_eq_zero_iff.1 (by omega)
      clear hne
      go_enter Try.func15, Try.ntmps15
      go_wp2_with fail
      refine C.out.mono ?_
      rintro e w1 ⟨rfl, hb1⟩
      have b1 := b0.below hb1
      have q2 := b1.2 2 _ rfl
      go_wp2
      go_ret3
      exact ⟨rfl, N0.trans (hb1.mono N0.size)⟩
    have e1 := okN_yes HG.out hne
    have e2 : tickL t = t.start + bst t.xs t.xs.length := by unfold tickL; rw [e1]; rfl
    have e3 : valL t = t.xs.getD (bst t.xs t.xs.length) 0 := by unfold valL; rw [e1]; rfl
    rw [e1, e2, e3]
    clear e1 e2 e3
    have hz : ((t.xs.length : Int) == 0) = false := by simp; exact fun e => by rw [e] at hne; simp at hne
    go_enter Try.func15, Try.ntmps15
    go_wp2_with fail
    refine C.out.mono ?_
    rintro e w1 ⟨rfl, hb1⟩
    have b1 := b0.below hb1
    have h1 := h0.below (hb1.mono (Nat.le_trans hB N0.size))
    have B1 := N0.trans (hb1.mono N0.size)
    have z1 : w.heap.size + 1 ≤ w1.heap.size := by have := hb1.size; simpa using this
    clear hb1 b0 h0 h C N0
    have q0 := b1.2 0 _ rfl
    have q1 := b1.2 1 _ rfl
    have q2 := b1.2 2 _ rfl
    obtain ⟨vs, hv, hl1⟩ := h1
    simp only [Value.agg.injEq, Array.mk.injEq, List.cons.injEq, and_true, true_and] at hv
    subst hv
    obtain ⟨ao', cap', hv', hcap, hmax, _, hc⟩ := hl1
    simp only [Value.slice.injEq] at hv'
    obtain ⟨rfl, _, rfl⟩ := hv'
    unfold maxLen at hmax
    go_wp2
    go_loopw [5, 20] (fun l i wr => ∃ (k : Nat), 0 ≤ k ∧ k ≤ t.xs.length ∧ i = .int .i64 k ∧ l = .int .i64 (bst t.xs k : Nat) ∧ Drawn w1 wr) (fun _ i _ => t.xs.length - (intOf i).toNat)
    case atStart => exact ⟨0, Nat.le_refl _, by omega, rfl, rfl, Drawn.refl _⟩
    case round =>
      obtain ⟨k, hk0, hk, rfl, rfl, hdr⟩ := hrel
      have q0' := (hdr.cell _).trans q0
      have q1' := (hdr.cell _).trans q1
      have q2' := (hdr.cell _).trans q2
      have hbl := bst_le t.xs k
      by_cases hlt : k < t.xs.length
      · have hj : bst t.xs k < t.xs.length := by omega
        obtain ⟨x, hx⟩ := get_of_lt hlt
        obtain ⟨y, hy⟩ := get_of_lt hj
        obtain ⟨bx1, bx2⟩ := okX_get GX.out hx
        obtain ⟨by1, by2⟩ := okX_get GX.out hy
        obtain ⟨b, off, rfl, hb, hcx⟩ := hc k x hx
        obtain ⟨b', off', hbb, _, hcy⟩ := hc _ y hy
        cases hbb
        have hcx' := (hdr.cell _).trans hcx
        have hcy' := (hdr.cell _).trans hcy
        have hs : bst t.xs (k + 1) = if ab y < ab x then k else bst t.xs k := by simp only [bst, List.getD, hx, hy, Option.getD_some]
        have HS := Lib.hid hs
        have hi0 : (0 : Int) ≤ (k : Int) := by omega
        have hi1 : (k : Int) < (t.xs.length : Int) := by omega
        have hj0 : (0 : Int) ≤ ((bst t.xs k : Nat) : Int) := by omega
        have hj1 : ((bst t.xs k : Nat) : Int) < (t.xs.length : Int) := by omega
        have hk9 : k ≤ 24 := by omega
        clear hs hx hy hc hcx hcy
        generalize bst t.xs k = j at *
        generalize hmx : ab x = mx at *
        generalize hmy : ab y = my at *
        have HX := Lib.hid hmx
        have HY := Lib.hid hmy
        clear hmx hmy
        go_wp2
        go_quiet ((go_at_call 81; first | exact Calls.quiet_of_same (magAny x mx _ (by omega) (by omega) HX.out) | exact Calls.quiet_of_same (magAny y my _ (by omega) (by omega) HY.out)))
        by_cases hmm : my < mx
        · go_wp2
          go_roundw
          case rel => exact ⟨k + 1, by omega, by omega, by go_num, by rw [HS.out, if_pos hmm], hdr.drewN _⟩
          case measure => simp [intOf]; omega
        · go_wp2
          go_roundw
          case rel => exact ⟨k + 1, by omega, by omega, by go_num, by rw [HS.out, if_neg hmm], hdr.drewN _⟩
          case measure => simp [intOf]; omega
      · obtain rfl : k = t.xs.length := by omega
        have hj : bst t.xs t.xs.length < t.xs.length := by omega
        obtain ⟨y, hy⟩ := get_of_lt hj
        obtain ⟨b, off, rfl, hb, hcy⟩ := hc _ y hy
        have hcy' := (hdr.cell _).trans hcy
        have hr : t.xs.getD (bst t.xs t.xs.length) 0 = y := by simp [List.getD, hy]
        have HR := Lib.hid hr
        have hj0 : (0 : Int) ≤ ((bst t.xs t.xs.length : Nat) : Int) := by omega
        have hj1 : ((bst t.xs t.xs.length : Nat) : Int) < (t.xs.length : Int) := by omega
        have s1 : IntKind.i64.wrap (t.start + ((bst t.xs t.xs.length : Nat) : Int)) = t.start + ((bst t.xs t.xs.length : Nat) : Int) := IntWalk.i64_in _ (by omega)
        clear hc hy hr hcy
        go_wp2
        go_quiet (fail)
        go_wp2
        go_ret3
        exact ⟨ret3i rfl HR.out.symm, drewN_b (B1.trans (hdr.below _)) _⟩
set_option maxRecDepth 100000 in
set_option maxHeartbeats 1000000 in
theorem specLrg (t : Tr) (v : Value) (w : World) (B : Nat) (h : TrL w B v t) (hB : B ≤ w.heap.size) (hn : t.xs.length ≤ 1048576) :
    Calls Try.prog 13 #[v] w fun e w' => e = .returned (.tuple #[.int .i64 (tickL t), .int .i64 (valL t), .bool (okN t)]) ∧ Below w.heap.size w w' := by
  obtain ⟨ao, cap, rfl⟩ := h.form
  have N0 := (Below.refl w.heap.size w).alloc (Nat.le_refl _) (.cells #[.int .i64 t.st, .int .i64 t.start, .slice ao t.xs.length cap] 28)
  have b0 := Bx.new w [.int .i64 t.st, .int .i64 t.start, .slice ao t.xs.length cap] 28
  have h0 := h.below (N0.mono hB)
  cases hg : goodT t with
  | false =>
    have e1 := okN_no hg
    have e2 : tickL t = 0 := by unfold tickL; rw [e1]; rfl
    have e3 : valL t = 0 := by unfold valL; rw [e1]; rfl
    rw [e1, e2, e3]
    clear e1 e2 e3
    have C := Lib.hid (specGoodB t _ _ B false h0 (Nat.le_trans hB N0.size) hg)
    clear hg
    go_enter Try.func13, Try.ntmps13
    go_wp2_with fail
    refine C.out.mono ?_
    rintro e w1 ⟨rfl, hb1⟩
    go_wp2
    go_ret3
    exact ⟨rfl, N0.trans (hb1.mono N0.size)⟩
  | true =>
    have C := Lib.hid (specGoodB t _ _ B true h0 (Nat.le_trans hB N0.size) hg)
    obtain ⟨⟨_, _, g1, g2, g3, _⟩, gx⟩ := goodT_yes hg
    have GX := Lib.hid gx
    have HG := Lib.hid hg
    clear gx hg
    by_cases hne : 0 < t.xs.length
    case neg =>
      have HG2 := Lib.hid hne
      have e1 := okN_nil hne
      have e2 : tickL t = 0 := by unfold tickL; rw [e1]; rfl
      have e3 : valL t = 0 := by unfold valL; rw [e1]; rfl
      rw [e1, e2, e3]
      clear e1 e2 e3
      have hz : ((t.xs.length : Int) == 0) = true := by simp; exact List.length_eq_zero_iff.1 (by omega)
      clear hne
      go_enter Try.func13, Try.ntmps13
      go_wp2_with fail
      refine C.out.mono ?_
      rintro e w1 ⟨rfl, hb1⟩
      have b1 := b0.below hb1
      have q2 := b1.2 2 _ rfl
      go_wp2
      go_ret3
      exact ⟨rfl, N0.trans (hb1.mono N0.size)⟩
    have e1 := okN_yes HG.out hne
    have e2 : tickL t = t.start + bst t.xs t.xs.length := by unfold tickL; rw [e1]; rfl
    have e3 : valL t = t.xs.getD (bst t.xs t.xs.length) 0 := by unfold valL; rw [e1]; rfl
    rw [e1, e2, e3]
    clear e1 e2 e3
    have hz : ((t.xs.length : Int) == 0) = false := by simp; exact fun e => by rw [e] at hne; simp at hne
    go_enter Try.func13, Try.ntmps13
    go_wp2_with fail
    refine C.out.mono ?_
    rintro e w1 ⟨rfl, hb1⟩
    have b1 := b0.below hb1
    have h1 := h0.below (hb1.mono (Nat.le_trans hB N0.size))
    have B1 := N0.trans (hb1.mono N0.size)
    have z1 : w.heap.size + 1 ≤ w1.heap.size := by have := hb1.size; simpa using this
    clear hb1 b0 h0 h C N0
    have q0 := b1.2 0 _ rfl
    have q1 := b1.2 1 _ rfl
    have q2 := b1.2 2 _ rfl
    obtain ⟨vs, hv, hl1⟩ := h1
    simp only [Value.agg.injEq, Array.mk.injEq, List.cons.injEq, and_true, true_and] at hv
    subst hv
    obtain ⟨ao', cap', hv', hcap, hmax, _, hc⟩ := hl1
    simp only [Value.slice.injEq] at hv'
    obtain ⟨rfl, _, rfl⟩ := hv'
    unfold maxLen at hmax
    go_wp2
    go_loopw [5, 6] (fun l i wr => ∃ (k : Nat), 1 ≤ k ∧ k ≤ t.xs.length ∧ i = .int .i64 k ∧ l = .int .i64 (bst t.xs k : Nat) ∧ Drawn w1 wr) (fun _ i _ => t.xs.length - (intOf i).toNat)
    case atStart => exact ⟨1, Nat.le_refl _, by omega, rfl, by rw [bst_one]; rfl, Drawn.refl _⟩
    case round =>
      obtain ⟨k, hk0, hk, rfl, rfl, hdr⟩ := hrel
      have q0' := (hdr.cell _).trans q0
      have q1' := (hdr.cell _).trans q1
      have q2' := (hdr.cell _).trans q2
      have hbl := bst_le t.xs k
      by_cases hlt : k < t.xs.length
      · have hj : bst t.xs k < t.xs.length := by omega
        obtain ⟨x, hx⟩ := get_of_lt hlt
        obtain ⟨y, hy⟩ := get_of_lt hj
        obtain ⟨bx1, bx2⟩ := okX_get GX.out hx
        obtain ⟨by1, by2⟩ := okX_get GX.out hy
        obtain ⟨b, off, rfl, hb, hcx⟩ := hc k x hx
        obtain ⟨b', off', hbb, _, hcy⟩ := hc _ y hy
        cases hbb
        have hcx' := (hdr.cell _).trans hcx
        have hcy' := (hdr.cell _).trans hcy
        have hs : bst t.xs (k + 1) = if ab y < ab x then k else bst t.xs k := by simp only [bst, List.getD, hx, hy, Option.getD_some]
        have HS := Lib.hid hs
        have hi0 : (0 : Int) ≤ (k : Int) := by omega
        have hi1 : (k : Int) < (t.xs.length : Int) := by omega
        have hj0 : (0 : Int) ≤ ((bst t.xs k : Nat) : Int) := by omega
        have hj1 : ((bst t.xs k : Nat) : Int) < (t.xs.length : Int) := by omega
        have hk9 : k ≤ 24 := by omega
        clear hs hx hy hc hcx hcy
        generalize bst t.xs k = j at *
        generalize hmx : ab x = mx at *
        generalize hmy : ab y = my at *
        have HX := Lib.hid hmx
        have HY := Lib.hid hmy
        clear hmx hmy
        go_wp2
        go_quiet ((go_at_call 78; first | exact Calls.quiet_of_same (sizeAny x mx _ (by omega) (by omega) HX.out) | exact Calls.quiet_of_same (sizeAny y my _ (by omega) (by omega) HY.out)))
        by_cases hmm : my < mx
        · go_wp2
          go_roundw
          case rel => exact ⟨k + 1, by omega, by omega, by go_num, by rw [HS.out, if_pos hmm], hdr.drewN _⟩
          case measure => simp [intOf]; omega
        · go_wp2
          go_roundw
          case rel => exact ⟨k + 1, by omega, by omega, by go_num, by rw [HS.out, if_neg hmm], hdr.drewN _⟩
          case measure => simp [intOf]; omega
      · obtain rfl : k = t.xs.length := by omega
        have hj : bst t.xs t.xs.length < t.xs.length := by omega
        obtain ⟨y, hy⟩ := get_of_lt hj
        obtain ⟨b, off, rfl, hb, hcy⟩ := hc _ y hy
        have hcy' := (hdr.cell _).trans hcy
        have hr : t.xs.getD (bst t.xs t.xs.length) 0 = y := by simp [List.getD, hy]
        have HR := Lib.hid hr
        have hj0 : (0 : Int) ≤ ((bst t.xs t.xs.length : Nat) : Int) := by omega
        have hj1 : ((bst t.xs t.xs.length : Nat) : Int) < (t.xs.length : Int) := by omega
        have s1 : IntKind.i64.wrap (t.start + ((bst t.xs t.xs.length : Nat) : Int)) = t.start + ((bst t.xs t.xs.length : Nat) : Int) := IntWalk.i64_in _ (by omega)
        clear hc hy hr hcy
        go_wp2
        go_quiet (fail)
        go_wp2
        go_ret3
        exact ⟨ret3i rfl HR.out.symm, drewN_b (B1.trans (hdr.below _)) _⟩

end Go.Proofs.Ytklilfbokpljkac
