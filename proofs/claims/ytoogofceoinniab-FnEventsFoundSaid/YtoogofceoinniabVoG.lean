/- Votes: the specification's VotersFor, VotesFor, WithoutVoters. -/
import Derived.Test.YtoogofceoinniabVoE
namespace Go.Proofs.Ytoogofceoinniab
open Go.ChangeShapes Go.WideShapes Go.ChangeAt Go.RowKit Go.ChangeMaps Go.Sort
set_option linter.unusedSimpArgs false
set_option linter.unusedVariables false
set_option linter.unusedSimpArgs false
set_option linter.unusedVariables false

set_option maxRecDepth 100000 in
set_option maxHeartbeats 2000000 in
theorem specVo (xs : List GArrival) (v : Value) (o : GOrigin) (v2 : Value) (w : World) (B : Nat) (h : ArrivalL w B v xs) (h2 : OriginVL w B v2 o) (hB : B ≤ w.heap.size) (hn : szsArrival xs ≤ 1048576) (_ : sz1Origin o ≤ 1048576) (hw : ∀ s ∈ xs, wfArrival s) (hw2 : wfOrigin o) :
    Calls Try.prog 22 #[v, v2] w fun e w' => ∃ v', e = .returned (.tuple #[v', .bool (okVo xs o)]) ∧ Own (Value.int .i64) w' w.heap.size w'.heap.size v' (resVo xs o) ∧ Below w.heap.size w w' := by
  obtain rfl := h2.form
  clear h2
  have hl := Nat.le_trans (szsArrival_len xs) hn
  obtain ⟨W0, hW0⟩ : ∃ W0, w.alloc (.cells #[.int .i64 o.pX, .int .i64 o.pY, .int .i64 o.pTick] 30) = W0 := ⟨_, rfl⟩
  have N0 : Below w.heap.size w W0 := hW0 ▸ (Below.refl w.heap.size w).alloc (Nat.le_refl _) _
  have bO : Bx W0 w.heap.size [.int .i64 o.pX, .int .i64 o.pY, .int .i64 o.pTick] := hW0 ▸ Bx.new w [.int .i64 o.pX, .int .i64 o.pY, .int .i64 o.pTick] 30
  have z0 := N0.size
  have h0 := h.below (N0.mono hB)
  cases hk : okVo xs o with
  | false =>
    have CA := Lib.hid (specAskA xs v o false W0 B h0 (Nat.le_trans hB z0) hl hk)
    have HF := Lib.hid (resVo_no hk)
    clear hk
    obtain ⟨ao, cap, rfl⟩ := h.form
    have o0 := bO.2 0 _ rfl
    have o1 := bO.2 1 _ rfl
    have o2 := bO.2 2 _ rfl
    go_enter Try.func22, Try.ntmps22
    go_wp2_with fail
    refine CA.out.mono ?_
    rintro e w1 ⟨rfl, hb⟩
    have N1 := N0.trans (hb.mono z0)
    clear o0 o1 o2
    go_wp2
    go_ret2
    exact ⟨_, rfl, by rw [HF.out]; exact own_empty _ 3 N1.size, N1.alloc N1.size _⟩
  | true =>
    obtain ⟨g1, g2⟩ := okVo_yes hk
    have CA := Lib.hid (specAskA xs v o true W0 B h0 (Nat.le_trans hB z0) hl hk)
    have CV := Lib.hid (fun W (q : Below W0.heap.size W0 W) => specVoters xs v o W B (h0.below (q.mono (by omega))) (Nat.le_trans hB (Nat.le_trans z0 q.size)) (goodAr_yes g1) (goodOr_yes g2))
    have HF := Lib.hid (resVo_yes hk)
    clear hk g1 g2 h0
    obtain ⟨ao, cap, rfl⟩ := h.form
    clear h
    have o0 := bO.2 0 _ rfl
    have o1 := bO.2 1 _ rfl
    have o2 := bO.2 2 _ rfl
    go_enter Try.func22, Try.ntmps22
    go_wp2_with fail
    refine CA.out.mono ?_
    rintro e w1 ⟨rfl, hb⟩
    have N1 := N0.trans (hb.mono z0)
    have bO1 := bO.below hb
    clear o0 o1 o2
    have o0 := bO1.2 0 _ rfl
    have o1 := bO1.2 1 _ rfl
    have o2 := bO1.2 2 _ rfl
    go_wp2_with fail
    refine (CV.out _ hb).mono ?_
    rintro e w2 ⟨v2, rfl, hown, hb2⟩
    have N2 := N1.trans (hb2.mono N1.size)
    obtain ⟨ao2, cap2, rfl⟩ := hown.form
    clear o0 o1 o2
    go_wp2
    go_ret2
    exact ⟨_, rfl, by rw [HF.out]; exact hown.mono N1.size (Nat.le_refl _), N2⟩
set_option maxRecDepth 100000 in
set_option maxHeartbeats 2000000 in
theorem specNv (xs : List GArrival) (v : Value) (o : GOrigin) (v2 : Value) (w : World) (B : Nat) (h : ArrivalL w B v xs) (h2 : OriginVL w B v2 o) (hB : B ≤ w.heap.size) (hn : szsArrival xs ≤ 1048576) (_ : sz1Origin o ≤ 1048576) (hw : ∀ s ∈ xs, wfArrival s) (hw2 : wfOrigin o) :
    Calls Try.prog 18 #[v, v2] w fun e w' => e = .returned (.tuple #[.int .i64 (numVo xs o), .bool (okVo xs o)]) ∧ Below w.heap.size w w' := by
  obtain rfl := h2.form
  clear h2
  have hl := Nat.le_trans (szsArrival_len xs) hn
  obtain ⟨W0, hW0⟩ : ∃ W0, w.alloc (.cells #[.int .i64 o.pX, .int .i64 o.pY, .int .i64 o.pTick] 30) = W0 := ⟨_, rfl⟩
  have N0 : Below w.heap.size w W0 := hW0 ▸ (Below.refl w.heap.size w).alloc (Nat.le_refl _) _
  have bO : Bx W0 w.heap.size [.int .i64 o.pX, .int .i64 o.pY, .int .i64 o.pTick] := hW0 ▸ Bx.new w [.int .i64 o.pX, .int .i64 o.pY, .int .i64 o.pTick] 30
  have z0 := N0.size
  have h0 := h.below (N0.mono hB)
  cases hk : okVo xs o with
  | false =>
    have CA := Lib.hid (specAskA xs v o false W0 B h0 (Nat.le_trans hB z0) hl hk)
    have HF := Lib.hid (numVo_no hk)
    clear hk
    obtain ⟨ao, cap, rfl⟩ := h.form
    have o0 := bO.2 0 _ rfl
    have o1 := bO.2 1 _ rfl
    have o2 := bO.2 2 _ rfl
    go_enter Try.func18, Try.ntmps18
    go_wp2_with fail
    refine CA.out.mono ?_
    rintro e w1 ⟨rfl, hb⟩
    have N1 := N0.trans (hb.mono z0)
    clear o0 o1 o2
    go_wp2
    go_ret2
    exact ⟨retI HF.out.symm rfl, N1⟩
  | true =>
    obtain ⟨g1, g2⟩ := okVo_yes hk
    have CA := Lib.hid (specAskA xs v o true W0 B h0 (Nat.le_trans hB z0) hl hk)
    have CV := Lib.hid (fun W (q : Below W0.heap.size W0 W) => specVoters xs v o W B (h0.below (q.mono (by omega))) (Nat.le_trans hB (Nat.le_trans z0 q.size)) (goodAr_yes g1) (goodOr_yes g2))
    have HF := Lib.hid (numVo_yes hk)
    clear hk g1 g2 h0
    obtain ⟨ao, cap, rfl⟩ := h.form
    clear h
    have o0 := bO.2 0 _ rfl
    have o1 := bO.2 1 _ rfl
    have o2 := bO.2 2 _ rfl
    go_enter Try.func18, Try.ntmps18
    go_wp2_with fail
    refine CA.out.mono ?_
    rintro e w1 ⟨rfl, hb⟩
    have N1 := N0.trans (hb.mono z0)
    have bO1 := bO.below hb
    clear o0 o1 o2
    have o0 := bO1.2 0 _ rfl
    have o1 := bO1.2 1 _ rfl
    have o2 := bO1.2 2 _ rfl
    go_wp2_with fail
    refine (CV.out _ hb).mono ?_
    rintro e w2 ⟨v2, rfl, hown, hb2⟩
    have N2 := N1.trans (hb2.mono N1.size)
    obtain ⟨ao2, cap2, rfl⟩ := hown.form
    clear o0 o1 o2
    go_wp2
    go_ret2
    exact ⟨retI HF.out.symm rfl, N2⟩
set_option maxRecDepth 100000 in
set_option maxHeartbeats 2000000 in
theorem specWo (xs : List GArrival) (v : Value) (o : GOrigin) (v2 : Value) (w : World) (B : Nat) (h : ArrivalL w B v xs) (h2 : OriginVL w B v2 o) (hB : B ≤ w.heap.size) (hn : szsArrival xs ≤ 1048576) (_ : sz1Origin o ≤ 1048576) (hw : ∀ s ∈ xs, wfArrival s) (hw2 : wfOrigin o) :
    Calls Try.prog 35 #[v, v2] w fun e w' => ∃ v', e = .returned (.tuple #[v', .bool (okVo xs o)]) ∧ ArrivalO w' w.heap.size w'.heap.size v' (resWo xs o) ∧ Below w.heap.size w w' := by
  obtain rfl := h2.form
  clear h2
  have hl := Nat.le_trans (szsArrival_len xs) hn
  obtain ⟨W0, hW0⟩ : ∃ W0, w.alloc (.cells #[.int .i64 o.pX, .int .i64 o.pY, .int .i64 o.pTick] 30) = W0 := ⟨_, rfl⟩
  have N0 : Below w.heap.size w W0 := hW0 ▸ (Below.refl w.heap.size w).alloc (Nat.le_refl _) _
  have bO : Bx W0 w.heap.size [.int .i64 o.pX, .int .i64 o.pY, .int .i64 o.pTick] := hW0 ▸ Bx.new w [.int .i64 o.pX, .int .i64 o.pY, .int .i64 o.pTick] 30
  have z0 := N0.size
  have h0 := h.below (N0.mono hB)
  cases hk : okVo xs o with
  | false =>
    have CA := Lib.hid (specAskA xs v o false W0 B h0 (Nat.le_trans hB z0) hl hk)
    have HF := Lib.hid (resWo_no hk)
    clear hk
    obtain ⟨ao, cap, rfl⟩ := h.form
    have o0 := bO.2 0 _ rfl
    have o1 := bO.2 1 _ rfl
    have o2 := bO.2 2 _ rfl
    go_enter Try.func35, Try.ntmps35
    go_wp2_with fail
    refine CA.out.mono ?_
    rintro e w1 ⟨rfl, hb⟩
    have N1 := N0.trans (hb.mono z0)
    clear o0 o1 o2
    go_wp2
    go_ret2
    exact ⟨_, rfl, by rw [HF.out]; exact ownK_empty encArrival_len (by omega) _ 28 N1.size, N1.alloc N1.size _⟩
  | true =>
    obtain ⟨g1, g2⟩ := okVo_yes hk
    have CA := Lib.hid (specAskA xs v o true W0 B h0 (Nat.le_trans hB z0) hl hk)
    have CV := Lib.hid (fun W (q : Below W0.heap.size W0 W) => specRest xs v o W B (h0.below (q.mono (by omega))) (Nat.le_trans hB (Nat.le_trans z0 q.size)) (goodAr_yes g1) (goodOr_yes g2))
    have HF := Lib.hid (resWo_yes hk)
    clear hk g1 g2 h0
    obtain ⟨ao, cap, rfl⟩ := h.form
    clear h
    have o0 := bO.2 0 _ rfl
    have o1 := bO.2 1 _ rfl
    have o2 := bO.2 2 _ rfl
    go_enter Try.func35, Try.ntmps35
    go_wp2_with fail
    refine CA.out.mono ?_
    rintro e w1 ⟨rfl, hb⟩
    have N1 := N0.trans (hb.mono z0)
    have bO1 := bO.below hb
    clear o0 o1 o2
    have o0 := bO1.2 0 _ rfl
    have o1 := bO1.2 1 _ rfl
    have o2 := bO1.2 2 _ rfl
    go_wp2_with fail
    refine (CV.out _ hb).mono ?_
    rintro e w2 ⟨v2, rfl, hown, hb2⟩
    have N2 := N1.trans (hb2.mono N1.size)
    obtain ⟨ao2, cap2, rfl⟩ := hown.form
    clear o0 o1 o2
    go_wp2
    go_ret2
    exact ⟨_, rfl, by rw [HF.out]; exact hown.mono N1.size (Nat.le_refl _), N2⟩
end Go.Proofs.Ytoogofceoinniab
