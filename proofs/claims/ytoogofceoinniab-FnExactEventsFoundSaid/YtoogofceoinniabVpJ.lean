/- Votes: the program's MostVotesAt. -/
import Derived.Test.YtoogofceoinniabVpI
namespace Go.Proofs.Ytoogofceoinniab
open Go.ChangeShapes Go.WideShapes Go.ChangeAt Go.RowKit Go.ChangeMaps Go.Sort Go.Shelf
set_option linter.unusedSimpArgs false
set_option linter.unusedVariables false
set_option linter.unusedSimpArgs false
set_option linter.unusedVariables false

set_option maxRecDepth 100000 in
set_option maxHeartbeats 2000000 in
theorem implMv (xs : List GArrival) (v : Value) (x y : Int) (w : World) (B : Nat) (h : ArrivalL w B v xs) (hB : B ≤ w.heap.size) (hn : szsArrival xs ≤ 1048576) (hw : ∀ s ∈ xs, wfArrival s) (_ : I64 x) (_ : I64 y) :
    Calls Try.prog 31 #[v, .int .i64 x, .int .i64 y] w fun e w' => e = .returned (.tuple #[.int .i64 (numMv xs x y), .int .i64 (atMv xs x y), .bool (okMv xs x y)]) ∧ Below w.heap.size w w' := by
  have hl := Nat.le_trans (szsArrival_len xs) hn
  have CP := Lib.hid (fun u W hu => implPlace x y u W hu)
  cases h1 : goodAr xs with
  | false =>
    have C1 := Lib.hid (implGoodA xs v false w B h hB hl h1)
    have HF := Lib.hid (noMv (xs := xs) (x := x) (y := y) (by unfold askMv; rw [h1]; rfl))
    obtain ⟨ao, cap, rfl⟩ := h.form
    clear h h1
    go_enter Try.func31, Try.ntmps31
    go_wp2_with fail
    refine C1.out.mono ?_
    rintro e w1 ⟨rfl, hb⟩
    go_wp2
    go_ret3
    exact ⟨HF.out, hb⟩
  | true =>
  have C1 := Lib.hid (implGoodA xs v true w B h hB hl h1)
  cases h2 : plcB x y with
  | false =>
    have C2 := Lib.hid (fun W => CP.out false W h2)
    have HF := Lib.hid (noMv (xs := xs) (x := x) (y := y) (by unfold askMv; rw [h2, Bool.and_false]))
    obtain ⟨ao, cap, rfl⟩ := h.form
    clear h h1 h2
    go_enter Try.func31, Try.ntmps31
    go_wp2_with fail
    refine C1.out.mono ?_
    rintro e w1 ⟨rfl, hb⟩
    go_wp2_with fail
    refine (C2.out _).mono ?_
    rintro e w2 ⟨rfl, q2⟩
    subst q2
    go_wp2
    go_ret3
    exact ⟨HF.out, hb⟩
  | true =>
  have C2 := Lib.hid (fun W => CP.out true W h2)
  have hask : askMv xs x y = true := by unfold askMv; rw [h1, h2]; rfl
  obtain ⟨hok, hx, hy⟩ := askMv_yes hask
  obtain ⟨⟨m0, m1⟩, -⟩ := mostV_bd hok hx hy xs.length (Nat.le_refl _)
  obtain ⟨m, hm⟩ : ∃ m, (mostV xs x y xs.length).1 = m := ⟨_, rfl⟩
  obtain ⟨t, ht⟩ : ∃ t, (mostV xs x y xs.length).2 = t := ⟨_, rfl⟩
  rw [hm] at m0 m1
  by_cases hz : m = 0
  case pos =>
    have CM := Lib.hid (fun W (q : Below w.heap.size w W) => implMost xs v x y (⟨0, 0, 0⟩, 0) W B (h.below (q.mono hB)) (Nat.le_trans hB q.size) hok hx hy (by rw [topB_eq]; unfold balB; rw [hm, if_pos hz]))
    have HF := Lib.hid (zeroMv hask (hm.trans hz))
    obtain ⟨ao, cap, rfl⟩ := h.form
    clear h h1 h2 hask hok hx hy hm ht hz
    go_enter Try.func31, Try.ntmps31
    go_wp2_with fail
    refine C1.out.mono ?_
    rintro e w1 ⟨rfl, hb⟩
    go_wp2_with fail
    refine (C2.out _).mono ?_
    rintro e w2 ⟨rfl, q2⟩
    subst q2
    go_wp2_with fail
    refine (CM.out _ hb).mono ?_
    rintro e w3 ⟨rfl, hb3⟩
    have N3 := hb.trans (hb3.mono hb.size)
    have N4 := N3.alloc N3.size (.cells #[.int .i64 0, .int .i64 0, .int .i64 0, .int .i64 0] 93)
    go_wp2
    go_ret3
    exact ⟨HF.out, N4⟩
  case neg =>
    have CM := Lib.hid (fun W (q : Below w.heap.size w W) => implMost xs v x y (⟨x, y, t⟩, m) W B (h.below (q.mono hB)) (Nat.le_trans hB q.size) hok hx hy (by rw [topB_eq]; unfold balB; rw [hm, ht, if_neg hz]))
    have HF := Lib.hid (yesMv (u := true) hask hm ht (decide_eq_true (by omega)))
    have hz2 : (m == 0) = false := by simpa using hz
    obtain ⟨ao, cap, rfl⟩ := h.form
    clear h h1 h2 hask hok hx hy hm ht
    go_enter Try.func31, Try.ntmps31
    go_wp2_with fail
    refine C1.out.mono ?_
    rintro e w1 ⟨rfl, hb⟩
    go_wp2_with fail
    refine (C2.out _).mono ?_
    rintro e w2 ⟨rfl, q2⟩
    subst q2
    go_wp2_with fail
    refine (CM.out _ hb).mono ?_
    rintro e w3 ⟨rfl, hb3⟩
    have N3 := hb.trans (hb3.mono hb.size)
    have N4 := N3.alloc N3.size (.cells #[.int .i64 x, .int .i64 y, .int .i64 t, .int .i64 m] 93)
    have bB := Bx.new w3 [.int .i64 x, .int .i64 y, .int .i64 t, .int .i64 m] 93
    have b0 := bB.2 0 _ rfl
    have b1 := bB.2 1 _ rfl
    have b2 := bB.2 2 _ rfl
    have b3 := bB.2 3 _ rfl
    go_wp2
    generalize w3.alloc (.cells #[.int .i64 x, .int .i64 y, .int .i64 t, .int .i64 m] 93) = W4 at *
    go_quiet (fail)
    go_wp2
    go_ret3
    exact ⟨HF.out, drewN_b N4 _⟩
end Go.Proofs.Ytoogofceoinniab
