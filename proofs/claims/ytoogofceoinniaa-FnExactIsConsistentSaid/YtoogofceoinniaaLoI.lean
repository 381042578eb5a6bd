/- Location by boxes: whether a location proves that there is none, by the specification. -/
import Derived.Test.YtoogofceoinniaaLoH
namespace Go.Proofs.Ytoogofceoinniaa
open Go.ChangeShapes Go.WideShapes Go.ChangeAt Go.RowKit Go.ChangeMaps Go.Sort
set_option linter.unusedSimpArgs false
set_option linter.unusedVariables false
set_option linter.unusedSimpArgs false
set_option linter.unusedVariables false

theorem pn_eq (xs : List GArrival) (b : GCube) (s : Int) {ok : Bool} (h : okLo xs b s = ok) {n : Nat} (hn : (resLo xs b s).length = n) : resPn xs b s = (ok && decide (n = 0)) := by unfold resPn; rw [h, hn]
set_option maxRecDepth 100000 in
set_option maxHeartbeats 2000000 in
theorem specPn (xs : List GArrival) (v : Value) (b : GCube) (v2 : Value) (s : Int) (w : World) (B : Nat) (h : ArrivalL w B v xs) (h2 : CubeVL w B v2 b) (hB : B ≤ w.heap.size) (hn : szsArrival xs ≤ 1048576) (h3 : sz1Cube b ≤ 1048576) (hw : ∀ s ∈ xs, wfArrival s) (hw2 : wfCube b) (h4 : I64 s) :
    Calls Try.prog 36 #[v, v2, .int .i64 s] w fun e w' => e = .returned (.tuple #[.bool (resPn xs b s), .bool (okLo xs b s)]) ∧ Below w.heap.size w w' := by
  obtain rfl := h2.form
  clear h2
  obtain ⟨W0, hW0⟩ : ∃ W0, w.alloc (objCb b) = W0 := ⟨_, rfl⟩
  have N0 : Below w.heap.size w W0 := hW0 ▸ (Below.refl w.heap.size w).alloc (Nat.le_refl _) _
  have bB : Bx W0 w.heap.size [.int .i64 b.pWest, .int .i64 b.pSouth, .int .i64 b.pSide, .int .i64 b.pFrom, .int .i64 b.pTo] := hW0 ▸ Bx.new w [.int .i64 b.pWest, .int .i64 b.pSouth, .int .i64 b.pSide, .int .i64 b.pFrom, .int .i64 b.pTo] 25
  have z0 := N0.size
  have b0 := bB.2 0 _ rfl
  have b1 := bB.2 1 _ rfl
  have b2 := bB.2 2 _ rfl
  have b3 := bB.2 3 _ rfl
  have b4 := bB.2 4 _ rfl
  have CL := Lib.hid (specLo xs v b _ s W0 B (h.below (N0.mono hB)) rfl (Nat.le_trans hB z0) hn h3 hw hw2 h4)
  obtain ⟨ok, hok⟩ : ∃ ok, okLo xs b s = ok := ⟨_, rfl⟩
  obtain ⟨n, hln⟩ : ∃ n, (resLo xs b s).length = n := ⟨_, rfl⟩
  have hn64 : n ≤ 64 := by rw [← hln]; exact resLo_most _ _ _
  have HP := Lib.hid (pn_eq xs b s hok hln)
  have HLN := Lib.hid hln
  rw [hok] at CL
  rw [hok]
  generalize resPn xs b s = pn at *
  obtain ⟨ao, cap, rfl⟩ := h.form
  clear h hok hln hw hw2
  cases ok with
  | false =>
    obtain rfl : pn = false := HP.out
    go_enter Try.func36, Try.ntmps36
    go_wp2_with fail
    refine CL.out.mono ?_
    rintro e w1 ⟨v1, rfl, hown, hb⟩
    obtain ⟨a1, c1, rfl⟩ := hown.form
    clear b0 b1 b2 b3 b4
    go_wp2
    go_ret2
    exact ⟨rfl, N0.trans (hb.mono z0)⟩
  | true =>
    by_cases k : n = 0
    case pos =>
      obtain rfl : pn = true := by rw [HP.out, decide_eq_true k]; rfl
      have k1 : ((n : Int) == 0) = true := by simpa using k
      have k2 : (n : Int) = 0 := by omega
      have HK := Lib.hid k
      subst k
      go_enter Try.func36, Try.ntmps36
      go_wp2_with fail
      refine CL.out.mono ?_
      rintro e w1 ⟨v1, rfl, hown, hb⟩
      obtain ⟨a1, c1, rfl⟩ := hown.form
      rw [HLN.out]
      clear b0 b1 b2 b3 b4
      go_wp2
      go_ret2
      exact ⟨rfl, N0.trans (hb.mono z0)⟩
    case neg =>
      obtain rfl : pn = false := by rw [HP.out, decide_eq_false k]; rfl
      have k1 : ((n : Int) == 0) = false := by simp; omega
      have k2 : ¬ (n : Int) = 0 := by omega
      go_enter Try.func36, Try.ntmps36
      go_wp2_with fail
      refine CL.out.mono ?_
      rintro e w1 ⟨v1, rfl, hown, hb⟩
      obtain ⟨a1, c1, rfl⟩ := hown.form
      rw [HLN.out]
      clear b0 b1 b2 b3 b4
      go_wp2
      go_ret2
      exact ⟨rfl, N0.trans (hb.mono z0)⟩
end Go.Proofs.Ytoogofceoinniaa
