/- Votes: the program's tests. -/
import Derived.Test.YtoogofceoinniabVoD
import Derived.Test.YtoogofceoinniabVoA
import Derived.Test.YtoogofceoinniabSqO
import Derived.Lib.QuietBelow
namespace Go.Proofs.Ytoogofceoinniab
open Go.ChangeShapes Go.WideShapes Go.ChangeAt Go.RowKit Go.ChangeMaps Go.Sort
set_option linter.unusedSimpArgs false
set_option linter.unusedVariables false
set_option linter.unusedSimpArgs false
set_option linter.unusedVariables false

/-- areWithin at one number, which lies in a block of its own. -/
theorem withinOneV (lo hi n : Int) (b : Nat) (u : Bool) (w : World) (hb : Bx w b [.int .i64 n]) (hu : decide (lo ≤ n ∧ n ≤ hi) = u) :
    Calls Try.prog 81 #[.int .i64 lo, .int .i64 hi, .slice (some ⟨b, 0, none⟩) 1 1] w fun e w' => e = .returned (.bool u) ∧ w' = w := by
  have c0 : w.cell? ⟨b, 0, none⟩ = some (.int .i64 n) := hb.2 0 _ rfl
  have HU := Lib.hid hu
  clear hu hb
  go_enter Try.func81, Try.ntmps81
  go_wp2
  go_loop [11] (fun i => i = .int .i64 0 ∨ (i = .int .i64 1 ∧ Hid (lo ≤ n ∧ n ≤ hi))) (fun i => 1 - (intOf i).toNat)
  case atStart => exact Or.inl rfl
  case round =>
    rcases hrel with rfl | ⟨rfl, HO⟩
    · by_cases h1 : lo ≤ n
      · by_cases h2 : n ≤ hi
        · have HX := Lib.hid (show lo ≤ n ∧ n ≤ hi from ⟨h1, h2⟩)
          go_wp2
          go_round
          case rel => exact Or.inr ⟨by go_num, HX⟩
          case measure => simp [intOf]
        · have HF : Hid (false = u) := Lib.hid (by rw [← HU.out]; exact (decide_eq_false fun g => h2 g.2).symm)
          go_wp2
          go_ret
          exact ⟨ret_bool HF.out, rfl⟩
      · have HF : Hid (false = u) := Lib.hid (by rw [← HU.out]; exact (decide_eq_false fun g => h1 g.1).symm)
        go_wp2
        go_ret
        exact ⟨ret_bool HF.out, rfl⟩
    · have HF : Hid (true = u) := Lib.hid (by rw [← HU.out]; exact (decide_eq_true HO.out).symm)
      go_wp2
      go_ret
      exact ⟨ret_bool HF.out, rfl⟩
theorem inB_dec (x a b : Int) : inB x a b = decide (a ≤ x ∧ x ≤ b) := rfl
set_option maxRecDepth 100000 in
set_option maxHeartbeats 1000000 in
theorem implOneA (a : GArrival) (u : Bool) (w : World) (hu : oneAr a = u) :
    Calls Try.prog 60 #[aggA a] w fun e w' => e = .returned (.bool u) ∧ Below w.heap.size w w' := by
  rw [oneAr_eq] at hu
  generalize h0 : inB a.pId 1 99 = b0 at hu
  generalize h1 : plcB a.pX a.pY = b1 at hu
  generalize h2 : inB a.pTick 0 1000000 = b2 at hu
  generalize h3 : inB a.pError 0 1000 = b3 at hu
  have H0 := Lib.hid h0
  have H1 := Lib.hid h1
  have H2 := Lib.hid h2
  have H3 := Lib.hid h3
  have HU := Lib.hid hu
  clear hu h0 h1 h2 h3
  obtain ⟨W0, hW0⟩ : ∃ W0, w.alloc (.cells #[.int .i64 a.pId, .int .i64 a.pX, .int .i64 a.pY, .int .i64 a.pTick, .int .i64 a.pError] 28) = W0 := ⟨_, rfl⟩
  have N0 : Below w.heap.size w W0 := hW0 ▸ (Below.refl w.heap.size w).alloc (Nat.le_refl _) _
  have bx0 : Bx W0 w.heap.size [.int .i64 a.pId, .int .i64 a.pX, .int .i64 a.pY, .int .i64 a.pTick, .int .i64 a.pError] := hW0 ▸ Bx.new w [.int .i64 a.pId, .int .i64 a.pX, .int .i64 a.pY, .int .i64 a.pTick, .int .i64 a.pError] 28
  go_enter Try.func60, Try.ntmps60
  have d0 := bx0.2 0 _ rfl
  have d1 := bx0.2 1 _ rfl
  have d2 := bx0.2 2 _ rfl
  have d3 := bx0.2 3 _ rfl
  have d4 := bx0.2 4 _ rfl
  obtain ⟨W1, hW1⟩ : ∃ W1, W0.alloc (.cells #[.int .i64 a.pId] 3) = W1 := ⟨_, rfl⟩
  have N1 : Below w.heap.size w W1 := hW1 ▸ N0.alloc N0.size _
  have bx1 : Bx W1 w.heap.size [.int .i64 a.pId, .int .i64 a.pX, .int .i64 a.pY, .int .i64 a.pTick, .int .i64 a.pError] := hW1 ▸ bx0.alloc _
  have b1x : Bx W1 W0.heap.size [.int .i64 a.pId] := hW1 ▸ Bx.new W0 [.int .i64 a.pId] 3
  go_wp2_with fail
  clear hW0 hW1 d0 d1 d2 d3 d4
  refine (withinOneV 1 99 a.pId _ b0 _ b1x H0.out).mono ?_
  rintro e w9 ⟨rfl, q9⟩
  obtain rfl : W1 = w9 := q9.symm
  clear b1x bx0
  cases b0
  case false =>
    have HF : Hid (false = u) := Lib.hid (by rw [← HU.out]; simp)
    go_wp2
    go_ret
    exact ⟨ret_bool HF.out, N1⟩
  have d0 := bx1.2 0 _ rfl
  have d1 := bx1.2 1 _ rfl
  have d2 := bx1.2 2 _ rfl
  have d3 := bx1.2 3 _ rfl
  have d4 := bx1.2 4 _ rfl
  go_wp2_with fail
  refine (implPlace _ _ b1 _ H1.out).mono ?_
  rintro e w9 ⟨rfl, q9⟩
  subst q9
  cases b1
  case false =>
    have HF : Hid (false = u) := Lib.hid (by rw [← HU.out]; simp)
    go_wp2
    go_ret
    exact ⟨ret_bool HF.out, N1⟩
  go_wp2_with fail
  refine (implTick _ b2 _ H2.out).mono ?_
  rintro e w9 ⟨rfl, q9⟩
  subst q9
  cases b2
  case false =>
    have HF : Hid (false = u) := Lib.hid (by rw [← HU.out]; simp)
    go_wp2
    go_ret
    exact ⟨ret_bool HF.out, N1⟩
  obtain ⟨W2, hW2⟩ : ∃ W2, W1.alloc (.cells #[.int .i64 a.pError] 3) = W2 := ⟨_, rfl⟩
  have N2 : Below w.heap.size w W2 := hW2 ▸ N1.alloc N1.size _
  have b2x : Bx W2 W1.heap.size [.int .i64 a.pError] := hW2 ▸ Bx.new W1 [.int .i64 a.pError] 3
  go_wp2_with fail
  clear hW2 d0 d1 d2 d3 d4
  refine (withinOneV 0 1000 a.pError _ b3 _ b2x H3.out).mono ?_
  rintro e w9 ⟨rfl, q9⟩
  obtain rfl : W2 = w9 := q9.symm
  have HF : Hid (b3 = u) := Lib.hid (by rw [← HU.out]; simp)
  go_wp2
  go_ret
  exact ⟨ret_bool HF.out, N2⟩
set_option maxHeartbeats 1000000 in
theorem implOrG (o : GOrigin) (u : Bool) (w : World) (hu : goodOr o = u) :
    Calls Try.prog 61 #[aggO o] w fun e w' => e = .returned (.bool u) ∧ Below w.heap.size w w' := by
  rw [goodOr_eq] at hu
  generalize h0 : plcB o.pX o.pY = b0 at hu
  generalize h1 : inB o.pTick 0 1000000 = b1 at hu
  have H0 := Lib.hid h0
  have H1 := Lib.hid h1
  have HU := Lib.hid hu
  clear hu h0 h1
  have N := Lib.hid (below_cell (w := w) (Nat.le_refl _) (objO o))
  go_enter Try.func61, Try.ntmps61
  go_wp2_with fail
  refine (implPlace _ _ b0 _ H0.out).mono ?_
  rintro e w9 ⟨rfl, q9⟩
  subst q9
  cases b0
  case false =>
    have HF : Hid (false = u) := Lib.hid (by rw [← HU.out]; simp)
    go_wp2
    go_ret
    exact ⟨ret_bool HF.out, N.out⟩
  go_wp2_with fail
  refine (implTick _ b1 _ H1.out).mono ?_
  rintro e w9 ⟨rfl, q9⟩
  subst q9
  have HF : Hid (b1 = u) := Lib.hid (by rw [← HU.out]; simp)
  go_wp2
  go_ret
  exact ⟨ret_bool HF.out, N.out⟩
theorem implStepB (step : Int) (u : Bool) (w : World) (hu : inB step 50 500 = u) :
    Calls Try.prog 76 #[.int .i64 step] w fun e w' => e = .returned (.bool u) ∧ Below w.heap.size w w' := by
  have N := Lib.hid (below_cell (w := w) (Nat.le_refl _) (.cells #[.int .i64 step] 3))
  have CI := Lib.hid (withinOneV 50 500 step _ u _ (Bx.new w [.int .i64 step] 3) hu)
  clear hu
  go_enter Try.func76, Try.ntmps76
  go_wp2_with fail
  refine CI.out.mono ?_
  rintro e w9 ⟨rfl, q9⟩
  subst q9
  go_wp2
  go_ret
  exact ⟨rfl, N.out⟩
end Go.Proofs.Ytoogofceoinniab
