/- Packing: numbers and bytes of one difference, both programs. -/
import Derived.Test.YtkgohnlljbamlaaGood
import Derived.Test.YtkgohnlljbamlaaAcc
import Derived.Test.YtkgohnlljbamlaaPkP
namespace Go.Proofs.Ytkgohnlljbamlaa
open Go.ChangeShapes Go.WideShapes Go.ChangeAt Go.RowKit Go.ChangeMaps
set_option linter.unusedSimpArgs false
set_option linter.unusedVariables false

theorem implIsD (d : Int) (w : World) : Calls Try.prog 59 #[.int .i64 d] w fun e w' => e = .returned (.bool (okD d)) ∧ w' = w := by
  by_cases h1 : -200000 ≤ d
  · by_cases h2 : d ≤ 200000
    · have HG := Lib.hid (show okD d = true from decide_eq_true ⟨h1, h2⟩)
      go_enter Try.func59, Try.ntmps59
      go_wp2
      go_ret
      exact ⟨ret_bool HG.out.symm, rfl⟩
    · have HG := Lib.hid (show okD d = false from decide_eq_false (fun h => h2 h.2))
      go_enter Try.func59, Try.ntmps59
      go_wp2
      go_ret
      exact ⟨ret_bool HG.out.symm, rfl⟩
  · have HG := Lib.hid (show okD d = false from decide_eq_false (fun h => h1 h.1))
    go_enter Try.func59, Try.ntmps59
    go_wp2
    go_ret
    exact ⟨ret_bool HG.out.symm, rfl⟩
theorem implIsDB (d : Int) (w : World) (r : Bool) (h : okD d = r) : Calls Try.prog 59 #[.int .i64 d] w fun e w' => e = .returned (.bool r) ∧ w' = w := h ▸ implIsD d w
theorem specIsD (d : Int) (w : World) : Calls Try.prog 57 #[.int .i64 d] w fun e w' => e = .returned (.bool (okD d)) ∧ w' = w := by
  by_cases h : -200000 ≤ d ∧ d ≤ 200000
  · have HG := Lib.hid (show okD d = true from decide_eq_true h)
    go_enter Try.func57, Try.ntmps57
    go_wp2_with fail
    refine (inYes d _ _ _ h).mono ?_
    rintro e w' ⟨rfl, rfl⟩
    go_wp2
    go_ret
    exact ⟨ret_bool HG.out.symm, rfl⟩
  · have HG := Lib.hid (show okD d = false from decide_eq_false h)
    go_enter Try.func57, Try.ntmps57
    go_wp2_with fail
    refine (inNo d _ _ _ h).mono ?_
    rintro e w' ⟨rfl, rfl⟩
    go_wp2
    go_ret
    exact ⟨ret_bool HG.out.symm, rfl⟩
theorem specIsDB (d : Int) (w : World) (r : Bool) (h : okD d = r) : Calls Try.prog 57 #[.int .i64 d] w fun e w' => e = .returned (.bool r) ∧ w' = w := h ▸ specIsD d w
theorem ret_intr {a b : Int} (h : a = b) : Ending.returned (.int .i64 a) = .returned (.int .i64 b) := by rw [h]
theorem implFold (d : Int) (w : World) (h : okD d = true) : Calls Try.prog 60 #[.int .i64 d] w fun e w' => e = .returned (.int .i64 (fold d)) ∧ w' = w := by
  obtain ⟨h1, h2⟩ := of_decide_eq_true h
  clear h
  by_cases h3 : d < 0
  · have HG := Lib.hid (show fold d = -2 * d - 1 from if_pos h3)
    go_enter Try.func60, Try.ntmps60
    go_wp2
    go_ret
    exact ⟨ret_intr (by rw [HG.out]), rfl⟩
  · have HG := Lib.hid (show fold d = 2 * d from if_neg h3)
    go_enter Try.func60, Try.ntmps60
    go_wp2
    go_ret
    exact ⟨ret_intr (by rw [HG.out]), rfl⟩
theorem specFold (d : Int) (w : World) (h : okD d = true) : Calls Try.prog 58 #[.int .i64 d] w fun e w' => e = .returned (.int .i64 (fold d)) ∧ w' = w := by
  obtain ⟨h1, h2⟩ := of_decide_eq_true h
  clear h
  by_cases h3 : d < 0
  · have HG := Lib.hid (show fold d = -2 * d - 1 from if_pos h3)
    go_enter Try.func58, Try.ntmps58
    go_wp2
    go_ret
    exact ⟨ret_intr (by rw [HG.out]), rfl⟩
  · have HG := Lib.hid (show fold d = 2 * d from if_neg h3)
    go_enter Try.func58, Try.ntmps58
    go_wp2
    go_ret
    exact ⟨ret_intr (by rw [HG.out]), rfl⟩
theorem implUnfold (n : Int) (w : World) (h0 : 0 ≤ n) (h1 : n ≤ 3000000) : Calls Try.prog 69 #[.int .i64 n] w fun e w' => e = .returned (.int .i64 (unfoldI n)) ∧ w' = w := by
  by_cases h3 : n % 2 = 1
  · have HG := Lib.hid (show unfoldI n = -(n + 1) / 2 from if_pos h3)
    go_enter Try.func69, Try.ntmps69
    go_wp2
    go_ret
    exact ⟨ret_intr (by rw [HG.out, Int.tdiv_eq_ediv_of_nonneg (by omega)]; simp only [wrap64]; omega), rfl⟩
  · have HG := Lib.hid (show unfoldI n = n / 2 from if_neg h3)
    go_enter Try.func69, Try.ntmps69
    go_wp2
    go_ret
    exact ⟨ret_intr (by rw [HG.out]), rfl⟩
theorem specUnfold (n : Int) (w : World) (h0 : 0 ≤ n) (h1 : n ≤ 3000000) : Calls Try.prog 84 #[.int .i64 n] w fun e w' => e = .returned (.int .i64 (unfoldI n)) ∧ w' = w := by
  by_cases h3 : n % 2 = 1
  · have HG := Lib.hid (show unfoldI n = -(n + 1) / 2 from if_pos h3)
    go_enter Try.func84, Try.ntmps84
    go_wp2
    go_ret
    exact ⟨ret_intr (by rw [HG.out, Int.tdiv_eq_ediv_of_nonneg (by omega)]; simp only [wrap64]; omega), rfl⟩
  · have HG := Lib.hid (show unfoldI n = n / 2 from if_neg h3)
    go_enter Try.func84, Try.ntmps84
    go_wp2
    go_ret
    exact ⟨ret_intr (by rw [HG.out]), rfl⟩
/-- A literal of integers. -/
theorem row_lit (w : World) (e : TypeId) (xs : List Int) (hn : xs.length ≤ 100) : (w.alloc (.cells (xs.map (Value.int .i64)).toArray e)).ownsRow w.heap.size e 1 (.slice (some ⟨w.heap.size, 0, none⟩) xs.length xs.length) xs.length (xs.map (Value.int .i64)) :=
  ⟨by simp, .inr ⟨w.heap.size, xs.length, _, rfl, Nat.le_refl _, heap_alloc_new w _, Nat.le_refl _, by unfold maxLen; omega, by simp, by simp [List.take_of_length_le]⟩⟩
theorem implBytes (d : Int) (w : World) (h : okD d = true) : Calls Try.prog 62 #[.int .i64 d] w fun e w' => ∃ v', e = .returned v' ∧ w'.ownsRow w.heap.size 3 1 v' (byt (fold d)).length ((byt (fold d)).map (Value.int .i64)) ∧ Below w.heap.size w w' := by
  have h0 := fold_nonneg d
  have h9 := okD_fold h
  have C := Lib.hid (implFold d w h)
  have hb := Below.refl w.heap.size w
  generalize fold d = n at *
  clear h
  by_cases h1 : n < 192
  · have HG := Lib.hid (show byt n = [n] from if_pos h1)
    go_enter Try.func62, Try.ntmps62
    go_wp2_with fail
    refine C.out.mono ?_
    rintro e w' ⟨rfl, rfl⟩
    go_wp2
    go_ret
    rw [HG.out]
    exact ⟨_, rfl, row_lit w' _ [n] (by simp), hb.alloc (Nat.le_refl _) _⟩
  · by_cases h2 : n < 8384
    · have HG := Lib.hid (show byt n = [192 + (n - 192) / 256, (n - 192) % 256] from (if_neg h1).trans (if_pos h2))
      go_enter Try.func62, Try.ntmps62
      go_wp2_with fail
      refine C.out.mono ?_
      rintro e w' ⟨rfl, rfl⟩
      go_wp2
      go_ret
      rw [HG.out]
      exact ⟨_, rfl, row_lit w' _ [192 + (n - 192) / 256, (n - 192) % 256] (by simp), hb.alloc (Nat.le_refl _) _⟩
    · have HG := Lib.hid (show byt n = [224 + (n - 8384) / 65536, (n - 8384) / 256 % 256, (n - 8384) % 256] from (if_neg h1).trans (if_neg h2))
      have e1 : (n - 8384) / 256 / 256 = (n - 8384) / 65536 := by omega
      have HE := Lib.hid e1
      clear e1
      go_enter Try.func62, Try.ntmps62
      go_wp2_with fail
      refine C.out.mono ?_
      rintro e w' ⟨rfl, rfl⟩
      go_wp2
      go_ret
      rw [HG.out, ← HE.out]
      exact ⟨_, rfl, row_lit w' _ [224 + (n - 8384) / 256 / 256, (n - 8384) / 256 % 256, (n - 8384) % 256] (by simp), hb.alloc (Nat.le_refl _) _⟩
theorem specBytes (n : Int) (w : World) (h0 : 0 ≤ n) (h9 : n ≤ 400000) : Calls Try.prog 61 #[.int .i64 n] w fun e w' => ∃ v', e = .returned v' ∧ w'.ownsRow w.heap.size 3 1 v' (byt n).length ((byt n).map (Value.int .i64)) ∧ Below w.heap.size w w' := by
  have hb := Below.refl w.heap.size w
  by_cases h1 : n < 192
  · have HG := Lib.hid (show byt n = [n] from if_pos h1)
    go_enter Try.func61, Try.ntmps61
    go_wp2
    go_ret
    rw [HG.out]
    exact ⟨_, rfl, row_lit w _ [n] (by simp), hb.alloc (Nat.le_refl _) _⟩
  · by_cases h2 : n < 8384
    · have HG := Lib.hid (show byt n = [192 + (n - 192) / 256, (n - 192) % 256] from (if_neg h1).trans (if_pos h2))
      go_enter Try.func61, Try.ntmps61
      go_wp2
      go_ret
      rw [HG.out]
      exact ⟨_, rfl, row_lit w _ [192 + (n - 192) / 256, (n - 192) % 256] (by simp), hb.alloc (Nat.le_refl _) _⟩
    · have HG := Lib.hid (show byt n = [224 + (n - 8384) / 65536, (n - 8384) / 256 % 256, (n - 8384) % 256] from (if_neg h1).trans (if_neg h2))
      go_enter Try.func61, Try.ntmps61
      go_wp2
      go_ret
      rw [HG.out]
      exact ⟨_, rfl, row_lit w _ [224 + (n - 8384) / 65536, (n - 8384) / 256 % 256, (n - 8384) % 256] (by simp), hb.alloc (Nat.le_refl _) _⟩
/-- FoldedOf and PackedWidth. -/
def resFo (d : Int) : Int := if okD d then fold d else 0
def resPw (d : Int) : Int := if okD d then ((byt (fold d)).length : Int) else 0
theorem implFo (d : Int) (w : World) (B : Nat) (_ : B ≤ w.heap.size) (_ : I64 d) : Calls Try.prog 24 #[.int .i64 d] w fun e w' => e = .returned (.tuple #[.int .i64 (resFo d), .bool (okD d)]) ∧ Below w.heap.size w w' := by
  have hb := Below.refl w.heap.size w
  cases hk : okD d with
  | true =>
    have HG := Lib.hid (show resFo d = fold d by unfold resFo; rw [hk]; rfl)
    have C := Lib.hid (implIsDB d w true hk)
    have D := Lib.hid (implFold d w hk)
    rw [HG.out]
    go_enter Try.func24, Try.ntmps24
    go_wp2_with fail
    refine C.out.mono ?_
    rintro e w' ⟨rfl, rfl⟩
    go_wp2_with fail
    refine D.out.mono ?_
    rintro e w' ⟨rfl, rfl⟩
    go_wp2
    go_ret2
    exact ⟨rfl, hb⟩
  | false =>
    have HG := Lib.hid (show resFo d = 0 by unfold resFo; rw [hk]; rfl)
    have C := Lib.hid (implIsDB d w false hk)
    rw [HG.out]
    go_enter Try.func24, Try.ntmps24
    go_wp2_with fail
    refine C.out.mono ?_
    rintro e w' ⟨rfl, rfl⟩
    go_wp2
    go_ret2
    exact ⟨rfl, hb⟩
theorem specFo (d : Int) (w : World) (B : Nat) (_ : B ≤ w.heap.size) (_ : I64 d) : Calls Try.prog 23 #[.int .i64 d] w fun e w' => e = .returned (.tuple #[.int .i64 (resFo d), .bool (okD d)]) ∧ Below w.heap.size w w' := by
  have hb := Below.refl w.heap.size w
  cases hk : okD d with
  | true =>
    have HG := Lib.hid (show resFo d = fold d by unfold resFo; rw [hk]; rfl)
    have C := Lib.hid (specIsDB d w true hk)
    have D := Lib.hid (specFold d w hk)
    rw [HG.out]
    go_enter Try.func23, Try.ntmps23
    go_wp2_with fail
    refine C.out.mono ?_
    rintro e w' ⟨rfl, rfl⟩
    go_wp2_with fail
    refine D.out.mono ?_
    rintro e w' ⟨rfl, rfl⟩
    go_wp2
    go_ret2
    exact ⟨rfl, hb⟩
  | false =>
    have HG := Lib.hid (show resFo d = 0 by unfold resFo; rw [hk]; rfl)
    have C := Lib.hid (specIsDB d w false hk)
    rw [HG.out]
    go_enter Try.func23, Try.ntmps23
    go_wp2_with fail
    refine C.out.mono ?_
    rintro e w' ⟨rfl, rfl⟩
    go_wp2
    go_ret2
    exact ⟨rfl, hb⟩
theorem implPw (d : Int) (w : World) (B : Nat) (_ : B ≤ w.heap.size) (_ : I64 d) : Calls Try.prog 26 #[.int .i64 d] w fun e w' => e = .returned (.tuple #[.int .i64 (resPw d), .bool (okD d)]) ∧ Below w.heap.size w w' := by
  have hb := Below.refl w.heap.size w
  cases hk : okD d with
  | true =>
    have HG := Lib.hid (show resPw d = ((byt (fold d)).length : Int) by unfold resPw; rw [hk]; rfl)
    have C := Lib.hid (implIsDB d w true hk)
    have D := Lib.hid (implBytes d w hk)
    rw [HG.out]
    go_enter Try.func26, Try.ntmps26
    go_wp2_with fail
    refine C.out.mono ?_
    rintro e w' ⟨rfl, rfl⟩
    go_wp2_with fail
    refine D.out.mono ?_
    rintro e w' ⟨v, rfl, hrow, hb1⟩
    obtain ⟨ao, cap, rfl⟩ := row_form hrow
    go_wp2
    go_ret2
    exact ⟨rfl, hb1⟩
  | false =>
    have HG := Lib.hid (show resPw d = 0 by unfold resPw; rw [hk]; rfl)
    have C := Lib.hid (implIsDB d w false hk)
    rw [HG.out]
    go_enter Try.func26, Try.ntmps26
    go_wp2_with fail
    refine C.out.mono ?_
    rintro e w' ⟨rfl, rfl⟩
    go_wp2
    go_ret2
    exact ⟨rfl, hb⟩
theorem specPw (d : Int) (w : World) (B : Nat) (_ : B ≤ w.heap.size) (_ : I64 d) : Calls Try.prog 25 #[.int .i64 d] w fun e w' => e = .returned (.tuple #[.int .i64 (resPw d), .bool (okD d)]) ∧ Below w.heap.size w w' := by
  have hb := Below.refl w.heap.size w
  cases hk : okD d with
  | true =>
    have HG := Lib.hid (show resPw d = ((byt (fold d)).length : Int) by unfold resPw; rw [hk]; rfl)
    have C := Lib.hid (specIsDB d w true hk)
    have D := Lib.hid (specFold d w hk)
    have E := Lib.hid (specBytes (fold d) w (fold_nonneg d) (okD_fold hk))
    rw [HG.out]
    go_enter Try.func25, Try.ntmps25
    go_wp2_with fail
    refine C.out.mono ?_
    rintro e w' ⟨rfl, rfl⟩
    go_wp2_with fail
    refine D.out.mono ?_
    rintro e w' ⟨rfl, rfl⟩
    go_wp2_with fail
    refine E.out.mono ?_
    rintro e w' ⟨v, rfl, hrow, hb1⟩
    obtain ⟨ao, cap, rfl⟩ := row_form hrow
    go_wp2
    go_ret2
    exact ⟨rfl, hb1⟩
  | false =>
    have HG := Lib.hid (show resPw d = 0 by unfold resPw; rw [hk]; rfl)
    have C := Lib.hid (specIsDB d w false hk)
    rw [HG.out]
    go_enter Try.func25, Try.ntmps25
    go_wp2_with fail
    refine C.out.mono ?_
    rintro e w' ⟨rfl, rfl⟩
    go_wp2
    go_ret2
    exact ⟨rfl, hb⟩
end Go.Proofs.Ytkgohnlljbamlaa
