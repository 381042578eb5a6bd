/- Integer filters: the program's clipped list. -/
import Derived.Test.YtklilfbokpljkaaFjA
import Derived.BigQuiet
import Derived.IntWalk
import Derived.Lib.MinMax
namespace Go.Proofs.Ytklilfbokpljkaa
open Go.ChangeShapes Go.WideShapes Go.ChangeAt Go.RowKit Go.ChangeMaps
set_option linter.unusedSimpArgs false
set_option linter.unusedVariables false

set_option maxRecDepth 100000 in
set_option maxHeartbeats 2000000 in
theorem implClp (xs : List Int) (v : Value) (n : Int) (w : World) (B : Nat) (h : Lst (Value.int .i64) w B v xs) (hB : B ≤ w.heap.size) (hn : xs.length ≤ 1048576) (_ : I64 n) :
    Calls Try.prog 72 #[v, .int .i64 n] w fun e w' => ∃ v', e = .returned (.tuple #[v', .bool (okA xs n 0 100000)]) ∧ Own (Value.int .i64) w' w.heap.size w'.heap.size v' (resClp xs n) ∧ Below w.heap.size w w' := by
  have hb1 : Below w.heap.size w (w.alloc (.cells #[.int .i64 n] 3)) := (Below.refl _ _).alloc (Nat.le_refl _) _
  have hz1w : w.heap.size ≤ (w.alloc (.cells #[.int .i64 n] 3)).heap.size := by simp
  cases hk : okL xs with
  | false =>
    have e1 : okA xs n 0 100000 = false := by unfold okA; rw [hk]; rfl
    have e2 : resClp xs n = [] := by unfold resClp; rw [e1]; rfl
    have C := Lib.hid (implAreSB xs v w B false h hk)
    rw [e1, e2]
    obtain ⟨ao, cap, rfl⟩ := h.form
    clear e1 e2 hk
    go_enter Try.func72, Try.ntmps72
    go_wp2_with fail
    refine C.out.mono ?_
    rintro e w1 ⟨rfl, hw1⟩
    obtain rfl : w = w1 := hw1.symm
    go_wp2
    go_ret2
    exact ⟨_, rfl, own_empty _ _ (Nat.le_refl _), (Below.refl _ _).alloc (Nat.le_refl _) _⟩
  | true =>
  cases hr : inR n 0 100000 with
  | false =>
    have e1 : okA xs n 0 100000 = false := by unfold okA; rw [hr, Bool.and_false]
    have e2 : resClp xs n = [] := by unfold resClp; rw [e1]; rfl
    have C := Lib.hid (implAreSB xs v w B true h hk)
    have C2 := Lib.hid (implIn 0 100000 n w 3 false hr)
    rw [e1, e2]
    obtain ⟨ao, cap, rfl⟩ := h.form
    clear e1 e2 hk hr
    go_enter Try.func72, Try.ntmps72
    go_wp2_with fail
    refine C.out.mono ?_
    rintro e w1 ⟨rfl, hw1⟩
    obtain rfl : w = w1 := hw1.symm
    go_wp2_with fail
    refine C2.out.mono ?_
    rintro e w2 ⟨rfl, rfl⟩
    go_wp2
    go_ret2
    exact ⟨_, rfl, own_empty1 _ _ _ (by omega), hb1.alloc hz1w _⟩
  | true =>
    obtain ⟨f, hf⟩ : ∃ f : Nat → Int, f = fun i => clp n (xs.getD i 0) := ⟨_, rfl⟩
    have e1 : okA xs n 0 100000 = true := by unfold okA; rw [hk, hr]; rfl
    have e2 : resClp xs n = up f (xs.length) := by unfold resClp; rw [e1, hf]; rfl
    have C := Lib.hid (implAreSB xs v w B true h hk)
    have C2 := Lib.hid (implIn 0 100000 n w 3 true hr)
    obtain ⟨n1, n2⟩ := inR_yes hr
    obtain ⟨gx, gn⟩ := okL_yes hk
    rw [e1, e2]
    obtain ⟨ti, hi, hz0, hz1, hz2⟩ := info_parts infoInt
    have HL := Lib.hid h
    obtain ⟨ao, cap, rfl, hcap, hmax, hnn, hc⟩ := h
    unfold maxLen at hmax
    have HF := Lib.hid hf
    have HX := Lib.hid gx
    have HC := Lib.hid hc
    have HNN := Lib.hid hnn
    clear e1 e2 hk hr gx hc hnn hf
    go_enter Try.func72, Try.ntmps72
    go_wp2_with fail
    refine C.out.mono ?_
    rintro e w1 ⟨rfl, hw1⟩
    obtain rfl : w = w1 := hw1.symm
    go_wp2_with fail
    refine C2.out.mono ?_
    rintro e w2 ⟨rfl, rfl⟩
    have hrow0 := row_empty1 w (.cells #[.int .i64 n] 3) (base := w.heap.size) 3 1 (by omega)
    have hb0 := hb1.alloc hz1w (.cells #[] 3)
    go_wp2
    go_loopw [6, 22] (fun o i wr => ∃ (k : Nat), k ≤ xs.length ∧ i = .int .i64 k ∧ wr.ownsRow w.heap.size 3 1 o k ((up f k).map (Value.int .i64)) ∧ Below w.heap.size w wr) (fun _ i _ => xs.length - (intOf i).toNat)
    case atStart => exact ⟨0, Nat.zero_le _, rfl, by simpa [up] using hrow0, hb0⟩
    case round =>
      obtain ⟨k, hk, rfl, hrow, hbl⟩ := hrel
      obtain ⟨aoo, capo, rfl⟩ := row_form hrow
      have hsz := hbl.size
      by_cases hlt : k < xs.length
      case neg =>
        obtain rfl : k = xs.length := by omega
        go_wp2
        go_ret2
        exact ⟨_, rfl, Own.of_row hrow, hbl⟩
      obtain ⟨x, hx⟩ := get_of_lt hlt
      obtain ⟨bx1, bx2⟩ := HX.out x (List.mem_of_getElem? hx)
      obtain ⟨b, off, rfl, hb, hcx⟩ := HC.out k x hx
      have hcx' := cellOf hbl (by omega) hcx

      have HE := Lib.hid (show max (-n) (min x n) = f k by rw [HF.out]; simp only [clp, get_getD hx])
      have HA := Lib.hid (up_cut f k)
      rw [← HE.out] at HA
      clear hx hcx
      go_wp2_with (at_builtin; refine wpList_append_own _ rfl _ _ 43 rfl (w.heap.size) 3 ti (.int .i64 0) 1 8 Try.underlying43 hi hz0 hz1 hz2 rfl (by decide) _ k ((up f k).map (Value.int .i64)) rfl (hrow.alloc _) ⟨wr.heap.size, 0, none⟩ 1 1 [.int .i64 (max (-n) (min x n))] rfl rfl (cell_one_new _ _ _) (by simp [Value.oneCell']) (by unfold maxLen; omega) (by omega) (by first | omega | (simp; done) | (simp; omega)) ?_; intro v3 w3 hown' hgrow _; have b3 := below_app2 hrow hgrow hsz (Nat.le_refl _))
      rw [HA.out] at hown'

      obtain ⟨a3, c3, rfl⟩ := row_form hown'
      clear hgrow hrow
      go_wp2
      go_roundw
      case rel => exact ⟨k + 1, by omega, by go_num, hown', hbl.trans b3⟩
      case measure => simp [intOf]; omega
end Go.Proofs.Ytklilfbokpljkaa
