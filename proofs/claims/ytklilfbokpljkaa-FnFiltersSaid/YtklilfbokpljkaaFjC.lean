/- Integer filters: the program's each n-th one. -/
import Derived.Test.YtklilfbokpljkaaFjA
import Derived.BigQuiet
import Derived.IntWalk
import Derived.Lib.MinMax
namespace Go.Proofs.Ytklilfbokpljkaa
open Go.ChangeShapes Go.WideShapes Go.ChangeAt Go.RowKit Go.ChangeMaps
set_option linter.unusedSimpArgs false
set_option linter.unusedVariables false

set_option maxRecDepth 100000 in
set_option maxHeartbeats 2000000 in
theorem implEv (xs : List Int) (v : Value) (n : Int) (w : World) (B : Nat) (h : Lst (Value.int .i64) w B v xs) (hB : B ≤ w.heap.size) (hn : xs.length ≤ 1048576) (_ : I64 n) :
    Calls Try.prog 64 #[v, .int .i64 n] w fun e w' => ∃ v', e = .returned (.tuple #[v', .bool (okA xs n 1 10)]) ∧ Own (Value.int .i64) w' w.heap.size w'.heap.size v' (resEv xs n) ∧ Below w.heap.size w w' := by
  have hb1 : Below w.heap.size w (w.alloc (.cells #[.int .i64 n] 3)) := (Below.refl _ _).alloc (Nat.le_refl _) _
  have hz1w : w.heap.size ≤ (w.alloc (.cells #[.int .i64 n] 3)).heap.size := by simp
  cases hk : okL xs with
  | false =>
    have e1 : okA xs n 1 10 = false := by unfold okA; rw [hk]; rfl
    have e2 : resEv xs n = [] := by unfold resEv; rw [e1]; rfl
    have C := Lib.hid (implAreSB xs v w B false h hk)
    rw [e1, e2]
    obtain ⟨ao, cap, rfl⟩ := h.form
    clear e1 e2 hk
    go_enter Try.func64, Try.ntmps64
    go_wp2_with fail
    refine C.out.mono ?_
    rintro e w1 ⟨rfl, hw1⟩
    obtain rfl : w = w1 := hw1.symm
    go_wp2
    go_ret2
    exact ⟨_, rfl, own_empty _ _ (Nat.le_refl _), (Below.refl _ _).alloc (Nat.le_refl _) _⟩
  | true =>
  cases hr : inR n 1 10 with
  | false =>
    have e1 : okA xs n 1 10 = false := by unfold okA; rw [hr, Bool.and_false]
    have e2 : resEv xs n = [] := by unfold resEv; rw [e1]; rfl
    have C := Lib.hid (implAreSB xs v w B true h hk)
    have C2 := Lib.hid (implIn 1 10 n w 3 false hr)
    rw [e1, e2]
    obtain ⟨ao, cap, rfl⟩ := h.form
    clear e1 e2 hk hr
    go_enter Try.func64, Try.ntmps64
    go_wp2_with fail
    refine C.out.mono ?_
    rintro e w1 ⟨rfl, hw1⟩
    obtain rfl : w = w1 := hw1.symm
    go_wp2_with fail
    refine C2.out.mono ?_
    rintro e w2 ⟨rfl, rfl⟩
    go_wp2
    go_ret2
    exact ⟨_, rfl, own_empty1 _ _ _ (by omega), hb1.alloc hz1w _⟩
  | true =>
    obtain ⟨f, hf⟩ : ∃ f : Nat → Int, f = fun j => xs.getD (j * n.toNat) 0 := ⟨_, rfl⟩
    have e1 : okA xs n 1 10 = true := by unfold okA; rw [hk, hr]; rfl
    have e2 : resEv xs n = up f (evN xs.length n.toNat) := by unfold resEv; rw [e1, hf]; rfl
    have C := Lib.hid (implAreSB xs v w B true h hk)
    have C2 := Lib.hid (implIn 1 10 n w 3 true hr)
    obtain ⟨n1, n2⟩ := inR_yes hr
    obtain ⟨gx, gn⟩ := okL_yes hk
    rw [e1, e2]
    obtain ⟨ti, hi, hz0, hz1, hz2⟩ := info_parts infoInt
    have HL := Lib.hid h
    obtain ⟨ao, cap, rfl, hcap, hmax, hnn, hc⟩ := h
    unfold maxLen at hmax
    have HF := Lib.hid hf
    have HX := Lib.hid gx
    have HC := Lib.hid hc
    have HNN := Lib.hid hnn
    clear e1 e2 hk hr gx hc hnn hf
    obtain ⟨m, hm⟩ : ∃ m : Nat, (m : Int) = n := ⟨n.toNat, by omega⟩
    have hm0 : n.toNat = m := by omega
    rw [hm0] at HF ⊢
    have HM := Lib.hid hm
    have EV := Lib.hid (fun k => evN_lt (len := xs.length) (n := m) (j := k) (by omega))
    have EL := evN_le (len := xs.length) (n := m) (by omega)
    obtain ⟨M, hM⟩ : ∃ M, evN xs.length m = M := ⟨_, rfl⟩
    rw [hM] at EV EL ⊢
    clear hm0 hM hm
    go_enter Try.func64, Try.ntmps64
    go_wp2_with fail
    refine C.out.mono ?_
    rintro e w1 ⟨rfl, hw1⟩
    obtain rfl : w = w1 := hw1.symm
    go_wp2_with fail
    refine C2.out.mono ?_
    rintro e w2 ⟨rfl, rfl⟩
    have hrow0 := row_empty1 w (.cells #[.int .i64 n] 3) (base := w.heap.size) 3 1 (by omega)
    have hb0 := hb1.alloc hz1w (.cells #[] 3)
    go_wp2
    go_loopw [6, 7] (fun o i wr => ∃ (k p : Nat), p = k * m ∧ k ≤ M ∧ p ≤ xs.length + 10 ∧ i = .int .i64 p ∧ wr.ownsRow w.heap.size 3 1 o k ((up f k).map (Value.int .i64)) ∧ Below w.heap.size w wr) (fun _ i _ => xs.length + 20 - (intOf i).toNat)
    case atStart => exact ⟨0, 0, by simp, Nat.zero_le _, by omega, rfl, by simpa [up] using hrow0, hb0⟩
    case round =>
      obtain ⟨k, p, hp, hk, hp2, rfl, hrow, hbl⟩ := hrel
      obtain ⟨aoo, capo, rfl⟩ := row_form hrow
      have hsz := hbl.size
      have HP := Lib.hid hp
      clear hp
      by_cases hlt : p < xs.length
      case neg =>
        have hkm : k = M := by
          have h := HP.out
          rcases Nat.lt_or_ge k M with g | g
          · have := (EV.out k).1 g
            omega
          · omega
        subst hkm
        go_wp2
        go_ret2
        exact ⟨_, rfl, Own.of_row hrow, hbl⟩
      have hkM : k < M := (EV.out k).2 (by have := HP.out; omega)
      obtain ⟨x, hx⟩ := get_of_lt hlt
      obtain ⟨b, off, rfl, hb, hcx⟩ := HC.out p x hx
      have hcx' := cellOf hbl (by omega) hcx
      have HE := Lib.hid (show x = f k by rw [HF.out]; show x = xs.getD (k * m) 0; rw [← HP.out, get_getD hx])
      have HA := Lib.hid (up_cut f k)
      rw [← HE.out] at HA
      clear hx hcx
      go_wp2_with (at_builtin; refine wpList_append_own _ rfl _ _ 43 rfl (w.heap.size) 3 ti (.int .i64 0) 1 8 Try.underlying43 hi hz0 hz1 hz2 rfl (by decide) _ k ((up f k).map (Value.int .i64)) rfl (hrow.alloc _) ⟨wr.heap.size, 0, none⟩ 1 1 [.int .i64 x] rfl rfl (cell_one_new _ _ _) (by simp [Value.oneCell']) (by unfold maxLen; omega) (by omega) (by first | omega | (simp; done) | (simp; omega)) ?_; intro v3 w3 hown' hgrow _; have b3 := below_app2 hrow hgrow hsz (Nat.le_refl _))
      rw [HA.out] at hown'
      obtain ⟨a3, c3, rfl⟩ := row_form hown'
      clear hgrow hrow
      go_wp2
      have hM := HM.out
      go_roundw
      case rel => exact ⟨k + 1, p + m, by rw [HP.out, Nat.add_mul, Nat.one_mul], hkM, by omega, by go_num, hown', hbl.trans b3⟩
      case measure => simp [intOf]; omega
end Go.Proofs.Ytklilfbokpljkaa
