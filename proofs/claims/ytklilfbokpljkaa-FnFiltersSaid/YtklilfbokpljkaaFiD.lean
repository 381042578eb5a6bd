/- Integer filters: the specification's each n-th one. -/
import Derived.Test.YtklilfbokpljkaaFiA
import Derived.BigQuiet
import Derived.IntWalk
namespace Go.Proofs.Ytklilfbokpljkaa
open Go.ChangeShapes Go.WideShapes Go.ChangeAt Go.RowKit Go.ChangeMaps
set_option linter.unusedSimpArgs false
set_option linter.unusedVariables false

set_option maxRecDepth 100000 in
set_option maxHeartbeats 2000000 in
theorem specEv (xs : List Int) (v : Value) (n : Int) (w : World) (B : Nat) (h : Lst (Value.int .i64) w B v xs) (hB : B ≤ w.heap.size) (hn : xs.length ≤ 1048576) (_ : I64 n) :
    Calls Try.prog 65 #[v, .int .i64 n] w fun e w' => ∃ v', e = .returned (.tuple #[v', .bool (okA xs n 1 10)]) ∧ Own (Value.int .i64) w' w.heap.size w'.heap.size v' (resEv xs n) ∧ Below w.heap.size w w' := by
  have hrow0 := row_empty w (base := w.heap.size) 3 1 (Nat.le_refl _)
  have hb0 : Below w.heap.size w (w.alloc (.cells #[] 3)) := (Below.refl _ _).alloc (Nat.le_refl _) _
  have h1 := h.below (hb0.mono hB)
  cases hk : okA xs n 1 10 with
  | false =>
    have e2 : resEv xs n = [] := by unfold resEv; rw [hk]; rfl
    have C := Lib.hid (specAskB xs v n 1 10 _ B false h1 hk)
    rw [e2]
    obtain ⟨ao, cap, rfl⟩ := h.form
    clear e2 hk
    go_enter Try.func65, Try.ntmps65
    go_wp2_with fail
    refine C.out.mono ?_
    rintro e w1 ⟨rfl, rfl⟩
    go_wp2
    go_ret2
    exact ⟨_, rfl, own_empty _ _ (Nat.le_refl _), hb0⟩
  | true =>
    obtain ⟨f, hf⟩ : ∃ f : Nat → Int, f = fun j => xs.getD (j * n.toNat) 0 := ⟨_, rfl⟩
    have e2 : resEv xs n = up f (evN xs.length n.toNat) := by unfold resEv; rw [hk, hf]; rfl
    have C := Lib.hid (specAskB xs v n 1 10 _ B true h1 hk)
    obtain ⟨gl, gr⟩ := okA_yes hk
    obtain ⟨n1, n2⟩ := inR_yes gr
    obtain ⟨gx, gn⟩ := okL_yes gl
    rw [e2]
    obtain ⟨ti, hi, hz0, hz1, hz2⟩ := info_parts infoInt
    have HL := Lib.hid h
    obtain ⟨ao, cap, rfl, hcap, hmax, hnn, hc⟩ := h
    unfold maxLen at hmax
    have HF := Lib.hid hf
    have HX := Lib.hid gx
    have HC := Lib.hid hc
    clear e2 hk gl gr gx hc hnn h1 hf
    obtain ⟨m, hm⟩ : ∃ m : Nat, (m : Int) = n := ⟨n.toNat, by omega⟩
    have hm0 : n.toNat = m := by omega
    rw [hm0] at HF ⊢
    have HM := Lib.hid hm
    have EV := Lib.hid (fun k => evN_lt (len := xs.length) (n := m) (j := k) (by omega))
    have EL := evN_le (len := xs.length) (n := m) (by omega)
    obtain ⟨M, hM⟩ : ∃ M, evN xs.length m = M := ⟨_, rfl⟩
    rw [hM] at EV EL ⊢
    clear hm0 hM hm
    go_enter Try.func65, Try.ntmps65
    go_wp2_with fail
    refine C.out.mono ?_
    rintro e w1 ⟨rfl, rfl⟩
    go_wp2
    go_loopw [6, 7] (fun o i wr => ∃ (k p : Nat), p = k * m ∧ k ≤ M ∧ p ≤ xs.length + 10 ∧ i = .int .i64 p ∧ wr.ownsRow w.heap.size 3 1 o k ((up f k).map (Value.int .i64)) ∧ Below w.heap.size w wr) (fun _ i _ => xs.length + 20 - (intOf i).toNat)
    case atStart => exact ⟨0, 0, by simp, Nat.zero_le _, by omega, rfl, by simpa [up] using hrow0, hb0⟩
    case round =>
      obtain ⟨k, p, hp, hk, hp2, rfl, hrow, hbl⟩ := hrel
      obtain ⟨aoo, capo, rfl⟩ := row_form hrow
      have hsz := hbl.size
      have HP := Lib.hid hp
      clear hp
      by_cases hlt : p < xs.length
      case neg =>
        have hkm : k = M := by
          have h := HP.out
          rcases Nat.lt_or_ge k M with g | g
          · have := (EV.out k).1 g
            omega
          · omega
        subst hkm
        go_wp2
        go_ret2
        exact ⟨_, rfl, Own.of_row hrow, hbl⟩
      have hkM : k < M := (EV.out k).2 (by have := HP.out; omega)
      obtain ⟨x, hx⟩ := get_of_lt hlt
      obtain ⟨b, off, rfl, hb, hcx⟩ := HC.out p x hx
      have hcx' := cellOf hbl (by omega) hcx
      have HE := Lib.hid (show x = f k by rw [HF.out]; show x = xs.getD (k * m) 0; rw [← HP.out, get_getD hx])
      have HA := Lib.hid (up_cut f k)
      rw [← HE.out] at HA
      clear hx hcx
      go_wp2_with (at_builtin; refine wpList_append_own _ rfl _ _ 43 rfl (w.heap.size) 3 ti (.int .i64 0) 1 8 Try.underlying43 hi hz0 hz1 hz2 rfl (by decide) _ k ((up f k).map (Value.int .i64)) rfl (hrow.alloc _) ⟨wr.heap.size, 0, none⟩ 1 1 [.int .i64 x] rfl rfl (cell_one_new _ _ _) (by simp [Value.oneCell']) (by unfold maxLen; omega) (by omega) (by first | omega | (simp; done) | (simp; omega)) ?_; intro v3 w3 hown' hgrow _; have b3 := below_app2 hrow hgrow hsz (Nat.le_refl _))
      rw [HA.out] at hown'
      obtain ⟨a3, c3, rfl⟩ := row_form hown'
      clear hgrow hrow
      go_wp2
      have hM := HM.out
      go_roundw
      case rel => exact ⟨k + 1, p + m, by rw [HP.out, Nat.add_mul, Nat.one_mul], hkM, by omega, by go_num, hown', hbl.trans b3⟩
      case measure => simp [intOf]; omega
end Go.Proofs.Ytklilfbokpljkaa
