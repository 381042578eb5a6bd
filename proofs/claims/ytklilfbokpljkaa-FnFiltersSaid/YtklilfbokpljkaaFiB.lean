/- Integer filters: the specification's combed list. -/
import Derived.Test.YtklilfbokpljkaaFiA
import Derived.BigQuiet
import Derived.IntWalk
namespace Go.Proofs.Ytklilfbokpljkaa
open Go.ChangeShapes Go.WideShapes Go.ChangeAt Go.RowKit Go.ChangeMaps
set_option linter.unusedSimpArgs false
set_option linter.unusedVariables false

set_option maxRecDepth 100000 in
set_option maxHeartbeats 2000000 in
theorem specCb (xs : List Int) (v : Value) (n : Int) (w : World) (B : Nat) (h : Lst (Value.int .i64) w B v xs) (hB : B ≤ w.heap.size) (hn : xs.length ≤ 1048576) (_ : I64 n) :
    Calls Try.prog 61 #[v, .int .i64 n] w fun e w' => ∃ v', e = .returned (.tuple #[v', .bool (okA xs n 1 10)]) ∧ Own (Value.int .i64) w' w.heap.size w'.heap.size v' (resCb xs n) ∧ Below w.heap.size w w' := by
  have hrow0 := row_empty w (base := w.heap.size) 3 1 (Nat.le_refl _)
  have hb0 : Below w.heap.size w (w.alloc (.cells #[] 3)) := (Below.refl _ _).alloc (Nat.le_refl _) _
  have h1 := h.below (hb0.mono hB)
  cases hk : okA xs n 1 10 with
  | false =>
    have e2 : resCb xs n = [] := by unfold resCb; rw [hk]; rfl
    have C := Lib.hid (specAskB xs v n 1 10 _ B false h1 hk)
    rw [e2]
    obtain ⟨ao, cap, rfl⟩ := h.form
    clear e2 hk
    go_enter Try.func61, Try.ntmps61
    go_wp2_with fail
    refine C.out.mono ?_
    rintro e w1 ⟨rfl, rfl⟩
    go_wp2
    go_ret2
    exact ⟨_, rfl, own_empty _ _ (Nat.le_refl _), hb0⟩
  | true =>
    obtain ⟨f, hf⟩ : ∃ f : Nat → Int, f = fCb xs n.toNat := ⟨_, rfl⟩
    have e2 : resCb xs n = up f (xs.length) := by unfold resCb; rw [hk, hf]; rfl
    have C := Lib.hid (specAskB xs v n 1 10 _ B true h1 hk)
    obtain ⟨gl, gr⟩ := okA_yes hk
    obtain ⟨n1, n2⟩ := inR_yes gr
    obtain ⟨gx, gn⟩ := okL_yes gl
    rw [e2]
    obtain ⟨ti, hi, hz0, hz1, hz2⟩ := info_parts infoInt
    have HL := Lib.hid h
    obtain ⟨ao, cap, rfl, hcap, hmax, hnn, hc⟩ := h
    unfold maxLen at hmax
    have HF := Lib.hid hf
    have HX := Lib.hid gx
    have HC := Lib.hid hc
    clear e2 hk gl gr gx hc hnn h1 hf
    go_enter Try.func61, Try.ntmps61
    go_wp2_with fail
    refine C.out.mono ?_
    rintro e w1 ⟨rfl, rfl⟩
    go_wp2
    go_loopw [6, 7] (fun o i wr => ∃ (k : Nat), k ≤ xs.length ∧ i = .int .i64 k ∧ wr.ownsRow w.heap.size 3 1 o k ((up f k).map (Value.int .i64)) ∧ Below w.heap.size w wr) (fun _ i _ => xs.length - (intOf i).toNat)
    case atStart => exact ⟨0, Nat.zero_le _, rfl, by simpa [up] using hrow0, hb0⟩
    case round =>
      obtain ⟨k, hk, rfl, hrow, hbl⟩ := hrel
      obtain ⟨aoo, capo, rfl⟩ := row_form hrow
      have hsz := hbl.size
      by_cases hlt : k < xs.length
      case neg =>
        obtain rfl : k = xs.length := by omega
        go_wp2
        go_ret2
        exact ⟨_, rfl, Own.of_row hrow, hbl⟩
      obtain ⟨x, hx⟩ := get_of_lt hlt
      obtain ⟨bx1, bx2⟩ := HX.out x (List.mem_of_getElem? hx)
      obtain ⟨b, off, rfl, hb, hcx⟩ := HC.out k x hx
      have hcx' := cellOf hbl (by omega) hcx

      by_cases hg : n ≤ (k : Int)
      case neg =>
        have HE := Lib.hid (show (0 : Int) = f k by rw [HF.out]; unfold fCb; rw [if_neg (by omega)])
        have HA := Lib.hid (up_cut f k)
        rw [← HE.out] at HA
        clear hx hcx
        go_wp2_with (at_builtin; refine wpList_append_own _ rfl _ _ 43 rfl (w.heap.size) 3 ti (.int .i64 0) 1 8 Try.underlying43 hi hz0 hz1 hz2 rfl (by decide) _ k ((up f k).map (Value.int .i64)) rfl (hrow.alloc _) ⟨wr.heap.size, 0, none⟩ 1 1 [.int .i64 0] rfl rfl (cell_one_new _ _ _) (by simp [Value.oneCell']) (by unfold maxLen; omega) (by omega) (by first | omega | (simp; done) | (simp; omega)) ?_; intro v3 w3 hown' hgrow _; have b3 := below_app2 hrow hgrow hsz (Nat.le_refl _))
        rw [HA.out] at hown'
        obtain ⟨a3, c3, rfl⟩ := row_form hown'
        clear hgrow hrow
        go_wp2
        go_roundw
        case rel => exact ⟨k + 1, by omega, by go_num, hown', hbl.trans b3⟩
        case measure => simp [intOf]; omega
      obtain ⟨m, hm⟩ : ∃ m : Nat, (m : Int) = n := ⟨n.toNat, by omega⟩
      obtain ⟨y, hy⟩ := get_of_lt (show k - m < xs.length by omega)
      obtain ⟨by1, by2⟩ := HX.out y (List.mem_of_getElem? hy)
      obtain ⟨b2, off2, e2, hb2, hcy⟩ := HC.out _ y hy
      simp only [Option.some.injEq, Addr.mk.injEq, and_true] at e2
      obtain ⟨rfl, rfl⟩ := e2
      have hcy' := cellOf hbl (by omega) hcy
      have HE := Lib.hid (show x - y = f k by rw [HF.out]; unfold fCb; rw [if_pos (by omega), get_getD hx, show k - n.toNat = k - m by omega, get_getD hy])
      have HA := Lib.hid (up_cut f k)
      rw [← HE.out] at HA
      have s1 : IntKind.i64.wrap (x - y) = x - y := IntWalk.i64_in _ (by omega)
      have s2 : IntKind.i64.wrap ((k : Int) - n) = ((k - m : Nat) : Int) := by rw [IntWalk.i64_in _ (by omega)]; omega
      have i0 : (0 : Int) ≤ (k : Int) := by omega
      have i1 : (k : Int) < (xs.length : Int) := by omega
      have j0 : (0 : Int) ≤ ((k - m : Nat) : Int) := by omega
      have j1 : ((k - m : Nat) : Int) < (xs.length : Int) := by omega
      generalize k - m = j at *
      clear hx hcx hy hcy hm
      go_wp2
      go_quiet (fail)
      clear s1 s2
      go_wp2_with (at_builtin; refine wpList_append_own _ rfl _ _ 43 rfl (w.heap.size) 3 ti (.int .i64 0) 1 8 Try.underlying43 hi hz0 hz1 hz2 rfl (by decide) _ k ((up f k).map (Value.int .i64)) rfl (row_drewN hrow nq |>.alloc _) ⟨(wr.drewN nq).heap.size, 0, none⟩ 1 1 [.int .i64 (x - y)] rfl rfl (cell_one_new _ _ _) (by simp [Value.oneCell']) (by unfold maxLen; omega) (by omega) (by first | omega | (simp; done) | (simp; omega)) ?_; intro v3 w3 hown' hgrow _; have b3 := below_app2 (row_drewN hrow nq) hgrow hsz (Nat.le_refl _))
      rw [HA.out] at hown'

      obtain ⟨a3, c3, rfl⟩ := row_form hown'
      clear hgrow hrow
      go_wp2
      go_roundw
      case rel => exact ⟨k + 1, by omega, by go_num, hown', (drewN_b hbl nq).trans b3⟩
      case measure => simp [intOf]; omega
end Go.Proofs.Ytklilfbokpljkaa
