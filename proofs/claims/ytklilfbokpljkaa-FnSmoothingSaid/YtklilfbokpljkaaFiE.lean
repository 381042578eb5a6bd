/- Integer filters: the specification's moving sums. -/
import Derived.Test.YtklilfbokpljkaaFiA
import Derived.BigQuiet
import Derived.IntWalk
namespace Go.Proofs.Ytklilfbokpljkaa
open Go.ChangeShapes Go.WideShapes Go.ChangeAt Go.RowKit Go.ChangeMaps
set_option linter.unusedSimpArgs false
set_option linter.unusedVariables false

set_option maxRecDepth 100000 in
set_option maxHeartbeats 2000000 in
theorem specMS (xs : List Int) (v : Value) (n : Int) (w : World) (B : Nat) (h : Lst (Value.int .i64) w B v xs) (hB : B ≤ w.heap.size) (hn : xs.length ≤ 1048576) (_ : I64 n) :
    Calls Try.prog 58 #[v, .int .i64 n] w fun e w' => ∃ v', e = .returned (.tuple #[v', .bool (okA xs n 1 10)]) ∧ Own (Value.int .i64) w' w.heap.size w'.heap.size v' (resMS xs n) ∧ Below w.heap.size w w' := by
  have hrow0 := row_empty w (base := w.heap.size) 3 1 (Nat.le_refl _)
  have hb0 : Below w.heap.size w (w.alloc (.cells #[] 3)) := (Below.refl _ _).alloc (Nat.le_refl _) _
  have h1 := h.below (hb0.mono hB)
  cases hk : okA xs n 1 10 with
  | false =>
    have e2 : resMS xs n = [] := by unfold resMS; rw [hk]; rfl
    have C := Lib.hid (specAskB xs v n 1 10 _ B false h1 hk)
    rw [e2]
    obtain ⟨ao, cap, rfl⟩ := h.form
    clear e2 hk
    go_enter Try.func58, Try.ntmps58
    go_wp2_with fail
    refine C.out.mono ?_
    rintro e w1 ⟨rfl, rfl⟩
    go_wp2
    go_ret2
    exact ⟨_, rfl, own_empty _ _ (Nat.le_refl _), hb0⟩
  | true =>
    obtain ⟨f, hf⟩ : ∃ f : Nat → Int, f = fMS xs n.toNat := ⟨_, rfl⟩
    have e2 : resMS xs n = up f (xs.length) := by unfold resMS; rw [hk, hf]; rfl
    have C := Lib.hid (specAskB xs v n 1 10 _ B true h1 hk)
    obtain ⟨gl, gr⟩ := okA_yes hk
    obtain ⟨n1, n2⟩ := inR_yes gr
    obtain ⟨gx, gn⟩ := okL_yes gl
    rw [e2]
    obtain ⟨ti, hi, hz0, hz1, hz2⟩ := info_parts infoInt
    have HL := Lib.hid h
    obtain ⟨ao, cap, rfl, hcap, hmax, hnn, hc⟩ := h
    unfold maxLen at hmax
    have HF := Lib.hid hf
    have HX := Lib.hid gx
    have HC := Lib.hid hc
    clear e2 hk gl gr gx hc hnn h1 hf
    go_enter Try.func58, Try.ntmps58
    go_wp2_with fail
    refine C.out.mono ?_
    rintro e w1 ⟨rfl, rfl⟩
    go_wp2
    go_loopw [6, 7] (fun o i wr => ∃ (k : Nat), k ≤ xs.length ∧ i = .int .i64 k ∧ wr.ownsRow w.heap.size 3 1 o k ((up f k).map (Value.int .i64)) ∧ Below w.heap.size w wr) (fun _ i _ => xs.length - (intOf i).toNat)
    case atStart => exact ⟨0, Nat.zero_le _, rfl, by simpa [up] using hrow0, hb0⟩
    case round =>
      obtain ⟨k, hk, rfl, hrow, hbl⟩ := hrel
      obtain ⟨aoo, capo, rfl⟩ := row_form hrow
      have hsz := hbl.size
      by_cases hlt : k < xs.length
      case neg =>
        obtain rfl : k = xs.length := by omega
        go_wp2
        go_ret2
        exact ⟨_, rfl, Own.of_row hrow, hbl⟩
      obtain ⟨x, hx⟩ := get_of_lt hlt
      obtain ⟨bx1, bx2⟩ := HX.out x (List.mem_of_getElem? hx)
      obtain ⟨b, off, rfl, hb, hcx⟩ := HC.out k x hx
      have hcx' := cellOf hbl (by omega) hcx

      obtain ⟨lo, hlo⟩ : ∃ lo : Nat, k - (n.toNat - 1) = lo := ⟨_, rfl⟩
      have hlo1 : max (0 : Int) ((k : Int) - n + 1) = (lo : Int) := by omega
      have HLO := Lib.hid hlo1
      obtain HW := Lib.hid (show lsum ((xs.take (k + 1)).drop lo) = f k by rw [HF.out]; unfold fMS win; rw [hlo])
      have hlo2 : lo ≤ k := by omega
      have s1 : IntKind.i64.wrap ((k : Int) - n) = (k : Int) - n := IntWalk.i64_in _ (by omega)
      have s2 : IntKind.i64.wrap ((k : Int) - n + 1) = (k : Int) - n + 1 := IntWalk.i64_in _ (by omega)
      clear hx hcx hlo hlo1 hcx' hb
      go_wp2_with fail
      refine (mostF 0 _ _ _ HLO.out).mono ?_
      rintro e w4 ⟨rfl, rfl⟩
      clear s1 s2
      rename World => wo
      go_wp2
      go_loopw [8, 9] (fun s q wr => ∃ (j : Nat), lo ≤ j ∧ j ≤ k + 1 ∧ q = .int .i64 j ∧ s = .int .i64 (lsum ((xs.take j).drop lo)) ∧ wr = wo) (fun _ q _ => k + 1 - (intOf q).toNat)
      case atStart => exact ⟨lo, Nat.le_refl _, by omega, rfl, by rw [List.drop_of_length_le (by rw [List.length_take]; omega)]; rfl, rfl⟩
      case round =>
        obtain ⟨j, hj0, hj, rfl, rfl, rfl⟩ := hrel
        by_cases hjk : j ≤ k
        · obtain ⟨y, hy⟩ := get_of_lt (show j < xs.length by omega)
          obtain ⟨by1, by2⟩ := HX.out y (List.mem_of_getElem? hy)
          obtain ⟨b2, off2, e2, hb2, hcy⟩ := HC.out _ y hy
          simp only [Option.some.injEq, Addr.mk.injEq, and_true] at e2
          obtain ⟨rfl, rfl⟩ := e2
          have hcy' := cellOf hbl (by omega) hcy
          have HS := Lib.hid (show lsum ((xs.take j).drop lo) + y = lsum ((xs.take (j + 1)).drop lo) by rw [part_snoc hy hj0, lsum_snoc])
          have sb := lsum_bd 100000 (by omega) ((xs.take j).drop lo) (fun x h => HX.out x (List.mem_of_mem_take (List.mem_of_mem_drop h)))
          have sl : ((xs.take j).drop lo).length ≤ 24 := by rw [List.length_drop, List.length_take]; omega
          generalize ((xs.take j).drop lo).length = L at *
          generalize lsum ((xs.take j).drop lo) = s at *
          clear hy hcy
          have sb1 : -2400000 ≤ s ∧ s ≤ 2400000 := by omega
          obtain ⟨sb2, sb3⟩ := sb1
          clear sb sl
          go_wp2
          go_roundw
          case rel => exact ⟨j + 1, by omega, by omega, by go_num, by rw [HS.out], by trivial⟩
          case measure => simp [intOf]; omega
        · obtain rfl : j = k + 1 := by omega
          rw [HW.out]
          go_wp2_with (at_builtin; refine wpList_append_own _ rfl _ _ 43 rfl (w.heap.size) 3 ti (.int .i64 0) 1 8 Try.underlying43 hi hz0 hz1 hz2 rfl (by decide) _ k ((up f k).map (Value.int .i64)) rfl (hrow.alloc _) ⟨wr.heap.size, 0, none⟩ 1 1 [.int .i64 (f k)] rfl rfl (cell_one_new _ _ _) (by simp [Value.oneCell']) (by unfold maxLen; omega) (by omega) (by first | omega | (simp; done) | (simp; omega)) ?_; intro v3 w3 hown' hgrow _; have b3 := below_app2 hrow hgrow hsz (Nat.le_refl _))
          rw [up_cut] at hown'
          obtain ⟨a3, c3, rfl⟩ := row_form hown'
          clear hgrow hrow
          go_wp2
          go_roundw
          case rel => exact ⟨k + 1, by omega, by go_num, hown', hbl.trans b3⟩
          case measure => simp [intOf]; omega
end Go.Proofs.Ytklilfbokpljkaa
