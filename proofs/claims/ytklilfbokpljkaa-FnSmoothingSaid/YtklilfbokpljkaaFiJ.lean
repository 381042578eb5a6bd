/- Integer filters: the specification's medians. -/
import Derived.Test.YtklilfbokpljkaaFiA
import Derived.BigQuiet
import Derived.IntWalk
import Derived.Test.YtklilfbokpljkaaFiI
namespace Go.Proofs.Ytklilfbokpljkaa
open Go.ChangeShapes Go.WideShapes Go.ChangeAt Go.RowKit Go.ChangeMaps
set_option linter.unusedSimpArgs false
set_option linter.unusedVariables false

theorem win_part (xs : List Int) (b a i : Nat) : win xs b a i = (xs.drop (i - b)).take (min xs.length (i + a + 1) - (i - b)) := by
  unfold win
  rw [List.drop_take]
  rcases Nat.le_total xs.length (i + a + 1) with h | h
  · rw [Nat.min_eq_left h, List.take_of_length_le (by rw [List.length_drop]; omega), List.take_of_length_le (by rw [List.length_drop]; omega)]
  · rw [Nat.min_eq_right h]

set_option maxRecDepth 100000 in
set_option maxHeartbeats 2000000 in
theorem specMed (xs : List Int) (v : Value) (n : Int) (w : World) (B : Nat) (h : Lst (Value.int .i64) w B v xs) (hB : B ≤ w.heap.size) (hn : xs.length ≤ 1048576) (_ : I64 n) :
    Calls Try.prog 43 #[v, .int .i64 n] w fun e w' => ∃ v', e = .returned (.tuple #[v', .bool (okA xs n 0 3)]) ∧ Own (Value.int .i64) w' w.heap.size w'.heap.size v' (resMed xs n) ∧ Below w.heap.size w w' := by
  have hrow0 := row_empty w (base := w.heap.size) 3 1 (Nat.le_refl _)
  have hb0 : Below w.heap.size w (w.alloc (.cells #[] 3)) := (Below.refl _ _).alloc (Nat.le_refl _) _
  have h1 := h.below (hb0.mono hB)
  cases hk : okA xs n 0 3 with
  | false =>
    have e2 : resMed xs n = [] := by unfold resMed; rw [hk]; rfl
    have C := Lib.hid (specAskB xs v n 0 3 _ B false h1 hk)
    rw [e2]
    obtain ⟨ao, cap, rfl⟩ := h.form
    clear e2 hk
    go_enter Try.func43, Try.ntmps43
    go_wp2_with fail
    refine C.out.mono ?_
    rintro e w1 ⟨rfl, rfl⟩
    go_wp2
    go_ret2
    exact ⟨_, rfl, own_empty _ _ (Nat.le_refl _), hb0⟩
  | true =>
    obtain ⟨f, hf⟩ : ∃ f : Nat → Int, f = fMed xs n.toNat := ⟨_, rfl⟩
    have e2 : resMed xs n = up f (xs.length) := by unfold resMed; rw [hk, hf]; rfl
    have C := Lib.hid (specAskB xs v n 0 3 _ B true h1 hk)
    obtain ⟨gl, gr⟩ := okA_yes hk
    obtain ⟨n1, n2⟩ := inR_yes gr
    obtain ⟨gx, gn⟩ := okL_yes gl
    rw [e2]
    obtain ⟨ti, hi, hz0, hz1, hz2⟩ := info_parts infoInt
    have HL := Lib.hid h
    obtain ⟨ao, cap, rfl, hcap, hmax, hnn, hc⟩ := h
    unfold maxLen at hmax
    have HF := Lib.hid hf
    have HX := Lib.hid gx
    have HC := Lib.hid hc
    clear e2 hk gl gr gx hc hnn h1 hf
    go_enter Try.func43, Try.ntmps43
    go_wp2_with fail
    refine C.out.mono ?_
    rintro e w1 ⟨rfl, rfl⟩
    go_wp2
    go_loopw [6, 7] (fun o i wr => ∃ (k : Nat), k ≤ xs.length ∧ i = .int .i64 k ∧ wr.ownsRow w.heap.size 3 1 o k ((up f k).map (Value.int .i64)) ∧ Below w.heap.size w wr) (fun _ i _ => xs.length - (intOf i).toNat)
    case atStart => exact ⟨0, Nat.zero_le _, rfl, by simpa [up] using hrow0, hb0⟩
    case round =>
      obtain ⟨k, hk, rfl, hrow, hbl⟩ := hrel
      obtain ⟨aoo, capo, rfl⟩ := row_form hrow
      have hsz := hbl.size
      by_cases hlt : k < xs.length
      case neg =>
        obtain rfl : k = xs.length := by omega
        go_wp2
        go_ret2
        exact ⟨_, rfl, Own.of_row hrow, hbl⟩
      obtain ⟨x, hx⟩ := get_of_lt hlt
      obtain ⟨bx1, bx2⟩ := HX.out x (List.mem_of_getElem? hx)
      obtain ⟨b, off, rfl, hb, hcx⟩ := HC.out k x hx
      have hcx' := cellOf hbl (by omega) hcx

      obtain ⟨r, hr⟩ : ∃ r : Nat, (r : Int) = n := ⟨n.toNat, by omega⟩
      have hr0 : n.toNat = r := by omega
      obtain ⟨lo, hlo⟩ : ∃ lo : Nat, k - r = lo := ⟨_, rfl⟩
      obtain ⟨hh, hhh⟩ : ∃ hh : Nat, min xs.length (k + r + 1) = hh := ⟨_, rfl⟩
      have HLO := Lib.hid (show max (0 : Int) ((k : Int) - n) = (lo : Int) by omega)
      have HHH := Lib.hid (show min (xs.length : Int) ((k : Int) + n + 1) = (hh : Int) by omega)
      have hwin := win_part xs r r k
      rw [hlo, hhh] at hwin
      have hwl : (win xs r r k).length = hh - lo := by rw [hwin, List.length_take, List.length_drop]; omega
      have HE := Lib.hid (show mid (win xs r r k) = f k by rw [HF.out]; unfold fMed; rw [hr0])
      have LW := (HL.out.below (hbl.mono hB)).sub lo hh (by omega) (by omega)
      rw [← hwin] at LW
      generalize win xs r r k = W at *
      have hl1 : lo ≤ hh := by omega
      have hl2 : hh ≤ xs.length := by omega
      have hl3 : lo < hh := by omega
      have hl4 : ¬ cap = lo := by omega
      have s1 : IntKind.i64.wrap ((k : Int) - n) = (k : Int) - n := IntWalk.i64_in _ (by omega)
      obtain ⟨m, hm⟩ : ∃ m, (W.length - 1) / 2 = m := ⟨_, rfl⟩
      have hm1 : m < W.length := by omega
      have hmg := mid_get (l := W) (by omega)
      rw [hm] at hmg
      have C2 := Lib.hid (specSrt W _ wr B LW (by omega) (by omega))
      rw [HE.out] at hmg
      have HMG := Lib.hid hmg
      have HSL := Lib.hid (srt_len W)
      have hL : (W.length : Int) = (hh : Int) - (lo : Int) := by omega
      have HWL := Lib.hid hwl
      have HMM := Lib.hid hm
      clear hx hcx hlo hhh hwin hmg hm hwl LW hcx' hr hr0
      go_wp2_with fail
      refine (mostF 0 _ _ _ HLO.out).mono ?_
      rintro e w4 ⟨rfl, rfl⟩
      clear s1
      go_wp2_with fail
      refine (leastF _ _ _ _ HHH.out).mono ?_
      rintro e w4 ⟨rfl, rfl⟩
      go_wp2_with fail
      refine C2.out.mono ?_
      rintro e w5 ⟨v5, rfl, ho5, hb5⟩
      rw [HE.out] at HE
      have hrow5 := row_below hrow hb5
      have bl5 := hbl.trans (hb5.mono hsz)
      have sz5 := bl5.size
      obtain ⟨a5, c5, rfl, hc51, hc52, -, ho⟩ := ho5
      unfold maxLen at hc52
      obtain ⟨b6, o6, rfl, -, -, hc6, -⟩ := ho m (f k) HMG.out
      rw [HSL.out] at *
      have d1 : ((W.length : Int) - 1).tdiv 2 = (m : Int) := by
        rw [Int.tdiv_eq_ediv_of_nonneg (by omega), ← HMM.out]; omega
      have i0 : (0 : Int) ≤ (m : Int) := by omega
      have i1 : (m : Int) < (W.length : Int) := by omega
      clear hrow ho
      rename World.ownsRow _ _ _ _ _ _ _ => hrow
      clear hL
      go_wp2_with (at_builtin; refine wpList_append_own _ rfl _ _ 43 rfl (w.heap.size) 3 ti (.int .i64 0) 1 8 Try.underlying43 hi hz0 hz1 hz2 rfl (by decide) _ k ((up f k).map (Value.int .i64)) rfl (hrow.alloc _) ⟨w5.heap.size, 0, none⟩ 1 1 [.int .i64 (f k)] rfl rfl (cell_one_new _ _ _) (by simp [Value.oneCell']) (by unfold maxLen; omega) (by omega) (by first | omega | (simp; done) | (simp; omega)) ?_; intro v3 w3 hown' hgrow _; have b3 := below_app2 hrow hgrow sz5 (Nat.le_refl _))
      rw [up_cut] at hown'
      obtain ⟨a3, c3, rfl⟩ := row_form hown'
      clear hgrow hrow
      go_wp2
      go_roundw
      case rel => exact ⟨k + 1, by omega, by go_num, hown', bl5.trans b3⟩
      case measure => simp [intOf]; omega
end Go.Proofs.Ytklilfbokpljkaa
