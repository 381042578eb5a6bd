/- Integer filters: the specification's weighted sums. -/
import Derived.Test.YtklilfbokpljkaaFiA
import Derived.BigQuiet
import Derived.IntWalk
namespace Go.Proofs.Ytklilfbokpljkaa
open Go.ChangeShapes Go.WideShapes Go.ChangeAt Go.RowKit Go.ChangeMaps
set_option linter.unusedSimpArgs false
set_option linter.unusedVariables false

set_option maxRecDepth 100000 in
set_option maxHeartbeats 2000000 in
theorem specWg (xs : List Int) (v : Value) (ws : List Int) (u : Value) (w : World) (B : Nat) (h : Lst (Value.int .i64) w B v xs) (hu : Lst (Value.int .i64) w B u ws) (hB : B ≤ w.heap.size) (hn : xs.length ≤ 1048576) (hn2 : ws.length ≤ 1048576) :
    Calls Try.prog 53 #[v, u] w fun e w' => ∃ v', e = .returned (.tuple #[v', .bool (okWg xs ws)]) ∧ Own (Value.int .i64) w' w.heap.size w'.heap.size v' (resWg xs ws) ∧ Below w.heap.size w w' := by
  have hrow0 := row_empty w (base := w.heap.size) 3 1 (Nat.le_refl _)
  have hb0 : Below w.heap.size w (w.alloc (.cells #[] 3)) := (Below.refl _ _).alloc (Nat.le_refl _) _
  have h1 := h.below (hb0.mono hB)
  have hu1 := hu.below (hb0.mono hB)
  cases hk : okL xs with
  | false =>
    have e1 : okWg xs ws = false := by unfold okWg; rw [hk]; rfl
    have e2 : resWg xs ws = [] := by unfold resWg; rw [e1]; rfl
    have C := Lib.hid (l2SamplesB xs v _ B false h1 hk)
    rw [e1, e2]
    obtain ⟨ao, cap, rfl⟩ := h.form
    obtain ⟨au, cau, rfl⟩ := hu.form
    clear e1 e2 hk
    go_enter Try.func53, Try.ntmps53
    go_wp2_with fail
    refine C.out.mono ?_
    rintro e w1 ⟨rfl, rfl⟩
    go_wp2
    go_ret2
    exact ⟨_, rfl, own_empty _ _ (Nat.le_refl _), hb0⟩
  | true =>
  cases hkw : okWs ws with
  | false =>
    have e1 : okWg xs ws = false := by unfold okWg; rw [hkw, Bool.and_false]
    have e2 : resWg xs ws = [] := by unfold resWg; rw [e1]; rfl
    have C := Lib.hid (l2SamplesB xs v _ B true h1 hk)
    have C2 := Lib.hid (specWsB ws u _ B false hu1 hkw)
    rw [e1, e2]
    obtain ⟨ao, cap, rfl⟩ := h.form
    obtain ⟨au, cau, rfl⟩ := hu.form
    clear e1 e2 hk hkw
    go_enter Try.func53, Try.ntmps53
    go_wp2_with fail
    refine C.out.mono ?_
    rintro e w1 ⟨rfl, rfl⟩
    go_wp2_with fail
    refine C2.out.mono ?_
    rintro e w1 ⟨rfl, rfl⟩
    go_wp2
    go_ret2
    exact ⟨_, rfl, own_empty _ _ (Nat.le_refl _), hb0⟩
  | true =>
    obtain ⟨f, hf⟩ : ∃ f : Nat → Int, f = fWg xs ws := ⟨_, rfl⟩
    have e1 : okWg xs ws = true := by unfold okWg; rw [hkw, hk]; rfl
    have e2 : resWg xs ws = up f xs.length := by unfold resWg; rw [e1, hf]; rfl
    have C := Lib.hid (l2SamplesB xs v _ B true h1 hk)
    have C2 := Lib.hid (specWsB ws u _ B true hu1 hkw)
    obtain ⟨gx, gn⟩ := okL_yes hk
    obtain ⟨⟨gw1, gw2⟩, gw⟩ := okWs_yes hkw
    rw [e1, e2]
    obtain ⟨ti, hi, hz0, hz1, hz2⟩ := info_parts infoInt
    obtain ⟨ao, cap, rfl, hcap, hmax, hnn, hc⟩ := h
    obtain ⟨au, cau, rfl, hcau, hmau, hnu, hcu⟩ := hu
    unfold maxLen at hmax hmau
    have HF := Lib.hid hf
    have HX := Lib.hid gx
    have HW := Lib.hid gw
    have HC := Lib.hid hc
    have HU := Lib.hid hcu
    clear e1 e2 hk hkw gx gw hc hcu hnn hnu h1 hu1 hf
    go_enter Try.func53, Try.ntmps53
    go_wp2_with fail
    refine C.out.mono ?_
    rintro e w1 ⟨rfl, rfl⟩
    go_wp2_with fail
    refine C2.out.mono ?_
    rintro e w1 ⟨rfl, rfl⟩
    go_wp2
    go_loopw [6, 7] (fun o i wr => ∃ (k : Nat), k ≤ xs.length ∧ i = .int .i64 k ∧ wr.ownsRow w.heap.size 3 1 o k ((up f k).map (Value.int .i64)) ∧ Below w.heap.size w wr) (fun _ i _ => xs.length - (intOf i).toNat)
    case atStart => exact ⟨0, Nat.zero_le _, rfl, by simpa [up] using hrow0, hb0⟩
    case round =>
      obtain ⟨k, hk, rfl, hrow, hbl⟩ := hrel
      obtain ⟨aoo, capo, rfl⟩ := row_form hrow
      have hsz := hbl.size
      by_cases hlt : k < xs.length
      case neg =>
        obtain rfl : k = xs.length := by omega
        go_wp2
        go_ret2
        exact ⟨_, rfl, Own.of_row hrow, hbl⟩
      have HV := Lib.hid (show wsum ws xs k (min (k + 1) ws.length) = f k by rw [HF.out]; rfl)
      rename World => wo
      go_wp2
      go_loopw [8, 9] (fun s q wr => ∃ (j n : Nat), j ≤ ws.length ∧ j ≤ k + 1 ∧ q = .int .i64 j ∧ s = .int .i64 (wsum ws xs k j) ∧ wr = wo.drewN n) (fun _ q _ => ws.length - (intOf q).toNat)
      case atStart => exact ⟨0, 0, Nat.zero_le _, Nat.zero_le _, rfl, rfl, rfl⟩
      case round =>
        obtain ⟨j, nd, hj, hj2, rfl, rfl, rfl⟩ := hrel
        have sb := wsum_bd (W := 100) (X := 100000) (by omega) (by omega) HW.out HX.out k j
        have sb1 : -1000000000 ≤ wsum ws xs k j ∧ wsum ws xs k j ≤ 1000000000 := by omega
        obtain ⟨sb2, sb3⟩ := sb1
        clear sb
        by_cases hjk : j < ws.length ∧ j ≤ k
        · obtain ⟨hj3, hj4⟩ := hjk
          obtain ⟨p, hp⟩ : ∃ p, k - j = p := ⟨_, rfl⟩
          obtain ⟨x, hx⟩ := get_of_lt (show p < xs.length by omega)
          obtain ⟨y, hy⟩ := get_of_lt hj3
          obtain ⟨b, off, rfl, hb, hcx⟩ := HC.out _ x hx
          obtain ⟨b2, off2, rfl, hb2, hcy⟩ := HU.out _ y hy
          obtain ⟨bx1, bx2⟩ := HX.out x (List.mem_of_getElem? hx)
          obtain ⟨by1, by2⟩ := HW.out y (List.mem_of_getElem? hy)
          have hcx' := cellOf hbl (by omega) hcx
          have hcy' := cellOf hbl (by omega) hcy
          have HS := Lib.hid (show wsum ws xs k j + y * x = wsum ws xs k (j + 1) by simp only [wsum]; rw [get_getD hy, hp, get_getD hx])
          generalize wsum ws xs k j = s at *
          have mb := mul_bd (a := y) (b := x) (A := 100) (B := 100000) (by omega) (by omega) ⟨by1, by2⟩ ⟨bx1, bx2⟩
          obtain ⟨z, hz⟩ : ∃ z, y * x = z := ⟨_, rfl⟩
          rw [hz] at HS mb
          have s1 : IntKind.i64.wrap (y * x) = z := by rw [hz]; exact IntWalk.i64_in _ (by omega)
          have s2 : IntKind.i64.wrap (s + z) = s + z := IntWalk.i64_in _ (by omega)
          have s3 : IntKind.i64.wrap ((k : Int) - (j : Int)) = (p : Int) := by rw [IntWalk.i64_in _ (by omega)]; omega
          have i0 : (0 : Int) ≤ (j : Int) := by omega
          have i1 : (j : Int) < (ws.length : Int) := by omega
          have i2 : (0 : Int) ≤ (p : Int) := by omega
          have i3 : (p : Int) < (xs.length : Int) := by omega
          have i4 : (j : Int) ≤ (k : Int) := by omega
          clear hx hy hcx hcy hp hz mb
          go_wp2
          go_quiet (fail)
          clear s1 s2 s3
          go_wp2
          go_roundw
          case rel => exact ⟨j + 1, nd + nq, by omega, by omega, by go_num, by rw [HS.out], by rfl⟩
          case measure => simp [intOf]; omega
        · have HJ := Lib.hid (show j = min (k + 1) ws.length by omega)
          rw [HJ.out, HV.out]
          have HB := Lib.hid (drewN_b hbl nd)
          have HR := Lib.hid (row_drewN hrow nd)
          by_cases hj3 : j < ws.length
          · have hj4 : (k : Int) < (j : Int) := by omega
            generalize wo.drewN nd = wq at *
            have hrow := HR.out
            have hbl := HB.out
            have hsz := hbl.size
            clear HR HB HJ
            go_wp2_with (at_builtin; refine wpList_append_own _ rfl _ _ 43 rfl (w.heap.size) 3 ti (.int .i64 0) 1 8 Try.underlying43 hi hz0 hz1 hz2 rfl (by decide) _ k ((up f k).map (Value.int .i64)) rfl (hrow.alloc _) ⟨wq.heap.size, 0, none⟩ 1 1 [.int .i64 (f k)] rfl rfl (cell_one_new _ _ _) (by simp [Value.oneCell']) (by unfold maxLen; omega) (by omega) (by first | omega | (simp; done) | (simp; omega)) ?_; intro v3 w3 hown' hgrow _; have b3 := below_app2 hrow hgrow hsz (Nat.le_refl _))
            rw [up_cut] at hown'
            obtain ⟨a3, c3, rfl⟩ := row_form hown'
            clear hgrow hrow
            go_wp2
            go_roundw
            case rel => exact ⟨k + 1, by omega, by go_num, hown', hbl.trans b3⟩
            case measure => simp [intOf]; omega
          · generalize wo.drewN nd = wq at *
            have hrow := HR.out
            have hbl := HB.out
            have hsz := hbl.size
            clear HR HB HJ
            go_wp2_with (at_builtin; refine wpList_append_own _ rfl _ _ 43 rfl (w.heap.size) 3 ti (.int .i64 0) 1 8 Try.underlying43 hi hz0 hz1 hz2 rfl (by decide) _ k ((up f k).map (Value.int .i64)) rfl (hrow.alloc _) ⟨wq.heap.size, 0, none⟩ 1 1 [.int .i64 (f k)] rfl rfl (cell_one_new _ _ _) (by simp [Value.oneCell']) (by unfold maxLen; omega) (by omega) (by first | omega | (simp; done) | (simp; omega)) ?_; intro v3 w3 hown' hgrow _; have b3 := below_app2 hrow hgrow hsz (Nat.le_refl _))
            rw [up_cut] at hown'
            obtain ⟨a3, c3, rfl⟩ := row_form hown'
            clear hgrow hrow
            go_wp2
            go_roundw
            case rel => exact ⟨k + 1, by omega, by go_num, hown', hbl.trans b3⟩
            case measure => simp [intOf]; omega
end Go.Proofs.Ytklilfbokpljkaa
