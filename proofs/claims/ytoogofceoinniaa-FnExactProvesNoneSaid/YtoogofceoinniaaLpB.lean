/- Location by boxes: the parts of a cube, by the program. -/
import Derived.Test.YtoogofceoinniaaLpA
import Derived.Test.YtoogofceoinniaaLoC
namespace Go.Proofs.Ytoogofceoinniaa
open Go.ChangeShapes Go.WideShapes Go.ChangeAt Go.RowKit Go.ChangeMaps Go.Sort
set_option linter.unusedSimpArgs false
set_option linter.unusedVariables false
set_option linter.unusedSimpArgs false
set_option linter.unusedVariables false

theorem part_place {b : GCube} (h : okCb b) (h1 : b.pSide ≠ 1) {k : Nat} (hk : k < 4) {x y hf : Int} (hp : partC b k = ⟨x, y, hf, b.pFrom, b.pTo⟩) : plcB x y = onMap (partC b k) := by
  have e1 : x = (partC b k).pWest := by rw [hp]
  have e2 : y = (partC b k).pSouth := by rw [hp]
  obtain ⟨_, m1, m2⟩ := part_nums h h1 hk rfl
  have p := h.2.1
  have w : (partC b k).pWest = b.pWest + ((k / 2 : Nat) : Int) * (b.pSide / 2) := rfl
  have s : (partC b k).pSouth = b.pSouth + ((k % 2 : Nat) : Int) * (b.pSide / 2) := rfl
  rw [e1, e2, Bool.eq_iff_iff, plcB_iff]
  unfold onMap
  rw [decide_eq_true_eq, w, s]
  omega
set_option maxRecDepth 100000 in
set_option maxHeartbeats 16000000 in
theorem implSplit (b : GCube) (w : World) (hb : okCb b) (h1 : b.pSide ≠ 1) :
    Calls Try.prog 62 #[aggCb b] w fun e w' => ∃ v', e = .returned v' ∧ CubeO w' w.heap.size w'.heap.size v' (splitV b) ∧ Below w.heap.size w w' := by
  obtain ⟨W0, hW0⟩ : ∃ W0, w.alloc (objCb b) = W0 := ⟨_, rfl⟩
  have N0 : Below w.heap.size w W0 := hW0 ▸ (Below.refl w.heap.size w).alloc (Nat.le_refl _) _
  have bB : Bx W0 w.heap.size [.int .i64 b.pWest, .int .i64 b.pSouth, .int .i64 b.pSide, .int .i64 b.pFrom, .int .i64 b.pTo] := hW0 ▸ Bx.new w [.int .i64 b.pWest, .int .i64 b.pSouth, .int .i64 b.pSide, .int .i64 b.pFrom, .int .i64 b.pTo] 25
  have z0 := N0.size
  have hrow0 := rowK_empty W0 (base := W0.heap.size) 25 5 (Nat.le_refl _)
  have B0 := (Below.refl W0.heap.size W0).alloc (Nat.le_refl _) (.cells #[] 25)
  have sb := okSide_bd hb.1
  obtain ⟨hf, hhf⟩ : ∃ hf, b.pSide / 2 = hf := ⟨_, rfl⟩
  have HPL := Lib.hid (fun k (hk : k < 4) x y (hp : partC b k = ⟨x, y, hf, b.pFrom, b.pTo⟩) => part_place hb h1 hk hp)
  have HH := Lib.hid hhf
  have d0 : b.pSide.tdiv 2 = hf := by rw [Int.tdiv_eq_ediv_of_nonneg (by omega)]; exact hhf
  have hfb : 0 ≤ hf ∧ hf ≤ 256 := by omega
  obtain ⟨hf0, hf1⟩ := hfb
  obtain ⟨⟨w0, w9⟩, ⟨s0, s9⟩⟩ := hb.2.1
  have d1 : IntKind.i64.wrap hf = hf := IntWalk.i64_in _ (by omega)
  have d2 : wrap64 hf = hf := by unfold wrap64; omega
  obtain ⟨ti, hti, hz0, hz1, hz2⟩ := info_parts info_Cube
  have b0 := bB.2 0 _ rfl
  have b1 := bB.2 1 _ rfl
  have b2 := bB.2 2 _ rfl
  have b3 := bB.2 3 _ rfl
  have b4 := bB.2 4 _ rfl
  have bB0 := bB.below B0
  have d0' := bB0.2 0 _ rfl
  have d1' := bB0.2 1 _ rfl
  have ix0 : ∀ w, (Instr.index 117 (.agg #[.int .i64 b.pWest, .int .i64 (b.pWest + hf)]) (.int .i64 0)).run Try.prog w = .ok (.int .i64 b.pWest) w := fun _ => by kernel_rfl
  have ix1 : ∀ w, (Instr.index 117 (.agg #[.int .i64 b.pWest, .int .i64 (b.pWest + hf)]) (.int .i64 1)).run Try.prog w = .ok (.int .i64 (b.pWest + hf)) w := fun _ => by kernel_rfl
  have iy0 : ∀ w, (Instr.index 117 (.agg #[.int .i64 b.pSouth, .int .i64 (b.pSouth + hf)]) (.int .i64 0)).run Try.prog w = .ok (.int .i64 b.pSouth) w := fun _ => by kernel_rfl
  have iy1 : ∀ w, (Instr.index 117 (.agg #[.int .i64 b.pSouth, .int .i64 (b.pSouth + hf)]) (.int .i64 1)).run Try.prog w = .ok (.int .i64 (b.pSouth + hf)) w := fun _ => by kernel_rfl
  clear hhf
  go_enter Try.func62, Try.ntmps62
  go_wp2
  go_loopw [4, 20] (fun q iv wr => ∃ (i n : Nat) (v : Value) (il : List GCube), i ≤ 2 ∧ iv = .int .i64 i ∧ q = v ∧ n ≤ 2 * i ∧ Hid (il = firstP b (2 * i)) ∧ wr.ownsRow W0.heap.size 25 5 v n (il.flatMap encCube) ∧ (∃ ao cap, v = .slice ao n cap) ∧ Below W0.heap.size W0 wr)
    (fun _ iv _ => 2 - (intOf iv).toNat)
  case atStart => exact ⟨0, 0, _, [], Nat.zero_le _, rfl, rfl, Nat.le_refl _, Lib.hid rfl, hrow0, ⟨_, _, rfl⟩, B0⟩
  case round =>
    clear hrow0 B0 b0 b1 b2 b3 b4 bB0 d0' d1' hW0
    obtain ⟨i, n, _, il, hi, rfl, rfl, hni, HIL, hrow, ⟨oa, oc, rfl⟩, hbl⟩ := hrel
    have hsz := hbl.size
    have bB1 := bB.below hbl
    have b0 := bB1.2 0 _ rfl
    have b1 := bB1.2 1 _ rfl
    have b2 := bB1.2 2 _ rfl
    have b3 := bB1.2 3 _ rfl
    have b4 := bB1.2 4 _ rfl
    by_cases hlt : i < 2
    case neg =>
      obtain rfl : i = 2 := by omega
      have HE : Hid (il = splitV b) := Lib.hid (by rw [HIL.out]; exact firstP_all b)
      go_wp2
      go_ret
      refine ⟨_, rfl, ?_, N0.trans (hbl.mono z0)⟩
      rw [← HE.out]
      exact (OwnK.of_row encCube_len (by omega) hrow).mono z0 (Nat.le_refl _)
    obtain ⟨x, hix, hxp⟩ : ∃ x : Int, (∀ w, (Instr.index 117 (.agg #[.int .i64 b.pWest, .int .i64 (b.pWest + hf)]) (.int .i64 (i : Int))).run Try.prog w = .ok (.int .i64 x) w) ∧ ∀ j, j < 2 → (partC b (2 * i + j)).pWest = x := by
      rcases (show i = 0 ∨ i = 1 by omega) with rfl | rfl
      · refine ⟨b.pWest, ix0, fun j hj => ?_⟩
        show b.pWest + (((2 * 0 + j) / 2 : Nat) : Int) * (b.pSide / 2) = b.pWest
        rw [show (2 * 0 + j) / 2 = 0 by omega]
        simp
      · refine ⟨b.pWest + hf, ix1, fun j hj => ?_⟩
        show b.pWest + (((2 * 1 + j) / 2 : Nat) : Int) * (b.pSide / 2) = b.pWest + hf
        rw [show (2 * 1 + j) / 2 = 1 by omega, HH.out]
        simp
    have HXP := Lib.hid hxp
    have hi0 : (0 : Int) ≤ (i : Int) := by omega
    have hi1 : (i : Int) < 2 := by omega
    clear hxp ix0 ix1
    go_wp2
    go_loopw [4, 30] (fun q jv wr => ∃ (j n : Nat) (v : Value) (il : List GCube), j ≤ 2 ∧ jv = .int .i64 j ∧ q = v ∧ n ≤ 2 * i + j ∧ Hid (il = firstP b (2 * i + j)) ∧ wr.ownsRow W0.heap.size 25 5 v n (il.flatMap encCube) ∧ (∃ ao cap, v = .slice ao n cap) ∧ Below W0.heap.size W0 wr)
      (fun _ jv _ => 2 - (intOf jv).toNat)
    case atStart => exact ⟨0, n, _, il, Nat.zero_le _, rfl, rfl, by omega, HIL, hrow, ⟨_, _, rfl⟩, hbl⟩
    case round =>
      clear hrow bB1 b0 b1 b2 b3 b4 hsz hbl HIL hni
      obtain ⟨j, n, _, il, hj, rfl, rfl, hnj, HIL, hrow, ⟨oa, oc, rfl⟩, hbl⟩ := hrel
      have hsz := hbl.size
      have bB1 := bB.below hbl
      have b0 := bB1.2 0 _ rfl
      have b1 := bB1.2 1 _ rfl
      have b2 := bB1.2 2 _ rfl
      have b3 := bB1.2 3 _ rfl
      have b4 := bB1.2 4 _ rfl
      by_cases hlj : j < 2
      case neg =>
        obtain rfl : j = 2 := by omega
        have HIL2 : Hid (il = firstP b (2 * (i + 1))) := Lib.hid (by rw [HIL.out]; rfl)
        go_wp2
        go_roundw
        case rel => exact ⟨i + 1, n, _, il, by omega, by go_num, rfl, by omega, HIL2, hrow, ⟨_, _, rfl⟩, hbl⟩
        case measure => simp [intOf]; omega
      obtain ⟨y, hiy, hyp⟩ : ∃ y : Int, (∀ w, (Instr.index 117 (.agg #[.int .i64 b.pSouth, .int .i64 (b.pSouth + hf)]) (.int .i64 (j : Int))).run Try.prog w = .ok (.int .i64 y) w) ∧ (partC b (2 * i + j)).pSouth = y := by
        rcases (show j = 0 ∨ j = 1 by omega) with rfl | rfl
        · refine ⟨b.pSouth, iy0, ?_⟩
          show b.pSouth + (((2 * i + 0) % 2 : Nat) : Int) * (b.pSide / 2) = b.pSouth
          rw [show (2 * i + 0) % 2 = 0 by omega]
          simp
        · refine ⟨b.pSouth + hf, iy1, ?_⟩
          show b.pSouth + (((2 * i + 1) % 2 : Nat) : Int) * (b.pSide / 2) = b.pSouth + hf
          rw [show (2 * i + 1) % 2 = 1 by omega, HH.out]
          simp
      have HP : Hid (partC b (2 * i + j) = ⟨x, y, hf, b.pFrom, b.pTo⟩) := Lib.hid (cube_ext (HXP.out j hlj) hyp HH.out rfl rfl)
      have hj0 : (0 : Int) ≤ (j : Int) := by omega
      have hj1 : (j : Int) < 2 := by omega
      have k4 : 2 * i + j < 4 := by omega
      obtain ⟨k, hk⟩ : ∃ k, 2 * i + j = k := ⟨_, rfl⟩
      rw [hk] at HP HIL k4 hnj
      have HK := Lib.hid hk
      clear iy0 iy1 hyp hk
      cases hok : onMap (partC b k) with
      | false =>
        have CG := Lib.hid (fun W => implPlace x y false W (by rw [HPL.out k k4 _ _ HP.out, hok]))
        have HIL2 : Hid (il = firstP b (2 * i + (j + 1))) := Lib.hid (by rw [show 2 * i + (j + 1) = k + 1 by have := HK.out; omega, firstP_no hok, HIL.out])
        clear hok
        go_wp2_with fail
        refine (CG.out _).mono ?_
        rintro e w6 ⟨rfl, q6⟩
        subst q6
        go_wp2
        go_roundw
        case rel => exact ⟨j + 1, n, _, il, by omega, by go_num, rfl, by have := HK.out; omega, HIL2, hrow, ⟨_, _, rfl⟩, hbl⟩
        case measure => simp [intOf]; omega
      | true =>
        have CG := Lib.hid (fun W => implPlace x y true W (by rw [HPL.out k k4 _ _ HP.out, hok]))
        have HIL2 : Hid (il ++ [(⟨x, y, hf, b.pFrom, b.pTo⟩ : GCube)] = firstP b (2 * i + (j + 1))) := Lib.hid (by rw [show 2 * i + (j + 1) = k + 1 by have := HK.out; omega, firstP_yes hok, HIL.out, HP.out])
        clear hok
        go_wp2_with fail
        refine (CG.out _).mono ?_
        rintro e w6 ⟨rfl, q6⟩
        subst q6
        have HSRC := Lib.hid (srcK_box (Bx.new wr (encCube ⟨x, y, hf, b.pFrom, b.pTo⟩) 25) (oneCellCb ⟨x, y, hf, b.pFrom, b.pTo⟩))
        go_wp2_with (at_builtin; refine wpList_append_srcK _ rfl _ _ 39 rfl W0.heap.size 25 ti (.agg #[.int .i64 0, .int .i64 0, .int .i64 0, .int .i64 0, .int .i64 0]) 5 40 Try.underlying39 hti hz0 hz1 hz2 rfl (by decide) _ n (il.flatMap encCube) rfl (hrow.alloc _) _ 1 (encCube ⟨x, y, hf, b.pFrom, b.pTo⟩) rfl HSRC.out (by unfold maxLen; omega) (by omega) (by first | omega | (simp; done) | (simp; omega)) ?_; intro v8 w8 hown' hgrow _; have b8 := below_app2 hrow hgrow hsz (Nat.le_refl _))
        have hrow3 : w8.ownsRow W0.heap.size 25 5 v8 (n + 1) ((il ++ [(⟨x, y, hf, b.pFrom, b.pTo⟩ : GCube)]).flatMap encCube) := by simpa using hown'
        obtain ⟨a3, cp3, rfl⟩ := row_form hrow3
        have HR3 := Lib.hid hrow3
        clear hgrow hrow hown' HSRC hrow3
        go_wp2
        go_roundw
        case rel => exact ⟨j + 1, n + 1, _, il ++ [(⟨x, y, hf, b.pFrom, b.pTo⟩ : GCube)], by omega, by go_num, rfl, by have := HK.out; omega, HIL2, HR3.out, ⟨_, _, rfl⟩, hbl.trans b8⟩
        case measure => simp [intOf]; omega
set_option maxRecDepth 100000 in
set_option maxHeartbeats 2000000 in
theorem implSp (b : GCube) (v : Value) (w : World) (B : Nat) (h : CubeVL w B v b) (hB : B ≤ w.heap.size) (_ : sz1Cube b ≤ 1048576) (hw : wfCube b) :
    Calls Try.prog 24 #[v] w fun e w' => ∃ v', e = .returned (.tuple #[v', .bool (okSp b)]) ∧ CubeO w' w.heap.size w'.heap.size v' (resSp b) ∧ Below w.heap.size w w' := by
  obtain rfl := h.form
  clear h
  have N1 := (Below.refl w.heap.size w).alloc (Nat.le_refl _) (objCb b)
  have bB := Bx.new w [.int .i64 b.pWest, .int .i64 b.pSouth, .int .i64 b.pSide, .int .i64 b.pFrom, .int .i64 b.pTo] 25
  cases h1 : goodCb b with
  | false =>
    have C1 := Lib.hid (fun W => implGoodCb b false W h1)
    have e : okSp b = false := by unfold okSp; rw [h1]; rfl
    rw [e, resSp_no e]
    clear h1 e bB
    go_enter Try.func24, Try.ntmps24
    go_wp2_with fail
    refine (C1.out _).mono ?_
    rintro e w1 ⟨rfl, hb⟩
    have N2 := N1.trans (hb.mono N1.size)
    go_wp2
    go_ret2
    exact ⟨_, rfl, ownK_empty encCube_len (by omega) _ 25 N2.size, N2.alloc N2.size _⟩
  | true =>
  have C1 := Lib.hid (fun W => implGoodCb b true W h1)
  have sb := okSide_bd (goodCb_yes h1).1
  by_cases h2 : b.pSide = 1
  case pos =>
    have e : okSp b = false := by unfold okSp; rw [decide_eq_false (by simpa using h2)]; exact Bool.and_false _
    rw [e, resSp_no e]
    have H2 := Lib.hid h2
    clear h1 e h2 sb
    go_enter Try.func24, Try.ntmps24
    go_wp2_with fail
    refine (C1.out _).mono ?_
    rintro e w1 ⟨rfl, hb⟩
    have N2 := N1.trans (hb.mono N1.size)
    have bB1 := bB.below hb
    have a2 := bB1.2 2 _ rfl
    rw [H2.out] at a2
    clear bB hb
    go_wp2
    go_ret2
    exact ⟨_, rfl, ownK_empty encCube_len (by omega) _ 25 N2.size, N2.alloc N2.size _⟩
  have e : okSp b = true := by unfold okSp; rw [h1, decide_eq_true h2]; rfl
  have C2 := Lib.hid (fun W => implSplit b W (goodCb_yes h1) h2)
  rw [e, resSp_yes e]
  clear h1 e
  go_enter Try.func24, Try.ntmps24
  go_wp2_with fail
  refine (C1.out _).mono ?_
  rintro e w1 ⟨rfl, hb⟩
  have N2 := N1.trans (hb.mono N1.size)
  have bB1 := bB.below hb
  clear hb bB
  have a0 := bB1.2 0 _ rfl
  have a1 := bB1.2 1 _ rfl
  have a2 := bB1.2 2 _ rfl
  have a3 := bB1.2 3 _ rfl
  have a4 := bB1.2 4 _ rfl
  clear bB1
  go_wp2_with fail
  refine (C2.out _).mono ?_
  rintro e w2 ⟨v2, rfl, hown, hb⟩
  have N3 := N2.trans (hb.mono N2.size)
  obtain ⟨ao, cap, rfl⟩ := hown.form
  go_wp2
  go_ret2
  exact ⟨_, rfl, hown.mono N2.size (Nat.le_refl _), N3⟩
end Go.Proofs.Ytoogofceoinniaa
