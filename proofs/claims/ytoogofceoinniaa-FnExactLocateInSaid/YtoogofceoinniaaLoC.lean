/- Location by boxes: the specification's parts, and all possible small cubes. -/
import Derived.Test.YtoogofceoinniaaLoB
import Derived.Test.YtoogofceoinniaaIns
import Derived.Test.YtoogofceoinniaaVoI
namespace Go.Proofs.Ytoogofceoinniaa
open Go.ChangeShapes Go.WideShapes Go.ChangeAt Go.RowKit Go.ChangeMaps Go.Sort
set_option linter.unusedSimpArgs false
set_option linter.unusedVariables false
set_option linter.unusedSimpArgs false
set_option linter.unusedVariables false

theorem oneCellCb (b : GCube) : ∀ u ∈ encCube b, u.oneCell' = true := fun u hu => oneCube [b] u (by simpa using hu)
/-- The first parts of a cube. -/
def firstP (b : GCube) (k : Nat) : List GCube := ((List.range k).map (partC b)).filter onMap
theorem firstP_succ (b : GCube) (k : Nat) : firstP b (k + 1) = if onMap (partC b k) then firstP b k ++ [partC b k] else firstP b k := by
  unfold firstP
  rw [List.range_succ, List.map_append, List.filter_append]
  simp only [List.map_cons, List.map_nil]
  cases h : onMap (partC b k) <;> simp [h]
theorem firstP_yes {b : GCube} {k : Nat} (h : onMap (partC b k) = true) : firstP b (k + 1) = firstP b k ++ [partC b k] := by rw [firstP_succ, h]; rfl
theorem firstP_no {b : GCube} {k : Nat} (h : onMap (partC b k) = false) : firstP b (k + 1) = firstP b k := by rw [firstP_succ, h]; rfl
theorem firstP_all (b : GCube) : firstP b 4 = splitV b := rfl
theorem firstP_len (b : GCube) (k : Nat) : (firstP b k).length ≤ k := by
  unfold firstP
  refine Nat.le_trans (List.length_filter_le _ _) ?_
  rw [List.length_map, List.length_range]
  exact Nat.le_refl _
/-- A part's numbers. -/
theorem part_nums {b : GCube} (h : okCb b) (h1 : b.pSide ≠ 1) {k : Nat} (hk : k < 4) {hf : Int} (hh : b.pSide / 2 = hf) : (1 ≤ hf ∧ hf ≤ 256) ∧ (0 ≤ ((k / 2 : Nat) : Int) * hf ∧ ((k / 2 : Nat) : Int) * hf ≤ 256) ∧ (0 ≤ ((k % 2 : Nat) : Int) * hf ∧ ((k % 2 : Nat) : Int) * hf ≤ 256) := by
  obtain ⟨hs, e⟩ := half_side h.1 h1
  have a := okSide_bd hs
  have b := okSide_bd h.1
  rw [hh] at a e
  have : k = 0 ∨ k = 1 ∨ k = 2 ∨ k = 3 := by omega
  rcases this with rfl | rfl | rfl | rfl <;> simp <;> omega
theorem part_good {b : GCube} (h : okCb b) (h1 : b.pSide ≠ 1) {k : Nat} (hk : k < 4) : goodCb (partC b k) = onMap (partC b k) := by
  cases ho : onMap (partC b k) with
  | true => exact goodCb_mk ((part_ok h h1 hk).2 ho)
  | false => exact goodCb_no (fun g => by rw [(part_ok h h1 hk).1 g] at ho; cases ho)
set_option maxRecDepth 100000 in
set_option maxHeartbeats 8000000 in
theorem specSplit (b : GCube) (w : World) (hb : okCb b) (h1 : b.pSide ≠ 1) :
    Calls Try.prog 61 #[aggCb b] w fun e w' => ∃ v', e = .returned v' ∧ CubeO w' w.heap.size w'.heap.size v' (splitV b) ∧ Below w.heap.size w w' := by
  obtain ⟨W0, hW0⟩ : ∃ W0, w.alloc (objCb b) = W0 := ⟨_, rfl⟩
  have N0 : Below w.heap.size w W0 := hW0 ▸ (Below.refl w.heap.size w).alloc (Nat.le_refl _) _
  have bB : Bx W0 w.heap.size [.int .i64 b.pWest, .int .i64 b.pSouth, .int .i64 b.pSide, .int .i64 b.pFrom, .int .i64 b.pTo] := hW0 ▸ Bx.new w [.int .i64 b.pWest, .int .i64 b.pSouth, .int .i64 b.pSide, .int .i64 b.pFrom, .int .i64 b.pTo] 25
  have z0 := N0.size
  have hrow0 := rowK_empty W0 (base := W0.heap.size) 25 5 (Nat.le_refl _)
  have B0 := (Below.refl W0.heap.size W0).alloc (Nat.le_refl _) (.cells #[] 25)
  have HB := Lib.hid hb
  have H1 := Lib.hid h1
  have sb := okSide_bd hb.1
  obtain ⟨hf, hhf⟩ : ∃ hf, b.pSide / 2 = hf := ⟨_, rfl⟩
  have HH := Lib.hid hhf
  have d0 : b.pSide.tdiv 2 = hf := by rw [Int.tdiv_eq_ediv_of_nonneg (by omega)]; exact hhf
  have hfb : 0 ≤ hf ∧ hf ≤ 256 := by omega
  obtain ⟨hf0, hf1⟩ := hfb
  have pb := hb.2.1
  obtain ⟨⟨w0, w9⟩, ⟨s0, s9⟩⟩ := pb
  have d1 : IntKind.i64.wrap hf = hf := IntWalk.i64_in _ (by omega)
  obtain ⟨ti, hti, hz0, hz1, hz2⟩ := info_parts info_Cube
  have b0 := bB.2 0 _ rfl
  have b1 := bB.2 1 _ rfl
  have b2 := bB.2 2 _ rfl
  have b3 := bB.2 3 _ rfl
  have b4 := bB.2 4 _ rfl
  clear hb h1 hhf
  go_enter Try.func61, Try.ntmps61
  have HS0 : Hid (∀ w', Below W0.heap.size W0 w' → Below W0.heap.size W0 w' ∧ w'.cell? ⟨w.heap.size, 2, none⟩ = some (.int .i64 b.pSide)) := Lib.hid (fun w' q => ⟨q, (bB.below q).2 2 _ rfl⟩)
  have D0 : Below W0.heap.size W0 W0.drew := (Below.refl _ _).drew
  have D1 : Below W0.heap.size W0 (W0.alloc (.cells #[] 25)).drew := B0.drew
  go_wp2
  clear hW0
  go_region_held3 (fun w' => Below W0.heap.size W0 w' ∧ w'.cell? ⟨w.heap.size, 2, none⟩ = some (.int .i64 b.pSide))
    (first
      | exact HS0.out _ D0
      | exact HS0.out _ D1)
    (fail)
  have hrow1 : (W0.alloc (.cells #[] 25)).drew.ownsRow W0.heap.size 25 5 (.slice (some ⟨W0.heap.size, 0, none⟩) 0 0) 0 [] := hrow0
  generalize (W0.alloc (.cells #[] 25)).drew = W1 at *
  clear hrow0 b0 b1 b2 b3 b4 D0 B0 HS0 sb
  go_wp2
  go_loopw [3, 5] (fun q i wr => ∃ (k n : Nat) (v : Value) (il : List GCube), k ≤ 4 ∧ i = .int .i64 k ∧ q = v ∧ n ≤ k ∧ Hid (il = firstP b k) ∧ wr.ownsRow W0.heap.size 25 5 v n (il.flatMap encCube) ∧ (∃ ao cap, v = .slice ao n cap) ∧ Below W0.heap.size W0 wr)
    (fun _ i _ => 4 - (intOf i).toNat)
  case atStart => exact ⟨0, 0, _, [], Nat.zero_le _, rfl, rfl, Nat.le_refl _, Lib.hid rfl, hrow1, ⟨_, _, rfl⟩, D1⟩
  case round =>
    obtain ⟨k, n, _, il, hk, rfl, rfl, hnk, HIL, hrow, ⟨oa, oc, rfl⟩, hbl⟩ := hrel
    have hsz := hbl.size
    by_cases hlt : k < 4
    case neg =>
      obtain rfl : k = 4 := by omega
      have HE : Hid (il = splitV b) := Lib.hid (by rw [HIL.out, firstP_all])
      go_wp2
      go_ret
      refine ⟨_, rfl, ?_, N0.trans (hbl.mono z0)⟩
      rw [← HE.out]
      exact (OwnK.of_row encCube_len (by omega) hrow).mono z0 (Nat.le_refl _)
    have hk1 : (k : Int) < 4 := by omega
    obtain ⟨⟨-, -⟩, ⟨m0, m1⟩, ⟨m2, m3⟩⟩ := part_nums HB.out H1.out hlt HH.out
    have d2 : ((k : Int)).tdiv 2 = ((k / 2 : Nat) : Int) := by rw [Int.tdiv_eq_ediv_of_nonneg (by omega)]; omega
    have d3 : ((k : Int)).tmod 2 = ((k % 2 : Nat) : Int) := by rw [Int.tmod_eq_emod_of_nonneg (by omega)]; omega
    have d4 : ((k : Int)) % 2 = ((k % 2 : Nat) : Int) := by omega
    have d5 : ((k : Int)) / 2 = ((k / 2 : Nat) : Int) := by omega
    have HPW : Hid ((partC b k).pWest = b.pWest + ((k / 2 : Nat) : Int) * hf) := Lib.hid (by rw [← HH.out]; rfl)
    have HPS : Hid ((partC b k).pSouth = b.pSouth + ((k % 2 : Nat) : Int) * hf) := Lib.hid (by rw [← HH.out]; rfl)
    have q2 : k / 2 ≤ 1 := by omega
    have q3 : k % 2 ≤ 1 := by omega
    generalize k / 2 = k2 at *
    generalize k % 2 = k3 at *
    obtain ⟨mw, hmw⟩ : ∃ z, (k2 : Int) * hf = z := ⟨_, rfl⟩
    obtain ⟨ms, hms⟩ : ∃ z, (k3 : Int) * hf = z := ⟨_, rfl⟩
    rw [hmw] at m0 m1 HPW
    rw [hms] at m2 m3 HPS
    have e1 : IntKind.i64.wrap ((k2 : Int) * hf) = mw := by rw [hmw]; exact IntWalk.i64_in _ (by omega)
    have e2 : IntKind.i64.wrap ((k3 : Int) * hf) = ms := by rw [hms]; exact IntWalk.i64_in _ (by omega)
    have e3 : IntKind.i64.wrap (b.pWest + mw) = b.pWest + mw := IntWalk.i64_in _ (by omega)
    have e4 : IntKind.i64.wrap (b.pSouth + ms) = b.pSouth + ms := IntWalk.i64_in _ (by omega)
    have e5 : IntKind.i64.wrap (k2 : Int) = (k2 : Int) := IntWalk.i64_in _ (by omega)
    have e6 : IntKind.i64.wrap (k3 : Int) = (k3 : Int) := IntWalk.i64_in _ (by omega)
    have bB1 := bB.below hbl
    have b0 := bB1.2 0 _ rfl
    have b1 := bB1.2 1 _ rfl
    have b2 := bB1.2 2 _ rfl
    have b3 := bB1.2 3 _ rfl
    have b4 := bB1.2 4 _ rfl
    have HP : Hid (partC b k = ⟨b.pWest + mw, b.pSouth + ms, hf, b.pFrom, b.pTo⟩) := Lib.hid (cube_ext HPW.out HPS.out HH.out rfl rfl)
    clear hmw hms HPW HPS
    obtain ⟨W5, hW5⟩ : ∃ W5, wr.alloc (.cells #[.int .i64 (b.pWest + mw), .int .i64 (b.pSouth + ms), .int .i64 hf, .int .i64 b.pFrom, .int .i64 b.pTo] 25) = W5 := ⟨_, rfl⟩
    have A5 : Below wr.heap.size wr W5 := hW5 ▸ (Below.refl _ _).alloc (Nat.le_refl _) _
    have bC : Bx W5 wr.heap.size [.int .i64 (b.pWest + mw), .int .i64 (b.pSouth + ms), .int .i64 hf, .int .i64 b.pFrom, .int .i64 b.pTo] := hW5 ▸ Bx.new wr [.int .i64 (b.pWest + mw), .int .i64 (b.pSouth + ms), .int .i64 hf, .int .i64 b.pFrom, .int .i64 b.pTo] 25
    have N5 := hbl.trans (A5.mono hsz)
    have hr5 := row_below hrow A5
    have c0 := bC.2 0 _ rfl
    have c1 := bC.2 1 _ rfl
    have c2 := bC.2 2 _ rfl
    have c3 := bC.2 3 _ rfl
    have c4 := bC.2 4 _ rfl
    clear hrow A5
    cases hok : onMap (partC b k) with
    | false =>
      have CG := Lib.hid (fun W => specGoodCb ⟨b.pWest + mw, b.pSouth + ms, hf, b.pFrom, b.pTo⟩ false W (by rw [← HP.out, part_good HB.out H1.out hlt, hok]))
      have HIL2 : Hid (il = firstP b (k + 1)) := Lib.hid (by rw [firstP_no hok, HIL.out])
      clear hok
      go_wp2_with fail
      refine (CG.out _).mono ?_
      rintro e w6 ⟨rfl, hb6⟩
      have hr6 := row_below hr5 hb6
      have N6 := N5.trans (hb6.mono N5.size)
      go_wp2
      go_roundw
      case rel => exact ⟨k + 1, n, _, il, by omega, by go_num, rfl, by omega, HIL2, hr6, ⟨_, _, rfl⟩, N6⟩
      case measure => simp [intOf]; omega
    | true =>
      have CG := Lib.hid (fun W => specGoodCb ⟨b.pWest + mw, b.pSouth + ms, hf, b.pFrom, b.pTo⟩ true W (by rw [← HP.out, part_good HB.out H1.out hlt, hok]))
      have HIL2 : Hid (il ++ [⟨b.pWest + mw, b.pSouth + ms, hf, b.pFrom, b.pTo⟩] = firstP b (k + 1)) := Lib.hid (by rw [firstP_yes hok, HIL.out, HP.out])
      clear hok
      go_wp2_with fail
      refine (CG.out _).mono ?_
      rintro e w6 ⟨rfl, hb6⟩
      have hr6 := row_below hr5 hb6
      have N6 := N5.trans (hb6.mono N5.size)
      have z6 := N6.size
      have bC6 := bC.below hb6
      clear hr5 hb6 bC c0 c1 c2 c3 c4 hW5 b0 b1 b2 b3 b4
      have c0 := bC6.2 0 _ rfl
      have c1 := bC6.2 1 _ rfl
      have c2 := bC6.2 2 _ rfl
      have c3 := bC6.2 3 _ rfl
      have c4 := bC6.2 4 _ rfl
      have HSRC := Lib.hid (srcK_box (Bx.new w6 (encCube ⟨b.pWest + mw, b.pSouth + ms, hf, b.pFrom, b.pTo⟩) 25) (oneCellCb ⟨b.pWest + mw, b.pSouth + ms, hf, b.pFrom, b.pTo⟩))
      go_wp2_with (at_builtin; refine wpList_append_srcK _ rfl _ _ 39 rfl W0.heap.size 25 ti (.agg #[.int .i64 0, .int .i64 0, .int .i64 0, .int .i64 0, .int .i64 0]) 5 40 Try.underlying39 hti hz0 hz1 hz2 rfl (by decide) _ n (il.flatMap encCube) rfl (hr6.alloc _) _ 1 (encCube ⟨b.pWest + mw, b.pSouth + ms, hf, b.pFrom, b.pTo⟩) rfl HSRC.out (by unfold maxLen; omega) (by omega) (by first | omega | (simp; done) | (simp; omega)) ?_; intro v8 w8 hown' hgrow _; have b8 := below_app2 hr6 hgrow z6 (Nat.le_refl _))
      have hrow3 : w8.ownsRow W0.heap.size 25 5 v8 (n + 1) ((il ++ [(⟨b.pWest + mw, b.pSouth + ms, hf, b.pFrom, b.pTo⟩ : GCube)]).flatMap encCube) := by simpa using hown'
      obtain ⟨a3, cp3, rfl⟩ := row_form hrow3
      clear hgrow hr6 hown' HSRC bC6 c0 c1 c2 c3 c4
      go_wp2
      go_roundw
      case rel => exact ⟨k + 1, n + 1, _, il ++ [(⟨b.pWest + mw, b.pSouth + ms, hf, b.pFrom, b.pTo⟩ : GCube)], by omega, by go_num, rfl, by omega, HIL2, (by simpa using hrow3), ⟨_, _, rfl⟩, N6.trans b8⟩
      case measure => simp [intOf]; omega
set_option maxRecDepth 100000 in
set_option maxHeartbeats 2000000 in
theorem specSp (b : GCube) (v : Value) (w : World) (B : Nat) (h : CubeVL w B v b) (hB : B ≤ w.heap.size) (_ : sz1Cube b ≤ 1048576) (hw : wfCube b) :
    Calls Try.prog 23 #[v] w fun e w' => ∃ v', e = .returned (.tuple #[v', .bool (okSp b)]) ∧ CubeO w' w.heap.size w'.heap.size v' (resSp b) ∧ Below w.heap.size w w' := by
  obtain rfl := h.form
  clear h
  have N1 := (Below.refl w.heap.size w).alloc (Nat.le_refl _) (objCb b)
  have bB := Bx.new w [.int .i64 b.pWest, .int .i64 b.pSouth, .int .i64 b.pSide, .int .i64 b.pFrom, .int .i64 b.pTo] 25
  cases h1 : goodCb b with
  | false =>
    have C1 := Lib.hid (fun W => specGoodCb b false W h1)
    have e : okSp b = false := by unfold okSp; rw [h1]; rfl
    rw [e, resSp_no e]
    clear h1 e bB
    go_enter Try.func23, Try.ntmps23
    go_wp2_with fail
    refine (C1.out _).mono ?_
    rintro e w1 ⟨rfl, hb⟩
    have N2 := N1.trans (hb.mono N1.size)
    go_wp2
    go_ret2
    exact ⟨_, rfl, ownK_empty encCube_len (by omega) _ 25 N2.size, N2.alloc N2.size _⟩
  | true =>
  have C1 := Lib.hid (fun W => specGoodCb b true W h1)
  have sb := okSide_bd (goodCb_yes h1).1
  by_cases h2 : b.pSide = 1
  case pos =>
    have e : okSp b = false := by unfold okSp; rw [decide_eq_false (by simpa using h2)]; exact Bool.and_false _
    rw [e, resSp_no e]
    have H2 := Lib.hid h2
    clear h1 e h2 sb
    go_enter Try.func23, Try.ntmps23
    go_wp2_with fail
    refine (C1.out _).mono ?_
    rintro e w1 ⟨rfl, hb⟩
    have N2 := N1.trans (hb.mono N1.size)
    have bB1 := bB.below hb
    have a2 := bB1.2 2 _ rfl
    rw [H2.out] at a2
    clear bB hb
    go_wp2
    go_ret2
    exact ⟨_, rfl, ownK_empty encCube_len (by omega) _ 25 N2.size, N2.alloc N2.size _⟩
  have e : okSp b = true := by unfold okSp; rw [h1, decide_eq_true h2]; rfl
  have C2 := Lib.hid (fun W => specSplit b W (goodCb_yes h1) h2)
  rw [e, resSp_yes e]
  clear h1 e
  go_enter Try.func23, Try.ntmps23
  go_wp2_with fail
  refine (C1.out _).mono ?_
  rintro e w1 ⟨rfl, hb⟩
  have N2 := N1.trans (hb.mono N1.size)
  have bB1 := bB.below hb
  clear hb bB
  have a0 := bB1.2 0 _ rfl
  have a1 := bB1.2 1 _ rfl
  have a2 := bB1.2 2 _ rfl
  have a3 := bB1.2 3 _ rfl
  have a4 := bB1.2 4 _ rfl
  clear bB1
  go_wp2_with fail
  refine (C2.out _).mono ?_
  rintro e w2 ⟨v2, rfl, hown, hb⟩
  have N3 := N2.trans (hb.mono N2.size)
  obtain ⟨ao, cap, rfl⟩ := hown.form
  go_wp2
  go_ret2
  exact ⟨_, rfl, hown.mono N2.size (Nat.le_refl _), N3⟩
end Go.Proofs.Ytoogofceoinniaa
