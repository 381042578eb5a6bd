/- FnPicks: for every code the law answers true; no condition. -/
import Derived.Test.YtoimoaeaejbfdaaPdC
import Derived.Test.YtoimoaeaejbfdaaRp
import Derived.Test.YtoimoaeaejbfdaaRi
import Derived.Test.YtoimoaeaejbfdaaPqF2
import Derived.Test.YtoimoaeaejbfdaaPqW
import Derived.Test.YtoimoaeaejbfdaaPqU
import Derived.Test.YtoimoaeaejbfdaaPqX
import Derived.Test.YtoimoaeaejbfdaaPqY
import Derived.Test.YtoimoaeaejbfdaaPqS
import Derived.Test.YtoimoaeaejbfdaaPqT
import Derived.Deep.CutBlock
import Derived.Deep.CutRange
import Derived.Deep.DeepCutAuto
import Derived.Deep.RegionHeld3
namespace Go.Proofs.Ytoimoaeaejbfdaa.fnPicks
open Go.ChangeShapes Go.WideShapes Go.ChangeAt Go.RowKit Go.ChangeMaps
set_option linter.unusedSimpArgs false
set_option linter.unusedVariables false

theorem own : ownKnob Try.prog.godebug = none := by kernel_rfl

theorem St.bx {w : World} {b : Nat} {cs : List Value} (h : Bx w b cs) : St w (fun w' => Bx w' b cs) := fun w' hb => h.below hb
theorem St.pk {w : World} {v : Value} {xs : List GPick} (h : PickL w w.heap.size v xs) : St w (fun w' => PickL w' w'.heap.size v xs) := fun w' hb => (h.below hb).mono hb.size
theorem bdk_szs {xs : List GPick} (h : xs.length ≤ 20) : szsPick xs ≤ 1048576 := by rw [szsPick_split]; omega
set_option maxRecDepth 100000 in
set_option maxHeartbeats 4000000 in
theorem walk_main (ao : Option Addr) (n cap : Nat) (w : World) (hn : n ≤ 65536) (hcode : Code w w.heap.size ao n) :
    Calls Try.prog 3 #[.slice ao n cap] w fun e w' => e = .returned (.bool true) ∧ Below w.heap.size w w' := by
  have C0 : CodeArg w w.heap.size (.slice ao n cap) := ⟨Nat.le_refl _, ao, n, cap, rfl, hn, hcode⟩
  clear hcode
  have hni : (n : Int) ≤ 65536 := by omega
  have sb0 := St.chain w
  have sc0 := St.code C0
  clear C0
  go_enter Try.func3, Try.ntmps3
  go_wp2_with fail
  refine (rBig_no n cap ao w hni).mono ?_
  rintro e w1 ⟨rfl, hw1⟩
  obtain rfl := hw1.symm
  go_wp2_with fail
  refine (drawRevisePick w _ _ sc0.now).mono ?_
  rintro e w2 ⟨v1, xs, i, t, er, bb, rfl, hbi, hbt, hber, hbbb, hD1⟩
  have sb_2 := sb0.step hD1.below
  have sc_2 := sc0.step hD1.below
  clear sb0 sc0
  have s13 := St.pk hD1.lst
  obtain ⟨a1, c1, rfl⟩ := hD1.lst.form
  have hz1 : szsPick xs ≤ 1048576 := bdk_szs hD1.len
  have hw1 : ∀ s ∈ xs, wfPick s := fun s hs => (hD1.bd s hs).wf
  clear hD1
  have hIi : I64 i := by unfold I64; omega
  have hIt : I64 t := by unfold I64; omega
  have hIer : I64 er := by unfold I64; omega
  have hIbb : I64 bb := by unfold I64; omega
  go_wp2_with fail
  refine (implRev xs _ i t er bb w2 _ s13.now (Nat.le_refl _) hz1 hw1 hIi hIt hIer hIbb).mono ?_
  rintro e w4 ⟨v2, rfl, ho2, hb4⟩
  have sb_4 := sb_2.step hb4
  have sc_4 := sc_2.step hb4
  have s1_4 := s13.step hb4
  clear sb_2 sc_2 s13 hb4
  have sp5 := St.pk ho2.lst
  obtain ⟨av2, cv2, rfl⟩ := ho2.lst.form
  clear ho2
  go_wp2_with fail
  refine (specRev xs _ i t er bb w4 _ s1_4.now (Nat.le_refl _) hz1 hw1 hIi hIt hIer hIbb).mono ?_
  rintro e w6 ⟨v3, rfl, ho3, hb6⟩
  have sb_6 := sb_4.step hb6
  have sc_6 := sc_4.step hb6
  have s1_6 := s1_4.step hb6
  have sp_6 := sp5.step hb6
  clear sb_4 sc_4 s1_4 sp5 hb6
  have sq7 := St.pk ho3.lst
  obtain ⟨av3, cv3, rfl⟩ := ho3.lst.form
  clear ho3
  have HRF := Lib.hid (rev_facts (xs := xs) (id := i) (tick := t) (err := er) (by_ := bb))
  have hrl := resRev_len xs i t er bb
  have hzr : szsPick (resRev xs i t er bb) ≤ 1048576 := bdk_szs (by omega)
  generalize resRev xs i t er bb = ro at *
  generalize nextRev xs i t er bb = nx at *
  generalize okRev xs i t er bb = kr at *
  clear hbt hber hbbb hIt hIer hIbb hrl
  go_wp2_with fail
  refine (rPicks_same ro _ _ w6 _ sp_6.now sq7.now (Nat.le_refl _)).mono ?_
  rintro e w8 ⟨rfl, hb8⟩
  have sb_8 := sb_6.step hb8
  have sc_8 := sc_6.step hb8
  have s1_8 := s1_6.step hb8
  have sp_8 := sp_6.step hb8
  have sq_8 := sq7.step hb8
  clear sb_6 sc_6 s1_6 sp_6 sq7 hb8
  clear sq_8
  go_upto_if 83 with fail
  go_cut [14, 15, 16, 17, 18, 19, 20, 21] from 84 to 149 (fun _ _ _ _ _ _ _ _ wx => Below w8.heap.size w8 wx)
  case first =>
    have cb9 := St.chain w8
    cases kr with
    | false =>
      go_wp2
      go_meet
      exact cb9.now
    | true =>
      obtain ⟨⟨g1, g2, g3⟩, ⟨m1, m2⟩, ⟨f1, f2, f3⟩, ⟨e1, e2⟩⟩ := HRF.out rfl
      clear HRF
      have H1 := Lib.hid (fun v w' (h : PickL w' w'.heap.size v ro) => implCurP ro v w' _ h (Nat.le_refl _) hzr g2)
      rw [g1] at H1
      have H2 := Lib.hid (fun v w' (h : PickL w' w'.heap.size v ro) => implHis ro v nx w' _ h (Nat.le_refl _) hzr g2 g3)
      rw [f1] at H2
      have H3 := Lib.hid (fun v w' (h : PickL w' w'.heap.size v xs) => implHis xs v i w' _ h (Nat.le_refl _) hz1 hw1 hIi)
      rw [f2] at H3
      have H4 := Lib.hid (fun v w' (h : PickL w' w'.heap.size v ro) => implWd ro v w' _ h (Nat.le_refl _) hzr g2)
      rw [e1, e2] at H4
      have H5 := Lib.hid (fun v w' (h : PickL w' w'.heap.size v ro) => implArePk ro v w' _ h (Nat.le_refl _) hzr g2)
      rw [g1] at H5
      have hl6 := resH_len xs i
      have M1 := Lib.hid m1
      have M2 := Lib.hid m2
      have F3 := Lib.hid f3
      clear g1 g2 g3 f1 f2 f3 e1 e2 m1 m2 hz1 hw1 hzr hIi
      generalize resH xs i = l6 at *
      generalize resH ro nx = l5 at *
      generalize resCur ro = l4 at *
      go_wp2_with fail
      refine (H1.out _ w8 sp_8.now).mono ?_
      rintro e w10 ⟨v4, rfl, ho4, hb10⟩
      have sb_10 := sb_8.step hb10
      have sc_10 := sc_8.step hb10
      have s1_10 := s1_8.step hb10
      have sp_10 := sp_8.step hb10
      have cb_10 := cb9.step hb10
      clear sb_8 sc_8 s1_8 sp_8 cb9 hb10
      have sn11 := St.own ho4
      obtain ⟨av4, cv4, rfl⟩ := ho4.lst.form
      clear ho4
      go_wp2_with fail
      refine (H2.out _ w10 sp_10.now).mono ?_
      rintro e w12 ⟨v5, rfl, ho5, hb12⟩
      have sb_12 := sb_10.step hb12
      have sc_12 := sc_10.step hb12
      have s1_12 := s1_10.step hb12
      have sp_12 := sp_10.step hb12
      have cb_12 := cb_10.step hb12
      have sn_12 := sn11.step hb12
      clear sb_10 sc_10 s1_10 sp_10 cb_10 sn11 hb12
      obtain ⟨av5, cv5, e5⟩ := ho5.lst.form
      rw [F3.out] at e5
      subst e5
      clear ho5
      go_wp2_with fail
      refine (H3.out _ w12 s1_12.now).mono ?_
      rintro e w13 ⟨v6, rfl, ho6, hb13⟩
      have sb_13 := sb_12.step hb13
      have sc_13 := sc_12.step hb13
      have s1_13 := s1_12.step hb13
      have sp_13 := sp_12.step hb13
      have cb_13 := cb_12.step hb13
      have sn_13 := sn_12.step hb13
      clear sb_12 sc_12 s1_12 sp_12 cb_12 sn_12 hb13
      obtain ⟨av6, cv6, rfl⟩ := ho6.lst.form
      clear ho6
      go_wp2_with fail
      refine (H4.out _ w13 sp_13.now).mono ?_
      rintro e w14 ⟨v7, rfl, ho7, hb14⟩
      have sb_14 := sb_13.step hb14
      have sc_14 := sc_13.step hb14
      have s1_14 := s1_13.step hb14
      have sp_14 := sp_13.step hb14
      have cb_14 := cb_13.step hb14
      have sn_14 := sn_13.step hb14
      clear sb_13 sc_13 s1_13 sp_13 cb_13 sn_13 hb14
      have sr15 := St.pk ho7.lst
      obtain ⟨av7, cv7, rfl⟩ := ho7.lst.form
      clear ho7
      clear H1 H2 H3 H4 F3
      have hl7 : (l6.length : Int) ≤ 1048576 := by omega
      go_wp2_with fail
      refine (rHasYes l4 _ nx w14 _ sn_14.now M1.out).mono ?_
      rintro e w16 ⟨rfl, hw16⟩
      obtain rfl := hw16.symm
      go_wp2_with fail
      refine (rHasNo l4 i _ w14 _ sn_14.now (Nat.le_refl _) (fun y hy e => M2.out (e ▸ hy))).mono ?_
      rintro e w17 ⟨rfl, hb17⟩
      have sb_17 := sb_14.step hb17
      have sc_17 := sc_14.step hb17
      have s1_17 := s1_14.step hb17
      have sp_17 := sp_14.step hb17
      have cb_17 := cb_14.step hb17
      have sn_17 := sn_14.step hb17
      have sr_17 := sr15.step hb17
      clear sb_14 sc_14 s1_14 sp_14 cb_14 sn_14 sr15 hb17
      go_wp2_with fail
      refine (rPicks_same xs _ _ w17 _ sr_17.now s1_17.now (Nat.le_refl _)).mono ?_
      rintro e w18 ⟨rfl, hb18⟩
      have sb_18 := sb_17.step hb18
      have sc_18 := sc_17.step hb18
      have s1_18 := s1_17.step hb18
      have sp_18 := sp_17.step hb18
      have cb_18 := cb_17.step hb18
      have sn_18 := sn_17.step hb18
      have sr_18 := sr_17.step hb18
      clear sb_17 sc_17 s1_17 sp_17 cb_17 sn_17 sr_17 hb18
      go_wp2_with fail
      refine (H5.out _ w18 sp_18.now).mono ?_
      rintro e w19 ⟨rfl, hb19⟩
      have sb_19 := sb_18.step hb19
      have sc_19 := sc_18.step hb19
      have s1_19 := s1_18.step hb19
      have sp_19 := sp_18.step hb19
      have cb_19 := cb_18.step hb19
      have sn_19 := sn_18.step hb19
      have sr_19 := sr_18.step hb19
      clear sb_18 sc_18 s1_18 sp_18 cb_18 sn_18 sr_18 hb19
      go_wp2
      go_meet
      exact cb_19.now
  case rest =>
    have hb10 := hcut
    clear hcut
    obtain ⟨w10, hwc10⟩ : ∃ x, x = wc := ⟨wc, rfl⟩
    subst hwc10
    have sb_10 := sb_8.step hb10
    have sc_10 := sc_8.step hb10
    have s1_10 := s1_8.step hb10
    have sp_10 := sp_8.step hb10
    clear sb_8 sc_8 s1_8 sp_8 hb10
    clear sp_10 s1_10
    clear HRF hz1 hw1 hzr hIi hbi
    go_wp2_with fail
    refine (drawHistoryOf w10 _ _ sc_10.now).mono ?_
    rintro e w11 ⟨v8, ys, x, rfl, hbx, hD8⟩
    have sb_11 := sb_10.step hD8.below
    have sc_11 := sc_10.step hD8.below
    clear sb_10 sc_10
    have s812 := St.pk hD8.lst
    obtain ⟨a8, c8, rfl⟩ := hD8.lst.form
    have hz8 : szsPick ys ≤ 1048576 := bdk_szs hD8.len
    have hw8 : ∀ s ∈ ys, wfPick s := fun s hs => (hD8.bd s hs).wf
    clear hD8
    have hIx : I64 x := by unfold I64; omega
    go_wp2_with fail
    refine (implHis ys _ x w11 _ s812.now (Nat.le_refl _) hz8 hw8 hIx).mono ?_
    rintro e w13 ⟨v9, rfl, ho9, hb13⟩
    have sb_13 := sb_11.step hb13
    have sc_13 := sc_11.step hb13
    have s8_13 := s812.step hb13
    clear sb_11 sc_11 s812 hb13
    have sp14 := St.own ho9
    obtain ⟨av9, cv9, rfl⟩ := ho9.lst.form
    clear ho9
    go_wp2_with fail
    refine (specHis ys _ x w13 _ s8_13.now (Nat.le_refl _) hz8 hw8 hIx).mono ?_
    rintro e w15 ⟨v10, rfl, ho10, hb15⟩
    have sb_15 := sb_13.step hb15
    have sc_15 := sc_13.step hb15
    have s8_15 := s8_13.step hb15
    have sp_15 := sp14.step hb15
    clear sb_13 sc_13 s8_13 sp14 hb15
    have sq16 := St.own ho10
    obtain ⟨av10, cv10, rfl⟩ := ho10.lst.form
    clear ho10
    clear s8_15
    generalize resH ys x = lh at *
    generalize okH ys x = kh at *
    clear hz8 hw8 hIx hbx
    go_wp2_with fail
    refine (rInts_same lh _ _ w15 _ sp_15.now sq16.now (Nat.le_refl _)).mono ?_
    rintro e w17 ⟨rfl, hb17⟩
    have sb_17 := sb_15.step hb17
    have sc_17 := sc_15.step hb17
    have sp_17 := sp_15.step hb17
    have sq_17 := sq16.step hb17
    clear sb_15 sc_15 sp_15 sq16 hb17
    clear sp_17 sq_17
    go_wp2_with fail
    refine (drawCurrentPicks w17 _ _ sc_17.now).mono ?_
    rintro e w18 ⟨v11, us, rfl, hD11⟩
    have sb_18 := sb_17.step hD11.below
    have sc_18 := sc_17.step hD11.below
    clear sb_17 sc_17
    have s1119 := St.pk hD11.lst
    obtain ⟨a11, c11, rfl⟩ := hD11.lst.form
    have hz11 : szsPick us ≤ 1048576 := bdk_szs hD11.len
    have hw11 : ∀ s ∈ us, wfPick s := fun s hs => (hD11.bd s hs).wf
    clear hD11
    go_wp2_with fail
    refine (implCurP us _ w18 _ s1119.now (Nat.le_refl _) hz11 hw11).mono ?_
    rintro e w20 ⟨v12, rfl, ho12, hb20⟩
    have sb_20 := sb_18.step hb20
    have sc_20 := sc_18.step hb20
    have s11_20 := s1119.step hb20
    clear sb_18 sc_18 s1119 hb20
    have sp21 := St.own ho12
    obtain ⟨av12, cv12, rfl⟩ := ho12.lst.form
    clear ho12
    go_wp2_with fail
    refine (specCurP us _ w20 _ s11_20.now (Nat.le_refl _) hz11 hw11).mono ?_
    rintro e w22 ⟨v13, rfl, ho13, hb22⟩
    have sb_22 := sb_20.step hb22
    have sc_22 := sc_20.step hb22
    have s11_22 := s11_20.step hb22
    have sp_22 := sp21.step hb22
    clear sb_20 sc_20 s11_20 sp21 hb22
    have sq23 := St.own ho13
    obtain ⟨av13, cv13, rfl⟩ := ho13.lst.form
    clear ho13
    clear s11_22
    generalize resCur us = lc at *
    generalize goodP us = kc at *
    clear hz11 hw11
    go_wp2_with fail
    refine (rInts_same lc _ _ w22 _ sp_22.now sq23.now (Nat.le_refl _)).mono ?_
    rintro e w24 ⟨rfl, hb24⟩
    have sb_24 := sb_22.step hb24
    have sc_24 := sc_22.step hb24
    have sp_24 := sp_22.step hb24
    have sq_24 := sq23.step hb24
    clear sb_22 sc_22 sp_22 sq23 hb24
    clear sp_24 sq_24
    go_wp2_with fail
    refine (drawWithdrawLast w24 _ _ sc_24.now).mono ?_
    rintro e w25 ⟨v14, zs, rfl, hD14⟩
    have sb_25 := sb_24.step hD14.below
    have sc_25 := sc_24.step hD14.below
    clear sb_24 sc_24
    have s1426 := St.pk hD14.lst
    obtain ⟨a14, c14, rfl⟩ := hD14.lst.form
    have hz14 : szsPick zs ≤ 1048576 := bdk_szs hD14.len
    have hw14 : ∀ s ∈ zs, wfPick s := fun s hs => (hD14.bd s hs).wf
    clear hD14
    go_wp2_with fail
    refine (implWd zs _ w25 _ s1426.now (Nat.le_refl _) hz14 hw14).mono ?_
    rintro e w27 ⟨v15, rfl, ho15, hb27⟩
    have sb_27 := sb_25.step hb27
    have sc_27 := sc_25.step hb27
    have s14_27 := s1426.step hb27
    clear sb_25 sc_25 s1426 hb27
    have sp28 := St.pk ho15.lst
    obtain ⟨av15, cv15, rfl⟩ := ho15.lst.form
    clear ho15
    go_wp2_with fail
    refine (specWd zs _ w27 _ s14_27.now (Nat.le_refl _) hz14 hw14).mono ?_
    rintro e w29 ⟨v16, rfl, ho16, hb29⟩
    have sb_29 := sb_27.step hb29
    have sc_29 := sc_27.step hb29
    have s14_29 := s14_27.step hb29
    have sp_29 := sp28.step hb29
    clear sb_27 sc_27 s14_27 sp28 hb29
    have sq30 := St.pk ho16.lst
    obtain ⟨av16, cv16, rfl⟩ := ho16.lst.form
    clear ho16
    clear s14_29
    generalize resWd zs = lw at *
    generalize okWd zs = kw at *
    clear hz14 hw14
    go_wp2_with fail
    refine (drawIsPick w29 _ _ sc_29.now).mono ?_
    rintro e w31 ⟨p, rfl, hbp, hb31⟩
    have sb_31 := sb_29.step hb31
    have sc_31 := sc_29.step hb31
    have sp_31 := sp_29.step hb31
    have sq_31 := sq30.step hb31
    clear sb_29 sc_29 sp_29 sq30 hb31
    clear sc_31
    have N32 := (Below.refl w31.heap.size w31).alloc (Nat.le_refl _) (.cells #[.int .i64 p.pId, .int .i64 p.pStation, .int .i64 p.pWave, .int .i64 p.pTick, .int .i64 p.pError, .int .i64 p.pBy, .int .i64 p.pAfter] 43)
    have bp32 := St.bx (Bx.new w31 [.int .i64 p.pId, .int .i64 p.pStation, .int .i64 p.pWave, .int .i64 p.pTick, .int .i64 p.pError, .int .i64 p.pBy, .int .i64 p.pAfter] 43)
    have sb_32 := sb_31.step N32
    have sp_32 := sp_31.step N32
    have sq_32 := sq_31.step N32
    clear sb_31 sp_31 sq_31 N32
    obtain ⟨W, hW⟩ : ∃ W, (w31.alloc (.cells #[.int .i64 p.pId, .int .i64 p.pStation, .int .i64 p.pWave, .int .i64 p.pTick, .int .i64 p.pError, .int .i64 p.pBy, .int .i64 p.pAfter] 43)) = W := ⟨_, rfl⟩
    rw [hW] at sb_32 sp_32 sq_32 bp32
    obtain ⟨gb, hgb⟩ : ∃ g, w31.heap.size = g := ⟨_, rfl⟩
    rw [hgb] at bp32
    have hwp : wfPick p := hbp.wf
    clear hbp
    have HS : Hid (∀ w' : World, Below W.heap.size W w' → Below W.heap.size W w' ∧ w'.cell? ⟨gb, 0, none⟩ = some (.int .i64 p.pId) ∧ w'.cell? ⟨gb, 1, none⟩ = some (.int .i64 p.pStation) ∧ w'.cell? ⟨gb, 2, none⟩ = some (.int .i64 p.pWave) ∧ w'.cell? ⟨gb, 3, none⟩ = some (.int .i64 p.pTick) ∧ w'.cell? ⟨gb, 4, none⟩ = some (.int .i64 p.pError) ∧ w'.cell? ⟨gb, 5, none⟩ = some (.int .i64 p.pBy) ∧ w'.cell? ⟨gb, 6, none⟩ = some (.int .i64 p.pAfter)) := Lib.hid (fun w' q => ⟨q, (bp32.step q).now.2 0 _ rfl, (bp32.step q).now.2 1 _ rfl, (bp32.step q).now.2 2 _ rfl, (bp32.step q).now.2 3 _ rfl, (bp32.step q).now.2 4 _ rfl, (bp32.step q).now.2 5 _ rfl, (bp32.step q).now.2 6 _ rfl⟩)
    have CI : Hid (∀ w' : World, Calls Try.prog 33 #[.agg #[.int .i64 p.pId, .int .i64 p.pStation, .int .i64 p.pWave, .int .i64 p.pTick, .int .i64 p.pError, .int .i64 p.pBy, .int .i64 p.pAfter]] w' fun e w2 => e = .returned (.bool (oneB p)) ∧ Below w'.heap.size w' w2) := Lib.hid (fun w' => implIsPk p _ w' w'.heap.size rfl (Nat.le_refl _) (by unfold sz1Pick; omega) hwp)
    have CS : Hid (∀ w' : World, Calls Try.prog 34 #[.agg #[.int .i64 p.pId, .int .i64 p.pStation, .int .i64 p.pWave, .int .i64 p.pTick, .int .i64 p.pError, .int .i64 p.pBy, .int .i64 p.pAfter]] w' fun e w2 => e = .returned (.bool (oneB p)) ∧ Below w'.heap.size w' w2) := Lib.hid (fun w' => specIsPk p _ w' w'.heap.size rfl (Nat.le_refl _) (by unfold sz1Pick; omega) hwp)
    clear hwp
    generalize oneB p = ob at *
    go_wp2_with fail
    go_region_held3 (fun w' => Below W.heap.size W w' ∧ w'.cell? ⟨gb, 0, none⟩ = some (.int .i64 p.pId) ∧ w'.cell? ⟨gb, 1, none⟩ = some (.int .i64 p.pStation) ∧ w'.cell? ⟨gb, 2, none⟩ = some (.int .i64 p.pWave) ∧ w'.cell? ⟨gb, 3, none⟩ = some (.int .i64 p.pTick) ∧ w'.cell? ⟨gb, 4, none⟩ = some (.int .i64 p.pError) ∧ w'.cell? ⟨gb, 5, none⟩ = some (.int .i64 p.pBy) ∧ w'.cell? ⟨gb, 6, none⟩ = some (.int .i64 p.pAfter))
      (first
        | exact HS.out _ (Below.refl _ _).drew
        | exact HS.out _ (by with_reducible assumption))
      (first
        | (go_at_call 19; (with_reducible refine (rPicks_same lw _ _ W.drew _ (sp_32.step (Below.refl W.heap.size W).drew).now (sq_32.step (Below.refl W.heap.size W).drew).now (Nat.le_refl _)).mono ?_); rintro e wa ⟨rfl, ha⟩; have qa : Below W.heap.size W wa := (Below.refl W.heap.size W).drew.trans ha)
        | (go_at_call 33; (with_reducible refine (CI.out wb).mono ?_); rintro e wc ⟨rfl, hc⟩; have qc : Below W.heap.size W wc := qb.trans (hc.mono qb.size))
        | (go_at_call 33; (with_reducible refine (CI.out wa).mono ?_); rintro e wb ⟨rfl, hb⟩; have qb : Below W.heap.size W wb := qa.trans (hb.mono qa.size))
        | (go_at_call 34; (with_reducible refine (CS.out wb).mono ?_); rintro e wc ⟨rfl, hc⟩; have qc : Below W.heap.size W wc := qb.trans (hc.mono qb.size))
        | (go_at_call 34; (with_reducible refine (CS.out wa).mono ?_); rintro e wb ⟨rfl, hb⟩; have qb : Below W.heap.size W wb := qa.trans (hb.mono qa.size)))
    all_goals
      go_wp2
      go_ret
      exact ⟨by first | rfl | exact ret_bool (by simp), (sb_32.step qc).now⟩

set_option maxRecDepth 100000 in
theorem walk_all (v : Value) {H : Type} {enc : TypeId × Value → H} {base : Nat} {d : DataW H} {ps : List MemPlace} {w : World} (hval : Value.okWide Try.prog w .any base 22 v)
    (hd : DataW.Trod enc Try.prog w 0 (fun _ => true) true 22 v d ps) :
    Calls Try.prog 3 #[v] w fun e w' => e = .returned (.bool true) ∧ Below w.heap.size w w' := by
  obtain ⟨ao, n, cap, rfl, hn, hc⟩ := open_code Try.underlying22 Try.underlying5 (by kernel_rfl) hval hd
  by_cases h : n ≤ 65536
  · exact walk_main ao n cap w h hc
  · have hi : (65536 : Int) < n := by omega
    go_enter Try.func3, Try.ntmps3
    go_wp2_with fail
    refine (rBig_yes n cap ao _ hi).mono ?_
    rintro e w0 ⟨rfl, hw⟩
    obtain rfl := hw.symm
    go_wp2
    go_ret
    exact ⟨rfl, Below.refl _ _⟩

set_option maxRecDepth 100000 in
theorem contract (H : Type) (enc : TypeId × Value → H) (W : World) (base : Nat) (args : Array Value) (ds gs : List (DataW H)) (before : List MemPlace)
    (hval : ∀ (j : Nat) t v, Try.f3.params[j]? = some t → args[j]? = some v → Value.okWide Try.prog W .any base t v)
    (hW : DataW.Whole enc Try.prog Try.f3.params.toList Rows.fnPicksSpec.vars false W args.toList ds gs before) :
    Calls Try.prog 3 args W fun e W' => ∃ v, e = .returned v ∧ Rows.fnPicksSpec.post enc Try.prog Try.f3 false true false false W args v W' := by
  have hW' := hW
  obtain ⟨p, q, hA0, hV, rfl, hfz, hnd⟩ := hW
  have hA : DataW.TrodAll enc Try.prog W 0 (fun _ => true) true Try.f3.params.toList args.toList ds p := hA0
  rw [Try.params3] at hA hval
  obtain ⟨v0, vs0, d0, ds0, p0, q0, hargs, rfl, rfl, h0, r0⟩ := trodAll_cons hA
  obtain ⟨rfl, rfl, rfl⟩ := trodAll_nil r0
  obtain rfl : args = #[v0] := by cases args; simp_all
  refine lawPost rfl rfl Try.underlying4 (by kernel_rfl) (by kernel_rfl) hW' (fun hg => by subst hg; exact ⟨rfl, rfl, rfl⟩) ?_
  exact walk_all v0 (hval 0 22 v0 rfl rfl) h0

set_option maxRecDepth 100000 in
theorem lifted (os : Os) (started : os.Started) (H : Type) (enc : TypeId × Value → H) :
    ReturnsInHanded {} Try.checked os 3 .any (Rows.fnPicksSpec.pre6 enc Try.prog Try.f3 Rows.fnPicksRow.domain false) (Rows.fnPicksSpec.post enc Try.prog Try.f3 false true false false) := by
  refine returnsInHanded_of_change (C := Try.checked) (s := Rows.fnPicksSpec) own started (by kernel_rfl) Try.func3
    (ChangeSpec.witness6 (enc := enc) (C := Try.checked) (s := Rows.fnPicksSpec) false ⟨#[], #[.slice none 0 0], []⟩ 8 (by kernel_rfl) (by kernel_rfl) (by kernel_rfl) (by kernel_rfl)) ?_
  intro W base args ds gs before hval hW _ _
  exact contract H enc W base args ds gs before hval hW

set_option maxRecDepth 100000 in
theorem said : Rows.FnPicksSaid :=
  OpenClaim.holds_of_wide 3 Try.f3 rfl rfl rfl rfl rfl rfl rfl ⟨rfl, rfl, rfl, rfl, rfl⟩ rfl rfl rfl rfl rfl (by kernel_rfl) Try.func3 (by kernel_rfl)
    (of_decide_eq_true (by kernel_rfl)) (by unfold Func.isWrapper; first | (rw [if_pos (by decide +kernel)]; kernel_rfl) | (rw [if_neg (by decide +kernel)]; exact ⟨rfl, rfl⟩))
    (fun os started H enc _ => lifted os started H enc)
end Go.Proofs.Ytoimoaeaejbfdaa.fnPicks
