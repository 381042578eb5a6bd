/- FnSamples: for every code the law answers true; no condition. -/
import Derived.Test.YtklilfbokpljkacVi
import Derived.Test.YtklilfbokpljkacSmP
import Derived.Test.YtklilfbokpljkacDrU
import Derived.Test.YtklilfbokpljkacHasT
import Derived.Test.YtklilfbokpljkacLrg
import Derived.Test.YtklilfbokpljkacMean
import Derived.Test.YtklilfbokpljkacSub
import Derived.Test.YtklilfbokpljkacSubS
import Derived.Test.YtklilfbokpljkacCrs
namespace Go.Proofs.Ytklilfbokpljkac.fnSamples
open Go.ChangeShapes Go.WideShapes Go.ChangeAt Go.RowKit Go.ChangeMaps
set_option linter.unusedSimpArgs false
set_option linter.unusedVariables false

theorem own : ownKnob Try.prog.godebug = none := by kernel_rfl

theorem St.bx {w : World} {b : Nat} {cs : List Value} (h : Bx w b cs) : St w (fun w' => Bx w' b cs) := fun w' hb => h.below hb
theorem St.tr {w : World} {L : Nat} {v : Value} {t : Tr} (h : TrO w L w.heap.size v t) : St w (fun w' => TrL w' w'.heap.size v t) := fun w' hb => (h.lst.below hb).mono hb.size
theorem mul_bd {x y X Y : Int} (h1 : -X ≤ x) (h2 : x ≤ X) (h3 : 0 ≤ y) (h4 : y ≤ Y) : -(X * Y) ≤ x * y ∧ x * y ≤ X * Y := by
  have hX : 0 ≤ X := by omega
  have a1 := Int.mul_le_mul_of_nonneg_right h2 h3
  have a2 := Int.mul_le_mul_of_nonneg_left h4 hX
  have a3 := Int.mul_le_mul_of_nonneg_right h1 h3
  rw [Int.neg_mul] at a3
  omega
theorem valL_bd {t : Tr} (h : okN t = true) : -100000 ≤ valL t ∧ valL t ≤ 100000 := by
  obtain ⟨g, hp⟩ := okN_parts h
  have hb := bst_le t.xs t.xs.length
  unfold valL
  rw [if_pos h]
  rcases get_of_lt (l := t.xs) (k := bst t.xs t.xs.length) (by omega) with ⟨x, hx⟩
  have := okX_get (goodT_yes g).2 hx
  simpa [List.getD, hx] using this
theorem tickL_bd {t : Tr} (h : okN t = true) : I64 (tickL t) := by
  obtain ⟨g, hp⟩ := okN_parts h
  have hb := bst_le t.xs t.xs.length
  have h2 := (goodT_yes g).1
  unfold tickL I64
  rw [if_pos h]
  omega
theorem implAtL (t : Tr) (v : Value) (w : World) (B : Nat) (h : TrL w B v t) (hB : B ≤ w.heap.size) (hn : t.xs.length ≤ 1048576) (hk : okN t = true) :
    Calls Try.prog 21 #[v, .int .i64 (tickL t)] w fun e w' => e = .returned (.tuple #[.int .i64 (valL t), .bool true]) ∧ Below w.heap.size w w' := by
  have := implAt t v (tickL t) w B h hB hn (tickL_bd hk)
  rwa [(at_largest hk).1, (at_largest hk).2] at this
theorem implMeanT (t : Tr) (v : Value) (w : World) (B : Nat) (h : TrL w B v t) (hB : B ≤ w.heap.size) (hn : t.xs.length ≤ 1048576) (hk : okN t = true) :
    Calls Try.prog 18 #[v] w fun e w' => e = .returned (.tuple #[.int .i64 (mnum t), .int .i64 (mden t), .bool true]) ∧ Below w.heap.size w w' := by
  have := implMean t v w B h hB hn
  rwa [hk] at this
set_option maxRecDepth 100000 in
set_option maxHeartbeats 4000000 in
theorem walk_main (ao : Option Addr) (n cap : Nat) (w : World) (hn : n ≤ 65536) (hcode : Code w w.heap.size ao n) :
    Calls Try.prog 5 #[.slice ao n cap] w fun e w' => e = .returned (.bool true) ∧ Below w.heap.size w w' := by
  have C0 : CodeArg w w.heap.size (.slice ao n cap) := ⟨Nat.le_refl _, ao, n, cap, rfl, hn, hcode⟩
  clear hcode
  have hni : (n : Int) ≤ 65536 := by omega
  have sb0 := St.chain w
  have sc0 := St.code C0
  clear C0
  go_enter Try.func5, Try.ntmps5
  go_wp2_with fail
  refine (vBig_no n cap ao w hni).mono ?_
  rintro e w1 ⟨rfl, hw1⟩
  obtain rfl := hw1.symm
  go_wp2_with fail
  refine (drawLargestSample w _ _ sc0.now).mono ?_
  rintro e w2 ⟨v1, t, rfl, hd1, ho1, hb2⟩
  have sb_2 := sb0.step hb2
  have sc_2 := sc0.step hb2
  clear sb0 sc0 hb2
  have st3 := St.tr ho1
  obtain ⟨ao1, cap1, rfl⟩ := ho1.form
  clear ho1
  have hn1 : t.xs.length ≤ 1048576 := by omega
  have N4 := (Below.refl w2.heap.size w2).alloc (Nat.le_refl _) (.cells #[.int .i64 t.st, .int .i64 t.start, .slice ao1 t.xs.length cap1] 28)
  have bt4 := St.bx (Bx.new w2 [.int .i64 t.st, .int .i64 t.start, .slice ao1 t.xs.length cap1] 28)
  have sb_4 := sb_2.step N4
  have sc_4 := sc_2.step N4
  have st_4 := st3.step N4
  clear sb_2 sc_2 st3 N4
  have qbt0_1 := (bt4.now).2 0 _ rfl
  have qbt1_2 := (bt4.now).2 1 _ rfl
  have qbt2_3 := (bt4.now).2 2 _ rfl
  go_wp2_with fail
  refine (implLrg t _ (w2.alloc (.cells #[.int .i64 t.st, .int .i64 t.start, .slice ao1 t.xs.length cap1] 28)) _ st_4.now (Nat.le_refl _) hn1).mono ?_
  clear qbt0_1 qbt1_2 qbt2_3
  rintro e w5 ⟨rfl, hb5⟩
  have sb_5 := sb_4.step hb5
  have sc_5 := sc_4.step hb5
  have st_5 := st_4.step hb5
  have bt_5 := bt4.step hb5
  clear sb_4 sc_4 st_4 bt4 hb5
  have qbt0_4 := (bt_5.now).2 0 _ rfl
  have qbt1_5 := (bt_5.now).2 1 _ rfl
  have qbt2_6 := (bt_5.now).2 2 _ rfl
  go_wp2_with fail
  refine (specLrg t _ w5 _ st_5.now (Nat.le_refl _) hn1).mono ?_
  clear qbt0_4 qbt1_5 qbt2_6
  rintro e w6 ⟨rfl, hb6⟩
  have sb_6 := sb_5.step hb6
  have sc_6 := sc_5.step hb6
  have st_6 := st_5.step hb6
  have bt_6 := bt_5.step hb6
  clear sb_5 sc_5 st_5 bt_5 hb6
  cases hk : okN t with
  | false =>
    clear bt_6 st_6
    go_wp2_with fail
    refine (drawSub w6 _ _ sc_6.now).mono ?_
    rintro e w7 ⟨v2, x, l, rfl, ⟨hl0, hl1⟩, hd2, ho2, hb7⟩
    have sb_7 := sb_6.step hb7
    have sc_7 := sc_6.step hb7
    clear sb_6 sc_6 hb7
    have sx8 := St.tr ho2
    obtain ⟨ao2, cap2, rfl⟩ := ho2.form
    clear ho2
    have hn2 : x.xs.length ≤ 1048576 := by omega
    have hI2 : I64 l := by unfold I64; omega
    have N9 := (Below.refl w7.heap.size w7).alloc (Nat.le_refl _) (.cells #[.int .i64 x.st, .int .i64 x.start, .slice ao2 x.xs.length cap2] 28)
    have bx9 := St.bx (Bx.new w7 [.int .i64 x.st, .int .i64 x.start, .slice ao2 x.xs.length cap2] 28)
    have sb_9 := sb_7.step N9
    have sc_9 := sc_7.step N9
    have sx_9 := sx8.step N9
    clear sb_7 sc_7 sx8 N9
    have qbx0_1 := (bx9.now).2 0 _ rfl
    have qbx1_2 := (bx9.now).2 1 _ rfl
    have qbx2_3 := (bx9.now).2 2 _ rfl
    go_wp2_with fail
    refine (implSub x _ l (w7.alloc (.cells #[.int .i64 x.st, .int .i64 x.start, .slice ao2 x.xs.length cap2] 28)) _ sx_9.now (Nat.le_refl _) hn2 hI2).mono ?_
    clear qbx0_1 qbx1_2 qbx2_3
    rintro e w10 ⟨v3, rfl, ho3, hb10⟩
    have sb_10 := sb_9.step hb10
    have sc_10 := sc_9.step hb10
    have sx_10 := sx_9.step hb10
    have bx_10 := bx9.step hb10
    clear sb_9 sc_9 sx_9 bx9 hb10
    have si11 := St.tr ho3
    obtain ⟨ao3, cap3, rfl⟩ := ho3.form
    clear ho3
    have N12 := (Below.refl w10.heap.size w10).alloc (Nat.le_refl _) (.cells #[.int .i64 (resS x l).st, .int .i64 (resS x l).start, .slice ao3 (resS x l).xs.length cap3] 28)
    have bl12 := St.bx (Bx.new w10 [.int .i64 (resS x l).st, .int .i64 (resS x l).start, .slice ao3 (resS x l).xs.length cap3] 28)
    have sb_12 := sb_10.step N12
    have sc_12 := sc_10.step N12
    have sx_12 := sx_10.step N12
    have bx_12 := bx_10.step N12
    have si_12 := si11.step N12
    clear sb_10 sc_10 sx_10 bx_10 si11 N12
    have qbx0_4 := (bx_12.now).2 0 _ rfl
    have qbx1_5 := (bx_12.now).2 1 _ rfl
    have qbx2_6 := (bx_12.now).2 2 _ rfl
    go_wp2_with fail
    refine (specSub x _ l (w10.alloc (.cells #[.int .i64 (resS x l).st, .int .i64 (resS x l).start, .slice ao3 (resS x l).xs.length cap3] 28)) _ sx_12.now (Nat.le_refl _) hn2 hI2).mono ?_
    clear qbx0_4 qbx1_5 qbx2_6
    rintro e w13 ⟨v4, rfl, ho4, hb13⟩
    have sb_13 := sb_12.step hb13
    have sc_13 := sc_12.step hb13
    have sx_13 := sx_12.step hb13
    have bx_13 := bx_12.step hb13
    have si_13 := si_12.step hb13
    have bl_13 := bl12.step hb13
    clear sb_12 sc_12 sx_12 bx_12 si_12 bl12 hb13
    have so14 := St.tr ho4
    obtain ⟨ao4, cap4, rfl⟩ := ho4.form
    clear ho4
    have N15 := (Below.refl w13.heap.size w13).alloc (Nat.le_refl _) (.cells #[.int .i64 (resS x l).st, .int .i64 (resS x l).start, .slice ao4 (resS x l).xs.length cap4] 28)
    have bw15 := St.bx (Bx.new w13 [.int .i64 (resS x l).st, .int .i64 (resS x l).start, .slice ao4 (resS x l).xs.length cap4] 28)
    have sb_15 := sb_13.step N15
    have sc_15 := sc_13.step N15
    have sx_15 := sx_13.step N15
    have bx_15 := bx_13.step N15
    have si_15 := si_13.step N15
    have bl_15 := bl_13.step N15
    have so_15 := so14.step N15
    clear sb_13 sc_13 sx_13 bx_13 si_13 bl_13 so14 N15
    cases hk2 : okS x l with
    | false =>
      have qbl0_1 := (bl_15.now).2 0 _ rfl
      have qbl1_2 := (bl_15.now).2 1 _ rfl
      have qbl2_3 := (bl_15.now).2 2 _ rfl
      have qbw0_4 := (bw15.now).2 0 _ rfl
      have qbw1_5 := (bw15.now).2 1 _ rfl
      have qbw2_6 := (bw15.now).2 2 _ rfl
      go_wp2_with fail
      refine (vTrace_same (resS x l) _ _ (w13.alloc (.cells #[.int .i64 (resS x l).st, .int .i64 (resS x l).start, .slice ao4 (resS x l).xs.length cap4] 28)) si_15.now so_15.now).mono ?_
      clear qbl0_1 qbl1_2 qbl2_3 qbw0_4 qbw1_5 qbw2_6
      rintro e w16 ⟨rfl, hb16⟩
      have sb_16 := sb_15.step hb16
      have sc_16 := sc_15.step hb16
      have sx_16 := sx_15.step hb16
      have bx_16 := bx_15.step hb16
      have si_16 := si_15.step hb16
      have bl_16 := bl_15.step hb16
      have so_16 := so_15.step hb16
      have bw_16 := bw15.step hb16
      clear sb_15 sc_15 sx_15 bx_15 si_15 bl_15 so_15 bw15 hb16
      clear so_16 bw_16
      clear si_16 bl_16 bx_16 sx_16
      go_wp2_with fail
      refine (drawMeanOf w16 _ _ sc_16.now).mono ?_
      rintro e w17 ⟨v20, y, rfl, hd20, ho20, hb17⟩
      have sb_17 := sb_16.step hb17
      have sc_17 := sc_16.step hb17
      clear sb_16 sc_16 hb17
      have sy18 := St.tr ho20
      obtain ⟨ao20, cap20, rfl⟩ := ho20.form
      clear ho20
      have hn20 : y.xs.length ≤ 1048576 := by omega
      have N19 := (Below.refl w17.heap.size w17).alloc (Nat.le_refl _) (.cells #[.int .i64 y.st, .int .i64 y.start, .slice ao20 y.xs.length cap20] 28)
      have by19 := St.bx (Bx.new w17 [.int .i64 y.st, .int .i64 y.start, .slice ao20 y.xs.length cap20] 28)
      have sb_19 := sb_17.step N19
      have sc_19 := sc_17.step N19
      have sy_19 := sy18.step N19
      clear sb_17 sc_17 sy18 N19
      have qby0_7 := (by19.now).2 0 _ rfl
      have qby1_8 := (by19.now).2 1 _ rfl
      have qby2_9 := (by19.now).2 2 _ rfl
      go_wp2_with fail
      refine (implMean y _ (w17.alloc (.cells #[.int .i64 y.st, .int .i64 y.start, .slice ao20 y.xs.length cap20] 28)) _ sy_19.now (Nat.le_refl _) hn20).mono ?_
      clear qby0_7 qby1_8 qby2_9
      rintro e w20 ⟨rfl, hb20⟩
      have sb_20 := sb_19.step hb20
      have sc_20 := sc_19.step hb20
      have sy_20 := sy_19.step hb20
      have by_20 := by19.step hb20
      clear sb_19 sc_19 sy_19 by19 hb20
      have qby0_10 := (by_20.now).2 0 _ rfl
      have qby1_11 := (by_20.now).2 1 _ rfl
      have qby2_12 := (by_20.now).2 2 _ rfl
      go_wp2_with fail
      refine (specMean y _ w20 _ sy_20.now (Nat.le_refl _) hn20).mono ?_
      clear qby0_10 qby1_11 qby2_12
      rintro e w21 ⟨rfl, hb21⟩
      have sb_21 := sb_20.step hb21
      have sc_21 := sc_20.step hb21
      have sy_21 := sy_20.step hb21
      have by_21 := by_20.step hb21
      clear sb_20 sc_20 sy_20 by_20 hb21
      generalize mnum y = m1
      generalize mden y = m2
      generalize okN y = m3
      clear hd20 hn20
      clear by_21 sy_21
      go_wp2_with fail
      refine (drawCrossings w21 _ _ sc_21.now).mono ?_
      rintro e w22 ⟨v21, z, rfl, hd21, ho21, hb22⟩
      have sb_22 := sb_21.step hb22
      have sc_22 := sc_21.step hb22
      clear sb_21 sc_21 hb22
      have sz23 := St.tr ho21
      obtain ⟨ao21, cap21, rfl⟩ := ho21.form
      clear ho21
      have hn21 : z.xs.length ≤ 1048576 := by omega
      have N24 := (Below.refl w22.heap.size w22).alloc (Nat.le_refl _) (.cells #[.int .i64 z.st, .int .i64 z.start, .slice ao21 z.xs.length cap21] 28)
      have bz24 := St.bx (Bx.new w22 [.int .i64 z.st, .int .i64 z.start, .slice ao21 z.xs.length cap21] 28)
      have sb_24 := sb_22.step N24
      have sc_24 := sc_22.step N24
      have sz_24 := sz23.step N24
      clear sb_22 sc_22 sz23 N24
      have qbz0_13 := (bz24.now).2 0 _ rfl
      have qbz1_14 := (bz24.now).2 1 _ rfl
      have qbz2_15 := (bz24.now).2 2 _ rfl
      go_wp2_with fail
      refine (implCrs z _ (w22.alloc (.cells #[.int .i64 z.st, .int .i64 z.start, .slice ao21 z.xs.length cap21] 28)) _ sz_24.now (Nat.le_refl _) hn21).mono ?_
      clear qbz0_13 qbz1_14 qbz2_15
      rintro e w25 ⟨v22, rfl, ho22, hb25⟩
      have sb_25 := sb_24.step hb25
      have sc_25 := sc_24.step hb25
      have sz_25 := sz_24.step hb25
      have bz_25 := bz24.step hb25
      clear sb_24 sc_24 sz_24 bz24 hb25
      have sp26 := St.own ho22
      clear ho22
      have qbz0_16 := (bz_25.now).2 0 _ rfl
      have qbz1_17 := (bz_25.now).2 1 _ rfl
      have qbz2_18 := (bz_25.now).2 2 _ rfl
      go_wp2_with fail
      refine (specCrs z _ w25 _ sz_25.now (Nat.le_refl _) hn21).mono ?_
      clear qbz0_16 qbz1_17 qbz2_18
      rintro e w27 ⟨v23, rfl, ho23, hb27⟩
      have sb_27 := sb_25.step hb27
      have sc_27 := sc_25.step hb27
      have sz_27 := sz_25.step hb27
      have bz_27 := bz_25.step hb27
      have sp_27 := sp26.step hb27
      clear sb_25 sc_25 sz_25 bz_25 sp26 hb27
      have sq28 := St.own ho23
      clear ho23
      generalize goodT z = gz
      generalize resC z = rz at *
      clear hd21 hn21
      go_wp2_with fail
      refine (vInts_same _ v22 v23 w27 _ sp_27.now sq28.now (Nat.le_refl _)).mono ?_
      rintro e w29 ⟨rfl, hb29⟩
      have sb_29 := sb_27.step hb29
      have sc_29 := sc_27.step hb29
      have sz_29 := sz_27.step hb29
      have bz_29 := bz_27.step hb29
      have sp_29 := sp_27.step hb29
      have sq_29 := sq28.step hb29
      clear sb_27 sc_27 sz_27 bz_27 sp_27 sq28 hb29
      clear sp_29 sq_29 bz_29 sz_29
      go_wp2_with fail
      refine (drawSAt w29 _ _ sc_29.now).mono ?_
      rintro e w30 ⟨v24, u, k, rfl, ⟨hk0, hk1⟩, hd24, ho24, hb30⟩
      have sb_30 := sb_29.step hb30
      have sc_30 := sc_29.step hb30
      clear sb_29 sc_29 hb30
      have su31 := St.tr ho24
      obtain ⟨ao24, cap24, rfl⟩ := ho24.form
      clear ho24
      have hn24 : u.xs.length ≤ 1048576 := by omega
      have hI24 : I64 k := by unfold I64; omega
      have N32 := (Below.refl w30.heap.size w30).alloc (Nat.le_refl _) (.cells #[.int .i64 u.st, .int .i64 u.start, .slice ao24 u.xs.length cap24] 28)
      have bu32 := St.bx (Bx.new w30 [.int .i64 u.st, .int .i64 u.start, .slice ao24 u.xs.length cap24] 28)
      have sb_32 := sb_30.step N32
      have sc_32 := sc_30.step N32
      have su_32 := su31.step N32
      clear sb_30 sc_30 su31 N32
      have qbu0_19 := (bu32.now).2 0 _ rfl
      have qbu1_20 := (bu32.now).2 1 _ rfl
      have qbu2_21 := (bu32.now).2 2 _ rfl
      go_wp2_with fail
      refine (implAt u _ k (w30.alloc (.cells #[.int .i64 u.st, .int .i64 u.start, .slice ao24 u.xs.length cap24] 28)) _ su_32.now (Nat.le_refl _) hn24 hI24).mono ?_
      clear qbu0_19 qbu1_20 qbu2_21
      rintro e w33 ⟨rfl, hb33⟩
      have sb_33 := sb_32.step hb33
      have sc_33 := sc_32.step hb33
      have su_33 := su_32.step hb33
      have bu_33 := bu32.step hb33
      clear sb_32 sc_32 su_32 bu32 hb33
      have qbu0_22 := (bu_33.now).2 0 _ rfl
      have qbu1_23 := (bu_33.now).2 1 _ rfl
      have qbu2_24 := (bu_33.now).2 2 _ rfl
      go_wp2_with fail
      refine (specAt u _ k w33 _ su_33.now (Nat.le_refl _) hn24 hI24).mono ?_
      clear qbu0_22 qbu1_23 qbu2_24
      rintro e w34 ⟨rfl, hb34⟩
      have sb_34 := sb_33.step hb34
      have sc_34 := sc_33.step hb34
      have su_34 := su_33.step hb34
      have bu_34 := bu_33.step hb34
      clear sb_33 sc_33 su_33 bu_33 hb34
      generalize resAt u k = ru
      generalize okAt u k = ku
      go_wp2
      go_ret
      exact ⟨ret_bool (by simp), sb_34.now⟩
    | true =>
      have qbl0_1 := (bl_15.now).2 0 _ rfl
      have qbl1_2 := (bl_15.now).2 1 _ rfl
      have qbl2_3 := (bl_15.now).2 2 _ rfl
      have qbw0_4 := (bw15.now).2 0 _ rfl
      have qbw1_5 := (bw15.now).2 1 _ rfl
      have qbw2_6 := (bw15.now).2 2 _ rfl
      go_wp2_with fail
      refine (vTrace_same (resS x l) _ _ (w13.alloc (.cells #[.int .i64 (resS x l).st, .int .i64 (resS x l).start, .slice ao4 (resS x l).xs.length cap4] 28)) si_15.now so_15.now).mono ?_
      clear qbl0_1 qbl1_2 qbl2_3 qbw0_4 qbw1_5 qbw2_6
      rintro e w16 ⟨rfl, hb16⟩
      have sb_16 := sb_15.step hb16
      have sc_16 := sc_15.step hb16
      have sx_16 := sx_15.step hb16
      have bx_16 := bx_15.step hb16
      have si_16 := si_15.step hb16
      have bl_16 := bl_15.step hb16
      have so_16 := so_15.step hb16
      have bw_16 := bw15.step hb16
      clear sb_15 sc_15 sx_15 bx_15 si_15 bl_15 so_15 bw15 hb16
      clear so_16 bw_16
      by_cases hp : 0 < x.xs.length
      · obtain ⟨o1, o2, hmn, ⟨a0, a1⟩, ⟨b0, b1⟩, ⟨c0, c1⟩, ⟨d0, d1⟩⟩ := means hk2 hp
        have hlb := (okS_parts hk2).2.1
        have hn3 : (resS x l).xs.length ≤ 1048576 := resS_len x l hn2
        have hp1 : (0 : Int) < (x.xs.length : Int) := by omega
        obtain ⟨a, hea⟩ : ∃ a, mnum x = a := ⟨_, rfl⟩
        obtain ⟨b, heb⟩ : ∃ b, mden x = b := ⟨_, rfl⟩
        obtain ⟨c, hec⟩ : ∃ c, mnum (resS x l) = c := ⟨_, rfl⟩
        obtain ⟨d, hed⟩ : ∃ d, mden (resS x l) = d := ⟨_, rfl⟩
        have HA := Lib.hid (fun v w' (h : TrL w' w'.heap.size v x) => implMeanT x v w' _ h (Nat.le_refl _) hn2 o1)
        have HB2 := Lib.hid (fun v w' (h : TrL w' w'.heap.size v (resS x l)) => implMeanT (resS x l) v w' _ h (Nat.le_refl _) hn3 o2)
        rw [hea, heb] at HA
        rw [hec, hed] at HB2
        rw [hea, heb, hec, hed] at hmn
        rw [hea] at a0 a1
        rw [heb] at b0 b1
        rw [hec] at c0 c1
        rw [hed] at d0 d1
        clear hea heb hec hed
        have s1 := mul_bd (x := l) (y := b) (X := 100000) (Y := 24) (by omega) (by omega) (by omega) b1
        have s2 := mul_bd (x := a - l * b) (y := d) (X := 4800000) (Y := 24) (by omega) (by omega) (by omega) d1
        have s3 := mul_bd (x := c) (y := b) (X := 2400000) (Y := 24) (by omega) (by omega) (by omega) b1
        have t1 : IntKind.i64.wrap (l * b) = l * b := IntWalk.i64_in _ (by omega)
        have t2 : IntKind.i64.wrap (a - l * b) = a - l * b := IntWalk.i64_in _ (by omega)
        have t3 : IntKind.i64.wrap ((a - l * b) * d) = c * b := by rw [hmn]; exact IntWalk.i64_in _ (by omega)
        have t4 : IntKind.i64.wrap (c * b) = c * b := IntWalk.i64_in _ (by omega)
        clear hmn s1 s2 s3 a0 a1 b0 b1 c0 c1 d0 d1 o1 o2
        have qbx0_1 := (bx_16.now).2 0 _ rfl
        have qbx1_2 := (bx_16.now).2 1 _ rfl
        have qbx2_3 := (bx_16.now).2 2 _ rfl
        go_wp2_with fail
        refine (HA.out _ w16 sx_16.now).mono ?_
        clear qbx0_1 qbx1_2 qbx2_3
        rintro e w17 ⟨rfl, hb17⟩
        have sb_17 := sb_16.step hb17
        have sc_17 := sc_16.step hb17
        have sx_17 := sx_16.step hb17
        have bx_17 := bx_16.step hb17
        have si_17 := si_16.step hb17
        have bl_17 := bl_16.step hb17
        clear sb_16 sc_16 sx_16 bx_16 si_16 bl_16 hb17
        have qbl0_4 := (bl_17.now).2 0 _ rfl
        have qbl1_5 := (bl_17.now).2 1 _ rfl
        have qbl2_6 := (bl_17.now).2 2 _ rfl
        go_wp2_with fail
        refine (HB2.out _ w17 si_17.now).mono ?_
        clear qbl0_4 qbl1_5 qbl2_6
        rintro e w18 ⟨rfl, hb18⟩
        have sb_18 := sb_17.step hb18
        have sc_18 := sc_17.step hb18
        have sx_18 := sx_17.step hb18
        have bx_18 := bx_17.step hb18
        have si_18 := si_17.step hb18
        have bl_18 := bl_17.step hb18
        clear sb_17 sc_17 sx_17 bx_17 si_17 bl_17 hb18
        clear HA HB2
        clear si_18 sx_18
        clear bl_18 bx_18
        go_wp2_with fail
        refine (drawMeanOf w18 _ _ sc_18.now).mono ?_
        rintro e w19 ⟨v20, y, rfl, hd20, ho20, hb19⟩
        have sb_19 := sb_18.step hb19
        have sc_19 := sc_18.step hb19
        clear sb_18 sc_18 hb19
        have sy20 := St.tr ho20
        obtain ⟨ao20, cap20, rfl⟩ := ho20.form
        clear ho20
        have hn20 : y.xs.length ≤ 1048576 := by omega
        have N21 := (Below.refl w19.heap.size w19).alloc (Nat.le_refl _) (.cells #[.int .i64 y.st, .int .i64 y.start, .slice ao20 y.xs.length cap20] 28)
        have by21 := St.bx (Bx.new w19 [.int .i64 y.st, .int .i64 y.start, .slice ao20 y.xs.length cap20] 28)
        have sb_21 := sb_19.step N21
        have sc_21 := sc_19.step N21
        have sy_21 := sy20.step N21
        clear sb_19 sc_19 sy20 N21
        have qby0_7 := (by21.now).2 0 _ rfl
        have qby1_8 := (by21.now).2 1 _ rfl
        have qby2_9 := (by21.now).2 2 _ rfl
        go_wp2_with fail
        refine (implMean y _ (w19.alloc (.cells #[.int .i64 y.st, .int .i64 y.start, .slice ao20 y.xs.length cap20] 28)) _ sy_21.now (Nat.le_refl _) hn20).mono ?_
        clear qby0_7 qby1_8 qby2_9
        rintro e w22 ⟨rfl, hb22⟩
        have sb_22 := sb_21.step hb22
        have sc_22 := sc_21.step hb22
        have sy_22 := sy_21.step hb22
        have by_22 := by21.step hb22
        clear sb_21 sc_21 sy_21 by21 hb22
        have qby0_10 := (by_22.now).2 0 _ rfl
        have qby1_11 := (by_22.now).2 1 _ rfl
        have qby2_12 := (by_22.now).2 2 _ rfl
        go_wp2_with fail
        refine (specMean y _ w22 _ sy_22.now (Nat.le_refl _) hn20).mono ?_
        clear qby0_10 qby1_11 qby2_12
        rintro e w23 ⟨rfl, hb23⟩
        have sb_23 := sb_22.step hb23
        have sc_23 := sc_22.step hb23
        have sy_23 := sy_22.step hb23
        have by_23 := by_22.step hb23
        clear sb_22 sc_22 sy_22 by_22 hb23
        generalize mnum y = m1
        generalize mden y = m2
        generalize okN y = m3
        clear hd20 hn20
        clear by_23 sy_23
        go_wp2_with fail
        refine (drawCrossings w23 _ _ sc_23.now).mono ?_
        rintro e w24 ⟨v21, z, rfl, hd21, ho21, hb24⟩
        have sb_24 := sb_23.step hb24
        have sc_24 := sc_23.step hb24
        clear sb_23 sc_23 hb24
        have sz25 := St.tr ho21
        obtain ⟨ao21, cap21, rfl⟩ := ho21.form
        clear ho21
        have hn21 : z.xs.length ≤ 1048576 := by omega
        have N26 := (Below.refl w24.heap.size w24).alloc (Nat.le_refl _) (.cells #[.int .i64 z.st, .int .i64 z.start, .slice ao21 z.xs.length cap21] 28)
        have bz26 := St.bx (Bx.new w24 [.int .i64 z.st, .int .i64 z.start, .slice ao21 z.xs.length cap21] 28)
        have sb_26 := sb_24.step N26
        have sc_26 := sc_24.step N26
        have sz_26 := sz25.step N26
        clear sb_24 sc_24 sz25 N26
        have qbz0_13 := (bz26.now).2 0 _ rfl
        have qbz1_14 := (bz26.now).2 1 _ rfl
        have qbz2_15 := (bz26.now).2 2 _ rfl
        go_wp2_with fail
        refine (implCrs z _ (w24.alloc (.cells #[.int .i64 z.st, .int .i64 z.start, .slice ao21 z.xs.length cap21] 28)) _ sz_26.now (Nat.le_refl _) hn21).mono ?_
        clear qbz0_13 qbz1_14 qbz2_15
        rintro e w27 ⟨v22, rfl, ho22, hb27⟩
        have sb_27 := sb_26.step hb27
        have sc_27 := sc_26.step hb27
        have sz_27 := sz_26.step hb27
        have bz_27 := bz26.step hb27
        clear sb_26 sc_26 sz_26 bz26 hb27
        have sp28 := St.own ho22
        clear ho22
        have qbz0_16 := (bz_27.now).2 0 _ rfl
        have qbz1_17 := (bz_27.now).2 1 _ rfl
        have qbz2_18 := (bz_27.now).2 2 _ rfl
        go_wp2_with fail
        refine (specCrs z _ w27 _ sz_27.now (Nat.le_refl _) hn21).mono ?_
        clear qbz0_16 qbz1_17 qbz2_18
        rintro e w29 ⟨v23, rfl, ho23, hb29⟩
        have sb_29 := sb_27.step hb29
        have sc_29 := sc_27.step hb29
        have sz_29 := sz_27.step hb29
        have bz_29 := bz_27.step hb29
        have sp_29 := sp28.step hb29
        clear sb_27 sc_27 sz_27 bz_27 sp28 hb29
        have sq30 := St.own ho23
        clear ho23
        generalize goodT z = gz
        generalize resC z = rz at *
        clear hd21 hn21
        go_wp2_with fail
        refine (vInts_same _ v22 v23 w29 _ sp_29.now sq30.now (Nat.le_refl _)).mono ?_
        rintro e w31 ⟨rfl, hb31⟩
        have sb_31 := sb_29.step hb31
        have sc_31 := sc_29.step hb31
        have sz_31 := sz_29.step hb31
        have bz_31 := bz_29.step hb31
        have sp_31 := sp_29.step hb31
        have sq_31 := sq30.step hb31
        clear sb_29 sc_29 sz_29 bz_29 sp_29 sq30 hb31
        clear sp_31 sq_31 bz_31 sz_31
        go_wp2_with fail
        refine (drawSAt w31 _ _ sc_31.now).mono ?_
        rintro e w32 ⟨v24, u, k, rfl, ⟨hk0, hk1⟩, hd24, ho24, hb32⟩
        have sb_32 := sb_31.step hb32
        have sc_32 := sc_31.step hb32
        clear sb_31 sc_31 hb32
        have su33 := St.tr ho24
        obtain ⟨ao24, cap24, rfl⟩ := ho24.form
        clear ho24
        have hn24 : u.xs.length ≤ 1048576 := by omega
        have hI24 : I64 k := by unfold I64; omega
        have N34 := (Below.refl w32.heap.size w32).alloc (Nat.le_refl _) (.cells #[.int .i64 u.st, .int .i64 u.start, .slice ao24 u.xs.length cap24] 28)
        have bu34 := St.bx (Bx.new w32 [.int .i64 u.st, .int .i64 u.start, .slice ao24 u.xs.length cap24] 28)
        have sb_34 := sb_32.step N34
        have sc_34 := sc_32.step N34
        have su_34 := su33.step N34
        clear sb_32 sc_32 su33 N34
        have qbu0_19 := (bu34.now).2 0 _ rfl
        have qbu1_20 := (bu34.now).2 1 _ rfl
        have qbu2_21 := (bu34.now).2 2 _ rfl
        go_wp2_with fail
        refine (implAt u _ k (w32.alloc (.cells #[.int .i64 u.st, .int .i64 u.start, .slice ao24 u.xs.length cap24] 28)) _ su_34.now (Nat.le_refl _) hn24 hI24).mono ?_
        clear qbu0_19 qbu1_20 qbu2_21
        rintro e w35 ⟨rfl, hb35⟩
        have sb_35 := sb_34.step hb35
        have sc_35 := sc_34.step hb35
        have su_35 := su_34.step hb35
        have bu_35 := bu34.step hb35
        clear sb_34 sc_34 su_34 bu34 hb35
        have qbu0_22 := (bu_35.now).2 0 _ rfl
        have qbu1_23 := (bu_35.now).2 1 _ rfl
        have qbu2_24 := (bu_35.now).2 2 _ rfl
        go_wp2_with fail
        refine (specAt u _ k w35 _ su_35.now (Nat.le_refl _) hn24 hI24).mono ?_
        clear qbu0_22 qbu1_23 qbu2_24
        rintro e w36 ⟨rfl, hb36⟩
        have sb_36 := sb_35.step hb36
        have sc_36 := sc_35.step hb36
        have su_36 := su_35.step hb36
        have bu_36 := bu_35.step hb36
        clear sb_35 sc_35 su_35 bu_35 hb36
        generalize resAt u k = ru
        generalize okAt u k = ku
        go_wp2
        go_ret
        exact ⟨ret_bool (by simp), sb_36.now⟩
      · have hp1 : ¬ (0 : Int) < (x.xs.length : Int) := by omega
        have qbx0_1 := (bx_16.now).2 0 _ rfl
        have qbx1_2 := (bx_16.now).2 1 _ rfl
        have qbx2_3 := (bx_16.now).2 2 _ rfl
        clear si_16 sx_16
        go_wp2_with fail
        refine (drawMeanOf w16 _ _ sc_16.now).mono ?_
        rintro e w17 ⟨v20, y, rfl, hd20, ho20, hb17⟩
        have sb_17 := sb_16.step hb17
        have sc_17 := sc_16.step hb17
        have bx_17 := bx_16.step hb17
        have bl_17 := bl_16.step hb17
        clear sb_16 sc_16 bx_16 bl_16 hb17
        have sy18 := St.tr ho20
        obtain ⟨ao20, cap20, rfl⟩ := ho20.form
        clear ho20
        have hn20 : y.xs.length ≤ 1048576 := by omega
        have N19 := (Below.refl w17.heap.size w17).alloc (Nat.le_refl _) (.cells #[.int .i64 y.st, .int .i64 y.start, .slice ao20 y.xs.length cap20] 28)
        have by19 := St.bx (Bx.new w17 [.int .i64 y.st, .int .i64 y.start, .slice ao20 y.xs.length cap20] 28)
        have sb_19 := sb_17.step N19
        have sc_19 := sc_17.step N19
        have bx_19 := bx_17.step N19
        have bl_19 := bl_17.step N19
        have sy_19 := sy18.step N19
        clear sb_17 sc_17 bx_17 bl_17 sy18 N19
        have qby0_4 := (by19.now).2 0 _ rfl
        have qby1_5 := (by19.now).2 1 _ rfl
        have qby2_6 := (by19.now).2 2 _ rfl
        go_wp2_with fail
        refine (implMean y _ (w17.alloc (.cells #[.int .i64 y.st, .int .i64 y.start, .slice ao20 y.xs.length cap20] 28)) _ sy_19.now (Nat.le_refl _) hn20).mono ?_
        clear qby0_4 qby1_5 qby2_6
        rintro e w20 ⟨rfl, hb20⟩
        have sb_20 := sb_19.step hb20
        have sc_20 := sc_19.step hb20
        have bx_20 := bx_19.step hb20
        have bl_20 := bl_19.step hb20
        have sy_20 := sy_19.step hb20
        have by_20 := by19.step hb20
        clear sb_19 sc_19 bx_19 bl_19 sy_19 by19 hb20
        have qby0_7 := (by_20.now).2 0 _ rfl
        have qby1_8 := (by_20.now).2 1 _ rfl
        have qby2_9 := (by_20.now).2 2 _ rfl
        go_wp2_with fail
        refine (specMean y _ w20 _ sy_20.now (Nat.le_refl _) hn20).mono ?_
        clear qby0_7 qby1_8 qby2_9
        rintro e w21 ⟨rfl, hb21⟩
        have sb_21 := sb_20.step hb21
        have sc_21 := sc_20.step hb21
        have bx_21 := bx_20.step hb21
        have bl_21 := bl_20.step hb21
        have sy_21 := sy_20.step hb21
        have by_21 := by_20.step hb21
        clear sb_20 sc_20 bx_20 bl_20 sy_20 by_20 hb21
        generalize mnum y = m1
        generalize mden y = m2
        generalize okN y = m3
        clear hd20 hn20
        clear by_21 sy_21
        go_wp2_with fail
        refine (drawCrossings w21 _ _ sc_21.now).mono ?_
        rintro e w22 ⟨v21, z, rfl, hd21, ho21, hb22⟩
        have sb_22 := sb_21.step hb22
        have sc_22 := sc_21.step hb22
        have bx_22 := bx_21.step hb22
        have bl_22 := bl_21.step hb22
        clear sb_21 sc_21 bx_21 bl_21 hb22
        have sz23 := St.tr ho21
        obtain ⟨ao21, cap21, rfl⟩ := ho21.form
        clear ho21
        have hn21 : z.xs.length ≤ 1048576 := by omega
        have N24 := (Below.refl w22.heap.size w22).alloc (Nat.le_refl _) (.cells #[.int .i64 z.st, .int .i64 z.start, .slice ao21 z.xs.length cap21] 28)
        have bz24 := St.bx (Bx.new w22 [.int .i64 z.st, .int .i64 z.start, .slice ao21 z.xs.length cap21] 28)
        have sb_24 := sb_22.step N24
        have sc_24 := sc_22.step N24
        have bx_24 := bx_22.step N24
        have bl_24 := bl_22.step N24
        have sz_24 := sz23.step N24
        clear sb_22 sc_22 bx_22 bl_22 sz23 N24
        have qbz0_10 := (bz24.now).2 0 _ rfl
        have qbz1_11 := (bz24.now).2 1 _ rfl
        have qbz2_12 := (bz24.now).2 2 _ rfl
        go_wp2_with fail
        refine (implCrs z _ (w22.alloc (.cells #[.int .i64 z.st, .int .i64 z.start, .slice ao21 z.xs.length cap21] 28)) _ sz_24.now (Nat.le_refl _) hn21).mono ?_
        clear qbz0_10 qbz1_11 qbz2_12
        rintro e w25 ⟨v22, rfl, ho22, hb25⟩
        have sb_25 := sb_24.step hb25
        have sc_25 := sc_24.step hb25
        have bx_25 := bx_24.step hb25
        have bl_25 := bl_24.step hb25
        have sz_25 := sz_24.step hb25
        have bz_25 := bz24.step hb25
        clear sb_24 sc_24 bx_24 bl_24 sz_24 bz24 hb25
        have sp26 := St.own ho22
        clear ho22
        have qbz0_13 := (bz_25.now).2 0 _ rfl
        have qbz1_14 := (bz_25.now).2 1 _ rfl
        have qbz2_15 := (bz_25.now).2 2 _ rfl
        go_wp2_with fail
        refine (specCrs z _ w25 _ sz_25.now (Nat.le_refl _) hn21).mono ?_
        clear qbz0_13 qbz1_14 qbz2_15
        rintro e w27 ⟨v23, rfl, ho23, hb27⟩
        have sb_27 := sb_25.step hb27
        have sc_27 := sc_25.step hb27
        have bx_27 := bx_25.step hb27
        have bl_27 := bl_25.step hb27
        have sz_27 := sz_25.step hb27
        have bz_27 := bz_25.step hb27
        have sp_27 := sp26.step hb27
        clear sb_25 sc_25 bx_25 bl_25 sz_25 bz_25 sp26 hb27
        have sq28 := St.own ho23
        clear ho23
        generalize goodT z = gz
        generalize resC z = rz at *
        clear hd21 hn21
        go_wp2_with fail
        refine (vInts_same _ v22 v23 w27 _ sp_27.now sq28.now (Nat.le_refl _)).mono ?_
        rintro e w29 ⟨rfl, hb29⟩
        have sb_29 := sb_27.step hb29
        have sc_29 := sc_27.step hb29
        have bx_29 := bx_27.step hb29
        have bl_29 := bl_27.step hb29
        have sz_29 := sz_27.step hb29
        have bz_29 := bz_27.step hb29
        have sp_29 := sp_27.step hb29
        have sq_29 := sq28.step hb29
        clear sb_27 sc_27 bx_27 bl_27 sz_27 bz_27 sp_27 sq28 hb29
        clear sp_29 sq_29 bz_29 sz_29
        go_wp2_with fail
        refine (drawSAt w29 _ _ sc_29.now).mono ?_
        rintro e w30 ⟨v24, u, k, rfl, ⟨hk0, hk1⟩, hd24, ho24, hb30⟩
        have sb_30 := sb_29.step hb30
        have sc_30 := sc_29.step hb30
        have bx_30 := bx_29.step hb30
        have bl_30 := bl_29.step hb30
        clear sb_29 sc_29 bx_29 bl_29 hb30
        have su31 := St.tr ho24
        obtain ⟨ao24, cap24, rfl⟩ := ho24.form
        clear ho24
        have hn24 : u.xs.length ≤ 1048576 := by omega
        have hI24 : I64 k := by unfold I64; omega
        have N32 := (Below.refl w30.heap.size w30).alloc (Nat.le_refl _) (.cells #[.int .i64 u.st, .int .i64 u.start, .slice ao24 u.xs.length cap24] 28)
        have bu32 := St.bx (Bx.new w30 [.int .i64 u.st, .int .i64 u.start, .slice ao24 u.xs.length cap24] 28)
        have sb_32 := sb_30.step N32
        have sc_32 := sc_30.step N32
        have bx_32 := bx_30.step N32
        have bl_32 := bl_30.step N32
        have su_32 := su31.step N32
        clear sb_30 sc_30 bx_30 bl_30 su31 N32
        have qbu0_16 := (bu32.now).2 0 _ rfl
        have qbu1_17 := (bu32.now).2 1 _ rfl
        have qbu2_18 := (bu32.now).2 2 _ rfl
        go_wp2_with fail
        refine (implAt u _ k (w30.alloc (.cells #[.int .i64 u.st, .int .i64 u.start, .slice ao24 u.xs.length cap24] 28)) _ su_32.now (Nat.le_refl _) hn24 hI24).mono ?_
        clear qbu0_16 qbu1_17 qbu2_18
        rintro e w33 ⟨rfl, hb33⟩
        have sb_33 := sb_32.step hb33
        have sc_33 := sc_32.step hb33
        have bx_33 := bx_32.step hb33
        have bl_33 := bl_32.step hb33
        have su_33 := su_32.step hb33
        have bu_33 := bu32.step hb33
        clear sb_32 sc_32 bx_32 bl_32 su_32 bu32 hb33
        have qbu0_19 := (bu_33.now).2 0 _ rfl
        have qbu1_20 := (bu_33.now).2 1 _ rfl
        have qbu2_21 := (bu_33.now).2 2 _ rfl
        go_wp2_with fail
        refine (specAt u _ k w33 _ su_33.now (Nat.le_refl _) hn24 hI24).mono ?_
        clear qbu0_19 qbu1_20 qbu2_21
        rintro e w34 ⟨rfl, hb34⟩
        have sb_34 := sb_33.step hb34
        have sc_34 := sc_33.step hb34
        have bx_34 := bx_33.step hb34
        have bl_34 := bl_33.step hb34
        have su_34 := su_33.step hb34
        have bu_34 := bu_33.step hb34
        clear sb_33 sc_33 bx_33 bl_33 su_33 bu_33 hb34
        generalize resAt u k = ru
        generalize okAt u k = ku
        go_wp2
        go_ret
        exact ⟨ret_bool (by simp), sb_34.now⟩
  | true =>
    have hvb := valL_bd hk
    have HMX := Lib.hid (fun i x (hx : t.xs[i]? = some x) => And.intro (val_max hk hx) (okX_get (goodT_yes (okN_parts hk).1).2 hx))
    have qbt0_1 := (bt_6.now).2 0 _ rfl
    have qbt1_2 := (bt_6.now).2 1 _ rfl
    have qbt2_3 := (bt_6.now).2 2 _ rfl
    go_wp2_with fail
    refine (implAtL t _ w6 _ st_6.now (Nat.le_refl _) hn1 hk).mono ?_
    clear qbt0_1 qbt1_2 qbt2_3
    rintro e w7 ⟨rfl, hb7⟩
    have sb_7 := sb_6.step hb7
    have sc_7 := sc_6.step hb7
    have st_7 := st_6.step hb7
    have bt_7 := bt_6.step hb7
    clear sb_6 sc_6 st_6 bt_6 hb7
    generalize valL t = m at *
    generalize tickL t = k at *
    have HST := Lib.hid st_7
    have HBT := Lib.hid bt_7
    go_wp2
    go_loopw [12] (fun i wr => ∃ (k : Nat), k ≤ t.xs.length ∧ i = .int .i64 k ∧ Below w7.heap.size w7 wr) (fun i _ => t.xs.length - (intOf i).toNat)
    case atStart => exact ⟨0, Nat.zero_le _, rfl, Below.refl _ _⟩
    case round =>
      obtain ⟨j, hj9, rfl, hbl⟩ := hrel
      have bt9 := (HBT.out.step hbl).now
      have p2 := bt9.2 2 _ rfl
      by_cases hlt : j < t.xs.length
      case pos =>
        obtain ⟨y, hy⟩ := get_of_lt hlt
        obtain ⟨hym, hy0, hy1⟩ := HMX.out j y hy
        obtain ⟨vs9, hv9, ao9, cap9, hq0, hq1, hq2, -, hc9⟩ := (HST.out.step hbl).now
        simp only [Value.agg.injEq, Array.mk.injEq, List.cons.injEq, and_true, true_and] at hv9
        subst hv9
        simp only [Value.slice.injEq] at hq0
        obtain ⟨rfl, -, rfl⟩ := hq0
        obtain ⟨b, off, rfl, hb9, hcy⟩ := hc9 j y hy
        have hi0 : (0 : Int) ≤ (j : Int) := by omega
        have hi1 : (j : Int) < (t.xs.length : Int) := by omega
        clear hc9 hy
        go_wp2_with fail
        refine (vSize_is y _ hy0 hy1).mono ?_
        rintro e w8 ⟨rfl, hw8⟩
        obtain rfl := hw8.symm
        go_wp2_with fail
        refine (vSize_is m _ hvb.1 hvb.2).mono ?_
        rintro e w9 ⟨rfl, hw9⟩
        obtain rfl := hw9.symm
        have hng : ¬ ab m < ab y := by omega
        go_wp2
        go_roundw
        case rel => exact ⟨j + 1, by omega, by go_num, hbl⟩
        case measure => simp [intOf]; omega
      obtain rfl : j = t.xs.length := by omega
      have sb_z := sb_7.step hbl
      have sc_z := sc_7.step hbl
      have st_z := st_7.step hbl
      have bt_z := bt_7.step hbl
      clear HST HBT HMX hbl
      clear st_z bt_z
      go_wp2_with fail
      refine (drawSub wr _ _ sc_z.now).mono ?_
      rintro e w8 ⟨v2, x, l, rfl, ⟨hl0, hl1⟩, hd2, ho2, hb8⟩
      have sb_8 := sb_z.step hb8
      have sc_8 := sc_z.step hb8
      clear sb_z sc_z hb8
      have sx9 := St.tr ho2
      obtain ⟨ao2, cap2, rfl⟩ := ho2.form
      clear ho2
      have hn2 : x.xs.length ≤ 1048576 := by omega
      have hI2 : I64 l := by unfold I64; omega
      have N10 := (Below.refl w8.heap.size w8).alloc (Nat.le_refl _) (.cells #[.int .i64 x.st, .int .i64 x.start, .slice ao2 x.xs.length cap2] 28)
      have bx10 := St.bx (Bx.new w8 [.int .i64 x.st, .int .i64 x.start, .slice ao2 x.xs.length cap2] 28)
      have sb_10 := sb_8.step N10
      have sc_10 := sc_8.step N10
      have sx_10 := sx9.step N10
      clear sb_8 sc_8 sx9 N10
      have qbx0_1 := (bx10.now).2 0 _ rfl
      have qbx1_2 := (bx10.now).2 1 _ rfl
      have qbx2_3 := (bx10.now).2 2 _ rfl
      go_wp2_with fail
      refine (implSub x _ l (w8.alloc (.cells #[.int .i64 x.st, .int .i64 x.start, .slice ao2 x.xs.length cap2] 28)) _ sx_10.now (Nat.le_refl _) hn2 hI2).mono ?_
      clear qbx0_1 qbx1_2 qbx2_3
      rintro e w11 ⟨v3, rfl, ho3, hb11⟩
      have sb_11 := sb_10.step hb11
      have sc_11 := sc_10.step hb11
      have sx_11 := sx_10.step hb11
      have bx_11 := bx10.step hb11
      clear sb_10 sc_10 sx_10 bx10 hb11
      have si12 := St.tr ho3
      obtain ⟨ao3, cap3, rfl⟩ := ho3.form
      clear ho3
      have N13 := (Below.refl w11.heap.size w11).alloc (Nat.le_refl _) (.cells #[.int .i64 (resS x l).st, .int .i64 (resS x l).start, .slice ao3 (resS x l).xs.length cap3] 28)
      have bl13 := St.bx (Bx.new w11 [.int .i64 (resS x l).st, .int .i64 (resS x l).start, .slice ao3 (resS x l).xs.length cap3] 28)
      have sb_13 := sb_11.step N13
      have sc_13 := sc_11.step N13
      have sx_13 := sx_11.step N13
      have bx_13 := bx_11.step N13
      have si_13 := si12.step N13
      clear sb_11 sc_11 sx_11 bx_11 si12 N13
      have qbx0_4 := (bx_13.now).2 0 _ rfl
      have qbx1_5 := (bx_13.now).2 1 _ rfl
      have qbx2_6 := (bx_13.now).2 2 _ rfl
      go_wp2_with fail
      refine (specSub x _ l (w11.alloc (.cells #[.int .i64 (resS x l).st, .int .i64 (resS x l).start, .slice ao3 (resS x l).xs.length cap3] 28)) _ sx_13.now (Nat.le_refl _) hn2 hI2).mono ?_
      clear qbx0_4 qbx1_5 qbx2_6
      rintro e w14 ⟨v4, rfl, ho4, hb14⟩
      have sb_14 := sb_13.step hb14
      have sc_14 := sc_13.step hb14
      have sx_14 := sx_13.step hb14
      have bx_14 := bx_13.step hb14
      have si_14 := si_13.step hb14
      have bl_14 := bl13.step hb14
      clear sb_13 sc_13 sx_13 bx_13 si_13 bl13 hb14
      have so15 := St.tr ho4
      obtain ⟨ao4, cap4, rfl⟩ := ho4.form
      clear ho4
      have N16 := (Below.refl w14.heap.size w14).alloc (Nat.le_refl _) (.cells #[.int .i64 (resS x l).st, .int .i64 (resS x l).start, .slice ao4 (resS x l).xs.length cap4] 28)
      have bw16 := St.bx (Bx.new w14 [.int .i64 (resS x l).st, .int .i64 (resS x l).start, .slice ao4 (resS x l).xs.length cap4] 28)
      have sb_16 := sb_14.step N16
      have sc_16 := sc_14.step N16
      have sx_16 := sx_14.step N16
      have bx_16 := bx_14.step N16
      have si_16 := si_14.step N16
      have bl_16 := bl_14.step N16
      have so_16 := so15.step N16
      clear sb_14 sc_14 sx_14 bx_14 si_14 bl_14 so15 N16
      cases hk2 : okS x l with
      | false =>
        have qbl0_1 := (bl_16.now).2 0 _ rfl
        have qbl1_2 := (bl_16.now).2 1 _ rfl
        have qbl2_3 := (bl_16.now).2 2 _ rfl
        have qbw0_4 := (bw16.now).2 0 _ rfl
        have qbw1_5 := (bw16.now).2 1 _ rfl
        have qbw2_6 := (bw16.now).2 2 _ rfl
        go_wp2_with fail
        refine (vTrace_same (resS x l) _ _ (w14.alloc (.cells #[.int .i64 (resS x l).st, .int .i64 (resS x l).start, .slice ao4 (resS x l).xs.length cap4] 28)) si_16.now so_16.now).mono ?_
        clear qbl0_1 qbl1_2 qbl2_3 qbw0_4 qbw1_5 qbw2_6
        rintro e w17 ⟨rfl, hb17⟩
        have sb_17 := sb_16.step hb17
        have sc_17 := sc_16.step hb17
        have sx_17 := sx_16.step hb17
        have bx_17 := bx_16.step hb17
        have si_17 := si_16.step hb17
        have bl_17 := bl_16.step hb17
        have so_17 := so_16.step hb17
        have bw_17 := bw16.step hb17
        clear sb_16 sc_16 sx_16 bx_16 si_16 bl_16 so_16 bw16 hb17
        clear so_17 bw_17
        clear si_17 bl_17 bx_17 sx_17
        go_wp2_with fail
        refine (drawMeanOf w17 _ _ sc_17.now).mono ?_
        rintro e w18 ⟨v20, y, rfl, hd20, ho20, hb18⟩
        have sb_18 := sb_17.step hb18
        have sc_18 := sc_17.step hb18
        clear sb_17 sc_17 hb18
        have sy19 := St.tr ho20
        obtain ⟨ao20, cap20, rfl⟩ := ho20.form
        clear ho20
        have hn20 : y.xs.length ≤ 1048576 := by omega
        have N20 := (Below.refl w18.heap.size w18).alloc (Nat.le_refl _) (.cells #[.int .i64 y.st, .int .i64 y.start, .slice ao20 y.xs.length cap20] 28)
        have by20 := St.bx (Bx.new w18 [.int .i64 y.st, .int .i64 y.start, .slice ao20 y.xs.length cap20] 28)
        have sb_20 := sb_18.step N20
        have sc_20 := sc_18.step N20
        have sy_20 := sy19.step N20
        clear sb_18 sc_18 sy19 N20
        have qby0_7 := (by20.now).2 0 _ rfl
        have qby1_8 := (by20.now).2 1 _ rfl
        have qby2_9 := (by20.now).2 2 _ rfl
        go_wp2_with fail
        refine (implMean y _ (w18.alloc (.cells #[.int .i64 y.st, .int .i64 y.start, .slice ao20 y.xs.length cap20] 28)) _ sy_20.now (Nat.le_refl _) hn20).mono ?_
        clear qby0_7 qby1_8 qby2_9
        rintro e w21 ⟨rfl, hb21⟩
        have sb_21 := sb_20.step hb21
        have sc_21 := sc_20.step hb21
        have sy_21 := sy_20.step hb21
        have by_21 := by20.step hb21
        clear sb_20 sc_20 sy_20 by20 hb21
        have qby0_10 := (by_21.now).2 0 _ rfl
        have qby1_11 := (by_21.now).2 1 _ rfl
        have qby2_12 := (by_21.now).2 2 _ rfl
        go_wp2_with fail
        refine (specMean y _ w21 _ sy_21.now (Nat.le_refl _) hn20).mono ?_
        clear qby0_10 qby1_11 qby2_12
        rintro e w22 ⟨rfl, hb22⟩
        have sb_22 := sb_21.step hb22
        have sc_22 := sc_21.step hb22
        have sy_22 := sy_21.step hb22
        have by_22 := by_21.step hb22
        clear sb_21 sc_21 sy_21 by_21 hb22
        generalize mnum y = m1
        generalize mden y = m2
        generalize okN y = m3
        clear hd20 hn20
        clear by_22 sy_22
        go_wp2_with fail
        refine (drawCrossings w22 _ _ sc_22.now).mono ?_
        rintro e w23 ⟨v21, z, rfl, hd21, ho21, hb23⟩
        have sb_23 := sb_22.step hb23
        have sc_23 := sc_22.step hb23
        clear sb_22 sc_22 hb23
        have sz24 := St.tr ho21
        obtain ⟨ao21, cap21, rfl⟩ := ho21.form
        clear ho21
        have hn21 : z.xs.length ≤ 1048576 := by omega
        have N25 := (Below.refl w23.heap.size w23).alloc (Nat.le_refl _) (.cells #[.int .i64 z.st, .int .i64 z.start, .slice ao21 z.xs.length cap21] 28)
        have bz25 := St.bx (Bx.new w23 [.int .i64 z.st, .int .i64 z.start, .slice ao21 z.xs.length cap21] 28)
        have sb_25 := sb_23.step N25
        have sc_25 := sc_23.step N25
        have sz_25 := sz24.step N25
        clear sb_23 sc_23 sz24 N25
        have qbz0_13 := (bz25.now).2 0 _ rfl
        have qbz1_14 := (bz25.now).2 1 _ rfl
        have qbz2_15 := (bz25.now).2 2 _ rfl
        go_wp2_with fail
        refine (implCrs z _ (w23.alloc (.cells #[.int .i64 z.st, .int .i64 z.start, .slice ao21 z.xs.length cap21] 28)) _ sz_25.now (Nat.le_refl _) hn21).mono ?_
        clear qbz0_13 qbz1_14 qbz2_15
        rintro e w26 ⟨v22, rfl, ho22, hb26⟩
        have sb_26 := sb_25.step hb26
        have sc_26 := sc_25.step hb26
        have sz_26 := sz_25.step hb26
        have bz_26 := bz25.step hb26
        clear sb_25 sc_25 sz_25 bz25 hb26
        have sp27 := St.own ho22
        clear ho22
        have qbz0_16 := (bz_26.now).2 0 _ rfl
        have qbz1_17 := (bz_26.now).2 1 _ rfl
        have qbz2_18 := (bz_26.now).2 2 _ rfl
        go_wp2_with fail
        refine (specCrs z _ w26 _ sz_26.now (Nat.le_refl _) hn21).mono ?_
        clear qbz0_16 qbz1_17 qbz2_18
        rintro e w28 ⟨v23, rfl, ho23, hb28⟩
        have sb_28 := sb_26.step hb28
        have sc_28 := sc_26.step hb28
        have sz_28 := sz_26.step hb28
        have bz_28 := bz_26.step hb28
        have sp_28 := sp27.step hb28
        clear sb_26 sc_26 sz_26 bz_26 sp27 hb28
        have sq29 := St.own ho23
        clear ho23
        generalize goodT z = gz
        generalize resC z = rz at *
        clear hd21 hn21
        go_wp2_with fail
        refine (vInts_same _ v22 v23 w28 _ sp_28.now sq29.now (Nat.le_refl _)).mono ?_
        rintro e w30 ⟨rfl, hb30⟩
        have sb_30 := sb_28.step hb30
        have sc_30 := sc_28.step hb30
        have sz_30 := sz_28.step hb30
        have bz_30 := bz_28.step hb30
        have sp_30 := sp_28.step hb30
        have sq_30 := sq29.step hb30
        clear sb_28 sc_28 sz_28 bz_28 sp_28 sq29 hb30
        clear sp_30 sq_30 bz_30 sz_30
        go_wp2_with fail
        refine (drawSAt w30 _ _ sc_30.now).mono ?_
        rintro e w31 ⟨v24, u, k, rfl, ⟨hk0, hk1⟩, hd24, ho24, hb31⟩
        have sb_31 := sb_30.step hb31
        have sc_31 := sc_30.step hb31
        clear sb_30 sc_30 hb31
        have su32 := St.tr ho24
        obtain ⟨ao24, cap24, rfl⟩ := ho24.form
        clear ho24
        have hn24 : u.xs.length ≤ 1048576 := by omega
        have hI24 : I64 k := by unfold I64; omega
        have N33 := (Below.refl w31.heap.size w31).alloc (Nat.le_refl _) (.cells #[.int .i64 u.st, .int .i64 u.start, .slice ao24 u.xs.length cap24] 28)
        have bu33 := St.bx (Bx.new w31 [.int .i64 u.st, .int .i64 u.start, .slice ao24 u.xs.length cap24] 28)
        have sb_33 := sb_31.step N33
        have sc_33 := sc_31.step N33
        have su_33 := su32.step N33
        clear sb_31 sc_31 su32 N33
        have qbu0_19 := (bu33.now).2 0 _ rfl
        have qbu1_20 := (bu33.now).2 1 _ rfl
        have qbu2_21 := (bu33.now).2 2 _ rfl
        go_wp2_with fail
        refine (implAt u _ k (w31.alloc (.cells #[.int .i64 u.st, .int .i64 u.start, .slice ao24 u.xs.length cap24] 28)) _ su_33.now (Nat.le_refl _) hn24 hI24).mono ?_
        clear qbu0_19 qbu1_20 qbu2_21
        rintro e w34 ⟨rfl, hb34⟩
        have sb_34 := sb_33.step hb34
        have sc_34 := sc_33.step hb34
        have su_34 := su_33.step hb34
        have bu_34 := bu33.step hb34
        clear sb_33 sc_33 su_33 bu33 hb34
        have qbu0_22 := (bu_34.now).2 0 _ rfl
        have qbu1_23 := (bu_34.now).2 1 _ rfl
        have qbu2_24 := (bu_34.now).2 2 _ rfl
        go_wp2_with fail
        refine (specAt u _ k w34 _ su_34.now (Nat.le_refl _) hn24 hI24).mono ?_
        clear qbu0_22 qbu1_23 qbu2_24
        rintro e w35 ⟨rfl, hb35⟩
        have sb_35 := sb_34.step hb35
        have sc_35 := sc_34.step hb35
        have su_35 := su_34.step hb35
        have bu_35 := bu_34.step hb35
        clear sb_34 sc_34 su_34 bu_34 hb35
        generalize resAt u k = ru
        generalize okAt u k = ku
        go_wp2
        go_ret
        exact ⟨ret_bool (by simp), sb_35.now⟩
      | true =>
        have qbl0_1 := (bl_16.now).2 0 _ rfl
        have qbl1_2 := (bl_16.now).2 1 _ rfl
        have qbl2_3 := (bl_16.now).2 2 _ rfl
        have qbw0_4 := (bw16.now).2 0 _ rfl
        have qbw1_5 := (bw16.now).2 1 _ rfl
        have qbw2_6 := (bw16.now).2 2 _ rfl
        go_wp2_with fail
        refine (vTrace_same (resS x l) _ _ (w14.alloc (.cells #[.int .i64 (resS x l).st, .int .i64 (resS x l).start, .slice ao4 (resS x l).xs.length cap4] 28)) si_16.now so_16.now).mono ?_
        clear qbl0_1 qbl1_2 qbl2_3 qbw0_4 qbw1_5 qbw2_6
        rintro e w17 ⟨rfl, hb17⟩
        have sb_17 := sb_16.step hb17
        have sc_17 := sc_16.step hb17
        have sx_17 := sx_16.step hb17
        have bx_17 := bx_16.step hb17
        have si_17 := si_16.step hb17
        have bl_17 := bl_16.step hb17
        have so_17 := so_16.step hb17
        have bw_17 := bw16.step hb17
        clear sb_16 sc_16 sx_16 bx_16 si_16 bl_16 so_16 bw16 hb17
        clear so_17 bw_17
        by_cases hp : 0 < x.xs.length
        · obtain ⟨o1, o2, hmn, ⟨a0, a1⟩, ⟨b0, b1⟩, ⟨c0, c1⟩, ⟨d0, d1⟩⟩ := means hk2 hp
          have hlb := (okS_parts hk2).2.1
          have hn3 : (resS x l).xs.length ≤ 1048576 := resS_len x l hn2
          have hp1 : (0 : Int) < (x.xs.length : Int) := by omega
          obtain ⟨a, hea⟩ : ∃ a, mnum x = a := ⟨_, rfl⟩
          obtain ⟨b, heb⟩ : ∃ b, mden x = b := ⟨_, rfl⟩
          obtain ⟨c, hec⟩ : ∃ c, mnum (resS x l) = c := ⟨_, rfl⟩
          obtain ⟨d, hed⟩ : ∃ d, mden (resS x l) = d := ⟨_, rfl⟩
          have HA := Lib.hid (fun v w' (h : TrL w' w'.heap.size v x) => implMeanT x v w' _ h (Nat.le_refl _) hn2 o1)
          have HB2 := Lib.hid (fun v w' (h : TrL w' w'.heap.size v (resS x l)) => implMeanT (resS x l) v w' _ h (Nat.le_refl _) hn3 o2)
          rw [hea, heb] at HA
          rw [hec, hed] at HB2
          rw [hea, heb, hec, hed] at hmn
          rw [hea] at a0 a1
          rw [heb] at b0 b1
          rw [hec] at c0 c1
          rw [hed] at d0 d1
          clear hea heb hec hed
          have s1 := mul_bd (x := l) (y := b) (X := 100000) (Y := 24) (by omega) (by omega) (by omega) b1
          have s2 := mul_bd (x := a - l * b) (y := d) (X := 4800000) (Y := 24) (by omega) (by omega) (by omega) d1
          have s3 := mul_bd (x := c) (y := b) (X := 2400000) (Y := 24) (by omega) (by omega) (by omega) b1
          have t1 : IntKind.i64.wrap (l * b) = l * b := IntWalk.i64_in _ (by omega)
          have t2 : IntKind.i64.wrap (a - l * b) = a - l * b := IntWalk.i64_in _ (by omega)
          have t3 : IntKind.i64.wrap ((a - l * b) * d) = c * b := by rw [hmn]; exact IntWalk.i64_in _ (by omega)
          have t4 : IntKind.i64.wrap (c * b) = c * b := IntWalk.i64_in _ (by omega)
          clear hmn s1 s2 s3 a0 a1 b0 b1 c0 c1 d0 d1 o1 o2
          have qbx0_1 := (bx_17.now).2 0 _ rfl
          have qbx1_2 := (bx_17.now).2 1 _ rfl
          have qbx2_3 := (bx_17.now).2 2 _ rfl
          go_wp2_with fail
          refine (HA.out _ w17 sx_17.now).mono ?_
          clear qbx0_1 qbx1_2 qbx2_3
          rintro e w18 ⟨rfl, hb18⟩
          have sb_18 := sb_17.step hb18
          have sc_18 := sc_17.step hb18
          have sx_18 := sx_17.step hb18
          have bx_18 := bx_17.step hb18
          have si_18 := si_17.step hb18
          have bl_18 := bl_17.step hb18
          clear sb_17 sc_17 sx_17 bx_17 si_17 bl_17 hb18
          have qbl0_4 := (bl_18.now).2 0 _ rfl
          have qbl1_5 := (bl_18.now).2 1 _ rfl
          have qbl2_6 := (bl_18.now).2 2 _ rfl
          go_wp2_with fail
          refine (HB2.out _ w18 si_18.now).mono ?_
          clear qbl0_4 qbl1_5 qbl2_6
          rintro e w19 ⟨rfl, hb19⟩
          have sb_19 := sb_18.step hb19
          have sc_19 := sc_18.step hb19
          have sx_19 := sx_18.step hb19
          have bx_19 := bx_18.step hb19
          have si_19 := si_18.step hb19
          have bl_19 := bl_18.step hb19
          clear sb_18 sc_18 sx_18 bx_18 si_18 bl_18 hb19
          clear HA HB2
          clear si_19 sx_19
          clear bl_19 bx_19
          go_wp2_with fail
          refine (drawMeanOf w19 _ _ sc_19.now).mono ?_
          rintro e w20 ⟨v20, y, rfl, hd20, ho20, hb20⟩
          have sb_20 := sb_19.step hb20
          have sc_20 := sc_19.step hb20
          clear sb_19 sc_19 hb20
          have sy21 := St.tr ho20
          obtain ⟨ao20, cap20, rfl⟩ := ho20.form
          clear ho20
          have hn20 : y.xs.length ≤ 1048576 := by omega
          have N22 := (Below.refl w20.heap.size w20).alloc (Nat.le_refl _) (.cells #[.int .i64 y.st, .int .i64 y.start, .slice ao20 y.xs.length cap20] 28)
          have by22 := St.bx (Bx.new w20 [.int .i64 y.st, .int .i64 y.start, .slice ao20 y.xs.length cap20] 28)
          have sb_22 := sb_20.step N22
          have sc_22 := sc_20.step N22
          have sy_22 := sy21.step N22
          clear sb_20 sc_20 sy21 N22
          have qby0_7 := (by22.now).2 0 _ rfl
          have qby1_8 := (by22.now).2 1 _ rfl
          have qby2_9 := (by22.now).2 2 _ rfl
          go_wp2_with fail
          refine (implMean y _ (w20.alloc (.cells #[.int .i64 y.st, .int .i64 y.start, .slice ao20 y.xs.length cap20] 28)) _ sy_22.now (Nat.le_refl _) hn20).mono ?_
          clear qby0_7 qby1_8 qby2_9
          rintro e w23 ⟨rfl, hb23⟩
          have sb_23 := sb_22.step hb23
          have sc_23 := sc_22.step hb23
          have sy_23 := sy_22.step hb23
          have by_23 := by22.step hb23
          clear sb_22 sc_22 sy_22 by22 hb23
          have qby0_10 := (by_23.now).2 0 _ rfl
          have qby1_11 := (by_23.now).2 1 _ rfl
          have qby2_12 := (by_23.now).2 2 _ rfl
          go_wp2_with fail
          refine (specMean y _ w23 _ sy_23.now (Nat.le_refl _) hn20).mono ?_
          clear qby0_10 qby1_11 qby2_12
          rintro e w24 ⟨rfl, hb24⟩
          have sb_24 := sb_23.step hb24
          have sc_24 := sc_23.step hb24
          have sy_24 := sy_23.step hb24
          have by_24 := by_23.step hb24
          clear sb_23 sc_23 sy_23 by_23 hb24
          generalize mnum y = m1
          generalize mden y = m2
          generalize okN y = m3
          clear hd20 hn20
          clear by_24 sy_24
          go_wp2_with fail
          refine (drawCrossings w24 _ _ sc_24.now).mono ?_
          rintro e w25 ⟨v21, z, rfl, hd21, ho21, hb25⟩
          have sb_25 := sb_24.step hb25
          have sc_25 := sc_24.step hb25
          clear sb_24 sc_24 hb25
          have sz26 := St.tr ho21
          obtain ⟨ao21, cap21, rfl⟩ := ho21.form
          clear ho21
          have hn21 : z.xs.length ≤ 1048576 := by omega
          have N27 := (Below.refl w25.heap.size w25).alloc (Nat.le_refl _) (.cells #[.int .i64 z.st, .int .i64 z.start, .slice ao21 z.xs.length cap21] 28)
          have bz27 := St.bx (Bx.new w25 [.int .i64 z.st, .int .i64 z.start, .slice ao21 z.xs.length cap21] 28)
          have sb_27 := sb_25.step N27
          have sc_27 := sc_25.step N27
          have sz_27 := sz26.step N27
          clear sb_25 sc_25 sz26 N27
          have qbz0_13 := (bz27.now).2 0 _ rfl
          have qbz1_14 := (bz27.now).2 1 _ rfl
          have qbz2_15 := (bz27.now).2 2 _ rfl
          go_wp2_with fail
          refine (implCrs z _ (w25.alloc (.cells #[.int .i64 z.st, .int .i64 z.start, .slice ao21 z.xs.length cap21] 28)) _ sz_27.now (Nat.le_refl _) hn21).mono ?_
          clear qbz0_13 qbz1_14 qbz2_15
          rintro e w28 ⟨v22, rfl, ho22, hb28⟩
          have sb_28 := sb_27.step hb28
          have sc_28 := sc_27.step hb28
          have sz_28 := sz_27.step hb28
          have bz_28 := bz27.step hb28
          clear sb_27 sc_27 sz_27 bz27 hb28
          have sp29 := St.own ho22
          clear ho22
          have qbz0_16 := (bz_28.now).2 0 _ rfl
          have qbz1_17 := (bz_28.now).2 1 _ rfl
          have qbz2_18 := (bz_28.now).2 2 _ rfl
          go_wp2_with fail
          refine (specCrs z _ w28 _ sz_28.now (Nat.le_refl _) hn21).mono ?_
          clear qbz0_16 qbz1_17 qbz2_18
          rintro e w30 ⟨v23, rfl, ho23, hb30⟩
          have sb_30 := sb_28.step hb30
          have sc_30 := sc_28.step hb30
          have sz_30 := sz_28.step hb30
          have bz_30 := bz_28.step hb30
          have sp_30 := sp29.step hb30
          clear sb_28 sc_28 sz_28 bz_28 sp29 hb30
          have sq31 := St.own ho23
          clear ho23
          generalize goodT z = gz
          generalize resC z = rz at *
          clear hd21 hn21
          go_wp2_with fail
          refine (vInts_same _ v22 v23 w30 _ sp_30.now sq31.now (Nat.le_refl _)).mono ?_
          rintro e w32 ⟨rfl, hb32⟩
          have sb_32 := sb_30.step hb32
          have sc_32 := sc_30.step hb32
          have sz_32 := sz_30.step hb32
          have bz_32 := bz_30.step hb32
          have sp_32 := sp_30.step hb32
          have sq_32 := sq31.step hb32
          clear sb_30 sc_30 sz_30 bz_30 sp_30 sq31 hb32
          clear sp_32 sq_32 bz_32 sz_32
          go_wp2_with fail
          refine (drawSAt w32 _ _ sc_32.now).mono ?_
          rintro e w33 ⟨v24, u, k, rfl, ⟨hk0, hk1⟩, hd24, ho24, hb33⟩
          have sb_33 := sb_32.step hb33
          have sc_33 := sc_32.step hb33
          clear sb_32 sc_32 hb33
          have su34 := St.tr ho24
          obtain ⟨ao24, cap24, rfl⟩ := ho24.form
          clear ho24
          have hn24 : u.xs.length ≤ 1048576 := by omega
          have hI24 : I64 k := by unfold I64; omega
          have N35 := (Below.refl w33.heap.size w33).alloc (Nat.le_refl _) (.cells #[.int .i64 u.st, .int .i64 u.start, .slice ao24 u.xs.length cap24] 28)
          have bu35 := St.bx (Bx.new w33 [.int .i64 u.st, .int .i64 u.start, .slice ao24 u.xs.length cap24] 28)
          have sb_35 := sb_33.step N35
          have sc_35 := sc_33.step N35
          have su_35 := su34.step N35
          clear sb_33 sc_33 su34 N35
          have qbu0_19 := (bu35.now).2 0 _ rfl
          have qbu1_20 := (bu35.now).2 1 _ rfl
          have qbu2_21 := (bu35.now).2 2 _ rfl
          go_wp2_with fail
          refine (implAt u _ k (w33.alloc (.cells #[.int .i64 u.st, .int .i64 u.start, .slice ao24 u.xs.length cap24] 28)) _ su_35.now (Nat.le_refl _) hn24 hI24).mono ?_
          clear qbu0_19 qbu1_20 qbu2_21
          rintro e w36 ⟨rfl, hb36⟩
          have sb_36 := sb_35.step hb36
          have sc_36 := sc_35.step hb36
          have su_36 := su_35.step hb36
          have bu_36 := bu35.step hb36
          clear sb_35 sc_35 su_35 bu35 hb36
          have qbu0_22 := (bu_36.now).2 0 _ rfl
          have qbu1_23 := (bu_36.now).2 1 _ rfl
          have qbu2_24 := (bu_36.now).2 2 _ rfl
          go_wp2_with fail
          refine (specAt u _ k w36 _ su_36.now (Nat.le_refl _) hn24 hI24).mono ?_
          clear qbu0_22 qbu1_23 qbu2_24
          rintro e w37 ⟨rfl, hb37⟩
          have sb_37 := sb_36.step hb37
          have sc_37 := sc_36.step hb37
          have su_37 := su_36.step hb37
          have bu_37 := bu_36.step hb37
          clear sb_36 sc_36 su_36 bu_36 hb37
          generalize resAt u k = ru
          generalize okAt u k = ku
          go_wp2
          go_ret
          exact ⟨ret_bool (by simp), sb_37.now⟩
        · have hp1 : ¬ (0 : Int) < (x.xs.length : Int) := by omega
          have qbx0_1 := (bx_17.now).2 0 _ rfl
          have qbx1_2 := (bx_17.now).2 1 _ rfl
          have qbx2_3 := (bx_17.now).2 2 _ rfl
          clear si_17 sx_17
          go_wp2_with fail
          refine (drawMeanOf w17 _ _ sc_17.now).mono ?_
          rintro e w18 ⟨v20, y, rfl, hd20, ho20, hb18⟩
          have sb_18 := sb_17.step hb18
          have sc_18 := sc_17.step hb18
          have bx_18 := bx_17.step hb18
          have bl_18 := bl_17.step hb18
          clear sb_17 sc_17 bx_17 bl_17 hb18
          have sy19 := St.tr ho20
          obtain ⟨ao20, cap20, rfl⟩ := ho20.form
          clear ho20
          have hn20 : y.xs.length ≤ 1048576 := by omega
          have N20 := (Below.refl w18.heap.size w18).alloc (Nat.le_refl _) (.cells #[.int .i64 y.st, .int .i64 y.start, .slice ao20 y.xs.length cap20] 28)
          have by20 := St.bx (Bx.new w18 [.int .i64 y.st, .int .i64 y.start, .slice ao20 y.xs.length cap20] 28)
          have sb_20 := sb_18.step N20
          have sc_20 := sc_18.step N20
          have bx_20 := bx_18.step N20
          have bl_20 := bl_18.step N20
          have sy_20 := sy19.step N20
          clear sb_18 sc_18 bx_18 bl_18 sy19 N20
          have qby0_4 := (by20.now).2 0 _ rfl
          have qby1_5 := (by20.now).2 1 _ rfl
          have qby2_6 := (by20.now).2 2 _ rfl
          go_wp2_with fail
          refine (implMean y _ (w18.alloc (.cells #[.int .i64 y.st, .int .i64 y.start, .slice ao20 y.xs.length cap20] 28)) _ sy_20.now (Nat.le_refl _) hn20).mono ?_
          clear qby0_4 qby1_5 qby2_6
          rintro e w21 ⟨rfl, hb21⟩
          have sb_21 := sb_20.step hb21
          have sc_21 := sc_20.step hb21
          have bx_21 := bx_20.step hb21
          have bl_21 := bl_20.step hb21
          have sy_21 := sy_20.step hb21
          have by_21 := by20.step hb21
          clear sb_20 sc_20 bx_20 bl_20 sy_20 by20 hb21
          have qby0_7 := (by_21.now).2 0 _ rfl
          have qby1_8 := (by_21.now).2 1 _ rfl
          have qby2_9 := (by_21.now).2 2 _ rfl
          go_wp2_with fail
          refine (specMean y _ w21 _ sy_21.now (Nat.le_refl _) hn20).mono ?_
          clear qby0_7 qby1_8 qby2_9
          rintro e w22 ⟨rfl, hb22⟩
          have sb_22 := sb_21.step hb22
          have sc_22 := sc_21.step hb22
          have bx_22 := bx_21.step hb22
          have bl_22 := bl_21.step hb22
          have sy_22 := sy_21.step hb22
          have by_22 := by_21.step hb22
          clear sb_21 sc_21 bx_21 bl_21 sy_21 by_21 hb22
          generalize mnum y = m1
          generalize mden y = m2
          generalize okN y = m3
          clear hd20 hn20
          clear by_22 sy_22
          go_wp2_with fail
          refine (drawCrossings w22 _ _ sc_22.now).mono ?_
          rintro e w23 ⟨v21, z, rfl, hd21, ho21, hb23⟩
          have sb_23 := sb_22.step hb23
          have sc_23 := sc_22.step hb23
          have bx_23 := bx_22.step hb23
          have bl_23 := bl_22.step hb23
          clear sb_22 sc_22 bx_22 bl_22 hb23
          have sz24 := St.tr ho21
          obtain ⟨ao21, cap21, rfl⟩ := ho21.form
          clear ho21
          have hn21 : z.xs.length ≤ 1048576 := by omega
          have N25 := (Below.refl w23.heap.size w23).alloc (Nat.le_refl _) (.cells #[.int .i64 z.st, .int .i64 z.start, .slice ao21 z.xs.length cap21] 28)
          have bz25 := St.bx (Bx.new w23 [.int .i64 z.st, .int .i64 z.start, .slice ao21 z.xs.length cap21] 28)
          have sb_25 := sb_23.step N25
          have sc_25 := sc_23.step N25
          have bx_25 := bx_23.step N25
          have bl_25 := bl_23.step N25
          have sz_25 := sz24.step N25
          clear sb_23 sc_23 bx_23 bl_23 sz24 N25
          have qbz0_10 := (bz25.now).2 0 _ rfl
          have qbz1_11 := (bz25.now).2 1 _ rfl
          have qbz2_12 := (bz25.now).2 2 _ rfl
          go_wp2_with fail
          refine (implCrs z _ (w23.alloc (.cells #[.int .i64 z.st, .int .i64 z.start, .slice ao21 z.xs.length cap21] 28)) _ sz_25.now (Nat.le_refl _) hn21).mono ?_
          clear qbz0_10 qbz1_11 qbz2_12
          rintro e w26 ⟨v22, rfl, ho22, hb26⟩
          have sb_26 := sb_25.step hb26
          have sc_26 := sc_25.step hb26
          have bx_26 := bx_25.step hb26
          have bl_26 := bl_25.step hb26
          have sz_26 := sz_25.step hb26
          have bz_26 := bz25.step hb26
          clear sb_25 sc_25 bx_25 bl_25 sz_25 bz25 hb26
          have sp27 := St.own ho22
          clear ho22
          have qbz0_13 := (bz_26.now).2 0 _ rfl
          have qbz1_14 := (bz_26.now).2 1 _ rfl
          have qbz2_15 := (bz_26.now).2 2 _ rfl
          go_wp2_with fail
          refine (specCrs z _ w26 _ sz_26.now (Nat.le_refl _) hn21).mono ?_
          clear qbz0_13 qbz1_14 qbz2_15
          rintro e w28 ⟨v23, rfl, ho23, hb28⟩
          have sb_28 := sb_26.step hb28
          have sc_28 := sc_26.step hb28
          have bx_28 := bx_26.step hb28
          have bl_28 := bl_26.step hb28
          have sz_28 := sz_26.step hb28
          have bz_28 := bz_26.step hb28
          have sp_28 := sp27.step hb28
          clear sb_26 sc_26 bx_26 bl_26 sz_26 bz_26 sp27 hb28
          have sq29 := St.own ho23
          clear ho23
          generalize goodT z = gz
          generalize resC z = rz at *
          clear hd21 hn21
          go_wp2_with fail
          refine (vInts_same _ v22 v23 w28 _ sp_28.now sq29.now (Nat.le_refl _)).mono ?_
          rintro e w30 ⟨rfl, hb30⟩
          have sb_30 := sb_28.step hb30
          have sc_30 := sc_28.step hb30
          have bx_30 := bx_28.step hb30
          have bl_30 := bl_28.step hb30
          have sz_30 := sz_28.step hb30
          have bz_30 := bz_28.step hb30
          have sp_30 := sp_28.step hb30
          have sq_30 := sq29.step hb30
          clear sb_28 sc_28 bx_28 bl_28 sz_28 bz_28 sp_28 sq29 hb30
          clear sp_30 sq_30 bz_30 sz_30
          go_wp2_with fail
          refine (drawSAt w30 _ _ sc_30.now).mono ?_
          rintro e w31 ⟨v24, u, k, rfl, ⟨hk0, hk1⟩, hd24, ho24, hb31⟩
          have sb_31 := sb_30.step hb31
          have sc_31 := sc_30.step hb31
          have bx_31 := bx_30.step hb31
          have bl_31 := bl_30.step hb31
          clear sb_30 sc_30 bx_30 bl_30 hb31
          have su32 := St.tr ho24
          obtain ⟨ao24, cap24, rfl⟩ := ho24.form
          clear ho24
          have hn24 : u.xs.length ≤ 1048576 := by omega
          have hI24 : I64 k := by unfold I64; omega
          have N33 := (Below.refl w31.heap.size w31).alloc (Nat.le_refl _) (.cells #[.int .i64 u.st, .int .i64 u.start, .slice ao24 u.xs.length cap24] 28)
          have bu33 := St.bx (Bx.new w31 [.int .i64 u.st, .int .i64 u.start, .slice ao24 u.xs.length cap24] 28)
          have sb_33 := sb_31.step N33
          have sc_33 := sc_31.step N33
          have bx_33 := bx_31.step N33
          have bl_33 := bl_31.step N33
          have su_33 := su32.step N33
          clear sb_31 sc_31 bx_31 bl_31 su32 N33
          have qbu0_16 := (bu33.now).2 0 _ rfl
          have qbu1_17 := (bu33.now).2 1 _ rfl
          have qbu2_18 := (bu33.now).2 2 _ rfl
          go_wp2_with fail
          refine (implAt u _ k (w31.alloc (.cells #[.int .i64 u.st, .int .i64 u.start, .slice ao24 u.xs.length cap24] 28)) _ su_33.now (Nat.le_refl _) hn24 hI24).mono ?_
          clear qbu0_16 qbu1_17 qbu2_18
          rintro e w34 ⟨rfl, hb34⟩
          have sb_34 := sb_33.step hb34
          have sc_34 := sc_33.step hb34
          have bx_34 := bx_33.step hb34
          have bl_34 := bl_33.step hb34
          have su_34 := su_33.step hb34
          have bu_34 := bu33.step hb34
          clear sb_33 sc_33 bx_33 bl_33 su_33 bu33 hb34
          have qbu0_19 := (bu_34.now).2 0 _ rfl
          have qbu1_20 := (bu_34.now).2 1 _ rfl
          have qbu2_21 := (bu_34.now).2 2 _ rfl
          go_wp2_with fail
          refine (specAt u _ k w34 _ su_34.now (Nat.le_refl _) hn24 hI24).mono ?_
          clear qbu0_19 qbu1_20 qbu2_21
          rintro e w35 ⟨rfl, hb35⟩
          have sb_35 := sb_34.step hb35
          have sc_35 := sc_34.step hb35
          have bx_35 := bx_34.step hb35
          have bl_35 := bl_34.step hb35
          have su_35 := su_34.step hb35
          have bu_35 := bu_34.step hb35
          clear sb_34 sc_34 bx_34 bl_34 su_34 bu_34 hb35
          generalize resAt u k = ru
          generalize okAt u k = ku
          go_wp2
          go_ret
          exact ⟨ret_bool (by simp), sb_35.now⟩

set_option maxRecDepth 100000 in
theorem walk_all (v : Value) {H : Type} {enc : TypeId × Value → H} {base : Nat} {d : DataW H} {ps : List MemPlace} {w : World} (hval : Value.okWide Try.prog w .any base 32 v)
    (hd : DataW.Trod enc Try.prog w 0 (fun _ => true) true 32 v d ps) :
    Calls Try.prog 5 #[v] w fun e w' => e = .returned (.bool true) ∧ Below w.heap.size w w' := by
  obtain ⟨ao, n, cap, rfl, hn, hc⟩ := open_code Try.underlying32 Try.underlying5 (by kernel_rfl) hval hd
  by_cases h : n ≤ 65536
  · exact walk_main ao n cap w h hc
  · have hi : (65536 : Int) < n := by omega
    go_enter Try.func5, Try.ntmps5
    go_wp2_with fail
    refine (vBig_yes n cap ao _ hi).mono ?_
    rintro e w0 ⟨rfl, hw⟩
    obtain rfl := hw.symm
    go_wp2
    go_ret
    exact ⟨rfl, Below.refl _ _⟩

set_option maxRecDepth 100000 in
theorem contract (H : Type) (enc : TypeId × Value → H) (W : World) (base : Nat) (args : Array Value) (ds gs : List (DataW H)) (before : List MemPlace)
    (hval : ∀ (j : Nat) t v, Try.f5.params[j]? = some t → args[j]? = some v → Value.okWide Try.prog W .any base t v)
    (hW : DataW.Whole enc Try.prog Try.f5.params.toList Rows.fnSamplesSpec.vars false W args.toList ds gs before) :
    Calls Try.prog 5 args W fun e W' => ∃ v, e = .returned v ∧ Rows.fnSamplesSpec.post enc Try.prog Try.f5 false true false false W args v W' := by
  have hW' := hW
  obtain ⟨p, q, hA0, hV, rfl, hfz, hnd⟩ := hW
  have hA : DataW.TrodAll enc Try.prog W 0 (fun _ => true) true Try.f5.params.toList args.toList ds p := hA0
  rw [Try.params5] at hA hval
  obtain ⟨v0, vs0, d0, ds0, p0, q0, hargs, rfl, rfl, h0, r0⟩ := trodAll_cons hA
  obtain ⟨rfl, rfl, rfl⟩ := trodAll_nil r0
  obtain rfl : args = #[v0] := by cases args; simp_all
  refine lawPost rfl rfl Try.underlying4 (by kernel_rfl) (by kernel_rfl) hW' (fun hg => by subst hg; exact ⟨rfl, rfl, rfl⟩) ?_
  exact walk_all v0 (hval 0 32 v0 rfl rfl) h0

set_option maxRecDepth 100000 in
theorem lifted (os : Os) (started : os.Started) (H : Type) (enc : TypeId × Value → H) :
    ReturnsInHanded {} Try.checked os 5 .any (Rows.fnSamplesSpec.pre6 enc Try.prog Try.f5 Rows.fnSamplesRow.domain false) (Rows.fnSamplesSpec.post enc Try.prog Try.f5 false true false false) := by
  refine returnsInHanded_of_change (C := Try.checked) (s := Rows.fnSamplesSpec) own started (by kernel_rfl) Try.func5
    (ChangeSpec.witness6 (enc := enc) (C := Try.checked) (s := Rows.fnSamplesSpec) false ⟨#[], #[.slice none 0 0], []⟩ 8 (by kernel_rfl) (by kernel_rfl) (by kernel_rfl) (by kernel_rfl)) ?_
  intro W base args ds gs before hval hW _ _
  exact contract H enc W base args ds gs before hval hW

set_option maxRecDepth 100000 in
theorem said : Rows.FnSamplesSaid :=
  OpenClaim.holds_of_wide 5 Try.f5 rfl rfl rfl rfl rfl rfl rfl ⟨rfl, rfl, rfl, rfl, rfl⟩ rfl rfl rfl rfl rfl (by kernel_rfl) Try.func5 (by kernel_rfl)
    (of_decide_eq_true (by kernel_rfl)) (by unfold Func.isWrapper; first | (rw [if_pos (by decide +kernel)]; kernel_rfl) | (rw [if_neg (by decide +kernel)]; exact ⟨rfl, rfl⟩))
    (fun os started H enc _ => lifted os started H enc)
end Go.Proofs.Ytklilfbokpljkac.fnSamples
