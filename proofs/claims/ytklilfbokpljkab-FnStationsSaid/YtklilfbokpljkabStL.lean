/- FnStations: for every code the law answers true; no condition. -/
import Derived.Test.YtklilfbokpljkabRi
import Derived.Test.YtklilfbokpljkabDrR
import Derived.Test.YtklilfbokpljkabStaT
import Derived.Test.YtklilfbokpljkabStaB
import Derived.Test.YtklilfbokpljkabStaI
import Derived.Test.YtklilfbokpljkabStaS
namespace Go.Proofs.Ytklilfbokpljkab.fnStations
open Go.ChangeShapes Go.WideShapes Go.ChangeAt Go.RowKit Go.ChangeMaps
set_option linter.unusedSimpArgs false
set_option linter.unusedVariables false

theorem own : ownKnob Try.prog.godebug = none := by kernel_rfl

theorem St.bx {w : World} {b : Nat} {cs : List Value} (h : Bx w b cs) : St w (fun w' => Bx w' b cs) := fun w' hb => h.below hb
theorem St.sta {w : World} {v : Value} {xs : List GStation} (h : StationL w w.heap.size v xs) : St w (fun w' => StationL w' w'.heap.size v xs) := fun w' hb => (h.below hb).mono hb.size
theorem near_len {xs : List GStation} {x y c : Int} (h : okNear xs x y c = true) : ((resNear xs x y c).length : Int) = (xs.length : Int) ∨ ((resNear xs x y c).length : Int) = c := by
  have h1 : nearOk xs x y c := @of_decide_eq_true _ (Classical.propDecidable _) h
  have h2 := h1.2.2
  unfold inB at h2
  have h3 := of_decide_eq_true h2
  have h4 := (nearL_perm x y xs).length_eq
  unfold resNear
  rw [if_pos h, List.length_map, List.length_take, h4]
  omega
theorem fold_mx : ∀ (l : List Int) (a : Int), a ≤ l.foldl mx a ∧ ∀ z ∈ l, z ≤ l.foldl mx a
  | [], a => ⟨Int.le_refl _, by simp⟩
  | z :: l, a => by
    have h := fold_mx l (mx a z)
    have e : a ≤ mx a z ∧ z ≤ mx a z := by unfold mx; split <;> omega
    refine ⟨Int.le_trans e.1 h.1, fun u hu => ?_⟩
    rcases List.mem_cons.1 hu with q | q
    · rw [q]; exact Int.le_trans e.2 h.1
    · exact h.2 u q
theorem fold_mn : ∀ (l : List Int) (a : Int), l.foldl mn a ≤ a ∧ ∀ z ∈ l, l.foldl mn a ≤ z
  | [], a => ⟨Int.le_refl _, by simp⟩
  | z :: l, a => by
    have h := fold_mn l (mn a z)
    have e : mn a z ≤ a ∧ mn a z ≤ z := by unfold mn; split <;> omega
    refine ⟨Int.le_trans h.1 e.1, fun u hu => ?_⟩
    rcases List.mem_cons.1 hu with q | q
    · rw [q]; exact Int.le_trans h.1 e.2
    · exact h.2 u q
theorem see_all {xs : List GStation} {f : Int} (hg : goodL xs = true) (h1 : 1 ≤ f) (h2 : f ≤ 5000) (h : ∀ s ∈ xs, s.pLow ≤ f ∧ f ≤ s.pHigh) : okSee xs f = true ∧ (resSee xs f).length = xs.length := by
  have e : okSee xs f = true := by unfold okSee inB; rw [hg, Bool.true_and]; exact decide_eq_true ⟨h1, h2⟩
  refine ⟨e, ?_⟩
  unfold resSee idsP
  rw [if_pos e, List.length_map, List.filter_eq_self.2 (fun s hs => by unfold seeB inB; exact decide_eq_true (h s hs))]
theorem band_all {xs : List GStation} (h : okBand xs = true) : (1 ≤ loBand xs ∧ loBand xs ≤ 5000) ∧ (1 ≤ hiBand xs ∧ hiBand xs ≤ 5000) ∧ (okSee xs (loBand xs) = true ∧ (resSee xs (loBand xs)).length = xs.length) ∧ (okSee xs (hiBand xs) = true ∧ (resSee xs (hiBand xs)).length = xs.length) := by
  obtain ⟨hg, hne, hle⟩ : okBd xs := @of_decide_eq_true _ (Classical.propDecidable _) h
  have e1 : loBand xs = lowsB xs := by unfold loBand; rw [if_pos h]
  have e2 : hiBand xs = highsB xs := by unfold hiBand; rw [if_pos h]
  have m1 := fold_mx (xs.map fun s => s.pLow) 1
  have m2 := fold_mn (xs.map fun s => s.pHigh) 5000
  have a1 : ∀ s ∈ xs, s.pLow ≤ lowsB xs := fun s hs => m1.2 _ (List.mem_map.2 ⟨s, hs, rfl⟩)
  have a2 : ∀ s ∈ xs, highsB xs ≤ s.pHigh := fun s hs => m2.2 _ (List.mem_map.2 ⟨s, hs, rfl⟩)
  have b1 : 1 ≤ lowsB xs := m1.1
  have b2 : highsB xs ≤ 5000 := m2.1
  rw [e1, e2]
  refine ⟨by omega, by omega, see_all hg b1 (by omega) fun s hs => ?_, see_all hg (by omega) b2 fun s hs => ?_⟩
  · have := a1 s hs; have := a2 s hs; omega
  · have := a1 s hs; have := a2 s hs; omega
theorem num_gcdS (n d : Int) : numR n d * (gcdR n d : Nat) = n := by
  unfold numR
  refine Int.tdiv_mul_cancel ?_
  rw [Int.ofNat_dvd_left]
  exact Nat.gcd_dvd_left _ _
theorem den_gcdS {n d : Int} (h : 1 ≤ d) : denR n d * (gcdR n d : Nat) = d := by
  unfold denR
  refine Int.tdiv_mul_cancel ?_
  rw [Int.ofNat_dvd_left]
  have := Nat.gcd_dvd_right n.natAbs d.toNat
  have e : d.natAbs = d.toNat := by omega
  rw [e]; exact this
theorem mul_bdS {x y X Y : Int} (h1 : -X ≤ x) (h2 : x ≤ X) (h3 : 0 ≤ y) (h4 : y ≤ Y) : -(X * Y) ≤ x * y ∧ x * y ≤ X * Y := by
  have hX : 0 ≤ X := by omega
  have a1 := Int.mul_le_mul_of_nonneg_right h2 h3
  have a2 := Int.mul_le_mul_of_nonneg_left h4 hX
  have a3 := Int.mul_le_mul_of_nonneg_right h1 h3
  rw [Int.neg_mul] at a3
  omega
theorem speeds {s : GStation} {c : Int} (h : okSp s c = true) : (-100000 ≤ c ∧ c ≤ 100000) ∧ numSp s c * s.pGain = c * denSp s c ∧ (1 ≤ denSp s c ∧ denSp s c ≤ 10000) ∧ (-1000000000 ≤ c * denSp s c ∧ c * denSp s c ≤ 1000000000) := by
  have h2 := h
  unfold okSp at h2
  rw [Bool.and_eq_true] at h2
  have hc := h2.2
  unfold inB at hc
  have hc := of_decide_eq_true hc
  have hg := (goodS_yes h2.1).2.2.2.2.1
  unfold inB at hg
  have hg := of_decide_eq_true hg
  have e1 : numSp s c = numR c s.pGain := by unfold numSp; rw [if_pos h]
  have e2 : denSp s c = denR c s.pGain := by unfold denSp; rw [if_pos h]
  rw [e1, e2]
  have n1 := num_gcdS c s.pGain
  have d1 := den_gcdS (n := c) hg.1
  have gp := gcdR_pos (n := c) hg.1
  have gl := gcdR_le (n := c) hg.1
  generalize numR c s.pGain = a at *
  generalize denR c s.pGain = d at *
  generalize gcdR c s.pGain = g at *
  have hd : 1 ≤ d := by
    rcases Int.lt_or_le 0 d with q | q
    · omega
    · have := Int.mul_nonpos_of_nonpos_of_nonneg q (show (0 : Int) ≤ (g : Nat) by omega)
      omega
  have hd2 : d ≤ s.pGain := by
    have := Int.mul_le_mul_of_nonneg_left (show (1 : Int) ≤ (g : Nat) by omega) (show (0 : Int) ≤ d by omega)
    omega
  refine ⟨hc, ?_, by omega, ?_⟩
  · have q1 : a * s.pGain = a * (d * (g : Nat)) := by rw [d1]
    have q2 : c * d = a * (g : Nat) * d := by rw [n1]
    rw [q1, q2, Int.mul_assoc, Int.mul_comm (g : Int) d]
  · have := mul_bdS (x := c) (y := d) (X := 100000) (Y := 10000) hc.1 hc.2 (by omega) (by omega)
    omega
set_option maxRecDepth 100000 in
set_option maxHeartbeats 4000000 in
theorem walk_main (ao : Option Addr) (n cap : Nat) (w : World) (hn : n ≤ 65536) (hcode : Code w w.heap.size ao n) :
    Calls Try.prog 14 #[.slice ao n cap] w fun e w' => e = .returned (.bool true) ∧ Below w.heap.size w w' := by
  have C0 : CodeArg w w.heap.size (.slice ao n cap) := ⟨Nat.le_refl _, ao, n, cap, rfl, hn, hcode⟩
  clear hcode
  have hni : (n : Int) ≤ 65536 := by omega
  have sb0 := St.chain w
  have sc0 := St.code C0
  clear C0
  go_enter Try.func14, Try.ntmps14
  go_wp2_with fail
  refine (rBig_no n cap ao w hni).mono ?_
  rintro e w1 ⟨rfl, hw1⟩
  obtain rfl := hw1.symm
  go_wp2_with fail
  refine (drawNear w _ _ sc0.now).mono ?_
  rintro e w2 ⟨v1, xs, x, y, c, rfl, hx, hy, hc, hl1, hb1, hs1, hb2⟩
  have sb_2 := sb0.step hb2
  have sc_2 := sc0.step hb2
  clear sb0 sc0 hb2
  have s13 := St.sta hs1
  obtain ⟨a1, c1, rfl⟩ := hs1.form
  have hz1 : szsStation xs ≤ 1048576 := by have := bds_sz hb1; omega
  have hw1 : ∀ s ∈ xs, wfStation s := fun s hs => (hb1 s hs).wf
  clear hs1 hb1
  have hIx : I64 x := by unfold I64; omega
  have hIy : I64 y := by unfold I64; omega
  have hIc : I64 c := by unfold I64; omega
  go_wp2_with fail
  refine (implNear xs _ x y c w2 _ s13.now (Nat.le_refl _) hz1 hw1 hIx hIy hIc).mono ?_
  rintro e w4 ⟨v2, rfl, ho2, hb4⟩
  have sb_4 := sb_2.step hb4
  have sc_4 := sc_2.step hb4
  have s1_4 := s13.step hb4
  clear sb_2 sc_2 s13 hb4
  have sn5 := St.own ho2
  obtain ⟨a2, c2, rfl⟩ := ho2.form
  clear ho2
  go_wp2_with fail
  refine (specNear xs _ x y c w4 _ s1_4.now (Nat.le_refl _) hz1 hw1 hIx hIy hIc).mono ?_
  rintro e w6 ⟨v3, rfl, ho3, hb6⟩
  have sb_6 := sb_4.step hb6
  have sc_6 := sc_4.step hb6
  have s1_6 := s1_4.step hb6
  have sn_6 := sn5.step hb6
  clear sb_4 sc_4 s1_4 sn5 hb6
  have so7 := St.own ho3
  clear ho3
  clear s1_6
  clear hz1 hw1 hIx hIy hIc hx hy
  cases hk : okNear xs x y c with
  | false =>
    go_wp2_with fail
    refine (rInts_same _ _ v3 w6 _ sn_6.now so7.now (Nat.le_refl _)).mono ?_
    rintro e w8 ⟨rfl, hb8⟩
    have sb_8 := sb_6.step hb8
    have sc_8 := sc_6.step hb8
    have sn_8 := sn_6.step hb8
    have so_8 := so7.step hb8
    clear sb_6 sc_6 sn_6 so7 hb8
    clear sn_8 so_8
    go_wp2_with fail
    refine (drawCommonBand w8 _ _ sc_8.now).mono ?_
    rintro e w9 ⟨v10, ls, rfl, hl10, hb10, hs10, hb9⟩
    have sb_9 := sb_8.step hb9
    have sc_9 := sc_8.step hb9
    clear sb_8 sc_8 hb9
    have s1010 := St.sta hs10
    obtain ⟨a10, c10, rfl⟩ := hs10.form
    have hz10 : szsStation ls ≤ 1048576 := by have := bds_sz hb10; omega
    have hw10 : ∀ s ∈ ls, wfStation s := fun s hs => (hb10 s hs).wf
    clear hs10 hb10
    go_wp2_with fail
    refine (implBand ls _ w9 _ s1010.now (Nat.le_refl _) hz10 hw10).mono ?_
    rintro e w11 ⟨rfl, hb11⟩
    have sb_11 := sb_9.step hb11
    have sc_11 := sc_9.step hb11
    have s10_11 := s1010.step hb11
    clear sb_9 sc_9 s1010 hb11
    go_wp2_with fail
    refine (specBand ls _ w11 _ s10_11.now (Nat.le_refl _) hz10 hw10).mono ?_
    rintro e w12 ⟨rfl, hb12⟩
    have sb_12 := sb_11.step hb12
    have sc_12 := sc_11.step hb12
    have s10_12 := s10_11.step hb12
    clear sb_11 sc_11 s10_11 hb12
    have HBA := Lib.hid (band_all (xs := ls))
    cases hk2 : okBand ls with
    | false =>
      clear HBA hz10 hw10
      clear s10_12
      go_wp2_with fail
      refine (drawSpd w12 _ _ sc_12.now).mono ?_
      rintro e w13 ⟨s, n9, rfl, hbs, hn9, hb13⟩
      have sb_13 := sb_12.step hb13
      have sc_13 := sc_12.step hb13
      clear sb_12 sc_12 hb13
      have hws := hbs.wf
      have hzs : sz1Station s ≤ 1048576 := by have := hbs.sz; omega
      have hIn : I64 n9 := by unfold I64; omega
      clear hbs
      have N14 := (Below.refl w13.heap.size w13).alloc (Nat.le_refl _) (.cells #[.int .i64 s.pId, .string s.pName, .int .i64 s.pX, .int .i64 s.pY, .int .i64 s.pGain, .int .i64 s.pLow, .int .i64 s.pHigh, .int .i64 s.pUntil] 60)
      have bs14 := St.bx (Bx.new w13 [.int .i64 s.pId, .string s.pName, .int .i64 s.pX, .int .i64 s.pY, .int .i64 s.pGain, .int .i64 s.pLow, .int .i64 s.pHigh, .int .i64 s.pUntil] 60)
      have sb_14 := sb_13.step N14
      have sc_14 := sc_13.step N14
      clear sb_13 sc_13 N14
      have qbs0_1 := (bs14.now).2 0 _ rfl
      have qbs1_2 := (bs14.now).2 1 _ rfl
      have qbs2_3 := (bs14.now).2 2 _ rfl
      have qbs3_4 := (bs14.now).2 3 _ rfl
      have qbs4_5 := (bs14.now).2 4 _ rfl
      have qbs5_6 := (bs14.now).2 5 _ rfl
      have qbs6_7 := (bs14.now).2 6 _ rfl
      have qbs7_8 := (bs14.now).2 7 _ rfl
      go_wp2_with fail
      refine (implSp s _ n9 (w13.alloc (.cells #[.int .i64 s.pId, .string s.pName, .int .i64 s.pX, .int .i64 s.pY, .int .i64 s.pGain, .int .i64 s.pLow, .int .i64 s.pHigh, .int .i64 s.pUntil] 60)) _ rfl (Nat.le_refl _) hzs hws hIn).mono ?_
      clear qbs0_1 qbs1_2 qbs2_3 qbs3_4 qbs4_5 qbs5_6 qbs6_7 qbs7_8
      rintro e w15 ⟨rfl, hb15⟩
      have sb_15 := sb_14.step hb15
      have sc_15 := sc_14.step hb15
      have bs_15 := bs14.step hb15
      clear sb_14 sc_14 bs14 hb15
      have qbs0_9 := (bs_15.now).2 0 _ rfl
      have qbs1_10 := (bs_15.now).2 1 _ rfl
      have qbs2_11 := (bs_15.now).2 2 _ rfl
      have qbs3_12 := (bs_15.now).2 3 _ rfl
      have qbs4_13 := (bs_15.now).2 4 _ rfl
      have qbs5_14 := (bs_15.now).2 5 _ rfl
      have qbs6_15 := (bs_15.now).2 6 _ rfl
      have qbs7_16 := (bs_15.now).2 7 _ rfl
      go_wp2_with fail
      refine (specSp s _ n9 w15 _ rfl (Nat.le_refl _) hzs hws hIn).mono ?_
      clear qbs0_9 qbs1_10 qbs2_11 qbs3_12 qbs4_13 qbs5_14 qbs6_15 qbs7_16
      rintro e w16 ⟨rfl, hb16⟩
      have sb_16 := sb_15.step hb16
      have sc_16 := sc_15.step hb16
      have bs_16 := bs_15.step hb16
      clear sb_15 sc_15 bs_15 hb16
      have HSP := Lib.hid (speeds (s := s) (c := n9))
      generalize numSp s n9 = nu at *
      generalize denSp s n9 = de at *
      cases hk3 : okSp s n9 with
      | false =>
        have qbs0_1 := (bs_16.now).2 0 _ rfl
        have qbs1_2 := (bs_16.now).2 1 _ rfl
        have qbs2_3 := (bs_16.now).2 2 _ rfl
        have qbs3_4 := (bs_16.now).2 3 _ rfl
        have qbs4_5 := (bs_16.now).2 4 _ rfl
        have qbs5_6 := (bs_16.now).2 5 _ rfl
        have qbs6_7 := (bs_16.now).2 6 _ rfl
        have qbs7_8 := (bs_16.now).2 7 _ rfl
        clear HSP hzs hws hIn
        clear bs_16
        go_wp2_with fail
        refine (drawSee w16 _ _ sc_16.now).mono ?_
        rintro e w17 ⟨v20, us, f, rfl, hf, hl20, hb20, hs20, hb17⟩
        have sb_17 := sb_16.step hb17
        have sc_17 := sc_16.step hb17
        clear sb_16 sc_16 hb17
        have s2018 := St.sta hs20
        obtain ⟨a20, c20, rfl⟩ := hs20.form
        have hz20 : szsStation us ≤ 1048576 := by have := bds_sz hb20; omega
        have hw20 : ∀ s ∈ us, wfStation s := fun s hs => (hb20 s hs).wf
        clear hs20 hb20
        have hIf : I64 f := by unfold I64; omega
        go_wp2_with fail
        refine (implSee us _ f w17 _ s2018.now (Nat.le_refl _) hz20 hw20 hIf).mono ?_
        rintro e w19 ⟨v21, rfl, ho21, hb19⟩
        have sb_19 := sb_17.step hb19
        have sc_19 := sc_17.step hb19
        have s20_19 := s2018.step hb19
        clear sb_17 sc_17 s2018 hb19
        have sp20 := St.own ho21
        clear ho21
        go_wp2_with fail
        refine (specSee us _ f w19 _ s20_19.now (Nat.le_refl _) hz20 hw20 hIf).mono ?_
        rintro e w21 ⟨v22, rfl, ho22, hb21⟩
        have sb_21 := sb_19.step hb21
        have sc_21 := sc_19.step hb21
        have s20_21 := s20_19.step hb21
        have sp_21 := sp20.step hb21
        clear sb_19 sc_19 s20_19 sp20 hb21
        have sq22 := St.own ho22
        clear ho22
        generalize okSee us f = kf
        generalize resSee us f = rf at *
        go_wp2_with fail
        refine (rInts_same rf v21 v22 w21 _ sp_21.now sq22.now (Nat.le_refl _)).mono ?_
        rintro e w23 ⟨rfl, hb23⟩
        have sb_23 := sb_21.step hb23
        have sc_23 := sc_21.step hb23
        have s20_23 := s20_21.step hb23
        have sp_23 := sp_21.step hb23
        have sq_23 := sq22.step hb23
        clear sb_21 sc_21 s20_21 sp_21 sq22 hb23
        clear sp_23 sq_23
        go_wp2_with fail
        refine (implAre us _ w23 _ s20_23.now (Nat.le_refl _) hz20 hw20).mono ?_
        rintro e w24 ⟨rfl, hb24⟩
        have sb_24 := sb_23.step hb24
        have sc_24 := sc_23.step hb24
        have s20_24 := s20_23.step hb24
        clear sb_23 sc_23 s20_23 hb24
        go_wp2_with fail
        refine (specAre us _ w24 _ s20_24.now (Nat.le_refl _) hz20 hw20).mono ?_
        rintro e w25 ⟨rfl, hb25⟩
        have sb_25 := sb_24.step hb25
        have sc_25 := sc_24.step hb25
        have s20_25 := s20_24.step hb25
        clear sb_24 sc_24 s20_24 hb25
        generalize goodL us = gu
        go_wp2
        go_ret
        exact ⟨ret_bool (by simp), sb_25.now⟩
      | true =>
        have qbs0_1 := (bs_16.now).2 0 _ rfl
        have qbs1_2 := (bs_16.now).2 1 _ rfl
        have qbs2_3 := (bs_16.now).2 2 _ rfl
        have qbs3_4 := (bs_16.now).2 3 _ rfl
        have qbs4_5 := (bs_16.now).2 4 _ rfl
        have qbs5_6 := (bs_16.now).2 5 _ rfl
        have qbs6_7 := (bs_16.now).2 6 _ rfl
        have qbs7_8 := (bs_16.now).2 7 _ rfl
        obtain ⟨hc0, hpe, hd0, hpb⟩ := HSP.out hk3
        have t1 : IntKind.i64.wrap (nu * s.pGain) = n9 * de := by rw [hpe]; exact IntWalk.i64_in _ (by omega)
        have t2 : IntKind.i64.wrap (n9 * de) = n9 * de := IntWalk.i64_in _ (by omega)
        have t3 : ¬ de < 1 := by omega
        clear hpe hpb hc0
        clear HSP hzs hws hIn
        clear bs_16
        go_wp2_with fail
        refine (drawSee w16 _ _ sc_16.now).mono ?_
        rintro e w17 ⟨v20, us, f, rfl, hf, hl20, hb20, hs20, hb17⟩
        have sb_17 := sb_16.step hb17
        have sc_17 := sc_16.step hb17
        clear sb_16 sc_16 hb17
        have s2018 := St.sta hs20
        obtain ⟨a20, c20, rfl⟩ := hs20.form
        have hz20 : szsStation us ≤ 1048576 := by have := bds_sz hb20; omega
        have hw20 : ∀ s ∈ us, wfStation s := fun s hs => (hb20 s hs).wf
        clear hs20 hb20
        have hIf : I64 f := by unfold I64; omega
        go_wp2_with fail
        refine (implSee us _ f w17 _ s2018.now (Nat.le_refl _) hz20 hw20 hIf).mono ?_
        rintro e w19 ⟨v21, rfl, ho21, hb19⟩
        have sb_19 := sb_17.step hb19
        have sc_19 := sc_17.step hb19
        have s20_19 := s2018.step hb19
        clear sb_17 sc_17 s2018 hb19
        have sp20 := St.own ho21
        clear ho21
        go_wp2_with fail
        refine (specSee us _ f w19 _ s20_19.now (Nat.le_refl _) hz20 hw20 hIf).mono ?_
        rintro e w21 ⟨v22, rfl, ho22, hb21⟩
        have sb_21 := sb_19.step hb21
        have sc_21 := sc_19.step hb21
        have s20_21 := s20_19.step hb21
        have sp_21 := sp20.step hb21
        clear sb_19 sc_19 s20_19 sp20 hb21
        have sq22 := St.own ho22
        clear ho22
        generalize okSee us f = kf
        generalize resSee us f = rf at *
        go_wp2_with fail
        refine (rInts_same rf v21 v22 w21 _ sp_21.now sq22.now (Nat.le_refl _)).mono ?_
        rintro e w23 ⟨rfl, hb23⟩
        have sb_23 := sb_21.step hb23
        have sc_23 := sc_21.step hb23
        have s20_23 := s20_21.step hb23
        have sp_23 := sp_21.step hb23
        have sq_23 := sq22.step hb23
        clear sb_21 sc_21 s20_21 sp_21 sq22 hb23
        clear sp_23 sq_23
        go_wp2_with fail
        refine (implAre us _ w23 _ s20_23.now (Nat.le_refl _) hz20 hw20).mono ?_
        rintro e w24 ⟨rfl, hb24⟩
        have sb_24 := sb_23.step hb24
        have sc_24 := sc_23.step hb24
        have s20_24 := s20_23.step hb24
        clear sb_23 sc_23 s20_23 hb24
        go_wp2_with fail
        refine (specAre us _ w24 _ s20_24.now (Nat.le_refl _) hz20 hw20).mono ?_
        rintro e w25 ⟨rfl, hb25⟩
        have sb_25 := sb_24.step hb25
        have sc_25 := sc_24.step hb25
        have s20_25 := s20_24.step hb25
        clear sb_24 sc_24 s20_24 hb25
        generalize goodL us = gu
        go_wp2
        go_ret
        exact ⟨ret_bool (by simp), sb_25.now⟩
    | true =>
      obtain ⟨hlo, hhi, ⟨o1, e1⟩, ⟨o2, e2⟩⟩ := HBA.out hk2
      have hI1 : I64 (loBand ls) := by unfold I64; omega
      have hI2 : I64 (hiBand ls) := by unfold I64; omega
      have HA := Lib.hid (fun v w' (h : StationL w' w'.heap.size v ls) => implSee ls v (loBand ls) w' _ h (Nat.le_refl _) hz10 hw10 hI1)
      have HD := Lib.hid (fun v w' (h : StationL w' w'.heap.size v ls) => implSee ls v (hiBand ls) w' _ h (Nat.le_refl _) hz10 hw10 hI2)
      rw [o1] at HA
      rw [o2] at HD
      clear HBA hI1 hI2 hlo hhi o1 o2 hz10 hw10 hk2
      generalize resSee ls (loBand ls) = r1 at *
      generalize resSee ls (hiBand ls) = r2 at *
      generalize loBand ls = lo at *
      generalize hiBand ls = hi at *
      go_wp2_with fail
      refine (HA.out _ w12 s10_12.now).mono ?_
      rintro e w13 ⟨v11, rfl, ho11, hb13⟩
      have sb_13 := sb_12.step hb13
      have sc_13 := sc_12.step hb13
      have s10_13 := s10_12.step hb13
      clear sb_12 sc_12 s10_12 hb13
      obtain ⟨a11, c11, rfl⟩ := ho11.form
      rw [e1] at *
      clear ho11 HA
      go_wp2_with fail
      refine (HD.out _ w13 s10_13.now).mono ?_
      rintro e w14 ⟨v12, rfl, ho12, hb14⟩
      have sb_14 := sb_13.step hb14
      have sc_14 := sc_13.step hb14
      have s10_14 := s10_13.step hb14
      clear sb_13 sc_13 s10_13 hb14
      obtain ⟨a12, c12, rfl⟩ := ho12.form
      rw [e2] at *
      clear ho12 HD
      clear s10_14
      go_wp2_with fail
      refine (drawSpd w14 _ _ sc_14.now).mono ?_
      rintro e w15 ⟨s, n9, rfl, hbs, hn9, hb15⟩
      have sb_15 := sb_14.step hb15
      have sc_15 := sc_14.step hb15
      clear sb_14 sc_14 hb15
      have hws := hbs.wf
      have hzs : sz1Station s ≤ 1048576 := by have := hbs.sz; omega
      have hIn : I64 n9 := by unfold I64; omega
      clear hbs
      have N16 := (Below.refl w15.heap.size w15).alloc (Nat.le_refl _) (.cells #[.int .i64 s.pId, .string s.pName, .int .i64 s.pX, .int .i64 s.pY, .int .i64 s.pGain, .int .i64 s.pLow, .int .i64 s.pHigh, .int .i64 s.pUntil] 60)
      have bs16 := St.bx (Bx.new w15 [.int .i64 s.pId, .string s.pName, .int .i64 s.pX, .int .i64 s.pY, .int .i64 s.pGain, .int .i64 s.pLow, .int .i64 s.pHigh, .int .i64 s.pUntil] 60)
      have sb_16 := sb_15.step N16
      have sc_16 := sc_15.step N16
      clear sb_15 sc_15 N16
      have qbs0_1 := (bs16.now).2 0 _ rfl
      have qbs1_2 := (bs16.now).2 1 _ rfl
      have qbs2_3 := (bs16.now).2 2 _ rfl
      have qbs3_4 := (bs16.now).2 3 _ rfl
      have qbs4_5 := (bs16.now).2 4 _ rfl
      have qbs5_6 := (bs16.now).2 5 _ rfl
      have qbs6_7 := (bs16.now).2 6 _ rfl
      have qbs7_8 := (bs16.now).2 7 _ rfl
      go_wp2_with fail
      refine (implSp s _ n9 (w15.alloc (.cells #[.int .i64 s.pId, .string s.pName, .int .i64 s.pX, .int .i64 s.pY, .int .i64 s.pGain, .int .i64 s.pLow, .int .i64 s.pHigh, .int .i64 s.pUntil] 60)) _ rfl (Nat.le_refl _) hzs hws hIn).mono ?_
      clear qbs0_1 qbs1_2 qbs2_3 qbs3_4 qbs4_5 qbs5_6 qbs6_7 qbs7_8
      rintro e w17 ⟨rfl, hb17⟩
      have sb_17 := sb_16.step hb17
      have sc_17 := sc_16.step hb17
      have bs_17 := bs16.step hb17
      clear sb_16 sc_16 bs16 hb17
      have qbs0_9 := (bs_17.now).2 0 _ rfl
      have qbs1_10 := (bs_17.now).2 1 _ rfl
      have qbs2_11 := (bs_17.now).2 2 _ rfl
      have qbs3_12 := (bs_17.now).2 3 _ rfl
      have qbs4_13 := (bs_17.now).2 4 _ rfl
      have qbs5_14 := (bs_17.now).2 5 _ rfl
      have qbs6_15 := (bs_17.now).2 6 _ rfl
      have qbs7_16 := (bs_17.now).2 7 _ rfl
      go_wp2_with fail
      refine (specSp s _ n9 w17 _ rfl (Nat.le_refl _) hzs hws hIn).mono ?_
      clear qbs0_9 qbs1_10 qbs2_11 qbs3_12 qbs4_13 qbs5_14 qbs6_15 qbs7_16
      rintro e w18 ⟨rfl, hb18⟩
      have sb_18 := sb_17.step hb18
      have sc_18 := sc_17.step hb18
      have bs_18 := bs_17.step hb18
      clear sb_17 sc_17 bs_17 hb18
      have HSP := Lib.hid (speeds (s := s) (c := n9))
      generalize numSp s n9 = nu at *
      generalize denSp s n9 = de at *
      cases hk3 : okSp s n9 with
      | false =>
        have qbs0_1 := (bs_18.now).2 0 _ rfl
        have qbs1_2 := (bs_18.now).2 1 _ rfl
        have qbs2_3 := (bs_18.now).2 2 _ rfl
        have qbs3_4 := (bs_18.now).2 3 _ rfl
        have qbs4_5 := (bs_18.now).2 4 _ rfl
        have qbs5_6 := (bs_18.now).2 5 _ rfl
        have qbs6_7 := (bs_18.now).2 6 _ rfl
        have qbs7_8 := (bs_18.now).2 7 _ rfl
        clear HSP hzs hws hIn
        clear bs_18
        go_wp2_with fail
        refine (drawSee w18 _ _ sc_18.now).mono ?_
        rintro e w19 ⟨v20, us, f, rfl, hf, hl20, hb20, hs20, hb19⟩
        have sb_19 := sb_18.step hb19
        have sc_19 := sc_18.step hb19
        clear sb_18 sc_18 hb19
        have s2020 := St.sta hs20
        obtain ⟨a20, c20, rfl⟩ := hs20.form
        have hz20 : szsStation us ≤ 1048576 := by have := bds_sz hb20; omega
        have hw20 : ∀ s ∈ us, wfStation s := fun s hs => (hb20 s hs).wf
        clear hs20 hb20
        have hIf : I64 f := by unfold I64; omega
        go_wp2_with fail
        refine (implSee us _ f w19 _ s2020.now (Nat.le_refl _) hz20 hw20 hIf).mono ?_
        rintro e w21 ⟨v21, rfl, ho21, hb21⟩
        have sb_21 := sb_19.step hb21
        have sc_21 := sc_19.step hb21
        have s20_21 := s2020.step hb21
        clear sb_19 sc_19 s2020 hb21
        have sp22 := St.own ho21
        clear ho21
        go_wp2_with fail
        refine (specSee us _ f w21 _ s20_21.now (Nat.le_refl _) hz20 hw20 hIf).mono ?_
        rintro e w23 ⟨v22, rfl, ho22, hb23⟩
        have sb_23 := sb_21.step hb23
        have sc_23 := sc_21.step hb23
        have s20_23 := s20_21.step hb23
        have sp_23 := sp22.step hb23
        clear sb_21 sc_21 s20_21 sp22 hb23
        have sq24 := St.own ho22
        clear ho22
        generalize okSee us f = kf
        generalize resSee us f = rf at *
        go_wp2_with fail
        refine (rInts_same rf v21 v22 w23 _ sp_23.now sq24.now (Nat.le_refl _)).mono ?_
        rintro e w25 ⟨rfl, hb25⟩
        have sb_25 := sb_23.step hb25
        have sc_25 := sc_23.step hb25
        have s20_25 := s20_23.step hb25
        have sp_25 := sp_23.step hb25
        have sq_25 := sq24.step hb25
        clear sb_23 sc_23 s20_23 sp_23 sq24 hb25
        clear sp_25 sq_25
        go_wp2_with fail
        refine (implAre us _ w25 _ s20_25.now (Nat.le_refl _) hz20 hw20).mono ?_
        rintro e w26 ⟨rfl, hb26⟩
        have sb_26 := sb_25.step hb26
        have sc_26 := sc_25.step hb26
        have s20_26 := s20_25.step hb26
        clear sb_25 sc_25 s20_25 hb26
        go_wp2_with fail
        refine (specAre us _ w26 _ s20_26.now (Nat.le_refl _) hz20 hw20).mono ?_
        rintro e w27 ⟨rfl, hb27⟩
        have sb_27 := sb_26.step hb27
        have sc_27 := sc_26.step hb27
        have s20_27 := s20_26.step hb27
        clear sb_26 sc_26 s20_26 hb27
        generalize goodL us = gu
        go_wp2
        go_ret
        exact ⟨ret_bool (by simp), sb_27.now⟩
      | true =>
        have qbs0_1 := (bs_18.now).2 0 _ rfl
        have qbs1_2 := (bs_18.now).2 1 _ rfl
        have qbs2_3 := (bs_18.now).2 2 _ rfl
        have qbs3_4 := (bs_18.now).2 3 _ rfl
        have qbs4_5 := (bs_18.now).2 4 _ rfl
        have qbs5_6 := (bs_18.now).2 5 _ rfl
        have qbs6_7 := (bs_18.now).2 6 _ rfl
        have qbs7_8 := (bs_18.now).2 7 _ rfl
        obtain ⟨hc0, hpe, hd0, hpb⟩ := HSP.out hk3
        have t1 : IntKind.i64.wrap (nu * s.pGain) = n9 * de := by rw [hpe]; exact IntWalk.i64_in _ (by omega)
        have t2 : IntKind.i64.wrap (n9 * de) = n9 * de := IntWalk.i64_in _ (by omega)
        have t3 : ¬ de < 1 := by omega
        clear hpe hpb hc0
        clear HSP hzs hws hIn
        clear bs_18
        go_wp2_with fail
        refine (drawSee w18 _ _ sc_18.now).mono ?_
        rintro e w19 ⟨v20, us, f, rfl, hf, hl20, hb20, hs20, hb19⟩
        have sb_19 := sb_18.step hb19
        have sc_19 := sc_18.step hb19
        clear sb_18 sc_18 hb19
        have s2020 := St.sta hs20
        obtain ⟨a20, c20, rfl⟩ := hs20.form
        have hz20 : szsStation us ≤ 1048576 := by have := bds_sz hb20; omega
        have hw20 : ∀ s ∈ us, wfStation s := fun s hs => (hb20 s hs).wf
        clear hs20 hb20
        have hIf : I64 f := by unfold I64; omega
        go_wp2_with fail
        refine (implSee us _ f w19 _ s2020.now (Nat.le_refl _) hz20 hw20 hIf).mono ?_
        rintro e w21 ⟨v21, rfl, ho21, hb21⟩
        have sb_21 := sb_19.step hb21
        have sc_21 := sc_19.step hb21
        have s20_21 := s2020.step hb21
        clear sb_19 sc_19 s2020 hb21
        have sp22 := St.own ho21
        clear ho21
        go_wp2_with fail
        refine (specSee us _ f w21 _ s20_21.now (Nat.le_refl _) hz20 hw20 hIf).mono ?_
        rintro e w23 ⟨v22, rfl, ho22, hb23⟩
        have sb_23 := sb_21.step hb23
        have sc_23 := sc_21.step hb23
        have s20_23 := s20_21.step hb23
        have sp_23 := sp22.step hb23
        clear sb_21 sc_21 s20_21 sp22 hb23
        have sq24 := St.own ho22
        clear ho22
        generalize okSee us f = kf
        generalize resSee us f = rf at *
        go_wp2_with fail
        refine (rInts_same rf v21 v22 w23 _ sp_23.now sq24.now (Nat.le_refl _)).mono ?_
        rintro e w25 ⟨rfl, hb25⟩
        have sb_25 := sb_23.step hb25
        have sc_25 := sc_23.step hb25
        have s20_25 := s20_23.step hb25
        have sp_25 := sp_23.step hb25
        have sq_25 := sq24.step hb25
        clear sb_23 sc_23 s20_23 sp_23 sq24 hb25
        clear sp_25 sq_25
        go_wp2_with fail
        refine (implAre us _ w25 _ s20_25.now (Nat.le_refl _) hz20 hw20).mono ?_
        rintro e w26 ⟨rfl, hb26⟩
        have sb_26 := sb_25.step hb26
        have sc_26 := sc_25.step hb26
        have s20_26 := s20_25.step hb26
        clear sb_25 sc_25 s20_25 hb26
        go_wp2_with fail
        refine (specAre us _ w26 _ s20_26.now (Nat.le_refl _) hz20 hw20).mono ?_
        rintro e w27 ⟨rfl, hb27⟩
        have sb_27 := sb_26.step hb27
        have sc_27 := sc_26.step hb27
        have s20_27 := s20_26.step hb27
        clear sb_26 sc_26 s20_26 hb27
        generalize goodL us = gu
        go_wp2
        go_ret
        exact ⟨ret_bool (by simp), sb_27.now⟩
  | true =>
    have hnl := near_len hk
    generalize resNear xs x y c = rn at *
    go_wp2_with fail
    refine (rInts_same _ _ v3 w6 _ sn_6.now so7.now (Nat.le_refl _)).mono ?_
    rintro e w8 ⟨rfl, hb8⟩
    have sb_8 := sb_6.step hb8
    have sc_8 := sc_6.step hb8
    have sn_8 := sn_6.step hb8
    have so_8 := so7.step hb8
    clear sb_6 sc_6 sn_6 so7 hb8
    clear sn_8 so_8
    by_cases hne : (rn.length : Int) = (xs.length : Int)
    · clear hnl
      go_wp2_with fail
      refine (drawCommonBand w8 _ _ sc_8.now).mono ?_
      rintro e w9 ⟨v10, ls, rfl, hl10, hb10, hs10, hb9⟩
      have sb_9 := sb_8.step hb9
      have sc_9 := sc_8.step hb9
      clear sb_8 sc_8 hb9
      have s1010 := St.sta hs10
      obtain ⟨a10, c10, rfl⟩ := hs10.form
      have hz10 : szsStation ls ≤ 1048576 := by have := bds_sz hb10; omega
      have hw10 : ∀ s ∈ ls, wfStation s := fun s hs => (hb10 s hs).wf
      clear hs10 hb10
      go_wp2_with fail
      refine (implBand ls _ w9 _ s1010.now (Nat.le_refl _) hz10 hw10).mono ?_
      rintro e w11 ⟨rfl, hb11⟩
      have sb_11 := sb_9.step hb11
      have sc_11 := sc_9.step hb11
      have s10_11 := s1010.step hb11
      clear sb_9 sc_9 s1010 hb11
      go_wp2_with fail
      refine (specBand ls _ w11 _ s10_11.now (Nat.le_refl _) hz10 hw10).mono ?_
      rintro e w12 ⟨rfl, hb12⟩
      have sb_12 := sb_11.step hb12
      have sc_12 := sc_11.step hb12
      have s10_12 := s10_11.step hb12
      clear sb_11 sc_11 s10_11 hb12
      have HBA := Lib.hid (band_all (xs := ls))
      cases hk2 : okBand ls with
      | false =>
        clear HBA hz10 hw10
        clear s10_12
        go_wp2_with fail
        refine (drawSpd w12 _ _ sc_12.now).mono ?_
        rintro e w13 ⟨s, n9, rfl, hbs, hn9, hb13⟩
        have sb_13 := sb_12.step hb13
        have sc_13 := sc_12.step hb13
        clear sb_12 sc_12 hb13
        have hws := hbs.wf
        have hzs : sz1Station s ≤ 1048576 := by have := hbs.sz; omega
        have hIn : I64 n9 := by unfold I64; omega
        clear hbs
        have N14 := (Below.refl w13.heap.size w13).alloc (Nat.le_refl _) (.cells #[.int .i64 s.pId, .string s.pName, .int .i64 s.pX, .int .i64 s.pY, .int .i64 s.pGain, .int .i64 s.pLow, .int .i64 s.pHigh, .int .i64 s.pUntil] 60)
        have bs14 := St.bx (Bx.new w13 [.int .i64 s.pId, .string s.pName, .int .i64 s.pX, .int .i64 s.pY, .int .i64 s.pGain, .int .i64 s.pLow, .int .i64 s.pHigh, .int .i64 s.pUntil] 60)
        have sb_14 := sb_13.step N14
        have sc_14 := sc_13.step N14
        clear sb_13 sc_13 N14
        have qbs0_1 := (bs14.now).2 0 _ rfl
        have qbs1_2 := (bs14.now).2 1 _ rfl
        have qbs2_3 := (bs14.now).2 2 _ rfl
        have qbs3_4 := (bs14.now).2 3 _ rfl
        have qbs4_5 := (bs14.now).2 4 _ rfl
        have qbs5_6 := (bs14.now).2 5 _ rfl
        have qbs6_7 := (bs14.now).2 6 _ rfl
        have qbs7_8 := (bs14.now).2 7 _ rfl
        go_wp2_with fail
        refine (implSp s _ n9 (w13.alloc (.cells #[.int .i64 s.pId, .string s.pName, .int .i64 s.pX, .int .i64 s.pY, .int .i64 s.pGain, .int .i64 s.pLow, .int .i64 s.pHigh, .int .i64 s.pUntil] 60)) _ rfl (Nat.le_refl _) hzs hws hIn).mono ?_
        clear qbs0_1 qbs1_2 qbs2_3 qbs3_4 qbs4_5 qbs5_6 qbs6_7 qbs7_8
        rintro e w15 ⟨rfl, hb15⟩
        have sb_15 := sb_14.step hb15
        have sc_15 := sc_14.step hb15
        have bs_15 := bs14.step hb15
        clear sb_14 sc_14 bs14 hb15
        have qbs0_9 := (bs_15.now).2 0 _ rfl
        have qbs1_10 := (bs_15.now).2 1 _ rfl
        have qbs2_11 := (bs_15.now).2 2 _ rfl
        have qbs3_12 := (bs_15.now).2 3 _ rfl
        have qbs4_13 := (bs_15.now).2 4 _ rfl
        have qbs5_14 := (bs_15.now).2 5 _ rfl
        have qbs6_15 := (bs_15.now).2 6 _ rfl
        have qbs7_16 := (bs_15.now).2 7 _ rfl
        go_wp2_with fail
        refine (specSp s _ n9 w15 _ rfl (Nat.le_refl _) hzs hws hIn).mono ?_
        clear qbs0_9 qbs1_10 qbs2_11 qbs3_12 qbs4_13 qbs5_14 qbs6_15 qbs7_16
        rintro e w16 ⟨rfl, hb16⟩
        have sb_16 := sb_15.step hb16
        have sc_16 := sc_15.step hb16
        have bs_16 := bs_15.step hb16
        clear sb_15 sc_15 bs_15 hb16
        have HSP := Lib.hid (speeds (s := s) (c := n9))
        generalize numSp s n9 = nu at *
        generalize denSp s n9 = de at *
        cases hk3 : okSp s n9 with
        | false =>
          have qbs0_1 := (bs_16.now).2 0 _ rfl
          have qbs1_2 := (bs_16.now).2 1 _ rfl
          have qbs2_3 := (bs_16.now).2 2 _ rfl
          have qbs3_4 := (bs_16.now).2 3 _ rfl
          have qbs4_5 := (bs_16.now).2 4 _ rfl
          have qbs5_6 := (bs_16.now).2 5 _ rfl
          have qbs6_7 := (bs_16.now).2 6 _ rfl
          have qbs7_8 := (bs_16.now).2 7 _ rfl
          clear HSP hzs hws hIn
          clear bs_16
          go_wp2_with fail
          refine (drawSee w16 _ _ sc_16.now).mono ?_
          rintro e w17 ⟨v20, us, f, rfl, hf, hl20, hb20, hs20, hb17⟩
          have sb_17 := sb_16.step hb17
          have sc_17 := sc_16.step hb17
          clear sb_16 sc_16 hb17
          have s2018 := St.sta hs20
          obtain ⟨a20, c20, rfl⟩ := hs20.form
          have hz20 : szsStation us ≤ 1048576 := by have := bds_sz hb20; omega
          have hw20 : ∀ s ∈ us, wfStation s := fun s hs => (hb20 s hs).wf
          clear hs20 hb20
          have hIf : I64 f := by unfold I64; omega
          go_wp2_with fail
          refine (implSee us _ f w17 _ s2018.now (Nat.le_refl _) hz20 hw20 hIf).mono ?_
          rintro e w19 ⟨v21, rfl, ho21, hb19⟩
          have sb_19 := sb_17.step hb19
          have sc_19 := sc_17.step hb19
          have s20_19 := s2018.step hb19
          clear sb_17 sc_17 s2018 hb19
          have sp20 := St.own ho21
          clear ho21
          go_wp2_with fail
          refine (specSee us _ f w19 _ s20_19.now (Nat.le_refl _) hz20 hw20 hIf).mono ?_
          rintro e w21 ⟨v22, rfl, ho22, hb21⟩
          have sb_21 := sb_19.step hb21
          have sc_21 := sc_19.step hb21
          have s20_21 := s20_19.step hb21
          have sp_21 := sp20.step hb21
          clear sb_19 sc_19 s20_19 sp20 hb21
          have sq22 := St.own ho22
          clear ho22
          generalize okSee us f = kf
          generalize resSee us f = rf at *
          go_wp2_with fail
          refine (rInts_same rf v21 v22 w21 _ sp_21.now sq22.now (Nat.le_refl _)).mono ?_
          rintro e w23 ⟨rfl, hb23⟩
          have sb_23 := sb_21.step hb23
          have sc_23 := sc_21.step hb23
          have s20_23 := s20_21.step hb23
          have sp_23 := sp_21.step hb23
          have sq_23 := sq22.step hb23
          clear sb_21 sc_21 s20_21 sp_21 sq22 hb23
          clear sp_23 sq_23
          go_wp2_with fail
          refine (implAre us _ w23 _ s20_23.now (Nat.le_refl _) hz20 hw20).mono ?_
          rintro e w24 ⟨rfl, hb24⟩
          have sb_24 := sb_23.step hb24
          have sc_24 := sc_23.step hb24
          have s20_24 := s20_23.step hb24
          clear sb_23 sc_23 s20_23 hb24
          go_wp2_with fail
          refine (specAre us _ w24 _ s20_24.now (Nat.le_refl _) hz20 hw20).mono ?_
          rintro e w25 ⟨rfl, hb25⟩
          have sb_25 := sb_24.step hb25
          have sc_25 := sc_24.step hb25
          have s20_25 := s20_24.step hb25
          clear sb_24 sc_24 s20_24 hb25
          generalize goodL us = gu
          go_wp2
          go_ret
          exact ⟨ret_bool (by simp), sb_25.now⟩
        | true =>
          have qbs0_1 := (bs_16.now).2 0 _ rfl
          have qbs1_2 := (bs_16.now).2 1 _ rfl
          have qbs2_3 := (bs_16.now).2 2 _ rfl
          have qbs3_4 := (bs_16.now).2 3 _ rfl
          have qbs4_5 := (bs_16.now).2 4 _ rfl
          have qbs5_6 := (bs_16.now).2 5 _ rfl
          have qbs6_7 := (bs_16.now).2 6 _ rfl
          have qbs7_8 := (bs_16.now).2 7 _ rfl
          obtain ⟨hc0, hpe, hd0, hpb⟩ := HSP.out hk3
          have t1 : IntKind.i64.wrap (nu * s.pGain) = n9 * de := by rw [hpe]; exact IntWalk.i64_in _ (by omega)
          have t2 : IntKind.i64.wrap (n9 * de) = n9 * de := IntWalk.i64_in _ (by omega)
          have t3 : ¬ de < 1 := by omega
          clear hpe hpb hc0
          clear HSP hzs hws hIn
          clear bs_16
          go_wp2_with fail
          refine (drawSee w16 _ _ sc_16.now).mono ?_
          rintro e w17 ⟨v20, us, f, rfl, hf, hl20, hb20, hs20, hb17⟩
          have sb_17 := sb_16.step hb17
          have sc_17 := sc_16.step hb17
          clear sb_16 sc_16 hb17
          have s2018 := St.sta hs20
          obtain ⟨a20, c20, rfl⟩ := hs20.form
          have hz20 : szsStation us ≤ 1048576 := by have := bds_sz hb20; omega
          have hw20 : ∀ s ∈ us, wfStation s := fun s hs => (hb20 s hs).wf
          clear hs20 hb20
          have hIf : I64 f := by unfold I64; omega
          go_wp2_with fail
          refine (implSee us _ f w17 _ s2018.now (Nat.le_refl _) hz20 hw20 hIf).mono ?_
          rintro e w19 ⟨v21, rfl, ho21, hb19⟩
          have sb_19 := sb_17.step hb19
          have sc_19 := sc_17.step hb19
          have s20_19 := s2018.step hb19
          clear sb_17 sc_17 s2018 hb19
          have sp20 := St.own ho21
          clear ho21
          go_wp2_with fail
          refine (specSee us _ f w19 _ s20_19.now (Nat.le_refl _) hz20 hw20 hIf).mono ?_
          rintro e w21 ⟨v22, rfl, ho22, hb21⟩
          have sb_21 := sb_19.step hb21
          have sc_21 := sc_19.step hb21
          have s20_21 := s20_19.step hb21
          have sp_21 := sp20.step hb21
          clear sb_19 sc_19 s20_19 sp20 hb21
          have sq22 := St.own ho22
          clear ho22
          generalize okSee us f = kf
          generalize resSee us f = rf at *
          go_wp2_with fail
          refine (rInts_same rf v21 v22 w21 _ sp_21.now sq22.now (Nat.le_refl _)).mono ?_
          rintro e w23 ⟨rfl, hb23⟩
          have sb_23 := sb_21.step hb23
          have sc_23 := sc_21.step hb23
          have s20_23 := s20_21.step hb23
          have sp_23 := sp_21.step hb23
          have sq_23 := sq22.step hb23
          clear sb_21 sc_21 s20_21 sp_21 sq22 hb23
          clear sp_23 sq_23
          go_wp2_with fail
          refine (implAre us _ w23 _ s20_23.now (Nat.le_refl _) hz20 hw20).mono ?_
          rintro e w24 ⟨rfl, hb24⟩
          have sb_24 := sb_23.step hb24
          have sc_24 := sc_23.step hb24
          have s20_24 := s20_23.step hb24
          clear sb_23 sc_23 s20_23 hb24
          go_wp2_with fail
          refine (specAre us _ w24 _ s20_24.now (Nat.le_refl _) hz20 hw20).mono ?_
          rintro e w25 ⟨rfl, hb25⟩
          have sb_25 := sb_24.step hb25
          have sc_25 := sc_24.step hb25
          have s20_25 := s20_24.step hb25
          clear sb_24 sc_24 s20_24 hb25
          generalize goodL us = gu
          go_wp2
          go_ret
          exact ⟨ret_bool (by simp), sb_25.now⟩
      | true =>
        obtain ⟨hlo, hhi, ⟨o1, e1⟩, ⟨o2, e2⟩⟩ := HBA.out hk2
        have hI1 : I64 (loBand ls) := by unfold I64; omega
        have hI2 : I64 (hiBand ls) := by unfold I64; omega
        have HA := Lib.hid (fun v w' (h : StationL w' w'.heap.size v ls) => implSee ls v (loBand ls) w' _ h (Nat.le_refl _) hz10 hw10 hI1)
        have HD := Lib.hid (fun v w' (h : StationL w' w'.heap.size v ls) => implSee ls v (hiBand ls) w' _ h (Nat.le_refl _) hz10 hw10 hI2)
        rw [o1] at HA
        rw [o2] at HD
        clear HBA hI1 hI2 hlo hhi o1 o2 hz10 hw10 hk2
        generalize resSee ls (loBand ls) = r1 at *
        generalize resSee ls (hiBand ls) = r2 at *
        generalize loBand ls = lo at *
        generalize hiBand ls = hi at *
        go_wp2_with fail
        refine (HA.out _ w12 s10_12.now).mono ?_
        rintro e w13 ⟨v11, rfl, ho11, hb13⟩
        have sb_13 := sb_12.step hb13
        have sc_13 := sc_12.step hb13
        have s10_13 := s10_12.step hb13
        clear sb_12 sc_12 s10_12 hb13
        obtain ⟨a11, c11, rfl⟩ := ho11.form
        rw [e1] at *
        clear ho11 HA
        go_wp2_with fail
        refine (HD.out _ w13 s10_13.now).mono ?_
        rintro e w14 ⟨v12, rfl, ho12, hb14⟩
        have sb_14 := sb_13.step hb14
        have sc_14 := sc_13.step hb14
        have s10_14 := s10_13.step hb14
        clear sb_13 sc_13 s10_13 hb14
        obtain ⟨a12, c12, rfl⟩ := ho12.form
        rw [e2] at *
        clear ho12 HD
        clear s10_14
        go_wp2_with fail
        refine (drawSpd w14 _ _ sc_14.now).mono ?_
        rintro e w15 ⟨s, n9, rfl, hbs, hn9, hb15⟩
        have sb_15 := sb_14.step hb15
        have sc_15 := sc_14.step hb15
        clear sb_14 sc_14 hb15
        have hws := hbs.wf
        have hzs : sz1Station s ≤ 1048576 := by have := hbs.sz; omega
        have hIn : I64 n9 := by unfold I64; omega
        clear hbs
        have N16 := (Below.refl w15.heap.size w15).alloc (Nat.le_refl _) (.cells #[.int .i64 s.pId, .string s.pName, .int .i64 s.pX, .int .i64 s.pY, .int .i64 s.pGain, .int .i64 s.pLow, .int .i64 s.pHigh, .int .i64 s.pUntil] 60)
        have bs16 := St.bx (Bx.new w15 [.int .i64 s.pId, .string s.pName, .int .i64 s.pX, .int .i64 s.pY, .int .i64 s.pGain, .int .i64 s.pLow, .int .i64 s.pHigh, .int .i64 s.pUntil] 60)
        have sb_16 := sb_15.step N16
        have sc_16 := sc_15.step N16
        clear sb_15 sc_15 N16
        have qbs0_1 := (bs16.now).2 0 _ rfl
        have qbs1_2 := (bs16.now).2 1 _ rfl
        have qbs2_3 := (bs16.now).2 2 _ rfl
        have qbs3_4 := (bs16.now).2 3 _ rfl
        have qbs4_5 := (bs16.now).2 4 _ rfl
        have qbs5_6 := (bs16.now).2 5 _ rfl
        have qbs6_7 := (bs16.now).2 6 _ rfl
        have qbs7_8 := (bs16.now).2 7 _ rfl
        go_wp2_with fail
        refine (implSp s _ n9 (w15.alloc (.cells #[.int .i64 s.pId, .string s.pName, .int .i64 s.pX, .int .i64 s.pY, .int .i64 s.pGain, .int .i64 s.pLow, .int .i64 s.pHigh, .int .i64 s.pUntil] 60)) _ rfl (Nat.le_refl _) hzs hws hIn).mono ?_
        clear qbs0_1 qbs1_2 qbs2_3 qbs3_4 qbs4_5 qbs5_6 qbs6_7 qbs7_8
        rintro e w17 ⟨rfl, hb17⟩
        have sb_17 := sb_16.step hb17
        have sc_17 := sc_16.step hb17
        have bs_17 := bs16.step hb17
        clear sb_16 sc_16 bs16 hb17
        have qbs0_9 := (bs_17.now).2 0 _ rfl
        have qbs1_10 := (bs_17.now).2 1 _ rfl
        have qbs2_11 := (bs_17.now).2 2 _ rfl
        have qbs3_12 := (bs_17.now).2 3 _ rfl
        have qbs4_13 := (bs_17.now).2 4 _ rfl
        have qbs5_14 := (bs_17.now).2 5 _ rfl
        have qbs6_15 := (bs_17.now).2 6 _ rfl
        have qbs7_16 := (bs_17.now).2 7 _ rfl
        go_wp2_with fail
        refine (specSp s _ n9 w17 _ rfl (Nat.le_refl _) hzs hws hIn).mono ?_
        clear qbs0_9 qbs1_10 qbs2_11 qbs3_12 qbs4_13 qbs5_14 qbs6_15 qbs7_16
        rintro e w18 ⟨rfl, hb18⟩
        have sb_18 := sb_17.step hb18
        have sc_18 := sc_17.step hb18
        have bs_18 := bs_17.step hb18
        clear sb_17 sc_17 bs_17 hb18
        have HSP := Lib.hid (speeds (s := s) (c := n9))
        generalize numSp s n9 = nu at *
        generalize denSp s n9 = de at *
        cases hk3 : okSp s n9 with
        | false =>
          have qbs0_1 := (bs_18.now).2 0 _ rfl
          have qbs1_2 := (bs_18.now).2 1 _ rfl
          have qbs2_3 := (bs_18.now).2 2 _ rfl
          have qbs3_4 := (bs_18.now).2 3 _ rfl
          have qbs4_5 := (bs_18.now).2 4 _ rfl
          have qbs5_6 := (bs_18.now).2 5 _ rfl
          have qbs6_7 := (bs_18.now).2 6 _ rfl
          have qbs7_8 := (bs_18.now).2 7 _ rfl
          clear HSP hzs hws hIn
          clear bs_18
          go_wp2_with fail
          refine (drawSee w18 _ _ sc_18.now).mono ?_
          rintro e w19 ⟨v20, us, f, rfl, hf, hl20, hb20, hs20, hb19⟩
          have sb_19 := sb_18.step hb19
          have sc_19 := sc_18.step hb19
          clear sb_18 sc_18 hb19
          have s2020 := St.sta hs20
          obtain ⟨a20, c20, rfl⟩ := hs20.form
          have hz20 : szsStation us ≤ 1048576 := by have := bds_sz hb20; omega
          have hw20 : ∀ s ∈ us, wfStation s := fun s hs => (hb20 s hs).wf
          clear hs20 hb20
          have hIf : I64 f := by unfold I64; omega
          go_wp2_with fail
          refine (implSee us _ f w19 _ s2020.now (Nat.le_refl _) hz20 hw20 hIf).mono ?_
          rintro e w21 ⟨v21, rfl, ho21, hb21⟩
          have sb_21 := sb_19.step hb21
          have sc_21 := sc_19.step hb21
          have s20_21 := s2020.step hb21
          clear sb_19 sc_19 s2020 hb21
          have sp22 := St.own ho21
          clear ho21
          go_wp2_with fail
          refine (specSee us _ f w21 _ s20_21.now (Nat.le_refl _) hz20 hw20 hIf).mono ?_
          rintro e w23 ⟨v22, rfl, ho22, hb23⟩
          have sb_23 := sb_21.step hb23
          have sc_23 := sc_21.step hb23
          have s20_23 := s20_21.step hb23
          have sp_23 := sp22.step hb23
          clear sb_21 sc_21 s20_21 sp22 hb23
          have sq24 := St.own ho22
          clear ho22
          generalize okSee us f = kf
          generalize resSee us f = rf at *
          go_wp2_with fail
          refine (rInts_same rf v21 v22 w23 _ sp_23.now sq24.now (Nat.le_refl _)).mono ?_
          rintro e w25 ⟨rfl, hb25⟩
          have sb_25 := sb_23.step hb25
          have sc_25 := sc_23.step hb25
          have s20_25 := s20_23.step hb25
          have sp_25 := sp_23.step hb25
          have sq_25 := sq24.step hb25
          clear sb_23 sc_23 s20_23 sp_23 sq24 hb25
          clear sp_25 sq_25
          go_wp2_with fail
          refine (implAre us _ w25 _ s20_25.now (Nat.le_refl _) hz20 hw20).mono ?_
          rintro e w26 ⟨rfl, hb26⟩
          have sb_26 := sb_25.step hb26
          have sc_26 := sc_25.step hb26
          have s20_26 := s20_25.step hb26
          clear sb_25 sc_25 s20_25 hb26
          go_wp2_with fail
          refine (specAre us _ w26 _ s20_26.now (Nat.le_refl _) hz20 hw20).mono ?_
          rintro e w27 ⟨rfl, hb27⟩
          have sb_27 := sb_26.step hb27
          have sc_27 := sc_26.step hb27
          have s20_27 := s20_26.step hb27
          clear sb_26 sc_26 s20_26 hb27
          generalize goodL us = gu
          go_wp2
          go_ret
          exact ⟨ret_bool (by simp), sb_27.now⟩
        | true =>
          have qbs0_1 := (bs_18.now).2 0 _ rfl
          have qbs1_2 := (bs_18.now).2 1 _ rfl
          have qbs2_3 := (bs_18.now).2 2 _ rfl
          have qbs3_4 := (bs_18.now).2 3 _ rfl
          have qbs4_5 := (bs_18.now).2 4 _ rfl
          have qbs5_6 := (bs_18.now).2 5 _ rfl
          have qbs6_7 := (bs_18.now).2 6 _ rfl
          have qbs7_8 := (bs_18.now).2 7 _ rfl
          obtain ⟨hc0, hpe, hd0, hpb⟩ := HSP.out hk3
          have t1 : IntKind.i64.wrap (nu * s.pGain) = n9 * de := by rw [hpe]; exact IntWalk.i64_in _ (by omega)
          have t2 : IntKind.i64.wrap (n9 * de) = n9 * de := IntWalk.i64_in _ (by omega)
          have t3 : ¬ de < 1 := by omega
          clear hpe hpb hc0
          clear HSP hzs hws hIn
          clear bs_18
          go_wp2_with fail
          refine (drawSee w18 _ _ sc_18.now).mono ?_
          rintro e w19 ⟨v20, us, f, rfl, hf, hl20, hb20, hs20, hb19⟩
          have sb_19 := sb_18.step hb19
          have sc_19 := sc_18.step hb19
          clear sb_18 sc_18 hb19
          have s2020 := St.sta hs20
          obtain ⟨a20, c20, rfl⟩ := hs20.form
          have hz20 : szsStation us ≤ 1048576 := by have := bds_sz hb20; omega
          have hw20 : ∀ s ∈ us, wfStation s := fun s hs => (hb20 s hs).wf
          clear hs20 hb20
          have hIf : I64 f := by unfold I64; omega
          go_wp2_with fail
          refine (implSee us _ f w19 _ s2020.now (Nat.le_refl _) hz20 hw20 hIf).mono ?_
          rintro e w21 ⟨v21, rfl, ho21, hb21⟩
          have sb_21 := sb_19.step hb21
          have sc_21 := sc_19.step hb21
          have s20_21 := s2020.step hb21
          clear sb_19 sc_19 s2020 hb21
          have sp22 := St.own ho21
          clear ho21
          go_wp2_with fail
          refine (specSee us _ f w21 _ s20_21.now (Nat.le_refl _) hz20 hw20 hIf).mono ?_
          rintro e w23 ⟨v22, rfl, ho22, hb23⟩
          have sb_23 := sb_21.step hb23
          have sc_23 := sc_21.step hb23
          have s20_23 := s20_21.step hb23
          have sp_23 := sp22.step hb23
          clear sb_21 sc_21 s20_21 sp22 hb23
          have sq24 := St.own ho22
          clear ho22
          generalize okSee us f = kf
          generalize resSee us f = rf at *
          go_wp2_with fail
          refine (rInts_same rf v21 v22 w23 _ sp_23.now sq24.now (Nat.le_refl _)).mono ?_
          rintro e w25 ⟨rfl, hb25⟩
          have sb_25 := sb_23.step hb25
          have sc_25 := sc_23.step hb25
          have s20_25 := s20_23.step hb25
          have sp_25 := sp_23.step hb25
          have sq_25 := sq24.step hb25
          clear sb_23 sc_23 s20_23 sp_23 sq24 hb25
          clear sp_25 sq_25
          go_wp2_with fail
          refine (implAre us _ w25 _ s20_25.now (Nat.le_refl _) hz20 hw20).mono ?_
          rintro e w26 ⟨rfl, hb26⟩
          have sb_26 := sb_25.step hb26
          have sc_26 := sc_25.step hb26
          have s20_26 := s20_25.step hb26
          clear sb_25 sc_25 s20_25 hb26
          go_wp2_with fail
          refine (specAre us _ w26 _ s20_26.now (Nat.le_refl _) hz20 hw20).mono ?_
          rintro e w27 ⟨rfl, hb27⟩
          have sb_27 := sb_26.step hb27
          have sc_27 := sc_26.step hb27
          have s20_27 := s20_26.step hb27
          clear sb_26 sc_26 s20_26 hb27
          generalize goodL us = gu
          go_wp2
          go_ret
          exact ⟨ret_bool (by simp), sb_27.now⟩
    · have hnc : (rn.length : Int) = c := by omega
      clear hnl
      go_wp2_with fail
      refine (drawCommonBand w8 _ _ sc_8.now).mono ?_
      rintro e w9 ⟨v10, ls, rfl, hl10, hb10, hs10, hb9⟩
      have sb_9 := sb_8.step hb9
      have sc_9 := sc_8.step hb9
      clear sb_8 sc_8 hb9
      have s1010 := St.sta hs10
      obtain ⟨a10, c10, rfl⟩ := hs10.form
      have hz10 : szsStation ls ≤ 1048576 := by have := bds_sz hb10; omega
      have hw10 : ∀ s ∈ ls, wfStation s := fun s hs => (hb10 s hs).wf
      clear hs10 hb10
      go_wp2_with fail
      refine (implBand ls _ w9 _ s1010.now (Nat.le_refl _) hz10 hw10).mono ?_
      rintro e w11 ⟨rfl, hb11⟩
      have sb_11 := sb_9.step hb11
      have sc_11 := sc_9.step hb11
      have s10_11 := s1010.step hb11
      clear sb_9 sc_9 s1010 hb11
      go_wp2_with fail
      refine (specBand ls _ w11 _ s10_11.now (Nat.le_refl _) hz10 hw10).mono ?_
      rintro e w12 ⟨rfl, hb12⟩
      have sb_12 := sb_11.step hb12
      have sc_12 := sc_11.step hb12
      have s10_12 := s10_11.step hb12
      clear sb_11 sc_11 s10_11 hb12
      have HBA := Lib.hid (band_all (xs := ls))
      cases hk2 : okBand ls with
      | false =>
        clear HBA hz10 hw10
        clear s10_12
        go_wp2_with fail
        refine (drawSpd w12 _ _ sc_12.now).mono ?_
        rintro e w13 ⟨s, n9, rfl, hbs, hn9, hb13⟩
        have sb_13 := sb_12.step hb13
        have sc_13 := sc_12.step hb13
        clear sb_12 sc_12 hb13
        have hws := hbs.wf
        have hzs : sz1Station s ≤ 1048576 := by have := hbs.sz; omega
        have hIn : I64 n9 := by unfold I64; omega
        clear hbs
        have N14 := (Below.refl w13.heap.size w13).alloc (Nat.le_refl _) (.cells #[.int .i64 s.pId, .string s.pName, .int .i64 s.pX, .int .i64 s.pY, .int .i64 s.pGain, .int .i64 s.pLow, .int .i64 s.pHigh, .int .i64 s.pUntil] 60)
        have bs14 := St.bx (Bx.new w13 [.int .i64 s.pId, .string s.pName, .int .i64 s.pX, .int .i64 s.pY, .int .i64 s.pGain, .int .i64 s.pLow, .int .i64 s.pHigh, .int .i64 s.pUntil] 60)
        have sb_14 := sb_13.step N14
        have sc_14 := sc_13.step N14
        clear sb_13 sc_13 N14
        have qbs0_1 := (bs14.now).2 0 _ rfl
        have qbs1_2 := (bs14.now).2 1 _ rfl
        have qbs2_3 := (bs14.now).2 2 _ rfl
        have qbs3_4 := (bs14.now).2 3 _ rfl
        have qbs4_5 := (bs14.now).2 4 _ rfl
        have qbs5_6 := (bs14.now).2 5 _ rfl
        have qbs6_7 := (bs14.now).2 6 _ rfl
        have qbs7_8 := (bs14.now).2 7 _ rfl
        go_wp2_with fail
        refine (implSp s _ n9 (w13.alloc (.cells #[.int .i64 s.pId, .string s.pName, .int .i64 s.pX, .int .i64 s.pY, .int .i64 s.pGain, .int .i64 s.pLow, .int .i64 s.pHigh, .int .i64 s.pUntil] 60)) _ rfl (Nat.le_refl _) hzs hws hIn).mono ?_
        clear qbs0_1 qbs1_2 qbs2_3 qbs3_4 qbs4_5 qbs5_6 qbs6_7 qbs7_8
        rintro e w15 ⟨rfl, hb15⟩
        have sb_15 := sb_14.step hb15
        have sc_15 := sc_14.step hb15
        have bs_15 := bs14.step hb15
        clear sb_14 sc_14 bs14 hb15
        have qbs0_9 := (bs_15.now).2 0 _ rfl
        have qbs1_10 := (bs_15.now).2 1 _ rfl
        have qbs2_11 := (bs_15.now).2 2 _ rfl
        have qbs3_12 := (bs_15.now).2 3 _ rfl
        have qbs4_13 := (bs_15.now).2 4 _ rfl
        have qbs5_14 := (bs_15.now).2 5 _ rfl
        have qbs6_15 := (bs_15.now).2 6 _ rfl
        have qbs7_16 := (bs_15.now).2 7 _ rfl
        go_wp2_with fail
        refine (specSp s _ n9 w15 _ rfl (Nat.le_refl _) hzs hws hIn).mono ?_
        clear qbs0_9 qbs1_10 qbs2_11 qbs3_12 qbs4_13 qbs5_14 qbs6_15 qbs7_16
        rintro e w16 ⟨rfl, hb16⟩
        have sb_16 := sb_15.step hb16
        have sc_16 := sc_15.step hb16
        have bs_16 := bs_15.step hb16
        clear sb_15 sc_15 bs_15 hb16
        have HSP := Lib.hid (speeds (s := s) (c := n9))
        generalize numSp s n9 = nu at *
        generalize denSp s n9 = de at *
        cases hk3 : okSp s n9 with
        | false =>
          have qbs0_1 := (bs_16.now).2 0 _ rfl
          have qbs1_2 := (bs_16.now).2 1 _ rfl
          have qbs2_3 := (bs_16.now).2 2 _ rfl
          have qbs3_4 := (bs_16.now).2 3 _ rfl
          have qbs4_5 := (bs_16.now).2 4 _ rfl
          have qbs5_6 := (bs_16.now).2 5 _ rfl
          have qbs6_7 := (bs_16.now).2 6 _ rfl
          have qbs7_8 := (bs_16.now).2 7 _ rfl
          clear HSP hzs hws hIn
          clear bs_16
          go_wp2_with fail
          refine (drawSee w16 _ _ sc_16.now).mono ?_
          rintro e w17 ⟨v20, us, f, rfl, hf, hl20, hb20, hs20, hb17⟩
          have sb_17 := sb_16.step hb17
          have sc_17 := sc_16.step hb17
          clear sb_16 sc_16 hb17
          have s2018 := St.sta hs20
          obtain ⟨a20, c20, rfl⟩ := hs20.form
          have hz20 : szsStation us ≤ 1048576 := by have := bds_sz hb20; omega
          have hw20 : ∀ s ∈ us, wfStation s := fun s hs => (hb20 s hs).wf
          clear hs20 hb20
          have hIf : I64 f := by unfold I64; omega
          go_wp2_with fail
          refine (implSee us _ f w17 _ s2018.now (Nat.le_refl _) hz20 hw20 hIf).mono ?_
          rintro e w19 ⟨v21, rfl, ho21, hb19⟩
          have sb_19 := sb_17.step hb19
          have sc_19 := sc_17.step hb19
          have s20_19 := s2018.step hb19
          clear sb_17 sc_17 s2018 hb19
          have sp20 := St.own ho21
          clear ho21
          go_wp2_with fail
          refine (specSee us _ f w19 _ s20_19.now (Nat.le_refl _) hz20 hw20 hIf).mono ?_
          rintro e w21 ⟨v22, rfl, ho22, hb21⟩
          have sb_21 := sb_19.step hb21
          have sc_21 := sc_19.step hb21
          have s20_21 := s20_19.step hb21
          have sp_21 := sp20.step hb21
          clear sb_19 sc_19 s20_19 sp20 hb21
          have sq22 := St.own ho22
          clear ho22
          generalize okSee us f = kf
          generalize resSee us f = rf at *
          go_wp2_with fail
          refine (rInts_same rf v21 v22 w21 _ sp_21.now sq22.now (Nat.le_refl _)).mono ?_
          rintro e w23 ⟨rfl, hb23⟩
          have sb_23 := sb_21.step hb23
          have sc_23 := sc_21.step hb23
          have s20_23 := s20_21.step hb23
          have sp_23 := sp_21.step hb23
          have sq_23 := sq22.step hb23
          clear sb_21 sc_21 s20_21 sp_21 sq22 hb23
          clear sp_23 sq_23
          go_wp2_with fail
          refine (implAre us _ w23 _ s20_23.now (Nat.le_refl _) hz20 hw20).mono ?_
          rintro e w24 ⟨rfl, hb24⟩
          have sb_24 := sb_23.step hb24
          have sc_24 := sc_23.step hb24
          have s20_24 := s20_23.step hb24
          clear sb_23 sc_23 s20_23 hb24
          go_wp2_with fail
          refine (specAre us _ w24 _ s20_24.now (Nat.le_refl _) hz20 hw20).mono ?_
          rintro e w25 ⟨rfl, hb25⟩
          have sb_25 := sb_24.step hb25
          have sc_25 := sc_24.step hb25
          have s20_25 := s20_24.step hb25
          clear sb_24 sc_24 s20_24 hb25
          generalize goodL us = gu
          go_wp2
          go_ret
          exact ⟨ret_bool (by simp), sb_25.now⟩
        | true =>
          have qbs0_1 := (bs_16.now).2 0 _ rfl
          have qbs1_2 := (bs_16.now).2 1 _ rfl
          have qbs2_3 := (bs_16.now).2 2 _ rfl
          have qbs3_4 := (bs_16.now).2 3 _ rfl
          have qbs4_5 := (bs_16.now).2 4 _ rfl
          have qbs5_6 := (bs_16.now).2 5 _ rfl
          have qbs6_7 := (bs_16.now).2 6 _ rfl
          have qbs7_8 := (bs_16.now).2 7 _ rfl
          obtain ⟨hc0, hpe, hd0, hpb⟩ := HSP.out hk3
          have t1 : IntKind.i64.wrap (nu * s.pGain) = n9 * de := by rw [hpe]; exact IntWalk.i64_in _ (by omega)
          have t2 : IntKind.i64.wrap (n9 * de) = n9 * de := IntWalk.i64_in _ (by omega)
          have t3 : ¬ de < 1 := by omega
          clear hpe hpb hc0
          clear HSP hzs hws hIn
          clear bs_16
          go_wp2_with fail
          refine (drawSee w16 _ _ sc_16.now).mono ?_
          rintro e w17 ⟨v20, us, f, rfl, hf, hl20, hb20, hs20, hb17⟩
          have sb_17 := sb_16.step hb17
          have sc_17 := sc_16.step hb17
          clear sb_16 sc_16 hb17
          have s2018 := St.sta hs20
          obtain ⟨a20, c20, rfl⟩ := hs20.form
          have hz20 : szsStation us ≤ 1048576 := by have := bds_sz hb20; omega
          have hw20 : ∀ s ∈ us, wfStation s := fun s hs => (hb20 s hs).wf
          clear hs20 hb20
          have hIf : I64 f := by unfold I64; omega
          go_wp2_with fail
          refine (implSee us _ f w17 _ s2018.now (Nat.le_refl _) hz20 hw20 hIf).mono ?_
          rintro e w19 ⟨v21, rfl, ho21, hb19⟩
          have sb_19 := sb_17.step hb19
          have sc_19 := sc_17.step hb19
          have s20_19 := s2018.step hb19
          clear sb_17 sc_17 s2018 hb19
          have sp20 := St.own ho21
          clear ho21
          go_wp2_with fail
          refine (specSee us _ f w19 _ s20_19.now (Nat.le_refl _) hz20 hw20 hIf).mono ?_
          rintro e w21 ⟨v22, rfl, ho22, hb21⟩
          have sb_21 := sb_19.step hb21
          have sc_21 := sc_19.step hb21
          have s20_21 := s20_19.step hb21
          have sp_21 := sp20.step hb21
          clear sb_19 sc_19 s20_19 sp20 hb21
          have sq22 := St.own ho22
          clear ho22
          generalize okSee us f = kf
          generalize resSee us f = rf at *
          go_wp2_with fail
          refine (rInts_same rf v21 v22 w21 _ sp_21.now sq22.now (Nat.le_refl _)).mono ?_
          rintro e w23 ⟨rfl, hb23⟩
          have sb_23 := sb_21.step hb23
          have sc_23 := sc_21.step hb23
          have s20_23 := s20_21.step hb23
          have sp_23 := sp_21.step hb23
          have sq_23 := sq22.step hb23
          clear sb_21 sc_21 s20_21 sp_21 sq22 hb23
          clear sp_23 sq_23
          go_wp2_with fail
          refine (implAre us _ w23 _ s20_23.now (Nat.le_refl _) hz20 hw20).mono ?_
          rintro e w24 ⟨rfl, hb24⟩
          have sb_24 := sb_23.step hb24
          have sc_24 := sc_23.step hb24
          have s20_24 := s20_23.step hb24
          clear sb_23 sc_23 s20_23 hb24
          go_wp2_with fail
          refine (specAre us _ w24 _ s20_24.now (Nat.le_refl _) hz20 hw20).mono ?_
          rintro e w25 ⟨rfl, hb25⟩
          have sb_25 := sb_24.step hb25
          have sc_25 := sc_24.step hb25
          have s20_25 := s20_24.step hb25
          clear sb_24 sc_24 s20_24 hb25
          generalize goodL us = gu
          go_wp2
          go_ret
          exact ⟨ret_bool (by simp), sb_25.now⟩
      | true =>
        obtain ⟨hlo, hhi, ⟨o1, e1⟩, ⟨o2, e2⟩⟩ := HBA.out hk2
        have hI1 : I64 (loBand ls) := by unfold I64; omega
        have hI2 : I64 (hiBand ls) := by unfold I64; omega
        have HA := Lib.hid (fun v w' (h : StationL w' w'.heap.size v ls) => implSee ls v (loBand ls) w' _ h (Nat.le_refl _) hz10 hw10 hI1)
        have HD := Lib.hid (fun v w' (h : StationL w' w'.heap.size v ls) => implSee ls v (hiBand ls) w' _ h (Nat.le_refl _) hz10 hw10 hI2)
        rw [o1] at HA
        rw [o2] at HD
        clear HBA hI1 hI2 hlo hhi o1 o2 hz10 hw10 hk2
        generalize resSee ls (loBand ls) = r1 at *
        generalize resSee ls (hiBand ls) = r2 at *
        generalize loBand ls = lo at *
        generalize hiBand ls = hi at *
        go_wp2_with fail
        refine (HA.out _ w12 s10_12.now).mono ?_
        rintro e w13 ⟨v11, rfl, ho11, hb13⟩
        have sb_13 := sb_12.step hb13
        have sc_13 := sc_12.step hb13
        have s10_13 := s10_12.step hb13
        clear sb_12 sc_12 s10_12 hb13
        obtain ⟨a11, c11, rfl⟩ := ho11.form
        rw [e1] at *
        clear ho11 HA
        go_wp2_with fail
        refine (HD.out _ w13 s10_13.now).mono ?_
        rintro e w14 ⟨v12, rfl, ho12, hb14⟩
        have sb_14 := sb_13.step hb14
        have sc_14 := sc_13.step hb14
        have s10_14 := s10_13.step hb14
        clear sb_13 sc_13 s10_13 hb14
        obtain ⟨a12, c12, rfl⟩ := ho12.form
        rw [e2] at *
        clear ho12 HD
        clear s10_14
        go_wp2_with fail
        refine (drawSpd w14 _ _ sc_14.now).mono ?_
        rintro e w15 ⟨s, n9, rfl, hbs, hn9, hb15⟩
        have sb_15 := sb_14.step hb15
        have sc_15 := sc_14.step hb15
        clear sb_14 sc_14 hb15
        have hws := hbs.wf
        have hzs : sz1Station s ≤ 1048576 := by have := hbs.sz; omega
        have hIn : I64 n9 := by unfold I64; omega
        clear hbs
        have N16 := (Below.refl w15.heap.size w15).alloc (Nat.le_refl _) (.cells #[.int .i64 s.pId, .string s.pName, .int .i64 s.pX, .int .i64 s.pY, .int .i64 s.pGain, .int .i64 s.pLow, .int .i64 s.pHigh, .int .i64 s.pUntil] 60)
        have bs16 := St.bx (Bx.new w15 [.int .i64 s.pId, .string s.pName, .int .i64 s.pX, .int .i64 s.pY, .int .i64 s.pGain, .int .i64 s.pLow, .int .i64 s.pHigh, .int .i64 s.pUntil] 60)
        have sb_16 := sb_15.step N16
        have sc_16 := sc_15.step N16
        clear sb_15 sc_15 N16
        have qbs0_1 := (bs16.now).2 0 _ rfl
        have qbs1_2 := (bs16.now).2 1 _ rfl
        have qbs2_3 := (bs16.now).2 2 _ rfl
        have qbs3_4 := (bs16.now).2 3 _ rfl
        have qbs4_5 := (bs16.now).2 4 _ rfl
        have qbs5_6 := (bs16.now).2 5 _ rfl
        have qbs6_7 := (bs16.now).2 6 _ rfl
        have qbs7_8 := (bs16.now).2 7 _ rfl
        go_wp2_with fail
        refine (implSp s _ n9 (w15.alloc (.cells #[.int .i64 s.pId, .string s.pName, .int .i64 s.pX, .int .i64 s.pY, .int .i64 s.pGain, .int .i64 s.pLow, .int .i64 s.pHigh, .int .i64 s.pUntil] 60)) _ rfl (Nat.le_refl _) hzs hws hIn).mono ?_
        clear qbs0_1 qbs1_2 qbs2_3 qbs3_4 qbs4_5 qbs5_6 qbs6_7 qbs7_8
        rintro e w17 ⟨rfl, hb17⟩
        have sb_17 := sb_16.step hb17
        have sc_17 := sc_16.step hb17
        have bs_17 := bs16.step hb17
        clear sb_16 sc_16 bs16 hb17
        have qbs0_9 := (bs_17.now).2 0 _ rfl
        have qbs1_10 := (bs_17.now).2 1 _ rfl
        have qbs2_11 := (bs_17.now).2 2 _ rfl
        have qbs3_12 := (bs_17.now).2 3 _ rfl
        have qbs4_13 := (bs_17.now).2 4 _ rfl
        have qbs5_14 := (bs_17.now).2 5 _ rfl
        have qbs6_15 := (bs_17.now).2 6 _ rfl
        have qbs7_16 := (bs_17.now).2 7 _ rfl
        go_wp2_with fail
        refine (specSp s _ n9 w17 _ rfl (Nat.le_refl _) hzs hws hIn).mono ?_
        clear qbs0_9 qbs1_10 qbs2_11 qbs3_12 qbs4_13 qbs5_14 qbs6_15 qbs7_16
        rintro e w18 ⟨rfl, hb18⟩
        have sb_18 := sb_17.step hb18
        have sc_18 := sc_17.step hb18
        have bs_18 := bs_17.step hb18
        clear sb_17 sc_17 bs_17 hb18
        have HSP := Lib.hid (speeds (s := s) (c := n9))
        generalize numSp s n9 = nu at *
        generalize denSp s n9 = de at *
        cases hk3 : okSp s n9 with
        | false =>
          have qbs0_1 := (bs_18.now).2 0 _ rfl
          have qbs1_2 := (bs_18.now).2 1 _ rfl
          have qbs2_3 := (bs_18.now).2 2 _ rfl
          have qbs3_4 := (bs_18.now).2 3 _ rfl
          have qbs4_5 := (bs_18.now).2 4 _ rfl
          have qbs5_6 := (bs_18.now).2 5 _ rfl
          have qbs6_7 := (bs_18.now).2 6 _ rfl
          have qbs7_8 := (bs_18.now).2 7 _ rfl
          clear HSP hzs hws hIn
          clear bs_18
          go_wp2_with fail
          refine (drawSee w18 _ _ sc_18.now).mono ?_
          rintro e w19 ⟨v20, us, f, rfl, hf, hl20, hb20, hs20, hb19⟩
          have sb_19 := sb_18.step hb19
          have sc_19 := sc_18.step hb19
          clear sb_18 sc_18 hb19
          have s2020 := St.sta hs20
          obtain ⟨a20, c20, rfl⟩ := hs20.form
          have hz20 : szsStation us ≤ 1048576 := by have := bds_sz hb20; omega
          have hw20 : ∀ s ∈ us, wfStation s := fun s hs => (hb20 s hs).wf
          clear hs20 hb20
          have hIf : I64 f := by unfold I64; omega
          go_wp2_with fail
          refine (implSee us _ f w19 _ s2020.now (Nat.le_refl _) hz20 hw20 hIf).mono ?_
          rintro e w21 ⟨v21, rfl, ho21, hb21⟩
          have sb_21 := sb_19.step hb21
          have sc_21 := sc_19.step hb21
          have s20_21 := s2020.step hb21
          clear sb_19 sc_19 s2020 hb21
          have sp22 := St.own ho21
          clear ho21
          go_wp2_with fail
          refine (specSee us _ f w21 _ s20_21.now (Nat.le_refl _) hz20 hw20 hIf).mono ?_
          rintro e w23 ⟨v22, rfl, ho22, hb23⟩
          have sb_23 := sb_21.step hb23
          have sc_23 := sc_21.step hb23
          have s20_23 := s20_21.step hb23
          have sp_23 := sp22.step hb23
          clear sb_21 sc_21 s20_21 sp22 hb23
          have sq24 := St.own ho22
          clear ho22
          generalize okSee us f = kf
          generalize resSee us f = rf at *
          go_wp2_with fail
          refine (rInts_same rf v21 v22 w23 _ sp_23.now sq24.now (Nat.le_refl _)).mono ?_
          rintro e w25 ⟨rfl, hb25⟩
          have sb_25 := sb_23.step hb25
          have sc_25 := sc_23.step hb25
          have s20_25 := s20_23.step hb25
          have sp_25 := sp_23.step hb25
          have sq_25 := sq24.step hb25
          clear sb_23 sc_23 s20_23 sp_23 sq24 hb25
          clear sp_25 sq_25
          go_wp2_with fail
          refine (implAre us _ w25 _ s20_25.now (Nat.le_refl _) hz20 hw20).mono ?_
          rintro e w26 ⟨rfl, hb26⟩
          have sb_26 := sb_25.step hb26
          have sc_26 := sc_25.step hb26
          have s20_26 := s20_25.step hb26
          clear sb_25 sc_25 s20_25 hb26
          go_wp2_with fail
          refine (specAre us _ w26 _ s20_26.now (Nat.le_refl _) hz20 hw20).mono ?_
          rintro e w27 ⟨rfl, hb27⟩
          have sb_27 := sb_26.step hb27
          have sc_27 := sc_26.step hb27
          have s20_27 := s20_26.step hb27
          clear sb_26 sc_26 s20_26 hb27
          generalize goodL us = gu
          go_wp2
          go_ret
          exact ⟨ret_bool (by simp), sb_27.now⟩
        | true =>
          have qbs0_1 := (bs_18.now).2 0 _ rfl
          have qbs1_2 := (bs_18.now).2 1 _ rfl
          have qbs2_3 := (bs_18.now).2 2 _ rfl
          have qbs3_4 := (bs_18.now).2 3 _ rfl
          have qbs4_5 := (bs_18.now).2 4 _ rfl
          have qbs5_6 := (bs_18.now).2 5 _ rfl
          have qbs6_7 := (bs_18.now).2 6 _ rfl
          have qbs7_8 := (bs_18.now).2 7 _ rfl
          obtain ⟨hc0, hpe, hd0, hpb⟩ := HSP.out hk3
          have t1 : IntKind.i64.wrap (nu * s.pGain) = n9 * de := by rw [hpe]; exact IntWalk.i64_in _ (by omega)
          have t2 : IntKind.i64.wrap (n9 * de) = n9 * de := IntWalk.i64_in _ (by omega)
          have t3 : ¬ de < 1 := by omega
          clear hpe hpb hc0
          clear HSP hzs hws hIn
          clear bs_18
          go_wp2_with fail
          refine (drawSee w18 _ _ sc_18.now).mono ?_
          rintro e w19 ⟨v20, us, f, rfl, hf, hl20, hb20, hs20, hb19⟩
          have sb_19 := sb_18.step hb19
          have sc_19 := sc_18.step hb19
          clear sb_18 sc_18 hb19
          have s2020 := St.sta hs20
          obtain ⟨a20, c20, rfl⟩ := hs20.form
          have hz20 : szsStation us ≤ 1048576 := by have := bds_sz hb20; omega
          have hw20 : ∀ s ∈ us, wfStation s := fun s hs => (hb20 s hs).wf
          clear hs20 hb20
          have hIf : I64 f := by unfold I64; omega
          go_wp2_with fail
          refine (implSee us _ f w19 _ s2020.now (Nat.le_refl _) hz20 hw20 hIf).mono ?_
          rintro e w21 ⟨v21, rfl, ho21, hb21⟩
          have sb_21 := sb_19.step hb21
          have sc_21 := sc_19.step hb21
          have s20_21 := s2020.step hb21
          clear sb_19 sc_19 s2020 hb21
          have sp22 := St.own ho21
          clear ho21
          go_wp2_with fail
          refine (specSee us _ f w21 _ s20_21.now (Nat.le_refl _) hz20 hw20 hIf).mono ?_
          rintro e w23 ⟨v22, rfl, ho22, hb23⟩
          have sb_23 := sb_21.step hb23
          have sc_23 := sc_21.step hb23
          have s20_23 := s20_21.step hb23
          have sp_23 := sp22.step hb23
          clear sb_21 sc_21 s20_21 sp22 hb23
          have sq24 := St.own ho22
          clear ho22
          generalize okSee us f = kf
          generalize resSee us f = rf at *
          go_wp2_with fail
          refine (rInts_same rf v21 v22 w23 _ sp_23.now sq24.now (Nat.le_refl _)).mono ?_
          rintro e w25 ⟨rfl, hb25⟩
          have sb_25 := sb_23.step hb25
          have sc_25 := sc_23.step hb25
          have s20_25 := s20_23.step hb25
          have sp_25 := sp_23.step hb25
          have sq_25 := sq24.step hb25
          clear sb_23 sc_23 s20_23 sp_23 sq24 hb25
          clear sp_25 sq_25
          go_wp2_with fail
          refine (implAre us _ w25 _ s20_25.now (Nat.le_refl _) hz20 hw20).mono ?_
          rintro e w26 ⟨rfl, hb26⟩
          have sb_26 := sb_25.step hb26
          have sc_26 := sc_25.step hb26
          have s20_26 := s20_25.step hb26
          clear sb_25 sc_25 s20_25 hb26
          go_wp2_with fail
          refine (specAre us _ w26 _ s20_26.now (Nat.le_refl _) hz20 hw20).mono ?_
          rintro e w27 ⟨rfl, hb27⟩
          have sb_27 := sb_26.step hb27
          have sc_27 := sc_26.step hb27
          have s20_27 := s20_26.step hb27
          clear sb_26 sc_26 s20_26 hb27
          generalize goodL us = gu
          go_wp2
          go_ret
          exact ⟨ret_bool (by simp), sb_27.now⟩

set_option maxRecDepth 100000 in
theorem walk_all (v : Value) {H : Type} {enc : TypeId × Value → H} {base : Nat} {d : DataW H} {ps : List MemPlace} {w : World} (hval : Value.okWide Try.prog w .any base 48 v)
    (hd : DataW.Trod enc Try.prog w 0 (fun _ => true) true 48 v d ps) :
    Calls Try.prog 14 #[v] w fun e w' => e = .returned (.bool true) ∧ Below w.heap.size w w' := by
  obtain ⟨ao, n, cap, rfl, hn, hc⟩ := open_code Try.underlying48 Try.underlying5 (by kernel_rfl) hval hd
  by_cases h : n ≤ 65536
  · exact walk_main ao n cap w h hc
  · have hi : (65536 : Int) < n := by omega
    go_enter Try.func14, Try.ntmps14
    go_wp2_with fail
    refine (rBig_yes n cap ao _ hi).mono ?_
    rintro e w0 ⟨rfl, hw⟩
    obtain rfl := hw.symm
    go_wp2
    go_ret
    exact ⟨rfl, Below.refl _ _⟩

set_option maxRecDepth 100000 in
theorem contract (H : Type) (enc : TypeId × Value → H) (W : World) (base : Nat) (args : Array Value) (ds gs : List (DataW H)) (before : List MemPlace)
    (hval : ∀ (j : Nat) t v, Try.f14.params[j]? = some t → args[j]? = some v → Value.okWide Try.prog W .any base t v)
    (hW : DataW.Whole enc Try.prog Try.f14.params.toList Rows.fnStationsSpec.vars false W args.toList ds gs before) :
    Calls Try.prog 14 args W fun e W' => ∃ v, e = .returned v ∧ Rows.fnStationsSpec.post enc Try.prog Try.f14 false true false false W args v W' := by
  have hW' := hW
  obtain ⟨p, q, hA0, hV, rfl, hfz, hnd⟩ := hW
  have hA : DataW.TrodAll enc Try.prog W 0 (fun _ => true) true Try.f14.params.toList args.toList ds p := hA0
  rw [Try.params14] at hA hval
  obtain ⟨v0, vs0, d0, ds0, p0, q0, hargs, rfl, rfl, h0, r0⟩ := trodAll_cons hA
  obtain ⟨rfl, rfl, rfl⟩ := trodAll_nil r0
  obtain rfl : args = #[v0] := by cases args; simp_all
  refine lawPost rfl rfl Try.underlying4 (by kernel_rfl) (by kernel_rfl) hW' (fun hg => by subst hg; exact ⟨rfl, rfl, rfl⟩) ?_
  exact walk_all v0 (hval 0 48 v0 rfl rfl) h0

set_option maxRecDepth 100000 in
theorem lifted (os : Os) (started : os.Started) (H : Type) (enc : TypeId × Value → H) :
    ReturnsInHanded {} Try.checked os 14 .any (Rows.fnStationsSpec.pre6 enc Try.prog Try.f14 Rows.fnStationsRow.domain false) (Rows.fnStationsSpec.post enc Try.prog Try.f14 false true false false) := by
  refine returnsInHanded_of_change (C := Try.checked) (s := Rows.fnStationsSpec) own started (by kernel_rfl) Try.func14
    (ChangeSpec.witness6 (enc := enc) (C := Try.checked) (s := Rows.fnStationsSpec) false ⟨#[], #[.slice none 0 0], []⟩ 8 (by kernel_rfl) (by kernel_rfl) (by kernel_rfl) (by kernel_rfl)) ?_
  intro W base args ds gs before hval hW _ _
  exact contract H enc W base args ds gs before hval hW

set_option maxRecDepth 100000 in
theorem said : Rows.FnStationsSaid :=
  OpenClaim.holds_of_wide 14 Try.f14 rfl rfl rfl rfl rfl rfl rfl ⟨rfl, rfl, rfl, rfl, rfl⟩ rfl rfl rfl rfl rfl (by kernel_rfl) Try.func14 (by kernel_rfl)
    (of_decide_eq_true (by kernel_rfl)) (by unfold Func.isWrapper; first | (rw [if_pos (by decide +kernel)]; kernel_rfl) | (rw [if_neg (by decide +kernel)]; exact ⟨rfl, rfl⟩))
    (fun os started H enc _ => lifted os started H enc)
end Go.Proofs.Ytklilfbokpljkab.fnStations
