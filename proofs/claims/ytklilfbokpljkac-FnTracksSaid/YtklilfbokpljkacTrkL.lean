/- FnTracks: for every code the law answers true; no condition. -/
import Derived.Test.YtklilfbokpljkacDrN
import Derived.Test.YtklilfbokpljkacDrO
import Derived.Test.YtklilfbokpljkacRm
import Derived.Test.YtklilfbokpljkacTkW
import Derived.Test.YtklilfbokpljkacTkU
import Derived.Test.YtklilfbokpljkacTkF
import Derived.Test.YtklilfbokpljkacTkJ
import Derived.Test.YtklilfbokpljkacTkC2
import Derived.Test.YtklilfbokpljkacRi
import Derived.Deep.CutBlock
import Derived.Deep.CutRange
import Derived.Deep.DeepCutAuto
namespace Go.Proofs.Ytklilfbokpljkac.fnTracks
open Go.ChangeShapes Go.WideShapes Go.ChangeAt Go.RowKit Go.ChangeMaps Go.Sort
set_option linter.unusedSimpArgs false
set_option linter.unusedVariables false

theorem own : ownKnob Try.prog.godebug = none := by kernel_rfl

theorem St.bx {w : World} {b : Nat} {cs : List Value} (h : Bx w b cs) : St w (fun w' => Bx w' b cs) := fun w' hb => h.below hb
theorem St.tk {w : World} {v : Value} {xs : List GClockMark} (h : ClockMarkL w w.heap.size v xs) : St w (fun w' => ClockMarkL w' w'.heap.size v xs) := fun w' hb => (h.below hb).mono hb.size
theorem St.dr {w : World} {v : Value} {xs : List GDrift} (h : DriftL w w.heap.size v xs) : St w (fun w' => DriftL w' w'.heap.size v xs) := fun w' hb => (h.below hb).mono hb.size
theorem tt_facts {xs : List GClockMark} {x : Int} (h : okTT xs x = true) : okTk xs ∧ numTT xs x = lineL xs x ∧ (0 ≤ x ∧ x ≤ 1000000) := by
  have h2 := h
  unfold okTT at h2
  rw [Bool.and_eq_true, Bool.and_eq_true] at h2
  exact ⟨goodTk_yes h2.1, by unfold numTT; rw [if_pos h], tickB_yes h2.2.1⟩
theorem tt_mark {xs : List GClockMark} (h : okTk xs) {m : GClockMark} (hm : m ∈ xs) : okTT xs m.pShown = true ∧ numTT xs m.pShown = m.pTrue := by
  have e := lineL_mark xs h.2.2 h.1.1 m hm
  have t := h.2.1 m hm
  have k : okTT xs m.pShown = true := by
    unfold okTT
    rw [goodTk_mk h, e]
    unfold tickB tickM at *
    rw [decide_eq_true t.1, decide_eq_true t.2]; rfl
  exact ⟨k, by rw [(tt_facts k).2.1, e]⟩
theorem drp_good {xs : List GClockMark} {j : Int} (h : okDrp xs j = true) : goodTk (resDrp xs j) = true := by
  have h2 := h
  unfold okDrp at h2
  rw [Bool.and_eq_true] at h2
  unfold resDrp
  rw [if_pos h]
  exact goodTk_mk (dropTk_ok (goodTk_yes h2.1) j)
theorem mrg_facts {a b : List GClockMark} (h : okMrg a b = true) : (okMrg (resMrg a b) a = true ∧ resMrg (resMrg a b) a = resMrg a b) ∧ (okMrg b a = true ∧ resMrg b a = resMrg a b) ∧ (∀ s ∈ resMrg a b, wfClockMark s) ∧ szsClockMark (resMrg a b) ≤ 1048576 := by
  have h2 := h
  unfold okMrg at h2
  rw [Bool.and_eq_true, Bool.and_eq_true] at h2
  obtain ⟨ga, gb, gt⟩ := h2
  have ha := goodTk_yes ga
  have hb := goodTk_yes gb
  have ht := goodTk_yes gt
  have e : resMrg a b = mergeTk a b := by unfold resMrg; rw [if_pos h]
  have e1 := mergeTk_again (a := a) (b := b) ha.2.2 ht.2.2
  have e2 := mergeTk_comm (a := a) (b := b) ha.2.2 hb.2.2 ht.2.2
  rw [e]
  refine ⟨?_, ?_, fun s hs => ?_, ?_⟩
  · have k : okMrg (mergeTk a b) a = true := by unfold okMrg; rw [e1, gt, ga]; rfl
    exact ⟨k, by unfold resMrg; rw [if_pos k, e1]⟩
  · have k : okMrg b a = true := by unfold okMrg; rw [e2, gb, ga, gt]; rfl
    exact ⟨k, by unfold resMrg; rw [if_pos k, e2]⟩
  · have := ht.2.1 s hs
    unfold tickM at this
    unfold wfClockMark I64
    omega
  · rw [szsClockMark_split]; have := ht.1.2; omega
theorem wd_facts (us : List GClockMark) : (resDrf us).length ≤ 10 ∧ ∀ (i : Nat) (d : GDrift), (resDrf us)[i]? = some d → ∃ (q : Nat) (p : GDrift), numWD us = q ∧ (resDrf us)[q]? = some p ∧ ((0 ≤ d.pNum ∧ d.pNum ≤ 1000000) ∧ (1 ≤ d.pDen ∧ d.pDen ≤ 1000000)) ∧ ((0 ≤ p.pNum ∧ p.pNum ≤ 1000000) ∧ (1 ≤ p.pDen ∧ p.pDen ≤ 1000000)) ∧ offD d * p.pDen ≤ offD p * d.pDen := by
  unfold resDrf numWD
  by_cases hg : goodTk us = true
  case neg => rw [if_neg hg]; exact ⟨by simp, fun i d h => by simp at h⟩
  rw [if_pos hg, if_pos hg]
  have hk := goodTk_yes hg
  have hbd := driftsL_bd hk.2.2 hk.2.1
  have hl := driftsL_len us
  refine ⟨by have := hk.1.2; omega, fun i d hd => ?_⟩
  have hi := (List.getElem?_eq_some_iff.1 hd).1
  have hq := (bestD_le (driftsL us) (driftsL us).length).2 (by omega)
  obtain ⟨p, hp⟩ := get_of_lt hq
  have hm := bestD_max (ds := driftsL us) (fun d hd => (hbd d hd).2.1) (driftsL us).length (Nat.le_refl _) i hi
  rw [getD_of hd, getD_of hp] at hm
  exact ⟨_, p, rfl, hp, hbd d (List.mem_of_getElem? hd), hbd p (List.mem_of_getElem? hp), hm⟩
theorem add_facts {xs : List GClockMark} {m : GClockMark} (h : okAdd xs m = true) : okTT (resAdd xs m) m.pShown = true ∧ numTT (resAdd xs m) m.pShown = m.pTrue ∧ szsClockMark (resAdd xs m) ≤ 1048576 ∧ (∀ s ∈ resAdd xs m, wfClockMark s) := by
  have h2 := h
  unfold okAdd at h2
  rw [Bool.and_eq_true] at h2
  have hk := goodTk_yes h2.2
  have e : resAdd xs m = putTk xs m := by unfold resAdd; rw [if_pos h]
  rw [e]
  obtain ⟨e1, e2⟩ := tt_mark hk (m := m) (putTk_mem.2 (Or.inl rfl))
  refine ⟨e1, e2, by rw [szsClockMark_split]; have := hk.1.2; omega, fun s hs => ?_⟩
  have := hk.2.1 s hs
  unfold tickM at this
  unfold wfClockMark I64
  omega
set_option maxRecDepth 100000 in
set_option maxHeartbeats 4000000 in
theorem walk_main (ao : Option Addr) (n cap : Nat) (w : World) (hn : n ≤ 65536) (hcode : Code w w.heap.size ao n) :
    Calls Try.prog 11 #[.slice ao n cap] w fun e w' => e = .returned (.bool true) ∧ Below w.heap.size w w' := by
  have C0 : CodeArg w w.heap.size (.slice ao n cap) := ⟨Nat.le_refl _, ao, n, cap, rfl, hn, hcode⟩
  clear hcode
  have hni : (n : Int) ≤ 65536 := by omega
  have sb0 := St.chain w
  have sc0 := St.code C0
  clear C0
  go_enter Try.func11, Try.ntmps11
  go_wp2_with fail
  refine (rBig_no n cap ao w hni).mono ?_
  rintro e w1 ⟨rfl, hw1⟩
  obtain rfl := hw1.symm
  go_wp2_with fail
  refine (drawDrp w _ _ sc0.now).mono ?_
  rintro e w2 ⟨v1, xs, j, rfl, hj, hD1⟩
  have sb_2 := sb0.step hD1.below
  have sc_2 := sc0.step hD1.below
  clear sb0 sc0
  have s13 := St.tk hD1.lst
  obtain ⟨a1, c1, rfl⟩ := hD1.lst.form
  have hz1 : szsClockMark xs ≤ 1048576 := bds_szM hD1.len.2
  have hw1 : ∀ s ∈ xs, wfClockMark s := fun s hs => (hD1.bd s hs).wf
  clear hD1
  have hIj : I64 j := by unfold I64; omega
  go_wp2_with fail
  refine (implDrp xs _ j w2 _ s13.now (Nat.le_refl _) hz1 hw1 hIj).mono ?_
  rintro e w4 ⟨v2, rfl, ho2, hb4⟩
  have sb_4 := sb_2.step hb4
  have sc_4 := sc_2.step hb4
  have s1_4 := s13.step hb4
  clear sb_2 sc_2 s13 hb4
  have sp5 := St.tk ho2.lst
  obtain ⟨a2, c2, rfl⟩ := ho2.form
  clear ho2
  go_wp2_with fail
  refine (specDrp xs _ j w4 _ s1_4.now (Nat.le_refl _) hz1 hw1 hIj).mono ?_
  rintro e w6 ⟨v3, rfl, ho3, hb6⟩
  have sb_6 := sb_4.step hb6
  have sc_6 := sc_4.step hb6
  have s1_6 := s1_4.step hb6
  have sp_6 := sp5.step hb6
  clear sb_4 sc_4 s1_4 sp5 hb6
  have sq7 := St.tk ho3.lst
  obtain ⟨a3, c3, rfl⟩ := ho3.form
  clear ho3
  clear s1_6
  have HDG := Lib.hid (drp_good (xs := xs) (j := j))
  generalize resDrp xs j = rd at *
  clear hz1 hw1 hIj hj
  go_upto_region 6 with fail
  go_cut [6, 8, 74] from 46 to 74 (fun _ _ c wx => c = .bool false ∧ Below w6.heap.size w6 wx)
  case first =>
    have cb8 := St.chain w6
    cases hk : okDrp xs j with
    | false =>
      clear hk HDG
      go_wp2_with fail
      refine (rMarks_same rd _ _ w6 _ sp_6.now sq7.now (Nat.le_refl _)).mono ?_
      rintro e w9 ⟨rfl, hb9⟩
      have sb_9 := sb_6.step hb9
      have sc_9 := sc_6.step hb9
      have sp_9 := sp_6.step hb9
      have sq_9 := sq7.step hb9
      have cb_9 := cb8.step hb9
      clear sb_6 sc_6 sp_6 sq7 cb8 hb9
      go_wp2
      go_meet
      exact ⟨rfl, cb_9.now⟩
    | true =>
      have HG := Lib.hid (HDG.out hk)
      clear hk HDG
      go_wp2_with fail
      refine (rMarks_same rd _ _ w6 _ sp_6.now sq7.now (Nat.le_refl _)).mono ?_
      rintro e w9 ⟨rfl, hb9⟩
      have sb_9 := sb_6.step hb9
      have sc_9 := sc_6.step hb9
      have sp_9 := sp_6.step hb9
      have sq_9 := sq7.step hb9
      have cb_9 := cb8.step hb9
      clear sb_6 sc_6 sp_6 sq7 cb8 hb9
      go_wp2_with fail
      refine (implGoodTk rd _ w9 _ sp_9.now (Nat.le_refl _) true HG.out).mono ?_
      rintro e w10 ⟨rfl, hb10⟩
      have sb_10 := sb_9.step hb10
      have sc_10 := sc_9.step hb10
      have sp_10 := sp_9.step hb10
      have sq_10 := sq_9.step hb10
      have cb_10 := cb_9.step hb10
      clear sb_9 sc_9 sp_9 sq_9 cb_9 hb10
      go_wp2
      go_meet
      exact ⟨rfl, cb_10.now⟩
  case rest =>
    obtain ⟨rfl, hb9⟩ := hcut
    obtain ⟨w9, hwc9⟩ : ∃ x, x = wc := ⟨wc, rfl⟩
    subst hwc9
    have sb_9 := sb_6.step hb9
    have sc_9 := sc_6.step hb9
    have sp_9 := sp_6.step hb9
    have sq_9 := sq7.step hb9
    clear sb_6 sc_6 sp_6 sq7 hb9
    clear sp_9 sq_9
    clear HDG
    go_wp2_with fail
    refine (drawMrg w9 _ _ sc_9.now).mono ?_
    rintro e w10 ⟨v4, v5, la, lb, rfl, hD4, hD5⟩
    have sb_10 := sb_9.step hD4.below
    have sc_10 := sc_9.step hD4.below
    clear sb_9 sc_9
    have s411 := St.tk hD4.lst
    obtain ⟨a4, c4, rfl⟩ := hD4.lst.form
    have hz4 : szsClockMark la ≤ 1048576 := bds_szM hD4.len.2
    have hw4 : ∀ s ∈ la, wfClockMark s := fun s hs => (hD4.bd s hs).wf
    have s512 := St.tk hD5.lst
    obtain ⟨a5, c5, rfl⟩ := hD5.lst.form
    have hz5 : szsClockMark lb ≤ 1048576 := bds_szM hD5.len.2
    have hw5 : ∀ s ∈ lb, wfClockMark s := fun s hs => (hD5.bd s hs).wf
    clear hD4 hD5
    go_wp2_with fail
    refine (implMrg la _ lb _ w10 _ s411.now s512.now (Nat.le_refl _) hz4 hz5 hw4 hw5).mono ?_
    rintro e w13 ⟨v6, rfl, ho6, hb13⟩
    have sb_13 := sb_10.step hb13
    have sc_13 := sc_10.step hb13
    have s4_13 := s411.step hb13
    have s5_13 := s512.step hb13
    clear sb_10 sc_10 s411 s512 hb13
    have sp14 := St.tk ho6.lst
    obtain ⟨a6, c6, rfl⟩ := ho6.form
    clear ho6
    go_wp2_with fail
    refine (specMrg la _ lb _ w13 _ s4_13.now s5_13.now (Nat.le_refl _) hz4 hz5 hw4 hw5).mono ?_
    rintro e w15 ⟨v7, rfl, ho7, hb15⟩
    have sb_15 := sb_13.step hb15
    have sc_15 := sc_13.step hb15
    have s4_15 := s4_13.step hb15
    have s5_15 := s5_13.step hb15
    have sp_15 := sp14.step hb15
    clear sb_13 sc_13 s4_13 s5_13 sp14 hb15
    have sq16 := St.tk ho7.lst
    obtain ⟨a7, c7, rfl⟩ := ho7.form
    clear ho7
    have HMF := Lib.hid (mrg_facts (a := la) (b := lb))
    have HIM := Lib.hid (fun v v2 w' (h : ClockMarkL w' w'.heap.size v (resMrg la lb)) (h2 : ClockMarkL w' w'.heap.size v2 la) (z : szsClockMark (resMrg la lb) ≤ 1048576) (q : ∀ s ∈ resMrg la lb, wfClockMark s) => implMrg (resMrg la lb) v la v2 w' _ h h2 (Nat.le_refl _) z hz4 q hw4)
    have HIN := Lib.hid (fun v v2 w' (h : ClockMarkL w' w'.heap.size v lb) (h2 : ClockMarkL w' w'.heap.size v2 la) => implMrg lb v la v2 w' _ h h2 (Nat.le_refl _) hz5 hz4 hw5 hw4)
    clear hz4 hz5 hw4 hw5
    go_wp2_with fail
    refine (rMarks_same (resMrg la lb) _ _ w15 _ sp_15.now sq16.now (Nat.le_refl _)).mono ?_
    rintro e w17 ⟨rfl, hb17⟩
    have sb_17 := sb_15.step hb17
    have sc_17 := sc_15.step hb17
    have s4_17 := s4_15.step hb17
    have s5_17 := s5_15.step hb17
    have sp_17 := sp_15.step hb17
    have sq_17 := sq16.step hb17
    clear sb_15 sc_15 s4_15 s5_15 sp_15 sq16 hb17
    clear sq_17
    go_upto_if 101 with fail
    go_cut [12, 14, 15, 16, 17, 18] from 80 to 131 (fun _ _ _ _ _ _ wx => Below w17.heap.size w17 wx)
    case first =>
      have cb18 := St.chain w17
      cases hk : okMrg la lb with
      | false =>
        go_wp2
        go_meet
        exact cb18.now
      | true =>
        obtain ⟨⟨f1, f2⟩, ⟨f3, f4⟩, f5, f6⟩ := HMF.out hk
        have G1 := HIM.out _ _ w17 sp_17.now s4_17.now f6 f5
        rw [f1, f2] at G1
        have G1 := Lib.hid G1
        have G2 := HIN.out
        rw [f3, f4] at G2
        have G2 := Lib.hid G2
        generalize resMrg la lb = rm at *
        clear hk f1 f2 f3 f4 f5 f6 HIM HIN HMF
        go_wp2_with fail
        refine (G1.out).mono ?_
        rintro e w19 ⟨v8, rfl, ho8, hb19⟩
        have sb_19 := sb_17.step hb19
        have sc_19 := sc_17.step hb19
        have s4_19 := s4_17.step hb19
        have s5_19 := s5_17.step hb19
        have sp_19 := sp_17.step hb19
        have cb_19 := cb18.step hb19
        clear sb_17 sc_17 s4_17 s5_17 sp_17 cb18 hb19
        have sr20 := St.tk ho8.lst
        obtain ⟨a8, c8, rfl⟩ := ho8.form
        clear ho8 G1
        go_wp2_with fail
        refine (G2.out _ _ w19 s5_19.now s4_19.now).mono ?_
        rintro e w21 ⟨v9, rfl, ho9, hb21⟩
        have sb_21 := sb_19.step hb21
        have sc_21 := sc_19.step hb21
        have s4_21 := s4_19.step hb21
        have s5_21 := s5_19.step hb21
        have sp_21 := sp_19.step hb21
        have cb_21 := cb_19.step hb21
        have sr_21 := sr20.step hb21
        clear sb_19 sc_19 s4_19 s5_19 sp_19 cb_19 sr20 hb21
        have st22 := St.tk ho9.lst
        obtain ⟨a9, c9, rfl⟩ := ho9.form
        clear ho9 G2
        go_wp2_with fail
        refine (rMarks_same rm _ _ w21 _ sr_21.now sp_21.now (Nat.le_refl _)).mono ?_
        rintro e w23 ⟨rfl, hb23⟩
        have sb_23 := sb_21.step hb23
        have sc_23 := sc_21.step hb23
        have s4_23 := s4_21.step hb23
        have s5_23 := s5_21.step hb23
        have sp_23 := sp_21.step hb23
        have cb_23 := cb_21.step hb23
        have sr_23 := sr_21.step hb23
        have st_23 := st22.step hb23
        clear sb_21 sc_21 s4_21 s5_21 sp_21 cb_21 sr_21 st22 hb23
        go_wp2_with fail
        refine (rMarks_same rm _ _ w23 _ st_23.now sp_23.now (Nat.le_refl _)).mono ?_
        rintro e w24 ⟨rfl, hb24⟩
        have sb_24 := sb_23.step hb24
        have sc_24 := sc_23.step hb24
        have s4_24 := s4_23.step hb24
        have s5_24 := s5_23.step hb24
        have sp_24 := sp_23.step hb24
        have cb_24 := cb_23.step hb24
        have sr_24 := sr_23.step hb24
        have st_24 := st_23.step hb24
        clear sb_23 sc_23 s4_23 s5_23 sp_23 cb_23 sr_23 st_23 hb24
        go_wp2
        go_meet
        exact cb_24.now
    case rest =>
      have hb19 := hcut
      clear hcut
      obtain ⟨w19, hwc19⟩ : ∃ x, x = wc := ⟨wc, rfl⟩
      subst hwc19
      have sb_19 := sb_17.step hb19
      have sc_19 := sc_17.step hb19
      have s4_19 := s4_17.step hb19
      have s5_19 := s5_17.step hb19
      have sp_19 := sp_17.step hb19
      clear sb_17 sc_17 s4_17 s5_17 sp_17 hb19
      clear sp_19 s4_19 s5_19
      clear HMF HIM HIN
      go_wp2_with fail
      refine (drawWD w19 _ _ sc_19.now).mono ?_
      rintro e w20 ⟨v10, us, rfl, hD10⟩
      have sb_20 := sb_19.step hD10.below
      have sc_20 := sc_19.step hD10.below
      clear sb_19 sc_19
      have s1021 := St.tk hD10.lst
      obtain ⟨a10, c10, rfl⟩ := hD10.lst.form
      have hz10 : szsClockMark us ≤ 1048576 := bds_szM hD10.len.2
      have hw10 : ∀ s ∈ us, wfClockMark s := fun s hs => (hD10.bd s hs).wf
      clear hD10
      go_wp2_with fail
      refine (implWD us _ w20 _ s1021.now (Nat.le_refl _) hz10 hw10).mono ?_
      rintro e w22 ⟨rfl, hb22⟩
      have sb_22 := sb_20.step hb22
      have sc_22 := sc_20.step hb22
      have s10_22 := s1021.step hb22
      clear sb_20 sc_20 s1021 hb22
      go_wp2_with fail
      refine (specWD us _ w22 _ s10_22.now (Nat.le_refl _) hz10 hw10).mono ?_
      rintro e w23 ⟨rfl, hb23⟩
      have sb_23 := sb_22.step hb23
      have sc_23 := sc_22.step hb23
      have s10_23 := s10_22.step hb23
      clear sb_22 sc_22 s10_22 hb23
      have HWF := Lib.hid (wd_facts us)
      have HPD := Lib.hid (fun v w' (h : ClockMarkL w' w'.heap.size v us) => implDrf us v w' _ h (Nat.le_refl _) hz10 hw10)
      have HSD := Lib.hid (fun v w' (h : ClockMarkL w' w'.heap.size v us) => specDrf us v w' _ h (Nat.le_refl _) hz10 hw10)
      generalize goodTk us = gu at *
      generalize numWD us = nw at *
      generalize resDrf us = ds at *
      clear hz10 hw10
      go_wp2_with fail
      refine (HPD.out _ w23 s10_23.now).mono ?_
      rintro e w24 ⟨v11, rfl, ho11, hb24⟩
      have sb_24 := sb_23.step hb24
      have sc_24 := sc_23.step hb24
      have s10_24 := s10_23.step hb24
      clear sb_23 sc_23 s10_23 hb24
      have sp25 := St.dr ho11.lst
      obtain ⟨a11, c11, rfl⟩ := ho11.form
      clear ho11
      go_wp2_with fail
      refine (HSD.out _ w24 s10_24.now).mono ?_
      rintro e w26 ⟨v12, rfl, ho12, hb26⟩
      have sb_26 := sb_24.step hb26
      have sc_26 := sc_24.step hb26
      have s10_26 := s10_24.step hb26
      have sp_26 := sp25.step hb26
      clear sb_24 sc_24 s10_24 sp25 hb26
      have sq27 := St.dr ho12.lst
      obtain ⟨a12, c12, rfl⟩ := ho12.form
      clear ho12
      clear s10_26
      clear HPD HSD
      go_wp2_with fail
      refine (rDrifts_same ds _ _ w26 _ sp_26.now sq27.now (Nat.le_refl _)).mono ?_
      rintro e w28 ⟨rfl, hb28⟩
      have sb_28 := sb_26.step hb28
      have sc_28 := sc_26.step hb28
      have sp_28 := sp_26.step hb28
      have sq_28 := sq27.step hb28
      clear sb_26 sc_26 sp_26 sq27 hb28
      clear sq_28
      obtain ⟨hdl, hdf⟩ := HWF.out
      have hdl2 : (ds.length : Int) ≤ 10 := by omega
      have HDF := Lib.hid hdf
      have HSP := Lib.hid sp_28
      clear hdf HWF
      clear sp_28
      go_wp2
      go_loopw [28] (fun i wr => ∃ k : Nat, k ≤ ds.length ∧ i = .int .i64 k ∧ Below w28.heap.size w28 wr) (fun i _ => ds.length - (intOf i).toNat)
      case atStart => exact ⟨0, Nat.zero_le _, rfl, Below.refl _ _⟩
      case round =>
        obtain ⟨k, hk1, rfl, hbl⟩ := hrel
        by_cases hlt : k < ds.length
        case pos =>
          obtain ⟨d, hd⟩ := get_of_lt hlt
          obtain ⟨q, p, rfl, hp, hdb, hpb, hle⟩ := HDF.out k d hd
          obtain ⟨ao9, cap9, hv9, _, _, _, hc9⟩ := (HSP.out.step hbl).now
          simp only [Value.slice.injEq] at hv9
          obtain ⟨rfl, -, rfl⟩ := hv9
          obtain ⟨b, off, rfl, hb9, hcell⟩ := hc9 k d hd
          obtain ⟨b9, off9, e9, -, hcell2⟩ := hc9 q p hp
          simp only [Option.some.injEq, Addr.mk.injEq, and_true] at e9
          obtain ⟨rfl, rfl⟩ := e9
          have d0 : wr.cell? ⟨b, off + k * 2, none⟩ = some (.int .i64 d.pNum) := hcell 0 _ rfl
          have d1 : wr.cell? ⟨b, off + k * 2 + 1, none⟩ = some (.int .i64 d.pDen) := hcell 1 _ rfl
          have p0 : wr.cell? ⟨b, off + q * 2, none⟩ = some (.int .i64 p.pNum) := hcell2 0 _ rfl
          have p1 : wr.cell? ⟨b, off + q * 2 + 1, none⟩ = some (.int .i64 p.pDen) := hcell2 1 _ rfl
          have hql := (List.getElem?_eq_some_iff.1 hp).1
          have mp0 : (0 : Int) ≤ (k : Int) := by omega
          have mp1 : (k : Int) < (ds.length : Int) := by omega
          have mp2 : (0 : Int) ≤ (q : Int) := by omega
          have mp3 : (q : Int) < (ds.length : Int) := by omega
          have od := offD_bd hdb
          have op := offD_bd hpb
          have x1 := mul_bd od.1 od.2 (show 0 ≤ p.pDen by omega) hpb.2.2
          have x2 := mul_bd op.1 op.2 (show 0 ≤ d.pDen by omega) hdb.2.2
          have s1 : IntKind.i64.wrap (d.pNum - d.pDen) = d.pNum - d.pDen := IntWalk.i64_in _ (by omega)
          have s2 : IntKind.i64.wrap (p.pNum - p.pDen) = p.pNum - p.pDen := IntWalk.i64_in _ (by omega)
          clear hd hp hc9 hcell hcell2 HDF
          obtain ⟨fd, hfd⟩ : ∃ y, offD d = y := ⟨_, rfl⟩
          obtain ⟨fp, hfp⟩ : ∃ y, offD p = y := ⟨_, rfl⟩
          rw [hfd, hfp] at hle
          rw [hfd] at x1 od
          rw [hfp] at x2 op
          rw [offD_ab] at hfd hfp
          unfold ab at hfd hfp
          have s3 : IntKind.i64.wrap (fd * p.pDen) = fd * p.pDen := IntWalk.i64_in _ (by omega)
          have s4 : IntKind.i64.wrap (fp * d.pDen) = fp * d.pDen := IntWalk.i64_in _ (by omega)
          have hng : ¬ fp * d.pDen < fd * p.pDen := by omega
          have HB1 := Lib.hid hbl
          clear hle x1 x2 od op
          obtain ⟨dn, hdn⟩ : ∃ y, d.pNum - d.pDen = y := ⟨_, rfl⟩
          obtain ⟨pn, hpn⟩ : ∃ y, p.pNum - p.pDen = y := ⟨_, rfl⟩
          have HDN := Lib.hid hdn
          have HPN := Lib.hid hpn
          rw [hdn] at hfd s1
          rw [hpn] at hfp s2
          by_cases hx : dn < 0
          · by_cases hy : pn < 0
            · rw [if_pos hx] at hfd
              rw [if_pos hy] at hfp
              have t1 : IntKind.i64.wrap (-dn) = fd := by rw [← hfd]; exact IntWalk.i64_in _ (by omega)
              have t2 : IntKind.i64.wrap (-pn) = fp := by rw [← hfp]; exact IntWalk.i64_in _ (by omega)
              clear hfd
              clear hfp
              clear hdb hpb
              go_wp2
              go_quiet (fail)
              go_wp2
              go_quiet (fail)
              go_wp2
              go_roundw
              case rel => exact ⟨k + 1, by omega, by go_num, drewN_b HB1.out _⟩
              case measure => simp [intOf]; omega
            · rw [if_pos hx] at hfd
              rw [if_neg hy] at hfp
              have t1 : IntKind.i64.wrap (-dn) = fd := by rw [← hfd]; exact IntWalk.i64_in _ (by omega)
              subst hfp
              clear hfd
              clear hdb hpb
              go_wp2
              go_quiet (fail)
              go_wp2
              go_quiet (fail)
              go_wp2
              go_roundw
              case rel => exact ⟨k + 1, by omega, by go_num, drewN_b HB1.out _⟩
              case measure => simp [intOf]; omega
          · by_cases hy : pn < 0
            · rw [if_neg hx] at hfd
              rw [if_pos hy] at hfp
              have t2 : IntKind.i64.wrap (-pn) = fp := by rw [← hfp]; exact IntWalk.i64_in _ (by omega)
              subst hfd
              clear hfp
              clear hdb hpb
              go_wp2
              go_quiet (fail)
              go_wp2
              go_quiet (fail)
              go_wp2
              go_roundw
              case rel => exact ⟨k + 1, by omega, by go_num, drewN_b HB1.out _⟩
              case measure => simp [intOf]; omega
            · rw [if_neg hx] at hfd
              rw [if_neg hy] at hfp
              subst hfd
              subst hfp
              clear hdb hpb
              go_wp2
              go_quiet (fail)
              go_wp2
              go_quiet (fail)
              go_wp2
              go_roundw
              case rel => exact ⟨k + 1, by omega, by go_num, drewN_b HB1.out _⟩
              case measure => simp [intOf]; omega
        have hge : ¬ (k : Int) < (ds.length : Int) := by omega
        have sb_y := sb_28.step hbl
        have sc_y := sc_28.step hbl
        clear HDF HSP hbl
        go_wp2_with fail
        refine (drawAdd wr _ _ sc_y.now).mono ?_
        rintro e w129 ⟨v20, ls, m, rfl, hmb, hD20⟩
        have sb_129 := sb_y.step hD20.below
        have sc_129 := sc_y.step hD20.below
        clear sb_y sc_y
        have s20130 := St.tk hD20.lst
        obtain ⟨a20, c20, rfl⟩ := hD20.lst.form
        have hz20 : szsClockMark ls ≤ 1048576 := bds_szM hD20.len.2
        have hw20 : ∀ s ∈ ls, wfClockMark s := fun s hs => (hD20.bd s hs).wf
        clear hD20
        have N131 := (Below.refl w129.heap.size w129).alloc (Nat.le_refl _) (.cells #[.int .i64 m.pShown, .int .i64 m.pTrue] 50)
        have bm131 := St.bx (Bx.new w129 [.int .i64 m.pShown, .int .i64 m.pTrue] 50)
        have sb_131 := sb_129.step N131
        have sc_131 := sc_129.step N131
        have s20_131 := s20130.step N131
        clear sb_129 sc_129 s20130 N131
        obtain ⟨W, hW⟩ : ∃ W, (w129.alloc (.cells #[.int .i64 m.pShown, .int .i64 m.pTrue] 50)) = W := ⟨_, rfl⟩
        rw [hW] at sb_131 sc_131 s20_131 bm131
        have qbm0_1 := (bm131.now).2 0 _ rfl
        have qbm1_2 := (bm131.now).2 1 _ rfl
        go_wp2_with fail
        refine (implAdd ls m _ _ W _ s20_131.now rfl (Nat.le_refl _) hz20).mono ?_
        clear qbm0_1 qbm1_2
        rintro e w132 ⟨v21, rfl, ho21, hb132⟩
        have sb_132 := sb_131.step hb132
        have sc_132 := sc_131.step hb132
        have s20_132 := s20_131.step hb132
        have bm_132 := bm131.step hb132
        clear sb_131 sc_131 s20_131 bm131 hb132
        have sp133 := St.tk ho21.lst
        obtain ⟨a21, c21, rfl⟩ := ho21.form
        clear ho21
        have qbm0_3 := (bm_132.now).2 0 _ rfl
        have qbm1_4 := (bm_132.now).2 1 _ rfl
        go_wp2_with fail
        refine (specAdd ls m _ _ w132 _ s20_132.now rfl (Nat.le_refl _) hz20).mono ?_
        clear qbm0_3 qbm1_4
        rintro e w134 ⟨v22, rfl, ho22, hb134⟩
        have sb_134 := sb_132.step hb134
        have sc_134 := sc_132.step hb134
        have s20_134 := s20_132.step hb134
        have bm_134 := bm_132.step hb134
        have sp_134 := sp133.step hb134
        clear sb_132 sc_132 s20_132 bm_132 sp133 hb134
        have sq135 := St.tk ho22.lst
        obtain ⟨a22, c22, rfl⟩ := ho22.form
        clear ho22
        clear s20_134
        clear hz20 hw20
        have HAF := Lib.hid (add_facts (xs := ls) (m := m))
        have hIm : I64 m.pShown := by unfold I64; omega
        go_wp2_with fail
        refine (rMarks_same (resAdd ls m) _ _ w134 _ sp_134.now sq135.now (Nat.le_refl _)).mono ?_
        rintro e w136 ⟨rfl, hb136⟩
        have sb_136 := sb_134.step hb136
        have sc_136 := sc_134.step hb136
        have bm_136 := bm_134.step hb136
        have sp_136 := sp_134.step hb136
        have sq_136 := sq135.step hb136
        clear sb_134 sc_134 bm_134 sp_134 sq135 hb136
        clear sq_136
        have HTT := Lib.hid (fun z q => implTT (resAdd ls m) _ m.pShown w136 _ sp_136.now (Nat.le_refl _) z q hIm)
        cases hk : okAdd ls m with
        | false =>
          clear HAF HTT hk
          go_wp2
          go_ret
          exact ⟨rfl, sb_136.now⟩
        | true =>
          obtain ⟨g1, g2, g3, g4⟩ := HAF.out hk
          have CT := HTT.out g3 g4
          rw [g1, g2] at CT
          have CT := Lib.hid CT
          clear HTT HAF hk g1 g2 g3 g4
          generalize resAdd ls m = ra at *
          have qbm0_1 := (bm_136.now).2 0 _ rfl
          have qbm1_2 := (bm_136.now).2 1 _ rfl
          go_wp2_with fail
          refine (CT.out).mono ?_
          clear qbm0_1 qbm1_2
          rintro e w137 ⟨rfl, hb137⟩
          have sb_137 := sb_136.step hb137
          have sc_137 := sc_136.step hb137
          have bm_137 := bm_136.step hb137
          have sp_137 := sp_136.step hb137
          clear sb_136 sc_136 bm_136 sp_136 hb137
          have qbm0_3 := (bm_137.now).2 0 _ rfl
          have qbm1_4 := (bm_137.now).2 1 _ rfl
          go_wp2
          go_ret
          exact ⟨ret_bool (by simp), sb_137.now⟩

set_option maxRecDepth 100000 in
theorem walk_all (v : Value) {H : Type} {enc : TypeId × Value → H} {base : Nat} {d : DataW H} {ps : List MemPlace} {w : World} (hval : Value.okWide Try.prog w .any base 32 v)
    (hd : DataW.Trod enc Try.prog w 0 (fun _ => true) true 32 v d ps) :
    Calls Try.prog 11 #[v] w fun e w' => e = .returned (.bool true) ∧ Below w.heap.size w w' := by
  obtain ⟨ao, n, cap, rfl, hn, hc⟩ := open_code Try.underlying32 Try.underlying5 (by kernel_rfl) hval hd
  by_cases h : n ≤ 65536
  · exact walk_main ao n cap w h hc
  · have hi : (65536 : Int) < n := by omega
    go_enter Try.func11, Try.ntmps11
    go_wp2_with fail
    refine (rBig_yes n cap ao _ hi).mono ?_
    rintro e w0 ⟨rfl, hw⟩
    obtain rfl := hw.symm
    go_wp2
    go_ret
    exact ⟨rfl, Below.refl _ _⟩

set_option maxRecDepth 100000 in
theorem contract (H : Type) (enc : TypeId × Value → H) (W : World) (base : Nat) (args : Array Value) (ds gs : List (DataW H)) (before : List MemPlace)
    (hval : ∀ (j : Nat) t v, Try.f11.params[j]? = some t → args[j]? = some v → Value.okWide Try.prog W .any base t v)
    (hW : DataW.Whole enc Try.prog Try.f11.params.toList Rows.fnTracksSpec.vars false W args.toList ds gs before) :
    Calls Try.prog 11 args W fun e W' => ∃ v, e = .returned v ∧ Rows.fnTracksSpec.post enc Try.prog Try.f11 false true false false W args v W' := by
  have hW' := hW
  obtain ⟨p, q, hA0, hV, rfl, hfz, hnd⟩ := hW
  have hA : DataW.TrodAll enc Try.prog W 0 (fun _ => true) true Try.f11.params.toList args.toList ds p := hA0
  rw [Try.params11] at hA hval
  obtain ⟨v0, vs0, d0, ds0, p0, q0, hargs, rfl, rfl, h0, r0⟩ := trodAll_cons hA
  obtain ⟨rfl, rfl, rfl⟩ := trodAll_nil r0
  obtain rfl : args = #[v0] := by cases args; simp_all
  refine lawPost rfl rfl Try.underlying4 (by kernel_rfl) (by kernel_rfl) hW' (fun hg => by subst hg; exact ⟨rfl, rfl, rfl⟩) ?_
  exact walk_all v0 (hval 0 32 v0 rfl rfl) h0

set_option maxRecDepth 100000 in
theorem lifted (os : Os) (started : os.Started) (H : Type) (enc : TypeId × Value → H) :
    ReturnsInHanded {} Try.checked os 11 .any (Rows.fnTracksSpec.pre6 enc Try.prog Try.f11 Rows.fnTracksRow.domain false) (Rows.fnTracksSpec.post enc Try.prog Try.f11 false true false false) := by
  refine returnsInHanded_of_change (C := Try.checked) (s := Rows.fnTracksSpec) own started (by kernel_rfl) Try.func11
    (ChangeSpec.witness6 (enc := enc) (C := Try.checked) (s := Rows.fnTracksSpec) false ⟨#[], #[.slice none 0 0], []⟩ 8 (by kernel_rfl) (by kernel_rfl) (by kernel_rfl) (by kernel_rfl)) ?_
  intro W base args ds gs before hval hW _ _
  exact contract H enc W base args ds gs before hval hW

set_option maxRecDepth 100000 in
theorem said : Rows.FnTracksSaid :=
  OpenClaim.holds_of_wide 11 Try.f11 rfl rfl rfl rfl rfl rfl rfl ⟨rfl, rfl, rfl, rfl, rfl⟩ rfl rfl rfl rfl rfl (by kernel_rfl) Try.func11 (by kernel_rfl)
    (of_decide_eq_true (by kernel_rfl)) (by unfold Func.isWrapper; first | (rw [if_pos (by decide +kernel)]; kernel_rfl) | (rw [if_neg (by decide +kernel)]; exact ⟨rfl, rfl⟩))
    (fun os started H enc _ => lifted os started H enc)
end Go.Proofs.Ytklilfbokpljkac.fnTracks
