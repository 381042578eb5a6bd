/- FnSmoothing: for every code the law answers true; no condition. -/
import Derived.Test.YtklilfbokpljkaaDrF
import Derived.Test.YtklilfbokpljkaaFiL
import Derived.Test.YtklilfbokpljkaaFkF
import Derived.Test.YtklilfbokpljkaaFiJ
import Derived.Test.YtklilfbokpljkaaFjG
import Derived.Test.YtklilfbokpljkaaFiC
import Derived.Test.YtklilfbokpljkaaFjB
import Derived.Test.YtklilfbokpljkaaFjD
import Derived.Deep.CutBlock
import Derived.Deep.CutRange
import Derived.Deep.DeepCutAuto
import Derived.BigQuiet
namespace Go.Proofs.Ytklilfbokpljkaa.fnSmoothing
open Go.ChangeShapes Go.WideShapes Go.ChangeAt Go.RowKit Go.ChangeMaps
set_option linter.unusedSimpArgs false
set_option linter.unusedVariables false

theorem own : ownKnob Try.prog.godebug = none := by kernel_rfl

theorem med_within {xs : List Int} {n : Int} : ∀ x ∈ resMed xs n, x ∈ xs := by
  intro x hx
  unfold resMed at hx
  split at hx
  · obtain ⟨i, hi, rfl⟩ := up_mem hx
    unfold fMed
    exact win_sub (mid_mem (by rw [win_len]; omega))
  · simp at hx
theorem smo_pre {xs : List Int} {k lo hi : Int} (hk : 1 ≤ k) : ∀ i : Nat, (∀ j, j ≤ i → lo ≤ xs.getD j 0 ∧ xs.getD j 0 ≤ hi) → lo ≤ smo xs k i ∧ smo xs k i ≤ hi := by
  intro i
  induction i with
  | zero => intro h; exact h 0 (Nat.le_refl _)
  | succ i ih =>
    intro h
    simp only [smo]
    exact div_toward hk (h (i + 1) (Nat.le_refl _)) (ih (fun j hj => h j (by omega)))
theorem smo_facts {xs : List Int} {k : Int} (h : okA xs k 1 100 = true) : (∀ x ∈ xs, -100000 ≤ x ∧ x ≤ 100000) ∧ resSmo xs k = up (smo xs k) xs.length ∧ (∀ (i : Nat) (lo hi : Int), (∀ j, j ≤ i → lo ≤ xs.getD j 0 ∧ xs.getD j 0 ≤ hi) → lo ≤ smo xs k i ∧ smo xs k i ≤ hi) := by
  obtain ⟨h1, h2⟩ := okA_yes h
  exact ⟨(okL_yes h1).1, by unfold resSmo; rw [if_pos h], fun i lo hi hh => smo_pre (inR_yes h2).1 i hh⟩
theorem clp_in {l x : Int} (h : 0 ≤ l) : -l ≤ clp l x ∧ clp l x ≤ l ∧ (ab x ≤ l → clp l x = x) := by
  unfold clp ab
  refine ⟨by omega, by omega, fun g => ?_⟩
  split at g <;> omega
theorem clp_res {ys : List Int} {l : Int} (h : okA ys l 0 100000 = true) : resClp ys l = up (fun i => clp l (ys.getD i 0)) ys.length := by unfold resClp; rw [if_pos h]
theorem clp_facts {xs : List Int} {l : Int} (h : okA xs l 0 100000 = true) : resClp xs l = up (fun i => clp l (xs.getD i 0)) xs.length ∧ okA (resClp xs l) l 0 100000 = true ∧ resClp (resClp xs l) l = resClp xs l ∧ (0 ≤ l ∧ l ≤ 100000) ∧ (∀ x ∈ xs, -100000 ≤ x ∧ x ≤ 100000) := by
  obtain ⟨h1, h2⟩ := okA_yes h
  have hl := inR_yes h2
  obtain ⟨hx, hn⟩ := okL_yes h1
  have e : resClp xs l = up (fun i => clp l (xs.getD i 0)) xs.length := by unfold resClp; rw [if_pos h]
  have hb : ∀ x ∈ resClp xs l, -l ≤ x ∧ x ≤ l := by
    intro x hx
    rw [e] at hx
    obtain ⟨i, hi, rfl⟩ := up_mem hx
    have := clp_in (l := l) (x := xs.getD i 0) hl.1
    exact ⟨this.1, this.2.1⟩
  have ho : okA (resClp xs l) l 0 100000 = true := by
    unfold okA
    rw [h2, okL_mk (fun x hx => by have := hb x hx; omega) (by rw [e, up_len]; exact hn)]
    rfl
  refine ⟨e, ho, ?_, hl, hx⟩
  have e2 := clp_res ho
  rw [e2]
  have e4 : up (fun i => clp l ((resClp xs l).getD i 0)) (resClp xs l).length = up (fun i => (resClp xs l).getD i 0) (resClp xs l).length := by
    unfold up
    refine List.map_congr_left fun j hj => ?_
    have hj := List.mem_range.1 hj
    have hm : (resClp xs l).getD j 0 ∈ resClp xs l := by
      rw [List.getD_eq_getElem?_getD, List.getElem?_eq_getElem hj]
      exact List.getElem_mem _
    have := hb _ hm
    exact (clp_in hl.1).2.2 (by unfold ab; split <;> omega)
  rw [e4]
  exact up_getD _
theorem vSzA (x : Int) (w : World) (h0 : -1000000000000000 ≤ x) (h1 : x ≤ 1000000000000000) :
    Calls Try.prog 55 #[.int .i64 x] w fun e w' => e = .returned (.int .i64 (ab x)) ∧ w' = w := vSz x _ w h0 h1 rfl
set_option maxRecDepth 100000 in
set_option maxHeartbeats 4000000 in
theorem walk_main (ao : Option Addr) (n cap : Nat) (w : World) (hn : n ≤ 65536) (hcode : Code w w.heap.size ao n) :
    Calls Try.prog 12 #[.slice ao n cap] w fun e w' => e = .returned (.bool true) ∧ Below w.heap.size w w' := by
  have C0 : CodeArg w w.heap.size (.slice ao n cap) := ⟨Nat.le_refl _, ao, n, cap, rfl, hn, hcode⟩
  clear hcode
  have hni : (n : Int) ≤ 65536 := by omega
  have sb0 := St.chain w
  have sc0 := St.code C0
  clear C0
  go_enter Try.func12, Try.ntmps12
  go_wp2_with fail
  refine (vBig_no n cap ao w hni).mono ?_
  rintro e w1 ⟨rfl, hw1⟩
  obtain rfl := hw1.symm
  go_wp2_with fail
  refine (drawMed w _ _ sc0.now).mono ?_
  rintro e w2 ⟨v1, xs, r1, rfl, ⟨hr1, hr2⟩, ⟨hd1, hx1, ho1, hb2⟩⟩
  have sb_2 := sb0.step hb2
  have sc_2 := sc0.step hb2
  clear sb0 sc0 hb2
  have sx3 := St.own ho1
  clear ho1
  have hn1 : xs.length ≤ 1048576 := by omega
  have hI1 : I64 r1 := by unfold I64; omega
  clear hx1
  go_wp2_with fail
  refine (implMed xs v1 r1 w2 _ sx3.now (Nat.le_refl _) hn1 hI1).mono ?_
  rintro e w4 ⟨v2, rfl, ho2, hb4⟩
  have sb_4 := sb_2.step hb4
  have sc_4 := sc_2.step hb4
  have sx_4 := sx3.step hb4
  clear sb_2 sc_2 sx3 hb4
  have sm5 := St.own ho2
  clear ho2
  go_wp2_with fail
  refine (specMed xs v1 r1 w4 _ sx_4.now (Nat.le_refl _) hn1 hI1).mono ?_
  rintro e w6 ⟨v3, rfl, ho3, hb6⟩
  have sb_6 := sb_4.step hb6
  have sc_6 := sc_4.step hb6
  have sx_6 := sx_4.step hb6
  have sm_6 := sm5.step hb6
  clear sb_4 sc_4 sx_4 sm5 hb6
  have sn7 := St.own ho3
  clear ho3
  have CV := Lib.hid (vInts_same _ v2 v3 w6 _ sm_6.now sn7.now (Nat.le_refl _))
  go_wp2_with fail
  refine (CV.out).mono ?_
  rintro e w8 ⟨rfl, hb8⟩
  have sb_8 := sb_6.step hb8
  have sc_8 := sc_6.step hb8
  have sx_8 := sx_6.step hb8
  have sm_8 := sm_6.step hb8
  have sn_8 := sn7.step hb8
  clear sb_6 sc_6 sx_6 sm_6 sn7 hb8
  have CW := Lib.hid (vWithinYes _ xs v2 v1 w8 _ sm_8.now sx_8.now med_within)
  go_wp2_with fail
  refine (CW.out).mono ?_
  rintro e w9 ⟨rfl, hw9⟩
  obtain rfl := hw9.symm
  clear sx_8 sm_8 sn_8
  clear CV CW hn1 hI1 hd1 hr1 hr2
  generalize resMed xs r1 = rm1 at *
  generalize okA xs r1 0 3 = km1 at *
  go_wp2_with fail
  refine (drawSmo w8 _ _ sc_8.now).mono ?_
  rintro e w10 ⟨v4, ys, k1, rfl, ⟨hr1, hr2⟩, ⟨hd2, hx2, ho4, hb10⟩⟩
  have sb_10 := sb_8.step hb10
  have sc_10 := sc_8.step hb10
  clear sb_8 sc_8 hb10
  have sx11 := St.own ho4
  clear ho4
  have hn2 : ys.length ≤ 1048576 := by omega
  have hI2 : I64 k1 := by unfold I64; omega
  clear hx2
  go_wp2_with fail
  refine (implSmo ys v4 k1 w10 _ sx11.now (Nat.le_refl _) hn2 hI2).mono ?_
  rintro e w12 ⟨v5, rfl, ho5, hb12⟩
  have sb_12 := sb_10.step hb12
  have sc_12 := sc_10.step hb12
  have sx_12 := sx11.step hb12
  clear sb_10 sc_10 sx11 hb12
  have sm13 := St.own ho5
  clear ho5
  go_wp2_with fail
  refine (specSmo ys v4 k1 w12 _ sx_12.now (Nat.le_refl _) hn2 hI2).mono ?_
  rintro e w14 ⟨v6, rfl, ho6, hb14⟩
  have sb_14 := sb_12.step hb14
  have sc_14 := sc_12.step hb14
  have sx_14 := sx_12.step hb14
  have sm_14 := sm13.step hb14
  clear sb_12 sc_12 sx_12 sm13 hb14
  have sn15 := St.own ho6
  clear ho6
  obtain ⟨a5, c5, rfl⟩ := sm_14.now.form
  obtain ⟨a4, c4, rfl⟩ := sx_14.now.form
  have CV := Lib.hid (vInts_same _ _ v6 w14 _ sm_14.now sn15.now (Nat.le_refl _))
  go_wp2_with fail
  refine (CV.out).mono ?_
  rintro e w16 ⟨rfl, hb16⟩
  have sb_16 := sb_14.step hb16
  have sc_16 := sc_14.step hb16
  have sx_16 := sx_14.step hb16
  have sm_16 := sm_14.step hb16
  have sn_16 := sn15.step hb16
  clear sb_14 sc_14 sx_14 sm_14 sn15 hb16
  clear sn_16
  clear CV
  have HSF := Lib.hid (smo_facts (xs := ys) (k := k1))
  go_upto_block 0 with fail
  go_cut [12, 14, 15, 16, 17] from 71 to 135 (fun _ _ _ _ _ wx => Below w16.heap.size w16 wx)
  case first =>
    have cb17 := St.chain w16
    cases hk : okA ys k1 1 100 with
    | false =>
      by_cases he : 0 < ys.length
      · have he2 :  (0 : Int) < (ys.length : Int) := by omega
        go_wp2_with fail
        go_loopw [15, 16, 17] (fun a b i wr => a = .int .i64 100000 ∧ b = .int .i64 (-100000) ∧ i = .int .i64 0 ∧ Below w16.heap.size w16 wr) (fun _ _ _ _ => 0)
        case atStart => exact ⟨rfl, rfl, rfl, Below.refl _ _⟩
        case round =>
          obtain ⟨rfl, rfl, rfl, hbl⟩ := hrel
          go_wp2
          go_meet
          exact hbl
      · have he2 : ¬ (0 : Int) < (ys.length : Int) := by omega
        go_wp2_with fail
        go_loopw [15, 16, 17] (fun a b i wr => a = .int .i64 100000 ∧ b = .int .i64 (-100000) ∧ i = .int .i64 0 ∧ Below w16.heap.size w16 wr) (fun _ _ _ _ => 0)
        case atStart => exact ⟨rfl, rfl, rfl, Below.refl _ _⟩
        case round =>
          obtain ⟨rfl, rfl, rfl, hbl⟩ := hrel
          go_wp2
          go_meet
          exact hbl
    | true =>
      obtain ⟨hyb, hre, hpre⟩ := HSF.out hk
      have HYB := Lib.hid hyb
      have HPRE := Lib.hid hpre
      have HSM := Lib.hid sm_16
      have HSX := Lib.hid sx_16
      have HRL := Lib.hid (show (resSmo ys k1).length = ys.length by rw [hre, up_len])
      have HRE := Lib.hid hre
      have HSMB := Lib.hid (fun (i : Nat) (h : i < ys.length) => HPRE.out i (-100000) 100000 (fun j hj => getD_bd (M := 100000) (by omega) HYB.out j))
      clear hyb hre hpre hk HSF sm_16 sx_16
      generalize smo ys k1 = f at *
      go_wp2_with fail
      go_loopw [15, 16, 17] (fun a b i wr => ∃ (k : Nat) (lo hi : Int), k ≤ ys.length ∧ a = .int .i64 lo ∧ b = .int .i64 hi ∧ i = .int .i64 k ∧ (-100000 ≤ lo ∧ lo ≤ 100000) ∧ (-100000 ≤ hi ∧ hi ≤ 100000) ∧ (∀ j, j < k → lo ≤ ys.getD j 0 ∧ ys.getD j 0 ≤ hi) ∧ Below w16.heap.size w16 wr) (fun _ _ i _ => ys.length - (intOf i).toNat)
      case atStart => exact ⟨0, 100000, -100000, Nat.zero_le _, rfl, rfl, rfl, by omega, by omega, fun j hj => by omega, Below.refl _ _⟩
      case round =>
        obtain ⟨k, lo, hi, hk1, rfl, rfl, rfl, ⟨l1, l2⟩, ⟨g1, g2⟩, hall, hbl⟩ := hrel
        have HALL := Lib.hid hall
        clear hall
        by_cases hlt : k < ys.length
        case pos =>
          obtain ⟨x, hx⟩ := get_of_lt hlt
          obtain ⟨x1, x2⟩ := HYB.out x (List.mem_of_getElem? hx)
          obtain ⟨ao9, cap9, hv9, _, _, _, hc9⟩ := (HSX.out.step hbl).now
          simp only [Value.slice.injEq] at hv9
          obtain ⟨rfl, -, rfl⟩ := hv9
          obtain ⟨b, off, rfl, hb9, hcx⟩ := hc9 k x hx
          obtain ⟨ao8, cap8, hv8, _, _, _, hc8⟩ := (HSM.out.step hbl).now
          simp only [Value.slice.injEq] at hv8
          obtain ⟨rfl, -, rfl⟩ := hv8
          obtain ⟨b2, off2, rfl, hb8, hcy⟩ := hc8 k (f k) (by rw [HRE.out]; exact up_get hlt)
          have HG := Lib.hid (get_getD hx)
          have HN := Lib.hid (fun (lo2 hi2 : Int) (h1 : lo2 ≤ lo) (h2 : hi ≤ hi2) (h3 : lo2 ≤ x ∧ x ≤ hi2) (j : Nat) (hj : j < k + 1) => show lo2 ≤ ys.getD j 0 ∧ ys.getD j 0 ≤ hi2 by
            rcases Nat.lt_or_ge j k with q | q
            · have := HALL.out j q; omega
            · obtain rfl : j = k := by omega
              rw [HG.out]; exact h3)
          obtain ⟨y1, y2⟩ := HSMB.out k hlt
          have HPK := Lib.hid (fun lo2 hi2 h => HPRE.out k lo2 hi2 h)
          clear hx hc9 hc8
          generalize f k = y at *
          have ki0 : (0 : Int) ≤ (k : Int) := by omega
          have ki1 : (k : Int) < (ys.length : Int) := by omega
          have ki2 : (k : Int) < ((resSmo ys k1).length : Int) := by rw [HRL.out]; exact ki1
          by_cases q1 : x < lo
          · by_cases q2 : hi < x
            · have hyy := HPK.out (x) (x) (fun j hj => HN.out (x) (x) (by omega) (by omega) (by omega) j (by omega))
              obtain ⟨z1, z2⟩ := hyy
              have z3 : ¬ y < x := by omega
              have z4 : ¬ x < y := by omega
              go_wp2
              go_roundw
              case rel => exact ⟨k + 1, x, x, by omega, rfl, rfl, by go_num, by omega, by omega, fun j hj => HN.out _ _ (by omega) (by omega) (by omega) j hj, hbl⟩
              case measure => simp [intOf]; omega
            · have hyy := HPK.out (x) (hi) (fun j hj => HN.out (x) (hi) (by omega) (by omega) (by omega) j (by omega))
              obtain ⟨z1, z2⟩ := hyy
              have z3 : ¬ y < x := by omega
              have z4 : ¬ hi < y := by omega
              go_wp2
              go_roundw
              case rel => exact ⟨k + 1, x, hi, by omega, rfl, rfl, by go_num, by omega, by omega, fun j hj => HN.out _ _ (by omega) (by omega) (by omega) j hj, hbl⟩
              case measure => simp [intOf]; omega
          · by_cases q2 : hi < x
            · have hyy := HPK.out (lo) (x) (fun j hj => HN.out (lo) (x) (by omega) (by omega) (by omega) j (by omega))
              obtain ⟨z1, z2⟩ := hyy
              have z3 : ¬ y < lo := by omega
              have z4 : ¬ x < y := by omega
              go_wp2
              go_roundw
              case rel => exact ⟨k + 1, lo, x, by omega, rfl, rfl, by go_num, by omega, by omega, fun j hj => HN.out _ _ (by omega) (by omega) (by omega) j hj, hbl⟩
              case measure => simp [intOf]; omega
            · have hyy := HPK.out (lo) (hi) (fun j hj => HN.out (lo) (hi) (by omega) (by omega) (by omega) j (by omega))
              obtain ⟨z1, z2⟩ := hyy
              have z3 : ¬ y < lo := by omega
              have z4 : ¬ hi < y := by omega
              go_wp2
              go_roundw
              case rel => exact ⟨k + 1, lo, hi, by omega, rfl, rfl, by go_num, by omega, by omega, fun j hj => HN.out _ _ (by omega) (by omega) (by omega) j hj, hbl⟩
              case measure => simp [intOf]; omega
        have hge : ¬ (k : Int) < (ys.length : Int) := by omega
        have sb_l := sb_16.step hbl
        have sc_l := sc_16.step hbl
        have cb_l := cb17.step hbl
        clear sb_16 sc_16 cb17
        go_wp2
        go_meet
        exact cb_l.now
  case rest =>
    have hb18 := hcut
    clear hcut
    obtain ⟨w18, hwc18⟩ : ∃ x, x = wc := ⟨wc, rfl⟩
    subst hwc18
    have sb_18 := sb_16.step hb18
    have sc_18 := sc_16.step hb18
    have sx_18 := sx_16.step hb18
    have sm_18 := sm_16.step hb18
    clear sb_16 sc_16 sx_16 sm_16 hb18
    clear sx_18 sm_18
    clear HSF hn2 hI2 hd2 hr1 hr2
    go_wp2_with fail
    refine (drawClp w18 _ _ sc_18.now).mono ?_
    rintro e w19 ⟨v14, zs, n2, rfl, ⟨hr1, hr2⟩, ⟨hd3, hx3, hoa, hb19⟩⟩
    have sb_19 := sb_18.step hb19
    have sc_19 := sc_18.step hb19
    clear sb_18 sc_18 hb19
    have sx20 := St.own hoa
    clear hoa
    have hn3 : zs.length ≤ 1048576 := by omega
    have hI3 : I64 n2 := by unfold I64; omega
    clear hx3
    go_wp2_with fail
    refine (implClp zs v14 n2 w19 _ sx20.now (Nat.le_refl _) hn3 hI3).mono ?_
    rintro e w21 ⟨v15, rfl, hob, hb21⟩
    have sb_21 := sb_19.step hb21
    have sc_21 := sc_19.step hb21
    have sx_21 := sx20.step hb21
    clear sb_19 sc_19 sx20 hb21
    have sm22 := St.own hob
    clear hob
    go_wp2_with fail
    refine (specClp zs v14 n2 w21 _ sx_21.now (Nat.le_refl _) hn3 hI3).mono ?_
    rintro e w23 ⟨v16, rfl, hoc, hb23⟩
    have sb_23 := sb_21.step hb23
    have sc_23 := sc_21.step hb23
    have sx_23 := sx_21.step hb23
    have sm_23 := sm22.step hb23
    clear sb_21 sc_21 sx_21 sm22 hb23
    have sn24 := St.own hoc
    clear hoc
    obtain ⟨a15, c15, rfl⟩ := sm_23.now.form
    obtain ⟨a14, c14, rfl⟩ := sx_23.now.form
    have CV := Lib.hid (vInts_same _ _ v16 w23 _ sm_23.now sn24.now (Nat.le_refl _))
    go_wp2_with fail
    refine (CV.out).mono ?_
    rintro e w25 ⟨rfl, hb25⟩
    have sb_25 := sb_23.step hb25
    have sc_25 := sc_23.step hb25
    have sx_25 := sx_23.step hb25
    have sm_25 := sm_23.step hb25
    have sn_25 := sn24.step hb25
    clear sb_23 sc_23 sx_23 sm_23 sn24 hb25
    clear sn_25
    clear CV
    have HCF := Lib.hid (clp_facts (xs := zs) (l := n2))
    have HRN := Lib.hid (show (resClp zs n2).length ≤ 1048576 from resClp_len n2 hn3)
    go_upto_if 161 with fail
    go_cut [21, 23, 24, 25, 26] from 140 to 209 (fun _ _ _ _ _ wx => Below w25.heap.size w25 wx)
    case first =>
      have cb26 := St.chain w25
      cases hk : okA zs n2 0 100000 with
      | false =>
        go_wp2
        go_meet
        exact cb26.now
      | true =>
        obtain ⟨hre, hok, hid, ⟨n0, n9⟩, hzb⟩ := HCF.out hk
        have HRE := Lib.hid hre
        have HZB := Lib.hid hzb
        have HRL := Lib.hid (show (resClp zs n2).length = zs.length by rw [hre, up_len])
        have C1 := implClp (resClp zs n2) _ n2 w25 _ sm_25.now (Nat.le_refl _) HRN.out hI3
        rw [hok, hid] at C1
        have C1 := Lib.hid C1
        clear hre hok hid hzb hk HCF
        go_wp2_with fail
        refine (C1.out).mono ?_
        rintro e w27 ⟨v17, rfl, hod, hb27⟩
        have sb_27 := sb_25.step hb27
        have sc_27 := sc_25.step hb27
        have sx_27 := sx_25.step hb27
        have sm_27 := sm_25.step hb27
        have cb_27 := cb26.step hb27
        clear sb_25 sc_25 sx_25 sm_25 cb26 hb27
        have sq28 := St.own hod
        clear hod C1
        have CV := Lib.hid (vInts_same _ v17 _ w27 _ sq28.now sm_27.now (Nat.le_refl _))
        go_wp2_with fail
        refine (CV.out).mono ?_
        rintro e w29 ⟨rfl, hb29⟩
        have sb_29 := sb_27.step hb29
        have sc_29 := sc_27.step hb29
        have sx_29 := sx_27.step hb29
        have sm_29 := sm_27.step hb29
        have cb_29 := cb_27.step hb29
        have sq_29 := sq28.step hb29
        clear sb_27 sc_27 sx_27 sm_27 cb_27 sq28 hb29
        clear sq_29
        clear CV
        have HSM := Lib.hid sm_29
        have HSX := Lib.hid sx_29
        clear sm_29 sx_29
        go_wp2_with fail
        go_loopw [26] (fun i wr => ∃ (k : Nat), k ≤ zs.length ∧ i = .int .i64 k ∧ Below w29.heap.size w29 wr) (fun i _ => zs.length - (intOf i).toNat)
        case atStart => exact ⟨0, Nat.zero_le _, rfl, Below.refl _ _⟩
        case round =>
          obtain ⟨k, hk1, rfl, hbl⟩ := hrel
          by_cases hlt : k < zs.length
          case pos =>
            obtain ⟨x, hx⟩ := get_of_lt hlt
            obtain ⟨x1, x2⟩ := HZB.out x (List.mem_of_getElem? hx)
            obtain ⟨ao9, cap9, hv9, _, _, _, hc9⟩ := (HSX.out.step hbl).now
            simp only [Value.slice.injEq] at hv9
            obtain ⟨rfl, -, rfl⟩ := hv9
            obtain ⟨b, off, rfl, hb9, hcx⟩ := hc9 k x hx
            obtain ⟨ao8, cap8, hv8, _, _, _, hc8⟩ := (HSM.out.step hbl).now
            simp only [Value.slice.injEq] at hv8
            obtain ⟨rfl, -, rfl⟩ := hv8
            obtain ⟨b2, off2, rfl, hb8, hcy⟩ := hc8 k (clp n2 x) (by rw [HRE.out]; have := up_get (f := fun i => clp n2 (zs.getD i 0)) hlt; rw [this, get_getD hx])
            obtain ⟨p1, p2, p3⟩ := clp_in (l := n2) (x := x) n0
            have ki0 : (0 : Int) ≤ (k : Int) := by omega
            have ki1 : (k : Int) < (zs.length : Int) := by omega
            have ki2 : (k : Int) < ((resClp zs n2).length : Int) := by rw [HRL.out]; exact ki1
            clear hx hc9 hc8
            by_cases q1 : ab x ≤ n2
            · rw [p3 q1] at hcy p1 p2
              have d1 : decide (n2 < ab x) = false := decide_eq_false (by omega)
              have d2 : decide (ab x ≤ n2) = true := decide_eq_true q1
              have d3 : ¬ n2 < ab x := by omega
              clear p3
              go_wp2
              go_quiet ((go_at_call 55; exact Calls.quiet_of_same (vSzA _ _ (by omega) (by omega))))
              go_wp2
              go_roundw
              case rel => exact ⟨k + 1, by omega, by go_num, drewN_b hbl _⟩
              case measure => simp [intOf]; omega
            · have hab : ab (clp n2 x) ≤ n2 := by unfold ab; split <;> omega
              generalize clp n2 x = y at *
              have d1 : decide (n2 < ab y) = false := decide_eq_false (by omega)
              have d2 : decide (ab x ≤ n2) = false := decide_eq_false q1
              have d3 : ¬ n2 < ab y := by omega
              clear p3
              go_wp2
              go_quiet ((go_at_call 55; exact Calls.quiet_of_same (vSzA _ _ (by omega) (by omega))))
              go_wp2
              go_roundw
              case rel => exact ⟨k + 1, by omega, by go_num, drewN_b hbl _⟩
              case measure => simp [intOf]; omega
          have hge : ¬ (k : Int) < ((resClp zs n2).length : Int) := by rw [HRL.out]; omega
          have sb_l := sb_29.step hbl
          have sc_l := sc_29.step hbl
          have cb_l := cb_29.step hbl
          clear sb_29 sc_29 cb_29
          go_wp2
          go_meet
          exact cb_l.now
    case rest =>
      have hb27 := hcut
      clear hcut
      obtain ⟨w27, hwc27⟩ : ∃ x, x = wc := ⟨wc, rfl⟩
      subst hwc27
      have sb_27 := sb_25.step hb27
      have sc_27 := sc_25.step hb27
      have sx_27 := sx_25.step hb27
      have sm_27 := sm_25.step hb27
      clear sb_25 sc_25 sx_25 sm_25 hb27
      clear sx_27 sm_27
      clear HCF HRN hn3 hI3 hd3 hr1 hr2
      go_wp2_with fail
      refine (drawTp w27 _ _ sc_27.now).mono ?_
      rintro e w28 ⟨v24, ts, rfl, ⟨hd4, hx4, hoe, hb28⟩⟩
      have sb_28 := sb_27.step hb28
      have sc_28 := sc_27.step hb28
      clear sb_27 sc_27 hb28
      have sx29 := St.own hoe
      clear hoe
      have hn4 : ts.length ≤ 1048576 := by omega
      clear hx4
      go_wp2_with fail
      refine (implTp ts v24 w28 _ sx29.now (Nat.le_refl _) hn4).mono ?_
      rintro e w30 ⟨v25, rfl, hof, hb30⟩
      have sb_30 := sb_28.step hb30
      have sc_30 := sc_28.step hb30
      have sx_30 := sx29.step hb30
      clear sb_28 sc_28 sx29 hb30
      have sm31 := St.own hof
      clear hof
      go_wp2_with fail
      refine (specTp ts v24 w30 _ sx_30.now (Nat.le_refl _) hn4).mono ?_
      rintro e w32 ⟨v26, rfl, hog, hb32⟩
      have sb_32 := sb_30.step hb32
      have sc_32 := sc_30.step hb32
      have sx_32 := sx_30.step hb32
      have sm_32 := sm31.step hb32
      clear sb_30 sc_30 sx_30 sm31 hb32
      have sn33 := St.own hog
      clear hog
      have CV := Lib.hid (vInts_same _ v25 v26 w32 _ sm_32.now sn33.now (Nat.le_refl _))
      go_wp2_with fail
      refine (CV.out).mono ?_
      rintro e w34 ⟨rfl, hb34⟩
      have sb_34 := sb_32.step hb34
      have sc_34 := sc_32.step hb34
      have sx_34 := sx_32.step hb34
      have sm_34 := sm_32.step hb34
      have sn_34 := sn33.step hb34
      clear sb_32 sc_32 sx_32 sm_32 sn33 hb34
      go_wp2
      go_ret
      exact ⟨ret_bool (by simp), sb_34.now⟩

set_option maxRecDepth 100000 in
theorem walk_all (v : Value) {H : Type} {enc : TypeId × Value → H} {base : Nat} {d : DataW H} {ps : List MemPlace} {w : World} (hval : Value.okWide Try.prog w .any base 32 v)
    (hd : DataW.Trod enc Try.prog w 0 (fun _ => true) true 32 v d ps) :
    Calls Try.prog 12 #[v] w fun e w' => e = .returned (.bool true) ∧ Below w.heap.size w w' := by
  obtain ⟨ao, n, cap, rfl, hn, hc⟩ := open_code Try.underlying32 Try.underlying5 (by kernel_rfl) hval hd
  by_cases h : n ≤ 65536
  · exact walk_main ao n cap w h hc
  · have hi : (65536 : Int) < n := by omega
    go_enter Try.func12, Try.ntmps12
    go_wp2_with fail
    refine (vBig_yes n cap ao _ hi).mono ?_
    rintro e w0 ⟨rfl, hw⟩
    obtain rfl := hw.symm
    go_wp2
    go_ret
    exact ⟨rfl, Below.refl _ _⟩

set_option maxRecDepth 100000 in
theorem contract (H : Type) (enc : TypeId × Value → H) (W : World) (base : Nat) (args : Array Value) (ds gs : List (DataW H)) (before : List MemPlace)
    (hval : ∀ (j : Nat) t v, Try.f12.params[j]? = some t → args[j]? = some v → Value.okWide Try.prog W .any base t v)
    (hW : DataW.Whole enc Try.prog Try.f12.params.toList Rows.fnSmoothingSpec.vars false W args.toList ds gs before) :
    Calls Try.prog 12 args W fun e W' => ∃ v, e = .returned v ∧ Rows.fnSmoothingSpec.post enc Try.prog Try.f12 false true false false W args v W' := by
  have hW' := hW
  obtain ⟨p, q, hA0, hV, rfl, hfz, hnd⟩ := hW
  have hA : DataW.TrodAll enc Try.prog W 0 (fun _ => true) true Try.f12.params.toList args.toList ds p := hA0
  rw [Try.params12] at hA hval
  obtain ⟨v0, vs0, d0, ds0, p0, q0, hargs, rfl, rfl, h0, r0⟩ := trodAll_cons hA
  obtain ⟨rfl, rfl, rfl⟩ := trodAll_nil r0
  obtain rfl : args = #[v0] := by cases args; simp_all
  refine lawPost rfl rfl Try.underlying4 (by kernel_rfl) (by kernel_rfl) hW' (fun hg => by subst hg; exact ⟨rfl, rfl, rfl⟩) ?_
  exact walk_all v0 (hval 0 32 v0 rfl rfl) h0

set_option maxRecDepth 100000 in
theorem lifted (os : Os) (started : os.Started) (H : Type) (enc : TypeId × Value → H) :
    ReturnsInHanded {} Try.checked os 12 .any (Rows.fnSmoothingSpec.pre6 enc Try.prog Try.f12 Rows.fnSmoothingRow.domain false) (Rows.fnSmoothingSpec.post enc Try.prog Try.f12 false true false false) := by
  refine returnsInHanded_of_change (C := Try.checked) (s := Rows.fnSmoothingSpec) own started (by kernel_rfl) Try.func12
    (ChangeSpec.witness6 (enc := enc) (C := Try.checked) (s := Rows.fnSmoothingSpec) false ⟨#[], #[.slice none 0 0], []⟩ 8 (by kernel_rfl) (by kernel_rfl) (by kernel_rfl) (by kernel_rfl)) ?_
  intro W base args ds gs before hval hW _ _
  exact contract H enc W base args ds gs before hval hW

set_option maxRecDepth 100000 in
theorem said : Rows.FnSmoothingSaid :=
  OpenClaim.holds_of_wide 12 Try.f12 rfl rfl rfl rfl rfl rfl rfl ⟨rfl, rfl, rfl, rfl, rfl⟩ rfl rfl rfl rfl rfl (by kernel_rfl) Try.func12 (by kernel_rfl)
    (of_decide_eq_true (by kernel_rfl)) (by unfold Func.isWrapper; first | (rw [if_pos (by decide +kernel)]; kernel_rfl) | (rw [if_neg (by decide +kernel)]; exact ⟨rfl, rfl⟩))
    (fun os started H enc _ => lifted os started H enc)
end Go.Proofs.Ytklilfbokpljkaa.fnSmoothing
