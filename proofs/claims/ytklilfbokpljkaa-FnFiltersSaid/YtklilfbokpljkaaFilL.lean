/- FnFilters: for every code the law answers true; no condition. -/
import Derived.Test.YtklilfbokpljkaaDrF
import Derived.Test.YtklilfbokpljkaaFiL
import Derived.Test.YtklilfbokpljkaaFkD
import Derived.Test.YtklilfbokpljkaaFiF
import Derived.Test.YtklilfbokpljkaaFiG
import Derived.Test.YtklilfbokpljkaaFjE
import Derived.Test.YtklilfbokpljkaaFiB
import Derived.Test.YtklilfbokpljkaaFiD
import Derived.Test.YtklilfbokpljkaaFjC
import Derived.Test.YtklilfbokpljkaaFiE
import Derived.Deep.CutBlock
import Derived.Deep.CutRange
import Derived.Deep.DeepCutAuto
namespace Go.Proofs.Ytklilfbokpljkaa.fnFilters
open Go.ChangeShapes Go.WideShapes Go.ChangeAt Go.RowKit Go.ChangeMaps
set_option linter.unusedSimpArgs false
set_option linter.unusedVariables false

theorem own : ownKnob Try.prog.godebug = none := by kernel_rfl

set_option maxRecDepth 100000 in
set_option maxHeartbeats 4000000 in
theorem walk_main (ao : Option Addr) (n cap : Nat) (w : World) (hn : n ≤ 65536) (hcode : Code w w.heap.size ao n) :
    Calls Try.prog 11 #[.slice ao n cap] w fun e w' => e = .returned (.bool true) ∧ Below w.heap.size w w' := by
  have C0 : CodeArg w w.heap.size (.slice ao n cap) := ⟨Nat.le_refl _, ao, n, cap, rfl, hn, hcode⟩
  clear hcode
  have hni : (n : Int) ≤ 65536 := by omega
  have sb0 := St.chain w
  have sc0 := St.code C0
  clear C0
  go_enter Try.func11, Try.ntmps11
  go_wp2_with fail
  refine (vBig_no n cap ao w hni).mono ?_
  rintro e w1 ⟨rfl, hw1⟩
  obtain rfl := hw1.symm
  go_wp2_with fail
  refine (drawWg w _ _ sc0.now).mono ?_
  rintro e w2 ⟨v1, xs, u1, ws, rfl, ⟨hd1, hx1, ho1, hb2⟩, ⟨hd2, hx2, ho2, -⟩⟩
  have sb_2 := sb0.step hb2
  have sc_2 := sc0.step hb2
  clear sb0 sc0 hb2
  have sx3 := St.own ho1
  have su4 := St.own ho2
  clear ho1 ho2
  have hn1 : xs.length ≤ 1048576 := by omega
  have hn2 : ws.length ≤ 1048576 := by omega
  have HR := Lib.hid (show (resWg xs ws).length ≤ 1048576 from resWg_len ws hn1)
  clear hx1 hx2
  go_wp2_with fail
  refine (implWg xs v1 ws u1 w2 _ sx3.now su4.now (Nat.le_refl _) hn1 hn2).mono ?_
  rintro e w5 ⟨v2, rfl, ho3, hb5⟩
  have sb_5 := sb_2.step hb5
  have sc_5 := sc_2.step hb5
  have sx_5 := sx3.step hb5
  have su_5 := su4.step hb5
  clear sb_2 sc_2 sx3 su4 hb5
  have so6 := St.own ho3
  clear ho3
  go_wp2_with fail
  refine (specWg xs v1 ws u1 w5 _ sx_5.now su_5.now (Nat.le_refl _) hn1 hn2).mono ?_
  rintro e w7 ⟨v3, rfl, ho4, hb7⟩
  have sb_7 := sb_5.step hb7
  have sc_7 := sc_5.step hb7
  have sx_7 := sx_5.step hb7
  have su_7 := su_5.step hb7
  have so_7 := so6.step hb7
  clear sb_5 sc_5 sx_5 su_5 so6 hb7
  have sw8 := St.own ho4
  clear ho4
  have HFA := Lib.hid (wg_facts (xs := xs) (ws := ws))
  obtain ⟨a2, c2, rfl⟩ := so_7.now.form
  have CV := Lib.hid (vInts_same _ _ v3 w7 _ so_7.now sw8.now (Nat.le_refl _))
  go_wp2_with fail
  refine (CV.out).mono ?_
  rintro e w9 ⟨rfl, hb9⟩
  have sb_9 := sb_7.step hb9
  have sc_9 := sc_7.step hb9
  have sx_9 := sx_7.step hb9
  have su_9 := su_7.step hb9
  have so_9 := so_7.step hb9
  have sw_9 := sw8.step hb9
  clear sb_7 sc_7 sx_7 su_7 so_7 sw8 hb9
  clear sw_9
  clear CV
  go_upto_if 67 with fail
  go_cut [6, 8, 9, 10, 11] from 46 to 88 (fun _ _ _ _ _ wx => Below w9.heap.size w9 wx)
  case first =>
    have cb10 := St.chain w9
    cases hk : okWg xs ws with
    | false =>
      go_wp2
      go_meet
      exact cb10.now
    | true =>
      obtain ⟨hok, hnb, hbd⟩ := HFA.out hk
      have has := num_facts ws
      rw [hnb] at has
      have C1 := implWb ws u1 w9 _ su_9.now (Nat.le_refl _) hn2
      rw [hok, hnb] at C1
      have C1 := Lib.hid C1
      have HBD := Lib.hid hbd
      obtain ⟨bd, hbe⟩ : ∃ bd, 100000 * asum ws = bd := ⟨_, rfl⟩
      rw [hbe] at C1 HBD has
      obtain ⟨has1, has2⟩ := has
      have hrl := HR.out
      clear hk hok hnb hbd hbe HFA
      generalize resWg xs ws = rs at *
      go_wp2_with fail
      refine (C1.out).mono ?_
      rintro e w11 ⟨rfl, hb11⟩
      have sb_11 := sb_9.step hb11
      have sc_11 := sc_9.step hb11
      have sx_11 := sx_9.step hb11
      have su_11 := su_9.step hb11
      have so_11 := so_9.step hb11
      have cb_11 := cb10.step hb11
      clear sb_9 sc_9 sx_9 su_9 so_9 cb10 hb11
      have HSO := Lib.hid so_11
      go_wp2_with fail
      go_loopw [11] (fun i wr => ∃ k : Nat, k ≤ rs.length ∧ i = .int .i64 k ∧ Below w11.heap.size w11 wr) (fun i _ => rs.length - (intOf i).toNat)
      case atStart => exact ⟨0, Nat.zero_le _, rfl, Below.refl _ _⟩
      case round =>
        obtain ⟨k, hk1, rfl, hbl⟩ := hrel
        by_cases hlt : k < rs.length
        case pos =>
          obtain ⟨y, hy⟩ := get_of_lt hlt
          obtain ⟨e1, e2, e3⟩ := HBD.out y (List.mem_of_getElem? hy)
          obtain ⟨ao9, cap9, hv9, _, _, _, hc9⟩ := (HSO.out.step hbl).now
          simp only [Value.slice.injEq] at hv9
          obtain ⟨rfl, -, rfl⟩ := hv9
          obtain ⟨b, off, rfl, hb9, hcell⟩ := hc9 k y hy
          have CM := Lib.hid (vSz y (ab y) wr (by omega) (by omega) rfl)
          generalize ab y = z at *
          have hz : ¬ bd < z := by omega
          clear hc9 hy
          go_wp2_with fail
          refine CM.out.mono ?_
          rintro e wq ⟨rfl, hwq⟩
          obtain rfl := hwq.symm
          go_wp2
          go_roundw
          case rel => exact ⟨k + 1, by omega, by go_num, hbl⟩
          case measure => simp [intOf]; omega
        have hge : ¬ (k : Int) < (rs.length : Int) := by omega
        have sb_l := sb_11.step hbl
        have sc_l := sc_11.step hbl
        have sx_l := sx_11.step hbl
        have su_l := su_11.step hbl
        have so_l := so_11.step hbl
        have cb_l := cb_11.step hbl
        clear sb_11 sc_11 sx_11 su_11 so_11 cb_11
        go_wp2
        go_meet
        exact cb_l.now
  case rest =>
    have hb11 := hcut
    clear hcut
    obtain ⟨w11, hwc11⟩ : ∃ x, x = wc := ⟨wc, rfl⟩
    subst hwc11
    have sb_11 := sb_9.step hb11
    have sc_11 := sc_9.step hb11
    have sx_11 := sx_9.step hb11
    have su_11 := su_9.step hb11
    have so_11 := so_9.step hb11
    clear sb_9 sc_9 sx_9 su_9 so_9 hb11
    clear sx_11 su_11 so_11
    clear HFA HR hn1 hn2 hd1 hd2
    go_wp2_with fail
    refine (drawMS w11 _ _ sc_11.now).mono ?_
    rintro e w12 ⟨v4, ys, n1, rfl, ⟨hm1, hm2⟩, ⟨hd3, hx3, ho5, hb12⟩⟩
    have sb_12 := sb_11.step hb12
    have sc_12 := sc_11.step hb12
    clear sb_11 sc_11 hb12
    have sy13 := St.own ho5
    clear ho5
    have hn3 : ys.length ≤ 1048576 := by omega
    have hIn : I64 n1 := by unfold I64; omega
    clear hx3
    go_wp2_with fail
    refine (implMS ys v4 n1 w12 _ sy13.now (Nat.le_refl _) hn3 hIn).mono ?_
    rintro e w14 ⟨v5, rfl, ho6, hb14⟩
    have sb_14 := sb_12.step hb14
    have sc_14 := sc_12.step hb14
    have sy_14 := sy13.step hb14
    clear sb_12 sc_12 sy13 hb14
    have sm15 := St.own ho6
    clear ho6
    go_wp2_with fail
    refine (specMS ys v4 n1 w14 _ sy_14.now (Nat.le_refl _) hn3 hIn).mono ?_
    rintro e w16 ⟨v6, rfl, ho7, hb16⟩
    have sb_16 := sb_14.step hb16
    have sc_16 := sc_14.step hb16
    have sy_16 := sy_14.step hb16
    have sm_16 := sm15.step hb16
    clear sb_14 sc_14 sy_14 sm15 hb16
    have sn17 := St.own ho7
    clear ho7
    have CV := Lib.hid (vInts_same _ v5 v6 w16 _ sm_16.now sn17.now (Nat.le_refl _))
    go_wp2_with fail
    refine (CV.out).mono ?_
    rintro e w18 ⟨rfl, hb18⟩
    have sb_18 := sb_16.step hb18
    have sc_18 := sc_16.step hb18
    have sy_18 := sy_16.step hb18
    have sm_18 := sm_16.step hb18
    have sn_18 := sn17.step hb18
    clear sb_16 sc_16 sy_16 sm_16 sn17 hb18
    clear sn_18
    clear CV
    have HON := Lib.hid (ones_res (xs := ys) (n := n1))
    have HIN := Lib.hid (fun h : okA ys n1 1 10 = true => inR_yes (okA_yes h).2)
    go_upto_region 22 with fail
    go_cut [15, 17, 118] from 93 to 118 (fun _ _ c wx => c = .bool (okA ys n1 1 10 && decide (n1 ≤ 5)) ∧ Below w18.heap.size w18 wx)
    case first =>
      have cb19 := St.chain w18
      cases hk : okA ys n1 1 10 with
      | false =>
        go_wp2
        go_meet
        exact ⟨by rw [hk]; rfl, cb19.now⟩
      | true =>
        by_cases h5 : n1 ≤ 5
        · have hkk : (okA ys n1 1 10 && decide (n1 ≤ 5)) = true := by rw [hk, decide_eq_true h5]; rfl
          have HKK := Lib.hid hkk
          clear hkk
          go_wp2
          go_meet
          exact ⟨by rw [HKK.out], cb19.now⟩
        · have hkk : (okA ys n1 1 10 && decide (n1 ≤ 5)) = false := by rw [hk, decide_eq_false h5]; rfl
          have HKK := Lib.hid hkk
          clear hkk
          go_wp2
          go_meet
          exact ⟨by rw [HKK.out], cb19.now⟩
    case rest =>
      obtain ⟨rfl, hb20⟩ := hcut
      obtain ⟨w20, hwc20⟩ : ∃ x, x = wc := ⟨wc, rfl⟩
      subst hwc20
      have sb_20 := sb_18.step hb20
      have sc_20 := sc_18.step hb20
      have sy_20 := sy_18.step hb20
      have sm_20 := sm_18.step hb20
      clear sb_18 sc_18 sy_18 sm_18 hb20
      obtain ⟨kc, hkc⟩ : ∃ kc, (okA ys n1 1 10 && decide (n1 ≤ 5)) = kc := ⟨_, rfl⟩
      have HKC := Lib.hid hkc
      rw [hkc]
      clear hkc
      go_upto_if 118 with fail
      go_cut [18, 19, 20, 21] from 119 to 142 (fun _ _ _ _ wx => Below w20.heap.size w20 wx)
      case first =>
        have cb21 := St.chain w20
        cases kc with
        | false =>
          go_wp2
          go_meet
          exact cb21.now
        | true =>
          have hkc := HKC.out
          rw [Bool.and_eq_true] at hkc
          obtain ⟨hka, hk5⟩ := hkc
          have hk5 := of_decide_eq_true hk5
          obtain ⟨f1, f2⟩ := HON.out hka hk5
          obtain ⟨p1, -⟩ := HIN.out hka
          obtain ⟨m, hm⟩ : ∃ m, n1.toNat = m := ⟨_, rfl⟩
          have hmi : (m : Int) = n1 := by omega
          have hm5 : m ≤ 5 := by omega
          rw [hm] at f1 f2
          have HMI := Lib.hid hmi
          have F1 := Lib.hid f1
          have F2 := Lib.hid f2
          clear hka hk5 f1 f2 hm hmi HKC HON HIN
          obtain ⟨ti, hi, hz0, hz1, hz2⟩ := info_parts infoInt
          have hrow0 := row_empty w20 (base := w20.heap.size) 3 1 (Nat.le_refl _)
          have hb0 : Below w20.heap.size w20 (w20.alloc (.cells #[] 3)) := (Below.refl _ _).alloc (Nat.le_refl _) _
          go_wp2_with fail
          go_loopw [18, 19] (fun o i wr => ∃ (k : Nat), k ≤ m ∧ i = .int .i64 k ∧ wr.ownsRow w20.heap.size 3 1 o k ((List.replicate k (1 : Int)).map (Value.int .i64)) ∧ Below w20.heap.size w20 wr) (fun _ i _ => m - (intOf i).toNat)
          case atStart => exact ⟨0, Nat.zero_le _, rfl, by simpa using hrow0, hb0⟩
          case round =>
            obtain ⟨k, hk1, rfl, hrow, hbl⟩ := hrel
            obtain ⟨aoo, capo, rfl⟩ := row_form hrow
            have hsz := hbl.size
            by_cases hlt : k < m
            case pos =>
              have hlt2 : (k : Int) < n1 := by have := HMI.out; omega
              go_wp2_with (at_builtin; refine wpList_append_own _ rfl _ _ 43 rfl (w20.heap.size) 3 ti (.int .i64 0) 1 8 Try.underlying43 hi hz0 hz1 hz2 rfl (by decide) _ k ((List.replicate k (1 : Int)).map (Value.int .i64)) rfl (hrow.alloc _) ⟨wr.heap.size, 0, none⟩ 1 1 [.int .i64 1] rfl rfl (cell_one_new _ _ _) (by simp [Value.oneCell']) (by unfold maxLen; omega) (by omega) (by first | omega | (simp; done) | (simp; omega)) ?_; intro v9 w9 hown' hgrow _; have b9 := below_app2 hrow hgrow hsz (Nat.le_refl _))
              rw [show (List.replicate k (1 : Int)).map (Value.int .i64) ++ [.int .i64 1] = (List.replicate (k + 1) (1 : Int)).map (Value.int .i64) by rw [List.replicate_succ']; simp] at hown'
              obtain ⟨a9, c9, rfl⟩ := row_form hown'
              clear hgrow hrow
              go_wp2
              go_roundw
              case rel => exact ⟨k + 1, by omega, by go_num, hown', hbl.trans b9⟩
              case measure => simp [intOf]; omega
            obtain rfl : k = m := by omega
            have hge : ¬ (k : Int) < n1 := by have := HMI.out; omega
            have sb_l := sb_20.step hbl
            have sc_l := sc_20.step hbl
            have sy_l := sy_20.step hbl
            have sm_l := sm_20.step hbl
            have cb_l := cb21.step hbl
            clear sb_20 sc_20 sy_20 sm_20 cb21
            have sr22 := St.own (Own.of_row hrow)
            have hlr : (List.replicate k (1 : Int)).length = k := by simp
            have hlr2 : (List.replicate k (1 : Int)).length ≤ 1048576 := by simp; omega
            have C1 := fun v h => implWg ys v4 (List.replicate k 1) v wr _ sy_l.now h (Nat.le_refl _) hn3 hlr2
            rw [F1.out, F2.out] at C1
            have SR := Lib.hid (sr22.now)
            have SRR := Lib.hid sr22
            have C1 := Lib.hid (C1 _ SR.out)
            clear hrow SR F1 F2 hlr hlr2 sr22
            go_wp2_with fail
            refine (C1.out).mono ?_
            rintro e w23 ⟨v7, rfl, ho8, hb23⟩
            have sb_23 := sb_l.step hb23
            have sc_23 := sc_l.step hb23
            have sy_23 := sy_l.step hb23
            have sm_23 := sm_l.step hb23
            have cb_23 := cb_l.step hb23
            clear sb_l sc_l sy_l sm_l cb_l hb23
            have st24 := St.own ho8
            clear ho8 C1 SRR
            have CV := Lib.hid (vInts_same _ v7 v5 w23 _ st24.now sm_23.now (Nat.le_refl _))
            go_wp2_with fail
            refine (CV.out).mono ?_
            rintro e w25 ⟨rfl, hb25⟩
            have sb_25 := sb_23.step hb25
            have sc_25 := sc_23.step hb25
            have sy_25 := sy_23.step hb25
            have sm_25 := sm_23.step hb25
            have cb_25 := cb_23.step hb25
            have st_25 := st24.step hb25
            clear sb_23 sc_23 sy_23 sm_23 cb_23 st24 hb25
            go_wp2
            go_meet
            exact cb_25.now
      case rest =>
        have hb22 := hcut
        clear hcut
        obtain ⟨w22, hwc22⟩ : ∃ x, x = wc := ⟨wc, rfl⟩
        subst hwc22
        have sb_22 := sb_20.step hb22
        have sc_22 := sc_20.step hb22
        have sy_22 := sy_20.step hb22
        have sm_22 := sm_20.step hb22
        clear sb_20 sc_20 sy_20 sm_20 hb22
        clear sy_22 sm_22
        clear HON HIN HKC hn3 hIn hd3 hm1 hm2
        go_wp2_with fail
        refine (drawCb w22 _ _ sc_22.now).mono ?_
        rintro e w23 ⟨v14, zs, n2, rfl, ⟨hm3, hm4⟩, ⟨hd4, hx4, ho9, hb23⟩⟩
        have sb_23 := sb_22.step hb23
        have sc_23 := sc_22.step hb23
        clear sb_22 sc_22 hb23
        have sz24 := St.own ho9
        clear ho9
        have hn4 : zs.length ≤ 1048576 := by omega
        have hIn4 : I64 n2 := by unfold I64; omega
        clear hx4
        go_wp2_with fail
        refine (implCb zs v14 n2 w23 _ sz24.now (Nat.le_refl _) hn4 hIn4).mono ?_
        rintro e w25 ⟨v15, rfl, hoa, hb25⟩
        have sb_25 := sb_23.step hb25
        have sc_25 := sc_23.step hb25
        have sz_25 := sz24.step hb25
        clear sb_23 sc_23 sz24 hb25
        have sm26 := St.own hoa
        clear hoa
        go_wp2_with fail
        refine (specCb zs v14 n2 w25 _ sz_25.now (Nat.le_refl _) hn4 hIn4).mono ?_
        rintro e w27 ⟨v16, rfl, hob, hb27⟩
        have sb_27 := sb_25.step hb27
        have sc_27 := sc_25.step hb27
        have sz_27 := sz_25.step hb27
        have sm_27 := sm26.step hb27
        clear sb_25 sc_25 sz_25 sm26 hb27
        have sn28 := St.own hob
        clear hob
        have CV := Lib.hid (vInts_same _ v15 v16 w27 _ sm_27.now sn28.now (Nat.le_refl _))
        generalize resCb zs n2 = rc at *
        generalize okA zs n2 1 10 = kb at *
        go_wp2_with fail
        refine (CV.out).mono ?_
        rintro e w29 ⟨rfl, hb29⟩
        have sb_29 := sb_27.step hb29
        have sc_29 := sc_27.step hb29
        have sz_29 := sz_27.step hb29
        have sm_29 := sm_27.step hb29
        have sn_29 := sn28.step hb29
        clear sb_27 sc_27 sz_27 sm_27 sn28 hb29
        clear sn_29 sm_29 sz_29
        clear CV hn4 hIn4 hd4 hm3 hm4
        go_wp2_with fail
        refine (drawWb w29 _ _ sc_29.now).mono ?_
        rintro e w30 ⟨u24, ws2, rfl, ⟨hd5, hx5, hoc, hb30⟩⟩
        have sb_30 := sb_29.step hb30
        have sc_30 := sc_29.step hb30
        clear sb_29 sc_29 hb30
        have sz31 := St.own hoc
        clear hoc
        have hn5 : ws2.length ≤ 1048576 := by omega
        clear hx5
        go_wp2_with fail
        refine (implWb ws2 u24 w30 _ sz31.now (Nat.le_refl _) hn5).mono ?_
        rintro e w32 ⟨rfl, hb32⟩
        have sb_32 := sb_30.step hb32
        have sc_32 := sc_30.step hb32
        have sz_32 := sz31.step hb32
        clear sb_30 sc_30 sz31 hb32
        go_wp2_with fail
        refine (specWb ws2 u24 w32 _ sz_32.now (Nat.le_refl _) hn5).mono ?_
        rintro e w33 ⟨rfl, hb33⟩
        have sb_33 := sb_32.step hb33
        have sc_33 := sc_32.step hb33
        have sz_33 := sz_32.step hb33
        clear sb_32 sc_32 sz_32 hb33
        clear sz_33
        clear hn5 hd5
        generalize numWb ws2 = nb2 at *
        generalize okWs ws2 = kb2 at *
        go_wp2_with fail
        refine (drawEv w33 _ _ sc_33.now).mono ?_
        rintro e w34 ⟨v34, es, n6, rfl, ⟨hm6, hm7⟩, ⟨hd6, hx6, hod, hb34⟩⟩
        have sb_34 := sb_33.step hb34
        have sc_34 := sc_33.step hb34
        clear sb_33 sc_33 hb34
        have sz35 := St.own hod
        clear hod
        have hn6 : es.length ≤ 1048576 := by omega
        have hIn6 : I64 n6 := by unfold I64; omega
        clear hx6
        go_wp2_with fail
        refine (implEv es v34 n6 w34 _ sz35.now (Nat.le_refl _) hn6 hIn6).mono ?_
        rintro e w36 ⟨v35, rfl, hoe, hb36⟩
        have sb_36 := sb_34.step hb36
        have sc_36 := sc_34.step hb36
        have sz_36 := sz35.step hb36
        clear sb_34 sc_34 sz35 hb36
        have sm37 := St.own hoe
        clear hoe
        go_wp2_with fail
        refine (specEv es v34 n6 w36 _ sz_36.now (Nat.le_refl _) hn6 hIn6).mono ?_
        rintro e w38 ⟨v36, rfl, hof, hb38⟩
        have sb_38 := sb_36.step hb38
        have sc_38 := sc_36.step hb38
        have sz_38 := sz_36.step hb38
        have sm_38 := sm37.step hb38
        clear sb_36 sc_36 sz_36 sm37 hb38
        have sn39 := St.own hof
        clear hof
        have CV := Lib.hid (vInts_same _ v35 v36 w38 _ sm_38.now sn39.now (Nat.le_refl _))
        go_wp2_with fail
        refine (CV.out).mono ?_
        rintro e w40 ⟨rfl, hb40⟩
        have sb_40 := sb_38.step hb40
        have sc_40 := sc_38.step hb40
        have sz_40 := sz_38.step hb40
        have sm_40 := sm_38.step hb40
        have sn_40 := sn39.step hb40
        clear sb_38 sc_38 sz_38 sm_38 sn39 hb40
        go_wp2
        go_ret
        exact ⟨ret_bool (by simp), sb_40.now⟩

set_option maxRecDepth 100000 in
theorem walk_all (v : Value) {H : Type} {enc : TypeId × Value → H} {base : Nat} {d : DataW H} {ps : List MemPlace} {w : World} (hval : Value.okWide Try.prog w .any base 32 v)
    (hd : DataW.Trod enc Try.prog w 0 (fun _ => true) true 32 v d ps) :
    Calls Try.prog 11 #[v] w fun e w' => e = .returned (.bool true) ∧ Below w.heap.size w w' := by
  obtain ⟨ao, n, cap, rfl, hn, hc⟩ := open_code Try.underlying32 Try.underlying5 (by kernel_rfl) hval hd
  by_cases h : n ≤ 65536
  · exact walk_main ao n cap w h hc
  · have hi : (65536 : Int) < n := by omega
    go_enter Try.func11, Try.ntmps11
    go_wp2_with fail
    refine (vBig_yes n cap ao _ hi).mono ?_
    rintro e w0 ⟨rfl, hw⟩
    obtain rfl := hw.symm
    go_wp2
    go_ret
    exact ⟨rfl, Below.refl _ _⟩

set_option maxRecDepth 100000 in
theorem contract (H : Type) (enc : TypeId × Value → H) (W : World) (base : Nat) (args : Array Value) (ds gs : List (DataW H)) (before : List MemPlace)
    (hval : ∀ (j : Nat) t v, Try.f11.params[j]? = some t → args[j]? = some v → Value.okWide Try.prog W .any base t v)
    (hW : DataW.Whole enc Try.prog Try.f11.params.toList Rows.fnFiltersSpec.vars false W args.toList ds gs before) :
    Calls Try.prog 11 args W fun e W' => ∃ v, e = .returned v ∧ Rows.fnFiltersSpec.post enc Try.prog Try.f11 false true false false W args v W' := by
  have hW' := hW
  obtain ⟨p, q, hA0, hV, rfl, hfz, hnd⟩ := hW
  have hA : DataW.TrodAll enc Try.prog W 0 (fun _ => true) true Try.f11.params.toList args.toList ds p := hA0
  rw [Try.params11] at hA hval
  obtain ⟨v0, vs0, d0, ds0, p0, q0, hargs, rfl, rfl, h0, r0⟩ := trodAll_cons hA
  obtain ⟨rfl, rfl, rfl⟩ := trodAll_nil r0
  obtain rfl : args = #[v0] := by cases args; simp_all
  refine lawPost rfl rfl Try.underlying4 (by kernel_rfl) (by kernel_rfl) hW' (fun hg => by subst hg; exact ⟨rfl, rfl, rfl⟩) ?_
  exact walk_all v0 (hval 0 32 v0 rfl rfl) h0

set_option maxRecDepth 100000 in
theorem lifted (os : Os) (started : os.Started) (H : Type) (enc : TypeId × Value → H) :
    ReturnsInHanded {} Try.checked os 11 .any (Rows.fnFiltersSpec.pre6 enc Try.prog Try.f11 Rows.fnFiltersRow.domain false) (Rows.fnFiltersSpec.post enc Try.prog Try.f11 false true false false) := by
  refine returnsInHanded_of_change (C := Try.checked) (s := Rows.fnFiltersSpec) own started (by kernel_rfl) Try.func11
    (ChangeSpec.witness6 (enc := enc) (C := Try.checked) (s := Rows.fnFiltersSpec) false ⟨#[], #[.slice none 0 0], []⟩ 8 (by kernel_rfl) (by kernel_rfl) (by kernel_rfl) (by kernel_rfl)) ?_
  intro W base args ds gs before hval hW _ _
  exact contract H enc W base args ds gs before hval hW

set_option maxRecDepth 100000 in
theorem said : Rows.FnFiltersSaid :=
  OpenClaim.holds_of_wide 11 Try.f11 rfl rfl rfl rfl rfl rfl rfl ⟨rfl, rfl, rfl, rfl, rfl⟩ rfl rfl rfl rfl rfl (by kernel_rfl) Try.func11 (by kernel_rfl)
    (of_decide_eq_true (by kernel_rfl)) (by unfold Func.isWrapper; first | (rw [if_pos (by decide +kernel)]; kernel_rfl) | (rw [if_neg (by decide +kernel)]; exact ⟨rfl, rfl⟩))
    (fun os started H enc _ => lifted os started H enc)
end Go.Proofs.Ytklilfbokpljkaa.fnFilters
