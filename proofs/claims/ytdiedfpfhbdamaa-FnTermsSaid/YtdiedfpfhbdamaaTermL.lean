/- FnTerms: for every code the law answers true; no condition. -/
import Derived.Test.YtdiedfpfhbdamaaAoD
import Derived.Test.YtdiedfpfhbdamaaAmQ
import Derived.Test.YtdiedfpfhbdamaaRw
import Derived.Test.YtdiedfpfhbdamaaRi
import Derived.Test.YtdiedfpfhbdamaaVi
import Derived.Deep.CutBlock
import Derived.Deep.CutRange
import Derived.Deep.DeepCutAuto
namespace Go.Proofs.Ytdiedfpfhbdamaa.fnTerms
open Go.ChangeShapes Go.WideShapes Go.ChangeAt Go.RowKit Go.ChangeMaps
set_option linter.unusedSimpArgs false
set_option linter.unusedVariables false

theorem own : ownKnob Try.prog.godebug = none := by kernel_rfl

theorem St.tr {w : World} {v : Value} {xs : List GTableRow} (h : TableRowL w w.heap.size v xs) : St w (fun w' => TableRowL w' w'.heap.size v xs) := fun w' hb => (h.below hb).mono hb.size
theorem St.sw {w : World} {v : Value} {xs : List GSwing} (h : SwingL w w.heap.size v xs) : St w (fun w' => SwingL w' w'.heap.size v xs) := fun w' hb => (h.below hb).mono hb.size
theorem St.bx {w : World} {b : Nat} {cs : List Value} (h : Bx w b cs) : St w (fun w' => Bx w' b cs) := fun w' hb => h.below hb
theorem ne_same (a : Bool) : (a != a) = false := by cases a <;> rfl
theorem ne_int (a : Int) : (a != a) = false := by simp
set_option maxRecDepth 100000 in
set_option maxHeartbeats 4000000 in
theorem walk_main (ao : Option Addr) (n cap : Nat) (w : World) (hn : n ≤ 65536) (hcode : Code w w.heap.size ao n) :
    Calls Try.prog 4 #[.slice ao n cap] w fun e w' => e = .returned (.bool true) ∧ Below w.heap.size w w' := by
  have C0 : CodeArg w w.heap.size (.slice ao n cap) := ⟨Nat.le_refl _, ao, n, cap, rfl, hn, hcode⟩
  clear hcode
  have hni : (n : Int) ≤ 65536 := by omega
  have sb0 := St.chain w
  have sc0 := St.code C0
  clear C0
  go_enter Try.func4, Try.ntmps4
  go_wp2_with fail
  refine (rBig_no n cap ao w hni).mono ?_
  rintro e w1 ⟨rfl, hw1⟩
  obtain rfl := hw1.symm
  go_wp2_with fail
  refine (drawRs w _ _ sc0.now).mono ?_
  rintro e w2 ⟨vt1, vs1, xs, ys, rfl, hD⟩
  have sb_2 := sb0.step hD.below
  have sc_2 := sc0.step hD.below
  clear sb0 sc0
  have t13 := St.tr hD.tl
  have s14 := St.sw hD.sl
  obtain ⟨at1, ct1, rfl⟩ := hD.tl.form
  obtain ⟨as1, cs1, rfl⟩ := hD.sl.form
  have hzt1 : szsTableRow xs ≤ 1048576 := tdl_sz hD.tlen
  have hzs1 : szsSwing ys ≤ 1048576 := wdl_sz hD.slen
  have hwt1 : ∀ s ∈ xs, wfTableRow s := fun s hs => (hD.tbd s hs).wf
  have hws1 : ∀ s ∈ ys, wfSwing s := fun s hs => (hD.sbd s hs).wf
  have hl1 : ys.length ≤ 12 := hD.slen
  clear hD
  have HRF := Lib.hid (res_facts xs ys)
  have CR1 := Lib.hid (fun w' v v2 (h1 : TableRowL w' w'.heap.size v xs) (h2 : SwingL w' w'.heap.size v2 ys) => implRs xs v ys v2 w' _ h1 h2 (Nat.le_refl _) hzt1 hzs1 hwt1 hws1)
  have CR2 := Lib.hid (fun w' v v2 (h1 : TableRowL w' w'.heap.size v xs) (h2 : SwingL w' w'.heap.size v2 ys) => specRs xs v ys v2 w' _ h1 h2 (Nat.le_refl _) hzt1 hzs1 hwt1 hws1)
  have CM1 := Lib.hid (fun w' v v2 (h1 : TableRowL w' w'.heap.size v xs) (h2 : SwingL w' w'.heap.size v2 ys) => implMd xs v ys v2 w' _ h1 h2 (Nat.le_refl _) hzt1 hzs1 hwt1 hws1)
  have CM2 := Lib.hid (fun w' v v2 (h1 : TableRowL w' w'.heap.size v xs) (h2 : SwingL w' w'.heap.size v2 ys) => specMd xs v ys v2 w' _ h1 h2 (Nat.le_refl _) hzt1 hzs1 hwt1 hws1)
  generalize okMd xs ys = k1 at *
  generalize resMd xs ys = rs at *
  generalize numMd xs ys = nm at *
  have hq1 := ne_same k1
  have hq2 := ne_int nm
  go_wp2_with fail
  refine (CR1.out w2 _ _ t13.now s14.now).mono ?_
  rintro e w5 ⟨y1, rfl, hO1, hb5⟩
  have sb_5 := sb_2.step hb5
  have sc_5 := sc_2.step hb5
  have t1_5 := t13.step hb5
  have s1_5 := s14.step hb5
  clear sb_2 sc_2 t13 s14 hb5
  have i16 := St.own hO1
  obtain ⟨d1, e1, rfl⟩ := hO1.form
  clear hO1
  go_wp2_with fail
  refine (CR2.out w5 _ _ t1_5.now s1_5.now).mono ?_
  rintro e w7 ⟨y2, rfl, hO2, hb7⟩
  have sb_7 := sb_5.step hb7
  have sc_7 := sc_5.step hb7
  have t1_7 := t1_5.step hb7
  have s1_7 := s1_5.step hb7
  have i1_7 := i16.step hb7
  clear sb_5 sc_5 t1_5 s1_5 i16 hb7
  have i28 := St.own hO2
  obtain ⟨d2, e2, rfl⟩ := hO2.form
  clear hO2
  go_wp2_with fail
  refine (rInts_same rs _ _ w7 _ i1_7.now i28.now (Nat.le_refl _)).mono ?_
  rintro e w9 ⟨rfl, hb9⟩
  have sb_9 := sb_7.step hb9
  have sc_9 := sc_7.step hb9
  have t1_9 := t1_7.step hb9
  have s1_9 := s1_7.step hb9
  have i1_9 := i1_7.step hb9
  have i2_9 := i28.step hb9
  clear sb_7 sc_7 t1_7 s1_7 i1_7 i28 hb9
  clear i2_9
  go_wp2_with fail
  refine (CM1.out w9 _ _ t1_9.now s1_9.now).mono ?_
  rintro e w10 ⟨rfl, hb10⟩
  have sb_10 := sb_9.step hb10
  have sc_10 := sc_9.step hb10
  have t1_10 := t1_9.step hb10
  have s1_10 := s1_9.step hb10
  have i1_10 := i1_9.step hb10
  clear sb_9 sc_9 t1_9 s1_9 i1_9 hb10
  go_wp2_with fail
  refine (CM2.out w10 _ _ t1_10.now s1_10.now).mono ?_
  rintro e w11 ⟨rfl, hb11⟩
  have sb_11 := sb_10.step hb11
  have sc_11 := sc_10.step hb11
  have t1_11 := t1_10.step hb11
  have s1_11 := s1_10.step hb11
  have i1_11 := i1_10.step hb11
  clear sb_10 sc_10 t1_10 s1_10 i1_10 hb11
  clear t1_11 s1_11
  clear CR1 CR2 CM1 CM2
  go_upto_block 0 with fail
  go_cut [13, 14] from 87 to 99 (fun x _ wx => (∃ c : Nat, x = .int .i64 c ∧ c ≤ 20 ∧ (k1 = true → rs.length ≤ 2 * c)) ∧ Below w11.heap.size w11 wx)
  case first =>
    have HIR := Lib.hid i1_11
    go_wp2_with fail
    go_loopw [13, 14] (fun x i wr => ∃ j : Nat, j ≤ rs.length ∧ i = .int .i64 j ∧ x = .int .i64 (cntZ rs j : Nat) ∧ wr = w11) (fun _ i _ => rs.length - (intOf i).toNat)
    case atStart => exact ⟨0, Nat.zero_le _, rfl, by rw [cntZ_zero]; rfl, rfl⟩
    case round =>
      obtain ⟨j, hj, rfl, rfl, rfl⟩ := hrel
      have hl9 := HRF.out.1
      have hcz := cntZ_le rs j
      by_cases hlt : j < rs.length
      case neg =>
        obtain rfl : j = rs.length := by omega
        have HH := Lib.hid HRF.out.2
        generalize cntZ rs rs.length = cz at *
        go_wp2
        go_meet
        exact ⟨⟨cz, rfl, by omega, fun h => (HH.out h).2⟩, Below.refl _ _⟩
      obtain ⟨x, hx⟩ := get_of_lt hlt
      obtain ⟨a9, c9, e9, hcp9, hmx9, -, hc9⟩ := HIR.out.now
      simp only [Value.slice.injEq, true_and] at e9
      obtain ⟨rfl, rfl⟩ := e9
      obtain ⟨b9, o9, rfl, hb9, hcx⟩ := hc9 j x hx
      have hj0 : (0 : Int) ≤ (j : Int) := by omega
      have hj1 : (j : Int) < (rs.length : Int) := by omega
      have HCY := Lib.hid (fun e => cntZ_yes hx e)
      have HCN := Lib.hid (fun e => cntZ_no hx e)
      clear hc9 hx HIR
      generalize cntZ rs j = cz at *
      have s1 : IntKind.i64.wrap ((cz : Int) + 1) = (cz : Int) + 1 := IntWalk.i64_in _ (by omega)
      by_cases hle : x ≤ 0
      · have HE := Lib.hid (HCY.out hle)
        go_wp2
        go_roundw
        case rel => exact ⟨j + 1, by omega, by go_num, by rw [HE.out]; go_num, by first | rfl | trivial⟩
        case measure => simp [intOf]; omega
      · have HE := Lib.hid (HCN.out hle)
        go_wp2
        go_roundw
        case rel => exact ⟨j + 1, by omega, by go_num, by rw [HE.out], by first | rfl | trivial⟩
        case measure => simp [intOf]; omega
  case rest =>
    obtain ⟨⟨cz, rfl, hcz, hk9⟩, hb12⟩ := hcut
    obtain ⟨w12, hwc12⟩ : ∃ x, x = wc := ⟨wc, rfl⟩
    subst hwc12
    have sb_12 := sb_11.step hb12
    have sc_12 := sc_11.step hb12
    have i1_12 := i1_11.step hb12
    clear sb_11 sc_11 i1_11 hb12
    have HK9 := Lib.hid hk9
    clear hk9
    go_upto_region 18 with fail
    go_cut [112] from 100 to 111 (fun x wx => x = .bool false ∧ Below w12.heap.size w12 wx)
    case first =>
      have cb13 := St.chain w12
      cases k1 with
      | false =>
        go_wp2
        go_meet
        exact ⟨rfl, cb13.now⟩
      | true =>
        have h0 := (HRF.out.2 rfl).1
        have h1 := HK9.out rfl
        have HHY := Lib.hid (fun w v (h : Lst (Value.int .i64) w w.heap.size v rs) => rHasYes rs v 0 w _ h h0)
        have s1 : wrap64 (2 * (cz : Int)) = 2 * (cz : Int) := by unfold wrap64; omega
        have s2 : IntKind.i64.wrap (2 * (cz : Int)) = 2 * (cz : Int) := IntWalk.i64_in _ (by omega)
        have g1 : ¬ 2 * (cz : Int) < (rs.length : Int) := by omega
        have g2 : decide (2 * (cz : Int) < (rs.length : Int)) = false := decide_eq_false g1
        clear h0 h1
        go_wp2_with fail
        refine (HHY.out w12 _ i1_12.now).mono ?_
        rintro e w14 ⟨rfl, hw14⟩
        obtain rfl := hw14.symm
        go_wp2
        go_meet
        exact ⟨rfl, cb13.now⟩
    case rest =>
      obtain ⟨rfl, hb14⟩ := hcut
      obtain ⟨w14, hwc14⟩ : ∃ x, x = wc := ⟨wc, rfl⟩
      subst hwc14
      have sb_14 := sb_12.step hb14
      have sc_14 := sc_12.step hb14
      have i1_14 := i1_12.step hb14
      clear sb_12 sc_12 i1_12 hb14
      clear i1_14
      clear HRF HK9 hq1 hq2 hcz
      go_wp2_with fail
      refine (drawNt w14 _ _ sc_14.now).mono ?_
      rintro e w15 ⟨vt2, vs2, us, ls, rfl, hD⟩
      have sb_15 := sb_14.step hD.below
      have sc_15 := sc_14.step hD.below
      clear sb_14 sc_14
      have t216 := St.tr hD.tl
      have s217 := St.sw hD.sl
      obtain ⟨at2, ct2, rfl⟩ := hD.tl.form
      obtain ⟨as2, cs2, rfl⟩ := hD.sl.form
      have hzt2 : szsTableRow us ≤ 1048576 := tdl_sz hD.tlen
      have hzs2 : szsSwing ls ≤ 1048576 := wdl_sz hD.slen
      have hwt2 : ∀ s ∈ us, wfTableRow s := fun s hs => (hD.tbd s hs).wf
      have hws2 : ∀ s ∈ ls, wfSwing s := fun s hs => (hD.sbd s hs).wf
      have hl2 : ls.length ≤ 12 := hD.slen
      clear hD
      obtain ⟨hsl, hsg, hsm, hsf⟩ := swg_facts us ls
      have HSG := Lib.hid hsg
      have HSF := Lib.hid hsf
      clear hsg hsf
      have CN1 := Lib.hid (fun w' v v2 (h1 : TableRowL w' w'.heap.size v us) (h2 : SwingL w' w'.heap.size v2 ls) => implNt us v ls v2 w' _ h1 h2 (Nat.le_refl _) hzt2 hzs2 hwt2 hws2)
      have CN2 := Lib.hid (fun w' v v2 (h1 : TableRowL w' w'.heap.size v us) (h2 : SwingL w' w'.heap.size v2 ls) => specNt us v ls v2 w' _ h1 h2 (Nat.le_refl _) hzt2 hzs2 hwt2 hws2)
      have CM1 := Lib.hid (fun w' v v2 (h1 : TableRowL w' w'.heap.size v us) (h2 : SwingL w' w'.heap.size v2 ls) => implMd us v ls v2 w' _ h1 h2 (Nat.le_refl _) hzt2 hzs2 hwt2 hws2)
      have CMG := Lib.hid (fun w' v (s : GSwing) (h1 : TableRowL w' w'.heap.size v us) (hw : wfSwing s) => implMg us v s (aggW s) w' _ h1 rfl (Nat.le_refl _) hzt2 (by simp [sz1Swing]) hwt2 hw)
      generalize okMd us ls = k2 at *
      generalize swgMd us ls = ts at *
      generalize numMd us ls = nm2 at *
      have hq1 := ne_same k2
      have hzt3 : szsSwing ts ≤ 1048576 := wdl_sz (by omega)
      go_wp2_with fail
      refine (CN1.out w15 _ _ t216.now s217.now).mono ?_
      rintro e w18 ⟨y1, rfl, hO1, hb18⟩
      have sb_18 := sb_15.step hb18
      have sc_18 := sc_15.step hb18
      have t2_18 := t216.step hb18
      have s2_18 := s217.step hb18
      clear sb_15 sc_15 t216 s217 hb18
      have e119 := St.sw hO1.lst
      obtain ⟨d1, e1, rfl⟩ := hO1.form
      clear hO1
      go_wp2_with fail
      refine (CN2.out w18 _ _ t2_18.now s2_18.now).mono ?_
      rintro e w20 ⟨y2, rfl, hO2, hb20⟩
      have sb_20 := sb_18.step hb20
      have sc_20 := sc_18.step hb20
      have t2_20 := t2_18.step hb20
      have s2_20 := s2_18.step hb20
      have e1_20 := e119.step hb20
      clear sb_18 sc_18 t2_18 s2_18 e119 hb20
      have e221 := St.sw hO2.lst
      obtain ⟨d2, e2, rfl⟩ := hO2.form
      clear hO2
      go_upto_region 23 with fail
      go_cut [146] from 130 to 145 (fun x wx => x = .bool false ∧ Below w20.heap.size w20 wx)
      case first =>
        have cb22 := St.chain w20
        go_wp2_with fail
        refine (rSwings_same ts _ _ w20 _ e1_20.now e221.now (Nat.le_refl _)).mono ?_
        rintro e w23 ⟨rfl, hb23⟩
        have sb_23 := sb_20.step hb23
        have sc_23 := sc_20.step hb23
        have t2_23 := t2_20.step hb23
        have s2_23 := s2_20.step hb23
        have e1_23 := e1_20.step hb23
        have e2_23 := e221.step hb23
        have cb_23 := cb22.step hb23
        clear sb_20 sc_20 t2_20 s2_20 e1_20 e221 cb22 hb23
        clear e2_23
        cases k2 with
        | false =>
          go_wp2
          go_meet
          exact ⟨rfl, cb_23.now⟩
        | true =>
          have HG := Lib.hid (fun w v (h : SwingL w w.heap.size v ts) => implGoodW ts v true w _ h (Nat.le_refl _) (by omega) (HSG.out rfl))
          go_wp2_with fail
          refine (HG.out w23 _ e1_23.now).mono ?_
          rintro e w24 ⟨rfl, hb24⟩
          have sb_24 := sb_23.step hb24
          have sc_24 := sc_23.step hb24
          have t2_24 := t2_23.step hb24
          have s2_24 := s2_23.step hb24
          have e1_24 := e1_23.step hb24
          have cb_24 := cb_23.step hb24
          clear sb_23 sc_23 t2_23 s2_23 e1_23 cb_23 hb24
          go_wp2
          go_meet
          exact ⟨rfl, cb_24.now⟩
      case rest =>
        obtain ⟨rfl, hb24⟩ := hcut
        obtain ⟨w24, hwc24⟩ : ∃ x, x = wc := ⟨wc, rfl⟩
        subst hwc24
        have sb_24 := sb_20.step hb24
        have sc_24 := sc_20.step hb24
        have t2_24 := t2_20.step hb24
        have s2_24 := s2_20.step hb24
        have e1_24 := e1_20.step hb24
        have e2_24 := e221.step hb24
        clear sb_20 sc_20 t2_20 s2_20 e1_20 e221 hb24
        clear e2_24
        go_wp2_with fail
        refine (CM1.out w24 _ _ t2_24.now s2_24.now).mono ?_
        rintro e w25 ⟨rfl, hb25⟩
        have sb_25 := sb_24.step hb25
        have sc_25 := sc_24.step hb25
        have t2_25 := t2_24.step hb25
        have s2_25 := s2_24.step hb25
        have e1_25 := e1_24.step hb25
        clear sb_24 sc_24 t2_24 s2_24 e1_24 hb25
        clear CN1 CN2 CM1 HSG hq1
        go_upto_block 2 with fail
        go_cut [23, 24, 25, 26, 27] from 153 to 203 (fun _ _ _ _ _ wx => Below w25.heap.size w25 wx)
        case first =>
          have HT := Lib.hid t2_25
          have HL := Lib.hid s2_25
          have HE := Lib.hid e1_25
          clear t2_25 s2_25 e1_25 sb_25 sc_25
          go_wp2_with fail
          go_loopw [23, 24, 25, 26, 27] (fun i _ _ _ _ wr => ∃ j : Nat, j ≤ ts.length ∧ i = .int .i64 j ∧ Below w25.heap.size w25 wr) (fun i _ _ _ _ _ => ts.length - (intOf i).toNat)
          case atStart => exact ⟨0, Nat.zero_le _, rfl, Below.refl _ _⟩
          case round =>
            obtain ⟨j, hj, rfl, hbl⟩ := hrel
            by_cases hlt : j < ts.length
            case neg =>
              go_wp2
              go_meet
              exact hbl
            obtain ⟨u, hu⟩ := get_of_lt hlt
            obtain ⟨rfl, s, hs, hm, x, y, hN⟩ := HSF.out j u hu
            have C1 := CMG.out
            have HN := Lib.hid hN
            clear hN
            have C1 := fun w' v h1 => CMG.out w' v s h1 HN.out.ws
            rw [HN.out.os, HN.out.ns] at C1
            have HC1 := Lib.hid C1
            have C2 := fun w' v h1 => CMG.out w' v u h1 HN.out.wu
            rw [HN.out.ou, HN.out.nu] at C2
            have HC2 := Lib.hid C2
            clear C1 C2
            obtain ⟨bx0, bx1⟩ := HN.out.bx
            obtain ⟨by0, by1⟩ := HN.out.by1
            obtain ⟨bm0, bm1⟩ := id hsm
            have HNR := Lib.hid HN.out.near
            clear HN
            have hlj : j < ls.length := (List.getElem?_eq_some_iff.1 hs).1
            have ls0 := (HL.out.step hbl).now
            have es0 := (HE.out.step hbl).now
            obtain ⟨a9, c9, e9, -, -, -, hc9⟩ := ls0
            simp only [Value.slice.injEq, true_and] at e9
            obtain ⟨rfl, rfl⟩ := e9
            obtain ⟨b9, o9, rfl, hb9, hcs⟩ := hc9 j s hs
            obtain ⟨a8, c8, e8, -, -, -, hc8⟩ := id es0
            simp only [Value.slice.injEq, true_and] at e8
            obtain ⟨rfl, rfl⟩ := e8
            obtain ⟨b8, o8, rfl, hb8, hcu⟩ := hc8 j u hu
            have p0 := hcs 0 _ rfl
            have p1 := hcs 1 _ rfl
            have p2 := hcs 2 _ rfl
            have p3 := hcs 3 _ rfl
            simp only [Nat.add_zero] at p0
            have HU := Lib.hid hcu
            clear hc9 hc8 hcs hcu hs hu es0
            have hj0 : (0 : Int) ≤ (j : Int) := by omega
            have hj1 : (j : Int) < (ls.length : Int) := by omega
            have hj2 : (j : Int) < (ts.length : Int) := by omega
            go_wp2_with fail
            refine (HC1.out wr _ (HT.out.step hbl).now).mono ?_
            rintro e wA ⟨rfl, hA⟩
            have hblA := hbl.trans (hA.mono hbl.size)
            clear p0 p1 p2 p3
            have p0 := cellOf hA hb8 (HU.out 0 _ rfl)
            have p1 := cellOf hA hb8 (HU.out 1 _ rfl)
            have p2 := cellOf hA hb8 (HU.out 2 _ rfl)
            have p3 := cellOf hA hb8 (HU.out 3 _ rfl)
            simp only [Nat.add_zero] at p0
            go_wp2_with fail
            refine (HC2.out wA _ (HT.out.step hblA).now).mono ?_
            rintro e wB ⟨rfl, hB⟩
            have hblB := hblA.trans (hB.mono hblA.size)
            clear p0 p1 p2 p3 HC1 HC2 HU
            have hqm := ne_same hm
            cases hm with
            | false =>
              go_wp2
              go_roundw
              case rel => exact ⟨j + 1, by omega, by go_num, hblB⟩
              case measure => simp [intOf]; omega
            | true =>
              have hnr := HNR.out rfl
              obtain ⟨X, hX⟩ : ∃ X, x - nm2 = X := ⟨_, rfl⟩
              obtain ⟨Y, hY⟩ : ∃ Y, y - nm2 = Y := ⟨_, rfl⟩
              have s1 : IntKind.i64.wrap (x - nm2) = X := by rw [← hX]; exact IntWalk.i64_in _ (by omega)
              have s2 : IntKind.i64.wrap (y - nm2) = Y := by rw [← hY]; exact IntWalk.i64_in _ (by omega)
              have s1w : wrap64 (x - nm2) = X := by rw [← hX]; unfold wrap64; omega
              have s2w : wrap64 (y - nm2) = Y := by rw [← hY]; unfold wrap64; omega
              rw [hX, hY] at hnr
              have hXb : -1301 ≤ X ∧ X ≤ 1301 := by omega
              have hYb : -1301 ≤ Y ∧ Y ≤ 1301 := by omega
              have mX := mul_bd (a := X) (b := X) (A := 1301) (B := 1301) (by omega) (by omega) hXb hXb
              have mY := mul_bd (a := Y) (b := Y) (A := 1301) (B := 1301) (by omega) (by omega) hYb hYb
              obtain ⟨P, hP⟩ : ∃ P, X * X = P := ⟨_, rfl⟩
              obtain ⟨Q, hQ⟩ : ∃ Q, Y * Y = Q := ⟨_, rfl⟩
              rw [hP] at hnr mX
              rw [hQ] at hnr mY
              have s3 : IntKind.i64.wrap (X * X) = P := by rw [hP]; exact IntWalk.i64_in _ (by omega)
              have s4 : IntKind.i64.wrap (Y * Y) = Q := by rw [hQ]; exact IntWalk.i64_in _ (by omega)
              have s3w : wrap64 (X * X) = P := by rw [hP]; unfold wrap64; omega
              have s4w : wrap64 (Y * Y) = Q := by rw [hQ]; unfold wrap64; omega
              have g1 : ¬ P < Q := by omega
              have g2 : decide (P < Q) = false := decide_eq_false g1
              clear hX hY hP hQ mX mY hnr
              go_wp2
              go_roundw
              case rel => exact ⟨j + 1, by omega, by go_num, hblB⟩
              case measure => simp [intOf]; omega
        case rest =>
          have hb26 := hcut
          clear hcut
          obtain ⟨w26, hwc26⟩ : ∃ x, x = wc := ⟨wc, rfl⟩
          subst hwc26
          have sb_26 := sb_25.step hb26
          have sc_26 := sc_25.step hb26
          have t2_26 := t2_25.step hb26
          have s2_26 := s2_25.step hb26
          have e1_26 := e1_25.step hb26
          clear sb_25 sc_25 t2_25 s2_25 e1_25 hb26
          clear t2_26 s2_26 e1_26
          clear HSF CMG
          go_wp2_with fail
          refine (drawMM w26 _ _ sc_26.now).mono ?_
          rintro e w27 ⟨vt3, vs3, ps, qs, rfl, hD⟩
          have sb_27 := sb_26.step hD.below
          have sc_27 := sc_26.step hD.below
          clear sb_26 sc_26
          have t328 := St.tr hD.tl
          have s329 := St.sw hD.sl
          obtain ⟨at3, ct3, rfl⟩ := hD.tl.form
          obtain ⟨as3, cs3, rfl⟩ := hD.sl.form
          have hzt3 : szsTableRow ps ≤ 1048576 := tdl_sz hD.tlen
          have hzs3 : szsSwing qs ≤ 1048576 := wdl_sz hD.slen
          have hwt3 : ∀ s ∈ ps, wfTableRow s := fun s hs => (hD.tbd s hs).wf
          have hws3 : ∀ s ∈ qs, wfSwing s := fun s hs => (hD.sbd s hs).wf
          have hl3 : qs.length ≤ 12 := hD.slen
          clear hD
          clear sc_27
          have CM1 := Lib.hid (fun w' v v2 (h1 : TableRowL w' w'.heap.size v ps) (h2 : SwingL w' w'.heap.size v2 qs) => implMd ps v qs v2 w' _ h1 h2 (Nat.le_refl _) hzt3 hzs3 hwt3 hws3)
          have CM2 := Lib.hid (fun w' v v2 (h1 : TableRowL w' w'.heap.size v ps) (h2 : SwingL w' w'.heap.size v2 qs) => specMd ps v qs v2 w' _ h1 h2 (Nat.le_refl _) hzt3 hzs3 hwt3 hws3)
          go_wp2_with fail
          refine (CM1.out w27 _ _ t328.now s329.now).mono ?_
          rintro e w30 ⟨rfl, hb30⟩
          have sb_30 := sb_27.step hb30
          have t3_30 := t328.step hb30
          have s3_30 := s329.step hb30
          clear sb_27 t328 s329 hb30
          go_wp2_with fail
          refine (CM2.out w30 _ _ t3_30.now s3_30.now).mono ?_
          rintro e w31 ⟨rfl, hb31⟩
          have sb_31 := sb_30.step hb31
          have t3_31 := t3_30.step hb31
          have s3_31 := s3_30.step hb31
          clear sb_30 t3_30 s3_30 hb31
          generalize okMd ps qs = x1 at *
          generalize numMd ps qs = x2 at *
          go_wp2
          go_ret
          exact ⟨by first | rfl | exact ret_bool (by simp), sb_31.now⟩

set_option maxRecDepth 100000 in
theorem walk_all (v : Value) {H : Type} {enc : TypeId × Value → H} {base : Nat} {d : DataW H} {ps : List MemPlace} {w : World} (hval : Value.okWide Try.prog w .any base 22 v)
    (hd : DataW.Trod enc Try.prog w 0 (fun _ => true) true 22 v d ps) :
    Calls Try.prog 4 #[v] w fun e w' => e = .returned (.bool true) ∧ Below w.heap.size w w' := by
  obtain ⟨ao, n, cap, rfl, hn, hc⟩ := open_code Try.underlying22 Try.underlying5 (by kernel_rfl) hval hd
  by_cases h : n ≤ 65536
  · exact walk_main ao n cap w h hc
  · have hi : (65536 : Int) < n := by omega
    go_enter Try.func4, Try.ntmps4
    go_wp2_with fail
    refine (rBig_yes n cap ao _ hi).mono ?_
    rintro e w0 ⟨rfl, hw⟩
    obtain rfl := hw.symm
    go_wp2
    go_ret
    exact ⟨rfl, Below.refl _ _⟩

set_option maxRecDepth 100000 in
theorem contract (H : Type) (enc : TypeId × Value → H) (W : World) (base : Nat) (args : Array Value) (ds gs : List (DataW H)) (before : List MemPlace)
    (hval : ∀ (j : Nat) t v, Try.f4.params[j]? = some t → args[j]? = some v → Value.okWide Try.prog W .any base t v)
    (hW : DataW.Whole enc Try.prog Try.f4.params.toList Rows.fnTermsSpec.vars false W args.toList ds gs before) :
    Calls Try.prog 4 args W fun e W' => ∃ v, e = .returned v ∧ Rows.fnTermsSpec.post enc Try.prog Try.f4 false true false false W args v W' := by
  have hW' := hW
  obtain ⟨p, q, hA0, hV, rfl, hfz, hnd⟩ := hW
  have hA : DataW.TrodAll enc Try.prog W 0 (fun _ => true) true Try.f4.params.toList args.toList ds p := hA0
  rw [Try.params4] at hA hval
  obtain ⟨v0, vs0, d0, ds0, p0, q0, hargs, rfl, rfl, h0, r0⟩ := trodAll_cons hA
  obtain ⟨rfl, rfl, rfl⟩ := trodAll_nil r0
  obtain rfl : args = #[v0] := by cases args; simp_all
  refine lawPost rfl rfl Try.underlying4 (by kernel_rfl) (by kernel_rfl) hW' (fun hg => by subst hg; exact ⟨rfl, rfl, rfl⟩) ?_
  exact walk_all v0 (hval 0 22 v0 rfl rfl) h0

set_option maxRecDepth 100000 in
theorem lifted (os : Os) (started : os.Started) (H : Type) (enc : TypeId × Value → H) :
    ReturnsInHanded {} Try.checked os 4 .any (Rows.fnTermsSpec.pre6 enc Try.prog Try.f4 Rows.fnTermsRow.domain false) (Rows.fnTermsSpec.post enc Try.prog Try.f4 false true false false) := by
  refine returnsInHanded_of_change (C := Try.checked) (s := Rows.fnTermsSpec) own started (by kernel_rfl) Try.func4
    (ChangeSpec.witness6 (enc := enc) (C := Try.checked) (s := Rows.fnTermsSpec) false ⟨#[], #[.slice none 0 0], []⟩ 8 (by kernel_rfl) (by kernel_rfl) (by kernel_rfl) (by kernel_rfl)) ?_
  intro W base args ds gs before hval hW _ _
  exact contract H enc W base args ds gs before hval hW

set_option maxRecDepth 100000 in
theorem said : Rows.FnTermsSaid :=
  OpenClaim.holds_of_wide 4 Try.f4 rfl rfl rfl rfl rfl rfl rfl ⟨rfl, rfl, rfl, rfl, rfl⟩ rfl rfl rfl rfl rfl (by kernel_rfl) Try.func4 (by kernel_rfl)
    (of_decide_eq_true (by kernel_rfl)) (by unfold Func.isWrapper; first | (rw [if_pos (by decide +kernel)]; kernel_rfl) | (rw [if_neg (by decide +kernel)]; exact ⟨rfl, rfl⟩))
    (fun os started H enc _ => lifted os started H enc)
end Go.Proofs.Ytdiedfpfhbdamaa.fnTerms
