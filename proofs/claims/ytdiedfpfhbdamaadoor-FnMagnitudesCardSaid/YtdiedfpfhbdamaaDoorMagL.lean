/- FnMagnitudes: for every code the law answers true, where the listed variables hold what the program lays. -/
import Derived.Test.YtdiedfpfhbdamaaDoorAoE
import Derived.Test.YtdiedfpfhbdamaaDoorAmP
import Derived.Test.YtdiedfpfhbdamaaDoorAmT
import Derived.Test.YtdiedfpfhbdamaaDoorRi
import Derived.Test.YtdiedfpfhbdamaaDoorVi
import Derived.Deep.CutBlock
import Derived.Deep.CutRange
import Derived.Deep.DeepCutAuto
namespace Go.Proofs.YtdiedfpfhbdamaaDoor.fnMagnitudes
open Go.ChangeShapes Go.WideShapes Go.ChangeAt Go.RowKit Go.ChangeMaps
set_option linter.unusedSimpArgs false
set_option linter.unusedVariables false

theorem own : ownKnob Tryd.prog.godebug = none := by kernel_rfl
structure Holds (w : World) : Prop where
  pow : Pow10 w
theorem St.holds {w : World} (h : Holds w) : St w (fun w' => Pow10 w') := fun w' hb => pow10_below h.pow hb
theorem St.tr {w : World} {v : Value} {xs : List GTableRow} (h : TableRowL w w.heap.size v xs) : St w (fun w' => TableRowL w' w'.heap.size v xs) := fun w' hb => (h.below hb).mono hb.size
theorem St.bx {w : World} {b : Nat} {cs : List Value} (h : Bx w b cs) : St w (fun w' => Bx w' b cs) := fun w' hb => h.below hb
theorem ne_same (a : Bool) : (a != a) = false := by cases a <;> rfl
theorem ne_int (a : Int) : (a != a) = false := by simp
set_option maxRecDepth 100000 in
set_option maxHeartbeats 4000000 in
theorem walk_main (ao : Option Addr) (n cap : Nat) (w : World) (hn : n ≤ 65536) (hcode : Code w w.heap.size ao n) (HH : Hid (Holds w)) :
    Calls Tryd.prog 3 #[.slice ao n cap] w fun e w' => e = .returned (.bool true) ∧ Below w.heap.size w w' := by
  have C0 : CodeArg w w.heap.size (.slice ao n cap) := ⟨Nat.le_refl _, ao, n, cap, rfl, hn, hcode⟩
  clear hcode
  have hni : (n : Int) ≤ 65536 := by omega
  have sb0 := St.chain w
  have sc0 := St.code C0
  clear C0
  go_enter Tryd.func3, Tryd.ntmps3
  go_wp2_with fail
  refine (rBig_no n cap ao w hni).mono ?_
  rintro e w1 ⟨rfl, hw1⟩
  obtain rfl := hw1.symm
  have hh0 := St.holds HH.out
  go_wp2_with fail
  refine (drawLW w _ _ sc0.now).mono ?_
  rintro e w2 ⟨v1, xs, x, m, rfl, ⟨hx0, hx1⟩, ⟨hm0, hm1⟩, hD⟩
  have sb_2 := sb0.step hD.below
  have sc_2 := sc0.step hD.below
  have hp_2 := hh0.step hD.below
  clear sb0 sc0 hh0
  have t13 := St.tr hD.tl
  obtain ⟨at1, ct1, rfl⟩ := hD.tl.form
  have hz1 : szsTableRow xs ≤ 1048576 := tdl_sz hD.tlen
  have hw1 : ∀ s ∈ xs, wfTableRow s := fun s hs => (hD.tbd s hs).wf
  clear hD
  have Ix : I64 x := by unfold I64; omega
  have Im : I64 m := by unfold I64; omega
  go_wp2_with fail
  refine (implLw xs _ x m w2 _ t13.now (Nat.le_refl _) hz1 hw1 Ix Im).mono ?_
  rintro e w4 ⟨rfl, hb4⟩
  have sb_4 := sb_2.step hb4
  have sc_4 := sc_2.step hb4
  have hp_4 := hp_2.step hb4
  have t1_4 := t13.step hb4
  clear sb_2 sc_2 hp_2 t13 hb4
  go_wp2_with fail
  refine (specLw xs _ x m w4 _ t1_4.now (Nat.le_refl _) hz1 hw1 Ix Im).mono ?_
  rintro e w5 ⟨rfl, hb5⟩
  have sb_5 := sb_4.step hb5
  have sc_5 := sc_4.step hb5
  have hp_5 := hp_4.step hb5
  have t1_5 := t1_4.step hb5
  clear sb_4 sc_4 hp_4 t1_4 hb5
  have CMG := Lib.hid (fun w' v (s : GSwing) (h1 : TableRowL w' w'.heap.size v xs) (hw : wfSwing s) => implMg xs v s (aggW s) w' _ h1 rfl (Nat.le_refl _) hz1 (by simp [sz1Swing]) hw1 hw)
  have HLF := Lib.hid (fun h => lw_facts (t := xs) (far := x) (m := m) h)
  generalize okLw xs x m = k1 at *
  generalize numLw xs x m = y at *
  have hq1 := ne_same k1
  have hq2 := ne_int y
  go_upto_if 70 with fail
  go_cut [10, 11, 12, 13] from 71 to 100 (fun _ _ _ _ wx => Below w5.heap.size w5 wx)
  case first =>
    have cb6 := St.chain w5
    cases k1 with
    | false =>
      go_wp2
      go_meet
      exact cb6.now
    | true =>
      obtain ⟨⟨y0, y1⟩, e1, hle, hlt⟩ := HLF.out rfl
      clear HLF
      have hwf : wfSwing (⟨1, x, y, 0⟩ : GSwing) := by unfold wfSwing I64; simp only; unfold I64 at Ix; omega
      have hwf2 : wfSwing (⟨1, x, y - 1, 0⟩ : GSwing) := by unfold wfSwing I64; simp only; unfold I64 at Ix; omega
      have C1 := fun w' v h => CMG.out w' v _ h hwf
      have C2 := fun w' v h => CMG.out w' v _ h hwf2
      rw [e1] at C1
      generalize numMg xs ⟨1, x, y, 0⟩ = n1 at *
      generalize numMg xs ⟨1, x, y - 1, 0⟩ = n2 at *
      generalize okMg xs ⟨1, x, y - 1, 0⟩ = k2 at *
      have HC1 := Lib.hid C1
      have HC2 := Lib.hid C2
      have HLT := Lib.hid hlt
      clear C1 C2 hwf hwf2 e1 hlt
      have g1 : ¬ n1 < m := by omega
      have g2 : decide (n1 < m) = false := decide_eq_false g1
      have s1 : IntKind.i64.wrap (y - 1) = y - 1 := IntWalk.i64_in _ (by omega)
      go_wp2_with fail
      refine (HC1.out w5 _ t1_5.now).mono ?_
      rintro e w7 ⟨rfl, hb7⟩
      have sb_7 := sb_5.step hb7
      have sc_7 := sc_5.step hb7
      have hp_7 := hp_5.step hb7
      have t1_7 := t1_5.step hb7
      have cb_7 := cb6.step hb7
      clear sb_5 sc_5 hp_5 t1_5 cb6 hb7
      go_wp2_with fail
      refine (HC2.out w7 _ t1_7.now).mono ?_
      rintro e w8 ⟨rfl, hb8⟩
      have sb_8 := sb_7.step hb8
      have sc_8 := sc_7.step hb8
      have hp_8 := hp_7.step hb8
      have t1_8 := t1_7.step hb8
      have cb_8 := cb_7.step hb8
      clear sb_7 sc_7 hp_7 t1_7 cb_7 hb8
      cases k2 with
      | false =>
        go_wp2
        go_meet
        exact cb_8.now
      | true =>
        have h0 := HLT.out rfl
        have g3 : ¬ m ≤ n2 := by omega
        have g4 : decide (m ≤ n2) = false := decide_eq_false g3
        clear h0
        go_wp2
        go_meet
        exact cb_8.now
  case rest =>
    have hb7 := hcut
    clear hcut
    obtain ⟨w7, hwc7⟩ : ∃ x, x = wc := ⟨wc, rfl⟩
    subst hwc7
    have sb_7 := sb_5.step hb7
    have sc_7 := sc_5.step hb7
    have hp_7 := hp_5.step hb7
    have t1_7 := t1_5.step hb7
    clear sb_5 sc_5 hp_5 t1_5 hb7
    clear HLF CMG hq1 hq2
    clear t1_7
    go_wp2_with fail
    refine (drawSO w7 _ _ sc_7.now).mono ?_
    rintro e w8 ⟨z, rfl, ⟨hz20, hz21⟩, hD⟩
    have sb_8 := sb_7.step hD
    have sc_8 := sc_7.step hD
    have hp_8 := hp_7.step hD
    clear sb_7 sc_7 hp_7
    clear hD
    have Iz : I64 z := by unfold I64; omega
    have Iz1 : I64 (z + 1) := by unfold I64; omega
    have s1 : IntKind.i64.wrap (z + 1) = z + 1 := IntWalk.i64_in _ (by omega)
    have HSF := Lib.hid (fun h h1 => sz_facts (w := z) h h1)
    have CI := Lib.hid (fun w' => implSz z w' w'.heap.size (Nat.le_refl _) Iz)
    have CS := Lib.hid (fun w' => specSz z w' w'.heap.size (Nat.le_refl _) Iz)
    have CJ := Lib.hid (fun w' => implSz (z + 1) w' w'.heap.size (Nat.le_refl _) Iz1)
    generalize okSz z = k1 at *
    generalize numSz z = a1 at *
    generalize okSz (z + 1) = k2 at *
    generalize numSz (z + 1) = a2 at *
    have hq1 := ne_same k1
    have hq2 := ne_int a1
    go_wp2_with fail
    refine (CI.out w8).mono ?_
    rintro e w9 ⟨rfl, hb9⟩
    have sb_9 := sb_8.step hb9
    have sc_9 := sc_8.step hb9
    have hp_9 := hp_8.step hb9
    clear sb_8 sc_8 hp_8 hb9
    go_wp2_with fail
    refine (CS.out w9).mono ?_
    rintro e w10 ⟨rfl, hb10⟩
    have sb_10 := sb_9.step hb10
    have sc_10 := sc_9.step hb10
    have hp_10 := hp_9.step hb10
    clear sb_9 sc_9 hp_9 hb10
    go_wp2_with fail
    refine (CJ.out w10).mono ?_
    rintro e w11 ⟨rfl, hb11⟩
    have sb_11 := sb_10.step hb11
    have sc_11 := sc_10.step hb11
    have hp_11 := hp_10.step hb11
    clear sb_10 sc_10 hp_10 hb11
    go_upto_region 21 with fail
    go_cut [135] from 127 to 134 (fun x wx => x = .bool false ∧ Below w11.heap.size w11 wx)
    case first =>
      have cb12 := St.chain w11
      cases k1 with
      | false =>
        go_wp2
        go_meet
        exact ⟨rfl, cb12.now⟩
      | true =>
        cases k2 with
        | false =>
          go_wp2
          go_meet
          exact ⟨rfl, cb12.now⟩
        | true =>
          have h0 := HSF.out rfl rfl
          have g3 : ¬ a2 < a1 := by omega
          have g4 : decide (a2 < a1) = false := decide_eq_false g3
          clear h0
          go_wp2
          go_meet
          exact ⟨rfl, cb12.now⟩
    case rest =>
      obtain ⟨rfl, hb13⟩ := hcut
      obtain ⟨w13, hwc13⟩ : ∃ x, x = wc := ⟨wc, rfl⟩
      subst hwc13
      have sb_13 := sb_11.step hb13
      have sc_13 := sc_11.step hb13
      have hp_13 := hp_11.step hb13
      clear sb_11 sc_11 hp_11 hb13
      clear HSF CI CS CJ hq1 hq2 s1
      go_wp2_with fail
      refine (drawBA w13 _ _ sc_13.now).mono ?_
      rintro e w14 ⟨v3, ys, u, rfl, ⟨hu0, hu1⟩, hD⟩
      have sb_14 := sb_13.step hD.below
      have sc_14 := sc_13.step hD.below
      have hp_14 := hp_13.step hD.below
      clear sb_13 sc_13 hp_13
      have t315 := St.tr hD.tl
      obtain ⟨at3, ct3, rfl⟩ := hD.tl.form
      have hz3 : szsTableRow ys ≤ 1048576 := tdl_sz hD.tlen
      have hw3 : ∀ s ∈ ys, wfTableRow s := fun s hs => (hD.tbd s hs).wf
      clear hD
      have Iu : I64 u := by unfold I64; omega
      have Iu1 : I64 (u + 1) := by unfold I64; omega
      have s1 : IntKind.i64.wrap (u + 1) = u + 1 := IntWalk.i64_in _ (by omega)
      have HSF := Lib.hid (fun h h1 => bn_facts (t := ys) (x := u) h h1)
      have CI := Lib.hid (fun w' v (h : TableRowL w' w'.heap.size v ys) => implBn ys v u w' _ h (Nat.le_refl _) hz3 hw3 Iu)
      have CS := Lib.hid (fun w' v (h : TableRowL w' w'.heap.size v ys) => specBn ys v u w' _ h (Nat.le_refl _) hz3 hw3 Iu)
      have CJ := Lib.hid (fun w' v (h : TableRowL w' w'.heap.size v ys) => implBn ys v (u + 1) w' _ h (Nat.le_refl _) hz3 hw3 Iu1)
      generalize okBn ys u = k1 at *
      generalize numBn ys u = a1 at *
      generalize okBn ys (u + 1) = k2 at *
      generalize numBn ys (u + 1) = a2 at *
      have hq1 := ne_same k1
      have hq2 := ne_int a1
      go_wp2_with fail
      refine (CI.out w14 _ t315.now).mono ?_
      rintro e w16 ⟨rfl, hb16⟩
      have sb_16 := sb_14.step hb16
      have sc_16 := sc_14.step hb16
      have hp_16 := hp_14.step hb16
      have t3_16 := t315.step hb16
      clear sb_14 sc_14 hp_14 t315 hb16
      go_wp2_with fail
      refine (CS.out w16 _ t3_16.now).mono ?_
      rintro e w17 ⟨rfl, hb17⟩
      have sb_17 := sb_16.step hb17
      have sc_17 := sc_16.step hb17
      have hp_17 := hp_16.step hb17
      have t3_17 := t3_16.step hb17
      clear sb_16 sc_16 hp_16 t3_16 hb17
      go_wp2_with fail
      refine (CJ.out w17 _ t3_17.now).mono ?_
      rintro e w18 ⟨rfl, hb18⟩
      have sb_18 := sb_17.step hb18
      have sc_18 := sc_17.step hb18
      have hp_18 := hp_17.step hb18
      have t3_18 := t3_17.step hb18
      clear sb_17 sc_17 hp_17 t3_17 hb18
      go_upto_region 29 with fail
      go_cut [176] from 168 to 175 (fun x wx => x = .bool false ∧ Below w18.heap.size w18 wx)
      case first =>
        have cb19 := St.chain w18
        cases k1 with
        | false =>
          go_wp2
          go_meet
          exact ⟨rfl, cb19.now⟩
        | true =>
          cases k2 with
          | false =>
            go_wp2
            go_meet
            exact ⟨rfl, cb19.now⟩
          | true =>
            have h0 := HSF.out rfl rfl
            have g3 : ¬ a2 < a1 := by omega
            have g4 : decide (a2 < a1) = false := decide_eq_false g3
            clear h0
            go_wp2
            go_meet
            exact ⟨rfl, cb19.now⟩
      case rest =>
        obtain ⟨rfl, hb20⟩ := hcut
        obtain ⟨w20, hwc20⟩ : ∃ x, x = wc := ⟨wc, rfl⟩
        subst hwc20
        have sb_20 := sb_18.step hb20
        have sc_20 := sc_18.step hb20
        have hp_20 := hp_18.step hb20
        have t3_20 := t3_18.step hb20
        clear sb_18 sc_18 hp_18 t3_18 hb20
        clear HSF CI CS CJ hq1 hq2 s1
        clear t3_20
        go_wp2_with fail
        refine (drawMO w20 _ _ sc_20.now).mono ?_
        rintro e w21 ⟨v4, zs, s, rfl, hbs, hD⟩
        have sb_21 := sb_20.step hD.below
        have sc_21 := sc_20.step hD.below
        have hp_21 := hp_20.step hD.below
        clear sb_20 sc_20 hp_20
        have t422 := St.tr hD.tl
        obtain ⟨at4, ct4, rfl⟩ := hD.tl.form
        have hz4 : szsTableRow zs ≤ 1048576 := tdl_sz hD.tlen
        have hw4 : ∀ s ∈ zs, wfTableRow s := fun s hs => (hD.tbd s hs).wf
        clear hD
        have hws := hbs.wf
        have hss : sz1Swing s ≤ 1048576 := by simp [sz1Swing]
        have N23 := (Below.refl w21.heap.size w21).alloc (Nat.le_refl _) (.cells #[.int .i64 s.pStation, .int .i64 s.pFar, .int .i64 s.pWidth, .int .i64 s.pTerm] 31)
        have bs23 := St.bx (Bx.new w21 [.int .i64 s.pStation, .int .i64 s.pFar, .int .i64 s.pWidth, .int .i64 s.pTerm] 31)
        have sb_23 := sb_21.step N23
        have sc_23 := sc_21.step N23
        have hp_23 := hp_21.step N23
        have t4_23 := t422.step N23
        clear sb_21 sc_21 hp_21 t422 N23
        have CI := Lib.hid (fun w' v (h : TableRowL w' w'.heap.size v zs) => implMg zs v s (aggW s) w' _ h rfl (Nat.le_refl _) hz4 hss hw4 hws)
        have CS := Lib.hid (fun w' v (h : TableRowL w' w'.heap.size v zs) => specMg zs v s (aggW s) w' _ h rfl (Nat.le_refl _) hz4 hss hw4 hws)
        have CT := Lib.hid (fun w' v (h : TableRowL w' w'.heap.size v zs) => implIsT zs v w' _ h (Nat.le_refl _) hz4 hw4)
        have CU := Lib.hid (fun w' v (h : TableRowL w' w'.heap.size v zs) => specIsT zs v w' _ h (Nat.le_refl _) hz4 hw4)
        generalize okMg zs s = k1 at *
        generalize numMg zs s = a1 at *
        generalize goodTb zs = gt at *
        have hq1 := ne_same k1
        have hq2 := ne_int a1
        have qbs0_1 := (bs23.now).2 0 _ rfl
        have qbs1_2 := (bs23.now).2 1 _ rfl
        have qbs2_3 := (bs23.now).2 2 _ rfl
        have qbs3_4 := (bs23.now).2 3 _ rfl
        go_wp2_with fail
        refine (CI.out (w21.alloc (.cells #[.int .i64 s.pStation, .int .i64 s.pFar, .int .i64 s.pWidth, .int .i64 s.pTerm] 31)) _ t4_23.now).mono ?_
        clear qbs0_1 qbs1_2 qbs2_3 qbs3_4
        rintro e w24 ⟨rfl, hb24⟩
        have sb_24 := sb_23.step hb24
        have sc_24 := sc_23.step hb24
        have hp_24 := hp_23.step hb24
        have t4_24 := t4_23.step hb24
        have bs_24 := bs23.step hb24
        clear sb_23 sc_23 hp_23 t4_23 bs23 hb24
        have qbs0_5 := (bs_24.now).2 0 _ rfl
        have qbs1_6 := (bs_24.now).2 1 _ rfl
        have qbs2_7 := (bs_24.now).2 2 _ rfl
        have qbs3_8 := (bs_24.now).2 3 _ rfl
        go_wp2_with fail
        refine (CS.out w24 _ t4_24.now).mono ?_
        clear qbs0_5 qbs1_6 qbs2_7 qbs3_8
        rintro e w25 ⟨rfl, hb25⟩
        have sb_25 := sb_24.step hb25
        have sc_25 := sc_24.step hb25
        have hp_25 := hp_24.step hb25
        have t4_25 := t4_24.step hb25
        have bs_25 := bs_24.step hb25
        clear sb_24 sc_24 hp_24 t4_24 bs_24 hb25
        clear bs_25
        clear CI CS
        go_wp2_with fail
        refine (drawMT w25 _ _ sc_25.now).mono ?_
        rintro e w26 ⟨q, rfl, ⟨hq50, hq51⟩, hD⟩
        have sb_26 := sb_25.step hD
        have sc_26 := sc_25.step hD
        have hp_26 := hp_25.step hD
        have t4_26 := t4_25.step hD
        clear sb_25 sc_25 hp_25 t4_25
        clear hD
        have Iq : I64 q := by unfold I64; omega
        clear sc_26
        go_wp2_with fail
        refine (implMt q w26 _ hp_26.now (Nat.le_refl _) Iq).mono ?_
        rintro e w27 ⟨rfl, hb27⟩
        have sb_27 := sb_26.step hb27
        have hp_27 := hp_26.step hb27
        have t4_27 := t4_26.step hb27
        clear sb_26 hp_26 t4_26 hb27
        go_wp2_with fail
        refine (specMt q w27 _ (Nat.le_refl _) Iq).mono ?_
        rintro e w28 ⟨rfl, hb28⟩
        have sb_28 := sb_27.step hb28
        have hp_28 := hp_27.step hb28
        have t4_28 := t4_27.step hb28
        clear sb_27 hp_27 t4_27 hb28
        generalize okMt q = k2 at *
        generalize strMt q = tx at *
        go_wp2_with fail
        refine (CT.out w28 _ t4_28.now).mono ?_
        rintro e w29 ⟨rfl, hb29⟩
        have sb_29 := sb_28.step hb29
        have hp_29 := hp_28.step hb29
        have t4_29 := t4_28.step hb29
        clear sb_28 hp_28 t4_28 hb29
        go_wp2_with fail
        refine (CU.out w29 _ t4_29.now).mono ?_
        rintro e w30 ⟨rfl, hb30⟩
        have sb_30 := sb_29.step hb30
        have hp_30 := hp_29.step hb30
        have t4_30 := t4_29.step hb30
        clear sb_29 hp_29 t4_29 hb30
        go_wp2
        go_ret
        exact ⟨by first | rfl | exact ret_bool (by simp), sb_30.now⟩
set_option maxRecDepth 100000 in
set_option maxHeartbeats 2000000 in
theorem walk_all (v : Value) {H : Type} {enc : TypeId × Value → H} {base : Nat} {d : DataW H} {ps : List MemPlace} {w : World} (hval : Value.okWide Tryd.prog w .any base 22 v)
    (hd : DataW.Trod enc Tryd.prog w 0 (fun _ => true) true 22 v d ps) (hL : laidMetH Tryd.prog Rows.fnMagnitudesRow.laid w) (hS : w.ShapedOpen Tryd.prog) :
    Calls Tryd.prog 3 #[v] w fun e w' => e = .returned (.bool true) ∧ Below w.heap.size w w' := by
  obtain ⟨ao, n, cap, rfl, hn, hc⟩ := open_code Tryd.underlying22 Tryd.underlying5 (by kernel_rfl) hval hd
  have HH : Holds w := ⟨pow10_of hL (by rfl)⟩
  by_cases h : n ≤ 65536
  · exact walk_main ao n cap w h hc (Lib.hid HH)
  · have hi : (65536 : Int) < n := by omega
    clear hL hS HH
    go_enter Tryd.func3, Tryd.ntmps3
    go_wp2_with fail
    refine (rBig_yes n cap ao _ hi).mono ?_
    rintro e w0 ⟨rfl, hw⟩
    obtain rfl := hw.symm
    go_wp2
    go_ret
    exact ⟨rfl, Below.refl _ _⟩

noncomputable def laidWorld (os : Os) : World := holdingTabs os Rows.fnMagnitudesRow.laid

set_option maxRecDepth 100000 in
set_option maxHeartbeats 2000000 in
theorem contract (H : Type) (enc : TypeId × Value → H) (W : World) (base : Nat) (args : Array Value) (ds gs : List (DataW H)) (before : List MemPlace)
    (hval : ∀ (j : Nat) t v, Tryd.f3.params[j]? = some t → args[j]? = some v → Value.okWide Tryd.prog W .any base t v)
    (hW : DataW.Whole enc Tryd.prog Tryd.f3.params.toList Rows.fnMagnitudesSpec.vars false W args.toList ds gs before) (hL : laidMetH Tryd.prog Rows.fnMagnitudesRow.laid W) (hS : W.ShapedOpen Tryd.prog) :
    Calls Tryd.prog 3 args W fun e W' => ∃ v, e = .returned v ∧ Rows.fnMagnitudesSpec.post enc Tryd.prog Tryd.f3 false true false false W args v W' := by
  have hW' := hW
  obtain ⟨p, q, hA0, hV, rfl, hfz, hnd⟩ := hW
  have hA : DataW.TrodAll enc Tryd.prog W 0 (fun _ => true) true Tryd.f3.params.toList args.toList ds p := hA0
  rw [Tryd.params3] at hA hval
  obtain ⟨v0, vs0, d0, ds0, p0, q0, hargs, rfl, rfl, h0, r0⟩ := trodAll_cons hA
  obtain ⟨rfl, rfl, rfl⟩ := trodAll_nil r0
  obtain rfl : args = #[v0] := by cases args; simp_all
  refine lawPost rfl rfl Tryd.underlying4 (by kernel_rfl) (by kernel_rfl) hW' (fun hg => by subst hg; exact ⟨rfl, rfl, rfl⟩) ?_
  exact walk_all v0 (hval 0 22 v0 rfl rfl) h0 hL hS

set_option maxRecDepth 100000 in
set_option maxHeartbeats 2000000 in
theorem laid_met (os : Os) : laidMet Tryd.prog Rows.fnMagnitudesRow.laid ((laidWorld os).forCall (fun _ _ => 0) ⟨#[], #[.slice none 0 0], []⟩).memory :=
  laidMet_of_run' 8 (by kernel_rfl) (by kernel_rfl)
set_option maxRecDepth 100000 in
set_option maxHeartbeats 2000000 in
theorem reads (os : Os) {H : Type} (enc : TypeId × Value → H) : ∃ places, DataW.whole enc Tryd.prog ((laidWorld os).forCall (fun _ _ => 0) ⟨#[], #[.slice none 0 0], []⟩).memory Tryd.f3.params.toList Rows.fnMagnitudesSpec.vars false #[.slice none 0 0].toList 8 = some ([.nil], [], places) :=
  ⟨[], by kernel_rfl⟩

set_option maxRecDepth 100000 in
set_option maxHeartbeats 2000000 in
theorem lifted (os : Os) (started : os.Started) (H : Type) (enc : TypeId × Value → H) (F : Stop.Interp) :
    ReturnsInHanded {} Tryd.checked os 3 .any ((OpenSpec.ofChange Rows.fnMagnitudesSpec).preRow enc Tryd.prog Tryd.f3 Rows.fnMagnitudesRow.domain false Rows.fnMagnitudesRow.laid) (((OpenSpec.ofChange Rows.fnMagnitudesSpec).at F).post enc Tryd.prog Tryd.f3 false true false false) := by
  obtain ⟨places, hx⟩ := reads os enc
  refine returnsInHanded_of_row (C := Tryd.checked) (s := OpenSpec.ofChange Rows.fnMagnitudesSpec) own started (by kernel_rfl) Tryd.func3
    (witness_row_at (enc := enc) (C := Tryd.checked) false (laidWorld os) #[.slice none 0 0] rfl (by kernel_rfl) (by kernel_rfl) (by kernel_rfl)
      (OpenSpec.preRow_of_cond 8 hx (by kernel_rfl) (fun k hk => by cases hk) (by kernel_rfl) (laid_met os))) ?_
  intro W base args ds gs before hval hW _ _ _ hL hS _
  exact contract H enc W base args ds gs before hval hW hL hS

set_option maxRecDepth 100000 in
set_option maxHeartbeats 2000000 in
theorem said : Rows.FnMagnitudesSaid :=
  OpenClaim.holds_of_cond 3 Tryd.f3 rfl rfl rfl rfl rfl rfl rfl ⟨rfl, rfl, rfl, rfl, rfl⟩ rfl rfl rfl rfl rfl (by kernel_rfl) Tryd.func3 (by kernel_rfl)
    (of_decide_eq_true (by kernel_rfl)) (by unfold Func.isWrapper; first | (rw [if_pos (by decide +kernel)]; kernel_rfl) | (rw [if_neg (by decide +kernel)]; exact ⟨rfl, rfl⟩))
    (fun os started H enc _ F => by rw [OpenClaim.pre_eq_preRow]; exact lifted os started H enc F)

set_option maxRecDepth 100000 in
set_option maxHeartbeats 2000000 in
theorem plain (f : FuncId) (fn : Func) (hf : Tryd.pinned.checked.prog.funcNamed Rows.fnMagnitudesRow.func = some f) (hfn : Tryd.pinned.checked.prog.funcs[f]? = some fn) :
    false = Tryd.pinned.checked.prog.looks [] ∧ ∀ (j : Nat) t, fn.params[j]? = some t → Tryd.pinned.checked.prog.wantsStandIn t = false := by
  obtain rfl : f = 3 := Option.some.inj ((show Tryd.prog.funcNamed Rows.fnMagnitudesRow.func = some 3 by kernel_rfl).symm.trans hf) |>.symm
  obtain rfl : fn = Tryd.f3 := (Option.some.inj (Tryd.func3.symm.trans hfn)).symm
  refine ⟨by kernel_rfl, fun j t ht => ?_⟩
  have hall : Tryd.f3.params.toList.all (fun t => Tryd.prog.wantsStandIn t == false) = true := by kernel_rfl
  have hm : t ∈ Tryd.f3.params.toList := by simpa using Array.mem_of_getElem? ht
  exact eq_of_beq (List.all_eq_true.1 hall t hm)

set_option maxRecDepth 100000 in
set_option maxHeartbeats 2000000 in
theorem card : Rows.FnMagnitudesCardSaid :=
  Claim7.holds_tied_plain_at .later [] _ _ _ _ said (fun _ h => by cases h) (by kernel_rfl) (fun _ h => by cases h) fnMagnitudes_row_tie rfl ⟨rfl, rfl⟩ (by kernel_rfl) rfl plain (by kernel_rfl)

end Go.Proofs.YtdiedfpfhbdamaaDoor.fnMagnitudes
