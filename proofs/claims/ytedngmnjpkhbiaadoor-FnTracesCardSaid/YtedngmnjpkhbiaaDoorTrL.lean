/- FnTraces: traces are read back from their texts, and two parts that are joined again are the whole. -/
import Derived.Test.YtedngmnjpkhbiaaDoorTrA
import Derived.Test.YtedngmnjpkhbiaaDoorTrB
import Derived.Test.YtedngmnjpkhbiaaDoorPtS
import Derived.Test.YtedngmnjpkhbiaaDoorCutS
import Derived.Test.YtedngmnjpkhbiaaDoorJnS
import Derived.Test.YtedngmnjpkhbiaaDoorDrJ
import Derived.Test.YtedngmnjpkhbiaaDoorDrJ2
import Derived.Test.YtedngmnjpkhbiaaDoorVtr
import Derived.OpenShut
import Derived.Deep.CutBlock
import Derived.Deep.CutRange
import Derived.Deep.DeepCutAuto
namespace Go.Proofs.YtedngmnjpkhbiaaDoor
open Go.ChangeShapes Go.WideShapes Go.ChangeAt Go.RowKit Go.ChangeMaps
/-- A world that holds tables and sentinels. -/
noncomputable def layIn (h : Array Obj) (x : String × DataW Unit) : Array Obj :=
  match x.2 with
  | .iface _ (.ptr (.agg [.lit (.string bs)])) =>
    match Tryd.prog.globalNamed x.1 with
    | some g => (h.modify g fun
      | .cells _ t frozen => .cells #[.iface 112 (.pointer (some ⟨h.size, 0, none⟩))] t frozen
      | o => o).push (.cells #[.string ⟨bs.toArray⟩] 114)
    | none => h
  | _ => layTab h x
noncomputable def holdingAll (os : Os) (l : List (String × DataW Unit)) : World :=
  { World.holding Tryd.prog os ⟨#[], #[], []⟩ with heap := l.foldl layIn (World.holding Tryd.prog os ⟨#[], #[], []⟩).heap }
end Go.Proofs.YtedngmnjpkhbiaaDoor
namespace Go.Proofs.YtedngmnjpkhbiaaDoor.fnTraces
open Go.ChangeShapes Go.WideShapes Go.ChangeAt Go.RowKit Go.ChangeMaps
set_option linter.unusedSimpArgs false
set_option linter.unusedVariables false

theorem own : ownKnob Tryd.prog.godebug = none := by kernel_rfl
theorem gS : Tryd.prog.globalNamed "strconv.ErrSyntax" = some 2 := by kernel_rfl
theorem gST : (Tryd.prog.globals[2]?).map (·.type) = some 73 := by kernel_rfl
theorem gR : Tryd.prog.globalNamed "strconv.ErrRange" = some 3 := by kernel_rfl
theorem gRT : (Tryd.prog.globals[3]?).map (·.type) = some 73 := by kernel_rfl

/-- What the world holds that the law's calls read. -/
structure Holds (w : World) : Prop where
  pow : Pow10 w
  syn : ErrAt w 2
  ran : ErrAt w 3
  max : ∃ m, w.cell? ⟨0, 0, none⟩ = some (.int .i64 m)
theorem Holds.below {w w' : World} (h : Holds w) (hb : Below w.heap.size w w') : Holds w' :=
  ⟨pow10_below h.pow hb, h.syn.below hb, h.ran.below hb, let ⟨m, hm⟩ := h.max; ⟨m, cellOf hb (cell_of_lt hm) hm⟩⟩

theorem resPT_lenT (s : ByteArray) : (resPT s).xs.length ≤ 24 := by
  cases h : okPT s with
  | false => rw [resPT_no h]; simp [nilT]
  | true =>
    rw [resPT_yes h]
    obtain ⟨_, _, _, hg, _⟩ := okPT_yes h
    obtain ⟨⟨_, _, _, _, g4, _⟩, _⟩ := goodT_yes hg
    omega
theorem St.bx {w : World} {b : Nat} {cs : List Value} (h : Bx w b cs) : St w (fun w' => Bx w' b cs) := fun w' hb => h.below hb
theorem St.tr {w : World} {L : Nat} {v : Value} {t : Tr} (h : TrO w L w.heap.size v t) : St w (fun w' => TrL w' w'.heap.size v t) := fun w' hb => (h.lst.below hb).mono hb.size
theorem St.holds {w : World} (h : Holds w) : St w (fun w' => Holds w') := fun w' hb => h.below hb
set_option maxRecDepth 100000 in
set_option maxHeartbeats 4000000 in
theorem walk_main (ao : Option Addr) (n cap : Nat) (w : World) (hn : n ≤ 65536) (hcode : Code w w.heap.size ao n) (HH : Hid (Holds w)) :
    Calls Tryd.prog 3 #[.slice ao n cap] w fun e w' => e = .returned (.bool true) ∧ Below w.heap.size w w' := by
  have C0 : CodeArg w w.heap.size (.slice ao n cap) := ⟨Nat.le_refl _, ao, n, cap, rfl, hn, hcode⟩
  clear hcode
  have hni : (n : Int) ≤ 65536 := by omega
  have sb0 := St.chain w
  have sc0 := St.code C0
  have sh0 := St.holds HH.out
  clear C0 HH
  go_enter Tryd.func3, Tryd.ntmps3
  go_wp2_with fail
  refine (vBig_no n cap ao w hni).mono ?_
  rintro e w1 ⟨rfl, hw1⟩
  obtain rfl := hw1.symm
  go_wp2_with fail
  refine (drawTraceText w _ _ sc0.now).mono ?_
  rintro e w2 ⟨v1, t, rfl, hl1, ho1, hb2⟩
  have sb_2 := sb0.step hb2
  have sc_2 := sc0.step hb2
  have sh_2 := sh0.step hb2
  clear sb0 sc0 sh0 hb2
  have st3 := St.tr ho1
  obtain ⟨aov1, capv1, rfl⟩ := ho1.form
  clear ho1
  have hn1 : t.xs.length ≤ 1048576 := by omega
  have N4 := (Below.refl w2.heap.size w2).alloc (Nat.le_refl _) (.cells #[.int .i64 t.st, .int .i64 t.start, .slice aov1 t.xs.length capv1] 26)
  have bt4 := St.bx (Bx.new w2 [.int .i64 t.st, .int .i64 t.start, .slice aov1 t.xs.length capv1] 26)
  have sb_4 := sb_2.step N4
  have sc_4 := sc_2.step N4
  have sh_4 := sh_2.step N4
  have st_4 := st3.step N4
  clear sb_2 sc_2 sh_2 st3 N4
  have HBD := Lib.hid (fun h => (goodT_yes (t := t) h).1)
  have HTB := Lib.hid (fun h => text_back (t := t) h)
  have HCJ := Lib.hid (fun h => @cut_join t h)
  have htz := resTx_size t
  have HX := Lib.hid (fun v w' (h : TrL w' w'.heap.size v t) (q : Pow10 w') => implTx t v w' _ q h (Nat.le_refl _) hn1)
  have HY := Lib.hid (fun v w' (h : TrL w' w'.heap.size v t) => specTx t v w' _ h (Nat.le_refl _) hn1)
  have HG := Lib.hid (fun v w' (h : TrL w' w'.heap.size v t) => implGood t v w' _ h (Nat.le_refl _))
  generalize goodT t = g at *
  generalize resTx t = tx0 at *
  have qbt0_1 := (bt4.now).2 0 _ rfl
  have qbt1_2 := (bt4.now).2 1 _ rfl
  have qbt2_3 := (bt4.now).2 2 _ rfl
  go_wp2_with fail
  refine (HX.out _ (w2.alloc (.cells #[.int .i64 t.st, .int .i64 t.start, .slice aov1 t.xs.length capv1] 26)) st_4.now sh_4.now.pow).mono ?_
  clear qbt0_1 qbt1_2 qbt2_3
  rintro e w5 ⟨rfl, hb5⟩
  have sb_5 := sb_4.step hb5
  have sc_5 := sc_4.step hb5
  have sh_5 := sh_4.step hb5
  have st_5 := st_4.step hb5
  have bt_5 := bt4.step hb5
  clear sb_4 sc_4 sh_4 st_4 bt4 hb5
  have HP := Lib.hid (fun w' (q : Holds w') => implPT tx0 w' htz q.pow q.max q.syn q.ran)
  generalize okPT tx0 = rd at *
  generalize resPT tx0 = rp at *
  go_wp2_with fail
  refine (HP.out w5 (sh_5.now)).mono ?_
  rintro e w6 ⟨v2, rfl, ho2, hb6⟩
  have sb_6 := sb_5.step hb6
  have sc_6 := sc_5.step hb6
  have sh_6 := sh_5.step hb6
  have st_6 := st_5.step hb6
  have bt_6 := bt_5.step hb6
  clear sb_5 sc_5 sh_5 st_5 bt_5 hb6
  have sp7 := St.tr ho2
  obtain ⟨aov2, capv2, rfl⟩ := ho2.form
  clear ho2
  have N8 := (Below.refl w6.heap.size w6).alloc (Nat.le_refl _) (.cells #[.int .i64 rp.st, .int .i64 rp.start, .slice aov2 rp.xs.length capv2] 26)
  have bp8 := St.bx (Bx.new w6 [.int .i64 rp.st, .int .i64 rp.start, .slice aov2 rp.xs.length capv2] 26)
  have sb_8 := sb_6.step N8
  have sc_8 := sc_6.step N8
  have sh_8 := sh_6.step N8
  have st_8 := st_6.step N8
  have bt_8 := bt_6.step N8
  have sp_8 := sp7.step N8
  clear sb_6 sc_6 sh_6 st_6 bt_6 sp7 N8
  have qbt0_4 := (bt_8.now).2 0 _ rfl
  have qbt1_5 := (bt_8.now).2 1 _ rfl
  have qbt2_6 := (bt_8.now).2 2 _ rfl
  go_wp2_with fail
  refine (HY.out _ (w6.alloc (.cells #[.int .i64 rp.st, .int .i64 rp.start, .slice aov2 rp.xs.length capv2] 26)) st_8.now).mono ?_
  clear qbt0_4 qbt1_5 qbt2_6
  rintro e w9 ⟨rfl, hb9⟩
  have sb_9 := sb_8.step hb9
  have sc_9 := sc_8.step hb9
  have sh_9 := sh_8.step hb9
  have st_9 := st_8.step hb9
  have bt_9 := bt_8.step hb9
  have sp_9 := sp_8.step hb9
  have bp_9 := bp8.step hb9
  clear sb_8 sc_8 sh_8 st_8 bt_8 sp_8 bp8 hb9
  go_upto_region 7 with fail
  go_cut [83] from 57 to 83 (fun c wx => c = .bool false ∧ Below w9.heap.size w9 wx)
  case first =>
    have cb10 := St.chain w9
    have qbt0_1 := (bt_9.now).2 0 _ rfl
    have qbt1_2 := (bt_9.now).2 1 _ rfl
    have qbt2_3 := (bt_9.now).2 2 _ rfl
    go_wp2_with fail
    refine (HG.out _ w9 st_9.now).mono ?_
    clear qbt0_1 qbt1_2 qbt2_3
    rintro e w11 ⟨rfl, hb11⟩
    have sb_11 := sb_9.step hb11
    have sc_11 := sc_9.step hb11
    have sh_11 := sh_9.step hb11
    have st_11 := st_9.step hb11
    have bt_11 := bt_9.step hb11
    have sp_11 := sp_9.step hb11
    have bp_11 := bp_9.step hb11
    have cb_11 := cb10.step hb11
    clear sb_9 sc_9 sh_9 st_9 bt_9 sp_9 bp_9 cb10 hb11
    cases g with
    | false =>
      go_wp2
      go_meet
      exact ⟨rfl, cb_11.now⟩
    | true =>
      obtain ⟨r1, r2⟩ := HTB.out rfl
      subst r1 r2
      clear HTB HCJ
      have qbp0_1 := (bp_11.now).2 0 _ rfl
      have qbp1_2 := (bp_11.now).2 1 _ rfl
      have qbp2_3 := (bp_11.now).2 2 _ rfl
      have qbt0_4 := (bt_11.now).2 0 _ rfl
      have qbt1_5 := (bt_11.now).2 1 _ rfl
      have qbt2_6 := (bt_11.now).2 2 _ rfl
      go_wp2_with fail
      refine (vTr_same _ _ _ w11 sp_11.now st_11.now).mono ?_
      clear qbp0_1 qbp1_2 qbp2_3 qbt0_4 qbt1_5 qbt2_6
      rintro e w12 ⟨rfl, hb12⟩
      have sb_12 := sb_11.step hb12
      have sc_12 := sc_11.step hb12
      have sh_12 := sh_11.step hb12
      have st_12 := st_11.step hb12
      have bt_12 := bt_11.step hb12
      have sp_12 := sp_11.step hb12
      have bp_12 := bp_11.step hb12
      have cb_12 := cb_11.step hb12
      clear sb_11 sc_11 sh_11 st_11 bt_11 sp_11 bp_11 cb_11 hb12
      go_wp2
      go_meet
      exact ⟨rfl, cb_12.now⟩
  case rest =>
    obtain ⟨rfl, hb12⟩ := hcut
    obtain ⟨w12, hwc12⟩ : ∃ x, x = wc := ⟨wc, rfl⟩
    subst hwc12
    have sb_12 := sb_9.step hb12
    have sc_12 := sc_9.step hb12
    have sh_12 := sh_9.step hb12
    have st_12 := st_9.step hb12
    have bt_12 := bt_9.step hb12
    have sp_12 := sp_9.step hb12
    have bp_12 := bp_9.step hb12
    clear sb_9 sc_9 sh_9 st_9 bt_9 sp_9 bp_9 hb12
    clear HTB HX HY HG HP htz
    clear sp_12 bp_12
    go_upto_region 9 with fail
    go_cut [90] from 84 to 90 (fun c wx => (∃ y : Bool, c = .bool y ∧ (y = true → g = true ∧ 1 < t.xs.length)) ∧ Below w12.heap.size w12 wx)
    case first =>
      have cb13 := St.chain w12
      cases g with
      | false =>
        clear HCJ
        go_wp2
        go_meet
        exact ⟨⟨false, rfl, by simp⟩, cb13.now⟩
      | true =>
        clear HCJ
        have qbt0_1 := (bt_12.now).2 0 _ rfl
        have qbt1_2 := (bt_12.now).2 1 _ rfl
        have qbt2_3 := (bt_12.now).2 2 _ rfl
        by_cases hl9 : 1 < t.xs.length
        · have hl8 : (1 : Int) < (t.xs.length : Int) := by omega
          go_wp2
          go_meet
          exact ⟨⟨true, rfl, (by first | exact fun _ => ⟨rfl, hl9⟩ | exact fun _ => ⟨trivial, hl9⟩ | (simp; omega))⟩, cb13.now⟩
        · have hl8 : ¬ (1 : Int) < (t.xs.length : Int) := by omega
          go_wp2
          go_meet
          exact ⟨⟨false, rfl, by simp⟩, cb13.now⟩
    case rest =>
      obtain ⟨⟨y, rfl, hy⟩, hb14⟩ := hcut
      obtain ⟨w14, hwc14⟩ : ∃ x, x = wc := ⟨wc, rfl⟩
      subst hwc14
      have sb_14 := sb_12.step hb14
      have sc_14 := sc_12.step hb14
      have sh_14 := sh_12.step hb14
      have st_14 := st_12.step hb14
      have bt_14 := bt_12.step hb14
      clear sb_12 sc_12 sh_12 st_12 bt_12 hb14
      go_upto_if 90 with fail
      go_cut [10, 11, 12, 13, 14, 15, 16, 17] from 91 to 142 (fun _ _ _ _ _ _ _ _ wx => Below w14.heap.size w14 wx)
      case first =>
        have cb15 := St.chain w14
        cases y with
        | false =>
          clear HCJ hy
          go_wp2
          go_meet
          exact cb15.now
        | true =>
          obtain ⟨rfl, hlen⟩ := hy rfl
          obtain ⟨k, hk0⟩ : ∃ k : Nat, k = t.xs.length / 2 := ⟨_, rfl⟩
          have hk1 : 1 ≤ k := by omega
          have hk2 : k < t.xs.length := by omega
          have e0 : (t.xs.length : Int).tdiv 2 = (k : Int) := by rw [Int.tdiv_eq_ediv_of_nonneg (by omega)]; omega
          obtain ⟨a, b, ka, ra, kb, rb, kj, rj, na, nb⟩ := HCJ.out rfl hk1 hk2
          have hbd := HBD.out rfl
          clear HCJ hk0 hy
          have H1 := Lib.hid (fun v w' (h : TrL w' w'.heap.size v t) => implCut t v t.start (t.start + (k : Int) - 1) w' _ h (Nat.le_refl _) hn1 (by unfold I64; omega) (by unfold I64; omega))
          rw [ka, ra] at H1
          have H2 := Lib.hid (fun v w' (h : TrL w' w'.heap.size v t) => implCut t v (t.start + (k : Int)) (t.start + (t.xs.length : Int) - 1) w' _ h (Nat.le_refl _) hn1 (by unfold I64; omega) (by unfold I64; omega))
          rw [kb, rb] at H2
          have H3 := Lib.hid (fun va vb w' (h : TrL w' w'.heap.size va a) (h' : TrL w' w'.heap.size vb b) => implJn a va b vb w' _ h h' (Nat.le_refl _) na nb)
          rw [kj, rj] at H3
          clear ka ra kb rb kj rj na nb
          have s1 : IntKind.i64.wrap (t.start + (t.xs.length : Int)) = t.start + (t.xs.length : Int) := IntWalk.i64_in _ (by omega)
          have s2 : IntKind.i64.wrap (t.start + (t.xs.length : Int) - 1) = t.start + (t.xs.length : Int) - 1 := IntWalk.i64_in _ (by omega)
          have s3 : IntKind.i64.wrap (k : Int) = (k : Int) := IntWalk.i64_in _ (by omega)
          have s4 : IntKind.i64.wrap (t.start + (k : Int)) = t.start + (k : Int) := IntWalk.i64_in _ (by omega)
          have s5 : IntKind.i64.wrap (t.start + (k : Int) - 1) = t.start + (k : Int) - 1 := IntWalk.i64_in _ (by omega)
          have qbt0_1 := (bt_14.now).2 0 _ rfl
          have qbt1_2 := (bt_14.now).2 1 _ rfl
          have qbt2_3 := (bt_14.now).2 2 _ rfl
          go_wp2_with fail
          refine (H1.out _ w14 st_14.now).mono ?_
          clear qbt0_1 qbt1_2 qbt2_3
          rintro e w16 ⟨v10, rfl, ho10, hb16⟩
          have sb_16 := sb_14.step hb16
          have sc_16 := sc_14.step hb16
          have sh_16 := sh_14.step hb16
          have st_16 := st_14.step hb16
          have bt_16 := bt_14.step hb16
          have cb_16 := cb15.step hb16
          clear sb_14 sc_14 sh_14 st_14 bt_14 cb15 hb16
          have sa17 := St.tr ho10
          obtain ⟨aov10, capv10, rfl⟩ := ho10.form
          clear ho10
          have N18 := (Below.refl w16.heap.size w16).alloc (Nat.le_refl _) (.cells #[.int .i64 a.st, .int .i64 a.start, .slice aov10 a.xs.length capv10] 26)
          have ba18 := St.bx (Bx.new w16 [.int .i64 a.st, .int .i64 a.start, .slice aov10 a.xs.length capv10] 26)
          have sb_18 := sb_16.step N18
          have sc_18 := sc_16.step N18
          have sh_18 := sh_16.step N18
          have st_18 := st_16.step N18
          have bt_18 := bt_16.step N18
          have cb_18 := cb_16.step N18
          have sa_18 := sa17.step N18
          clear sb_16 sc_16 sh_16 st_16 bt_16 cb_16 sa17 N18
          have qbt0_4 := (bt_18.now).2 0 _ rfl
          have qbt1_5 := (bt_18.now).2 1 _ rfl
          have qbt2_6 := (bt_18.now).2 2 _ rfl
          go_wp2_with fail
          refine (H2.out _ (w16.alloc (.cells #[.int .i64 a.st, .int .i64 a.start, .slice aov10 a.xs.length capv10] 26)) st_18.now).mono ?_
          clear qbt0_4 qbt1_5 qbt2_6
          rintro e w19 ⟨v11, rfl, ho11, hb19⟩
          have sb_19 := sb_18.step hb19
          have sc_19 := sc_18.step hb19
          have sh_19 := sh_18.step hb19
          have st_19 := st_18.step hb19
          have bt_19 := bt_18.step hb19
          have cb_19 := cb_18.step hb19
          have sa_19 := sa_18.step hb19
          have ba_19 := ba18.step hb19
          clear sb_18 sc_18 sh_18 st_18 bt_18 cb_18 sa_18 ba18 hb19
          have sd20 := St.tr ho11
          obtain ⟨aov11, capv11, rfl⟩ := ho11.form
          clear ho11
          have N21 := (Below.refl w19.heap.size w19).alloc (Nat.le_refl _) (.cells #[.int .i64 b.st, .int .i64 b.start, .slice aov11 b.xs.length capv11] 26)
          have bd21 := St.bx (Bx.new w19 [.int .i64 b.st, .int .i64 b.start, .slice aov11 b.xs.length capv11] 26)
          have sb_21 := sb_19.step N21
          have sc_21 := sc_19.step N21
          have sh_21 := sh_19.step N21
          have st_21 := st_19.step N21
          have bt_21 := bt_19.step N21
          have cb_21 := cb_19.step N21
          have sa_21 := sa_19.step N21
          have ba_21 := ba_19.step N21
          have sd_21 := sd20.step N21
          clear sb_19 sc_19 sh_19 st_19 bt_19 cb_19 sa_19 ba_19 sd20 N21
          have qba0_7 := (ba_21.now).2 0 _ rfl
          have qba1_8 := (ba_21.now).2 1 _ rfl
          have qba2_9 := (ba_21.now).2 2 _ rfl
          have qbd0_10 := (bd21.now).2 0 _ rfl
          have qbd1_11 := (bd21.now).2 1 _ rfl
          have qbd2_12 := (bd21.now).2 2 _ rfl
          go_wp2_with fail
          refine (H3.out _ _ (w19.alloc (.cells #[.int .i64 b.st, .int .i64 b.start, .slice aov11 b.xs.length capv11] 26)) sa_21.now sd_21.now).mono ?_
          clear qba0_7 qba1_8 qba2_9 qbd0_10 qbd1_11 qbd2_12
          rintro e w22 ⟨v12, rfl, ho12, hb22⟩
          have sb_22 := sb_21.step hb22
          have sc_22 := sc_21.step hb22
          have sh_22 := sh_21.step hb22
          have st_22 := st_21.step hb22
          have bt_22 := bt_21.step hb22
          have cb_22 := cb_21.step hb22
          have sa_22 := sa_21.step hb22
          have ba_22 := ba_21.step hb22
          have sd_22 := sd_21.step hb22
          have bd_22 := bd21.step hb22
          clear sb_21 sc_21 sh_21 st_21 bt_21 cb_21 sa_21 ba_21 sd_21 bd21 hb22
          have sw23 := St.tr ho12
          obtain ⟨aov12, capv12, rfl⟩ := ho12.form
          clear ho12
          have N24 := (Below.refl w22.heap.size w22).alloc (Nat.le_refl _) (.cells #[.int .i64 t.st, .int .i64 t.start, .slice aov12 t.xs.length capv12] 26)
          have bw24 := St.bx (Bx.new w22 [.int .i64 t.st, .int .i64 t.start, .slice aov12 t.xs.length capv12] 26)
          have sb_24 := sb_22.step N24
          have sc_24 := sc_22.step N24
          have sh_24 := sh_22.step N24
          have st_24 := st_22.step N24
          have bt_24 := bt_22.step N24
          have cb_24 := cb_22.step N24
          have sa_24 := sa_22.step N24
          have ba_24 := ba_22.step N24
          have sd_24 := sd_22.step N24
          have bd_24 := bd_22.step N24
          have sw_24 := sw23.step N24
          clear sb_22 sc_22 sh_22 st_22 bt_22 cb_22 sa_22 ba_22 sd_22 bd_22 sw23 N24
          have qbw0_13 := (bw24.now).2 0 _ rfl
          have qbw1_14 := (bw24.now).2 1 _ rfl
          have qbw2_15 := (bw24.now).2 2 _ rfl
          have qbt0_16 := (bt_24.now).2 0 _ rfl
          have qbt1_17 := (bt_24.now).2 1 _ rfl
          have qbt2_18 := (bt_24.now).2 2 _ rfl
          go_wp2_with fail
          refine (vTr_same t _ _ (w22.alloc (.cells #[.int .i64 t.st, .int .i64 t.start, .slice aov12 t.xs.length capv12] 26)) sw_24.now st_24.now).mono ?_
          clear qbw0_13 qbw1_14 qbw2_15 qbt0_16 qbt1_17 qbt2_18
          rintro e w25 ⟨rfl, hb25⟩
          have sb_25 := sb_24.step hb25
          have sc_25 := sc_24.step hb25
          have sh_25 := sh_24.step hb25
          have st_25 := st_24.step hb25
          have bt_25 := bt_24.step hb25
          have cb_25 := cb_24.step hb25
          have sa_25 := sa_24.step hb25
          have ba_25 := ba_24.step hb25
          have sd_25 := sd_24.step hb25
          have bd_25 := bd_24.step hb25
          have sw_25 := sw_24.step hb25
          have bw_25 := bw24.step hb25
          clear sb_24 sc_24 sh_24 st_24 bt_24 cb_24 sa_24 ba_24 sd_24 bd_24 sw_24 bw24 hb25
          go_wp2
          go_meet
          exact cb_25.now
      case rest =>
        have hb16 := hcut
        clear hcut
        obtain ⟨w16, hwc16⟩ : ∃ x, x = wc := ⟨wc, rfl⟩
        subst hwc16
        have sb_16 := sb_14.step hb16
        have sc_16 := sc_14.step hb16
        have sh_16 := sh_14.step hb16
        have st_16 := st_14.step hb16
        have bt_16 := bt_14.step hb16
        clear sb_14 sc_14 sh_14 st_14 bt_14 hb16
        clear HCJ hy HBD hn1 hl1
        clear st_16 bt_16
        go_wp2_with fail
        refine (drawPT w16 _ _ sc_16.now).mono ?_
        rintro e w17 ⟨s, rfl, hss, hb17⟩
        have sb_17 := sb_16.step hb17
        have sc_17 := sc_16.step hb17
        have sh_17 := sh_16.step hb17
        clear sb_16 sc_16 sh_16 hb17
        have HQ := Lib.hid (fun h => parse_back (s := s) h)
        have hzs : s.size ≤ 1048576 := by omega
        have HP := Lib.hid (fun w' (q : Holds w') => implPT s w' hzs q.pow q.max q.syn q.ran)
        have HS := Lib.hid (fun w' => specPT s w' hzs)
        have hpl := resPT_lenT s
        generalize okPT s = k2 at *
        generalize resPT s = x at *
        go_wp2_with fail
        refine (HP.out w17 (sh_17.now)).mono ?_
        rintro e w18 ⟨v3, rfl, ho3, hb18⟩
        have sb_18 := sb_17.step hb18
        have sc_18 := sc_17.step hb18
        have sh_18 := sh_17.step hb18
        clear sb_17 sc_17 sh_17 hb18
        have sx19 := St.tr ho3
        obtain ⟨aov3, capv3, rfl⟩ := ho3.form
        clear ho3
        have N20 := (Below.refl w18.heap.size w18).alloc (Nat.le_refl _) (.cells #[.int .i64 x.st, .int .i64 x.start, .slice aov3 x.xs.length capv3] 26)
        have bx20 := St.bx (Bx.new w18 [.int .i64 x.st, .int .i64 x.start, .slice aov3 x.xs.length capv3] 26)
        have sb_20 := sb_18.step N20
        have sc_20 := sc_18.step N20
        have sh_20 := sh_18.step N20
        have sx_20 := sx19.step N20
        clear sb_18 sc_18 sh_18 sx19 N20
        have HX := Lib.hid (fun v w' (h : TrL w' w'.heap.size v x) (q : Pow10 w') => implTx x v w' _ q h (Nat.le_refl _) (by omega))
        generalize goodT x = g2 at *
        generalize resTx x = ag at *
        have qbx0_7 := (bx20.now).2 0 _ rfl
        have qbx1_8 := (bx20.now).2 1 _ rfl
        have qbx2_9 := (bx20.now).2 2 _ rfl
        go_wp2_with fail
        refine (HX.out _ (w18.alloc (.cells #[.int .i64 x.st, .int .i64 x.start, .slice aov3 x.xs.length capv3] 26)) sx_20.now sh_20.now.pow).mono ?_
        clear qbx0_7 qbx1_8 qbx2_9
        rintro e w21 ⟨rfl, hb21⟩
        have sb_21 := sb_20.step hb21
        have sc_21 := sc_20.step hb21
        have sh_21 := sh_20.step hb21
        have sx_21 := sx_20.step hb21
        have bx_21 := bx20.step hb21
        clear sb_20 sc_20 sh_20 sx_20 bx20 hb21
        go_wp2_with fail
        refine (HS.out w21).mono ?_
        rintro e w22 ⟨v4, rfl, ho4, hb22⟩
        have sb_22 := sb_21.step hb22
        have sc_22 := sc_21.step hb22
        have sh_22 := sh_21.step hb22
        have sx_22 := sx_21.step hb22
        have bx_22 := bx_21.step hb22
        clear sb_21 sc_21 sh_21 sx_21 bx_21 hb22
        have sy23 := St.tr ho4
        obtain ⟨aov4, capv4, rfl⟩ := ho4.form
        clear ho4
        have N24 := (Below.refl w22.heap.size w22).alloc (Nat.le_refl _) (.cells #[.int .i64 x.st, .int .i64 x.start, .slice aov4 x.xs.length capv4] 26)
        have by24 := St.bx (Bx.new w22 [.int .i64 x.st, .int .i64 x.start, .slice aov4 x.xs.length capv4] 26)
        have sb_24 := sb_22.step N24
        have sc_24 := sc_22.step N24
        have sh_24 := sh_22.step N24
        have sx_24 := sx_22.step N24
        have bx_24 := bx_22.step N24
        have sy_24 := sy23.step N24
        clear sb_22 sc_22 sh_22 sx_22 bx_22 sy23 N24
        go_upto_region 21 with fail
        go_cut [180] from 160 to 180 (fun c wx => c = .bool false ∧ Below (w22.alloc (.cells #[.int .i64 x.st, .int .i64 x.start, .slice aov4 x.xs.length capv4] 26)).heap.size (w22.alloc (.cells #[.int .i64 x.st, .int .i64 x.start, .slice aov4 x.xs.length capv4] 26)) wx)
        case first =>
          have cb25 := St.chain (w22.alloc (.cells #[.int .i64 x.st, .int .i64 x.start, .slice aov4 x.xs.length capv4] 26))
          have qbx0_1 := (bx_24.now).2 0 _ rfl
          have qbx1_2 := (bx_24.now).2 1 _ rfl
          have qbx2_3 := (bx_24.now).2 2 _ rfl
          have qby0_4 := (by24.now).2 0 _ rfl
          have qby1_5 := (by24.now).2 1 _ rfl
          have qby2_6 := (by24.now).2 2 _ rfl
          go_wp2_with fail
          refine (vTr_same x _ _ (w22.alloc (.cells #[.int .i64 x.st, .int .i64 x.start, .slice aov4 x.xs.length capv4] 26)) sx_24.now sy_24.now).mono ?_
          clear qbx0_1 qbx1_2 qbx2_3 qby0_4 qby1_5 qby2_6
          rintro e w26 ⟨rfl, hb26⟩
          have sb_26 := sb_24.step hb26
          have sc_26 := sc_24.step hb26
          have sh_26 := sh_24.step hb26
          have sx_26 := sx_24.step hb26
          have bx_26 := bx_24.step hb26
          have sy_26 := sy_24.step hb26
          have by_26 := by24.step hb26
          have cb_26 := cb25.step hb26
          clear sb_24 sc_24 sh_24 sx_24 bx_24 sy_24 by24 cb25 hb26
          cases k2 with
          | false =>
            clear HQ
            go_wp2
            go_meet
            exact ⟨rfl, cb_26.now⟩
          | true =>
            obtain ⟨r1, r2⟩ := HQ.out rfl
            subst r1 r2
            clear HQ
            go_wp2
            go_meet
            exact ⟨rfl, cb_26.now⟩
        case rest =>
          obtain ⟨rfl, hb27⟩ := hcut
          obtain ⟨w27, hwc27⟩ : ∃ x, x = wc := ⟨wc, rfl⟩
          subst hwc27
          have sb_27 := sb_24.step hb27
          have sc_27 := sc_24.step hb27
          have sh_27 := sh_24.step hb27
          have sx_27 := sx_24.step hb27
          have bx_27 := bx_24.step hb27
          have sy_27 := sy_24.step hb27
          have by_27 := by24.step hb27
          clear sb_24 sc_24 sh_24 sx_24 bx_24 sy_24 by24 hb27
          clear HQ HP HS HX hpl hzs hss
          clear sx_27 sy_27 bx_27 by_27 sh_27
          go_upto_region 23 with fail
          go_wp2_with fail
          refine (drawCut w27 _ _ sc_27.now).mono ?_
          rintro e w28 ⟨v5, y5, l5, m5, rfl, ⟨hl50, hl51⟩, ⟨hm50, hm51⟩, hl5, ho5, hb28⟩
          have sb_28 := sb_27.step hb28
          have sc_28 := sc_27.step hb28
          clear sb_27 sc_27 hb28
          have sz29 := St.tr ho5
          obtain ⟨aov5, capv5, rfl⟩ := ho5.form
          clear ho5
          have hn5 : y5.xs.length ≤ 1048576 := by omega
          have hIl : I64 l5 := by unfold I64; omega
          have hIm : I64 m5 := by unfold I64; omega
          have N30 := (Below.refl w28.heap.size w28).alloc (Nat.le_refl _) (.cells #[.int .i64 y5.st, .int .i64 y5.start, .slice aov5 y5.xs.length capv5] 26)
          have bz30 := St.bx (Bx.new w28 [.int .i64 y5.st, .int .i64 y5.start, .slice aov5 y5.xs.length capv5] 26)
          have sb_30 := sb_28.step N30
          have sc_30 := sc_28.step N30
          have sz_30 := sz29.step N30
          clear sb_28 sc_28 sz29 N30
          have H1 := Lib.hid (fun v w' (h : TrL w' w'.heap.size v y5) => implCut y5 v l5 m5 w' _ h (Nat.le_refl _) hn5 hIl hIm)
          have H2 := Lib.hid (fun v w' (h : TrL w' w'.heap.size v y5) => specCut y5 v l5 m5 w' _ h (Nat.le_refl _) hn5 hIl hIm)
          generalize okCut y5 l5 m5 = k5 at *
          generalize resCut y5 l5 m5 = c5 at *
          clear hIl hIm hn5 hl50 hl51 hm50 hm51
          have qbz0_10 := (bz30.now).2 0 _ rfl
          have qbz1_11 := (bz30.now).2 1 _ rfl
          have qbz2_12 := (bz30.now).2 2 _ rfl
          go_wp2_with fail
          refine (H1.out _ (w28.alloc (.cells #[.int .i64 y5.st, .int .i64 y5.start, .slice aov5 y5.xs.length capv5] 26)) sz_30.now).mono ?_
          clear qbz0_10 qbz1_11 qbz2_12
          rintro e w31 ⟨v6, rfl, ho6, hb31⟩
          have sb_31 := sb_30.step hb31
          have sc_31 := sc_30.step hb31
          have sz_31 := sz_30.step hb31
          have bz_31 := bz30.step hb31
          clear sb_30 sc_30 sz_30 bz30 hb31
          have sp32 := St.tr ho6
          obtain ⟨aov6, capv6, rfl⟩ := ho6.form
          clear ho6
          have N33 := (Below.refl w31.heap.size w31).alloc (Nat.le_refl _) (.cells #[.int .i64 c5.st, .int .i64 c5.start, .slice aov6 c5.xs.length capv6] 26)
          have bp33 := St.bx (Bx.new w31 [.int .i64 c5.st, .int .i64 c5.start, .slice aov6 c5.xs.length capv6] 26)
          have sb_33 := sb_31.step N33
          have sc_33 := sc_31.step N33
          have sz_33 := sz_31.step N33
          have bz_33 := bz_31.step N33
          have sp_33 := sp32.step N33
          clear sb_31 sc_31 sz_31 bz_31 sp32 N33
          have qbz0_13 := (bz_33.now).2 0 _ rfl
          have qbz1_14 := (bz_33.now).2 1 _ rfl
          have qbz2_15 := (bz_33.now).2 2 _ rfl
          go_wp2_with fail
          refine (H2.out _ (w31.alloc (.cells #[.int .i64 c5.st, .int .i64 c5.start, .slice aov6 c5.xs.length capv6] 26)) sz_33.now).mono ?_
          clear qbz0_13 qbz1_14 qbz2_15
          rintro e w34 ⟨v7, rfl, ho7, hb34⟩
          have sb_34 := sb_33.step hb34
          have sc_34 := sc_33.step hb34
          have sz_34 := sz_33.step hb34
          have bz_34 := bz_33.step hb34
          have sp_34 := sp_33.step hb34
          have bp_34 := bp33.step hb34
          clear sb_33 sc_33 sz_33 bz_33 sp_33 bp33 hb34
          have sq35 := St.tr ho7
          obtain ⟨aov7, capv7, rfl⟩ := ho7.form
          clear ho7
          have N36 := (Below.refl w34.heap.size w34).alloc (Nat.le_refl _) (.cells #[.int .i64 c5.st, .int .i64 c5.start, .slice aov7 c5.xs.length capv7] 26)
          have bq36 := St.bx (Bx.new w34 [.int .i64 c5.st, .int .i64 c5.start, .slice aov7 c5.xs.length capv7] 26)
          have sb_36 := sb_34.step N36
          have sc_36 := sc_34.step N36
          have sz_36 := sz_34.step N36
          have bz_36 := bz_34.step N36
          have sp_36 := sp_34.step N36
          have bp_36 := bp_34.step N36
          have sq_36 := sq35.step N36
          clear sb_34 sc_34 sz_34 bz_34 sp_34 bp_34 sq35 N36
          have qbp0_16 := (bp_36.now).2 0 _ rfl
          have qbp1_17 := (bp_36.now).2 1 _ rfl
          have qbp2_18 := (bp_36.now).2 2 _ rfl
          have qbq0_19 := (bq36.now).2 0 _ rfl
          have qbq1_20 := (bq36.now).2 1 _ rfl
          have qbq2_21 := (bq36.now).2 2 _ rfl
          go_wp2_with fail
          refine (vTr_same c5 _ _ (w34.alloc (.cells #[.int .i64 c5.st, .int .i64 c5.start, .slice aov7 c5.xs.length capv7] 26)) sp_36.now sq_36.now).mono ?_
          clear qbp0_16 qbp1_17 qbp2_18 qbq0_19 qbq1_20 qbq2_21
          rintro e w37 ⟨rfl, hb37⟩
          have sb_37 := sb_36.step hb37
          have sc_37 := sc_36.step hb37
          have sz_37 := sz_36.step hb37
          have bz_37 := bz_36.step hb37
          have sp_37 := sp_36.step hb37
          have bp_37 := bp_36.step hb37
          have sq_37 := sq_36.step hb37
          have bq_37 := bq36.step hb37
          clear sb_36 sc_36 sz_36 bz_36 sp_36 bp_36 sq_36 bq36 hb37
          clear H1 H2
          clear sp_37 sq_37 bp_37 bq_37 sz_37 bz_37
          go_wp2_with fail
          refine (drawJoin w37 _ _ sc_37.now).mono ?_
          rintro e w38 ⟨v8, v9, p, q, rfl, hl8, hl9, ho8, ho9, hb38⟩
          have sb_38 := sb_37.step hb38
          have sc_38 := sc_37.step hb38
          clear sb_37 sc_37 hb38
          clear sc_38
          have sp39 := St.tr ho8
          have sq40 := St.tr ho9
          obtain ⟨aov8, capv8, rfl⟩ := ho8.form
          obtain ⟨aov9, capv9, rfl⟩ := ho9.form
          clear ho8 ho9
          have N41 := ((Below.refl w38.heap.size w38).alloc (Nat.le_refl _) (.cells #[.int .i64 p.st, .int .i64 p.start, .slice aov8 p.xs.length capv8] 26)).alloc (by simp) (.cells #[.int .i64 q.st, .int .i64 q.start, .slice aov9 q.xs.length capv9] 26)
          have bp41 := St.bx ((Bx.new w38 [.int .i64 p.st, .int .i64 p.start, .slice aov8 p.xs.length capv8] 26).alloc (.cells #[.int .i64 q.st, .int .i64 q.start, .slice aov9 q.xs.length capv9] 26))
          have bq41 := St.bx (Bx.new1 w38 (.cells #[.int .i64 p.st, .int .i64 p.start, .slice aov8 p.xs.length capv8] 26) [.int .i64 q.st, .int .i64 q.start, .slice aov9 q.xs.length capv9] 26)
          have sb_41 := sb_38.step N41
          have sp_41 := sp39.step N41
          have sq_41 := sq40.step N41
          clear sb_38 sp39 sq40 N41
          have H1 := Lib.hid (fun va vb w' (h : TrL w' w'.heap.size va p) (h' : TrL w' w'.heap.size vb q) => implJn p va q vb w' _ h h' (Nat.le_refl _) (by omega) (by omega))
          have H2 := Lib.hid (fun va vb w' (h : TrL w' w'.heap.size va p) (h' : TrL w' w'.heap.size vb q) => specJn p va q vb w' _ h h' (Nat.le_refl _) (by omega) (by omega))
          generalize okJn p q = kj at *
          generalize resJn p q = jj at *
          have qbp0_22 := (bp41.now).2 0 _ rfl
          have qbp1_23 := (bp41.now).2 1 _ rfl
          have qbp2_24 := (bp41.now).2 2 _ rfl
          have qbq0_25 := (bq41.now).2 0 _ rfl
          have qbq1_26 := (bq41.now).2 1 _ rfl
          have qbq2_27 := (bq41.now).2 2 _ rfl
          go_wp2_with fail
          refine (H1.out _ _ ((w38.alloc (.cells #[.int .i64 p.st, .int .i64 p.start, .slice aov8 p.xs.length capv8] 26)).alloc (.cells #[.int .i64 q.st, .int .i64 q.start, .slice aov9 q.xs.length capv9] 26)) sp_41.now sq_41.now).mono ?_
          clear qbp0_22 qbp1_23 qbp2_24 qbq0_25 qbq1_26 qbq2_27
          rintro e w42 ⟨v13, rfl, ho13, hb42⟩
          have sb_42 := sb_41.step hb42
          have sp_42 := sp_41.step hb42
          have sq_42 := sq_41.step hb42
          have bp_42 := bp41.step hb42
          have bq_42 := bq41.step hb42
          clear sb_41 sp_41 sq_41 bp41 bq41 hb42
          have sr43 := St.tr ho13
          obtain ⟨aov13, capv13, rfl⟩ := ho13.form
          clear ho13
          have N44 := (Below.refl w42.heap.size w42).alloc (Nat.le_refl _) (.cells #[.int .i64 jj.st, .int .i64 jj.start, .slice aov13 jj.xs.length capv13] 26)
          have br44 := St.bx (Bx.new w42 [.int .i64 jj.st, .int .i64 jj.start, .slice aov13 jj.xs.length capv13] 26)
          have sb_44 := sb_42.step N44
          have sp_44 := sp_42.step N44
          have sq_44 := sq_42.step N44
          have bp_44 := bp_42.step N44
          have bq_44 := bq_42.step N44
          have sr_44 := sr43.step N44
          clear sb_42 sp_42 sq_42 bp_42 bq_42 sr43 N44
          have qbp0_28 := (bp_44.now).2 0 _ rfl
          have qbp1_29 := (bp_44.now).2 1 _ rfl
          have qbp2_30 := (bp_44.now).2 2 _ rfl
          have qbq0_31 := (bq_44.now).2 0 _ rfl
          have qbq1_32 := (bq_44.now).2 1 _ rfl
          have qbq2_33 := (bq_44.now).2 2 _ rfl
          go_wp2_with fail
          refine (H2.out _ _ (w42.alloc (.cells #[.int .i64 jj.st, .int .i64 jj.start, .slice aov13 jj.xs.length capv13] 26)) sp_44.now sq_44.now).mono ?_
          clear qbp0_28 qbp1_29 qbp2_30 qbq0_31 qbq1_32 qbq2_33
          rintro e w45 ⟨v14, rfl, ho14, hb45⟩
          have sb_45 := sb_44.step hb45
          have sp_45 := sp_44.step hb45
          have sq_45 := sq_44.step hb45
          have bp_45 := bp_44.step hb45
          have bq_45 := bq_44.step hb45
          have sr_45 := sr_44.step hb45
          have br_45 := br44.step hb45
          clear sb_44 sp_44 sq_44 bp_44 bq_44 sr_44 br44 hb45
          have ss46 := St.tr ho14
          obtain ⟨aov14, capv14, rfl⟩ := ho14.form
          clear ho14
          have N47 := (Below.refl w45.heap.size w45).alloc (Nat.le_refl _) (.cells #[.int .i64 jj.st, .int .i64 jj.start, .slice aov14 jj.xs.length capv14] 26)
          have bs47 := St.bx (Bx.new w45 [.int .i64 jj.st, .int .i64 jj.start, .slice aov14 jj.xs.length capv14] 26)
          have sb_47 := sb_45.step N47
          have sp_47 := sp_45.step N47
          have sq_47 := sq_45.step N47
          have bp_47 := bp_45.step N47
          have bq_47 := bq_45.step N47
          have sr_47 := sr_45.step N47
          have br_47 := br_45.step N47
          have ss_47 := ss46.step N47
          clear sb_45 sp_45 sq_45 bp_45 bq_45 sr_45 br_45 ss46 N47
          have qbr0_34 := (br_47.now).2 0 _ rfl
          have qbr1_35 := (br_47.now).2 1 _ rfl
          have qbr2_36 := (br_47.now).2 2 _ rfl
          have qbs0_37 := (bs47.now).2 0 _ rfl
          have qbs1_38 := (bs47.now).2 1 _ rfl
          have qbs2_39 := (bs47.now).2 2 _ rfl
          go_wp2_with fail
          refine (vTr_same jj _ _ (w45.alloc (.cells #[.int .i64 jj.st, .int .i64 jj.start, .slice aov14 jj.xs.length capv14] 26)) sr_47.now ss_47.now).mono ?_
          clear qbr0_34 qbr1_35 qbr2_36 qbs0_37 qbs1_38 qbs2_39
          rintro e w48 ⟨rfl, hb48⟩
          have sb_48 := sb_47.step hb48
          have sp_48 := sp_47.step hb48
          have sq_48 := sq_47.step hb48
          have bp_48 := bp_47.step hb48
          have bq_48 := bq_47.step hb48
          have sr_48 := sr_47.step hb48
          have br_48 := br_47.step hb48
          have ss_48 := ss_47.step hb48
          have bs_48 := bs47.step hb48
          clear sb_47 sp_47 sq_47 bp_47 bq_47 sr_47 br_47 ss_47 bs47 hb48
          go_wp2
          go_ret
          exact ⟨by first | rfl | exact ret_bool (by simp), sb_48.now⟩
set_option maxRecDepth 100000 in
set_option maxHeartbeats 2000000 in
theorem walk_all (v : Value) {H : Type} {enc : TypeId × Value → H} {base : Nat} {d : DataW H} {ps : List MemPlace} {w : World} (hval : Value.okWide Tryd.prog w .any base 22 v)
    (hd : DataW.Trod enc Tryd.prog w 0 (fun _ => true) true 22 v d ps) (hL : laidMetH Tryd.prog Rows.fnTracesRow.laid w) (hS : w.ShapedOpen Tryd.prog) :
    Calls Tryd.prog 3 #[v] w fun e w' => e = .returned (.bool true) ∧ Below w.heap.size w w' := by
  obtain ⟨ao, n, cap, rfl, hn, hc⟩ := open_code Tryd.underlying22 Tryd.underlying5 (by kernel_rfl) hval hd
  have HH : Holds w := ⟨pow10_of hL (by rfl), errAt_of hL (by rfl) (by exact fun h => h) gS gST, errAt_of hL (by rfl) (by exact fun h => h) gR gRT, Tryd.laysM145.s1_3 w hS⟩
  by_cases h : n ≤ 65536
  · exact walk_main ao n cap w h hc (Lib.hid HH)
  · have hi : (65536 : Int) < n := by omega
    clear hL hS HH
    go_enter Tryd.func3, Tryd.ntmps3
    go_wp2_with fail
    refine (vBig_yes n cap ao _ hi).mono ?_
    rintro e w0 ⟨rfl, hw⟩
    obtain rfl := hw.symm
    go_wp2
    go_ret
    exact ⟨rfl, Below.refl _ _⟩

noncomputable def laidWorld (os : Os) : World := holdingAll os Rows.fnTracesRow.laid

set_option maxRecDepth 100000 in
set_option maxHeartbeats 2000000 in
theorem contract (H : Type) (enc : TypeId × Value → H) (W : World) (base : Nat) (args : Array Value) (ds gs : List (DataW H)) (before : List MemPlace)
    (hval : ∀ (j : Nat) t v, Tryd.f3.params[j]? = some t → args[j]? = some v → Value.okWide Tryd.prog W .any base t v)
    (hW : DataW.Whole enc Tryd.prog Tryd.f3.params.toList Rows.fnTracesSpec.vars false W args.toList ds gs before) (hL : laidMetH Tryd.prog Rows.fnTracesRow.laid W) (hS : W.ShapedOpen Tryd.prog) :
    Calls Tryd.prog 3 args W fun e W' => ∃ v, e = .returned v ∧ Rows.fnTracesSpec.post enc Tryd.prog Tryd.f3 false true false false W args v W' := by
  have hW' := hW
  obtain ⟨p, q, hA0, hV, rfl, hfz, hnd⟩ := hW
  have hA : DataW.TrodAll enc Tryd.prog W 0 (fun _ => true) true Tryd.f3.params.toList args.toList ds p := hA0
  rw [Tryd.params3] at hA hval
  obtain ⟨v0, vs0, d0, ds0, p0, q0, hargs, rfl, rfl, h0, r0⟩ := trodAll_cons hA
  obtain ⟨rfl, rfl, rfl⟩ := trodAll_nil r0
  obtain rfl : args = #[v0] := by cases args; simp_all
  refine lawPost rfl rfl Tryd.underlying4 (by kernel_rfl) (by kernel_rfl) hW' (fun hg => by subst hg; exact ⟨rfl, rfl, rfl⟩) ?_
  exact walk_all v0 (hval 0 22 v0 rfl rfl) h0 hL hS

set_option maxRecDepth 100000 in
set_option maxHeartbeats 2000000 in
theorem laid_met (os : Os) : laidMet Tryd.prog Rows.fnTracesRow.laid ((laidWorld os).forCall (fun _ _ => 0) ⟨#[], #[.slice none 0 0], []⟩).memory :=
  laidMet_of_run' 8 (by kernel_rfl) (by kernel_rfl)
set_option maxRecDepth 100000 in
set_option maxHeartbeats 2000000 in
theorem reads (os : Os) {H : Type} (enc : TypeId × Value → H) : ∃ places, DataW.whole enc Tryd.prog ((laidWorld os).forCall (fun _ _ => 0) ⟨#[], #[.slice none 0 0], []⟩).memory Tryd.f3.params.toList Rows.fnTracesSpec.vars false #[.slice none 0 0].toList 8 = some ([.nil], [], places) :=
  ⟨[], by kernel_rfl⟩

set_option maxRecDepth 100000 in
set_option maxHeartbeats 2000000 in
theorem lifted (os : Os) (started : os.Started) (H : Type) (enc : TypeId × Value → H) (F : Stop.Interp) :
    ReturnsInHanded {} Tryd.checked os 3 .any ((OpenSpec.ofChange Rows.fnTracesSpec).preRow enc Tryd.prog Tryd.f3 Rows.fnTracesRow.domain false Rows.fnTracesRow.laid) (((OpenSpec.ofChange Rows.fnTracesSpec).at F).post enc Tryd.prog Tryd.f3 false true false false) := by
  obtain ⟨places, hx⟩ := reads os enc
  refine returnsInHanded_of_row (C := Tryd.checked) (s := OpenSpec.ofChange Rows.fnTracesSpec) own started (by kernel_rfl) Tryd.func3
    (witness_row_at (enc := enc) (C := Tryd.checked) false (laidWorld os) #[.slice none 0 0] rfl (by kernel_rfl) (by kernel_rfl) (by kernel_rfl)
      (OpenSpec.preRow_of_cond 8 hx (by kernel_rfl) (fun k hk => by cases hk) (by kernel_rfl) (laid_met os))) ?_
  intro W base args ds gs before hval hW _ _ _ hL hS _
  exact contract H enc W base args ds gs before hval hW hL hS

set_option maxRecDepth 100000 in
set_option maxHeartbeats 2000000 in
theorem said : Rows.FnTracesSaid :=
  OpenClaim.holds_of_cond 3 Tryd.f3 rfl rfl rfl rfl rfl rfl rfl ⟨rfl, rfl, rfl, rfl, rfl⟩ rfl rfl rfl rfl rfl (by kernel_rfl) Tryd.func3 (by kernel_rfl)
    (of_decide_eq_true (by kernel_rfl)) (by unfold Func.isWrapper; first | (rw [if_pos (by decide +kernel)]; kernel_rfl) | (rw [if_neg (by decide +kernel)]; exact ⟨rfl, rfl⟩))
    (fun os started H enc _ F => by rw [OpenClaim.pre_eq_preRow]; exact lifted os started H enc F)

set_option maxRecDepth 100000 in
set_option maxHeartbeats 2000000 in
theorem plain (f : FuncId) (fn : Func) (hf : Tryd.pinned.checked.prog.funcNamed Rows.fnTracesRow.func = some f) (hfn : Tryd.pinned.checked.prog.funcs[f]? = some fn) :
    true = Tryd.pinned.checked.prog.looks [] ∧ ∀ (j : Nat) t, fn.params[j]? = some t → Tryd.pinned.checked.prog.wantsStandIn t = false := by
  obtain rfl : f = 3 := Option.some.inj ((show Tryd.prog.funcNamed Rows.fnTracesRow.func = some 3 by kernel_rfl).symm.trans hf) |>.symm
  obtain rfl : fn = Tryd.f3 := (Option.some.inj (Tryd.func3.symm.trans hfn)).symm
  refine ⟨by kernel_rfl, fun j t ht => ?_⟩
  have hall : Tryd.f3.params.toList.all (fun t => Tryd.prog.wantsStandIn t == false) = true := by kernel_rfl
  have hm : t ∈ Tryd.f3.params.toList := by simpa using Array.mem_of_getElem? ht
  exact eq_of_beq (List.all_eq_true.1 hall t hm)

set_option maxRecDepth 100000 in
set_option maxHeartbeats 2000000 in
theorem card : Rows.FnTracesCardSaid :=
  Claim7.holds_tied_plain_at .later [] _ _ _ _ said (fun _ h => by cases h) (by kernel_rfl) (fun _ h => by cases h) fnTraces_row_tie rfl ⟨rfl, rfl⟩ (by kernel_rfl) rfl plain (by kernel_rfl)

end Go.Proofs.YtedngmnjpkhbiaaDoor.fnTraces
