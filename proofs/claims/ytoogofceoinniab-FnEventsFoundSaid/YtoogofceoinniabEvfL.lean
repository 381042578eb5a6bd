/- FnEventsFound: for every code the law answers true; no condition. -/
import Derived.Test.YtoogofceoinniabVdC
import Derived.Test.YtoogofceoinniabRv
import Derived.Test.YtoogofceoinniabVeQ
import Derived.Test.YtoogofceoinniabVpL
import Derived.Test.YtoogofceoinniabVpJ
import Derived.Test.YtoogofceoinniabVpN
import Derived.Test.YtoogofceoinniabVpG
import Derived.Test.YtoogofceoinniabVoH
import Derived.Test.YtoogofceoinniabVoF
import Derived.Test.YtoogofceoinniabVoI
import Derived.Test.YtoogofceoinniabVoG
import Derived.Test.YtoogofceoinniabVi
import Derived.Deep.CutBlock
import Derived.Deep.CutRange
import Derived.Deep.DeepCutAuto
namespace Go.Proofs.Ytoogofceoinniab.fnEventsFound
open Go.ChangeShapes Go.WideShapes Go.ChangeAt Go.RowKit Go.ChangeMaps
set_option linter.unusedSimpArgs false
set_option linter.unusedVariables false

theorem own : ownKnob Try.prog.godebug = none := by kernel_rfl

theorem St.arr {w : World} {v : Value} {xs : List GArrival} (h : ArrivalL w w.heap.size v xs) : St w (fun w' => ArrivalL w' w'.heap.size v xs) := fun w' hb => (h.below hb).mono hb.size
theorem St.org {w : World} {v : Value} {xs : List GOrigin} (h : OriginL w w.heap.size v xs) : St w (fun w' => OriginL w' w'.heap.size v xs) := fun w' hb => (h.below hb).mono hb.size
theorem St.bx {w : World} {b : Nat} {cs : List Value} (h : Bx w b cs) : St w (fun w' => Bx w' b cs) := fun w' hb => h.below hb
theorem ne_same (a : Bool) : (a != a) = false := by cases a <;> rfl
set_option maxRecDepth 100000 in
set_option maxHeartbeats 4000000 in
theorem walk_main (ao : Option Addr) (n cap : Nat) (w : World) (hn : n ≤ 65536) (hcode : Code w w.heap.size ao n) :
    Calls Try.prog 11 #[.slice ao n cap] w fun e w' => e = .returned (.bool true) ∧ Below w.heap.size w w' := by
  have C0 : CodeArg w w.heap.size (.slice ao n cap) := ⟨Nat.le_refl _, ao, n, cap, rfl, hn, hcode⟩
  clear hcode
  have hni : (n : Int) ≤ 65536 := by omega
  have sb0 := St.chain w
  have sc0 := St.code C0
  clear C0
  go_enter Try.func11, Try.ntmps11
  go_wp2_with fail
  refine (vBig_no n cap ao w hni).mono ?_
  rintro e w1 ⟨rfl, hw1⟩
  obtain rfl := hw1.symm
  go_wp2_with fail
  refine (drawEF w _ _ sc0.now).mono ?_
  rintro e w2 ⟨v1, xs, st, ls, rfl, ⟨st_0, st_1⟩, ⟨ls_0, ls_1⟩, hD⟩
  have sb_2 := sb0.step hD.below
  have sc_2 := sc0.step hD.below
  clear sb0 sc0
  have s13 := St.arr hD.own.lst
  obtain ⟨a1, c1, rfl⟩ := hD.own.form
  have hz1 : szsArrival xs ≤ 1048576 := adl_sz hD.len
  have hw1 : ∀ s ∈ xs, wfArrival s := fun s hs => (hD.bd s hs).wf
  have hl1 : xs.length ≤ 12 := hD.len
  clear hD
  have Ist : I64 st := by unfold I64; omega
  have Ils : I64 ls := by unfold I64; omega
  have HEF := Lib.hid (fun h => ev_facts (xs := xs) (step := st) (least := ls) h)
  have HEL := Lib.hid (resEf_len xs st ls)
  go_wp2_with fail
  refine (implEf xs _ st ls w2 _ s13.now (Nat.le_refl _) hz1 hw1 Ist Ils).mono ?_
  rintro e w4 ⟨y1, rfl, hO1, hb4⟩
  have sb_4 := sb_2.step hb4
  have sc_4 := sc_2.step hb4
  have s1_4 := s13.step hb4
  clear sb_2 sc_2 s13 hb4
  have e15 := St.org hO1.lst
  obtain ⟨d1, k1, rfl⟩ := hO1.form
  clear hO1
  go_wp2_with fail
  refine (specEf xs _ st ls w4 _ s1_4.now (Nat.le_refl _) hz1 hw1 Ist Ils).mono ?_
  rintro e w6 ⟨y2, rfl, hO2, hb6⟩
  have sb_6 := sb_4.step hb6
  have sc_6 := sc_4.step hb6
  have s1_6 := s1_4.step hb6
  have e1_6 := e15.step hb6
  clear sb_4 sc_4 s1_4 e15 hb6
  have e27 := St.org hO2.lst
  obtain ⟨d2, k2, rfl⟩ := hO2.form
  clear hO2
  generalize okEf xs st ls = kk at *
  generalize resEf xs st ls = es at *
  have hne1 := ne_same kk
  go_wp2_with fail
  refine (vOrigins_same es _ _ w6 _ e1_6.now e27.now (Nat.le_refl _)).mono ?_
  rintro e w8 ⟨rfl, hb8⟩
  have sb_8 := sb_6.step hb8
  have sc_8 := sc_6.step hb8
  have s1_8 := s1_6.step hb8
  have e1_8 := e1_6.step hb8
  have e2_8 := e27.step hb8
  clear sb_6 sc_6 s1_6 e1_6 e27 hb8
  clear e2_8
  go_upto_if 70 with fail
  go_cut [10, 11, 12, 13, 14, 15, 16, 17, 18, 19] from 71 to 130 (fun _ _ _ _ _ _ _ _ _ _ wx => Below w8.heap.size w8 wx)
  case first =>
    have cb9 := St.chain w8
    cases kk with
    | false =>
      go_wp2
      go_meet
      exact cb9.now
    | true =>
      obtain ⟨Lf, hf0, hes, ⟨hls0, hls1⟩, hlen, hwf, hstep, hend⟩ := HEF.out rfl
      clear HEF HEL hne1
      have HS0 : St w8 (fun w' => ArrivalL w' w'.heap.size (.slice a1 xs.length c1) (Lf 0)) := by rw [hf0]; exact s1_8
      have HST := Lib.hid hstep
      have HE1 := Lib.hid e1_8
      have HCB := Lib.hid cb9
      have HLN := Lib.hid hlen
      have HWF := Lib.hid hwf
      have HEN := Lib.hid hend
      clear hstep hlen hwf hend
      have CBG : Hid (∀ w' v j, ArrivalL w' w'.heap.size v (Lf j) → Calls Try.prog 33 #[v, .int .i64 st] w' fun e w'' => ∃ v', e = .returned (.tuple #[v', .int .i64 (numBg (Lf j) st), .bool (okBg (Lf j) st)]) ∧ OriginVO w'' w'.heap.size w''.heap.size v' (resBg (Lf j) st) ∧ Below w'.heap.size w' w'') := Lib.hid (fun w' v j h => implBg (Lf j) v st w' _ h (Nat.le_refl _) (adl_sz (by have := HLN.out j; omega)) (HWF.out j) Ist)
      have CWO : Hid (∀ w' v j o, ArrivalL w' w'.heap.size v (Lf j) → wfOrigin o → Calls Try.prog 36 #[v, aggO o] w' fun e w'' => ∃ v', e = .returned (.tuple #[v', .bool (okVo (Lf j) o)]) ∧ ArrivalO w'' w'.heap.size w''.heap.size v' (resWo (Lf j) o) ∧ Below w'.heap.size w' w'') := Lib.hid (fun w' v j o h ho => implWo (Lf j) v o _ w' _ h rfl (Nat.le_refl _) (adl_sz (by have := HLN.out j; omega)) (by show sz1Origin o ≤ 1048576; simp [sz1Origin]) (HWF.out j) ho)
      clear s1_8 e1_8
      go_wp2_with fail
      go_loopw [10, 11] (fun v i wr => ∃ j : Nat, j ≤ es.length ∧ i = .int .i64 j ∧ ArrivalL wr wr.heap.size v (Lf j) ∧ Below w8.heap.size w8 wr) (fun _ i _ => es.length - (intOf i).toNat)
      case atStart => exact ⟨0, Nat.zero_le _, rfl, HS0.now, Below.refl _ _⟩
      case round =>
        clear HS0
        obtain ⟨j, hj, rfl, hA, hbl⟩ := hrel
        have ar0 := St.arr hA
        have es0 := HE1.out.step hbl
        have cb0 := HCB.out.step hbl
        obtain ⟨ar, cr, rfl⟩ := hA.form
        have hlj := HLN.out j
        clear hA hbl
        by_cases hlt : j < es.length
        case pos =>
          obtain ⟨o, ho⟩ := get_of_lt hlt
          obtain ⟨f1, f2, f3, ⟨f4, f5⟩, f6, f7, f8⟩ := HST.out j o ho
          have hlj1 := HLN.out (j + 1)
          have CB := CBG.out wr _ j ar0.now
          rw [f1, f2] at CB
          have CW := fun w' h => CWO.out w' (.slice ar (Lf j).length cr) j o h f3
          rw [f6, f7] at CW
          generalize numBg (Lf j) st = nb at *
          have HCB1 := Lib.hid CB
          have HCW := Lib.hid CW
          clear CB CW f1 f2 f6 f7
          go_wp2_with fail
          refine (HCB1.out).mono ?_
          rintro e w10 ⟨vb, rfl, hV, hb10⟩
          have ar_10 := ar0.step hb10
          have es_10 := es0.step hb10
          have cb_10 := cb0.step hb10
          clear ar0 es0 cb0 hb10
          obtain rfl := hV
          have N11 := (Below.refl w10.heap.size w10).alloc (Nat.le_refl _) (.cells #[.int .i64 o.pX, .int .i64 o.pY, .int .i64 o.pTick] 30)
          have bx11 := St.bx (Bx.new w10 [.int .i64 o.pX, .int .i64 o.pY, .int .i64 o.pTick] 30)
          have ar_11 := ar_10.step N11
          have es_11 := es_10.step N11
          have cb_11 := cb_10.step N11
          clear ar_10 es_10 cb_10 N11
          have qbx0_1 := (bx11.now).2 0 _ rfl
          have qbx1_2 := (bx11.now).2 1 _ rfl
          have qbx2_3 := (bx11.now).2 2 _ rfl
          obtain ⟨ao9, cap9, e9, -, -, -, hc9⟩ := es_11.now
          simp only [Value.slice.injEq, true_and] at e9
          obtain ⟨rfl, rfl⟩ := e9
          obtain ⟨b9, off9, rfl, hbb9, hce9⟩ := hc9 j o ho
          have p0 := hce9 0 _ rfl
          have p1 := hce9 1 _ rfl
          have p2 := hce9 2 _ rfl
          simp only [Nat.add_zero] at p0
          clear hc9 hce9 hbb9 ho
          have hj0 : (0 : Int) ≤ (j : Int) := by omega
          have hj1 : (j : Int) < (es.length : Int) := by omega
          have g1 : ¬ nb < ls := by omega
          have g1b : decide (nb < ls) = false := decide_eq_false g1
          go_wp2
          go_quiet (fail)
          clear p0 p1 p2 qbx0_1 qbx1_2 qbx2_3
          have ar_q := ar_11.step (drewN_b (Below.refl _ _) nq)
          have es_q := es_11.step (drewN_b (Below.refl _ _) nq)
          have cb_q := cb_11.step (drewN_b (Below.refl _ _) nq)
          have bx_q := bx11.step (drewN_b (Below.refl _ _) nq)
          clear ar_11 es_11 cb_11 bx11
          have qbx0_4 := (bx_q.now).2 0 _ rfl
          have qbx1_5 := (bx_q.now).2 1 _ rfl
          have qbx2_6 := (bx_q.now).2 2 _ rfl
          go_wp2_with fail
          refine (HCW.out _ ar_q.now).mono ?_
          clear qbx0_4 qbx1_5 qbx2_6
          rintro e w12 ⟨vl, rfl, hO, hb12⟩
          have ar_12 := ar_q.step hb12
          have es_12 := es_q.step hb12
          have cb_12 := cb_q.step hb12
          have bx_12 := bx_q.step hb12
          clear ar_q es_q cb_q bx_q hb12
          have ar9 := hO.lst
          obtain ⟨al, cl, rfl⟩ := hO.form
          clear hO
          have t1 : IntKind.i64.wrap (((Lf (j + 1)).length : Int) + nb) = ((Lf (j + 1)).length : Int) + nb := IntWalk.i64_in _ (by omega)
          have t2 : wrap64 (((Lf (j + 1)).length : Int) + nb) = ((Lf (j + 1)).length : Int) + nb := by unfold wrap64; omega
          have g2 : ((((Lf (j + 1)).length : Int) + nb) != ((Lf j).length : Int)) = false := by simpa using f8
          go_wp2
          go_roundw
          case rel => exact ⟨j + 1, by omega, by go_num, ar9, cb_12.now⟩
          case measure => simp [intOf]; omega
        obtain rfl : j = es.length := by omega
        have CB := CBG.out wr _ es.length ar0.now
        have hen := HEN.out
        generalize numBg (Lf es.length) st = nb at *
        generalize okBg (Lf es.length) st = kb at *
        generalize resBg (Lf es.length) st = ob at *
        have HCB1 := Lib.hid CB
        clear CB CBG CWO
        have hge : ¬ (es.length : Int) < (es.length : Int) := by omega
        have hnge : ¬ ls ≤ nb := by omega
        have hngb : decide (ls ≤ nb) = false := decide_eq_false hnge
        have hngc : decide (nb ≥ ls) = false := decide_eq_false hnge
        go_wp2_with fail
        refine (HCB1.out).mono ?_
        rintro e w10 ⟨vb, rfl, hV, hb10⟩
        have ar_10 := ar0.step hb10
        have es_10 := es0.step hb10
        have cb_10 := cb0.step hb10
        clear ar0 es0 cb0 hb10
        obtain rfl := hV
        have N11 := (Below.refl w10.heap.size w10).alloc (Nat.le_refl _) (.cells #[.int .i64 ob.pX, .int .i64 ob.pY, .int .i64 ob.pTick] 30)
        have bx11 := St.bx (Bx.new w10 [.int .i64 ob.pX, .int .i64 ob.pY, .int .i64 ob.pTick] 30)
        have ar_11 := ar_10.step N11
        have es_11 := es_10.step N11
        have cb_11 := cb_10.step N11
        clear ar_10 es_10 cb_10 N11
        cases kb
        · go_wp2
          go_meet
          exact cb_11.now
        · go_wp2
          go_meet
          exact cb_11.now
  case rest =>
    have hb10 := hcut
    clear hcut
    obtain ⟨w10, hwc10⟩ : ∃ x, x = wc := ⟨wc, rfl⟩
    subst hwc10
    have sb_10 := sb_8.step hb10
    have sc_10 := sc_8.step hb10
    have s1_10 := s1_8.step hb10
    have e1_10 := e1_8.step hb10
    clear sb_8 sc_8 s1_8 e1_8 hb10
    clear HEF HEL hne1
    clear s1_10 e1_10
    go_wp2_with fail
    refine (drawBG w10 _ _ sc_10.now).mono ?_
    rintro e w11 ⟨v2, ys, s2, rfl, ⟨s2_0, s2_1⟩, hD⟩
    have sb_11 := sb_10.step hD.below
    have sc_11 := sc_10.step hD.below
    clear sb_10 sc_10
    have s212 := St.arr hD.own.lst
    obtain ⟨a2, c2, rfl⟩ := hD.own.form
    have hz2 : szsArrival ys ≤ 1048576 := adl_sz hD.len
    have hw2 : ∀ s ∈ ys, wfArrival s := fun s hs => (hD.bd s hs).wf
    have hl2 : ys.length ≤ 12 := hD.len
    clear hD
    have Is2 : I64 s2 := by unfold I64; omega
    have HBF := Lib.hid (fun h => best_facts (xs := ys) (step := s2) h)
    have CI := Lib.hid (fun w' v (h : ArrivalL w' w'.heap.size v ys) => implBg ys v s2 w' _ h (Nat.le_refl _) hz2 hw2 Is2)
    have CS := Lib.hid (fun w' v (h : ArrivalL w' w'.heap.size v ys) => specBg ys v s2 w' _ h (Nat.le_refl _) hz2 hw2 Is2)
    have CN := Lib.hid (fun w' v (o : GOrigin) (h : ArrivalL w' w'.heap.size v ys) (ho : wfOrigin o) => implNv ys v o (aggO o) w' _ h rfl (Nat.le_refl _) hz2 (by show sz1Origin o ≤ 1048576; simp [sz1Origin]) hw2 ho)
    generalize numBg ys s2 = nc at *
    generalize okBg ys s2 = kc at *
    generalize resBg ys s2 = oc at *
    have hq1 := ne_same kc
    go_wp2_with fail
    refine (CI.out w11 _ s212.now).mono ?_
    rintro e w13 ⟨vc, rfl, hV, hb13⟩
    have sb_13 := sb_11.step hb13
    have sc_13 := sc_11.step hb13
    have s2_13 := s212.step hb13
    clear sb_11 sc_11 s212 hb13
    obtain rfl := hV
    have N14 := (Below.refl w13.heap.size w13).alloc (Nat.le_refl _) (.cells #[.int .i64 oc.pX, .int .i64 oc.pY, .int .i64 oc.pTick] 30)
    have b214 := St.bx (Bx.new w13 [.int .i64 oc.pX, .int .i64 oc.pY, .int .i64 oc.pTick] 30)
    have sb_14 := sb_13.step N14
    have sc_14 := sc_13.step N14
    have s2_14 := s2_13.step N14
    clear sb_13 sc_13 s2_13 N14
    go_wp2_with fail
    refine (CS.out (w13.alloc (.cells #[.int .i64 oc.pX, .int .i64 oc.pY, .int .i64 oc.pTick] 30)) _ s2_14.now).mono ?_
    rintro e w15 ⟨vd, rfl, hV, hb15⟩
    have sb_15 := sb_14.step hb15
    have sc_15 := sc_14.step hb15
    have s2_15 := s2_14.step hb15
    have b2_15 := b214.step hb15
    clear sb_14 sc_14 s2_14 b214 hb15
    obtain rfl := hV
    clear CI CS
    have N16 := (Below.refl w15.heap.size w15).alloc (Nat.le_refl _) (.cells #[.int .i64 oc.pX, .int .i64 oc.pY, .int .i64 oc.pTick] 30)
    have b316 := St.bx (Bx.new w15 [.int .i64 oc.pX, .int .i64 oc.pY, .int .i64 oc.pTick] 30)
    have sb_16 := sb_15.step N16
    have sc_16 := sc_15.step N16
    have s2_16 := s2_15.step N16
    have b2_16 := b2_15.step N16
    clear sb_15 sc_15 s2_15 b2_15 N16
    have qb20_1 := (b2_16.now).2 0 _ rfl
    have qb21_2 := (b2_16.now).2 1 _ rfl
    have qb22_3 := (b2_16.now).2 2 _ rfl
    have qb30_4 := (b316.now).2 0 _ rfl
    have qb31_5 := (b316.now).2 1 _ rfl
    have qb32_6 := (b316.now).2 2 _ rfl
    go_upto_if 163 with fail
    go_cut [28, 29] from 164 to 176 (fun _ _ wx => Below (w15.alloc (.cells #[.int .i64 oc.pX, .int .i64 oc.pY, .int .i64 oc.pTick] 30)).heap.size (w15.alloc (.cells #[.int .i64 oc.pX, .int .i64 oc.pY, .int .i64 oc.pTick] 30)) wx)
    case first =>
      have cb17 := St.chain (w15.alloc (.cells #[.int .i64 oc.pX, .int .i64 oc.pY, .int .i64 oc.pTick] 30))
      clear qb20_1 qb21_2 qb22_3 qb30_4 qb31_5 qb32_6
      cases kc with
      | false =>
        go_wp2
        go_meet
        exact cb17.now
      | true =>
        obtain ⟨⟨c0, c1⟩, hwo, ho, hn9⟩ := HBF.out rfl
        have C1 := CN.out (w15.alloc (.cells #[.int .i64 oc.pX, .int .i64 oc.pY, .int .i64 oc.pTick] 30)) _ oc s2_16.now hwo
        rw [ho, hn9] at C1
        have HC1 := Lib.hid C1
        clear C1 CN HBF ho hn9
        have qb20_1 := (b2_16.now).2 0 _ rfl
        have qb21_2 := (b2_16.now).2 1 _ rfl
        have qb22_3 := (b2_16.now).2 2 _ rfl
        go_wp2_with fail
        refine (HC1.out).mono ?_
        clear qb20_1 qb21_2 qb22_3
        rintro e w18 ⟨rfl, hb18⟩
        have sb_18 := sb_16.step hb18
        have sc_18 := sc_16.step hb18
        have s2_18 := s2_16.step hb18
        have b2_18 := b2_16.step hb18
        have b3_18 := b316.step hb18
        have cb_18 := cb17.step hb18
        clear sb_16 sc_16 s2_16 b2_16 b316 cb17 hb18
        go_wp2
        go_meet
        exact cb_18.now
    case rest =>
      have hb18 := hcut
      clear hcut
      obtain ⟨w18, hwc18⟩ : ∃ x, x = wc := ⟨wc, rfl⟩
      subst hwc18
      have sb_18 := sb_16.step hb18
      have sc_18 := sc_16.step hb18
      have s2_18 := s2_16.step hb18
      have b2_18 := b2_16.step hb18
      have b3_18 := b316.step hb18
      clear sb_16 sc_16 s2_16 b2_16 b316 hb18
      clear HBF CN hq1 qb20_1 qb21_2 qb22_3 qb30_4 qb31_5 qb32_6
      clear s2_18 b2_18 b3_18
      go_wp2_with fail
      refine (drawMV w18 _ _ sc_18.now).mono ?_
      rintro e w19 ⟨v3, zs, x, y, rfl, ⟨x_0, x_1⟩, ⟨y_0, y_1⟩, hD⟩
      have sb_19 := sb_18.step hD.below
      have sc_19 := sc_18.step hD.below
      clear sb_18 sc_18
      have s320 := St.arr hD.own.lst
      obtain ⟨a3, c3, rfl⟩ := hD.own.form
      have hz3 : szsArrival zs ≤ 1048576 := adl_sz hD.len
      have hw3 : ∀ s ∈ zs, wfArrival s := fun s hs => (hD.bd s hs).wf
      have hl3 : zs.length ≤ 12 := hD.len
      clear hD
      have Ix : I64 x := by unfold I64; omega
      have Iy : I64 y := by unfold I64; omega
      clear sc_19
      go_wp2_with fail
      refine (implMv zs _ x y w19 _ s320.now (Nat.le_refl _) hz3 hw3 Ix Iy).mono ?_
      rintro e w21 ⟨rfl, hb21⟩
      have sb_21 := sb_19.step hb21
      have s3_21 := s320.step hb21
      clear sb_19 s320 hb21
      go_wp2_with fail
      refine (specMv zs _ x y w21 _ s3_21.now (Nat.le_refl _) hz3 hw3 Ix Iy).mono ?_
      rintro e w22 ⟨rfl, hb22⟩
      have sb_22 := sb_21.step hb22
      have s3_22 := s3_21.step hb22
      clear sb_21 s3_21 hb22
      generalize numMv zs x y = x1 at *
      generalize atMv zs x y = x2 at *
      generalize okMv zs x y = x3 at *
      go_wp2
      go_ret
      exact ⟨by first | rfl | exact ret_bool (by simp), sb_22.now⟩

set_option maxRecDepth 100000 in
theorem walk_all (v : Value) {H : Type} {enc : TypeId × Value → H} {base : Nat} {d : DataW H} {ps : List MemPlace} {w : World} (hval : Value.okWide Try.prog w .any base 63 v)
    (hd : DataW.Trod enc Try.prog w 0 (fun _ => true) true 63 v d ps) :
    Calls Try.prog 11 #[v] w fun e w' => e = .returned (.bool true) ∧ Below w.heap.size w w' := by
  obtain ⟨ao, n, cap, rfl, hn, hc⟩ := open_code Try.underlying63 Try.underlying5 (by kernel_rfl) hval hd
  by_cases h : n ≤ 65536
  · exact walk_main ao n cap w h hc
  · have hi : (65536 : Int) < n := by omega
    go_enter Try.func11, Try.ntmps11
    go_wp2_with fail
    refine (vBig_yes n cap ao _ hi).mono ?_
    rintro e w0 ⟨rfl, hw⟩
    obtain rfl := hw.symm
    go_wp2
    go_ret
    exact ⟨rfl, Below.refl _ _⟩

set_option maxRecDepth 100000 in
theorem contract (H : Type) (enc : TypeId × Value → H) (W : World) (base : Nat) (args : Array Value) (ds gs : List (DataW H)) (before : List MemPlace)
    (hval : ∀ (j : Nat) t v, Try.f11.params[j]? = some t → args[j]? = some v → Value.okWide Try.prog W .any base t v)
    (hW : DataW.Whole enc Try.prog Try.f11.params.toList Rows.fnEventsFoundSpec.vars false W args.toList ds gs before) :
    Calls Try.prog 11 args W fun e W' => ∃ v, e = .returned v ∧ Rows.fnEventsFoundSpec.post enc Try.prog Try.f11 false true false false W args v W' := by
  have hW' := hW
  obtain ⟨p, q, hA0, hV, rfl, hfz, hnd⟩ := hW
  have hA : DataW.TrodAll enc Try.prog W 0 (fun _ => true) true Try.f11.params.toList args.toList ds p := hA0
  rw [Try.params11] at hA hval
  obtain ⟨v0, vs0, d0, ds0, p0, q0, hargs, rfl, rfl, h0, r0⟩ := trodAll_cons hA
  obtain ⟨rfl, rfl, rfl⟩ := trodAll_nil r0
  obtain rfl : args = #[v0] := by cases args; simp_all
  refine lawPost rfl rfl Try.underlying4 (by kernel_rfl) (by kernel_rfl) hW' (fun hg => by subst hg; exact ⟨rfl, rfl, rfl⟩) ?_
  exact walk_all v0 (hval 0 63 v0 rfl rfl) h0

set_option maxRecDepth 100000 in
theorem lifted (os : Os) (started : os.Started) (H : Type) (enc : TypeId × Value → H) :
    ReturnsInHanded {} Try.checked os 11 .any (Rows.fnEventsFoundSpec.pre6 enc Try.prog Try.f11 Rows.fnEventsFoundRow.domain false) (Rows.fnEventsFoundSpec.post enc Try.prog Try.f11 false true false false) := by
  refine returnsInHanded_of_change (C := Try.checked) (s := Rows.fnEventsFoundSpec) own started (by kernel_rfl) Try.func11
    (ChangeSpec.witness6 (enc := enc) (C := Try.checked) (s := Rows.fnEventsFoundSpec) false ⟨#[], #[.slice none 0 0], []⟩ 8 (by kernel_rfl) (by kernel_rfl) (by kernel_rfl) (by kernel_rfl)) ?_
  intro W base args ds gs before hval hW _ _
  exact contract H enc W base args ds gs before hval hW

set_option maxRecDepth 100000 in
theorem said : Rows.FnEventsFoundSaid :=
  OpenClaim.holds_of_wide 11 Try.f11 rfl rfl rfl rfl rfl rfl rfl ⟨rfl, rfl, rfl, rfl, rfl⟩ rfl rfl rfl rfl rfl (by kernel_rfl) Try.func11 (by kernel_rfl)
    (of_decide_eq_true (by kernel_rfl)) (by unfold Func.isWrapper; first | (rw [if_pos (by decide +kernel)]; kernel_rfl) | (rw [if_neg (by decide +kernel)]; exact ⟨rfl, rfl⟩))
    (fun os started H enc _ => lifted os started H enc)
end Go.Proofs.Ytoogofceoinniab.fnEventsFound
