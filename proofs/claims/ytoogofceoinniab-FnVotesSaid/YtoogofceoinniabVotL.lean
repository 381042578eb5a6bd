/- FnVotes: for every code the law answers true; no condition. -/
import Derived.Test.YtoogofceoinniabVdE
import Derived.Test.YtoogofceoinniabRv
import Derived.Test.YtoogofceoinniabVh
import Derived.Test.YtoogofceoinniabVoQ
import Derived.Test.YtoogofceoinniabVpJ
import Derived.Test.YtoogofceoinniabVpB
import Derived.Test.YtoogofceoinniabVoJ
import Derived.Test.YtoogofceoinniabVpG
import Derived.Test.YtoogofceoinniabVpF
import Derived.Test.YtoogofceoinniabVoC
import Derived.Test.YtoogofceoinniabVoH
import Derived.Test.YtoogofceoinniabVoF
import Derived.Test.YtoogofceoinniabVoI
import Derived.Test.YtoogofceoinniabVoG
import Derived.Test.YtoogofceoinniabVi
import Derived.Deep.CutBlock
import Derived.Deep.CutRange
import Derived.Deep.DeepCutAuto
namespace Go.Proofs.Ytoogofceoinniab.fnVotes
open Go.ChangeShapes Go.WideShapes Go.ChangeAt Go.RowKit Go.ChangeMaps Go.Sort
set_option linter.unusedSimpArgs false
set_option linter.unusedVariables false

theorem own : ownKnob Try.prog.godebug = none := by kernel_rfl

theorem St.arr {w : World} {v : Value} {xs : List GArrival} (h : ArrivalL w w.heap.size v xs) : St w (fun w' => ArrivalL w' w'.heap.size v xs) := fun w' hb => (h.below hb).mono hb.size
theorem St.org {w : World} {v : Value} {xs : List GOrigin} (h : OriginL w w.heap.size v xs) : St w (fun w' => OriginL w' w'.heap.size v xs) := fun w' hb => (h.below hb).mono hb.size
theorem St.bx {w : World} {b : Nat} {cs : List Value} (h : Bx w b cs) : St w (fun w' => Bx w' b cs) := fun w' hb => h.below hb
theorem ne_same (a : Bool) : (a != a) = false := by cases a <;> rfl
theorem ne_int (a : Int) : (a != a) = false := by simp
theorem tt_le (a : GArrival) (x y : Int) : okTt a x y = true → loTt a x y ≤ hiTt a x y := fun h => by
  have e := h
  unfold okTt at e
  rw [Bool.and_eq_true] at e
  unfold loTt hiTt
  rw [if_pos h, if_pos h]
  exact of_decide_eq_true e.2
theorem St.intsV {w : World} {L : Nat} {v : Value} {xs : List Int} (h : Own (Value.int .i64) w L w.heap.size v xs) : St w (fun w' => Lst (Value.int .i64) w' w'.heap.size v xs) := St.own h
set_option maxRecDepth 100000 in
set_option maxHeartbeats 4000000 in
theorem walk_main (ao : Option Addr) (n cap : Nat) (w : World) (hn : n ≤ 65536) (hcode : Code w w.heap.size ao n) :
    Calls Try.prog 12 #[.slice ao n cap] w fun e w' => e = .returned (.bool true) ∧ Below w.heap.size w w' := by
  have C0 : CodeArg w w.heap.size (.slice ao n cap) := ⟨Nat.le_refl _, ao, n, cap, rfl, hn, hcode⟩
  clear hcode
  have hni : (n : Int) ≤ 65536 := by omega
  have sb0 := St.chain w
  have sc0 := St.code C0
  clear C0
  go_enter Try.func12, Try.ntmps12
  go_wp2_with fail
  refine (vBig_no n cap ao w hni).mono ?_
  rintro e w1 ⟨rfl, hw1⟩
  obtain rfl := hw1.symm
  go_wp2_with fail
  refine (drawVr w _ _ sc0.now).mono ?_
  rintro e w2 ⟨v1, xs, o, rfl, hbo1, hD⟩
  have sb_2 := sb0.step hD.below
  have sc_2 := sc0.step hD.below
  clear sb0 sc0
  have s13 := St.arr hD.own.lst
  obtain ⟨a1, c1, rfl⟩ := hD.own.form
  have hz1 : szsArrival xs ≤ 1048576 := adl_sz hD.len
  have hw1 : ∀ s ∈ xs, wfArrival s := fun s hs => (hD.bd s hs).wf
  have hl1 : xs.length ≤ 12 := hD.len
  have ho1 : wfOrigin o := hbo1.wf
  have hy1 : sz1Origin o ≤ 1048576 := by simp [sz1Origin]
  clear hD
  have N4 := (Below.refl w2.heap.size w2).alloc (Nat.le_refl _) (.cells #[.int .i64 o.pX, .int .i64 o.pY, .int .i64 o.pTick] 30)
  have b14 := St.bx (Bx.new w2 [.int .i64 o.pX, .int .i64 o.pY, .int .i64 o.pTick] 30)
  have sb_4 := sb_2.step N4
  have sc_4 := sc_2.step N4
  have s1_4 := s13.step N4
  clear sb_2 sc_2 s13 N4
  have qb10_1 := (b14.now).2 0 _ rfl
  have qb11_2 := (b14.now).2 1 _ rfl
  have qb12_3 := (b14.now).2 2 _ rfl
  go_wp2_with fail
  refine (implVo xs _ o (aggO o) (w2.alloc (.cells #[.int .i64 o.pX, .int .i64 o.pY, .int .i64 o.pTick] 30)) _ s1_4.now rfl (Nat.le_refl _) hz1 hy1 hw1 ho1).mono ?_
  clear qb10_1 qb11_2 qb12_3
  rintro e w5 ⟨y1, rfl, hO1, hb5⟩
  have sb_5 := sb_4.step hb5
  have sc_5 := sc_4.step hb5
  have s1_5 := s1_4.step hb5
  have b1_5 := b14.step hb5
  clear sb_4 sc_4 s1_4 b14 hb5
  have i16 := St.own hO1
  obtain ⟨d1, k1, rfl⟩ := hO1.form
  clear hO1
  have qb10_4 := (b1_5.now).2 0 _ rfl
  have qb11_5 := (b1_5.now).2 1 _ rfl
  have qb12_6 := (b1_5.now).2 2 _ rfl
  go_wp2_with fail
  refine (specVo xs _ o (aggO o) w5 _ s1_5.now rfl (Nat.le_refl _) hz1 hy1 hw1 ho1).mono ?_
  clear qb10_4 qb11_5 qb12_6
  rintro e w7 ⟨y2, rfl, hO2, hb7⟩
  have sb_7 := sb_5.step hb7
  have sc_7 := sc_5.step hb7
  have s1_7 := s1_5.step hb7
  have b1_7 := b1_5.step hb7
  have i1_7 := i16.step hb7
  clear sb_5 sc_5 s1_5 b1_5 i16 hb7
  have i28 := St.own hO2
  obtain ⟨d2, k2, rfl⟩ := hO2.form
  clear hO2
  have CN1 := Lib.hid (fun w' v (h : ArrivalL w' w'.heap.size v xs) => implNv xs v o (aggO o) w' _ h rfl (Nat.le_refl _) hz1 hy1 hw1 ho1)
  have CN2 := Lib.hid (fun w' v (h : ArrivalL w' w'.heap.size v xs) => specNv xs v o (aggO o) w' _ h rfl (Nat.le_refl _) hz1 hy1 hw1 ho1)
  have CWO := Lib.hid (fun w' v (h : ArrivalL w' w'.heap.size v xs) => implWo xs v o (aggO o) w' _ h rfl (Nat.le_refl _) hz1 hy1 hw1 ho1)
  have CA1 := Lib.hid (fun w' v (h : ArrivalL w' w'.heap.size v xs) => implAreA xs v w' _ h (Nat.le_refl _) hz1 hw1)
  have CA2 := Lib.hid (fun w' v (h : ArrivalL w' w'.heap.size v xs) => specAreA xs v w' _ h (Nat.le_refl _) hz1 hw1)
  have CMV := Lib.hid (fun w' v (h : ArrivalL w' w'.heap.size v xs) => implMv xs v o.pX o.pY w' _ h (Nat.le_refl _) hz1 hw1 ho1.1 ho1.2.1)
  have CTT := Lib.hid (fun w' (a : GArrival) (hwa : wfArrival a) => implTt a (aggA a) o.pX o.pY w' w'.heap.size rfl (Nat.le_refl _) (by simp [sz1Arrival]) hwa ho1.1 ho1.2.1)
  have HVF := Lib.hid (fun h => vot_facts (xs := xs) (o := o) h)
  have HNL : Hid (okVo xs o = true → numVo xs o = ((resVo xs o).length : Int)) := Lib.hid (fun h => by rw [numVo_yes h, resVo_yes h])
  generalize okVo xs o = k1 at *
  generalize resVo xs o = rv at *
  generalize numVo xs o = nv at *
  generalize resWo xs o = rw1 at *
  generalize goodAr xs = ga at *
  have hq1 := ne_same k1
  have hq2 := ne_same ga
  have hq3 := ne_int nv
  go_wp2_with fail
  refine (vInts_same rv _ _ w7 _ i1_7.now i28.now (Nat.le_refl _)).mono ?_
  rintro e w9 ⟨rfl, hb9⟩
  have sb_9 := sb_7.step hb9
  have sc_9 := sc_7.step hb9
  have s1_9 := s1_7.step hb9
  have b1_9 := b1_7.step hb9
  have i1_9 := i1_7.step hb9
  have i2_9 := i28.step hb9
  clear sb_7 sc_7 s1_7 b1_7 i1_7 i28 hb9
  clear i2_9
  go_wp2_with fail
  refine (CA1.out w9 _ s1_9.now).mono ?_
  rintro e w10 ⟨rfl, hb10⟩
  have sb_10 := sb_9.step hb10
  have sc_10 := sc_9.step hb10
  have s1_10 := s1_9.step hb10
  have b1_10 := b1_9.step hb10
  have i1_10 := i1_9.step hb10
  clear sb_9 sc_9 s1_9 b1_9 i1_9 hb10
  go_wp2_with fail
  refine (CA2.out w10 _ s1_10.now).mono ?_
  rintro e w11 ⟨rfl, hb11⟩
  have sb_11 := sb_10.step hb11
  have sc_11 := sc_10.step hb11
  have s1_11 := s1_10.step hb11
  have b1_11 := b1_10.step hb11
  have i1_11 := i1_10.step hb11
  clear sb_10 sc_10 s1_10 b1_10 i1_10 hb11
  have qb10_7 := (b1_11.now).2 0 _ rfl
  have qb11_8 := (b1_11.now).2 1 _ rfl
  have qb12_9 := (b1_11.now).2 2 _ rfl
  go_wp2_with fail
  refine (CN1.out w11 _ s1_11.now).mono ?_
  clear qb10_7 qb11_8 qb12_9
  rintro e w12 ⟨rfl, hb12⟩
  have sb_12 := sb_11.step hb12
  have sc_12 := sc_11.step hb12
  have s1_12 := s1_11.step hb12
  have b1_12 := b1_11.step hb12
  have i1_12 := i1_11.step hb12
  clear sb_11 sc_11 s1_11 b1_11 i1_11 hb12
  have qb10_10 := (b1_12.now).2 0 _ rfl
  have qb11_11 := (b1_12.now).2 1 _ rfl
  have qb12_12 := (b1_12.now).2 2 _ rfl
  go_wp2_with fail
  refine (CN2.out w12 _ s1_12.now).mono ?_
  clear qb10_10 qb11_11 qb12_12
  rintro e w13 ⟨rfl, hb13⟩
  have sb_13 := sb_12.step hb13
  have sc_13 := sc_12.step hb13
  have s1_13 := s1_12.step hb13
  have b1_13 := b1_12.step hb13
  have i1_13 := i1_12.step hb13
  clear sb_12 sc_12 s1_12 b1_12 i1_12 hb13
  clear CA1 CA2 CN1 CN2 hq2
  go_upto_region 10 with fail
  go_cut [111] from 90 to 110 (fun x wx => x = .bool false ∧ Below w13.heap.size w13 wx)
  case first =>
    have cb14 := St.chain w13
    cases k1 with
    | false =>
      go_wp2
      go_meet
      exact ⟨rfl, cb14.now⟩
    | true =>
      have gn := HNL.out rfl
      have gg : (nv != (rv.length : Int)) = false := by rw [gn]; exact ne_int _
      clear gn
      go_wp2
      go_meet
      exact ⟨rfl, cb14.now⟩
  case rest =>
    obtain ⟨rfl, hb15⟩ := hcut
    obtain ⟨w15, hwc15⟩ : ∃ x, x = wc := ⟨wc, rfl⟩
    subst hwc15
    have sb_15 := sb_13.step hb15
    have sc_15 := sc_13.step hb15
    have s1_15 := s1_13.step hb15
    have b1_15 := b1_13.step hb15
    have i1_15 := i1_13.step hb15
    clear sb_13 sc_13 s1_13 b1_13 i1_13 hb15
    clear hq1 hq3 HNL
    go_upto_if 112 with fail
    go_cut [13, 14, 15, 16, 17, 18, 19, 20, 21] from 113 to 195 (fun _ _ _ _ _ _ _ _ _ wx => Below w15.heap.size w15 wx)
    case first =>
      have cb16 := St.chain w15
      cases k1 with
      | false =>
        go_wp2
        go_meet
        exact cb16.now
      | true =>
        obtain ⟨-, hl8, hA, ⟨n0, n1⟩, hm1, hm2, hlen⟩ := HVF.out rfl
        have HA := Lib.hid hA
        have HM1 := Lib.hid hm1
        have HM2 := Lib.hid hm2
        clear HVF hA hm1 hm2
        have HS := Lib.hid s1_15
        have HB1 := Lib.hid b1_15
        have HI := Lib.hid i1_15
        have HCB := Lib.hid cb16
        clear s1_15 b1_15 i1_15 cb16 sb_15 sc_15
        go_wp2_with fail
        go_loopw [13, 14, 15, 16] (fun i _ _ _ wr => ∃ j : Nat, j ≤ xs.length ∧ i = .int .i64 j ∧ Below w15.heap.size w15 wr) (fun i _ _ _ _ => xs.length - (intOf i).toNat)
        case atStart => exact ⟨0, Nat.zero_le _, rfl, Below.refl _ _⟩
        case round =>
          obtain ⟨j, hj, rfl, hbl⟩ := hrel
          by_cases hlt : j < xs.length
          case pos =>
            obtain ⟨a, ha⟩ := get_of_lt hlt
            obtain ⟨hwa, hiff⟩ := HA.out a (List.mem_of_getElem? ha)
            have ls0 := (HS.out.step hbl).now
            obtain ⟨a9, c9, e9, -, -, -, hc9⟩ := ls0
            simp only [Value.slice.injEq, true_and] at e9
            obtain ⟨rfl, rfl⟩ := e9
            obtain ⟨b9, o9, rfl, hb9, hca⟩ := hc9 j a ha
            have p0 := hca 0 _ rfl
            have p1 := hca 1 _ rfl
            have p2 := hca 2 _ rfl
            have p3 := hca 3 _ rfl
            have p4 := hca 4 _ rfl
            simp only [Nat.add_zero] at p0
            have x0 := ((HB1.out.step hbl).now).2 0 _ rfl
            have x1 := ((HB1.out.step hbl).now).2 1 _ rfl
            have x2 := ((HB1.out.step hbl).now).2 2 _ rfl
            have rp0 := cell_regrown p0
            have rp1 := cell_regrown p1
            have rp2 := cell_regrown p2
            have rp3 := cell_regrown p3
            have rp4 := cell_regrown p4
            have rx0 := cell_regrown x0
            have rx1 := cell_regrown x1
            have rx2 := cell_regrown x2
            have hj0 : (0 : Int) ≤ (j : Int) := by omega
            have hj1 : (j : Int) < (xs.length : Int) := by omega
            have hsz := hbl.size
            have C1 := fun w' => CTT.out w' a hwa
            have HIF := Lib.hid hiff
            generalize okTt a o.pX o.pY = kt at *
            generalize loTt a o.pX o.pY = lo at *
            generalize hiTt a o.pX o.pY = hi at *
            have HC1 := Lib.hid C1
            have cs := fun d os => Calls.regrown_of (w := wr) (d := d) (os := os) (HC1.out _)
            clear C1 hiff ha hc9 hca
            go_wp2_with fail
            refine wp_region_quiet_below (by kernel_rfl) (by kernel_rfl) ?_
            repeat (go_big_quiet_step (first | with_reducible exact cs _ _))
            refine wpQuiet_nil ?_
            intro _ hw'
            obtain ⟨⟨dq, osq⟩, hw''⟩ := hw'
            subst hw''
            have hb4 := below_regrown (wr) dq osq
            generalize grow (redrawn (wr) dq) osq = w4 at *
            clear cs rp0 rp1 rp2 rp3 rp4 rx0 rx1 rx2
            have u0 := cellOf hb4 hb9 p0
            have v0 := cellOf hb4 (cell_of_lt x0) x0
            have v1 := cellOf hb4 (cell_of_lt x1) x1
            have v2 := cellOf hb4 (cell_of_lt x2) x2
            have hbl4 := hbl.trans (hb4.mono hsz)
            have hv4 := (HI.out.step hbl4).now
            clear p0 p1 p2 p3 p4 x0 x1 x2
            by_cases hmem : a.pId ∈ rv
            case pos =>
              obtain ⟨rfl, t2, t3⟩ := HIF.out.1 hmem
              have g2 : decide (lo ≤ o.pTick) = true := decide_eq_true t2
              have g3 : decide (o.pTick ≤ hi) = true := decide_eq_true t3
              go_wp2_with fail
              refine (vHasYes rv _ _ w4 _ hv4 hmem).mono ?_
              rintro e w5 ⟨rfl, q5⟩
              obtain rfl : w4 = w5 := q5.symm
              go_wp2
              go_roundw
              case rel => exact ⟨j + 1, by omega, by go_num, hbl4⟩
              case measure => simp [intOf]; omega
            have hne : ∀ y ∈ rv, y ≠ a.pId := fun y hy q => hmem (q ▸ hy)
            have HNM : Hid (¬ (kt = true ∧ lo ≤ o.pTick ∧ o.pTick ≤ hi)) := Lib.hid (fun h => hmem (HIF.out.2 h))
            go_wp2_with fail
            refine (vHasNo rv _ _ w4 _ hv4 (Nat.le_refl _) hne).mono ?_
            rintro e w5 ⟨rfl, hb5⟩
            have hbl5 := hbl4.trans (hb5.mono hbl4.size)
            have y0 := cellOf hb5 (cell_of_lt v0) v0
            have y1 := cellOf hb5 (cell_of_lt v1) v1
            have y2 := cellOf hb5 (cell_of_lt v2) v2
            clear u0 v0 v1 v2
            cases kt with
            | false =>
              go_wp2
              go_roundw
              case rel => exact ⟨j + 1, by omega, by go_num, hbl5⟩
              case measure => simp [intOf]; omega
            | true =>
              by_cases t2 : lo ≤ o.pTick
              case neg =>
                have g2 : decide (lo ≤ o.pTick) = false := decide_eq_false t2
                go_wp2
                go_roundw
                case rel => exact ⟨j + 1, by omega, by go_num, hbl5⟩
                case measure => simp [intOf]; omega
              have g2 : decide (lo ≤ o.pTick) = true := decide_eq_true t2
              have t3 : ¬ o.pTick ≤ hi := fun h => HNM.out ⟨rfl, t2, h⟩
              have g3 : decide (o.pTick ≤ hi) = false := decide_eq_false t3
              go_wp2
              go_roundw
              case rel => exact ⟨j + 1, by omega, by go_num, hbl5⟩
              case measure => simp [intOf]; omega
          case neg =>
            have sN := HS.out.step hbl
            have bN := HB1.out.step hbl
            have cN := HCB.out.step hbl
            clear HS HB1 HI HCB
            generalize numMv xs o.pX o.pY = nm at *
            generalize atMv xs o.pX o.pY = at9 at *
            generalize okMv xs o.pX o.pY = km at *
            have qb10_1 := (bN.now).2 0 _ rfl
            have qb11_2 := (bN.now).2 1 _ rfl
            have qb12_3 := (bN.now).2 2 _ rfl
            go_wp2_with fail
            refine (CMV.out wr _ sN.now).mono ?_
            clear qb10_1 qb11_2 qb12_3
            rintro e w17 ⟨rfl, hb17⟩
            have s1_17 := sN.step hb17
            have b1_17 := bN.step hb17
            have cb_17 := cN.step hb17
            clear sN bN cN hb17
            have qb10_4 := (b1_17.now).2 0 _ rfl
            have qb11_5 := (b1_17.now).2 1 _ rfl
            have qb12_6 := (b1_17.now).2 2 _ rfl
            go_wp2_with fail
            refine (CWO.out w17 _ s1_17.now).mono ?_
            clear qb10_4 qb11_5 qb12_6
            rintro e w18 ⟨v9, rfl, hO9, hb18⟩
            have s1_18 := s1_17.step hb18
            have b1_18 := b1_17.step hb18
            have cb_18 := cb_17.step hb18
            clear s1_17 b1_17 cb_17 hb18
            obtain ⟨d9, k9, rfl⟩ := hO9.form
            clear hO9
            have t1 : IntKind.i64.wrap ((rw1.length : Int) + nv) = (xs.length : Int) := by rw [hlen]; exact IntWalk.i64_in _ (by omega)
            have t2 : wrap64 ((rw1.length : Int) + nv) = (xs.length : Int) := by rw [hlen]; unfold wrap64; omega
            cases km with
            | false =>
              have h0 := HM2.out rfl
              have g1 : ¬ 0 < nv := by omega
              have g2 : decide (0 < nv) = false := decide_eq_false g1
              clear h0
              go_wp2
              go_meet
              exact cb_18.now
            | true =>
              have h0 := HM1.out rfl
              have g1 : ¬ nm < nv := by omega
              have g2 : decide (nm < nv) = false := decide_eq_false g1
              clear h0
              go_wp2
              go_meet
              exact cb_18.now
    case rest =>
      have hb17 := hcut
      clear hcut
      obtain ⟨w17, hwc17⟩ : ∃ x, x = wc := ⟨wc, rfl⟩
      subst hwc17
      have sb_17 := sb_15.step hb17
      have sc_17 := sc_15.step hb17
      have s1_17 := s1_15.step hb17
      have b1_17 := b1_15.step hb17
      have i1_17 := i1_15.step hb17
      clear sb_15 sc_15 s1_15 b1_15 i1_15 hb17
      clear s1_17 b1_17 i1_17
      clear HVF CMV CTT CWO
      go_wp2_with fail
      refine (drawDF w17 _ _ sc_17.now).mono ?_
      rintro e w18 ⟨a1, o1, rfl, hba, hwo, hb18⟩
      have sb_18 := sb_17.step hb18
      have sc_18 := sc_17.step hb18
      clear sb_17 sc_17 hb18
      have hwa := hba.wf
      have N19 := (Below.refl w18.heap.size w18).alloc (Nat.le_refl _) (.cells #[.int .i64 a1.pId, .int .i64 a1.pX, .int .i64 a1.pY, .int .i64 a1.pTick, .int .i64 a1.pError] 28)
      have ba19 := St.bx (Bx.new w18 [.int .i64 a1.pId, .int .i64 a1.pX, .int .i64 a1.pY, .int .i64 a1.pTick, .int .i64 a1.pError] 28)
      have sb_19 := sb_18.step N19
      have sc_19 := sc_18.step N19
      clear sb_18 sc_18 N19
      have N20 := (Below.refl (w18.alloc (.cells #[.int .i64 a1.pId, .int .i64 a1.pX, .int .i64 a1.pY, .int .i64 a1.pTick, .int .i64 a1.pError] 28)).heap.size (w18.alloc (.cells #[.int .i64 a1.pId, .int .i64 a1.pX, .int .i64 a1.pY, .int .i64 a1.pTick, .int .i64 a1.pError] 28))).alloc (Nat.le_refl _) (.cells #[.int .i64 o1.pX, .int .i64 o1.pY, .int .i64 o1.pTick] 30)
      have bo20 := St.bx (Bx.new (w18.alloc (.cells #[.int .i64 a1.pId, .int .i64 a1.pX, .int .i64 a1.pY, .int .i64 a1.pTick, .int .i64 a1.pError] 28)) [.int .i64 o1.pX, .int .i64 o1.pY, .int .i64 o1.pTick] 30)
      have sb_20 := sb_19.step N20
      have sc_20 := sc_19.step N20
      have ba_20 := ba19.step N20
      clear sb_19 sc_19 ba19 N20
      simp only [World.size_alloc] at bo20
      have ho1a : sz1Arrival a1 ≤ 1048576 := by simp [sz1Arrival]
      have ho1b : sz1Origin o1 ≤ 1048576 := by simp [sz1Origin]
      have qba0_13 := (ba_20.now).2 0 _ rfl
      have qba1_14 := (ba_20.now).2 1 _ rfl
      have qba2_15 := (ba_20.now).2 2 _ rfl
      have qba3_16 := (ba_20.now).2 3 _ rfl
      have qba4_17 := (ba_20.now).2 4 _ rfl
      have qbo0_18 := (bo20.now).2 0 _ rfl
      have qbo1_19 := (bo20.now).2 1 _ rfl
      have qbo2_20 := (bo20.now).2 2 _ rfl
      go_wp2_with fail
      refine (implDf a1 (aggA a1) o1 (aggO o1) ((w18.alloc (.cells #[.int .i64 a1.pId, .int .i64 a1.pX, .int .i64 a1.pY, .int .i64 a1.pTick, .int .i64 a1.pError] 28)).alloc (.cells #[.int .i64 o1.pX, .int .i64 o1.pY, .int .i64 o1.pTick] 30)) _ rfl rfl (Nat.le_refl _) ho1a ho1b hwa hwo).mono ?_
      clear qba0_13 qba1_14 qba2_15 qba3_16 qba4_17 qbo0_18 qbo1_19 qbo2_20
      rintro e w21 ⟨rfl, hb21⟩
      have sb_21 := sb_20.step hb21
      have sc_21 := sc_20.step hb21
      have ba_21 := ba_20.step hb21
      have bo_21 := bo20.step hb21
      clear sb_20 sc_20 ba_20 bo20 hb21
      have qba0_21 := (ba_21.now).2 0 _ rfl
      have qba1_22 := (ba_21.now).2 1 _ rfl
      have qba2_23 := (ba_21.now).2 2 _ rfl
      have qba3_24 := (ba_21.now).2 3 _ rfl
      have qba4_25 := (ba_21.now).2 4 _ rfl
      have qbo0_26 := (bo_21.now).2 0 _ rfl
      have qbo1_27 := (bo_21.now).2 1 _ rfl
      have qbo2_28 := (bo_21.now).2 2 _ rfl
      go_wp2_with fail
      refine (specDf a1 (aggA a1) o1 (aggO o1) w21 _ rfl rfl (Nat.le_refl _) ho1a ho1b hwa hwo).mono ?_
      clear qba0_21 qba1_22 qba2_23 qba3_24 qba4_25 qbo0_26 qbo1_27 qbo2_28
      rintro e w22 ⟨rfl, hb22⟩
      have sb_22 := sb_21.step hb22
      have sc_22 := sc_21.step hb22
      have ba_22 := ba_21.step hb22
      have bo_22 := bo_21.step hb22
      clear sb_21 sc_21 ba_21 bo_21 hb22
      have hd1 := ne_same (resDf a1 o1)
      have hd2 := ne_same (okDf a1 o1)
      generalize resDf a1 o1 = r1 at *
      generalize okDf a1 o1 = r2 at *
      clear ba_22 bo_22
      go_wp2_with fail
      refine (drawTT w22 _ _ sc_22.now).mono ?_
      rintro e w23 ⟨a2, x2, y2, rfl, hb2a, ⟨hx20, hx21⟩, ⟨hy20, hy21⟩, hb23⟩
      have sb_23 := sb_22.step hb23
      have sc_23 := sc_22.step hb23
      clear sb_22 sc_22 hb23
      have hwa2 := hb2a.wf
      have Ix : I64 x2 := by unfold I64; omega
      have Iy : I64 y2 := by unfold I64; omega
      have ho2a : sz1Arrival a2 ≤ 1048576 := by simp [sz1Arrival]
      clear hd1 hd2
      have N24 := (Below.refl w23.heap.size w23).alloc (Nat.le_refl _) (.cells #[.int .i64 a2.pId, .int .i64 a2.pX, .int .i64 a2.pY, .int .i64 a2.pTick, .int .i64 a2.pError] 28)
      have ba24 := St.bx (Bx.new w23 [.int .i64 a2.pId, .int .i64 a2.pX, .int .i64 a2.pY, .int .i64 a2.pTick, .int .i64 a2.pError] 28)
      have sb_24 := sb_23.step N24
      have sc_24 := sc_23.step N24
      clear sb_23 sc_23 N24
      have qba0_29 := (ba24.now).2 0 _ rfl
      have qba1_30 := (ba24.now).2 1 _ rfl
      have qba2_31 := (ba24.now).2 2 _ rfl
      have qba3_32 := (ba24.now).2 3 _ rfl
      have qba4_33 := (ba24.now).2 4 _ rfl
      go_wp2_with fail
      refine (implTt a2 (aggA a2) x2 y2 (w23.alloc (.cells #[.int .i64 a2.pId, .int .i64 a2.pX, .int .i64 a2.pY, .int .i64 a2.pTick, .int .i64 a2.pError] 28)) _ rfl (Nat.le_refl _) ho2a hwa2 Ix Iy).mono ?_
      clear qba0_29 qba1_30 qba2_31 qba3_32 qba4_33
      rintro e w25 ⟨rfl, hb25⟩
      have sb_25 := sb_24.step hb25
      have sc_25 := sc_24.step hb25
      have ba_25 := ba24.step hb25
      clear sb_24 sc_24 ba24 hb25
      have qba0_34 := (ba_25.now).2 0 _ rfl
      have qba1_35 := (ba_25.now).2 1 _ rfl
      have qba2_36 := (ba_25.now).2 2 _ rfl
      have qba3_37 := (ba_25.now).2 3 _ rfl
      have qba4_38 := (ba_25.now).2 4 _ rfl
      go_wp2_with fail
      refine (specTt a2 (aggA a2) x2 y2 w25 _ rfl (Nat.le_refl _) ho2a hwa2 Ix Iy).mono ?_
      clear qba0_34 qba1_35 qba2_36 qba3_37 qba4_38
      rintro e w26 ⟨rfl, hb26⟩
      have sb_26 := sb_25.step hb26
      have sc_26 := sc_25.step hb26
      have ba_26 := ba_25.step hb26
      clear sb_25 sc_25 ba_25 hb26
      clear ba_26
      have HTL := Lib.hid (tt_le a2 x2 y2)
      generalize okTt a2 x2 y2 = k2 at *
      generalize loTt a2 x2 y2 = lo at *
      generalize hiTt a2 x2 y2 = hi at *
      have hq1 := ne_same k2
      have hq2 := ne_int lo
      have hq3 := ne_int hi
      go_upto_region 31 with fail
      go_cut [263] from 243 to 262 (fun x wx => x = .bool false ∧ Below w26.heap.size w26 wx)
      case first =>
        have cb27 := St.chain w26
        cases k2 with
        | false =>
          go_wp2
          go_meet
          exact ⟨rfl, cb27.now⟩
        | true =>
          have h0 := HTL.out rfl
          have g1 : ¬ hi < lo := by omega
          have g2 : decide (hi < lo) = false := decide_eq_false g1
          clear h0
          go_wp2
          go_meet
          exact ⟨rfl, cb27.now⟩
      case rest =>
        obtain ⟨rfl, hb28⟩ := hcut
        obtain ⟨w28, hwc28⟩ : ∃ x, x = wc := ⟨wc, rfl⟩
        subst hwc28
        have sb_28 := sb_26.step hb28
        have sc_28 := sc_26.step hb28
        clear sb_26 sc_26 hb28
        clear HTL hq1 hq2 hq3
        go_wp2_with fail
        refine (drawWo w28 _ _ sc_28.now).mono ?_
        rintro e w29 ⟨v3, zs, q3, rfl, hbo3, hD⟩
        have sb_29 := sb_28.step hD.below
        have sc_29 := sc_28.step hD.below
        clear sb_28 sc_28
        have s330 := St.arr hD.own.lst
        obtain ⟨a3, c3, rfl⟩ := hD.own.form
        have hz3 : szsArrival zs ≤ 1048576 := adl_sz hD.len
        have hw3 : ∀ s ∈ zs, wfArrival s := fun s hs => (hD.bd s hs).wf
        have hl3 : zs.length ≤ 12 := hD.len
        have ho3 : wfOrigin q3 := hbo3.wf
        have hy3 : sz1Origin q3 ≤ 1048576 := by simp [sz1Origin]
        clear hD
        have N31 := (Below.refl w29.heap.size w29).alloc (Nat.le_refl _) (.cells #[.int .i64 q3.pX, .int .i64 q3.pY, .int .i64 q3.pTick] 30)
        have b331 := St.bx (Bx.new w29 [.int .i64 q3.pX, .int .i64 q3.pY, .int .i64 q3.pTick] 30)
        have sb_31 := sb_29.step N31
        have sc_31 := sc_29.step N31
        have s3_31 := s330.step N31
        clear sb_29 sc_29 s330 N31
        clear sc_31
        have qb30_39 := (b331.now).2 0 _ rfl
        have qb31_40 := (b331.now).2 1 _ rfl
        have qb32_41 := (b331.now).2 2 _ rfl
        go_wp2_with fail
        refine (implWo zs _ q3 (aggO q3) (w29.alloc (.cells #[.int .i64 q3.pX, .int .i64 q3.pY, .int .i64 q3.pTick] 30)) _ s3_31.now rfl (Nat.le_refl _) hz3 hy3 hw3 ho3).mono ?_
        clear qb30_39 qb31_40 qb32_41
        rintro e w32 ⟨y1, rfl, hO1, hb32⟩
        have sb_32 := sb_31.step hb32
        have s3_32 := s3_31.step hb32
        have b3_32 := b331.step hb32
        clear sb_31 s3_31 b331 hb32
        have e133 := St.arr hO1.lst
        obtain ⟨d3, k3, rfl⟩ := hO1.form
        clear hO1
        have qb30_42 := (b3_32.now).2 0 _ rfl
        have qb31_43 := (b3_32.now).2 1 _ rfl
        have qb32_44 := (b3_32.now).2 2 _ rfl
        go_wp2_with fail
        refine (specWo zs _ q3 (aggO q3) w32 _ s3_32.now rfl (Nat.le_refl _) hz3 hy3 hw3 ho3).mono ?_
        clear qb30_42 qb31_43 qb32_44
        rintro e w34 ⟨y2, rfl, hO2, hb34⟩
        have sb_34 := sb_32.step hb34
        have s3_34 := s3_32.step hb34
        have b3_34 := b3_32.step hb34
        have e1_34 := e133.step hb34
        clear sb_32 s3_32 b3_32 e133 hb34
        have e235 := St.arr hO2.lst
        obtain ⟨d4, k4, rfl⟩ := hO2.form
        clear hO2
        clear b3_34 s3_34
        generalize resWo zs q3 = ws at *
        generalize okVo zs q3 = kw at *
        go_wp2_with fail
        refine (vArrivals_same ws _ _ w34 _ e1_34.now e235.now (Nat.le_refl _)).mono ?_
        rintro e w36 ⟨rfl, hb36⟩
        have sb_36 := sb_34.step hb36
        have e1_36 := e1_34.step hb36
        have e2_36 := e235.step hb36
        clear sb_34 e1_34 e235 hb36
        go_wp2
        go_ret
        exact ⟨by first | rfl | exact ret_bool (by simp), sb_36.now⟩

set_option maxRecDepth 100000 in
theorem walk_all (v : Value) {H : Type} {enc : TypeId × Value → H} {base : Nat} {d : DataW H} {ps : List MemPlace} {w : World} (hval : Value.okWide Try.prog w .any base 63 v)
    (hd : DataW.Trod enc Try.prog w 0 (fun _ => true) true 63 v d ps) :
    Calls Try.prog 12 #[v] w fun e w' => e = .returned (.bool true) ∧ Below w.heap.size w w' := by
  obtain ⟨ao, n, cap, rfl, hn, hc⟩ := open_code Try.underlying63 Try.underlying5 (by kernel_rfl) hval hd
  by_cases h : n ≤ 65536
  · exact walk_main ao n cap w h hc
  · have hi : (65536 : Int) < n := by omega
    go_enter Try.func12, Try.ntmps12
    go_wp2_with fail
    refine (vBig_yes n cap ao _ hi).mono ?_
    rintro e w0 ⟨rfl, hw⟩
    obtain rfl := hw.symm
    go_wp2
    go_ret
    exact ⟨rfl, Below.refl _ _⟩

set_option maxRecDepth 100000 in
theorem contract (H : Type) (enc : TypeId × Value → H) (W : World) (base : Nat) (args : Array Value) (ds gs : List (DataW H)) (before : List MemPlace)
    (hval : ∀ (j : Nat) t v, Try.f12.params[j]? = some t → args[j]? = some v → Value.okWide Try.prog W .any base t v)
    (hW : DataW.Whole enc Try.prog Try.f12.params.toList Rows.fnVotesSpec.vars false W args.toList ds gs before) :
    Calls Try.prog 12 args W fun e W' => ∃ v, e = .returned v ∧ Rows.fnVotesSpec.post enc Try.prog Try.f12 false true false false W args v W' := by
  have hW' := hW
  obtain ⟨p, q, hA0, hV, rfl, hfz, hnd⟩ := hW
  have hA : DataW.TrodAll enc Try.prog W 0 (fun _ => true) true Try.f12.params.toList args.toList ds p := hA0
  rw [Try.params12] at hA hval
  obtain ⟨v0, vs0, d0, ds0, p0, q0, hargs, rfl, rfl, h0, r0⟩ := trodAll_cons hA
  obtain ⟨rfl, rfl, rfl⟩ := trodAll_nil r0
  obtain rfl : args = #[v0] := by cases args; simp_all
  refine lawPost rfl rfl Try.underlying4 (by kernel_rfl) (by kernel_rfl) hW' (fun hg => by subst hg; exact ⟨rfl, rfl, rfl⟩) ?_
  exact walk_all v0 (hval 0 63 v0 rfl rfl) h0

set_option maxRecDepth 100000 in
theorem lifted (os : Os) (started : os.Started) (H : Type) (enc : TypeId × Value → H) :
    ReturnsInHanded {} Try.checked os 12 .any (Rows.fnVotesSpec.pre6 enc Try.prog Try.f12 Rows.fnVotesRow.domain false) (Rows.fnVotesSpec.post enc Try.prog Try.f12 false true false false) := by
  refine returnsInHanded_of_change (C := Try.checked) (s := Rows.fnVotesSpec) own started (by kernel_rfl) Try.func12
    (ChangeSpec.witness6 (enc := enc) (C := Try.checked) (s := Rows.fnVotesSpec) false ⟨#[], #[.slice none 0 0], []⟩ 8 (by kernel_rfl) (by kernel_rfl) (by kernel_rfl) (by kernel_rfl)) ?_
  intro W base args ds gs before hval hW _ _
  exact contract H enc W base args ds gs before hval hW

set_option maxRecDepth 100000 in
theorem said : Rows.FnVotesSaid :=
  OpenClaim.holds_of_wide 12 Try.f12 rfl rfl rfl rfl rfl rfl rfl ⟨rfl, rfl, rfl, rfl, rfl⟩ rfl rfl rfl rfl rfl (by kernel_rfl) Try.func12 (by kernel_rfl)
    (of_decide_eq_true (by kernel_rfl)) (by unfold Func.isWrapper; first | (rw [if_pos (by decide +kernel)]; kernel_rfl) | (rw [if_neg (by decide +kernel)]; exact ⟨rfl, rfl⟩))
    (fun os started H enc _ => lifted os started H enc)
end Go.Proofs.Ytoogofceoinniab.fnVotes
