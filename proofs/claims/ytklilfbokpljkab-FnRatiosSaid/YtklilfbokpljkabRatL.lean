/- FnRatios: for every code the law answers true; no condition. -/
import Derived.Test.YtklilfbokpljkabTdC
import Derived.Test.YtklilfbokpljkabTgQ
import Derived.Test.YtklilfbokpljkabTgE
import Derived.Test.YtklilfbokpljkabTgG
import Derived.Test.YtklilfbokpljkabTgH
import Derived.Test.YtklilfbokpljkabTjF
import Derived.Test.YtklilfbokpljkabTjG
import Derived.Test.YtklilfbokpljkabTjH
import Derived.Test.YtklilfbokpljkabVi
import Derived.Deep.CutBlock
import Derived.Deep.CutRange
import Derived.Deep.DeepCutAuto
namespace Go.Proofs.Ytklilfbokpljkab.fnRatios
open Go.ChangeShapes Go.WideShapes Go.ChangeAt Go.RowKit Go.ChangeMaps Go.Sort
set_option linter.unusedSimpArgs false
set_option linter.unusedVariables false

theorem own : ownKnob Try.prog.godebug = none := by kernel_rfl

theorem St.prs {w : World} {L : Nat} {v : Value} {xs : List (Int × Int)} (h : IntA2SO w L w.heap.size v xs) : St w (fun w' => IntA2SL w' w'.heap.size v xs) := fun w' hb => (h.lst.below hb).mono hb.size
theorem St.bx {w : World} {b : Nat} {cs : List Value} (h : Bx w b cs) : St w (fun w' => Bx w' b cs) := fun w' hb => h.below hb
theorem ne_same (a : Bool) : (a != a) = false := by cases a <;> rfl
set_option maxRecDepth 100000 in
set_option maxHeartbeats 4000000 in
theorem walk_main (ao : Option Addr) (n cap : Nat) (w : World) (hn : n ≤ 65536) (hcode : Code w w.heap.size ao n) :
    Calls Try.prog 11 #[.slice ao n cap] w fun e w' => e = .returned (.bool true) ∧ Below w.heap.size w w' := by
  have C0 : CodeArg w w.heap.size (.slice ao n cap) := ⟨Nat.le_refl _, ao, n, cap, rfl, hn, hcode⟩
  clear hcode
  have hni : (n : Int) ≤ 65536 := by omega
  have sb0 := St.chain w
  have sc0 := St.code C0
  clear C0
  go_enter Try.func11, Try.ntmps11
  go_wp2_with fail
  refine (vBig_no n cap ao w hni).mono ?_
  rintro e w1 ⟨rfl, hw1⟩
  obtain rfl := hw1.symm
  go_wp2_with fail
  refine (drawGr w _ _ sc0.now).mono ?_
  rintro e w2 ⟨v1, xs, s, rfl, hD⟩
  have sb_2 := sb0.step hD.below
  have sc_2 := sc0.step hD.below
  clear sb0 sc0
  have s13 := St.lst hD.own.lst
  obtain ⟨a1, c1, rfl⟩ := hD.own.form
  have hz1 : xs.length ≤ 1048576 := Nat.le_trans hD.len (by omega)
  have hw1 : wfSetting s := hD.bs.wf
  have hl1 : xs.length ≤ 200 := hD.len
  have hbs1 := hD.bs
  clear hD
  have N4 := (Below.refl w2.heap.size w2).alloc (Nat.le_refl _) (.cells #[.int .i64 s.pShort, .int .i64 s.pLong, .int .i64 s.pOn, .int .i64 s.pOff] 28)
  have b14 := St.bx (Bx.new w2 [.int .i64 s.pShort, .int .i64 s.pLong, .int .i64 s.pOn, .int .i64 s.pOff] 28)
  have sb_4 := sb_2.step N4
  have sc_4 := sc_2.step N4
  have s1_4 := s13.step N4
  clear sb_2 sc_2 s13 N4
  have qb10_1 := (b14.now).2 0 _ rfl
  have qb11_2 := (b14.now).2 1 _ rfl
  have qb12_3 := (b14.now).2 2 _ rfl
  have qb13_4 := (b14.now).2 3 _ rfl
  go_wp2_with fail
  refine (implGr xs _ s (aggS s) (w2.alloc (.cells #[.int .i64 s.pShort, .int .i64 s.pLong, .int .i64 s.pOn, .int .i64 s.pOff] 28)) _ s1_4.now rfl (Nat.le_refl _) hz1 (Nat.zero_le _) hw1).mono ?_
  clear qb10_1 qb11_2 qb12_3 qb13_4
  rintro e w5 ⟨rfl, hb5⟩
  have sb_5 := sb_4.step hb5
  have sc_5 := sc_4.step hb5
  have s1_5 := s1_4.step hb5
  have b1_5 := b14.step hb5
  clear sb_4 sc_4 s1_4 b14 hb5
  have qb10_5 := (b1_5.now).2 0 _ rfl
  have qb11_6 := (b1_5.now).2 1 _ rfl
  have qb12_7 := (b1_5.now).2 2 _ rfl
  have qb13_8 := (b1_5.now).2 3 _ rfl
  go_wp2_with fail
  refine (specGr xs _ s (aggS s) w5 _ s1_5.now rfl (Nat.le_refl _) hz1 (Nat.zero_le _) hw1).mono ?_
  clear qb10_5 qb11_6 qb12_7 qb13_8
  rintro e w6 ⟨rfl, hb6⟩
  have sb_6 := sb_5.step hb6
  have sc_6 := sc_5.step hb6
  have s1_6 := s1_5.step hb6
  have b1_6 := b1_5.step hb6
  clear sb_5 sc_5 s1_5 b1_5 hb6
  have HRF := Lib.hid (fun h => ratio_facts (xs := xs) (s := s) h)
  have CRA := Lib.hid (fun v w' (p : Int) (hp : I64 p) (h : Lst (Value.int .i64) w' w'.heap.size v xs) => implRa xs v s (aggS s) p w' _ h rfl (Nat.le_refl _) hz1 (Nat.zero_le _) hw1 hp)
  generalize atGr xs s = ag at *
  generalize numGr xs s = ng at *
  generalize denGr xs s = dg at *
  generalize okGr xs s = k1 at *
  have hq1 := ne_same k1
  obtain ⟨-, ⟨hlo0, hlo1⟩, -, -⟩ := id hbs1
  have qb10_9 := (b1_6.now).2 0 _ rfl
  have qb11_10 := (b1_6.now).2 1 _ rfl
  have qb12_11 := (b1_6.now).2 2 _ rfl
  have qb13_12 := (b1_6.now).2 3 _ rfl
  go_upto_block 0 with fail
  go_cut [13, 14, 15, 16] from 86 to 128 (fun _ _ _ _ wx => Below w6.heap.size w6 wx)
  case first =>
    have cb7 := St.chain w6
    clear qb10_9 qb11_10 qb12_11 qb13_12
    cases k1 with
    | false =>
      go_wp2_with fail
      go_loopw [13, 14, 15, 16] (fun i _ _ _ wr => i = .int .i64 (s.pLong - 1) ∧ Below w6.heap.size w6 wr) (fun _ _ _ _ _ => 0)
      case atStart => exact ⟨rfl, Below.refl _ _⟩
      case round =>
        obtain ⟨rfl, hbl⟩ := hrel
        by_cases hlt : s.pLong - 1 < (xs.length : Int)
        · go_wp2
          go_meet
          exact hbl
        · go_wp2
          go_meet
          exact hbl
    | true =>
      obtain ⟨⟨hgd, hg0, hg1, ⟨n0, n1⟩, d0, d1⟩, hR⟩ := HRF.out rfl
      have HR := Lib.hid hR
      clear hR HRF hgd
      have HS1 := Lib.hid s1_6
      have HB1 := Lib.hid b1_6
      clear s1_6 b1_6
      go_wp2_with fail
      go_loopw [13, 14, 15, 16] (fun i _ _ _ wr => ∃ j : Nat, i = .int .i64 (s.pLong - 1 + (j : Int)) ∧ j ≤ 300 ∧ (s.pLong - 1 + (j : Int) ≤ (xs.length : Int) ∨ j = 0) ∧ Below w6.heap.size w6 wr) (fun i _ _ _ _ => 1000 - (intOf i).toNat)
      case atStart => exact ⟨0, by simp, by omega, Or.inr rfl, Below.refl _ _⟩
      case round =>
        obtain ⟨j, rfl, hj3, hjl, hbl⟩ := hrel
        by_cases hlt : s.pLong - 1 + (j : Int) < (xs.length : Int)
        case neg =>
          go_wp2
          go_meet
          exact hbl
        obtain ⟨ho, ⟨a0, a1⟩, ⟨b0, b1⟩, hle, heq⟩ := HR.out (s.pLong - 1 + (j : Int)) (by omega) hlt
        have C := CRA.out _ wr (s.pLong - 1 + (j : Int)) (by unfold I64; omega) ((HS1.out.step hbl).now)
        rw [ho] at C
        clear ho
        generalize numRa xs s (s.pLong - 1 + (j : Int)) = a at *
        generalize denRa xs s (s.pLong - 1 + (j : Int)) = b at *
        have c0 := (HB1.out.step hbl).now.2 0 _ rfl
        have c1 := (HB1.out.step hbl).now.2 1 _ rfl
        have c2 := (HB1.out.step hbl).now.2 2 _ rfl
        have c3 := (HB1.out.step hbl).now.2 3 _ rfl
        have m1 := mul_bdQ a0 a1 (show 0 ≤ dg by omega) d1
        have m2 := mul_bdQ n0 n1 (show 0 ≤ b by omega) b1
        have t1 : wrap64 (a * dg) = a * dg := by unfold wrap64; omega
        have t2 : wrap64 (ng * b) = ng * b := by unfold wrap64; omega
        have u1 : IntKind.i64.wrap (a * dg) = a * dg := IntWalk.i64_in _ (by omega)
        have u2 : IntKind.i64.wrap (ng * b) = ng * b := IntWalk.i64_in _ (by omega)
        have g1 : ¬ ng * b < a * dg := Int.not_lt.2 hle
        clear m1 m2 hle
        have HC := Lib.hid C
        have HBL := Lib.hid hbl
        clear C hbl HR
        by_cases he : s.pLong - 1 + (j : Int) = ag
        · obtain ⟨q1, q2⟩ := heq he
          have g2 : (s.pLong - 1 + (j : Int) == ag) = true := by simpa using he
          subst q1 q2
          clear heq he
          go_wp2_with fail
          refine HC.out.mono ?_
          rintro e wA ⟨rfl, hA⟩
          have qA := HBL.out.trans (hA.mono HBL.out.size)
          clear c0 c1 c2 c3
          go_wp2
          go_roundw
          case rel => exact ⟨j + 1, by go_num, by omega, Or.inl (by omega), qA⟩
          case measure => simp [intOf]; omega
        · have g2 : (s.pLong - 1 + (j : Int) == ag) = false := by simpa using he
          clear heq
          go_wp2_with fail
          refine HC.out.mono ?_
          rintro e wA ⟨rfl, hA⟩
          have qA := HBL.out.trans (hA.mono HBL.out.size)
          clear c0 c1 c2 c3
          go_wp2
          go_roundw
          case rel => exact ⟨j + 1, by go_num, by omega, Or.inl (by omega), qA⟩
          case measure => simp [intOf]; omega
  case rest =>
    have hb8 := hcut
    clear hcut
    obtain ⟨w8, hwc8⟩ : ∃ x, x = wc := ⟨wc, rfl⟩
    subst hwc8
    have sb_8 := sb_6.step hb8
    have sc_8 := sc_6.step hb8
    have s1_8 := s1_6.step hb8
    have b1_8 := b1_6.step hb8
    clear sb_6 sc_6 s1_6 b1_6 hb8
    clear HRF CRA hq1 qb10_9 qb11_10 qb12_11 qb13_12
    clear s1_8 b1_8
    go_wp2_with fail
    refine (drawLe w8 _ _ sc_8.now).mono ?_
    rintro e w9 ⟨v2, ys, t, rfl, hD⟩
    have sb_9 := sb_8.step hD.below
    have sc_9 := sc_8.step hD.below
    clear sb_8 sc_8
    have s210 := St.lst hD.own.lst
    obtain ⟨a2, c2, rfl⟩ := hD.own.form
    have hz2 : ys.length ≤ 1048576 := Nat.le_trans hD.len (by omega)
    have hw2 : wfSetting t := hD.bs.wf
    have hl2 : ys.length ≤ 200 := hD.len
    have hbs2 := hD.bs
    clear hD
    have N11 := (Below.refl w9.heap.size w9).alloc (Nat.le_refl _) (.cells #[.int .i64 t.pShort, .int .i64 t.pLong, .int .i64 t.pOn, .int .i64 t.pOff] 28)
    have b211 := St.bx (Bx.new w9 [.int .i64 t.pShort, .int .i64 t.pLong, .int .i64 t.pOn, .int .i64 t.pOff] 28)
    have sb_11 := sb_9.step N11
    have sc_11 := sc_9.step N11
    have s2_11 := s210.step N11
    clear sb_9 sc_9 s210 N11
    have qb20_13 := (b211.now).2 0 _ rfl
    have qb21_14 := (b211.now).2 1 _ rfl
    have qb22_15 := (b211.now).2 2 _ rfl
    have qb23_16 := (b211.now).2 3 _ rfl
    go_wp2_with fail
    refine (implLe ys _ t (aggS t) (w9.alloc (.cells #[.int .i64 t.pShort, .int .i64 t.pLong, .int .i64 t.pOn, .int .i64 t.pOff] 28)) _ s2_11.now rfl (Nat.le_refl _) hz2 (Nat.zero_le _) hw2).mono ?_
    clear qb20_13 qb21_14 qb22_15 qb23_16
    rintro e w12 ⟨rfl, hb12⟩
    have sb_12 := sb_11.step hb12
    have sc_12 := sc_11.step hb12
    have s2_12 := s2_11.step hb12
    have b2_12 := b211.step hb12
    clear sb_11 sc_11 s2_11 b211 hb12
    have qb20_17 := (b2_12.now).2 0 _ rfl
    have qb21_18 := (b2_12.now).2 1 _ rfl
    have qb22_19 := (b2_12.now).2 2 _ rfl
    have qb23_20 := (b2_12.now).2 3 _ rfl
    go_wp2_with fail
    refine (specLe ys _ t (aggS t) w12 _ s2_12.now rfl (Nat.le_refl _) hz2 (Nat.zero_le _) hw2).mono ?_
    clear qb20_17 qb21_18 qb22_19 qb23_20
    rintro e w13 ⟨rfl, hb13⟩
    have sb_13 := sb_12.step hb13
    have sc_13 := sc_12.step hb13
    have s2_13 := s2_12.step hb13
    have b2_13 := b2_12.step hb13
    clear sb_12 sc_12 s2_12 b2_12 hb13
    have HLF := Lib.hid (fun h => least_facts (xs := ys) (s := t) h)
    generalize numLe ys t = lv at *
    generalize okLe ys t = k2 at *
    have hq2 := ne_same k2
    go_upto_if 154 with fail
    go_cut [23, 24, 25, 26] from 155 to 199 (fun _ _ _ _ wx => Below w13.heap.size w13 wx)
    case first =>
      have cb14 := St.chain w13
      cases k2 with
      | false =>
        go_wp2
        go_meet
        exact cb14.now
      | true =>
        obtain ⟨⟨l0, l1, l2⟩, ⟨f1, f2⟩, hlt⟩ := HLF.out rfl
        have HLT := Lib.hid hlt
        clear HLF hlt
        have CO : Hid (∀ v w' (x : Int), I64 x → Lst (Value.int .i64) w' w'.heap.size v ys → Calls Try.prog 29 #[v, .agg #[.int .i64 t.pShort, .int .i64 t.pLong, .int .i64 x, .int .i64 t.pOff]] w' fun e w9 => ∃ v', e = .returned (.tuple #[v', .bool (goodTg ys (setOn t x))]) ∧ Own (Value.int .i64) w9 w'.heap.size w9.heap.size v' (onsT ys (setOn t x)) ∧ Below w'.heap.size w' w9) := Lib.hid (fun v w' x hx h => implOns ys v (setOn t x) (aggS (setOn t x)) w' _ h rfl (Nat.le_refl _) hz2 (Nat.zero_le _) ⟨hw2.1, hw2.2.1, hx, hw2.2.2.2⟩)
        have C1 := CO.out _ w13 lv (by unfold I64; omega) s2_13.now
        rw [f1, f2] at C1
        clear f1 f2
        have HC1 := Lib.hid C1
        clear C1
        have qb20_1 := (b2_13.now).2 0 _ rfl
        have qb21_2 := (b2_13.now).2 1 _ rfl
        have qb22_3 := (b2_13.now).2 2 _ rfl
        have qb23_4 := (b2_13.now).2 3 _ rfl
        go_wp2_with fail
        refine (HC1.out).mono ?_
        clear qb20_1 qb21_2 qb22_3 qb23_4
        rintro e w15 ⟨y1, rfl, hO1, hb15⟩
        have sb_15 := sb_13.step hb15
        have sc_15 := sc_13.step hb15
        have s2_15 := s2_13.step hb15
        have b2_15 := b2_13.step hb15
        have cb_15 := cb14.step hb15
        clear sb_13 sc_13 s2_13 b2_13 cb14 hb15
        obtain ⟨d1, e1, rfl⟩ := hO1.form
        clear hO1 HC1
        have qb20_5 := (b2_15.now).2 0 _ rfl
        have qb21_6 := (b2_15.now).2 1 _ rfl
        have qb22_7 := (b2_15.now).2 2 _ rfl
        have qb23_8 := (b2_15.now).2 3 _ rfl
        by_cases hgt : t.pOff < lv
        case neg =>
          go_wp2
          go_meet
          exact cb_15.now
        obtain ⟨f3, f4⟩ := HLT.out hgt
        have C2 := CO.out _ w15 (lv - 1) (by unfold I64; omega) s2_15.now
        rw [f3] at C2
        clear f3
        generalize onsT ys (setOn t (lv - 1)) = ol at *
        have t3 : IntKind.i64.wrap (lv - 1) = lv - 1 := IntWalk.i64_in _ (by omega)
        have t4 : ((ol.length : Int) == 0) = false := by simp; intro h; rw [h] at f4; simp at f4
        have HC2 := Lib.hid C2
        clear C2 CO HLT
        go_wp2_with fail
        refine (HC2.out).mono ?_
        rintro e w16 ⟨y2, rfl, hO2, hb16⟩
        have sb_16 := sb_15.step hb16
        have sc_16 := sc_15.step hb16
        have s2_16 := s2_15.step hb16
        have b2_16 := b2_15.step hb16
        have cb_16 := cb_15.step hb16
        clear sb_15 sc_15 s2_15 b2_15 cb_15 hb16
        obtain ⟨d2, e2, rfl⟩ := hO2.form
        clear hO2 HC2
        go_wp2
        go_meet
        exact cb_16.now
    case rest =>
      have hb15 := hcut
      clear hcut
      obtain ⟨w15, hwc15⟩ : ∃ x, x = wc := ⟨wc, rfl⟩
      subst hwc15
      have sb_15 := sb_13.step hb15
      have sc_15 := sc_13.step hb15
      have s2_15 := s2_13.step hb15
      have b2_15 := b2_13.step hb15
      clear sb_13 sc_13 s2_13 b2_13 hb15
      clear HLF hq2
      clear s2_15 b2_15
      go_wp2_with fail
      refine (drawFm w15 _ _ sc_15.now).mono ?_
      rintro e w16 ⟨v3, zs, u, rfl, hD⟩
      have sb_16 := sb_15.step hD.below
      have sc_16 := sc_15.step hD.below
      clear sb_15 sc_15
      have s317 := St.lst hD.own.lst
      obtain ⟨a3, c3, rfl⟩ := hD.own.form
      have hz3 : zs.length ≤ 1048576 := Nat.le_trans hD.len (by omega)
      have hw3 : wfSetting u := hD.bs.wf
      have hl3 : zs.length ≤ 200 := hD.len
      have hbs3 := hD.bs
      clear hD
      have N18 := (Below.refl w16.heap.size w16).alloc (Nat.le_refl _) (.cells #[.int .i64 u.pShort, .int .i64 u.pLong, .int .i64 u.pOn, .int .i64 u.pOff] 28)
      have b318 := St.bx (Bx.new w16 [.int .i64 u.pShort, .int .i64 u.pLong, .int .i64 u.pOn, .int .i64 u.pOff] 28)
      have sb_18 := sb_16.step N18
      have sc_18 := sc_16.step N18
      have s3_18 := s317.step N18
      clear sb_16 sc_16 s317 N18
      have qb30_21 := (b318.now).2 0 _ rfl
      have qb31_22 := (b318.now).2 1 _ rfl
      have qb32_23 := (b318.now).2 2 _ rfl
      have qb33_24 := (b318.now).2 3 _ rfl
      go_wp2_with fail
      refine (implFm zs _ u (aggS u) (w16.alloc (.cells #[.int .i64 u.pShort, .int .i64 u.pLong, .int .i64 u.pOn, .int .i64 u.pOff] 28)) _ s3_18.now rfl (Nat.le_refl _) hz3 (Nat.zero_le _) hw3).mono ?_
      clear qb30_21 qb31_22 qb32_23 qb33_24
      rintro e w19 ⟨rfl, hb19⟩
      have sb_19 := sb_18.step hb19
      have sc_19 := sc_18.step hb19
      have s3_19 := s3_18.step hb19
      have b3_19 := b318.step hb19
      clear sb_18 sc_18 s3_18 b318 hb19
      have qb30_25 := (b3_19.now).2 0 _ rfl
      have qb31_26 := (b3_19.now).2 1 _ rfl
      have qb32_27 := (b3_19.now).2 2 _ rfl
      have qb33_28 := (b3_19.now).2 3 _ rfl
      go_wp2_with fail
      refine (specFm zs _ u (aggS u) w19 _ s3_19.now rfl (Nat.le_refl _) hz3 (Nat.zero_le _) hw3).mono ?_
      clear qb30_25 qb31_26 qb32_27 qb33_28
      rintro e w20 ⟨rfl, hb20⟩
      have sb_20 := sb_19.step hb20
      have sc_20 := sc_19.step hb20
      have s3_20 := s3_19.step hb20
      have b3_20 := b3_19.step hb20
      clear sb_19 sc_19 s3_19 b3_19 hb20
      generalize numFm zs u = fm at *
      generalize okFm zs u = k3 at *
      have hq3 := ne_same k3
      clear s3_20 b3_20
      go_wp2_with fail
      refine (drawRA w20 _ _ sc_20.now).mono ?_
      rintro e w21 ⟨v4, ps, x, p, rfl, hp4, hD⟩
      have sb_21 := sb_20.step hD.below
      have sc_21 := sc_20.step hD.below
      clear sb_20 sc_20
      have s422 := St.lst hD.own.lst
      obtain ⟨a4, c4, rfl⟩ := hD.own.form
      have hz4 : ps.length ≤ 1048576 := Nat.le_trans hD.len (by omega)
      have hw4 : wfSetting x := hD.bs.wf
      have hl4 : ps.length ≤ 200 := hD.len
      have hbs4 := hD.bs
      clear hD
      have hI4 : I64 p := by unfold I64; omega
      have N23 := (Below.refl w21.heap.size w21).alloc (Nat.le_refl _) (.cells #[.int .i64 x.pShort, .int .i64 x.pLong, .int .i64 x.pOn, .int .i64 x.pOff] 28)
      have b423 := St.bx (Bx.new w21 [.int .i64 x.pShort, .int .i64 x.pLong, .int .i64 x.pOn, .int .i64 x.pOff] 28)
      have sb_23 := sb_21.step N23
      have sc_23 := sc_21.step N23
      have s4_23 := s422.step N23
      clear sb_21 sc_21 s422 N23
      clear sc_23
      clear hq3
      have qb40_29 := (b423.now).2 0 _ rfl
      have qb41_30 := (b423.now).2 1 _ rfl
      have qb42_31 := (b423.now).2 2 _ rfl
      have qb43_32 := (b423.now).2 3 _ rfl
      go_wp2_with fail
      refine (implRa ps _ x (aggS x) p (w21.alloc (.cells #[.int .i64 x.pShort, .int .i64 x.pLong, .int .i64 x.pOn, .int .i64 x.pOff] 28)) _ s4_23.now rfl (Nat.le_refl _) hz4 (Nat.zero_le _) hw4 hI4).mono ?_
      clear qb40_29 qb41_30 qb42_31 qb43_32
      rintro e w24 ⟨rfl, hb24⟩
      have sb_24 := sb_23.step hb24
      have s4_24 := s4_23.step hb24
      have b4_24 := b423.step hb24
      clear sb_23 s4_23 b423 hb24
      have qb40_33 := (b4_24.now).2 0 _ rfl
      have qb41_34 := (b4_24.now).2 1 _ rfl
      have qb42_35 := (b4_24.now).2 2 _ rfl
      have qb43_36 := (b4_24.now).2 3 _ rfl
      go_wp2_with fail
      refine (specRa ps _ x (aggS x) p w24 _ s4_24.now rfl (Nat.le_refl _) hz4 (Nat.zero_le _) hw4 hI4).mono ?_
      clear qb40_33 qb41_34 qb42_35 qb43_36
      rintro e w25 ⟨rfl, hb25⟩
      have sb_25 := sb_24.step hb25
      have s4_25 := s4_24.step hb25
      have b4_25 := b4_24.step hb25
      clear sb_24 s4_24 b4_24 hb25
      generalize numRa ps x p = x1 at *
      generalize denRa ps x p = x2 at *
      generalize okRa ps x p = x3 at *
      go_wp2
      go_ret
      exact ⟨by first | rfl | exact ret_bool (by simp), sb_25.now⟩

set_option maxRecDepth 100000 in
theorem walk_all (v : Value) {H : Type} {enc : TypeId × Value → H} {base : Nat} {d : DataW H} {ps : List MemPlace} {w : World} (hval : Value.okWide Try.prog w .any base 48 v)
    (hd : DataW.Trod enc Try.prog w 0 (fun _ => true) true 48 v d ps) :
    Calls Try.prog 11 #[v] w fun e w' => e = .returned (.bool true) ∧ Below w.heap.size w w' := by
  obtain ⟨ao, n, cap, rfl, hn, hc⟩ := open_code Try.underlying48 Try.underlying5 (by kernel_rfl) hval hd
  by_cases h : n ≤ 65536
  · exact walk_main ao n cap w h hc
  · have hi : (65536 : Int) < n := by omega
    go_enter Try.func11, Try.ntmps11
    go_wp2_with fail
    refine (vBig_yes n cap ao _ hi).mono ?_
    rintro e w0 ⟨rfl, hw⟩
    obtain rfl := hw.symm
    go_wp2
    go_ret
    exact ⟨rfl, Below.refl _ _⟩

set_option maxRecDepth 100000 in
theorem contract (H : Type) (enc : TypeId × Value → H) (W : World) (base : Nat) (args : Array Value) (ds gs : List (DataW H)) (before : List MemPlace)
    (hval : ∀ (j : Nat) t v, Try.f11.params[j]? = some t → args[j]? = some v → Value.okWide Try.prog W .any base t v)
    (hW : DataW.Whole enc Try.prog Try.f11.params.toList Rows.fnRatiosSpec.vars false W args.toList ds gs before) :
    Calls Try.prog 11 args W fun e W' => ∃ v, e = .returned v ∧ Rows.fnRatiosSpec.post enc Try.prog Try.f11 false true false false W args v W' := by
  have hW' := hW
  obtain ⟨p, q, hA0, hV, rfl, hfz, hnd⟩ := hW
  have hA : DataW.TrodAll enc Try.prog W 0 (fun _ => true) true Try.f11.params.toList args.toList ds p := hA0
  rw [Try.params11] at hA hval
  obtain ⟨v0, vs0, d0, ds0, p0, q0, hargs, rfl, rfl, h0, r0⟩ := trodAll_cons hA
  obtain ⟨rfl, rfl, rfl⟩ := trodAll_nil r0
  obtain rfl : args = #[v0] := by cases args; simp_all
  refine lawPost rfl rfl Try.underlying4 (by kernel_rfl) (by kernel_rfl) hW' (fun hg => by subst hg; exact ⟨rfl, rfl, rfl⟩) ?_
  exact walk_all v0 (hval 0 48 v0 rfl rfl) h0

set_option maxRecDepth 100000 in
theorem lifted (os : Os) (started : os.Started) (H : Type) (enc : TypeId × Value → H) :
    ReturnsInHanded {} Try.checked os 11 .any (Rows.fnRatiosSpec.pre6 enc Try.prog Try.f11 Rows.fnRatiosRow.domain false) (Rows.fnRatiosSpec.post enc Try.prog Try.f11 false true false false) := by
  refine returnsInHanded_of_change (C := Try.checked) (s := Rows.fnRatiosSpec) own started (by kernel_rfl) Try.func11
    (ChangeSpec.witness6 (enc := enc) (C := Try.checked) (s := Rows.fnRatiosSpec) false ⟨#[], #[.slice none 0 0], []⟩ 8 (by kernel_rfl) (by kernel_rfl) (by kernel_rfl) (by kernel_rfl)) ?_
  intro W base args ds gs before hval hW _ _
  exact contract H enc W base args ds gs before hval hW

set_option maxRecDepth 100000 in
theorem said : Rows.FnRatiosSaid :=
  OpenClaim.holds_of_wide 11 Try.f11 rfl rfl rfl rfl rfl rfl rfl ⟨rfl, rfl, rfl, rfl, rfl⟩ rfl rfl rfl rfl rfl (by kernel_rfl) Try.func11 (by kernel_rfl)
    (of_decide_eq_true (by kernel_rfl)) (by unfold Func.isWrapper; first | (rw [if_pos (by decide +kernel)]; kernel_rfl) | (rw [if_neg (by decide +kernel)]; exact ⟨rfl, rfl⟩))
    (fun os started H enc _ => lifted os started H enc)
end Go.Proofs.Ytklilfbokpljkab.fnRatios
