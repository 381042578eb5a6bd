/- FnTriggers: for every code the law answers true; no condition. -/
import Derived.Test.YtklilfbokpljkabTdC
import Derived.Test.YtklilfbokpljkabTgQ
import Derived.Test.YtklilfbokpljkabTgE
import Derived.Test.YtklilfbokpljkabTgG
import Derived.Test.YtklilfbokpljkabTgH
import Derived.Test.YtklilfbokpljkabTjF
import Derived.Test.YtklilfbokpljkabTjG
import Derived.Test.YtklilfbokpljkabTjH
import Derived.Test.YtklilfbokpljkabVi
import Derived.Deep.CutBlock
import Derived.Deep.CutRange
import Derived.Deep.DeepCutAuto
namespace Go.Proofs.Ytklilfbokpljkab.fnTriggers
open Go.ChangeShapes Go.WideShapes Go.ChangeAt Go.RowKit Go.ChangeMaps Go.Sort
set_option linter.unusedSimpArgs false
set_option linter.unusedVariables false

theorem own : ownKnob Try.prog.godebug = none := by kernel_rfl

theorem St.prs {w : World} {L : Nat} {v : Value} {xs : List (Int × Int)} (h : IntA2SO w L w.heap.size v xs) : St w (fun w' => IntA2SL w' w'.heap.size v xs) := fun w' hb => (h.lst.below hb).mono hb.size
theorem St.bx {w : World} {b : Nat} {cs : List Value} (h : Bx w b cs) : St w (fun w' => Bx w' b cs) := fun w' hb => h.below hb
theorem ne_same (a : Bool) : (a != a) = false := by cases a <;> rfl
set_option maxRecDepth 100000 in
set_option maxHeartbeats 4000000 in
theorem walk_main (ao : Option Addr) (n cap : Nat) (w : World) (hn : n ≤ 65536) (hcode : Code w w.heap.size ao n) :
    Calls Try.prog 12 #[.slice ao n cap] w fun e w' => e = .returned (.bool true) ∧ Below w.heap.size w w' := by
  have C0 : CodeArg w w.heap.size (.slice ao n cap) := ⟨Nat.le_refl _, ao, n, cap, rfl, hn, hcode⟩
  clear hcode
  have hni : (n : Int) ≤ 65536 := by omega
  have sb0 := St.chain w
  have sc0 := St.code C0
  clear C0
  go_enter Try.func12, Try.ntmps12
  go_wp2_with fail
  refine (vBig_no n cap ao w hni).mono ?_
  rintro e w1 ⟨rfl, hw1⟩
  obtain rfl := hw1.symm
  go_wp2_with fail
  refine (drawTg w _ _ sc0.now).mono ?_
  rintro e w2 ⟨v1, xs, s, rfl, hD⟩
  have sb_2 := sb0.step hD.below
  have sc_2 := sc0.step hD.below
  clear sb0 sc0
  have s13 := St.lst hD.own.lst
  obtain ⟨a1, c1, rfl⟩ := hD.own.form
  have hz1 : xs.length ≤ 1048576 := Nat.le_trans hD.len (by omega)
  have hw1 : wfSetting s := hD.bs.wf
  have hl1 : xs.length ≤ 200 := hD.len
  have hbs1 := hD.bs
  clear hD
  have N4 := (Below.refl w2.heap.size w2).alloc (Nat.le_refl _) (.cells #[.int .i64 s.pShort, .int .i64 s.pLong, .int .i64 s.pOn, .int .i64 s.pOff] 28)
  have b14 := St.bx (Bx.new w2 [.int .i64 s.pShort, .int .i64 s.pLong, .int .i64 s.pOn, .int .i64 s.pOff] 28)
  have sb_4 := sb_2.step N4
  have sc_4 := sc_2.step N4
  have s1_4 := s13.step N4
  clear sb_2 sc_2 s13 N4
  have HTF := Lib.hid (fun h => times_facts (xs := xs) (s := s) h)
  have HNX := Lib.hid (fun k q r h h2 => timesT_next (xs := xs) (s := s) (k := k) (q := q) (r := r) h h2)
  have HMM := Lib.hid (fun q h => timesT_mem xs s (q := q) h)
  have HCT := Lib.hid (count_times xs s)
  have HBD := Lib.hid (fun k => bst_bd xs s k)
  have HIO := Lib.hid (fun h i hi => isOn_facts (xs := xs) (s := s) h i hi)
  have HLN := Lib.hid (ons_trg_len xs s)
  have HTL := Lib.hid (timesT_len xs s)
  have CIO := Lib.hid (fun v w' (p : Int) (hp : I64 p) (h : Lst (Value.int .i64) w' w'.heap.size v xs) => implIoa xs v s (aggS s) p w' _ h rfl (Nat.le_refl _) hz1 (Nat.zero_le _) hw1 hp)
  have CLO := Lib.hid (fun v w' (h : Lst (Value.int .i64) w' w'.heap.size v xs) => implLon xs v s (aggS s) w' _ h rfl (Nat.le_refl _) hz1 (Nat.zero_le _) hw1)
  have CIG := Lib.hid (fun w' => implGoodS s _ w' rfl hw1)
  have CSG := Lib.hid (fun w' => specIsSet s (aggS s) w' _ rfl (Nat.le_refl _) (Nat.zero_le _) hw1)
  have CTI := Lib.hid (fun v w' (h : Lst (Value.int .i64) w' w'.heap.size v xs) => implTrg xs v s (aggS s) w' _ h rfl (Nat.le_refl _) hz1 (Nat.zero_le _) hw1)
  have CTS := Lib.hid (fun v w' (h : Lst (Value.int .i64) w' w'.heap.size v xs) => specTrg xs v s (aggS s) w' _ h rfl (Nat.le_refl _) hz1 (Nat.zero_le _) hw1)
  have COI := Lib.hid (fun v w' (h : Lst (Value.int .i64) w' w'.heap.size v xs) => implOns xs v s (aggS s) w' _ h rfl (Nat.le_refl _) hz1 (Nat.zero_le _) hw1)
  have COS := Lib.hid (fun v w' (h : Lst (Value.int .i64) w' w'.heap.size v xs) => specOns xs v s (aggS s) w' _ h rfl (Nat.le_refl _) hz1 (Nat.zero_le _) hw1)
  generalize goodTg xs s = gd at *
  generalize trgT xs s = tl at *
  generalize onsT xs s = ol at *
  generalize timesT xs s = tms at *
  generalize atLo xs s = la at *
  generalize lenLo xs s = ll at *
  generalize okLo xs s = lk at *
  generalize goodS s = gs at *
  have qb10_1 := (b14.now).2 0 _ rfl
  have qb11_2 := (b14.now).2 1 _ rfl
  have qb12_3 := (b14.now).2 2 _ rfl
  have qb13_4 := (b14.now).2 3 _ rfl
  go_wp2_with fail
  refine (CTI.out _ (w2.alloc (.cells #[.int .i64 s.pShort, .int .i64 s.pLong, .int .i64 s.pOn, .int .i64 s.pOff] 28)) s1_4.now).mono ?_
  clear qb10_1 qb11_2 qb12_3 qb13_4
  rintro e w5 ⟨y1, rfl, hO1, hb5⟩
  have sb_5 := sb_4.step hb5
  have sc_5 := sc_4.step hb5
  have s1_5 := s1_4.step hb5
  have b1_5 := b14.step hb5
  clear sb_4 sc_4 s1_4 b14 hb5
  have p16 := St.prs hO1
  obtain ⟨d1, e1, rfl⟩ := hO1.form
  clear hO1
  have qb10_5 := (b1_5.now).2 0 _ rfl
  have qb11_6 := (b1_5.now).2 1 _ rfl
  have qb12_7 := (b1_5.now).2 2 _ rfl
  have qb13_8 := (b1_5.now).2 3 _ rfl
  go_wp2_with fail
  refine (CTS.out _ w5 s1_5.now).mono ?_
  clear qb10_5 qb11_6 qb12_7 qb13_8
  rintro e w7 ⟨y2, rfl, hO2, hb7⟩
  have sb_7 := sb_5.step hb7
  have sc_7 := sc_5.step hb7
  have s1_7 := s1_5.step hb7
  have b1_7 := b1_5.step hb7
  have p1_7 := p16.step hb7
  clear sb_5 sc_5 s1_5 b1_5 p16 hb7
  have p28 := St.prs hO2
  obtain ⟨d2, e2, rfl⟩ := hO2.form
  clear hO2 CTI CTS
  have qb10_9 := (b1_7.now).2 0 _ rfl
  have qb11_10 := (b1_7.now).2 1 _ rfl
  have qb12_11 := (b1_7.now).2 2 _ rfl
  have qb13_12 := (b1_7.now).2 3 _ rfl
  have cv := fun d os => Calls.regrown_of (w := w7) (d := d) (os := os) (vPairs_same tl _ _ _ _ ((p1_7.step (below_regrown w7 d os)).now) ((p28.step (below_regrown w7 d os)).now) (Nat.le_refl _))
  have ci := fun d os => Calls.regrown_of (w := w7) (d := d) (os := os) (CIG.out _)
  have cs := fun d os => Calls.regrown_of (w := w7) (d := d) (os := os) (CSG.out _)
  have r0 := cell_regrown qb10_9
  have r1 := cell_regrown qb11_10
  have r2 := cell_regrown qb12_11
  have r3 := cell_regrown qb13_12
  have hne1 := ne_same gd
  have hne2 := ne_same gs
  clear qb10_9 qb11_10 qb12_11 qb13_12
  go_wp2
  refine wp_region_quiet_below (by kernel_rfl) (by kernel_rfl) ?_
  repeat (go_big_quiet_step (first | with_reducible exact cv _ _ | with_reducible exact ci _ _ | with_reducible exact cs _ _))
  refine wpQuiet_nil ?_
  intro _ hw'
  obtain ⟨⟨dq, osq⟩, hw''⟩ := hw'
  subst hw''
  have hbq := below_regrown (w7) dq osq
  generalize grow (redrawn (w7) dq) osq = wq at *
  clear p28
  have sb_q := sb_7.step hbq
  have sc_q := sc_7.step hbq
  have s1_q := s1_7.step hbq
  have b1_q := b1_7.step hbq
  have p1_q := p1_7.step hbq
  clear sb_7 sc_7 s1_7 b1_7 p1_7
  clear hbq cv ci cs r0 r1 r2 r3 hne2 CIG CSG
  have qb10_13 := (b1_q.now).2 0 _ rfl
  have qb11_14 := (b1_q.now).2 1 _ rfl
  have qb12_15 := (b1_q.now).2 2 _ rfl
  have qb13_16 := (b1_q.now).2 3 _ rfl
  go_wp2_with fail
  refine (COI.out _ wq s1_q.now).mono ?_
  clear qb10_13 qb11_14 qb12_15 qb13_16
  rintro e w9 ⟨y3, rfl, hO3, hb9⟩
  have sb_9 := sb_q.step hb9
  have sc_9 := sc_q.step hb9
  have s1_9 := s1_q.step hb9
  have b1_9 := b1_q.step hb9
  have p1_9 := p1_q.step hb9
  clear sb_q sc_q s1_q b1_q p1_q hb9
  have i110 := St.own hO3
  obtain ⟨d3, e3, rfl⟩ := hO3.form
  clear hO3
  have qb10_17 := (b1_9.now).2 0 _ rfl
  have qb11_18 := (b1_9.now).2 1 _ rfl
  have qb12_19 := (b1_9.now).2 2 _ rfl
  have qb13_20 := (b1_9.now).2 3 _ rfl
  go_wp2_with fail
  refine (COS.out _ w9 s1_9.now).mono ?_
  clear qb10_17 qb11_18 qb12_19 qb13_20
  rintro e w11 ⟨y4, rfl, hO4, hb11⟩
  have sb_11 := sb_9.step hb11
  have sc_11 := sc_9.step hb11
  have s1_11 := s1_9.step hb11
  have b1_11 := b1_9.step hb11
  have p1_11 := p1_9.step hb11
  have i1_11 := i110.step hb11
  clear sb_9 sc_9 s1_9 b1_9 p1_9 i110 hb11
  have i212 := St.own hO4
  obtain ⟨d4, e4, rfl⟩ := hO4.form
  clear hO4 COI COS
  have hlne : (((ol.length : Nat) : Int) != ((tl.length : Nat) : Int)) = false := by rw [HLN.out]; simp
  go_wp2_with fail
  refine (vInts_same ol _ _ w11 _ i1_11.now i212.now (Nat.le_refl _)).mono ?_
  rintro e w13 ⟨rfl, hb13⟩
  have sb_13 := sb_11.step hb13
  have sc_13 := sc_11.step hb13
  have s1_13 := s1_11.step hb13
  have b1_13 := b1_11.step hb13
  have p1_13 := p1_11.step hb13
  have i1_13 := i1_11.step hb13
  have i2_13 := i212.step hb13
  clear sb_11 sc_11 s1_11 b1_11 p1_11 i1_11 i212 hb13
  clear i1_13 i2_13
  go_upto_if 107 with fail
  go_cut [13, 14, 15, 16, 17, 18, 19, 20, 21, 22, 23] from 108 to 191 (fun _ _ _ _ _ _ _ _ _ _ _ wx => Below w13.heap.size w13 wx)
  case first =>
    have cb14 := St.chain w13
    cases gd with
    | false =>
      go_wp2
      go_meet
      exact cb14.now
    | true =>
      obtain ⟨hn24, htl, hll, hlk, hol⟩ := HTF.out rfl
      subst htl
      have HLL := Lib.hid hll
      have HLK := Lib.hid hlk
      have hio := HIO.out rfl
      have HIO2 := Lib.hid hio
      have htl24 : tl.length ≤ 24 := Nat.le_trans HTL.out hn24
      clear HTF hol hll hlk hne1 hlne HIO hio HTL
      have HP1 := Lib.hid p1_13
      have HS1 := Lib.hid s1_13
      have HB1 := Lib.hid b1_13
      clear p1_13 s1_13 b1_13
      go_wp2_with fail
      go_loopw [13, 14, 15] (fun a m i wr => ∃ k : Nat, k ≤ tl.length ∧ i = .int .i64 k ∧ a = .int .i64 (sumD (tl.take k)) ∧ m = .int .i64 (bstP (tl.take k)).2 ∧ Below w13.heap.size w13 wr) (fun _ _ i _ => tl.length - (intOf i).toNat)
      case atStart => exact ⟨0, Nat.zero_le _, rfl, rfl, rfl, Below.refl _ _⟩
      case round =>
        obtain ⟨k, hk, rfl, rfl, rfl, hbl⟩ := hrel
        by_cases hlt : k < tl.length
        case pos =>
          obtain ⟨q, hq⟩ := get_of_lt hlt
          obtain ⟨ao9, cap9, e9, -, -, -, hc9⟩ := (HP1.out.step hbl).now
          simp only [Value.slice.injEq, true_and] at e9
          obtain ⟨rfl, rfl⟩ := e9
          obtain ⟨b, off, rfl, hbb, hce⟩ := hc9 k q hq
          have hm := HMM.out q (List.mem_of_getElem? hq)
          have hsm := sumD_take hq
          have hbs := bstP_take hq
          have hsb := sumD_bd (n := 24) (tl.take k) (fun r hr => by have := HMM.out r (List.mem_of_mem_take hr); omega)
          have htk : (tl.take k).length = k := by rw [List.length_take]; omega
          rw [htk] at hsb
          have hbd := HBD.out k
          have f0 : wr.cell? ⟨b, off + k * 2, none⟩ = some (.int .i64 q.1) := hce 0 _ rfl
          have f1 : wr.cell? ⟨b, off + k * 2 + 1, none⟩ = some (.int .i64 q.2) := hce 1 _ rfl
          have hk0 : (0 : Int) ≤ (k : Int) := by omega
          have hk1 : (k : Int) < (tl.length : Int) := by omega
          have t1 : IntKind.i64.wrap (q.2 - q.1) = q.2 - q.1 := IntWalk.i64_in _ (by omega)
          have g1 : ¬ q.2 - q.1 < 1 := by omega
          have g1b : decide (q.2 - q.1 < 1) = false := decide_eq_false g1
          have HMX : Hid ((bstP (tl.take k)).2 < q.2 - q.1 → (bstP (tl.take (k + 1))).2 = q.2 - q.1) := Lib.hid (fun h => by rw [hbs]; unfold stepP; rw [if_pos h])
          have HMN : Hid (q.2 - q.1 ≤ (bstP (tl.take k)).2 → (bstP (tl.take (k + 1))).2 = (bstP (tl.take k)).2) := Lib.hid (fun h => by rw [hbs]; unfold stepP; rw [if_neg (by omega)])
          have HSM := Lib.hid hsm
          have HBL := Lib.hid hbl
          clear hsm hbs hce
          generalize sumD (tl.take k) = sk at *
          generalize (bstP (tl.take k)).2 = mk at *
          obtain ⟨-, -, mk0, mk1⟩ := hbd
          obtain ⟨sk0, sk1⟩ := hsb
          obtain ⟨hm0, hm1, hm2⟩ := hm
          clear htk
          have t2 : IntKind.i64.wrap (sk + (q.2 - q.1)) = sk + (q.2 - q.1) := IntWalk.i64_in _ (by omega)
          by_cases hz : k = 0
          · have g2 : ¬ (0 : Int) < (k : Int) := by omega
            have g2b : decide ((0 : Int) < (k : Int)) = false := decide_eq_false g2
            have g2n : ¬ 0 < k := by omega
            have g2c : decide (0 < k) = false := decide_eq_false g2n
            clear hq hc9 hz
            by_cases hmx : mk < q.2 - q.1
            · have HB2 := Lib.hid (HMX.out hmx)
              clear HMX HMN
              go_wp2
              go_quiet (fail)
              go_wp2
              go_quiet (fail)
              go_wp2
              go_roundw
              case rel => exact ⟨k + 1, by omega, by go_num, by rw [HSM.out], by rw [HB2.out], drewN_b HBL.out _⟩
              case measure => simp [intOf]; omega
            · have HB2 := Lib.hid (HMN.out (Int.not_lt.1 hmx))
              clear HMX HMN
              go_wp2
              go_quiet (fail)
              go_wp2
              go_quiet (fail)
              go_wp2
              go_roundw
              case rel => exact ⟨k + 1, by omega, by go_num, by rw [HSM.out], by rw [HB2.out], drewN_b HBL.out _⟩
              case measure => simp [intOf]; omega
          · obtain ⟨r, hr⟩ := get_of_lt (l := tl) (k := k - 1) (by omega)
            obtain ⟨b9, off9, e8, -, hce2⟩ := hc9 (k - 1) r hr
            simp only [Option.some.injEq, Addr.mk.injEq, and_true] at e8
            obtain ⟨rfl, rfl⟩ := e8
            have hnx := HNX.out (k - 1) r q hr (by rw [show k - 1 + 1 = k by omega]; exact hq)
            have g2 : (0 : Int) < (k : Int) := by omega
            have g2b : decide ((0 : Int) < (k : Int)) = true := decide_eq_true g2
            have g2n : 0 < k := by omega
            have g2c : decide (0 < k) = true := decide_eq_true g2n
            have f2 : wr.cell? ⟨b, off + (k - 1) * 2, none⟩ = some (.int .i64 r.1) := hce2 0 _ rfl
            have f3 : wr.cell? ⟨b, off + (k - 1) * 2 + 1, none⟩ = some (.int .i64 r.2) := hce2 1 _ rfl
            have mp2 : (0 : Int) ≤ (k : Int) - 1 := by omega
            have mp3 : (k : Int) - 1 < (tl.length : Int) := by omega
            have mp4 : ((k : Int) - 1).toNat = k - 1 := by omega
            have mp5 : IntKind.i64.wrap ((k : Int) - 1) = (k : Int) - 1 := IntWalk.i64_in _ (by omega)
            have g3 : ¬ q.1 ≤ r.2 := by omega
            have g3b : decide (q.1 ≤ r.2) = false := decide_eq_false g3
            clear hq hr hc9 hce2 hz hnx
            by_cases hmx : mk < q.2 - q.1
            · have HB2 := Lib.hid (HMX.out hmx)
              clear HMX HMN
              go_wp2
              go_quiet (fail)
              go_wp2
              go_quiet (fail)
              go_wp2
              go_roundw
              case rel => exact ⟨k + 1, by omega, by go_num, by rw [HSM.out], by rw [HB2.out], drewN_b HBL.out _⟩
              case measure => simp [intOf]; omega
            · have HB2 := Lib.hid (HMN.out (Int.not_lt.1 hmx))
              clear HMX HMN
              go_wp2
              go_quiet (fail)
              go_wp2
              go_quiet (fail)
              go_wp2
              go_roundw
              case rel => exact ⟨k + 1, by omega, by go_num, by rw [HSM.out], by rw [HB2.out], drewN_b HBL.out _⟩
              case measure => simp [intOf]; omega
        obtain rfl : k = tl.length := by omega
        have sb_y := sb_13.step hbl
        have sc_y := sc_13.step hbl
        have cb_y := cb14.step hbl
        obtain ⟨wA, hwA⟩ : ∃ x, x = wr := ⟨wr, rfl⟩
        subst hwA
        have HBA := Lib.hid hbl
        have hge : ¬ (tl.length : Int) < (tl.length : Int) := by omega
        clear hbl HNX HMM hk hlt
        simp only [List.take_length]
        go_wp2
        go_loopw [17, 18] (fun c i wr => ∃ k : Nat, k ≤ xs.length ∧ i = .int .i64 k ∧ c = .int .i64 (cntT tl k) ∧ Below wA.heap.size wA wr) (fun _ i _ => xs.length - (intOf i).toNat)
        case atStart => exact ⟨0, Nat.zero_le _, rfl, rfl, Below.refl _ _⟩
        case round =>
          obtain ⟨k, hk, rfl, rfl, hbl⟩ := hrel
          have hblT := HBA.out.trans (hbl.mono HBA.out.size)
          by_cases hlt : k < xs.length
          case pos =>
            have c0 := (HB1.out.step hblT).now.2 0 _ rfl
            have c1 := (HB1.out.step hblT).now.2 1 _ rfl
            have c2 := (HB1.out.step hblT).now.2 2 _ rfl
            have c3 := (HB1.out.step hblT).now.2 3 _ rfl
            have hlt2 : (k : Int) < (xs.length : Int) := by omega
            have hk0 : (0 : Int) ≤ (k : Int) := by omega
            have C := CIO.out _ wr (k : Int) (by unfold I64; omega) ((HS1.out.step hblT).now)
            obtain ⟨u1, u2⟩ := HIO2.out k hlt
            rw [u1, u2] at C
            clear u1 u2
            have hcb := cntT_bd tl k
            have HCS : Hid (cntT tl (k + 1) = cntT tl k + if inP tl (k : Int) then 1 else 0) := Lib.hid rfl
            generalize cntT tl k = ck at *
            have HC := Lib.hid C
            have HBL := Lib.hid hbl
            clear C hbl hblT
            cases hin : inP tl (k : Int) with
            | true =>
              rw [hin] at HC HCS
              clear hin
              go_wp2_with fail
              refine HC.out.mono ?_
              rintro e wB ⟨rfl, hbB⟩
              clear c0 c1 c2 c3
              go_wp2
              go_roundw
              case rel => exact ⟨k + 1, by omega, by go_num, by rw [HCS.out]; simp, HBL.out.trans (hbB.mono HBL.out.size)⟩
              case measure => simp [intOf]; omega
            | false =>
              rw [hin] at HC HCS
              clear hin
              go_wp2_with fail
              refine HC.out.mono ?_
              rintro e wB ⟨rfl, hbB⟩
              clear c0 c1 c2 c3
              go_wp2
              go_roundw
              case rel => exact ⟨k + 1, by omega, by go_num, by rw [HCS.out]; simp, HBL.out.trans (hbB.mono HBL.out.size)⟩
              case measure => simp [intOf]; omega
          obtain rfl : k = xs.length := by omega
          have sb_z := sb_y.step hbl
          have sc_z := sc_y.step hbl
          have cb_z := cb_y.step hbl
          have sl := HS1.out.step hblT
          have sb9 := HB1.out.step hblT
          clear HS1 HB1 HP1 HBA
          obtain ⟨wD, hwD⟩ : ∃ x, x = wr := ⟨wr, rfl⟩
          subst hwD
          have hge2 : ¬ (xs.length : Int) < (xs.length : Int) := by omega
          have hlk2 : lk = decide ((0 : Int) < (tl.length : Int)) := by rw [HLK.out]; simp
          have hll2 := HLL.out
          subst hlk2 hll2
          clear hbl hblT hk hlt
          simp only [HCT.out]
          have qb10_1 := (sb9.now).2 0 _ rfl
          have qb11_2 := (sb9.now).2 1 _ rfl
          have qb12_3 := (sb9.now).2 2 _ rfl
          have qb13_4 := (sb9.now).2 3 _ rfl
          go_wp2_with fail
          refine (CLO.out _ wD sl.now).mono ?_
          clear qb10_1 qb11_2 qb12_3 qb13_4
          rintro e w15 ⟨rfl, hb15⟩
          have sb_15 := sb_z.step hb15
          have sc_15 := sc_z.step hb15
          have cb_15 := cb_z.step hb15
          have s1_15 := sl.step hb15
          have b1_15 := sb9.step hb15
          clear sb_z sc_z cb_z sl sb9 hb15
          go_wp2
          go_meet
          exact cb_15.now
  case rest =>
    have hb15 := hcut
    clear hcut
    obtain ⟨w15, hwc15⟩ : ∃ x, x = wc := ⟨wc, rfl⟩
    subst hwc15
    have sb_15 := sb_13.step hb15
    have sc_15 := sc_13.step hb15
    have s1_15 := s1_13.step hb15
    have b1_15 := b1_13.step hb15
    have p1_15 := p1_13.step hb15
    clear sb_13 sc_13 s1_13 b1_13 p1_13 hb15
    clear HTF HNX HMM HCT HBD HIO HLN HTL hne1 hlne CIO CLO
    clear s1_15 b1_15 p1_15
    go_wp2_with fail
    refine (drawIo w15 _ _ sc_15.now).mono ?_
    rintro e w16 ⟨v2, ys, t, p, rfl, hp2, hD⟩
    have sb_16 := sb_15.step hD.below
    have sc_16 := sc_15.step hD.below
    clear sb_15 sc_15
    have s217 := St.lst hD.own.lst
    obtain ⟨a2, c2, rfl⟩ := hD.own.form
    have hz2 : ys.length ≤ 1048576 := Nat.le_trans hD.len (by omega)
    have hw2 : wfSetting t := hD.bs.wf
    have hl2 : ys.length ≤ 200 := hD.len
    have hbs2 := hD.bs
    clear hD
    have hI2 : I64 p := by unfold I64; omega
    have N18 := (Below.refl w16.heap.size w16).alloc (Nat.le_refl _) (.cells #[.int .i64 t.pShort, .int .i64 t.pLong, .int .i64 t.pOn, .int .i64 t.pOff] 28)
    have b218 := St.bx (Bx.new w16 [.int .i64 t.pShort, .int .i64 t.pLong, .int .i64 t.pOn, .int .i64 t.pOff] 28)
    have sb_18 := sb_16.step N18
    have sc_18 := sc_16.step N18
    have s2_18 := s217.step N18
    clear sb_16 sc_16 s217 N18
    have qb20_21 := (b218.now).2 0 _ rfl
    have qb21_22 := (b218.now).2 1 _ rfl
    have qb22_23 := (b218.now).2 2 _ rfl
    have qb23_24 := (b218.now).2 3 _ rfl
    go_wp2_with fail
    refine (implIoa ys _ t (aggS t) p (w16.alloc (.cells #[.int .i64 t.pShort, .int .i64 t.pLong, .int .i64 t.pOn, .int .i64 t.pOff] 28)) _ s2_18.now rfl (Nat.le_refl _) hz2 (Nat.zero_le _) hw2 hI2).mono ?_
    clear qb20_21 qb21_22 qb22_23 qb23_24
    rintro e w19 ⟨rfl, hb19⟩
    have sb_19 := sb_18.step hb19
    have sc_19 := sc_18.step hb19
    have s2_19 := s2_18.step hb19
    have b2_19 := b218.step hb19
    clear sb_18 sc_18 s2_18 b218 hb19
    have qb20_25 := (b2_19.now).2 0 _ rfl
    have qb21_26 := (b2_19.now).2 1 _ rfl
    have qb22_27 := (b2_19.now).2 2 _ rfl
    have qb23_28 := (b2_19.now).2 3 _ rfl
    go_wp2_with fail
    refine (specIoa ys _ t (aggS t) p w19 _ s2_19.now rfl (Nat.le_refl _) hz2 (Nat.zero_le _) hw2 hI2).mono ?_
    clear qb20_25 qb21_26 qb22_27 qb23_28
    rintro e w20 ⟨rfl, hb20⟩
    have sb_20 := sb_19.step hb20
    have sc_20 := sc_19.step hb20
    have s2_20 := s2_19.step hb20
    have b2_20 := b2_19.step hb20
    clear sb_19 sc_19 s2_19 b2_19 hb20
    generalize isOnT ys t p = o2 at *
    generalize okAt ys t p = k2 at *
    have hq1 := ne_same o2
    have hq2 := ne_same k2
    clear s2_20 b2_20
    go_wp2_with fail
    refine (drawLo w20 _ _ sc_20.now).mono ?_
    rintro e w21 ⟨v3, zs, u, rfl, hD⟩
    have sb_21 := sb_20.step hD.below
    have sc_21 := sc_20.step hD.below
    clear sb_20 sc_20
    have s322 := St.lst hD.own.lst
    obtain ⟨a3, c3, rfl⟩ := hD.own.form
    have hz3 : zs.length ≤ 1048576 := Nat.le_trans hD.len (by omega)
    have hw3 : wfSetting u := hD.bs.wf
    have hl3 : zs.length ≤ 200 := hD.len
    have hbs3 := hD.bs
    clear hD
    have N23 := (Below.refl w21.heap.size w21).alloc (Nat.le_refl _) (.cells #[.int .i64 u.pShort, .int .i64 u.pLong, .int .i64 u.pOn, .int .i64 u.pOff] 28)
    have b323 := St.bx (Bx.new w21 [.int .i64 u.pShort, .int .i64 u.pLong, .int .i64 u.pOn, .int .i64 u.pOff] 28)
    have sb_23 := sb_21.step N23
    have sc_23 := sc_21.step N23
    have s3_23 := s322.step N23
    clear sb_21 sc_21 s322 N23
    clear sc_23
    clear hq1 hq2
    have qb30_29 := (b323.now).2 0 _ rfl
    have qb31_30 := (b323.now).2 1 _ rfl
    have qb32_31 := (b323.now).2 2 _ rfl
    have qb33_32 := (b323.now).2 3 _ rfl
    go_wp2_with fail
    refine (implLon zs _ u (aggS u) (w21.alloc (.cells #[.int .i64 u.pShort, .int .i64 u.pLong, .int .i64 u.pOn, .int .i64 u.pOff] 28)) _ s3_23.now rfl (Nat.le_refl _) hz3 (Nat.zero_le _) hw3).mono ?_
    clear qb30_29 qb31_30 qb32_31 qb33_32
    rintro e w24 ⟨rfl, hb24⟩
    have sb_24 := sb_23.step hb24
    have s3_24 := s3_23.step hb24
    have b3_24 := b323.step hb24
    clear sb_23 s3_23 b323 hb24
    have qb30_33 := (b3_24.now).2 0 _ rfl
    have qb31_34 := (b3_24.now).2 1 _ rfl
    have qb32_35 := (b3_24.now).2 2 _ rfl
    have qb33_36 := (b3_24.now).2 3 _ rfl
    go_wp2_with fail
    refine (specLon zs _ u (aggS u) w24 _ s3_24.now rfl (Nat.le_refl _) hz3 (Nat.zero_le _) hw3).mono ?_
    clear qb30_33 qb31_34 qb32_35 qb33_36
    rintro e w25 ⟨rfl, hb25⟩
    have sb_25 := sb_24.step hb25
    have s3_25 := s3_24.step hb25
    have b3_25 := b3_24.step hb25
    clear sb_24 s3_24 b3_24 hb25
    generalize atLo zs u = x1 at *
    generalize lenLo zs u = x2 at *
    generalize okLo zs u = x3 at *
    go_wp2
    go_ret
    exact ⟨by first | rfl | exact ret_bool (by simp), sb_25.now⟩

set_option maxRecDepth 100000 in
theorem walk_all (v : Value) {H : Type} {enc : TypeId × Value → H} {base : Nat} {d : DataW H} {ps : List MemPlace} {w : World} (hval : Value.okWide Try.prog w .any base 48 v)
    (hd : DataW.Trod enc Try.prog w 0 (fun _ => true) true 48 v d ps) :
    Calls Try.prog 12 #[v] w fun e w' => e = .returned (.bool true) ∧ Below w.heap.size w w' := by
  obtain ⟨ao, n, cap, rfl, hn, hc⟩ := open_code Try.underlying48 Try.underlying5 (by kernel_rfl) hval hd
  by_cases h : n ≤ 65536
  · exact walk_main ao n cap w h hc
  · have hi : (65536 : Int) < n := by omega
    go_enter Try.func12, Try.ntmps12
    go_wp2_with fail
    refine (vBig_yes n cap ao _ hi).mono ?_
    rintro e w0 ⟨rfl, hw⟩
    obtain rfl := hw.symm
    go_wp2
    go_ret
    exact ⟨rfl, Below.refl _ _⟩

set_option maxRecDepth 100000 in
theorem contract (H : Type) (enc : TypeId × Value → H) (W : World) (base : Nat) (args : Array Value) (ds gs : List (DataW H)) (before : List MemPlace)
    (hval : ∀ (j : Nat) t v, Try.f12.params[j]? = some t → args[j]? = some v → Value.okWide Try.prog W .any base t v)
    (hW : DataW.Whole enc Try.prog Try.f12.params.toList Rows.fnTriggersSpec.vars false W args.toList ds gs before) :
    Calls Try.prog 12 args W fun e W' => ∃ v, e = .returned v ∧ Rows.fnTriggersSpec.post enc Try.prog Try.f12 false true false false W args v W' := by
  have hW' := hW
  obtain ⟨p, q, hA0, hV, rfl, hfz, hnd⟩ := hW
  have hA : DataW.TrodAll enc Try.prog W 0 (fun _ => true) true Try.f12.params.toList args.toList ds p := hA0
  rw [Try.params12] at hA hval
  obtain ⟨v0, vs0, d0, ds0, p0, q0, hargs, rfl, rfl, h0, r0⟩ := trodAll_cons hA
  obtain ⟨rfl, rfl, rfl⟩ := trodAll_nil r0
  obtain rfl : args = #[v0] := by cases args; simp_all
  refine lawPost rfl rfl Try.underlying4 (by kernel_rfl) (by kernel_rfl) hW' (fun hg => by subst hg; exact ⟨rfl, rfl, rfl⟩) ?_
  exact walk_all v0 (hval 0 48 v0 rfl rfl) h0

set_option maxRecDepth 100000 in
theorem lifted (os : Os) (started : os.Started) (H : Type) (enc : TypeId × Value → H) :
    ReturnsInHanded {} Try.checked os 12 .any (Rows.fnTriggersSpec.pre6 enc Try.prog Try.f12 Rows.fnTriggersRow.domain false) (Rows.fnTriggersSpec.post enc Try.prog Try.f12 false true false false) := by
  refine returnsInHanded_of_change (C := Try.checked) (s := Rows.fnTriggersSpec) own started (by kernel_rfl) Try.func12
    (ChangeSpec.witness6 (enc := enc) (C := Try.checked) (s := Rows.fnTriggersSpec) false ⟨#[], #[.slice none 0 0], []⟩ 8 (by kernel_rfl) (by kernel_rfl) (by kernel_rfl) (by kernel_rfl)) ?_
  intro W base args ds gs before hval hW _ _
  exact contract H enc W base args ds gs before hval hW

set_option maxRecDepth 100000 in
theorem said : Rows.FnTriggersSaid :=
  OpenClaim.holds_of_wide 12 Try.f12 rfl rfl rfl rfl rfl rfl rfl ⟨rfl, rfl, rfl, rfl, rfl⟩ rfl rfl rfl rfl rfl (by kernel_rfl) Try.func12 (by kernel_rfl)
    (of_decide_eq_true (by kernel_rfl)) (by unfold Func.isWrapper; first | (rw [if_pos (by decide +kernel)]; kernel_rfl) | (rw [if_neg (by decide +kernel)]; exact ⟨rfl, rfl⟩))
    (fun os started H enc _ => lifted os started H enc)
end Go.Proofs.Ytklilfbokpljkab.fnTriggers
