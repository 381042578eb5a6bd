/- FnClocks: for every code the law answers true; no condition. -/
import Derived.Test.YtklilfbokpljkacDrL
import Derived.Test.YtklilfbokpljkacTkK
import Derived.Test.YtklilfbokpljkacTkQ2
import Derived.Test.YtklilfbokpljkacRi
import Derived.Deep.CutBlock
import Derived.Deep.CutRange
import Derived.Deep.DeepCutAuto
namespace Go.Proofs.Ytklilfbokpljkac.fnClocks
open Go.ChangeShapes Go.WideShapes Go.ChangeAt Go.RowKit Go.ChangeMaps Go.Sort
set_option linter.unusedSimpArgs false
set_option linter.unusedVariables false

theorem own : ownKnob Try.prog.godebug = none := by kernel_rfl

theorem St.bx {w : World} {b : Nat} {cs : List Value} (h : Bx w b cs) : St w (fun w' => Bx w' b cs) := fun w' hb => h.below hb
theorem St.tk {w : World} {v : Value} {xs : List GClockMark} (h : ClockMarkL w w.heap.size v xs) : St w (fun w' => ClockMarkL w' w'.heap.size v xs) := fun w' hb => (h.below hb).mono hb.size
theorem tt_facts {xs : List GClockMark} {x : Int} (h : okTT xs x = true) : okTk xs ∧ numTT xs x = lineL xs x ∧ (0 ≤ x ∧ x ≤ 1000000) := by
  have h2 := h
  unfold okTT at h2
  rw [Bool.and_eq_true, Bool.and_eq_true] at h2
  exact ⟨goodTk_yes h2.1, by unfold numTT; rw [if_pos h], tickB_yes h2.2.1⟩
theorem tt_mark {xs : List GClockMark} (h : okTk xs) {m : GClockMark} (hm : m ∈ xs) : okTT xs m.pShown = true ∧ numTT xs m.pShown = m.pTrue := by
  have e := lineL_mark xs h.2.2 h.1.1 m hm
  have t := h.2.1 m hm
  have k : okTT xs m.pShown = true := by
    unfold okTT
    rw [goodTk_mk h, e]
    unfold tickB tickM at *
    rw [decide_eq_true t.1, decide_eq_true t.2]; rfl
  exact ⟨k, by rw [(tt_facts k).2.1, e]⟩
theorem tt_later {xs : List GClockMark} (h : okTk xs) {x : Int} (k : okTT xs (x + 1) = true) : lineL xs x ≤ numTT xs (x + 1) := by
  rw [(tt_facts k).2.1]
  exact lineL_mono xs h.2.2 h.1.1 (by omega)
theorem st_facts {xs : List GClockMark} {t : Int} (h : okST xs t = true) : okTk xs ∧ (0 ≤ numST xs t ∧ numST xs t ≤ 1000000) ∧ okTT xs (numST xs t) = true ∧ t ≤ numTT xs (numST xs t) ∧ (okTT xs (numST xs t - 1) = true → numTT xs (numST xs t - 1) < t) := by
  have h2 := h
  unfold okST at h2
  rw [Bool.and_eq_true, Bool.and_eq_true, Bool.and_eq_true] at h2
  have hg := goodTk_yes h2.1
  have hf := first_count hg t
  generalize (((List.range 1000001).countP (fun (i : Nat) => !decide (t ≤ lineL xs (i : Int))) : Nat) : Int) = r at hf
  have e : numST xs t = r := by unfold numST; rw [if_pos h, firstTk_is hf]
  have hle := of_decide_eq_true h2.2.2.1
  rw [firstTk_is hf] at hle
  have ho := okST_of h2.1 h2.2.1 hf
  rw [h] at ho
  obtain ⟨hf1, hf2, hf3⟩ := hf
  rw [e]
  refine ⟨hg, ⟨hf1.1, hle⟩, ho.symm, ?_, fun k => ?_⟩
  · rw [(tt_facts ho.symm).2.1]
    rcases hf3 with q | q
    · omega
    · exact q
  · obtain ⟨-, e2, e3⟩ := tt_facts k
    rw [e2]
    exact hf2 _ e3.1 (by omega)
set_option maxRecDepth 100000 in
set_option maxHeartbeats 4000000 in
theorem walk_main (ao : Option Addr) (n cap : Nat) (w : World) (hn : n ≤ 65536) (hcode : Code w w.heap.size ao n) :
    Calls Try.prog 6 #[.slice ao n cap] w fun e w' => e = .returned (.bool true) ∧ Below w.heap.size w w' := by
  have C0 : CodeArg w w.heap.size (.slice ao n cap) := ⟨Nat.le_refl _, ao, n, cap, rfl, hn, hcode⟩
  clear hcode
  have hni : (n : Int) ≤ 65536 := by omega
  have sb0 := St.chain w
  have sc0 := St.code C0
  clear C0
  go_enter Try.func6, Try.ntmps6
  go_wp2_with fail
  refine (rBig_no n cap ao w hni).mono ?_
  rintro e w1 ⟨rfl, hw1⟩
  obtain rfl := hw1.symm
  go_wp2_with fail
  refine (drawTT w _ _ sc0.now).mono ?_
  rintro e w2 ⟨v1, xs, x, rfl, hx, hD1⟩
  have sb_2 := sb0.step hD1.below
  have sc_2 := sc0.step hD1.below
  clear sb0 sc0
  have s13 := St.tk hD1.lst
  obtain ⟨a1, c1, rfl⟩ := hD1.lst.form
  have hz1 : szsClockMark xs ≤ 1048576 := bds_szM hD1.len.2
  have hw1 : ∀ s ∈ xs, wfClockMark s := fun s hs => (hD1.bd s hs).wf
  have hb1 := hD1.below
  have hl1 : (xs.length : Int) ≤ 11 := by have := hD1.len.2; omega
  clear hD1 hb1
  have hIx : I64 x := by unfold I64; omega
  go_wp2_with fail
  refine (implTT xs _ x w2 _ s13.now (Nat.le_refl _) hz1 hw1 hIx).mono ?_
  rintro e w4 ⟨rfl, hb4⟩
  have sb_4 := sb_2.step hb4
  have sc_4 := sc_2.step hb4
  have s1_4 := s13.step hb4
  clear sb_2 sc_2 s13 hb4
  go_wp2_with fail
  refine (specTT xs _ x w4 _ s1_4.now (Nat.le_refl _) hz1 hw1 hIx).mono ?_
  rintro e w5 ⟨rfl, hb5⟩
  have sb_5 := sb_4.step hb5
  have sc_5 := sc_4.step hb5
  have s1_5 := s1_4.step hb5
  clear sb_4 sc_4 s1_4 hb5
  have HTF := Lib.hid (tt_facts (xs := xs) (x := x))
  have hIx1 : I64 (x + 1) := by unfold I64; omega
  have sx1 : IntKind.i64.wrap (x + 1) = x + 1 := IntWalk.i64_in _ (by omega)
  generalize numTT xs x = nt at *
  clear hIx
  go_upto_if 64 with fail
  go_cut [6, 8, 9, 10, 11, 12, 13] from 44 to 104 (fun _ _ _ _ _ _ _ wx => Below w5.heap.size w5 wx)
  case first =>
    have cb6 := St.chain w5
    cases hk : okTT xs x with
    | false =>
      go_wp2
      go_meet
      exact cb6.now
    | true =>
      obtain ⟨hok, hnt, -⟩ := HTF.out hk
      have HOK := Lib.hid hok
      have HNT := Lib.hid hnt
      clear hk hok hnt HTF
      have HS1 := Lib.hid s1_5
      have HIT := Lib.hid (fun w' (h : Below w5.heap.size w5 w') (y : Int) (hy : I64 y) => implTT xs _ y w' _ ((HS1.out.step h).now) (Nat.le_refl _) hz1 hw1 hy)
      go_wp2_with fail
      go_loopw [9] (fun i wr => ∃ k : Nat, k ≤ xs.length ∧ i = .int .i64 k ∧ Below w5.heap.size w5 wr) (fun i _ => xs.length - (intOf i).toNat)
      case atStart => exact ⟨0, Nat.zero_le _, rfl, Below.refl _ _⟩
      case round =>
        obtain ⟨k, hk1, rfl, hbl⟩ := hrel
        by_cases hlt : k < xs.length
        case pos =>
          obtain ⟨m, hm⟩ := get_of_lt hlt
          obtain ⟨e1, e2⟩ := tt_mark HOK.out (List.mem_of_getElem? hm)
          have tk := HOK.out.2.1 m (List.mem_of_getElem? hm)
          obtain ⟨ao9, cap9, hv9, _, _, _, hc9⟩ := (HS1.out.step hbl).now
          simp only [Value.slice.injEq] at hv9
          obtain ⟨rfl, -, rfl⟩ := hv9
          obtain ⟨b, off, rfl, hb9, hcell⟩ := hc9 k m hm
          have d0 : wr.cell? ⟨b, off + k * 2, none⟩ = some (.int .i64 m.pShown) := hcell 0 _ rfl
          have d1 : wr.cell? ⟨b, off + k * 2 + 1, none⟩ = some (.int .i64 m.pTrue) := hcell 1 _ rfl
          have CM := HIT.out wr hbl m.pShown (by unfold tickM at tk; unfold I64; omega)
          rw [e1, e2] at CM
          have CM := Lib.hid CM
          have mp0 : (0 : Int) ≤ (k : Int) := by omega
          have mp1 : (k : Int) < (xs.length : Int) := by omega
          clear hm hc9 hcell e1 e2
          go_wp2_with fail
          refine CM.out.mono ?_
          rintro e wq ⟨rfl, hbq⟩
          have q0 := cellOf hbq (cell_of_lt d0) d0
          have q1 := cellOf hbq (cell_of_lt d1) d1
          have hbl2 := hbl.trans (hbq.mono hbl.size)
          clear d0 d1
          go_wp2
          go_roundw
          case rel => exact ⟨k + 1, by omega, by go_num, hbl2⟩
          case measure => simp [intOf]; omega
        have hge : ¬ (k : Int) < (xs.length : Int) := by omega
        have CL := HIT.out wr hbl (x + 1) hIx1
        have HLT := Lib.hid (tt_later HOK.out (x := x))
        rw [← HNT.out] at HLT
        generalize numTT xs (x + 1) = nl at *
        cases hk5 : okTT xs (x + 1) with
        | false =>
          rw [hk5] at CL
          have CL := Lib.hid CL
          clear hk5
          go_wp2_with fail
          refine CL.out.mono ?_
          rintro e wq ⟨rfl, hbq⟩
          have hbl2 := hbl.trans (hbq.mono hbl.size)
          go_wp2
          go_meet
          exact hbl2
        | true =>
          rw [hk5] at CL
          have CL := Lib.hid CL
          have hnl : ¬ nl < nt := by have := HLT.out hk5; omega
          clear hk5
          go_wp2_with fail
          refine CL.out.mono ?_
          rintro e wq ⟨rfl, hbq⟩
          have hbl2 := hbl.trans (hbq.mono hbl.size)
          go_wp2
          go_meet
          exact hbl2
  case rest =>
    have hb7 := hcut
    clear hcut
    obtain ⟨w7, hwc7⟩ : ∃ x, x = wc := ⟨wc, rfl⟩
    subst hwc7
    have sb_7 := sb_5.step hb7
    have sc_7 := sc_5.step hb7
    have s1_7 := s1_5.step hb7
    clear sb_5 sc_5 s1_5 hb7
    clear s1_7
    clear HTF hIx1 sx1 hz1 hw1 hx hl1
    go_wp2_with fail
    refine (drawST w7 _ _ sc_7.now).mono ?_
    rintro e w8 ⟨v2, ys, t, rfl, ht, hD2⟩
    have sb_8 := sb_7.step hD2.below
    have sc_8 := sc_7.step hD2.below
    clear sb_7 sc_7
    have s29 := St.tk hD2.lst
    obtain ⟨a2, c2, rfl⟩ := hD2.lst.form
    have hz2 : szsClockMark ys ≤ 1048576 := bds_szM hD2.len.2
    have hw2 : ∀ s ∈ ys, wfClockMark s := fun s hs => (hD2.bd s hs).wf
    have hb2 := hD2.below
    have hl2 : (ys.length : Int) ≤ 11 := by have := hD2.len.2; omega
    clear hD2 hb2
    have hIt : I64 t := by unfold I64; omega
    go_wp2_with fail
    refine (implST ys _ t w8 _ s29.now (Nat.le_refl _) hz2 hw2 hIt).mono ?_
    rintro e w10 ⟨rfl, hb10⟩
    have sb_10 := sb_8.step hb10
    have sc_10 := sc_8.step hb10
    have s2_10 := s29.step hb10
    clear sb_8 sc_8 s29 hb10
    go_wp2_with fail
    refine (specST ys _ t w10 _ s2_10.now (Nat.le_refl _) hz2 hw2 hIt).mono ?_
    rintro e w11 ⟨rfl, hb11⟩
    have sb_11 := sb_10.step hb11
    have sc_11 := sc_10.step hb11
    have s2_11 := s2_10.step hb11
    clear sb_10 sc_10 s2_10 hb11
    have HSF := Lib.hid (st_facts (xs := ys) (t := t))
    generalize numST ys t = ns at *
    clear hIt
    go_upto_if 130 with fail
    go_cut [17, 19, 20, 21, 22, 23] from 110 to 156 (fun _ _ _ _ _ _ wx => Below w11.heap.size w11 wx)
    case first =>
      have cb12 := St.chain w11
      cases hk : okST ys t with
      | false =>
        go_wp2
        go_meet
        exact cb12.now
      | true =>
        obtain ⟨hok, ⟨hn0, hn1⟩, ho1, hle, hbf⟩ := HSF.out hk
        have hIn : I64 ns := by unfold I64; omega
        have hIn1 : I64 (ns - 1) := by unfold I64; omega
        have sn1 : IntKind.i64.wrap (ns - 1) = ns - 1 := IntWalk.i64_in _ (by omega)
        have C1 := implTT ys _ ns w11 _ s2_11.now (Nat.le_refl _) hz2 hw2 hIn
        rw [ho1] at C1
        have C1 := Lib.hid C1
        generalize numTT ys ns = n1 at *
        have hnl : ¬ n1 < t := by omega
        clear hk hok ho1 HSF
        go_wp2_with fail
        refine (C1.out).mono ?_
        rintro e w13 ⟨rfl, hb13⟩
        have sb_13 := sb_11.step hb13
        have sc_13 := sc_11.step hb13
        have s2_13 := s2_11.step hb13
        have cb_13 := cb12.step hb13
        clear sb_11 sc_11 s2_11 cb12 hb13
        have C2 := implTT ys _ (ns - 1) w13 _ s2_13.now (Nat.le_refl _) hz2 hw2 hIn1
        generalize numTT ys (ns - 1) = n2 at *
        clear C1
        cases hk5 : okTT ys (ns - 1) with
        | false =>
          rw [hk5] at C2
          have C2 := Lib.hid C2
          clear hk5 hbf
          go_wp2_with fail
          refine (C2.out).mono ?_
          rintro e w14 ⟨rfl, hb14⟩
          have sb_14 := sb_13.step hb14
          have sc_14 := sc_13.step hb14
          have s2_14 := s2_13.step hb14
          have cb_14 := cb_13.step hb14
          clear sb_13 sc_13 s2_13 cb_13 hb14
          go_wp2
          go_meet
          exact cb_14.now
        | true =>
          rw [hk5] at C2
          have C2 := Lib.hid C2
          have hnb : ¬ t ≤ n2 := by have := hbf hk5; omega
          clear hk5 hbf
          go_wp2_with fail
          refine (C2.out).mono ?_
          rintro e w14 ⟨rfl, hb14⟩
          have sb_14 := sb_13.step hb14
          have sc_14 := sc_13.step hb14
          have s2_14 := s2_13.step hb14
          have cb_14 := cb_13.step hb14
          clear sb_13 sc_13 s2_13 cb_13 hb14
          go_wp2
          go_meet
          exact cb_14.now
    case rest =>
      have hb13 := hcut
      clear hcut
      obtain ⟨w13, hwc13⟩ : ∃ x, x = wc := ⟨wc, rfl⟩
      subst hwc13
      have sb_13 := sb_11.step hb13
      have sc_13 := sc_11.step hb13
      have s2_13 := s2_11.step hb13
      clear sb_11 sc_11 s2_11 hb13
      clear s2_13
      clear HSF hz2 hw2 ht hl2
      go_wp2_with fail
      refine (drawSpan w13 _ _ sc_13.now).mono ?_
      rintro e w14 ⟨v3, us, rfl, hD3⟩
      have sb_14 := sb_13.step hD3.below
      have sc_14 := sc_13.step hD3.below
      clear sb_13 sc_13
      have s315 := St.tk hD3.lst
      obtain ⟨a3, c3, rfl⟩ := hD3.lst.form
      have hz3 : szsClockMark us ≤ 1048576 := bds_szM hD3.len.2
      have hw3 : ∀ s ∈ us, wfClockMark s := fun s hs => (hD3.bd s hs).wf
      have hb3 := hD3.below
      have hl3 : (us.length : Int) ≤ 11 := by have := hD3.len.2; omega
      clear hD3 hb3
      go_wp2_with fail
      refine (implSpan us _ w14 _ s315.now (Nat.le_refl _) hz3 hw3).mono ?_
      rintro e w16 ⟨rfl, hb16⟩
      have sb_16 := sb_14.step hb16
      have sc_16 := sc_14.step hb16
      have s3_16 := s315.step hb16
      clear sb_14 sc_14 s315 hb16
      go_wp2_with fail
      refine (specSpan us _ w16 _ s3_16.now (Nat.le_refl _) hz3 hw3).mono ?_
      rintro e w17 ⟨rfl, hb17⟩
      have sb_17 := sb_16.step hb17
      have sc_17 := sc_16.step hb17
      have s3_17 := s3_16.step hb17
      clear sb_16 sc_16 s3_16 hb17
      have CI := Lib.hid (implGoodTk us _ w17 _ s3_17.now (Nat.le_refl _) _ rfl)
      generalize goodTk us = gu at *
      generalize loSp us = lo3 at *
      generalize hiSp us = hi3 at *
      go_wp2_with fail
      refine (CI.out).mono ?_
      rintro e w18 ⟨rfl, hb18⟩
      have sb_18 := sb_17.step hb18
      have sc_18 := sc_17.step hb18
      have s3_18 := s3_17.step hb18
      clear sb_17 sc_17 s3_17 hb18
      clear s3_18
      clear CI hz3 hw3 hl3
      go_wp2_with fail
      refine (drawStp w18 _ _ sc_18.now).mono ?_
      rintro e w19 ⟨v4, zs, j, rfl, hj, hD4⟩
      have sb_19 := sb_18.step hD4.below
      have sc_19 := sc_18.step hD4.below
      clear sb_18 sc_18
      have s420 := St.tk hD4.lst
      obtain ⟨a4, c4, rfl⟩ := hD4.lst.form
      have hz4 : szsClockMark zs ≤ 1048576 := bds_szM hD4.len.2
      have hw4 : ∀ s ∈ zs, wfClockMark s := fun s hs => (hD4.bd s hs).wf
      have hb4 := hD4.below
      have hl4 : (zs.length : Int) ≤ 11 := by have := hD4.len.2; omega
      clear hD4 hb4
      have hIj : I64 j := by unfold I64; omega
      go_wp2_with fail
      refine (implStp zs _ j w19 _ s420.now (Nat.le_refl _) hz4 hw4 hIj).mono ?_
      rintro e w21 ⟨v5, rfl, ho5, hb21⟩
      have sb_21 := sb_19.step hb21
      have sc_21 := sc_19.step hb21
      have s4_21 := s420.step hb21
      clear sb_19 sc_19 s420 hb21
      have sp22 := St.own ho5
      clear ho5
      go_wp2_with fail
      refine (specStp zs _ j w21 _ s4_21.now (Nat.le_refl _) hz4 hw4 hIj).mono ?_
      rintro e w23 ⟨v6, rfl, ho6, hb23⟩
      have sb_23 := sb_21.step hb23
      have sc_23 := sc_21.step hb23
      have s4_23 := s4_21.step hb23
      have sp_23 := sp22.step hb23
      clear sb_21 sc_21 s4_21 sp22 hb23
      have sq24 := St.own ho6
      clear ho6
      clear s4_23
      generalize okStp zs j = kj at *
      generalize resStp zs j = rs at *
      clear hz4 hw4 hIj hj hl4
      have CR := Lib.hid (rInts_same rs v5 v6 w23 _ sp_23.now sq24.now (Nat.le_refl _))
      go_wp2_with fail
      refine (CR.out).mono ?_
      rintro e w25 ⟨rfl, hb25⟩
      have sb_25 := sb_23.step hb25
      have sc_25 := sc_23.step hb25
      have sp_25 := sp_23.step hb25
      have sq_25 := sq24.step hb25
      clear sb_23 sc_23 sp_23 sq24 hb25
      go_wp2
      go_ret
      exact ⟨ret_bool (by simp), sb_25.now⟩

set_option maxRecDepth 100000 in
theorem walk_all (v : Value) {H : Type} {enc : TypeId × Value → H} {base : Nat} {d : DataW H} {ps : List MemPlace} {w : World} (hval : Value.okWide Try.prog w .any base 32 v)
    (hd : DataW.Trod enc Try.prog w 0 (fun _ => true) true 32 v d ps) :
    Calls Try.prog 6 #[v] w fun e w' => e = .returned (.bool true) ∧ Below w.heap.size w w' := by
  obtain ⟨ao, n, cap, rfl, hn, hc⟩ := open_code Try.underlying32 Try.underlying5 (by kernel_rfl) hval hd
  by_cases h : n ≤ 65536
  · exact walk_main ao n cap w h hc
  · have hi : (65536 : Int) < n := by omega
    go_enter Try.func6, Try.ntmps6
    go_wp2_with fail
    refine (rBig_yes n cap ao _ hi).mono ?_
    rintro e w0 ⟨rfl, hw⟩
    obtain rfl := hw.symm
    go_wp2
    go_ret
    exact ⟨rfl, Below.refl _ _⟩

set_option maxRecDepth 100000 in
theorem contract (H : Type) (enc : TypeId × Value → H) (W : World) (base : Nat) (args : Array Value) (ds gs : List (DataW H)) (before : List MemPlace)
    (hval : ∀ (j : Nat) t v, Try.f6.params[j]? = some t → args[j]? = some v → Value.okWide Try.prog W .any base t v)
    (hW : DataW.Whole enc Try.prog Try.f6.params.toList Rows.fnClocksSpec.vars false W args.toList ds gs before) :
    Calls Try.prog 6 args W fun e W' => ∃ v, e = .returned v ∧ Rows.fnClocksSpec.post enc Try.prog Try.f6 false true false false W args v W' := by
  have hW' := hW
  obtain ⟨p, q, hA0, hV, rfl, hfz, hnd⟩ := hW
  have hA : DataW.TrodAll enc Try.prog W 0 (fun _ => true) true Try.f6.params.toList args.toList ds p := hA0
  rw [Try.params6] at hA hval
  obtain ⟨v0, vs0, d0, ds0, p0, q0, hargs, rfl, rfl, h0, r0⟩ := trodAll_cons hA
  obtain ⟨rfl, rfl, rfl⟩ := trodAll_nil r0
  obtain rfl : args = #[v0] := by cases args; simp_all
  refine lawPost rfl rfl Try.underlying4 (by kernel_rfl) (by kernel_rfl) hW' (fun hg => by subst hg; exact ⟨rfl, rfl, rfl⟩) ?_
  exact walk_all v0 (hval 0 32 v0 rfl rfl) h0

set_option maxRecDepth 100000 in
theorem lifted (os : Os) (started : os.Started) (H : Type) (enc : TypeId × Value → H) :
    ReturnsInHanded {} Try.checked os 6 .any (Rows.fnClocksSpec.pre6 enc Try.prog Try.f6 Rows.fnClocksRow.domain false) (Rows.fnClocksSpec.post enc Try.prog Try.f6 false true false false) := by
  refine returnsInHanded_of_change (C := Try.checked) (s := Rows.fnClocksSpec) own started (by kernel_rfl) Try.func6
    (ChangeSpec.witness6 (enc := enc) (C := Try.checked) (s := Rows.fnClocksSpec) false ⟨#[], #[.slice none 0 0], []⟩ 8 (by kernel_rfl) (by kernel_rfl) (by kernel_rfl) (by kernel_rfl)) ?_
  intro W base args ds gs before hval hW _ _
  exact contract H enc W base args ds gs before hval hW

set_option maxRecDepth 100000 in
theorem said : Rows.FnClocksSaid :=
  OpenClaim.holds_of_wide 6 Try.f6 rfl rfl rfl rfl rfl rfl rfl ⟨rfl, rfl, rfl, rfl, rfl⟩ rfl rfl rfl rfl rfl (by kernel_rfl) Try.func6 (by kernel_rfl)
    (of_decide_eq_true (by kernel_rfl)) (by unfold Func.isWrapper; first | (rw [if_pos (by decide +kernel)]; kernel_rfl) | (rw [if_neg (by decide +kernel)]; exact ⟨rfl, rfl⟩))
    (fun os started H enc _ => lifted os started H enc)
end Go.Proofs.Ytklilfbokpljkac.fnClocks
