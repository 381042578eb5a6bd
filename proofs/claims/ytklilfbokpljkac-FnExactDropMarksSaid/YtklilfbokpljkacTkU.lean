/- Marks dropped: the specification. -/
import Derived.Test.YtklilfbokpljkacTkH
import Derived.Deep.RegionHeld3
namespace Go.Proofs.Ytklilfbokpljkac
open Go.ChangeShapes Go.WideShapes Go.ChangeAt Go.RowKit Go.ChangeMaps Go.Sort
set_option linter.unusedSimpArgs false
set_option linter.unusedVariables false
set_option linter.unusedSimpArgs false
set_option linter.unusedVariables false

set_option maxRecDepth 100000 in
set_option maxHeartbeats 4000000 in
theorem specDrp (xs : List GClockMark) (v : Value) (j : Int) (w : World) (B : Nat) (h : ClockMarkL w B v xs) (hB : B ≤ w.heap.size) (hn : szsClockMark xs ≤ 1048576) (hw : ∀ m ∈ xs, wfClockMark m) (_ : I64 j) :
    Calls Try.prog 58 #[v, .int .i64 j] w fun e w' => ∃ v', e = .returned (.tuple #[v', .bool (okDrp xs j)]) ∧ ClockMarkO w' w.heap.size w'.heap.size v' (resDrp xs j) ∧ Below w.heap.size w w' := by
  have hl : xs.length ≤ 1048576 := Nat.le_trans (szsClockMark_len xs) hn
  unfold resDrp
  cases hg : goodTk xs with
  | false =>
    have C := Lib.hid (specGoodTkV xs v w B h hB hl false hg)
    have HO : Hid (okDrp xs j = false) := Lib.hid (by unfold okDrp; rw [hg]; rfl)
    clear hg
    rw [HO.out]
    obtain ⟨ao, cap, rfl⟩ := h.form
    clear h
    go_enter Try.func58, Try.ntmps58
    go_wp2_with fail
    refine C.out.mono ?_
    rintro e w1 ⟨rfl, hb⟩
    go_wp2
    go_ret2
    exact ⟨_, rfl, ownK_empty encClockMark_len (by omega) w1 _ hb.size, hb.alloc hb.size _⟩
  | true =>
  have C := Lib.hid (specGoodTkV xs v w B h hB hl true hg)
  have HK := Lib.hid (goodTk_yes hg)
  by_cases ht : 0 ≤ j ∧ j ≤ 1000
  case neg =>
    have HO : Hid (okDrp xs j = false) := Lib.hid (by unfold okDrp; rw [hg, decide_eq_false ht]; rfl)
    have CT := Lib.hid (fun W => specInB j 0 1000 false W (decide_eq_false ht))
    clear hg ht
    rw [HO.out]
    obtain ⟨ao, cap, rfl⟩ := h.form
    clear h
    go_enter Try.func58, Try.ntmps58
    go_wp2_with fail
    refine C.out.mono ?_
    rintro e w1 ⟨rfl, hb⟩
    go_wp2_with fail
    refine (CT.out _).mono ?_
    rintro e w2 ⟨rfl, hw2⟩
    obtain rfl := hw2
    go_wp2
    go_ret2
    exact ⟨_, rfl, ownK_empty encClockMark_len (by omega) w2 _ hb.size, hb.alloc hb.size _⟩
  have HO : Hid (okDrp xs j = true) := Lib.hid (by unfold okDrp; rw [hg, decide_eq_true ht]; rfl)
  have CT := Lib.hid (fun W => specInB j 0 1000 true W (decide_eq_true ht))
  clear hg
  rw [HO.out]
  obtain ⟨j0, j1⟩ := ht
  have hlx2 := HK.out.1.1
  have hlx10 := HK.out.1.2
  have HSX := Lib.hid (lst_src h (by omega))
  have HI := Lib.hid (invD_start HK.out j)
  generalize hres : dropTk xs j = res at *
  clear hres
  obtain ⟨ao, cap, rfl⟩ := h.form
  clear h
  obtain ⟨ti, hi, hz0, hz1, hz2⟩ := info_parts info_ClockMark
  have smj : IntKind.i64.wrap (-j) = -j := IntWalk.i64_in _ (by omega)
  go_enter Try.func58, Try.ntmps58
  go_wp2_with fail
  refine C.out.mono ?_
  rintro e w1 ⟨rfl, hb⟩
  go_wp2_with fail
  refine (CT.out _).mono ?_
  rintro e w2 ⟨rfl, hw2⟩
  obtain rfl := hw2
  have hr0 : (w2.alloc (.cells #[] 50)).ownsRow w.heap.size 50 2 (.slice (some ⟨w2.heap.size, 0, none⟩) 0 0) 0 [] := rowK_empty w2 _ _ hb.size
  have hb2 := hb.alloc hb.size (.cells #[] 50)
  have S1 := Lib.hid (HSX.out.below hb2)
  go_wp2_with (at_builtin; refine wpList_append_srcK _ rfl _ _ 45 rfl w.heap.size 50 ti _ 2 16 Try.underlying45 hi hz0 hz1 hz2 rfl (by decide) _ 0 [] rfl hr0 _ xs.length (xs.flatMap encClockMark) rfl S1.out (by unfold maxLen; omega) (by omega) hb2.size ?_; intro v3 w3 hr3 hg3 _)
  have hb3 : Below w.heap.size w w3 := hb2.grown hg3 hb2.size (fun g e => (hr0.lt g e).1)
  rw [Nat.zero_add, List.nil_append] at hr3
  have HO2 : Hid (ClockMarkO w3 w.heap.size w3.heap.size v3 xs) := Lib.hid (OwnK.of_row encClockMark_len (by omega) hr3)
  clear hg3 hr0 hb2 hb hr3 S1 HSX
  have hsl := HO2.out.form
  go_wp2
  go_loopw [6, 7] (fun o i wr => ∃ (k : Nat) (out : List GClockMark) (v : Value), i = .int .i64 k ∧ o = v ∧ Hid (invD j res out k) ∧ Hid (ClockMarkO wr w.heap.size wr.heap.size v out) ∧ (∃ ao cap, v = .slice ao out.length cap) ∧ Below w.heap.size w wr)
    (fun o i _ => match o with | .slice _ n _ => n + n - (intOf i).toNat | _ => 0)
  case atStart => exact ⟨1, xs, v3, rfl, rfl, HI, HO2, hsl, hb3⟩
  case round =>
    obtain ⟨k, out, v3, rfl, rfl, HV, HW, ⟨ao3, cap3, rfl⟩, hbl⟩ := hrel
    have hsz := hbl.size
    obtain ⟨q0, q1, q2, -⟩ := HV.out
    have hl10 := q0.1.2
    clear q0 hb3 HO2
    have mp3 : (out.length : Int) ≤ 10 := by omega
    by_cases hlt : k + 1 < out.length
    case neg =>
      have HE := Lib.hid (invD_end HV.out (by omega))
      have hk2 : ¬ (k : Int) + 1 < (out.length : Int) := by omega
      go_wp2
      go_ret2
      refine ⟨_, rfl, ?_, hbl⟩
      rw [← HE.out]
      exact HW.out
    obtain ⟨b, off, cap4, e4, hcap, hmax, hbb, hcell, hsrc⟩ := lst_parts HW.out.lst (Nat.le_refl _) (by omega)
    simp only [Value.slice.injEq, true_and] at e4
    obtain ⟨rfl, rfl⟩ := e4
    unfold maxLen at hmax
    obtain ⟨m, hm⟩ := get_of_lt (l := out) (k := k) (by omega)
    have c0 : wr.cell? ⟨b, off + k * 2, none⟩ = some (.int .i64 m.pShown) := hcell k m hm 0 _ rfl
    have c1 : wr.cell? ⟨b, off + k * 2 + 1, none⟩ = some (.int .i64 m.pTrue) := hcell k m hm 1 _ rfl
    have tk := okTk_tick HV.out.1 hm
    have HM := Lib.hid hm
    have HCK := Lib.hid (cutAt_ok HV.out.1 q1 hlt)
    have mp0 : (0 : Int) ≤ (k : Int) := by omega
    have mp1 : (k : Int) < (out.length : Int) := by omega
    have mp2 : (k : Int) + 1 < (out.length : Int) := by omega
    have hkc : ¬ cap3 = k := by omega
    have hkc2 : ¬ cap3 = k + 1 := by omega
    have hkc3 : ((k : Int) + 1).toNat = k + 1 := by omega
    have s1 : IntKind.i64.wrap ((k : Int) + 1) = (k : Int) + 1 := IntWalk.i64_in _ (by omega)
    have mq1 : (k : Int) ≤ (cap3 : Int) := by omega
    have mq0 : (0 : Int) ≤ (k : Int) + 1 := by omega
    have mq2 : (k : Int) + 1 ≤ (out.length : Int) := by omega
    have mq3 : (out.length : Int) ≤ (cap3 : Int) := by omega
    have va := hsrc wr (Below.refl _ _) 0 k cap3 (Nat.zero_le _) (by omega)
    have vb := hsrc wr (Below.refl _ _) (k + 1) out.length (cap3 - (k + 1)) (by omega) (Nat.le_refl _)
    have e5 : off + 0 * 2 = off := by omega
    rw [e5, Nat.sub_zero] at va
    have Q1 := Lib.hid va
    have Q2 := Lib.hid vb
    clear hm hcell hsrc va vb e5
    have KA : Below wr.heap.size wr (wr.alloc (.cells #[] 50)).drew := ((Below.refl _ _).alloc (Nat.le_refl _) _).drew
    have rA : (wr.alloc (.cells #[] 50)).drew.ownsRow wr.heap.size 50 2 (.slice (some ⟨wr.heap.size, 0, none⟩) 0 0) 0 [] := rowK_empty wr _ _ (Nat.le_refl _)
    go_wp2
    go_region_held3 (fun w' => Below wr.heap.size wr w')
      (first
        | exact (Below.refl _ _).drew
        | with_reducible assumption)
      (first
        | (refine step_append_srcK ((wr.alloc (.cells #[] 50)).drew) (by rfl) _ _ _ (by rfl) wr.heap.size 50 ti (.agg #[.int .i64 0, .int .i64 0]) 2 16 Try.underlying45 hi hz0 hz1 hz2 rfl (by decide) _ (0) ([]) (by rfl) (rA) _ (k) _ (by rfl) (Q1.out.below KA) (by unfold maxLen; omega) (by omega) (by first | omega | (simp; done) | (simp; omega)) ?_; intro v5 w5 hr5 hg5 hat5; have B5 : Below wr.heap.size wr w5 := Below.grown KA hg5 (by first | omega | (simp; done) | (simp; omega)) (by intro q hq; cases hq; simp); have z5 := B5.size; clear hg5 hat5)
        | (refine step_append_srcK (w5) (by rfl) _ _ _ (by rfl) wr.heap.size 50 ti (.agg #[.int .i64 0, .int .i64 0]) 2 16 Try.underlying45 hi hz0 hz1 hz2 rfl (by decide) _ (0 + k) _ (by rfl) (hr5) _ (out.length - (k + 1)) _ (by rfl) (Q2.out.below B5) (by unfold maxLen; omega) (by omega) (z5) ?_; intro v6 w6 hr6 hg6 hat6; have B6 : Below wr.heap.size wr w6 := Below.grown B5 hg6 (by first | omega | (simp; done) | (simp; omega)) (fun q hq => (hr5.lt q hq).1); have z6 := B6.size; clear hg6 hat6))
    all_goals
      have hfl : ([] : List Value) ++ (((out.drop 0).take k).flatMap encClockMark) ++ (((out.drop (k + 1)).take (out.length - (k + 1))).flatMap encClockMark) = (cutAt out k).flatMap encClockMark := by
        rw [List.nil_append, ← List.flatMap_append]
        unfold cutAt
        rw [List.drop_zero, List.take_of_length_le (l := out.drop (k + 1)) (by rw [List.length_drop]; exact Nat.le_refl _)]
      have hln : (cutAt out k).length = 0 + k + (out.length - (k + 1)) := by rw [cutAt_len (by omega)]; omega
      rw [hfl, ← hln] at hr6
      have HO4 : Hid (ClockMarkO w6 w.heap.size w6.heap.size v6 (cutAt out k)) := Lib.hid ((OwnK.of_row encClockMark_len (by omega) hr6).mono hsz (Nat.le_refl _))
      have hlb := lineL_bd _ HCK.out.2.2 HCK.out.2.1 (x := m.pShown) (by unfold tickM at tk; omega) (by unfold tickM at tk; omega)
      have HN1 := Lib.hid (fun h => invD_near HV.out hlt HM.out h)
      have HN2 := Lib.hid (fun h => invD_far HV.out hlt HM.out h)
      have hlo : -1000000000000000 ≤ lineL (cutAt out k) m.pShown - m.pTrue ∧ lineL (cutAt out k) m.pShown - m.pTrue ≤ 1000000000000000 := by unfold tickM at tk; omega
      have HLN := Lib.hid hln
      have HNQ : Hid (nearTk (cutAt out k) m j ↔ (-j ≤ lineL (cutAt out k) m.pShown - m.pTrue ∧ lineL (cutAt out k) m.pShown - m.pTrue ≤ j)) := Lib.hid Iff.rfl
      clear hfl hr6 hln KA rA hr5 Q1 Q2
      generalize hrest : cutAt out k = rest at *
      clear hrest
      obtain ⟨ao4, cap4, e4⟩ := HO4.out.form
      subst e4
      have cL := fun d os => Calls.regrown_of (w := w6) (d := d) (os := os) (specLine rest _ m.pShown _ w6.heap.size (HO4.out.lst.below (below_regrown w6 d os)) (below_regrown w6 d os).size HCK.out (by unfold tickM at tk; omega) (by unfold tickM at tk; omega))
      have s3 : IntKind.i64.wrap (lineL rest m.pShown - m.pTrue) = lineL rest m.pShown - m.pTrue := IntWalk.i64_in _ (by omega)
      have d0 := cellOf B6 (cell_of_lt c0) c0
      have d1 := cellOf B6 (cell_of_lt c1) c1
      have r0 := cell_regrown d0
      have r1 := cell_regrown d1
      clear c0 c1
      by_cases hf : -j ≤ lineL rest m.pShown - m.pTrue ∧ lineL rest m.pShown - m.pTrue ≤ j
      · have HV2 := Lib.hid (HN1.out (HNQ.out.2 hf))
        have cg := fun d os => Calls.regrown_of (w := w6) (d := d) (os := os) ((specInB (lineL rest m.pShown - m.pTrue) (-j) j true _ (decide_eq_true hf)).mono (fun _ _ q => ⟨q.1, by rw [q.2]; exact Below.refl _ _⟩))
        have hl8 : rest.length < out.length := by have := HLN.out; omega
        clear hf
        go_wp2
        refine wp_region_quiet_below (by kernel_rfl) (by kernel_rfl) ?_
        repeat (go_big_quiet_step (first | with_reducible exact cL _ _ | with_reducible exact cg _ _))
        refine wpQuiet_nil ?_
        intro _ hw'
        obtain ⟨⟨dq, osq⟩, hw''⟩ := hw'
        subst hw''
        have hb5 := below_regrown (w6) dq osq
        generalize grow (redrawn (w6) dq) osq = W5 at *
        have HO5 : Hid (ClockMarkO W5 w.heap.size W5.heap.size (.slice ao4 rest.length cap4) rest) := Lib.hid ((HO4.out.below hb5).mono (Nat.le_refl _) hb5.size)
        have C5 : Below w.heap.size w W5 := hbl.trans ((B6.trans (hb5.mono B6.size)).mono hsz)
        clear cL cg s3 d0 d1 r0 r1 hb5 B6 hlb hlo
        go_wp2
        go_roundw
        case rel => exact ⟨k, rest, _, rfl, rfl, HV2, HO5, ⟨_, _, rfl⟩, C5⟩
        case measure => simp [intOf]; omega
      · have HV2 := Lib.hid (HN2.out (fun h => hf (HNQ.out.1 h)))
        have cg := fun d os => Calls.regrown_of (w := w6) (d := d) (os := os) ((specInB (lineL rest m.pShown - m.pTrue) (-j) j false _ (decide_eq_false hf)).mono (fun _ _ q => ⟨q.1, by rw [q.2]; exact Below.refl _ _⟩))
        clear hf
        go_wp2
        refine wp_region_quiet_below (by kernel_rfl) (by kernel_rfl) ?_
        repeat (go_big_quiet_step (first | with_reducible exact cL _ _ | with_reducible exact cg _ _))
        refine wpQuiet_nil ?_
        intro _ hw'
        obtain ⟨⟨dq, osq⟩, hw''⟩ := hw'
        subst hw''
        have hb5 := below_regrown (w6) dq osq
        generalize grow (redrawn (w6) dq) osq = W5 at *
        have hz5 := (B6.trans (hb5.mono B6.size)).size
        have HW5 : Hid (ClockMarkO W5 w.heap.size W5.heap.size (.slice (some ⟨b, off, none⟩) out.length cap3) out) := Lib.hid ((HW.out.below (B6.trans (hb5.mono B6.size))).mono (Nat.le_refl _) hz5)
        have C5 : Below w.heap.size w W5 := hbl.trans ((B6.trans (hb5.mono B6.size)).mono hsz)
        clear cL cg s3 d0 d1 r0 r1 hb5 B6 hlb hlo
        go_wp2
        go_roundw
        case rel => exact ⟨k + 1, out, _, by go_num, rfl, HV2, HW5, ⟨_, _, rfl⟩, C5⟩
        case measure => simp [intOf]; omega
end Go.Proofs.Ytklilfbokpljkac
