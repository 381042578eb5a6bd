/- Marks dropped: the program. -/
import Derived.Test.YtklilfbokpljkacTkB
import Derived.Test.YtklilfbokpljkacTkC2
import Derived.Test.YtklilfbokpljkacTkJ
import Derived.Test.YtklilfbokpljkacRed
namespace Go.Proofs.Ytklilfbokpljkac
open Go.ChangeShapes Go.WideShapes Go.ChangeAt Go.RowKit Go.ChangeMaps Go.Sort
set_option linter.unusedSimpArgs false
set_option linter.unusedVariables false
set_option linter.unusedSimpArgs false
set_option linter.unusedVariables false

theorem lst_parts {out : List GClockMark} {v : Value} {w : World} {B : Nat} (h : ClockMarkL w B v out) (hB : B ≤ w.heap.size) (hl : 1 ≤ out.length) :
    ∃ b off cap, v = .slice (some ⟨b, off, none⟩) out.length cap ∧ out.length ≤ cap ∧ cap ≤ maxLen ∧ b < B ∧ (∀ k x, out[k]? = some x → ∀ j c, (encClockMark x)[j]? = some c → w.cell? ⟨b, off + k * 2 + j, none⟩ = some c) ∧
      ∀ w3, Below w.heap.size w w3 → ∀ i k c, i ≤ k → k ≤ out.length → SrcK w3 2 (.slice (some ⟨b, off + i * 2, none⟩) (k - i) c) (k - i) (((out.drop i).take (k - i)).flatMap encClockMark) := by
  rcases h.split encClockMark_len (by omega) with ⟨-, e1⟩ | ⟨a, cap, rfl, hcap, hmax, hcc⟩
  · rw [e1] at hl; simp at hl
  obtain ⟨ao, cap', e, _, _, _, hc⟩ := h
  obtain ⟨x, hx⟩ := get_of_lt (l := out) (k := 0) (by omega)
  obtain ⟨b, off, e2, hb, -⟩ := hc 0 x hx
  simp only [Value.slice.injEq] at e
  rw [e2] at e
  obtain ⟨e3, -, -⟩ := e
  simp only [Option.some.injEq] at e3
  subst e3
  refine ⟨b, off, cap, rfl, hcap, hmax, hb, fun k x hx j c hj => ?_, fun w3 q i k c h1 h2 => src_mid hcc hB q i k c h1 h2⟩
  obtain ⟨b', off', e4, -, h4⟩ := hc k x hx
  rw [e2] at e4
  simp only [Option.some.injEq, Addr.mk.injEq, and_true] at e4
  obtain ⟨rfl, rfl⟩ := e4
  exact h4 j c hj
set_option maxRecDepth 100000 in
set_option maxHeartbeats 4000000 in
theorem implDrp (xs : List GClockMark) (v : Value) (j : Int) (w : World) (B : Nat) (h : ClockMarkL w B v xs) (hB : B ≤ w.heap.size) (hn : szsClockMark xs ≤ 1048576) (hw : ∀ m ∈ xs, wfClockMark m) (_ : I64 j) :
    Calls Try.prog 59 #[v, .int .i64 j] w fun e w' => ∃ v', e = .returned (.tuple #[v', .bool (okDrp xs j)]) ∧ ClockMarkO w' w.heap.size w'.heap.size v' (resDrp xs j) ∧ Below w.heap.size w w' := by
  have hl : xs.length ≤ 1048576 := Nat.le_trans (szsClockMark_len xs) hn
  unfold resDrp
  cases hg : goodTk xs with
  | false =>
    have C := Lib.hid (implGoodTk xs v w B h hB false hg)
    have HO : Hid (okDrp xs j = false) := Lib.hid (by unfold okDrp; rw [hg]; rfl)
    clear hg
    rw [HO.out]
    obtain ⟨ao, cap, rfl⟩ := h.form
    clear h
    go_enter Try.func59, Try.ntmps59
    go_wp2_with fail
    refine C.out.mono ?_
    rintro e w1 ⟨rfl, hb⟩
    go_wp2
    go_ret2
    exact ⟨_, rfl, ownK_empty encClockMark_len (by omega) w1 _ hb.size, hb.alloc hb.size _⟩
  | true =>
  have C := Lib.hid (implGoodTk xs v w B h hB true hg)
  have HK := Lib.hid (goodTk_yes hg)
  by_cases ht : 0 ≤ j ∧ j ≤ 1000
  case neg =>
    have HO : Hid (okDrp xs j = false) := Lib.hid (by unfold okDrp; rw [hg, decide_eq_false ht]; rfl)
    clear hg
    rw [HO.out]
    obtain ⟨ao, cap, rfl⟩ := h.form
    clear h
    by_cases j0 : j < 0
    · go_enter Try.func59, Try.ntmps59
      go_wp2_with fail
      refine C.out.mono ?_
      rintro e w1 ⟨rfl, hb⟩
      go_wp2
      go_ret2
      exact ⟨_, rfl, ownK_empty encClockMark_len (by omega) w1 _ hb.size, hb.alloc hb.size _⟩
    · have j1 : 1000 < j := by omega
      clear ht
      go_enter Try.func59, Try.ntmps59
      go_wp2_with fail
      refine C.out.mono ?_
      rintro e w1 ⟨rfl, hb⟩
      go_wp2
      go_ret2
      exact ⟨_, rfl, ownK_empty encClockMark_len (by omega) w1 _ hb.size, hb.alloc hb.size _⟩
  have HO : Hid (okDrp xs j = true) := Lib.hid (by unfold okDrp; rw [hg, decide_eq_true ht]; rfl)
  clear hg
  rw [HO.out]
  obtain ⟨j0, j1⟩ := ht
  have jn0 : ¬ j < 0 := by omega
  have jn1 : ¬ 1000 < j := by omega
  have CC := Lib.hid (fun w' (q : Below w.heap.size w w') => cloneClockMark xs v w' B (h.below (q.mono hB)) (Nat.le_trans hB q.size) hl)
  have HI := Lib.hid (invD_start HK.out j)
  generalize hres : dropTk xs j = res at *
  clear hres
  obtain ⟨ao, cap, rfl⟩ := h.form
  clear h
  obtain ⟨ti, hi, hz0, hz1, hz2⟩ := info_parts info_ClockMark
  go_enter Try.func59, Try.ntmps59
  go_wp2_with fail
  refine C.out.mono ?_
  rintro e w1 ⟨rfl, hb⟩
  go_wp2_with fail
  refine (CC.out _ hb).mono ?_
  rintro e w2 ⟨v2, rfl, ho2, hb2⟩
  have C2 := hb.trans (hb2.mono hb.size)
  have HO2 := Lib.hid (ho2.mono (L' := w.heap.size) hb.size (Nat.le_refl _))
  clear ho2 hb2 hb CC C
  go_wp2
  go_loopw [6, 7] (fun o i wr => ∃ (k : Nat) (out : List GClockMark) (v : Value), i = .int .i64 k ∧ o = v ∧ Hid (invD j res out k) ∧ Hid (ClockMarkO wr w.heap.size wr.heap.size v out) ∧ (∃ ao cap, v = .slice ao out.length cap) ∧ Below w.heap.size w wr)
    (fun o i _ => match o with | .slice _ n _ => n + n - (intOf i).toNat | _ => 0)
  case atStart => exact ⟨1, xs, v2, rfl, rfl, HI, HO2, HO2.out.form, C2⟩
  case round =>
    obtain ⟨k, out, v3, rfl, rfl, HV, HW, ⟨ao3, cap3, rfl⟩, hbl⟩ := hrel
    have hsz := hbl.size
    obtain ⟨q0, q1, q2, -⟩ := HV.out
    have hl10 := q0.1.2
    clear q0 C2 HO2
    by_cases hlt : k + 1 < out.length
    case neg =>
      have HE := Lib.hid (invD_end HV.out (by omega))
      have hk2 : ¬ (k : Int) < (out.length : Int) - 1 := by omega
      go_wp2
      go_ret2
      refine ⟨_, rfl, ?_, hbl⟩
      rw [← HE.out]
      exact HW.out
    obtain ⟨b, off, cap4, e4, hcap, hmax, hbb, hcell, hsrc⟩ := lst_parts HW.out.lst (Nat.le_refl _) (by omega)
    simp only [Value.slice.injEq, true_and] at e4
    obtain ⟨rfl, rfl⟩ := e4
    unfold maxLen at hmax
    have HSR := Lib.hid hsrc
    obtain ⟨m, hm⟩ := get_of_lt (l := out) (k := k) (by omega)
    have c0 : wr.cell? ⟨b, off + k * 2, none⟩ = some (.int .i64 m.pShown) := hcell k m hm 0 _ rfl
    have c1 : wr.cell? ⟨b, off + k * 2 + 1, none⟩ = some (.int .i64 m.pTrue) := hcell k m hm 1 _ rfl
    have tk := okTk_tick HV.out.1 hm
    have HM := Lib.hid hm
    have HCK := Lib.hid (cutAt_ok HV.out.1 q1 hlt)
    clear hm hcell hsrc
    have mp0 : (0 : Int) ≤ (k : Int) := by omega
    have mp1 : (k : Int) < (out.length : Int) := by omega
    have mp2 : (k : Int) < (out.length : Int) - 1 := by omega
    have mp3 : (out.length : Int) ≤ 10 := by omega
    have mp4 : (1 : Int) ≤ (out.length : Int) := by omega
    have N1 := (Below.refl wr.heap.size wr).alloc (Nat.le_refl _) (.cells #[.int .i64 m.pShown, .int .i64 m.pTrue] 50)
    have bx := Bx.new wr [.int .i64 m.pShown, .int .i64 m.pTrue] 50
    obtain ⟨W1, hW1⟩ : ∃ W1, wr.alloc (.cells #[.int .i64 m.pShown, .int .i64 m.pTrue] 50) = W1 := ⟨_, rfl⟩
    rw [hW1] at N1 bx
    have hkc : ¬ cap3 = k := by omega
    have hkc2 : ¬ cap3 = k + 1 := by omega
    have hkc3 : ((k : Int) + 1).toNat = k + 1 := by omega
    have s1 : IntKind.i64.wrap ((k : Int) + 1) = (k : Int) + 1 := IntWalk.i64_in _ (by omega)
    go_wp2
    refine region_below_tail 7 (by kernel_rfl) (by kernel_rfl) ?_
    simp only [List.take_succ_cons, List.take_zero, List.drop_succ_cons, List.drop_zero]
    repeat (go_big_quiet_step (fail))
    refine wpQuiet_nil ?_
    intro _ hw'
    obtain ⟨⟨dq, osq⟩, hw''⟩ := hw'
    subst hw''
    have hb2 := below_regrown W1 dq osq
    generalize grow (redrawn W1 dq) osq = W2 at *
    have B1 : Below wr.heap.size wr W2 := N1.trans (hb2.mono N1.size)
    have bx2 := bx.below hb2
    have va := HSR.out W2 B1 0 k cap3 (Nat.zero_le _) (by omega)
    have vb := HSR.out W2 B1 (k + 1) out.length (cap3 - (k + 1)) (by omega) (Nat.le_refl _)
    have e5 : off + 0 * 2 = off := by omega
    rw [e5, Nat.sub_zero] at va
    have K2 : Below W2.heap.size W2 (W2.alloc (.cells #[.slice (some ⟨b, off, none⟩) k cap3, .slice (some ⟨b, off + (k + 1) * 2, none⟩) (out.length - (k + 1)) (cap3 - (k + 1))] 45)) := (Below.refl _ W2).alloc (Nat.le_refl _) _
    have bz := Bx.new W2 [.slice (some ⟨b, off, none⟩) k cap3, .slice (some ⟨b, off + (k + 1) * 2, none⟩) (out.length - (k + 1)) (cap3 - (k + 1))] 45
    have CX := Lib.hid (implCat _ _ k (out.length - (k + 1)) W2.heap.size _ _ (W2.alloc (.cells #[.slice (some ⟨b, off, none⟩) k cap3, .slice (some ⟨b, off + (k + 1) * 2, none⟩) (out.length - (k + 1)) (cap3 - (k + 1))] 45)) (bz.2 0 _ rfl) (bz.2 1 _ rfl) (va.below K2) (vb.below K2) (by omega) (by omega) (by omega))
    clear va vb bz bx hb2 hW1 N1
    go_wp2_with fail
    refine CX.out.mono ?_
    rintro e W4 ⟨v4, rfl, hrow, hb4⟩
    have B4 : Below wr.heap.size wr W4 := B1.trans ((K2.trans (hb4.mono K2.size)).mono B1.size)
    have bx4 := bx2.below (K2.trans (hb4.mono K2.size))
    have hfl : (((out.drop 0).take k).flatMap encClockMark) ++ (((out.drop (k + 1)).take (out.length - (k + 1))).flatMap encClockMark) = (cutAt out k).flatMap encClockMark := by
      rw [← List.flatMap_append]
      unfold cutAt
      rw [List.drop_zero, List.take_of_length_le (l := out.drop (k + 1)) (by rw [List.length_drop]; exact Nat.le_refl _)]
    have hln : (cutAt out k).length = k + (out.length - (k + 1)) := by rw [cutAt_len (by omega)]; omega
    rw [hfl, ← hln] at hrow
    have hz9 : w.heap.size ≤ (W2.alloc (.cells #[.slice (some ⟨b, off, none⟩) k cap3, .slice (some ⟨b, off + (k + 1) * 2, none⟩) (out.length - (k + 1)) (cap3 - (k + 1))] 45)).heap.size := Nat.le_trans hsz (Nat.le_trans B1.size K2.size)
    have HO4 : Hid (ClockMarkO W4 w.heap.size W4.heap.size v4 (cutAt out k)) := Lib.hid ((OwnK.of_row encClockMark_len (by omega) hrow).mono hz9 (Nat.le_refl _))
    have hlb := lineL_bd _ HCK.out.2.2 HCK.out.2.1 (x := m.pShown) (by unfold tickM at tk; omega) (by unfold tickM at tk; omega)
    have HN1 := Lib.hid (fun h => invD_near HV.out hlt HM.out h)
    have HN2 := Lib.hid (fun h => invD_far HV.out hlt HM.out h)
    obtain ⟨y, hy⟩ : ∃ y, ab (m.pTrue - lineL (cutAt out k) m.pShown) = y := ⟨_, rfl⟩
    have HNI := Lib.hid (nearTk_ab (w := j) hy)
    have CL := implLine (cutAt out k) v4 m.pShown W4 W4.heap.size HO4.out.lst (Nat.le_refl _) HCK.out (by unfold tickM at tk; omega) (by unfold tickM at tk; omega)
    have hlo : -1000000000000000 ≤ m.pTrue - lineL (cutAt out k) m.pShown ∧ m.pTrue - lineL (cutAt out k) m.pShown ≤ 1000000000000000 := by unfold tickM at tk; omega
    clear hfl hrow hb4 K2 CX bx2 B1
    generalize hrest : cutAt out k = rest at *
    clear hrest
    have cL := fun d os => Calls.regrown_of (w := W4) (d := d) (os := os) (implLine rest v4 m.pShown _ W4.heap.size (HO4.out.lst.below (below_regrown W4 d os)) (below_regrown W4 d os).size HCK.out (by unfold tickM at tk; omega) (by unfold tickM at tk; omega))
    have cg := fun d os => Calls.regrown_of (w := W4) (d := d) (os := os) ((magAny (m.pTrue - lineL rest m.pShown) y _ hlo.1 hlo.2 hy).mono (fun _ _ q => ⟨q.1, by rw [q.2]; exact Below.refl _ _⟩))
    have s3 : IntKind.i64.wrap (m.pTrue - lineL rest m.pShown) = m.pTrue - lineL rest m.pShown := IntWalk.i64_in _ (by omega)
    clear CL hy
    have HLN := Lib.hid hln
    clear hln
    obtain ⟨ao4, cap4, e4⟩ := HO4.out.form
    subst e4
    have Q0 := bx4.2 0 _ rfl
    have Q1 := bx4.2 1 _ rfl
    have r0 := cell_regrown Q0
    have r1 := cell_regrown Q1
    go_wp2
    refine wp_region_quiet_below (by kernel_rfl) (by kernel_rfl) ?_
    repeat (go_big_quiet_step (first | with_reducible exact cL _ _ | with_reducible exact cg _ _))
    refine wpQuiet_nil ?_
    intro _ hw'
    obtain ⟨⟨dq, osq⟩, hw''⟩ := hw'
    subst hw''
    have hb5 := below_regrown (W4) dq osq
    generalize grow (redrawn (W4) dq) osq = W5 at *
    have C5 : Below w.heap.size w W5 := hbl.trans ((B4.trans (hb5.mono B4.size)).mono hsz)
    have hz5 := (B4.trans (hb5.mono B4.size)).size
    have HW5 : Hid (ClockMarkO W5 w.heap.size W5.heap.size (.slice (some ⟨b, off, none⟩) out.length cap3) out) := Lib.hid ((HW.out.below (B4.trans (hb5.mono B4.size))).mono (Nat.le_refl _) hz5)
    have HO5 : Hid (ClockMarkO W5 w.heap.size W5.heap.size (.slice ao4 rest.length cap4) rest) := Lib.hid ((HO4.out.below hb5).mono (Nat.le_refl _) hb5.size)
    clear cL cg s3 Q0 Q1 r0 r1 bx4 hb5 B4 hlb hlo c0 c1
    by_cases hf : j < y
    · have HV2 := Lib.hid (HN2.out (fun h => absurd hf (by have := HNI.out.1 h; omega)))
      go_wp2
      go_roundw
      case rel => exact ⟨k + 1, out, _, by go_num, rfl, HV2, HW5, ⟨_, _, rfl⟩, C5⟩
      case measure => simp [intOf]; omega
    · have HV2 := Lib.hid (HN1.out (HNI.out.2 (by omega)))
      have hl8 : rest.length < out.length := by have := HLN.out; omega
      go_wp2
      go_roundw
      case rel => exact ⟨k, rest, _, rfl, rfl, HV2, HO5, ⟨_, _, rfl⟩, C5⟩
      case measure => simp [intOf]; omega
end Go.Proofs.Ytklilfbokpljkac
