/- Tracks merged: the specification. -/
import Derived.Test.YtklilfbokpljkacTkV
namespace Go.Proofs.Ytklilfbokpljkac
open Go.ChangeShapes Go.WideShapes Go.ChangeAt Go.RowKit Go.ChangeMaps Go.Shelf Go.Lib
set_option linter.unusedSimpArgs false
set_option linter.unusedVariables false
set_option linter.unusedSimpArgs false
set_option linter.unusedVariables false

theorem eqM_comm (x y : GClockMark) : eqM x y = eqM y x := by
  cases h : eqM x y
  · cases h2 : eqM y x
    · rfl
    · rw [eqM_iff.1 h2] at h; rw [eqM_iff.2 rfl] at h; cases h
  · rw [eqM_iff.1 h]; exact (eqM_iff.2 rfl).symm
theorem hasM_take {xs : List GClockMark} {q : Nat} {x : GClockMark} (h : xs[q]? = some x) (m : GClockMark) : hasM (xs.take (q + 1)) m = (hasM (xs.take q) m || eqM x m) := by
  unfold hasM
  rw [take_snoc h, List.any_append, List.any_cons, List.any_nil, Bool.or_false, eqM_comm x m]
theorem runEq (x y : GClockMark) (w : World) : Sem.run Try.prog (binOp .eql 50 (.agg #[.int .i64 x.pShown, .int .i64 x.pTrue]) (.agg #[.int .i64 y.pShown, .int .i64 y.pTrue])) w = .ok (.bool (eqM x y)) w := eqlCM.1 x y w
theorem runGd (op : BinOp) (a b : Operand) (x y : GClockMark) (w : World) : Sem.run Try.prog (eqGuard op 50 a b (.agg #[.int .i64 x.pShown, .int .i64 x.pTrue]) (.agg #[.int .i64 y.pShown, .int .i64 y.pTrue])) w = .ok () w := eqlCM.2 op a b x y w
set_option maxRecDepth 100000 in
set_option maxHeartbeats 4000000 in
theorem specMrg (xs : List GClockMark) (v : Value) (ys : List GClockMark) (v2 : Value) (w : World) (B : Nat) (h : ClockMarkL w B v xs) (h2 : ClockMarkL w B v2 ys) (hB : B ≤ w.heap.size) (hn : szsClockMark xs ≤ 1048576) (hn2 : szsClockMark ys ≤ 1048576) (_ : ∀ s ∈ xs, wfClockMark s) (_ : ∀ s ∈ ys, wfClockMark s) :
    Calls Try.prog 70 #[v, v2] w fun e w' => ∃ v', e = .returned (.tuple #[v', .bool (okMrg xs ys)]) ∧ ClockMarkO w' w.heap.size w'.heap.size v' (resMrg xs ys) ∧ RowKit.Below w.heap.size w w' := by
  have hlx := Nat.le_trans (szsClockMark_len xs) hn
  have hly := Nat.le_trans (szsClockMark_len ys) hn2
  cases hg : goodTk xs with
  | false =>
    obtain ⟨e1, e2⟩ := okMrg_no (b := ys) (Or.inl hg)
    rw [e1, e2]
    have C := Lib.hid (specGoodTkV xs v w B h hB hlx false hg)
    clear hg e1 e2
    obtain ⟨ao, cap, rfl⟩ := h.form
    obtain ⟨ao2, cap2, rfl⟩ := h2.form
    clear h h2
    go_enter Try.func70, Try.ntmps70
    go_wp2_with fail
    refine C.out.mono ?_
    rintro e w1 ⟨rfl, hb⟩
    go_wp2
    go_ret2
    exact ⟨_, rfl, ownK_empty encClockMark_len (by omega) w1 _ hb.size, hb.alloc hb.size _⟩
  | true =>
  have C := Lib.hid (specGoodTkV xs v w B h hB hlx true hg)
  have HK := Lib.hid (goodTk_yes hg)
  cases hg2 : goodTk ys with
  | false =>
    obtain ⟨e1, e2⟩ := okMrg_no (a := xs) (Or.inr hg2)
    rw [e1, e2]
    have C2 := Lib.hid (fun w' (q : RowKit.Below w.heap.size w w') => specGoodTkV ys v2 w' B (h2.below (q.mono hB)) (Nat.le_trans hB q.size) hly false hg2)
    clear hg hg2 e1 e2
    obtain ⟨ao, cap, rfl⟩ := h.form
    obtain ⟨ao2, cap2, rfl⟩ := h2.form
    clear h h2
    go_enter Try.func70, Try.ntmps70
    go_wp2_with fail
    refine C.out.mono ?_
    rintro e w1 ⟨rfl, hb⟩
    go_wp2_with fail
    refine (C2.out _ hb).mono ?_
    rintro e w2 ⟨rfl, hb2⟩
    have hb3 := hb.trans (hb2.mono hb.size)
    go_wp2
    go_ret2
    exact ⟨_, rfl, ownK_empty encClockMark_len (by omega) w2 _ hb3.size, hb3.alloc hb3.size _⟩
  | true =>
  have C2 := Lib.hid (fun w' (q : RowKit.Below w.heap.size w w') => specGoodTkV ys v2 w' B (h2.below (q.mono hB)) (Nat.le_trans hB q.size) hly true hg2)
  have HK2 := Lib.hid (goodTk_yes hg2)
  obtain ⟨e1, e2⟩ := okMrg_of hg hg2
  rw [e1, e2]
  clear hg hg2 e1 e2
  have hx2 := HK.out.1.1
  have hx10 : (xs.length : Int) ≤ 10 := by have := HK.out.1.2; omega
  have hy2 := HK2.out.1.1
  have hy10 : (ys.length : Int) ≤ 10 := by have := HK2.out.1.2; omega
  have HSX := Lib.hid (lst_src h (by omega))
  obtain ⟨bx, ox, cx, rfl, -, -, hbx, hcx, -⟩ := lst_parts h hB (by omega)
  obtain ⟨bY, oy, cy, rfl, -, -, hby, hcy, -⟩ := lst_parts h2 hB (by omega)
  have HCX := Lib.hid hcx
  have HCY := Lib.hid hcy
  clear hcx hcy h h2
  obtain ⟨ti, hi, hz0, hz1, hz2⟩ := info_parts info_ClockMark
  have HE : Hid (mergeR xs xs ys = mergeTk xs ys) := Lib.hid rfl
  generalize mergeTk xs ys = T at *
  generalize hu : goodTk T = u at *
  generalize hR : (if u = true then T else []) = R at *
  have HU := Lib.hid hu
  have HR := Lib.hid hR
  clear hu hR
  go_enter Try.func70, Try.ntmps70
  go_wp2_with fail
  refine C.out.mono ?_
  rintro e w1 ⟨rfl, hb⟩
  go_wp2_with fail
  refine (C2.out _ hb).mono ?_
  rintro e w2 ⟨rfl, hb2⟩
  have hb3 := hb.trans (hb2.mono hb.size)
  have hr0 : (w2.alloc (.cells #[] 50)).ownsRow w.heap.size 50 2 (.slice (some ⟨w2.heap.size, 0, none⟩) 0 0) 0 [] := rowK_empty w2 _ _ hb3.size
  have hb4 := hb3.alloc hb3.size (.cells #[] 50)
  have S1 := Lib.hid (HSX.out.below hb4)
  clear hb hb2 hb3 C C2 HSX
  go_wp2_with (at_builtin; refine wpList_append_srcK _ rfl _ _ 45 rfl w.heap.size 50 ti _ 2 16 Try.underlying45 hi hz0 hz1 hz2 rfl (by decide) _ 0 [] rfl hr0 _ xs.length (xs.flatMap encClockMark) rfl S1.out (by unfold maxLen; omega) (by omega) hb4.size ?_; intro v3 w3 hr3 hg3 _)
  have hb3 : RowKit.Below w.heap.size w w3 := hb4.grown hg3 hb4.size (fun g e => (hr0.lt g e).1)
  rw [Nat.zero_add, List.nil_append] at hr3
  have HO2 : Hid (ClockMarkO w3 w.heap.size w3.heap.size v3 (mergeR xs xs (ys.take 0))) := Lib.hid (OwnK.of_row encClockMark_len (by omega) hr3)
  clear hg3 hr0 hb4 hr3 S1
  have hsl := HO2.out.form
  go_wp2
  go_loopw [6, 7] (fun o i wr => ∃ (k : Nat) (v : Value), k ≤ ys.length ∧ i = .int .i64 k ∧ o = v ∧ Hid (ClockMarkO wr w.heap.size wr.heap.size v (mergeR xs xs (ys.take k))) ∧ (∃ ao c, v = .slice ao (mergeR xs xs (ys.take k)).length c) ∧ RowKit.Below w.heap.size w wr)
    (fun _ i _ => ys.length - (intOf i).toNat)
  case atStart => exact ⟨0, _, Nat.zero_le _, rfl, rfl, HO2, hsl, hb3⟩
  case round =>
    obtain ⟨k, _, hk, rfl, rfl, HO, ⟨aoo, coo, rfl⟩, hbl⟩ := hrel
    clear hsl HO2 hb3
    have hsz := hbl.size
    have hml := mergeR_len xs (ys.take k) xs
    rw [List.length_take] at hml
    by_cases hlt : k < ys.length
    case neg =>
      obtain rfl : k = ys.length := by omega
      have hot := HO.out
      rw [List.take_length, HE.out] at hot
      rw [List.take_length, HE.out] at hml ⊢
      have CT := Lib.hid (specGoodTkV T _ wr wr.heap.size hot.lst (Nat.le_refl _) (by omega) u HU.out)
      have HOT := Lib.hid hot
      have HR2 := Lib.hid HR.out
      clear hot HO hml
      cases u with
      | false =>
        go_wp2_with fail
        refine CT.out.mono ?_
        rintro e w5 ⟨rfl, hb5⟩
        have C5 := hbl.trans (hb5.mono hsz)
        go_wp2
        go_ret2
        refine ⟨_, rfl, ?_, C5.alloc C5.size _⟩
        rw [← HR2.out]
        exact ownK_empty encClockMark_len (by omega) w5 _ C5.size
      | true =>
        go_wp2_with fail
        refine CT.out.mono ?_
        rintro e w5 ⟨rfl, hb5⟩
        have C5 := hbl.trans (hb5.mono hsz)
        go_wp2
        go_ret2
        refine ⟨_, rfl, ?_, C5⟩
        rw [← HR2.out]
        exact (HOT.out.below hb5).mono (Nat.le_refl _) hb5.size
    obtain ⟨m, hm⟩ := get_of_lt hlt
    have HSN := Lib.hid (mergeR_snoc xs (ys.take k) xs m)
    rw [← take_snoc hm] at HSN
    have HMM := Lib.hid (fun (q : Nat) x (hx : xs[q]? = some x) => hasM_take hx m)
    have HYC : Hid (∀ w', RowKit.Below w.heap.size w w' → w'.cell? ⟨bY, oy + k * 2, none⟩ = some (.int .i64 m.pShown) ∧ w'.cell? ⟨bY, oy + k * 2 + 1, none⟩ = some (.int .i64 m.pTrue)) := Lib.hid (fun w' q => And.intro (cellOf q (by omega : bY < w.heap.size) (HCY.out k m hm 0 _ rfl)) (cellOf q (by omega : bY < w.heap.size) (HCY.out k m hm 1 _ rfl)))
    have mp0 : (0 : Int) ≤ (k : Int) := by omega
    have mp1 : (k : Int) < (ys.length : Int) := by omega
    clear hm
    have HMF : Hid (hasM (xs.take xs.length) m = hasM xs m) := Lib.hid (by rw [List.take_length])
    go_wp2
    have CP := Lib.hid (fun w' (q : RowKit.Below wr.heap.size wr w') => specPut (mergeR xs xs (ys.take k)) (.slice aoo (mergeR xs xs (ys.take k)).length coo) m w' wr.heap.size (HO.out.lst.below q) q.size (by omega) (by omega))
    generalize wr = w0 at *
    go_loopw [8, 9] (fun a i wi => ∃ (q n : Nat), q ≤ xs.length ∧ i = .int .i64 q ∧ a = .bool (hasM (xs.take q) m) ∧ wi = w0.drewN n) (fun _ i _ => xs.length - (intOf i).toNat)
    case atStart => exact ⟨0, 0, Nat.zero_le _, rfl, rfl, rfl⟩
    case round =>
      obtain ⟨q, n, hq, rfl, rfl, hwr⟩ := hrel
      have hb9 : RowKit.Below w0.heap.size w0 wr := hwr ▸ drewN_b (Below.refl _ _) n
      have hbw : RowKit.Below w.heap.size w wr := hbl.trans (hb9.mono hsz)
      have HWN : Hid (∀ m, wr.drewN m = w0.drewN (n + m)) := Lib.hid (fun m => by rw [hwr, World.drewN_drewN])
      clear hwr
      obtain ⟨y0, y1⟩ := HYC.out wr hbw
      by_cases hql : q < xs.length
      case neg =>
        obtain rfl : q = xs.length := by omega
        rw [HMF.out] at *
        have HO5 : Hid (ClockMarkO wr w.heap.size wr.heap.size (.slice aoo (mergeR xs xs (ys.take k)).length coo) (mergeR xs xs (ys.take k))) := Lib.hid ((HO.out.below hb9).mono (Nat.le_refl _) hb9.size)
        cases hhm : hasM xs m with
        | true =>
          have HS2 : Hid (mergeR xs xs (ys.take (k + 1)) = mergeR xs xs (ys.take k)) := Lib.hid (by rw [HSN.out, hhm, if_pos rfl])
          clear hhm
          go_wp2
          go_roundw
          case rel => exact ⟨k + 1, _, by omega, by go_num, rfl, by rw [HS2.out]; exact HO5, ⟨aoo, coo, by rw [HS2.out]⟩, hbw⟩
          case measure => simp [intOf]; omega
        | false =>
          have HS2 : Hid (mergeR xs xs (ys.take (k + 1)) = putTk (mergeR xs xs (ys.take k)) m) := Lib.hid (by rw [HSN.out, hhm, if_neg (by simp)])
          have CP2 := Lib.hid (CP.out wr hb9)
          have hz9 := hbw.size
          clear hhm
          go_wp2_with fail
          refine CP2.out.mono ?_
          rintro e w5 ⟨v5, rfl, ho5, hb5⟩
          have C5 := hbw.trans (hb5.mono hz9)
          have HO6 := Lib.hid (ho5.mono (L' := w.heap.size) hz9 (Nat.le_refl _))
          have hf := ho5.form
          clear ho5 hb5
          go_wp2
          go_roundw
          case rel => exact ⟨k + 1, v5, by omega, by go_num, rfl, by rw [HS2.out]; exact HO6, by rw [HS2.out]; exact hf, C5⟩
          case measure => simp [intOf]; omega
      obtain ⟨x, hx⟩ := get_of_lt hql
      have c0 : wr.cell? ⟨bx, ox + q * 2, none⟩ = some (.int .i64 x.pShown) := cellOf hbw (by omega) (HCX.out q x hx 0 _ rfl)
      have c1 : wr.cell? ⟨bx, ox + q * 2 + 1, none⟩ = some (.int .i64 x.pTrue) := cellOf hbw (by omega) (HCX.out q x hx 1 _ rfl)
      have HT := Lib.hid (HMM.out q x hx)
      have heq' := fun w => runEq x m w
      have hgd' := fun op a b w => runGd op a b x m w
      have mq0 : (0 : Int) ≤ (q : Int) := by omega
      have mq1 : (q : Int) < (xs.length : Int) := by omega
      clear hx
      generalize hasM (xs.take q) m = u1 at *
      generalize eqM x m = u2 at *
      cases u1 with
      | true =>
        go_wp2
        go_quiet (fail)
        go_wp2
        go_roundw
        case rel => exact ⟨q + 1, n + nq, by omega, by go_num, by rw [HT.out]; rfl, HWN.out nq⟩
        case measure => simp [intOf]; omega
      | false =>
        go_wp2
        go_quiet (fail)
        go_wp2
        go_roundw
        case rel => exact ⟨q + 1, n + nq, by omega, by go_num, by rw [HT.out]; rfl, HWN.out nq⟩
        case measure => simp [intOf]; omega
end Go.Proofs.Ytklilfbokpljkac
