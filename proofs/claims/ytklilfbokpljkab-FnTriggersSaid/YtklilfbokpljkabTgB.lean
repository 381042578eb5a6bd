/- Triggers: the specification's times. -/
import Derived.Test.YtklilfbokpljkabTgA
import Derived.Test.YtklilfbokpljkabIns
import Derived.Test.YtklilfbokpljkabFIntA2S
namespace Go.Proofs.Ytklilfbokpljkab
open Go.ChangeShapes Go.WideShapes Go.ChangeAt Go.RowKit Go.ChangeMaps
set_option linter.unusedSimpArgs false
set_option linter.unusedVariables false
set_option linter.unusedSimpArgs false
set_option linter.unusedVariables false

/-- A store into an owned row. -/
theorem row_set {w : World} {base size n g cap : Nat} {e : TypeId} {xs : List Value} (h : w.ownsRow base e size (.slice (some ⟨g, 0, none⟩) n cap) n xs) (j : Nat) (u : Value) :
    (w.setCell ⟨g, j, none⟩ u).ownsRow base e size (.slice (some ⟨g, 0, none⟩) n cap) n (xs.set j u) := by
  obtain ⟨hl, hr⟩ := h
  rcases hr with ⟨hv, -⟩ | ⟨g', cap', cur, hv, hb, hg, h1, h2, h3, h4⟩
  · cases hv
  · simp only [Value.slice.injEq, Option.some.injEq, Addr.mk.injEq, and_true, true_and] at hv
    obtain ⟨rfl, rfl⟩ := hv
    refine ⟨by rw [List.length_set]; exact hl, .inr ⟨g, cap, cur.setIfInBounds j u, rfl, hb, ?_, h1, h2, by simpa using h3, ?_⟩⟩
    · show (w.heap.modify g _)[g]? = _
      rw [Array.getElem?_modify, if_pos rfl, hg]
      rfl
    · rw [← h4]
      simp [Array.toList_setIfInBounds, List.take_set]
theorem row_emptyQ (w : World) (o : Obj) {base : Nat} (e : TypeId) (size : Nat) (h : base ≤ w.heap.size + 1) : ((w.alloc o).alloc (.cells #[] e)).ownsRow base e size (.slice (some ⟨w.heap.size + 1, 0, none⟩) 0 0) 0 [] := by
  have := row_empty (w.alloc o) (base := base) e size (by simpa using h)
  rwa [show (w.alloc o).heap.size = w.heap.size + 1 by simp] at this
theorem srcK_two (w : World) (a b : Int) (T : TypeId) : SrcK (w.alloc (.cells #[.int .i64 a, .int .i64 b] T)) 2 (.slice (some ⟨w.heap.size, 0, none⟩) 1 1) 1 [.int .i64 a, .int .i64 b] :=
  srcK_box (Bx.new w [.int .i64 a, .int .i64 b] T) (by simp [Value.oneCell'])
theorem set_flat2 : ∀ (rows : List (Int × Int)) {m : Nat}, m < rows.length → ∀ {a b : Int}, ((rows.flatMap encA2).set (m * 2) (.int .i64 a)).set (m * 2 + 1) (.int .i64 b) = (rows.set m (a, b)).flatMap encA2
  | [], m, h, a, b => by simp at h
  | r :: l, 0, h, a, b => rfl
  | r :: l, m + 1, h, a, b => by
    have i := set_flat2 l (m := m) (by simpa using h) (a := a) (b := b)
    rw [List.set_cons_succ, List.flatMap_cons, List.flatMap_cons, ← i, show (m + 1) * 2 = m * 2 + 2 by omega]
    rfl
def tailT (n : Nat) : Option Nat → List (Int × Int)
  | none => []
  | some a => [((a : Int), (n : Int))]
theorem tail_end (L Q : Nat → Bool) {n k : Nat} (h : n ≤ k) (st : Option Nat) : tmA L Q n k st = tailT n st := by
  cases st with
  | none => exact tmA_end h
  | some a => exact tmA_last h
set_option maxRecDepth 100000 in
set_option maxHeartbeats 4000000 in
theorem specOnT (xs : List Int) (v : Value) (s : GSetting) (w : World) (B : Nat) (h : Lst (Value.int .i64) w B v xs) (hB : B ≤ w.heap.size) (hx : okL xs = true) (hs : okS s) :
    Calls Try.prog 70 #[v, aggS s] w fun e w' => ∃ v', e = .returned v' ∧ IntA2SO w' w.heap.size w'.heap.size v' (timesT xs s) ∧ Below w.heap.size w w' := by
  have hl24 := (okL_yes hx).2
  obtain ⟨ti, hi, hz0, hz1, hz2⟩ := info_parts info_A2
  have bx0 := (Bx.new w [.int .i64 s.pShort, .int .i64 s.pLong, .int .i64 s.pOn, .int .i64 s.pOff] 28).alloc (.cells #[] 55)
  have N1 := ((Below.refl w.heap.size w).alloc (Nat.le_refl _) (.cells #[.int .i64 s.pShort, .int .i64 s.pLong, .int .i64 s.pOn, .int .i64 s.pOff] 28)).alloc (by first | omega | (simp; done) | (simp; omega)) (.cells #[] 55)
  have hr0 := row_emptyQ w (.cells #[.int .i64 s.pShort, .int .i64 s.pLong, .int .i64 s.pOn, .int .i64 s.pOff] 28) (base := w.heap.size + 1) 55 2 (Nat.le_refl _)
  obtain ⟨⟨a1, a2⟩, ⟨b1, b2⟩, ⟨c1, c2⟩, ⟨d1, d2⟩⟩ := id hs
  have CR : Hid (∀ (p : Nat) W, Below w.heap.size w W → s.pLong ≤ (p : Int) + 1 → p < xs.length → Calls Try.prog 74 #[v, aggS s, .int .i64 p] W fun e w' => e = .returned (.tuple #[.int .i64 (nT xs s p), .int .i64 (dT xs s p)]) ∧ Below W.heap.size W w') :=
    Lib.hid (fun p W q h0 hp => specRatT xs v s p _ _ W B (h.below (q.mono hB)) (Nat.le_trans hB q.size) hx hs h0 hp rfl rfl)
  have CB : Hid (∀ p : Nat, s.pLong ≤ (p : Int) + 1 → p < xs.length → (0 ≤ nT xs s p ∧ nT xs s p ≤ 10000000) ∧ (1 ≤ dT xs s p ∧ dT xs s p ≤ 10000000)) := Lib.hid (fun p h0 hp => nT_bd (okL_yes hx).1 hs h0 hp)
  have HLQ : Hid (∀ p : Nat, loudT xs s s.pOn p = decide (s.pOn * dT xs s p ≤ 10 * nT xs s p) ∧ quietT xs s s.pOff p = decide (10 * nT xs s p ≤ s.pOff * dT xs s p)) := Lib.hid (fun p => ⟨rfl, rfl⟩)
  have HT : Hid (timesT xs s = tmA (loudT xs s s.pOn) (quietT xs s s.pOff) xs.length (plT s) none) := Lib.hid rfl
  have hpl : ((plT s : Nat) : Int) = s.pLong - 1 := by unfold plT; omega
  generalize timesT xs s = tms at *
  generalize loudT xs s s.pOn = L at *
  generalize quietT xs s s.pOff = Q at *
  generalize plT s = pl at *
  generalize nT xs s = nf at *
  generalize dT xs s = df at *
  have HPL := Lib.hid hpl
  obtain ⟨ao, cap, rfl⟩ := h.form
  clear h hx hs hpl
  go_enter Try.func70, Try.ntmps70
  go_wp2
  rename_i K0 Q0
  go_loopw [5, 6, 7] (fun o f i wr => ∃ (k q : Nat) (g cp : Nat) (rows dn : List (Int × Int)) (st : Option Nat), pl ≤ k ∧ q ≤ k + 1 ∧ i = .int .i64 k ∧ f = .bool st.isSome ∧ o = .slice (some ⟨g, 0, none⟩) q cp ∧ wr.ownsRow (w.heap.size + 1) 55 2 (.slice (some ⟨g, 0, none⟩) q cp) q (rows.flatMap encA2) ∧ Hid (rows.length = q) ∧ Hid (rows = dn ++ tailT xs.length st) ∧ Hid (dn ++ tmA L Q xs.length k st = tms)
      ∧ Bx wr w.heap.size [.int .i64 s.pShort, .int .i64 s.pLong, .int .i64 s.pOn, .int .i64 s.pOff] ∧ Below w.heap.size w wr) (fun _ _ i _ => xs.length - (intOf i).toNat)
  case atStart => exact ⟨pl, 0, _, _, [], [], none, Nat.le_refl _, by omega, by rw [HPL.out], rfl, rfl, hr0, Lib.hid rfl, Lib.hid rfl, Lib.hid (by rw [HT.out]; rfl), bx0, N1⟩
  case round =>
    obtain ⟨k, q, g, cp, rows, dn, st, hpk, hqk, rfl, rfl, rfl, hrow, HRL, HRW, HTM, bx, hbl⟩ := hrel
    clear bx0 N1 hr0
    have hsz := hbl.size
    by_cases hlt : k < xs.length
    case neg =>
      have HE : Hid (rows = tms) := Lib.hid (by rw [HRW.out, ← HTM.out, tail_end L Q (by omega)])
      have hlt2 : ¬ (k : Int) < (xs.length : Int) := by omega
      go_wp2
      go_ret
      refine ⟨_, rfl, ?_, hbl⟩
      have := OwnK.of_row encA2_len (by omega) hrow
      rw [HE.out] at this
      have e : tms.length = q := by rw [← HE.out]; exact HRL.out
      exact this.mono (by omega) (Nat.le_refl _)
    have hpk2 : s.pLong ≤ (k : Int) + 1 := by have := HPL.out; omega
    have hlt2 : (k : Int) < (xs.length : Int) := by omega
    have hk24 : (k : Int) < 24 := by omega
    have C := CR.out k wr hbl hpk2 hlt
    obtain ⟨⟨n0, n1⟩, e0, e1⟩ := CB.out k hpk2 hlt
    obtain ⟨HL1, HQ1⟩ := HLQ.out k
    generalize nf k = n at *
    generalize df k = d at *
    have m1 := mul_bdQ (A := 1000) (B := 10000000) (show 0 ≤ s.pOn by omega) c2 (show 0 ≤ d by omega) e1
    have m2 := mul_bdQ (A := 1000) (B := 10000000) (show 0 ≤ s.pOff by omega) (show s.pOff ≤ 1000 by omega) (show 0 ≤ d by omega) e1
    obtain ⟨P1, hP1⟩ : ∃ P1, s.pOn * d = P1 := ⟨_, rfl⟩
    obtain ⟨P2, hP2⟩ : ∃ P2, s.pOff * d = P2 := ⟨_, rfl⟩
    have s1 : wrap64 (s.pOn * d) = P1 := by rw [hP1] at m1 ⊢; unfold wrap64; omega
    have s2 : wrap64 (s.pOff * d) = P2 := by rw [hP2] at m2 ⊢; unfold wrap64; omega
    rw [hP1] at HL1 m1
    rw [hP2] at HQ1 m2
    clear hP1 hP2
    have c0 := bx.2 0 _ rfl
    have c1' := bx.2 1 _ rfl
    have c2' := bx.2 2 _ rfl
    have c3 := bx.2 3 _ rfl
    have HC := Lib.hid C
    have HL2 := Lib.hid HL1
    have HQ2 := Lib.hid HQ1
    clear C HL1 HQ1
    go_wp2_with fail
    refine HC.out.mono ?_
    rintro e w2 ⟨rfl, hb⟩
    have bx2 := bx.below hb
    have hrow2 := row_below hrow hb
    have hbl2 := hbl.trans (hb.mono hsz)
    have hsz2 := hbl2.size
    clear c0 c1' c2' c3 bx hrow hbl hb HC
    have c0 := bx2.2 0 _ rfl
    have c1' := bx2.2 1 _ rfl
    have c2' := bx2.2 2 _ rfl
    have c3 := bx2.2 3 _ rfl
    cases st with
    | none =>
      by_cases hL : P1 ≤ 10 * n
      case neg =>
        have HT2 : Hid (dn ++ tmA L Q xs.length (k + 1) none = tms) := Lib.hid (by rw [← HTM.out, tmA_off hlt, HL2.out, decide_eq_false hL, if_neg Bool.false_ne_true])
        go_wp2
        go_roundw
        case rel => exact ⟨k + 1, q, g, cp, rows, dn, none, by omega, by omega, by go_num, rfl, rfl, hrow2, HRL, HRW, HT2, bx2, hbl2⟩
        case measure => simp [intOf]; omega
      case pos =>
        have HT2 : Hid (dn ++ tmA L Q xs.length (k + 1) (some k) = tms) := Lib.hid (by rw [← HTM.out, tmA_off hlt, HL2.out, decide_eq_true hL, if_pos rfl])
        have HR2 : Hid (rows ++ [((k : Int), (xs.length : Int))] = dn ++ tailT xs.length (some k)) := Lib.hid (by rw [HRW.out]; show dn ++ [] ++ _ = _; rw [List.append_nil]; rfl)
        have HRL2 : Hid ((rows ++ [((k : Int), (xs.length : Int))]).length = q + 1) := Lib.hid (by rw [List.length_append, HRL.out]; rfl)
        have HFL : Hid ((rows ++ [((k : Int), (xs.length : Int))]).flatMap encA2 = rows.flatMap encA2 ++ [.int .i64 (k : Int), .int .i64 (xs.length : Int)]) := Lib.hid (by rw [List.flatMap_append]; rfl)
        generalize rows.flatMap encA2 = rr at *
        go_wp2_with (at_builtin; refine wpList_append_srcK _ rfl _ _ 43 rfl (w.heap.size + 1) 55 ti (.agg #[.int .i64 0, .int .i64 0]) 2 16 Try.underlying43 hi hz0 hz1 hz2 rfl (by decide) _ q rr rfl (hrow2.alloc _) _ 1 [.int .i64 (k : Int), .int .i64 (xs.length : Int)] rfl (srcK_two _ _ _ _) (by unfold maxLen; omega) (by omega) (by have := bx2.1.1; simp; omega) ?_; intro v' w5 hown hgrow _)
        have hbl5 := (hbl2.alloc hsz2 (.cells #[.int .i64 (k : Int), .int .i64 (xs.length : Int)] 55)).grown hgrow (by simp; omega) (fun g e => by have := (hrow2.lt g e).1; omega)
        have bx5 := (bx2.alloc (.cells #[.int .i64 (k : Int), .int .i64 (xs.length : Int)] 55)).grown hgrow (fun e => by have q1 := (hrow2.lt _ e.symm).1; omega)
        obtain ⟨g5, cp5, rfl, -, -, -, -⟩ := row_some hown (by omega)
        have HRW5 : w5.ownsRow (w.heap.size + 1) 55 2 (.slice (some ⟨g5, 0, none⟩) (q + 1) cp5) (q + 1) ((rows ++ [((k : Int), (xs.length : Int))]).flatMap encA2) := by rw [HFL.out]; exact hown
        clear hown hgrow c0 c1' c2' c3 bx2 hrow2 hbl2
        go_wp2
        go_roundw
        case rel => exact ⟨k + 1, q + 1, g5, cp5, _, dn, some k, by omega, by omega, by go_num, rfl, rfl, HRW5, HRL2, HR2, HT2, bx5, hbl5⟩
        case measure => simp [intOf]; omega
    | some a =>
      by_cases hQ : 10 * n ≤ P2
      case neg =>
        have HT2 : Hid (dn ++ tmA L Q xs.length (k + 1) (some a) = tms) := Lib.hid (by rw [← HTM.out, tmA_on hlt, HQ2.out, decide_eq_false hQ, if_neg Bool.false_ne_true])
        go_wp2
        go_roundw
        case rel => exact ⟨k + 1, q, g, cp, rows, dn, some a, by omega, by omega, by go_num, rfl, rfl, hrow2, HRL, HRW, HT2, bx2, hbl2⟩
        case measure => simp [intOf]; omega
      case pos =>
        have HT2 : Hid ((dn ++ [((a : Int), (k : Int))]) ++ tmA L Q xs.length (k + 1) none = tms) := Lib.hid (by rw [← HTM.out, tmA_on hlt, HQ2.out, decide_eq_true hQ, if_pos rfl, List.append_assoc]; rfl)
        obtain ⟨m, hm⟩ : ∃ m, dn.length = m := ⟨_, rfl⟩
        have hq : q = m + 1 := by rw [← HRL.out, HRW.out, List.length_append, hm]; rfl
        subst hq
        have HM := Lib.hid hm
        have HR2 : Hid (rows.set m ((a : Int), (k : Int)) = (dn ++ [((a : Int), (k : Int))]) ++ tailT xs.length none) := Lib.hid (by
          rw [HRW.out]
          show (dn ++ [_]).set m _ = (dn ++ [_]) ++ []
          rw [List.append_nil, List.set_append_right _ _ (by rw [HM.out]; omega), HM.out, Nat.sub_self]; rfl)
        have HRL2 : Hid ((rows.set m ((a : Int), (k : Int))).length = m + 1) := Lib.hid (by rw [List.length_set]; exact HRL.out)
        have hO := OwnK.of_row encA2_len (by omega) hrow2
        have hat : rows[m]? = some ((a : Int), (xs.length : Int)) := by
          rw [HRW.out]
          show (dn ++ [_])[m]? = _
          rw [List.getElem?_append_right (by omega), HM.out, Nat.sub_self]; rfl
        have hlen : rows.length = m + 1 := HRL.out
        obtain ⟨hg1, hg2, hg3, hce, hfr⟩ := hO.at hat
        have g0 : w2.cell? ⟨g, m * 2, none⟩ = some (.int .i64 (a : Int)) := by have := hce 0 _ rfl; simpa using this
        have g1 : w2.cell? ⟨g, m * 2 + 1, none⟩ = some (.int .i64 (xs.length : Int)) := by have := hce 1 _ rfl; simpa using this
        have f0 := hfr (m * 2)
        have f1 := hfr (m * 2 + 1)
        have hm0 : (0 : Int) ≤ (m : Int) := by omega
        have hm1 : (m : Int) ≤ 24 := by omega
        have hgb : w.heap.size + 1 ≤ g := hg1
        clear hm hO hat hlen hce hfr
        go_wp2
        have HRW5 : ((w2.setCell ⟨g, m * 2, none⟩ (.int .i64 (a : Int))).setCell ⟨g, m * 2 + 1, none⟩ (.int .i64 (k : Int))).ownsRow (w.heap.size + 1) 55 2 (.slice (some ⟨g, 0, none⟩) (m + 1) cp) (m + 1) ((rows.set m ((a : Int), (k : Int))).flatMap encA2) := by
          have := row_set (row_set hrow2 (m * 2) (.int .i64 (a : Int))) (m * 2 + 1) (.int .i64 (k : Int))
          rwa [set_flat2 rows (by rw [HRL.out]; omega)] at this
        have bx5 := (bx2.setOther (p := ⟨g, m * 2, none⟩) (by show g ≠ w.heap.size; omega) (.int .i64 (a : Int))).setOther (p := ⟨g, m * 2 + 1, none⟩) (by show g ≠ w.heap.size; omega) (.int .i64 (k : Int))
        have hbl5 := (hbl2.setCell (p := ⟨g, m * 2, none⟩) (by show w.heap.size ≤ g; omega) (.int .i64 (a : Int))).setCell (p := ⟨g, m * 2 + 1, none⟩) (by show w.heap.size ≤ g; omega) (.int .i64 (k : Int))
        clear c0 c1' c2' c3 bx2 hrow2 hbl2 g0 g1 f0 f1
        go_roundw
        case rel => exact ⟨k + 1, m + 1, g, cp, _, _, none, by omega, by omega, by go_num, rfl, rfl, HRW5, HRL2, HR2, HT2, bx5, hbl5⟩
        case measure => simp [intOf]; omega
end Go.Proofs.Ytklilfbokpljkab
