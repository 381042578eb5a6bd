/- Picks: MovedMost of the program. -/
import Derived.Test.YtklilfbokpljkaaPqA2
namespace Go.Proofs.Ytklilfbokpljkaa
open Go.ChangeShapes Go.WideShapes Go.ChangeAt Go.RowKit Go.ChangeMaps Go.Sort Go.Shelf
set_option linter.unusedSimpArgs false
set_option linter.unusedVariables false

attribute [local go_sem] Oper.semAt_some
noncomputable def okM (xs : List GPick) : Bool := goodP xs && !(revsP xs xs.length).isEmpty
noncomputable def bestM (xs : List GPick) : Int := if okM xs = true then (mvP (revsP xs xs.length)).1 else 0
noncomputable def numM (xs : List GPick) : Int := if okM xs = true then (mvP (revsP xs xs.length)).2 else 0
theorem m_bad {xs : List GPick} (h : goodP xs = false) : okM xs = false ∧ bestM xs = 0 ∧ numM xs = 0 := by
  have e : okM xs = false := by unfold okM; rw [h]; rfl
  exact ⟨e, by unfold bestM; rw [e]; rfl, by unfold numM; rw [e]; rfl⟩
theorem m_none {xs : List GPick} (h : revsP xs xs.length = []) : okM xs = false ∧ bestM xs = 0 ∧ numM xs = 0 := by
  have e : okM xs = false := by unfold okM; rw [h]; simp
  exact ⟨e, by unfold bestM; rw [e]; rfl, by unfold numM; rw [e]; rfl⟩
theorem m_yes {xs : List GPick} (hg : goodP xs = true) (h : revsP xs xs.length ≠ []) : okM xs = true ∧ bestM xs = (mvP (revsP xs xs.length)).1 ∧ numM xs = (mvP (revsP xs xs.length)).2 := by
  have e : okM xs = true := by
    unfold okM; rw [hg]
    cases hr : revsP xs xs.length with
    | nil => exact absurd hr h
    | cons a l => rfl
  exact ⟨e, by unfold bestM; rw [e]; rfl, by unfold numM; rw [e]; rfl⟩
set_option maxRecDepth 100000 in
set_option maxHeartbeats 4000000 in
theorem implMov (xs : List GPick) (v : Value) (w : World) (B : Nat) (h : PickL w B v xs) (hB : B ≤ w.heap.size) (hn : szsPick xs ≤ 1048576) (hw : ∀ s ∈ xs, wfPick s) :
    Calls Try.prog 80 #[v] w fun e w' => e = .returned (.tuple #[.int .i64 (bestM xs), .int .i64 (numM xs), .bool (okM xs)]) ∧ Below w.heap.size w w' := by
  have hl := Nat.le_trans (szsPick_len xs) hn
  cases hg : goodP xs with
  | false =>
    have C := Lib.hid (implGoodP xs v false w B h hB hl hg)
    obtain ⟨e3, e1, e2⟩ := m_bad hg
    rw [e1, e2, e3]
    clear hg e1 e2 e3
    obtain ⟨ao, cap, rfl⟩ := h.form
    go_enter Try.func80, Try.ntmps80
    go_wp2_with fail
    refine C.out.mono ?_
    rintro e w1 ⟨rfl, hb⟩
    go_wp2
    go_ret3
    exact ⟨rfl, hb⟩
  | true =>
  have C := Lib.hid (implGoodP xs v true w B h hB hl hg)
  have hok := goodP_yes hg
  have HOK := Lib.hid hok
  have hl12 := hok.1
  have hform := mv_form xs hok xs.length
  generalize hbest : bestM xs = best
  generalize hnum : numM xs = num
  generalize hokm : okM xs = okm
  have HM : Hid (best = bestM xs ∧ num = numM xs ∧ okm = okM xs) := Lib.hid ⟨hbest.symm, hnum.symm, hokm.symm⟩
  have HG := Lib.hid hg
  have HF := Lib.hid hform
  have HL := Lib.hid h
  obtain ⟨ao, cap, rfl⟩ := h.form
  clear hg hok hbest hnum hokm hform h
  refine (callsIn_wide (n := 6)).1 ?_
  refine callsIn_of_wp_marks Try.func80 rfl trivial ?_ rfl
  simp only [Try.ntmps80, List.size_toArray, List.length_cons, List.length_nil, Nat.reduceAdd, Nat.reduceSub, Array.replicate_succ, Array.replicate_zero, List.push_toArray, List.append_toArray, List.nil_append, List.cons_append]
  have t24 : Fence.wide.fn 145 := trivial
  have t85 : Fence.wide.fn 146 := trivial
  have t89 : Fence.wide.fn 131 := trivial
  gi_wp2_with (gi_at_call 145; refine (callsIn_wide.2 C.out).mono ?_; rintro e w1 ⟨rfl, hb⟩)
  refine (revisions_in Fence.wide 5 trivial rfl _ _ _ _).mono ?_
  rintro e w' ⟨rfl, rfl⟩
  gi_wp2
  obtain ⟨w4, hw4⟩ : ∃ w4, ((w1.alloc (.cells #[.int .i64 0] 3)).alloc (.cells #[.int .i64 (-1)] 3)).alloc (.cells #[.slice ao xs.length cap] 63) = w4 := ⟨_, rfl⟩
  have hz4 : w4.heap.size = w1.heap.size + 3 := by rw [← hw4]; simp
  have b5 : Boxed w4 w1.heap.size 3 (.int .i64 0) := by
    rw [← hw4]; exact ((Boxed.new w1 3 (.int .i64 0)).alloc _).alloc _
  have b6 : Boxed w4 (w1.heap.size + 1) 3 (.int .i64 (-1)) := by
    rw [← hw4]
    have := Boxed.new (w1.alloc (.cells #[.int .i64 0] 3)) 3 (.int .i64 (-1))
    rw [World.size_alloc] at this
    exact this.alloc _
  have bL : Boxed w4 (w1.heap.size + 1 + 1) 63 (.slice ao xs.length cap) := by
    rw [← hw4]
    have := Boxed.new ((w1.alloc (.cells #[.int .i64 0] 3)).alloc (.cells #[.int .i64 (-1)] 3)) 63 (.slice ao xs.length cap)
    rw [World.size_alloc, World.size_alloc] at this
    exact this
  have hz1 := hb.size
  have hB4 : Below w.heap.size w w4 := by
    rw [← hw4]
    exact ((hb.alloc hz1 _).alloc (by simp; omega) _).alloc (by simp; omega) _
  rw [hw4]
  clear hw4
  have HL4 := Lib.hid (HL.out.below (hB4.mono hB))
  refine wpIn_rangeFunc_ownH rfl (by omega) (gf := 172) (lb := #[.pointer (some ⟨w1.heap.size + 1 + 1, 0, none⟩)]) rfl trivial (enters_of Try.func172 (by kernel_rfl) rfl)
    (revs_stops (6 - 1) (by omega) (w1.heap.size + 1 + 1) w.heap.size B xs (.slice ao xs.length cap) HOK.out hB w4 (by omega) (by omega) HL4.out bL.cell)
    (fun h k => ⟨h.1.trans k.1, k.2.trans h.2⟩)
    (fun W l o o' hl hlo hc hw => ⟨belowK_b (w := w4) (by omega) W l o o' hl hlo hc hw, World.cell?_of_block (World.putObj_heap_other (by show w1.heap.size + 1 + 1 ≠ l; omega))⟩)
    (Below.refl _ _) (fun _ => rfl)
    (fun pre W => ((Boxed W w1.heap.size 3 (.int .i64 (mvP (pre.map Subtype.val)).1) ∧ Boxed W (w1.heap.size + 1) 3 (.int .i64 (mvP (pre.map Subtype.val)).2)) ∧ Boxed W (w1.heap.size + 1 + 1) 63 (.slice ao xs.length cap)) ∧ (w1.heap.size + 3 ≤ W.heap.size ∧ Below w.heap.size w W))
    (fun _ _ _ => False)
    (OwnFrom.and (OwnFrom.and (OwnFrom.and (Own.from (boxed_own _ _ _) _) (Own.from (boxed_own _ _ _) _)) (Own.from (boxed_own _ _ _) _)) (OwnFrom.and (fun _ _ _ _ hs hg _ => Nat.le_trans hs hg.size) (ownFrom_below (Nat.le_refl _) (by omega))))
    (fun _ _ _ _ _ hs _ _ => hs)
    ⟨⟨⟨b5, b6⟩, bL⟩, by omega, hB4⟩
    (fun x a' W' => ∃ b1 b2, (w1.heap.size + 3 ≤ b1 ∧ w1.heap.size + 3 ≤ b2) ∧ a' = { tmps := #[.slice ao xs.length cap, undef, .int .i64 0, .int .i64 0, .bool false, .pointer (some ⟨w1.heap.size, 0, none⟩), .pointer (some ⟨w1.heap.size + 1, 0, none⟩), .pointer (some ⟨b1, 0, none⟩), .pointer (some ⟨b2, 0, none⟩), undef, .slice ao xs.length cap, .bool true, .bool false, .slice ao xs.length cap,
      .func (.func 172) #[] #[.pointer (some ⟨w1.heap.size + 1 + 1, 0, none⟩)], .agg #[.int .i64 x.1.1.pId, .int .i64 x.1.1.pStation, .int .i64 x.1.1.pWave, .int .i64 x.1.1.pTick, .int .i64 x.1.1.pError, .int .i64 x.1.1.pBy, .int .i64 x.1.1.pAfter], .agg #[.int .i64 x.1.2.pId, .int .i64 x.1.2.pStation, .int .i64 x.1.2.pWave, .int .i64 x.1.2.pTick, .int .i64 x.1.2.pError, .int .i64 x.1.2.pBy, .int .i64 x.1.2.pAfter], undef, undef, undef, undef, undef, undef, undef, undef, undef, undef, undef, undef, undef, undef, undef, undef], defers := [] } ∧ BoxP W' b1 x.1.1 ∧ BoxP W' b2 x.1.2)
    (fun x a' s W W' row ⟨b1, b2, hb, ha, h1, h2⟩ hg hr => ⟨b1, b2, hb, ha, h1.own hg hr, h2.own hg hr⟩) ?assign ?body ?done ?stop
  case assign =>
    rintro l pre x W K hI hK
    dsimp only [encR]
    obtain ⟨⟨⟨i5, i6⟩, iL⟩, iz, iB⟩ := hI
    gi_wp2
    have jL := (iL.alloc (.cells #[.int .i64 x.1.1.pId, .int .i64 x.1.1.pStation, .int .i64 x.1.1.pWave, .int .i64 x.1.1.pTick, .int .i64 x.1.1.pError, .int .i64 x.1.1.pBy, .int .i64 x.1.1.pAfter] 76)).alloc (.cells #[.int .i64 x.1.2.pId, .int .i64 x.1.2.pStation, .int .i64 x.1.2.pWave, .int .i64 x.1.2.pTick, .int .i64 x.1.2.pError, .int .i64 x.1.2.pBy, .int .i64 x.1.2.pAfter] 76)
    have M2 : Below W.heap.size W ((W.alloc (.cells #[.int .i64 x.1.1.pId, .int .i64 x.1.1.pStation, .int .i64 x.1.1.pWave, .int .i64 x.1.1.pTick, .int .i64 x.1.1.pError, .int .i64 x.1.1.pBy, .int .i64 x.1.1.pAfter] 76)).alloc (.cells #[.int .i64 x.1.2.pId, .int .i64 x.1.2.pStation, .int .i64 x.1.2.pWave, .int .i64 x.1.2.pTick, .int .i64 x.1.2.pError, .int .i64 x.1.2.pBy, .int .i64 x.1.2.pAfter] 76)) := ((Below.refl _ W).alloc (Nat.le_refl _) _).alloc (by first | omega | (simp; done) | (simp; omega)) _
    have p2 := BoxP.new (W.alloc (.cells #[.int .i64 x.1.1.pId, .int .i64 x.1.1.pStation, .int .i64 x.1.1.pWave, .int .i64 x.1.1.pTick, .int .i64 x.1.1.pError, .int .i64 x.1.1.pBy, .int .i64 x.1.1.pAfter] 76)) x.1.2
    rw [World.size_alloc] at p2
    exact hK _ _ (((KeepsOthers.alloc W _).trans (KeepsOthers.alloc _ _)).from _) ⟨M2.mono iB.size, jL.cell.trans iL.cell.symm⟩
      ⟨⟨⟨(i5.alloc _).alloc _, (i6.alloc _).alloc _⟩, jL⟩, Nat.le_trans iz M2.size, iB.trans (M2.mono iB.size)⟩
      ⟨W.heap.size, W.heap.size + 1, ⟨iz, by omega⟩, rfl, (BoxP.new W x.1.1).alloc _, p2⟩
  case body =>
    rintro l pre x a' W hl0 _ ⟨⟨⟨i5, i6⟩, iL⟩, iz, iB⟩ ⟨b1, b2, ⟨hb1, hb2⟩, rfl, p1, p2⟩ hlt
    have c5 := i5.cell
    have c6 := i6.cell
    have f5 := i5.frozen
    have f6 := i6.frozen
    have d0 : W.cell? ⟨b1, 0, none⟩ = some (.int .i64 x.1.1.pId) := (p1.cell 0).trans rfl
    have d3 : W.cell? ⟨b1, 3, none⟩ = some (.int .i64 x.1.1.pTick) := (p1.cell 3).trans rfl
    have o3 : W.cell? ⟨b2, 3, none⟩ = some (.int .i64 x.1.2.pTick) := (p2.cell 3).trans rfl
    have l5 := i5.lt
    have l6 := i6.lt
    have lb1 := p1.lt
    have lb2 := p2.lt
    have HS := Lib.hid (mv_snoc (pre.map Subtype.val) x.1)
    have HML : Hid ((pre ++ [x]).map Subtype.val = pre.map Subtype.val ++ [x.1]) := Lib.hid (by rw [List.map_append]; rfl)
    obtain ⟨x1, x2⟩ := x.2
    unfold oneP at x1 x2
    have w0 : IntKind.i64.wrap (x.1.1.pTick - x.1.2.pTick) = x.1.1.pTick - x.1.2.pTick := IntWalk.i64_in _ (by omega)
    have CM := Lib.hid (fun W => magAny (x.1.1.pTick - x.1.2.pTick) (movP x.1) W (by omega) (by omega) rfl)
    have ne1 : ¬ b1 = w1.heap.size := by omega
    have ne2 : ¬ b2 = w1.heap.size := by omega
    have ne3 : ¬ b1 = w1.heap.size + 1 := by omega
    have ne4 : ¬ b2 = w1.heap.size + 1 := by omega
    have I5 := Lib.hid i5
    have I6 := Lib.hid i6
    have IL := Lib.hid iL
    clear x1 x2
    generalize hmv : mvP (pre.map Subtype.val) = mv at *
    generalize hmo : movP x.1 = mo at *
    by_cases hgt : mv.2 < mo
    case neg =>
      have HS2 : Hid (mvP (pre.map Subtype.val ++ [x.1]) = mv) := Lib.hid (by rw [HS.out]; unfold mvStep; rw [hmo, if_neg hgt])
      have hgd : decide (mv.2 < mo) = false := decide_eq_false hgt
      have hge : mo ≤ mv.2 := by omega
      gi_wp2_with (gi_at_call 131; refine (callsIn_wide.2 (CM.out _)).mono ?_; rintro e w' ⟨rfl, rfl⟩)
      exact ⟨(KeepsOthers.refl _).from _, ⟨Below.refl _ _, rfl⟩, ⟨⟨by rw [HML.out, HS2.out]; exact I5.out, by rw [HML.out, HS2.out]; exact I6.out⟩, IL.out⟩, iz, iB⟩
    have HS2 : Hid (mvP (pre.map Subtype.val ++ [x.1]) = (x.1.1.pId, mo)) := Lib.hid (by rw [HS.out]; unfold mvStep; rw [hmo, if_pos hgt])
    have hgd : decide (mv.2 < mo) = true := decide_eq_true hgt
    gi_wp2_with (gi_at_call 131; refine (callsIn_wide.2 (CM.out _)).mono ?_; rintro e w' ⟨rfl, rfl⟩)
    have J5 := I5.out.set (.int .i64 x.1.1.pId)
    have J6 := I6.out.other (B' := w1.heap.size) (by omega) (.int .i64 x.1.1.pId)
    have JL := IL.out.other (B' := w1.heap.size) (by omega) (.int .i64 x.1.1.pId)
    have K5 := J5.other (B' := w1.heap.size + 1) (by omega) (.int .i64 mo)
    have K6 := J6.set (.int .i64 mo)
    have KL := JL.other (B' := w1.heap.size + 1) (by omega) (.int .i64 mo)
    exact ⟨((KeepsOthers.setCell _ ⟨w1.heap.size, 0, none⟩ (.int .i64 x.1.1.pId)).trans (KeepsOthers.setCell _ ⟨w1.heap.size + 1, 0, none⟩ (.int .i64 mo))).from _,
      ⟨((Below.refl w.heap.size _).setCell (p := ⟨w1.heap.size, 0, none⟩) (by show w.heap.size ≤ w1.heap.size; omega) _).setCell (p := ⟨w1.heap.size + 1, 0, none⟩) (by show w.heap.size ≤ w1.heap.size + 1; omega) _, KL.cell.trans IL.out.cell.symm⟩,
      ⟨⟨by rw [HML.out, HS2.out]; exact K5, by rw [HML.out, HS2.out]; exact K6⟩, KL⟩, by simpa [World.setCell] using iz,
      (iB.setCell (p := ⟨w1.heap.size, 0, none⟩) (by show w.heap.size ≤ w1.heap.size; omega) _).setCell (p := ⟨w1.heap.size + 1, 0, none⟩) (by show w.heap.size ≤ w1.heap.size + 1; omega) _⟩
  case done =>
    rintro D ys W hD hys ⟨⟨⟨i5, i6⟩, iL⟩, iz, iB⟩ hK
    rw [hys] at i5 i6
    have c5 := i5.cell
    have c6 := i6.cell
    obtain ⟨m1, m2, m3⟩ := HM.out
    rcases HF.out with ⟨hr, hmv⟩ | ⟨hr, hb1, hb2, hb3, hb4⟩
    · obtain ⟨e1, e2, e3⟩ := m_none hr
      have E1 : Hid (okm = false) := Lib.hid (m3.trans e1)
      have E2 : Hid (best = 0) := Lib.hid (m1.trans e2)
      have E3 : Hid (num = 0) := Lib.hid (m2.trans e3)
      rw [hmv] at c5 c6
      clear m1 m2 m3 e1 e2 e3 hr hmv i5 i6
      gi_wp2
      refine ⟨by simp, .inl ⟨_, _, rfl, run_takeDeferred hK, ?_⟩⟩
      exact ⟨_, results_tmp3 rfl _ _ _, by rw [E1.out, E2.out, E3.out]; rfl, iB.trans (belowK_b (w := w) (Nat.le_refl _) W D _ _ (by omega) hK rfl rfl)⟩
    · obtain ⟨e1, e2, e3⟩ := m_yes HG.out hr
      have E1 : Hid (okm = true) := Lib.hid (m3.trans e1)
      have E2 := m1.trans e2
      have E3 := m2.trans e3
      rw [← E2] at c5 hb1 hb2
      rw [← E3] at c6 hb3 hb4
      have hne : ¬ best = 0 := by omega
      have hne2 : (best == 0) = false := by simp [hne]
      clear m1 m2 m3 e1 e2 e3 hr i5 i6 E2 E3
      gi_wp2
      gi_quiet (fail)
      gi_wp2
      have hKn : (W.drewN nq).heap[D]? = some (.deferred (some [])) := hK
      have iBn : Below w.heap.size w (W.drewN nq) := drewN_b iB _
      refine ⟨by simp, .inl ⟨_, _, rfl, run_takeDeferred hKn, ?_⟩⟩
      exact ⟨_, results_tmp3 rfl _ _ _, by rw [E1.out]; rfl, iBn.trans (belowK_b (w := w) (Nat.le_refl _) (W.drewN nq) D _ _ (by omega) hKn rfl rfl)⟩
  case stop =>
    rintro D c' pre W _ _ h _
    exact h.elim
end Go.Proofs.Ytklilfbokpljkaa
