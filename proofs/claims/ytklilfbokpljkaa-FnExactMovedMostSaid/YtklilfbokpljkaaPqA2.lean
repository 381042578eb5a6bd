/- Picks: Revisions and MovedMost of the program. -/
import Derived.Test.YtklilfbokpljkaaPqZ
import Derived.IntWalk
namespace Go.Proofs.Ytklilfbokpljkaa
open Go.ChangeShapes Go.WideShapes Go.ChangeAt Go.RowKit Go.ChangeMaps Go.Sort Go.Shelf
set_option linter.unusedSimpArgs false
set_option linter.unusedVariables false

attribute [local go_sem] Oper.semAt_some

theorem revisions_in (F : Fence) (m : Nat) (h5 : F.fn 146) (hro : F.round = none) (ao : Option Addr) (n cap : Nat) (w : World) :
    CallsIn F m Try.prog 146 #[.slice ao n cap] w fun e w' => e = .returned (.func (.func 172) #[] #[.pointer (some ⟨w.heap.size, 0, none⟩)]) ∧ w' = w.alloc (.cells #[.slice ao n cap] 63) := by
  refine callsIn_of_wp Try.func146 rfl h5 ?_ hro
  simp only [Try.ntmps146, List.size_toArray, List.length_cons, List.length_nil, Nat.reduceAdd, Nat.reduceSub, Array.replicate_succ, Array.replicate_zero, List.push_toArray, List.append_toArray, List.nil_append, List.cons_append]
  gi_wp2
  go_ret
  exact ⟨rfl, rfl⟩
theorem revs_stops (m : Nat) (hm : 1 ≤ m) (Bl L B : Nat) (xs : List GPick) (v : Value) (hok : okP xs) (hBL : B ≤ L) (w : World) (hLw : L ≤ w.heap.size) (hBw : Bl < w.heap.size) (hL : PickL w B v xs) (hc : w.cell? ⟨Bl, 0, none⟩ = some v) :
    SeqStopsK Fence.wide m Try.prog 172 #[.pointer (some ⟨Bl, 0, none⟩)] encR (KeepsR L Bl) (fun ys => ys.map Subtype.val = revsP xs xs.length) (fun _ => True) xs.length w :=
  fun l J Jx W hW hJ _ hY h0 => revs_in m hm l Bl L B xs v hok hBL J Jx hY W (Nat.le_trans hLw hW.size) (Nat.lt_of_lt_of_le hBw hW.size) hJ (hL.below (hW.mono (Nat.le_trans hBL hLw))) (cellOf hW hBw hc) h0
def BoxP (W : World) (b : Nat) (p : GPick) : Prop := W.heap[b]? = some (.cells (encPick p).toArray 76 (0, 0))
theorem BoxP.lt {W : World} {b : Nat} {p : GPick} (h : BoxP W b p) : b < W.heap.size := (Array.getElem?_eq_some_iff.1 h).1
theorem BoxP.new (W : World) (p : GPick) : BoxP (W.alloc (.cells #[.int .i64 p.pId, .int .i64 p.pStation, .int .i64 p.pWave, .int .i64 p.pTick, .int .i64 p.pError, .int .i64 p.pBy, .int .i64 p.pAfter] 76)) W.heap.size p := World.alloc_heap_new W _
theorem BoxP.kept {W W' : World} {row : Option Nat} {b : Nat} {p : GPick} (h : BoxP W b p) (hg : W.grownBy W' row) (hne : some b ≠ row) : BoxP W' b p := (hg.block b h.lt hne).trans h
theorem BoxP.alloc {W : World} {b : Nat} {p : GPick} (h : BoxP W b p) (o : Obj) : BoxP (W.alloc o) b p := h.kept (World.grownBy_alloc W o none) (by simp)
theorem BoxP.own {B : Nat} {X Y : World} {row : Option Nat} {b : Nat} {p : GPick} (h : BoxP X b p) (hg : X.grownBy Y row) (hr : ∀ r, row = some r → B ≤ r ∧ ∃ o : Obj, X.heap[r]? = some o ∧ o.isCells = false) : BoxP Y b p :=
  h.kept hg (fun e' => by obtain ⟨_, o, ho, hc⟩ := hr b e'.symm; rw [show X.heap[b]? = _ from h] at ho; cases ho; cases hc)
theorem BoxP.cell {W : World} {b : Nat} {p : GPick} (h : BoxP W b p) (i : Nat) : W.cell? ⟨b, i, none⟩ = (encPick p)[i]? := by
  simp [World.cell?, show W.heap[b]? = _ from h]
theorem BoxP.setOther {W : World} {b b' : Nat} {p : GPick} (h : BoxP W b p) (hne : b ≠ b') (u : Value) : BoxP (W.setCell ⟨b', 0, none⟩ u) b p := h.kept (grownBy_setCell' W b' u) (fun e => hne (by cases e; rfl))
noncomputable def humR (xs : List GPick) : Int := if goodP xs = true then (humP (revsP xs xs.length) : Int) else 0
noncomputable def allR (xs : List GPick) : Int := if goodP xs = true then ((revsP xs xs.length).length : Int) else 0
set_option maxRecDepth 100000 in
set_option maxHeartbeats 4000000 in
theorem implRevs (xs : List GPick) (v : Value) (w : World) (B : Nat) (h : PickL w B v xs) (hB : B ≤ w.heap.size) (hn : szsPick xs ≤ 1048576) (hw : ∀ s ∈ xs, wfPick s) :
    Calls Try.prog 93 #[v] w fun e w' => e = .returned (.tuple #[.int .i64 (humR xs), .int .i64 (allR xs), .bool (goodP xs)]) ∧ Below w.heap.size w w' := by
  have hl := Nat.le_trans (szsPick_len xs) hn
  cases hg : goodP xs with
  | false =>
    have C := Lib.hid (implGoodP xs v false w B h hB hl hg)
    have e1 : humR xs = 0 := by unfold humR; rw [hg]; rfl
    have e2 : allR xs = 0 := by unfold allR; rw [hg]; rfl
    rw [e1, e2]
    clear hg e1 e2
    obtain ⟨ao, cap, rfl⟩ := h.form
    go_enter Try.func93, Try.ntmps93
    go_wp2_with fail
    refine C.out.mono ?_
    rintro e w1 ⟨rfl, hb⟩
    go_wp2
    go_ret3
    exact ⟨rfl, hb⟩
  | true =>
  have C := Lib.hid (implGoodP xs v true w B h hB hl hg)
  have hok := goodP_yes hg
  have HOK := Lib.hid hok
  have hl12 := hok.1
  generalize hhum : humR xs = hum
  generalize hall : allR xs = all
  have HH : Hid (hum = (humP (revsP xs xs.length) : Int)) := Lib.hid (by rw [← hhum]; unfold humR; rw [if_pos hg])
  have HA : Hid (all = ((revsP xs xs.length).length : Int)) := Lib.hid (by rw [← hall]; unfold allR; rw [if_pos hg])
  have HL := Lib.hid h
  obtain ⟨ao, cap, rfl⟩ := h.form
  clear hg hok hhum hall h
  refine (callsIn_wide (n := 6)).1 ?_
  refine callsIn_of_wp_marks Try.func93 rfl trivial ?_ rfl
  simp only [Try.ntmps93, List.size_toArray, List.length_cons, List.length_nil, Nat.reduceAdd, Nat.reduceSub, Array.replicate_succ, Array.replicate_zero, List.push_toArray, List.append_toArray, List.nil_append, List.cons_append]
  have t24 : Fence.wide.fn 145 := trivial
  have t85 : Fence.wide.fn 146 := trivial
  gi_wp2_with (gi_at_call 145; refine (callsIn_wide.2 C.out).mono ?_; rintro e w1 ⟨rfl, hb⟩)
  refine (revisions_in Fence.wide 5 trivial rfl _ _ _ _).mono ?_
  rintro e w' ⟨rfl, rfl⟩
  gi_wp2
  obtain ⟨w4, hw4⟩ : ∃ w4, ((w1.alloc (.cells #[.int .i64 0] 3)).alloc (.cells #[.int .i64 0] 3)).alloc (.cells #[.slice ao xs.length cap] 63) = w4 := ⟨_, rfl⟩
  have hz4 : w4.heap.size = w1.heap.size + 3 := by rw [← hw4]; simp
  have b5 : Boxed w4 w1.heap.size 3 (.int .i64 0) := by
    rw [← hw4]; exact ((Boxed.new w1 3 (.int .i64 0)).alloc _).alloc _
  have b6 : Boxed w4 (w1.heap.size + 1) 3 (.int .i64 0) := by
    rw [← hw4]
    have := Boxed.new (w1.alloc (.cells #[.int .i64 0] 3)) 3 (.int .i64 0)
    rw [World.size_alloc] at this
    exact this.alloc _
  have bL : Boxed w4 (w1.heap.size + 1 + 1) 63 (.slice ao xs.length cap) := by
    rw [← hw4]
    have := Boxed.new ((w1.alloc (.cells #[.int .i64 0] 3)).alloc (.cells #[.int .i64 0] 3)) 63 (.slice ao xs.length cap)
    rw [World.size_alloc, World.size_alloc] at this
    exact this
  have hz1 := hb.size
  have hB4 : Below w.heap.size w w4 := by
    rw [← hw4]
    exact ((hb.alloc hz1 _).alloc (by simp; omega) _).alloc (by simp; omega) _
  rw [hw4]
  clear hw4
  have HL4 := Lib.hid (HL.out.below (hB4.mono hB))
  refine wpIn_rangeFunc_ownH rfl (by omega) (gf := 172) (lb := #[.pointer (some ⟨w1.heap.size + 1 + 1, 0, none⟩)]) rfl trivial (enters_of Try.func172 (by kernel_rfl) rfl)
    (revs_stops (6 - 1) (by omega) (w1.heap.size + 1 + 1) w.heap.size B xs (.slice ao xs.length cap) HOK.out hB w4 (by omega) (by omega) HL4.out bL.cell)
    (fun h k => ⟨h.1.trans k.1, k.2.trans h.2⟩)
    (fun W l o o' hl hlo hc hw => ⟨belowK_b (w := w4) (by omega) W l o o' hl hlo hc hw, World.cell?_of_block (World.putObj_heap_other (by show w1.heap.size + 1 + 1 ≠ l; omega))⟩)
    (Below.refl _ _) (fun _ => rfl)
    (fun pre W => ((Boxed W w1.heap.size 3 (.int .i64 (humP (pre.map Subtype.val) : Int)) ∧ Boxed W (w1.heap.size + 1) 3 (.int .i64 (pre.length : Int))) ∧ Boxed W (w1.heap.size + 1 + 1) 63 (.slice ao xs.length cap)) ∧ (w1.heap.size + 3 ≤ W.heap.size ∧ Below w.heap.size w W))
    (fun _ _ _ => False)
    (OwnFrom.and (OwnFrom.and (OwnFrom.and (Own.from (boxed_own _ _ _) _) (Own.from (boxed_own _ _ _) _)) (Own.from (boxed_own _ _ _) _)) (OwnFrom.and (fun _ _ _ _ hs hg _ => Nat.le_trans hs hg.size) (ownFrom_below (Nat.le_refl _) (by omega))))
    (fun _ _ _ _ _ hs _ _ => hs)
    ⟨⟨⟨b5, b6⟩, bL⟩, by omega, hB4⟩
    (fun x a' W' => ∃ b1 b2, (w1.heap.size + 3 ≤ b1 ∧ w1.heap.size + 3 ≤ b2) ∧ a' = { tmps := #[.slice ao xs.length cap, undef, .int .i64 0, .int .i64 0, .bool false, .pointer (some ⟨w1.heap.size, 0, none⟩), .pointer (some ⟨w1.heap.size + 1, 0, none⟩), .pointer (some ⟨b1, 0, none⟩), .pointer (some ⟨b2, 0, none⟩), .slice ao xs.length cap, .bool true, .bool false, .slice ao xs.length cap,
      .func (.func 172) #[] #[.pointer (some ⟨w1.heap.size + 1 + 1, 0, none⟩)], .agg #[.int .i64 x.1.1.pId, .int .i64 x.1.1.pStation, .int .i64 x.1.1.pWave, .int .i64 x.1.1.pTick, .int .i64 x.1.1.pError, .int .i64 x.1.1.pBy, .int .i64 x.1.1.pAfter], .agg #[.int .i64 x.1.2.pId, .int .i64 x.1.2.pStation, .int .i64 x.1.2.pWave, .int .i64 x.1.2.pTick, .int .i64 x.1.2.pError, .int .i64 x.1.2.pBy, .int .i64 x.1.2.pAfter], undef, undef, undef, undef, undef, undef, undef, undef, undef, undef, undef, undef, undef, undef], defers := [] } ∧ BoxP W' b1 x.1.1 ∧ BoxP W' b2 x.1.2)
    (fun x a' s W W' row ⟨b1, b2, hb, ha, h1, h2⟩ hg hr => ⟨b1, b2, hb, ha, h1.own hg hr, h2.own hg hr⟩) ?assign ?body ?done ?stop
  case assign =>
    rintro l pre x W K hI hK
    dsimp only [encR]
    obtain ⟨⟨⟨i5, i6⟩, iL⟩, iz, iB⟩ := hI
    gi_wp2
    have jL := (iL.alloc (.cells #[.int .i64 x.1.1.pId, .int .i64 x.1.1.pStation, .int .i64 x.1.1.pWave, .int .i64 x.1.1.pTick, .int .i64 x.1.1.pError, .int .i64 x.1.1.pBy, .int .i64 x.1.1.pAfter] 76)).alloc (.cells #[.int .i64 x.1.2.pId, .int .i64 x.1.2.pStation, .int .i64 x.1.2.pWave, .int .i64 x.1.2.pTick, .int .i64 x.1.2.pError, .int .i64 x.1.2.pBy, .int .i64 x.1.2.pAfter] 76)
    have M2 : Below W.heap.size W ((W.alloc (.cells #[.int .i64 x.1.1.pId, .int .i64 x.1.1.pStation, .int .i64 x.1.1.pWave, .int .i64 x.1.1.pTick, .int .i64 x.1.1.pError, .int .i64 x.1.1.pBy, .int .i64 x.1.1.pAfter] 76)).alloc (.cells #[.int .i64 x.1.2.pId, .int .i64 x.1.2.pStation, .int .i64 x.1.2.pWave, .int .i64 x.1.2.pTick, .int .i64 x.1.2.pError, .int .i64 x.1.2.pBy, .int .i64 x.1.2.pAfter] 76)) := ((Below.refl _ W).alloc (Nat.le_refl _) _).alloc (by first | omega | (simp; done) | (simp; omega)) _
    have p2 := BoxP.new (W.alloc (.cells #[.int .i64 x.1.1.pId, .int .i64 x.1.1.pStation, .int .i64 x.1.1.pWave, .int .i64 x.1.1.pTick, .int .i64 x.1.1.pError, .int .i64 x.1.1.pBy, .int .i64 x.1.1.pAfter] 76)) x.1.2
    rw [World.size_alloc] at p2
    exact hK _ _ (((KeepsOthers.alloc W _).trans (KeepsOthers.alloc _ _)).from _) ⟨M2.mono iB.size, jL.cell.trans iL.cell.symm⟩
      ⟨⟨⟨(i5.alloc _).alloc _, (i6.alloc _).alloc _⟩, jL⟩, Nat.le_trans iz M2.size, iB.trans (M2.mono iB.size)⟩
      ⟨W.heap.size, W.heap.size + 1, ⟨iz, by omega⟩, rfl, (BoxP.new W x.1.1).alloc _, p2⟩
  case body =>
    rintro l pre x a' W hl0 _ ⟨⟨⟨i5, i6⟩, iL⟩, iz, iB⟩ ⟨b1, b2, ⟨hb1, hb2⟩, rfl, p1, p2⟩ hlt
    have c5 := i5.cell
    have c6 := i6.cell
    have f5 := i5.frozen
    have f6 := i6.frozen
    have d5 : W.cell? ⟨b1, 5, none⟩ = some (.int .i64 x.1.1.pBy) := (p1.cell 5).trans rfl
    have o5 : W.cell? ⟨b2, 5, none⟩ = some (.int .i64 x.1.2.pBy) := (p2.cell 5).trans rfl
    have l5 := i5.lt
    have l6 := i6.lt
    have lb1 := p1.lt
    have lb2 := p2.lt
    have hh := hum_le (pre.map Subtype.val)
    rw [List.length_map] at hh
    have HS := Lib.hid (hum_snoc (pre.map Subtype.val) x.1)
    have HML : Hid ((pre ++ [x]).map Subtype.val = pre.map Subtype.val ++ [x.1]) := Lib.hid (by rw [List.map_append]; rfl)
    generalize hhm : humP (pre.map Subtype.val) = hm at *
    generalize hpl : pre.length = pl at *
    have HPL : Hid ((pre ++ [x]).length = pl + 1) := Lib.hid (by rw [List.length_append, hpl]; rfl)
    have hpl12 : (pl : Int) ≤ 12 := by omega
    have hhm12 : (hm : Int) ≤ 12 := by omega
    have hhm0 : (0 : Int) ≤ (hm : Int) := by omega
    have hpl0 : (0 : Int) ≤ (pl : Int) := by omega
    have ne1 : ¬ b1 = w1.heap.size := by omega
    have ne2 : ¬ b2 = w1.heap.size := by omega
    have ne3 : ¬ b1 = w1.heap.size + 1 := by omega
    have ne4 : ¬ b2 = w1.heap.size + 1 := by omega
    have I5 := Lib.hid i5
    have I6 := Lib.hid i6
    have IL := Lib.hid iL
    have KB1 := fun u : Value => KeepsOthers.setCell W ⟨w1.heap.size + 1, 0, none⟩ u
    have BB : Below w.heap.size w (W.setCell ⟨w1.heap.size + 1, 0, none⟩ (.int .i64 ((pl : Int) + 1))) := iB.setCell (by show w.heap.size ≤ w1.heap.size + 1; omega) _
    have J6 := Lib.hid (i6.set (.int .i64 ((pl : Int) + 1)))
    have J5 := Lib.hid (i5.other (B' := w1.heap.size + 1) (by omega) (.int .i64 ((pl : Int) + 1)))
    have JL := Lib.hid (iL.other (B' := w1.heap.size + 1) (by omega) (.int .i64 ((pl : Int) + 1)))
    have wr1 : IntKind.i64.wrap ((pl : Int) + 1) = (pl : Int) + 1 := IntWalk.i64_in _ (by omega)
    have wr2 : IntKind.i64.wrap ((hm : Int) + 1) = (hm : Int) + 1 := IntWalk.i64_in _ (by omega)
    by_cases hm1 : x.1.2.pBy = 0
    case neg =>
      have t1 : (x.1.2.pBy == 0) = false := by simp [hm1]
      have hmf : manP x.1 = false := by unfold manP; rw [decide_eq_false hm1]; rfl
      have HS2 : Hid (humP (pre.map Subtype.val ++ [x.1]) = hm) := Lib.hid (by rw [HS.out, if_neg (by rw [hmf]; simp)]; rfl)
      clear hm1
      gi_wp2
      exact ⟨(KB1 _).from _, ⟨(Below.refl _ W).setCell (by show w.heap.size ≤ w1.heap.size + 1; omega) _, JL.out.cell.trans IL.out.cell.symm⟩, ⟨⟨by rw [HML.out, HS2.out]; exact J5.out, by rw [HPL.out]; exact J6.out⟩, JL.out⟩, by simpa [World.setCell] using iz, BB⟩
    have t1 : (x.1.2.pBy == 0) = true := by simp [hm1]
    by_cases hm2 : x.1.1.pBy = 0
    case pos =>
      have t2 : (x.1.1.pBy == 0) = true := by simp [hm2]
      have t3 : (x.1.1.pBy != 0) = false := by simp [hm2]
      have hmf : manP x.1 = false := by unfold manP; rw [decide_eq_true hm1, decide_eq_true hm2]; rfl
      have HS2 : Hid (humP (pre.map Subtype.val ++ [x.1]) = hm) := Lib.hid (by rw [HS.out, if_neg (by rw [hmf]; simp)]; rfl)
      clear hm1 hm2
      gi_wp2
      exact ⟨(KB1 _).from _, ⟨(Below.refl _ W).setCell (by show w.heap.size ≤ w1.heap.size + 1; omega) _, JL.out.cell.trans IL.out.cell.symm⟩, ⟨⟨by rw [HML.out, HS2.out]; exact J5.out, by rw [HPL.out]; exact J6.out⟩, JL.out⟩, by simpa [World.setCell] using iz, BB⟩
    have t2 : (x.1.1.pBy == 0) = false := by simp [hm2]
    have t3 : (x.1.1.pBy != 0) = true := by simp [hm2]
    have hmf : manP x.1 = true := by unfold manP; rw [decide_eq_true hm1, decide_eq_false hm2]; rfl
    have HS2 : Hid (humP (pre.map Subtype.val ++ [x.1]) = hm + 1) := Lib.hid (by rw [HS.out, if_pos hmf])
    have c5' := J5.out.cell
    have f5' := J5.out.frozen
    have l5' := J5.out.lt
    have K5 := Lib.hid (J5.out.set (.int .i64 ((hm : Int) + 1)))
    have K6 := Lib.hid (J6.out.other (B' := w1.heap.size) (by omega) (.int .i64 ((hm : Int) + 1)))
    have KL := Lib.hid (JL.out.other (B' := w1.heap.size) (by omega) (.int .i64 ((hm : Int) + 1)))
    have BB2 := Lib.hid (BB.setCell (p := ⟨w1.heap.size, 0, none⟩) (by show w.heap.size ≤ w1.heap.size; omega) (.int .i64 ((hm : Int) + 1)))
    have KB2 := Lib.hid ((KB1 (.int .i64 ((pl : Int) + 1))).trans (KeepsOthers.setCell _ ⟨w1.heap.size, 0, none⟩ (.int .i64 ((hm : Int) + 1))))
    have KBB := Lib.hid (((Below.refl w.heap.size W).setCell (p := ⟨w1.heap.size + 1, 0, none⟩) (by show w.heap.size ≤ w1.heap.size + 1; omega) (.int .i64 ((pl : Int) + 1))).setCell (p := ⟨w1.heap.size, 0, none⟩) (by show w.heap.size ≤ w1.heap.size; omega) (.int .i64 ((hm : Int) + 1)))
    clear hm1 hm2
    gi_wp2
    exact ⟨KB2.out.from _, ⟨KBB.out, KL.out.cell.trans IL.out.cell.symm⟩, ⟨⟨by rw [HML.out, HS2.out]; exact K5.out, by rw [HPL.out]; exact K6.out⟩, KL.out⟩, by simpa [World.setCell] using iz, BB2.out⟩
  case done =>
    rintro D ys W hD hys ⟨⟨⟨i5, i6⟩, iL⟩, iz, iB⟩ hK
    rw [hys] at i5
    have hyl : ys.length = (revsP xs xs.length).length := by rw [← hys, List.length_map]
    rw [hyl] at i6
    have c5 := i5.cell
    have c6 := i6.cell
    have HC5 : Hid (((humP (revsP xs xs.length) : Nat) : Int) = hum) := Lib.hid HH.out.symm
    have HC6 : Hid ((((revsP xs xs.length).length : Nat) : Int) = all) := Lib.hid HA.out.symm
    rw [HC5.out] at c5
    rw [HC6.out] at c6
    gi_wp2
    gi_quiet (fail)
    gi_wp2
    have hKn : (W.drewN nq).heap[D]? = some (.deferred (some [])) := hK
    have iBn : Below w.heap.size w (W.drewN nq) := drewN_b iB _
    refine ⟨by simp, .inl ⟨_, _, rfl, run_takeDeferred hKn, ?_⟩⟩
    exact ⟨_, results_tmp3 rfl _ _ _, rfl, iBn.trans (belowK_b (w := w) (Nat.le_refl _) (W.drewN nq) D _ _ (by omega) hKn rfl rfl)⟩
  case stop =>
    rintro D c' pre W _ _ h _
    exact h.elim
end Go.Proofs.Ytklilfbokpljkaa
