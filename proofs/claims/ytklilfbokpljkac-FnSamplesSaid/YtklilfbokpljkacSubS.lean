/- The specification's lowered trace. -/
import Derived.Test.YtklilfbokpljkacSub
import Derived.Deep.RegionLaw
namespace Go.Proofs.Ytklilfbokpljkac
open Go.ChangeShapes Go.WideShapes Go.ChangeAt Go.RowKit Go.ChangeMaps
set_option linter.unusedSimpArgs false
set_option linter.unusedVariables false

set_option maxRecDepth 100000 in
set_option maxHeartbeats 1000000 in
theorem specSub (t : Tr) (v : Value) (l : Int) (w : World) (B : Nat) (h : TrL w B v t) (hB : B ≤ w.heap.size) (hn : t.xs.length ≤ 1048576) (_ : I64 l) :
    Calls Try.prog 25 #[v, .int .i64 l] w fun e w' => ∃ v', e = .returned (.tuple #[v', .bool (okS t l)]) ∧ TrO w' w.heap.size w'.heap.size v' (resS t l) ∧ Below w.heap.size w w' := by
  obtain ⟨ao, cap, rfl⟩ := h.form
  have N0 := ((Below.refl w.heap.size w).alloc (Nat.le_refl _) (.cells #[.int .i64 t.st, .int .i64 t.start, .slice ao t.xs.length cap] 28)).alloc (by simp) (.cells #[.int .i64 0, .int .i64 0, .slice none 0 0] 28)
  have b0 := (Bx.new w [.int .i64 t.st, .int .i64 t.start, .slice ao t.xs.length cap] 28).alloc (.cells #[.int .i64 0, .int .i64 0, .slice none 0 0] 28)
  have d0 := Bx.new1 w (.cells #[.int .i64 t.st, .int .i64 t.start, .slice ao t.xs.length cap] 28) [.int .i64 0, .int .i64 0, .slice none 0 0] 28
  have h0 := h.below (N0.mono hB)
  cases hg : goodT t with
  | false =>
    have e1 : okS t l = false := by unfold okS; simp [hg]
    have e2 : resS t l = nilT := by unfold resS; rw [e1]; rfl
    rw [e1, e2]
    have C := Lib.hid (specGoodB t _ _ B false h0 (Nat.le_trans hB N0.size) hg)
    clear e1 e2 hg
    go_enter Try.func25, Try.ntmps25
    go_wp2_with fail
    refine C.out.mono ?_
    rintro e w1 ⟨rfl, hb1⟩
    have B1 := N0.trans (hb1.mono N0.size)
    have d1 := d0.below hb1
    have x0 := d1.2 0 _ rfl
    have x1 := d1.2 1 _ rfl
    have x2 := d1.2 2 _ rfl
    have x3 := d1.1.2
    go_wp2
    refine bodyPost_ret (v := .tuple #[.agg #[.int .i64 0, .int .i64 0, .slice none 0 0], .bool false]) (by simp [results, Try.results25, go_sem, x0, x1, x2]) rfl ⟨_, rfl, ⟨_, rfl, Own.nil _ _ _⟩, ?_⟩
    exact ((B1.setCell (by first | omega | (simp; done) | (simp; omega)) _).setCell (by first | omega | (simp; done) | (simp; omega)) _).setCell (by first | omega | (simp; done) | (simp; omega)) _
  | true =>
    have C := Lib.hid (specGoodB t _ _ B true h0 (Nat.le_trans hB N0.size) hg)
    obtain ⟨⟨_, _, g1, g2, g3, _⟩, gx⟩ := goodT_yes hg
    have GX := Lib.hid gx
    clear gx
    by_cases hl : -100000 ≤ l ∧ l ≤ 100000
    case neg =>
      have e1 : okS t l = false := by unfold okS; rw [show inS l = false from decide_eq_false hl]; simp
      have e2 : resS t l = nilT := by unfold resS; rw [e1]; rfl
      rw [e1, e2]
      clear e1 e2 hg
      go_enter Try.func25, Try.ntmps25
      go_wp2_with fail
      refine C.out.mono ?_
      rintro e w1 ⟨rfl, hb1⟩
      have B1 := N0.trans (hb1.mono N0.size)
      have b1 := b0.below hb1
      have q0 := b1.2 0 _ rfl
      have q1 := b1.2 1 _ rfl
      have q2 := b1.2 2 _ rfl
      have d1 := d0.below hb1
      go_wp2_with fail
      refine (inNo l _ _ _ hl).mono ?_
      rintro e w9 ⟨rfl, hw9⟩
      obtain rfl : w1 = w9 := hw9.symm
      have x0 := d1.2 0 _ rfl
      have x1 := d1.2 1 _ rfl
      have x2 := d1.2 2 _ rfl
      have x3 := d1.1.2
      go_wp2
      refine bodyPost_ret (v := .tuple #[.agg #[.int .i64 0, .int .i64 0, .slice none 0 0], .bool false]) (by simp [results, Try.results25, go_sem, x0, x1, x2]) rfl ⟨_, rfl, ⟨_, rfl, Own.nil _ _ _⟩, ?_⟩
      exact ((B1.setCell (by first | omega | (simp; done) | (simp; omega)) _).setCell (by first | omega | (simp; done) | (simp; omega)) _).setCell (by first | omega | (simp; done) | (simp; omega)) _
    have hok : okS t l = okX (low t.xs l) := by unfold okS; rw [hg, show inS l = true from decide_eq_true hl]; simp
    have hgl := good_low (l := l) hg
    have hres : resS t l = pickT (okX (low t.xs l)) ⟨t.st, t.start, low t.xs l⟩ := by unfold resS pickT; rw [hok]
    rw [hok, hres]
    have hget : ∀ k x, t.xs[k]? = some x → (low t.xs l)[k]? = some (x - l) := fun k x hx => by unfold low; rw [List.getElem?_map, hx]; rfl
    have hll := low_len t.xs l
    generalize low t.xs l = ys at *
    have HG := Lib.hid hgl
    have HGET := Lib.hid hget
    have HLL := Lib.hid hll
    obtain ⟨l1, l2⟩ := id hl
    clear hok hgl hres hget hll hg
    go_enter Try.func25, Try.ntmps25
    go_wp2_with fail
    refine C.out.mono ?_
    rintro e w1 ⟨rfl, hb1⟩
    have B1 := N0.trans (hb1.mono N0.size)
    have b1 := b0.below hb1
    have d1 := d0.below hb1
    have h1 := h0.below (hb1.mono (Nat.le_trans hB N0.size))
    have z1 : w.heap.size + 1 + 1 ≤ w1.heap.size := by have := hb1.size; simpa using this
    have zz : w.heap.size < w1.heap.size := by omega
    have zz2 : w.heap.size + 1 < w1.heap.size := by omega
    have zn : ¬ w.heap.size = w1.heap.size := by omega
    have fl : decide (l ≤ 100000) = true := by simpa using l2
    have zn2 : ¬ w.heap.size + 1 = w1.heap.size := by omega
    clear hb1 b0 d0 h0 h C N0
    have q0 := b1.2 0 _ rfl
    have q1 := b1.2 1 _ rfl
    have q2 := b1.2 2 _ rfl
    obtain ⟨vs, hv, hl1⟩ := h1
    simp only [Value.agg.injEq, Array.mk.injEq, List.cons.injEq, and_true, true_and] at hv
    subst hv
    obtain ⟨ti, hi, hz0, hz1, hz2⟩ := info_parts infoInt
    have hrow1 := World.ownsRow_made (base := w1.heap.size) (e := 3) (size := 1) w1 #[] 0 (Nat.le_refl _) (by simp [maxLen]) rfl
    go_wp2_with fail
    refine (inYes l _ _ _ hl).mono ?_
    rintro e w9 ⟨rfl, hw9⟩
    obtain rfl := hw9.symm
    go_wp2
    obtain ⟨ao', cap', hv', hcap, hmax, _, hc⟩ := hl1
    simp only [Value.slice.injEq] at hv'
    obtain ⟨rfl, _, rfl⟩ := hv'
    unfold maxLen at hmax
    have d2 := (d1.alloc (.cells #[] 3)).alloc (.cells #[.int .i64 t.st, .int .i64 t.start, .slice (some ⟨w1.heap.size, 0, none⟩) 0 0] 28)
    have c2 := Bx.new1 w1 (.cells #[] 3) [.int .i64 t.st, .int .i64 t.start, .slice (some ⟨w1.heap.size, 0, none⟩) 0 0] 28
    go_loopw [7] (fun i wr => ∃ (k : Nat) (ao2 : Option Addr) (cap2 : Nat), k ≤ t.xs.length ∧ i = .int .i64 k ∧ wr.ownsRow w1.heap.size 3 1 (.slice ao2 k cap2) k ((ys.take k).map (Value.int .i64)) ∧ Bx wr (w1.heap.size + 1) [.int .i64 t.st, .int .i64 t.start, .slice ao2 k cap2] ∧ ¬ (Value.slice ao2 k cap2).ownBlock = some (w1.heap.size + 1) ∧ Below w1.heap.size w1 wr) (fun i _ => t.xs.length - (intOf i).toNat)
    case atStart => exact ⟨0, some ⟨w1.heap.size, 0, none⟩, 0, Nat.zero_le _, rfl, by simpa using hrow1.alloc _, c2, by simp [Value.ownBlock], ((Below.refl _ w1).alloc (Nat.le_refl _) _).alloc (by simp) _⟩
    case round =>
      obtain ⟨k, ao2, cap2, hk, rfl, hrow, c4, hnb, hbl⟩ := hrel
      have p0 := c4.2 0 _ rfl
      have p1 := c4.2 1 _ rfl
      have p2 := c4.2 2 _ rfl
      have p3 := c4.1.2
      have q0' := cellOf hbl (by omega) q0
      have q1' := cellOf hbl (by omega) q1
      have q2' := cellOf hbl (by omega) q2
      have HNB := Lib.hid hnb
      clear hnb q0 q1 q2
      by_cases hlt : k < t.xs.length
      · obtain ⟨x, hx⟩ := get_of_lt hlt
        obtain ⟨bx1, bx2⟩ := okX_get GX.out hx
        obtain ⟨b, off, rfl, hb, hcx⟩ := hc k x hx
        have hcx' := cellOf hbl (by omega) hcx
        have HT := Lib.hid (take_snoc (HGET.out k x hx))
        have HYK := Lib.hid (show ((ys.take k).map (Value.int .i64)).length = k by rw [List.length_map, List.length_take, HLL.out]; omega)
        have hi0 : (0 : Int) ≤ (k : Int) := by omega
        have hi1 : (k : Int) < (t.xs.length : Int) := by omega
        have s1 : IntKind.i64.wrap (x - l) = x - l := IntWalk.i64_in _ (by omega)
        have zr := hbl.size
        have zc := c4.1.1
        have zq : w.heap.size < wr.heap.size := by omega
        have zb : b < wr.heap.size := by omega
        clear hx hcx hc
        go_wp2
        go_region_law (refine step_append_lies _ (by rfl) _ _ _ (by rfl) w1.heap.size 3 ti (.int .i64 0) 1 8 Try.underlying22 hi hz0 hz1 hz2 rfl (by omega) _ k ((ys.take k).map (Value.int .i64)) (by rfl) (World.ownsRow.alloc (w := wr.drew) hrow _) ⟨wr.heap.size, 0, none⟩ 1 1 [.int .i64 (x - l)] (by rfl) (by rfl) (cell_one_new _ _ _) (by simp [Value.oneCell']) (by omega) (by unfold maxLen; omega) (by omega) (by simp; omega) (wr.heap.size + 1) (by simp) ?_; intro gg capg w3 hown3 hgrow hat hlt3; have c5 := (Bx.alloc (w := wr.drew) c4 _).grown hgrow (fun e => HNB.out e.symm); have u0 := c5.2 0 _ rfl; have u1 := c5.2 1 _ rfl; have u2 := c5.2 2 _ rfl; have u3 := c5.1.2)
        all_goals
          have hat2 := hat
          have HOWN := Lib.hid hown3
          have HLT := Lib.hid hlt3
          clear hat hown3 hlt3
          go_wp2
          go_roundw
          case rel =>
            have e : (ys.take k).map (Value.int .i64) ++ [.int .i64 (x - l)] = (ys.take (k + 1)).map (Value.int .i64) := by rw [HT.out]; simp
            have hb5 : Below w1.heap.size wr w3 := ((Below.refl _ _).drew.alloc (show w1.heap.size ≤ wr.drew.heap.size from zr) _).grown hgrow (by simp; omega) (fun g e => (hrow.lt g e).1)
            refine ⟨k + 1, some ⟨gg, 0, none⟩, capg, by omega, by go_num, ?_, c5.set3 _, ?_, (hbl.trans hb5).setCell (p := ⟨w1.heap.size + 1, 2, none⟩) (by simp) _⟩
            · rw [← e]
              refine ownsRow_setOther HOWN.out ?_ _
              intro g eg
              cases eg
              rcases hat2 with h9 | h9
              · exact fun e9 => HNB.out (h9.trans (congrArg some e9.symm))
              · have := c4.1.1
                simp only
                omega
            · simp only [Value.ownBlock, Option.some.injEq]
              rcases hat2 with h9 | h9
              · exact fun e9 => HNB.out (by rw [h9, e9])
              · have := c4.1.1
                omega
          case measure => simp [intOf]; omega
      · obtain rfl : k = t.xs.length := by omega
        have hty : ys.take t.xs.length = ys := by rw [← HLL.out]; exact List.take_length
        rw [hty] at hrow
        clear hty hc
        have hl4 : Lst (Value.int .i64) wr wr.heap.size (.slice ao2 t.xs.length cap2) ys := row_lst hrow
        have d4 := d1.block (hbl.block _ (by omega)) hbl.size
        have B4 := B1.trans (hbl.mono (by omega))
        cases hx2 : okX ys with
        | false =>
          have HC := Lib.hid (specGoodB ⟨t.st, t.start, ys⟩ (.agg #[.int .i64 t.st, .int .i64 t.start, .slice ao2 t.xs.length cap2]) wr wr.heap.size false ⟨_, rfl, hl4⟩ (Nat.le_refl _) (HG.out.trans hx2))
          have HX2 := Lib.hid hx2
          clear hx2
          go_wp2_with fail
          refine HC.out.mono ?_
          rintro e w5 ⟨rfl, hb5⟩
          have d5 := d4.below hb5
          have x0 := d5.2 0 _ rfl
          have x1 := d5.2 1 _ rfl
          have x2 := d5.2 2 _ rfl
          have x3 := d5.1.2
          have B5 := B4.trans (hb5.mono B4.size)
          go_wp2
          refine bodyPost_ret (v := .tuple #[.agg #[.int .i64 0, .int .i64 0, .slice none 0 0], .bool false]) (by simp [results, Try.results25, go_sem, x0, x1, x2]) rfl ?_
          rw [HX2.out]
          refine ⟨_, rfl, ⟨_, rfl, Own.nil _ _ _⟩, ?_⟩
          exact ((B5.setCell (by first | omega | (simp; done) | (simp; omega)) _).setCell (by first | omega | (simp; done) | (simp; omega)) _).setCell (by first | omega | (simp; done) | (simp; omega)) _
        | true =>
          have HC := Lib.hid (specGoodB ⟨t.st, t.start, ys⟩ (.agg #[.int .i64 t.st, .int .i64 t.start, .slice ao2 t.xs.length cap2]) wr wr.heap.size true ⟨_, rfl, hl4⟩ (Nat.le_refl _) (HG.out.trans hx2))
          have HX2 := Lib.hid hx2
          clear hx2
          go_wp2_with fail
          refine HC.out.mono ?_
          rintro e w5 ⟨rfl, hb5⟩
          have d5 := d4.below hb5
          have c5 := c4.below hb5
          have r5 := (Own.of_row (n := t.xs.length) (xs := ys) hrow).below hb5
          have z5 := hb5.size
          have x0 := d5.2 0 _ rfl
          have x1 := d5.2 1 _ rfl
          have x2 := d5.2 2 _ rfl
          have x3 := d5.1.2
          have p0 := c5.2 0 _ rfl
          have p1 := c5.2 1 _ rfl
          have p2 := c5.2 2 _ rfl
          have B5 := B4.trans (hb5.mono B4.size)
          go_wp2
          refine bodyPost_ret (v := .tuple #[.agg #[.int .i64 t.st, .int .i64 t.start, .slice ao2 t.xs.length cap2], .bool true]) (by simp [results, Try.results25, go_sem, x0, x1, x2]) rfl ?_
          rw [HX2.out]
          refine ⟨_, rfl, ⟨_, rfl, ?_⟩, ?_⟩
          · exact (((r5.setLow (by simp; omega) _).setLow (by simp; omega) _).setLow (by simp; omega) _).mono (by omega) (by simp; omega)
          · exact ((B5.setCell (by first | omega | (simp; done) | (simp; omega)) _).setCell (by first | omega | (simp; done) | (simp; omega)) _).setCell (by first | omega | (simp; done) | (simp; omega)) _

end Go.Proofs.Ytklilfbokpljkac
