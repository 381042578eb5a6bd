/- FnExactSubtractLevel: the lowered trace, both programs. -/
import Derived.Test.YtklilfbokpljkacCutS
import Derived.Test.YtklilfbokpljkacCrs
import Derived.Deep.AppendLies
import Derived.Deep.RegionLaw
namespace Go.Proofs.Ytklilfbokpljkac
open Go.ChangeShapes Go.WideShapes Go.ChangeAt Go.RowKit Go.ChangeMaps
set_option linter.unusedSimpArgs false
set_option linter.unusedVariables false

def low (xs : List Int) (l : Int) : List Int := xs.map (· - l)
theorem low_len (xs : List Int) (l : Int) : (low xs l).length = xs.length := by simp [low]
def inS (l : Int) : Bool := decide (-100000 ≤ l ∧ l ≤ 100000)
def pickT (b : Bool) (t : Tr) : Tr := if b then t else nilT
def okS (t : Tr) (l : Int) : Bool := goodT t && (inS l && okX (low t.xs l))
def resS (t : Tr) (l : Int) : Tr := if okS t l then ⟨t.st, t.start, low t.xs l⟩ else nilT
theorem resS_len (t : Tr) (l : Int) (h : t.xs.length ≤ 1048576) : (resS t l).xs.length ≤ 1048576 := by
  unfold resS
  split
  · rw [low_len]; exact h
  · simp [nilT]
theorem good_low {t : Tr} {l : Int} (h : goodT t = true) : goodT ⟨t.st, t.start, low t.xs l⟩ = okX (low t.xs l) := by
  have g := (goodT_yes h).1
  unfold goodT
  rw [decide_eq_true (by simpa [low_len] using g), Bool.true_and]
theorem sampYes (x : Int) (w : World) (h : -100000 ≤ x ∧ x ≤ 100000) :
    Calls Try.prog 88 #[.int .i64 x] w fun e w' => e = .returned (.bool true) ∧ w = w' := by
  obtain ⟨h1, h2⟩ := h
  go_enter Try.func88, Try.ntmps88
  go_wp2
  go_ret
  exact ⟨rfl, rfl⟩
theorem sampNo (x : Int) (w : World) (h : ¬ (-100000 ≤ x ∧ x ≤ 100000)) :
    Calls Try.prog 88 #[.int .i64 x] w fun e w' => e = .returned (.bool false) ∧ w = w' := by
  by_cases h1 : -100000 ≤ x
  · have h2 : ¬ x ≤ 100000 := fun g => h ⟨h1, g⟩
    go_enter Try.func88, Try.ntmps88
    go_wp2
    go_ret
    exact ⟨rfl, rfl⟩
  · go_enter Try.func88, Try.ntmps88
    go_wp2
    go_ret
    exact ⟨rfl, rfl⟩
theorem ownsRow_setOther {w : World} {base size n : Nat} {e : TypeId} {v : Value} {xs : List Value} (h : w.ownsRow base e size v n xs) {a : Addr} (ha : ∀ g, v.ownBlock = some g → a.block ≠ g) (u : Value) : (w.setCell a u).ownsRow base e size v n xs := by
  refine ⟨h.1, ?_⟩
  rcases h.2 with h0 | ⟨g, cap, cur, hv, hg, hh, r⟩
  · exact Or.inl h0
  · refine Or.inr ⟨g, cap, cur, hv, hg, ?_, r⟩
    rw [Below.heap_setCell w a u g (by have := ha g (by rw [hv]; rfl); omega)]
    exact hh
theorem row_lst {w : World} {L e n : Nat} {v : Value} {xs : List Int} (h : w.ownsRow L e 1 v n (xs.map (Value.int .i64))) : Lst (Value.int .i64) w w.heap.size v xs := (Own.of_row h).lst

set_option maxRecDepth 100000 in
set_option maxHeartbeats 1000000 in
theorem implSub (t : Tr) (v : Value) (l : Int) (w : World) (B : Nat) (h : TrL w B v t) (hB : B ≤ w.heap.size) (hn : t.xs.length ≤ 1048576) (_ : I64 l) :
    Calls Try.prog 24 #[v, .int .i64 l] w fun e w' => ∃ v', e = .returned (.tuple #[v', .bool (okS t l)]) ∧ TrO w' w.heap.size w'.heap.size v' (resS t l) ∧ Below w.heap.size w w' := by
  obtain ⟨ao, cap, rfl⟩ := h.form
  have N0 := ((Below.refl w.heap.size w).alloc (Nat.le_refl _) (.cells #[.int .i64 t.st, .int .i64 t.start, .slice ao t.xs.length cap] 28)).alloc (by simp) (.cells #[.int .i64 0, .int .i64 0, .slice none 0 0] 28)
  have b0 := (Bx.new w [.int .i64 t.st, .int .i64 t.start, .slice ao t.xs.length cap] 28).alloc (.cells #[.int .i64 0, .int .i64 0, .slice none 0 0] 28)
  have d0 := Bx.new1 w (.cells #[.int .i64 t.st, .int .i64 t.start, .slice ao t.xs.length cap] 28) [.int .i64 0, .int .i64 0, .slice none 0 0] 28
  have h0 := h.below (N0.mono hB)
  cases hg : goodT t with
  | false =>
    have e1 : okS t l = false := by unfold okS; simp [hg]
    have e2 : resS t l = nilT := by unfold resS; rw [e1]; rfl
    rw [e1, e2]
    have C := Lib.hid (implGoodB t _ _ B false h0 (Nat.le_trans hB N0.size) hg)
    clear e1 e2 hg
    go_enter Try.func24, Try.ntmps24
    go_wp2_with fail
    refine C.out.mono ?_
    rintro e w1 ⟨rfl, hb1⟩
    have B1 := N0.trans (hb1.mono N0.size)
    have d1 := d0.below hb1
    have x0 := d1.2 0 _ rfl
    have x1 := d1.2 1 _ rfl
    have x2 := d1.2 2 _ rfl
    have x3 := d1.1.2
    go_wp2
    refine bodyPost_ret (v := .tuple #[.agg #[.int .i64 0, .int .i64 0, .slice none 0 0], .bool false]) (by simp [results, Try.results24, go_sem, x0, x1, x2]) rfl ⟨_, rfl, ⟨_, rfl, Own.nil _ _ _⟩, ?_⟩
    exact ((B1.setCell (by first | omega | (simp; done) | (simp; omega)) _).setCell (by first | omega | (simp; done) | (simp; omega)) _).setCell (by first | omega | (simp; done) | (simp; omega)) _
  | true =>
    have C := Lib.hid (implGoodB t _ _ B true h0 (Nat.le_trans hB N0.size) hg)
    obtain ⟨⟨_, _, g1, g2, g3, _⟩, gx⟩ := goodT_yes hg
    have GX := Lib.hid gx
    clear gx
    by_cases hl : -100000 ≤ l ∧ l ≤ 100000
    case neg =>
      have e1 : okS t l = false := by unfold okS; rw [show inS l = false from decide_eq_false hl]; simp
      have e2 : resS t l = nilT := by unfold resS; rw [e1]; rfl
      rw [e1, e2]
      clear e1 e2 hg
      go_enter Try.func24, Try.ntmps24
      go_wp2_with fail
      refine C.out.mono ?_
      rintro e w1 ⟨rfl, hb1⟩
      have B1 := N0.trans (hb1.mono N0.size)
      have b1 := b0.below hb1
      have q0 := b1.2 0 _ rfl
      have q1 := b1.2 1 _ rfl
      have q2 := b1.2 2 _ rfl
      have d1 := d0.below hb1
      go_wp2_with fail
      refine (sampNo l _ hl).mono ?_
      rintro e w9 ⟨rfl, hw9⟩
      obtain rfl : w1 = w9 := hw9
      have x0 := d1.2 0 _ rfl
      have x1 := d1.2 1 _ rfl
      have x2 := d1.2 2 _ rfl
      have x3 := d1.1.2
      go_wp2
      refine bodyPost_ret (v := .tuple #[.agg #[.int .i64 0, .int .i64 0, .slice none 0 0], .bool false]) (by simp [results, Try.results24, go_sem, x0, x1, x2]) rfl ⟨_, rfl, ⟨_, rfl, Own.nil _ _ _⟩, ?_⟩
      exact ((B1.setCell (by first | omega | (simp; done) | (simp; omega)) _).setCell (by first | omega | (simp; done) | (simp; omega)) _).setCell (by first | omega | (simp; done) | (simp; omega)) _
    have hok : okS t l = okX (low t.xs l) := by unfold okS; rw [hg, show inS l = true from decide_eq_true hl]; simp
    have hgl := good_low (l := l) hg
    have hres : resS t l = pickT (okX (low t.xs l)) ⟨t.st, t.start, low t.xs l⟩ := by unfold resS pickT; rw [hok]
    rw [hok, hres]
    have hget : ∀ k x, t.xs[k]? = some x → (low t.xs l)[k]? = some (x - l) := fun k x hx => by unfold low; rw [List.getElem?_map, hx]; rfl
    have hll := low_len t.xs l
    generalize low t.xs l = ys at *
    have HG := Lib.hid hgl
    have HGET := Lib.hid hget
    have HLL := Lib.hid hll
    obtain ⟨l1, l2⟩ := id hl
    clear hok hgl hres hget hll hg
    go_enter Try.func24, Try.ntmps24
    go_wp2_with fail
    refine C.out.mono ?_
    rintro e w1 ⟨rfl, hb1⟩
    have B1 := N0.trans (hb1.mono N0.size)
    have b1 := b0.below hb1
    have d1 := d0.below hb1
    have h1 := h0.below (hb1.mono (Nat.le_trans hB N0.size))
    have z1 : w.heap.size + 1 + 1 ≤ w1.heap.size := by have := hb1.size; simpa using this
    have zz : w.heap.size < w1.heap.size := by omega
    have zz2 : w.heap.size + 1 < w1.heap.size := by omega
    have zn : ¬ w.heap.size = w1.heap.size := by omega
    have fl : decide (l ≤ 100000) = true := by simpa using l2
    have zn2 : ¬ w.heap.size + 1 = w1.heap.size := by omega
    clear hb1 b0 d0 h0 h C N0
    have q0 := b1.2 0 _ rfl
    have q1 := b1.2 1 _ rfl
    have q2 := b1.2 2 _ rfl
    obtain ⟨vs, hv, hl1⟩ := h1
    simp only [Value.agg.injEq, Array.mk.injEq, List.cons.injEq, and_true, true_and] at hv
    subst hv
    obtain ⟨ti, hi, hz0, hz1, hz2⟩ := info_parts infoInt
    have hl2 := hl1.below ((Below.refl B w1).alloc (by omega) (.cells #[.int .i64 t.st, .int .i64 t.start, .slice ao t.xs.length cap] 28))
    go_wp2_with fail
    refine (sampYes l _ hl).mono ?_
    rintro e w9 ⟨rfl, rfl⟩
    go_wp2_with fail
    refine (implClone t.xs _ _ B hl2 (by simp; omega) hn).mono ?_
    rintro e w2 ⟨v2, rfl, hrow2, hb2⟩
    obtain ⟨ao2, cap2, rfl⟩ := row_form hrow2
    rw [World.size_alloc] at hrow2
    have z2 : w1.heap.size + 1 ≤ w2.heap.size := by have := hb2.size; simpa using this
    have c2 := (Bx.new w1 [.int .i64 t.st, .int .i64 t.start, .slice ao t.xs.length cap] 28).below hb2
    have d2 := (d1.alloc _).below hb2
    have B2 : Below w.heap.size w w2 := (B1.alloc B1.size _).trans (hb2.mono (B' := w.heap.size) (by simp; omega))
    clear hb2 b1 d1 B1 q0 q1 q2 hl1 hl2
    have o0 := c2.2 0 _ rfl
    have o1 := c2.2 1 _ rfl
    have o2 := c2.2 2 _ rfl
    have o3 := c2.1.2
    go_wp2
    have c3 : Bx (w2.setCell ⟨w1.heap.size, 2, none⟩ (.slice ao2 t.xs.length cap2)) w1.heap.size [.int .i64 t.st, .int .i64 t.start, .slice ao2 t.xs.length cap2] := c2.set3 _
    have d3 := d2.setOther (p := ⟨w1.heap.size, 2, none⟩) (by simp; omega) (.slice ao2 t.xs.length cap2)
    have hrow3 := ownsRow_setCell_below hrow2 (a := ⟨w1.heap.size, 2, none⟩) (by simp) (.slice ao2 t.xs.length cap2)
    have B3 := B2.setCell (p := ⟨w1.heap.size, 2, none⟩) (by simp; omega) (.slice ao2 t.xs.length cap2)
    have z3 : w1.heap.size + 1 ≤ (w2.setCell ⟨w1.heap.size, 2, none⟩ (.slice ao2 t.xs.length cap2)).heap.size := by simpa using z2
    clear o0 o1 o2 o3 c2 d2 hrow2 B2 z2
    generalize w2.setCell ⟨w1.heap.size, 2, none⟩ (.slice ao2 t.xs.length cap2) = w3 at c3 d3 hrow3 B3 z3 ⊢
    have o0 := c3.2 0 _ rfl
    have o1 := c3.2 1 _ rfl
    have o2 := c3.2 2 _ rfl
    go_loopw [25] (fun i wr => ∃ (k : Nat) (cs : List Int), k ≤ t.xs.length ∧ i = .int .i64 k ∧ cs.length = t.xs.length ∧ (∀ j, j < k → cs[j]? = ys[j]?) ∧ (∀ j, k ≤ j → cs[j]? = t.xs[j]?) ∧ wr.ownsRow (w1.heap.size + 1) 3 1 (.slice ao2 t.xs.length cap2) t.xs.length (cs.map (Value.int .i64)) ∧ Below (w1.heap.size + 1) w3 wr) (fun i _ => t.xs.length - (intOf i).toNat)
    case atStart => exact ⟨0, t.xs, Nat.zero_le _, rfl, rfl, fun j hj => by omega, fun _ _ => rfl, hrow3, Below.refl _ _⟩
    case round =>
      obtain ⟨k, cs, hk, rfl, hcl, hlo, hhi, hrow, hbl⟩ := hrel
      have c4 := c3.block (hbl.block _ (by omega)) hbl.size
      have p0 := c4.2 0 _ rfl
      have p1 := c4.2 1 _ rfl
      have p2 := c4.2 2 _ rfl
      have HCL := Lib.hid hcl
      have HLO := Lib.hid hlo
      have HHI := Lib.hid hhi
      clear hcl hlo hhi o0 o1 o2
      by_cases hlt : k < t.xs.length
      · obtain ⟨x, hx⟩ := get_of_lt hlt
        obtain ⟨bx1, bx2⟩ := okX_get GX.out hx
        obtain ⟨g, capg, hg⟩ := Go.Joins.ownsRow_form hrow (by omega)
        simp only [Value.slice.injEq] at hg
        obtain ⟨rfl, _, rfl⟩ := hg
        have hck : (cs.map (Value.int .i64))[k]? = some (.int .i64 x) := by rw [List.getElem?_map, HHI.out k (Nat.le_refl _), hx]; rfl
        have hcell : wr.cell? ⟨g, k, none⟩ = some (.int .i64 x) := (hrow.cellAt k (by omega)).trans hck
        have hfz := hrow.frozenAt k
        have HX := Lib.hid hx
        have hg2 := (hrow.lt g rfl).1
        have hst := hrow.stored k (.int .i64 (x - l))
        have HST := Lib.hid hst
        clear hx hck hst
        go_wp2
        go_roundw
        case rel =>
          refine ⟨k + 1, cs.set k (x - l), by omega, by go_num, by rw [List.length_set]; exact HCL.out, ?_, ?_, ?_, hbl.setCell (p := ⟨g, k, none⟩) hg2 _⟩
          · intro j hj
            by_cases hjk : k = j
            · subst hjk
              rw [List.getElem?_set_self (by rw [HCL.out]; exact hlt), HGET.out k x HX.out]
            · rw [List.getElem?_set_ne hjk]
              exact HLO.out j (by omega)
          · intro j hj
            rw [List.getElem?_set_ne (by omega)]
            exact HHI.out j (by omega)
          · rw [List.map_set]
            exact HST.out.1
        case measure => simp [intOf]; omega
      · have hcs : cs = ys := by
          apply List.ext_getElem?
          intro j
          by_cases hj : j < t.xs.length
          · exact HLO.out j (by omega)
          · rw [List.getElem?_eq_none (by rw [HCL.out]; omega), List.getElem?_eq_none (by rw [HLL.out]; omega)]
        subst hcs
        have hl4 : Lst (Value.int .i64) wr wr.heap.size (.slice ao2 t.xs.length cap2) cs := row_lst hrow
        have hl5 := hl4
        rw [← HLL.out] at hl5
        cases hx2 : okX cs with
        | false =>
          have HC := Lib.hid (implGoodB ⟨t.st, t.start, cs⟩ (.agg #[.int .i64 t.st, .int .i64 t.start, .slice ao2 t.xs.length cap2]) wr wr.heap.size false ⟨_, rfl, hl4⟩ (Nat.le_refl _) (HG.out.trans hx2))
          have d4 := d3.block (hbl.block _ (by omega)) hbl.size
          have B4 := B3.trans (hbl.mono (by omega))
          have HX2 := Lib.hid hx2
          clear hx2
          go_wp2_with fail
          refine HC.out.mono ?_
          rintro e w5 ⟨rfl, hb5⟩
          have d5 := d4.below hb5
          have x0 := d5.2 0 _ rfl
          have x1 := d5.2 1 _ rfl
          have x2 := d5.2 2 _ rfl
          have x3 := d5.1.2
          have B5 := B4.trans (hb5.mono B4.size)
          go_wp2
          refine bodyPost_ret (v := .tuple #[.agg #[.int .i64 0, .int .i64 0, .slice none 0 0], .bool false]) (by simp [results, Try.results24, go_sem, x0, x1, x2]) rfl ?_
          rw [HX2.out]
          refine ⟨_, rfl, ⟨_, rfl, Own.nil _ _ _⟩, ?_⟩
          exact ((B5.setCell (by first | omega | (simp; done) | (simp; omega)) _).setCell (by first | omega | (simp; done) | (simp; omega)) _).setCell (by first | omega | (simp; done) | (simp; omega)) _
        | true =>
          have HC := Lib.hid (implGoodB ⟨t.st, t.start, cs⟩ (.agg #[.int .i64 t.st, .int .i64 t.start, .slice ao2 t.xs.length cap2]) wr wr.heap.size true ⟨_, rfl, hl4⟩ (Nat.le_refl _) (HG.out.trans hx2))
          have d4 := d3.block (hbl.block _ (by omega)) hbl.size
          have B4 := B3.trans (hbl.mono (by omega))
          have HX2 := Lib.hid hx2
          clear hx2
          go_wp2_with fail
          refine HC.out.mono ?_
          rintro e w5 ⟨rfl, hb5⟩
          have d5 := d4.below hb5
          have c5 := c4.below hb5
          have r5 := (Own.of_row hrow).below hb5
          have z5 := hb5.size
          have x0 := d5.2 0 _ rfl
          have x1 := d5.2 1 _ rfl
          have x2 := d5.2 2 _ rfl
          have x3 := d5.1.2
          have p0 := c5.2 0 _ rfl
          have p1 := c5.2 1 _ rfl
          have p2 := c5.2 2 _ rfl
          have B5 := B4.trans (hb5.mono B4.size)
          go_wp2
          refine bodyPost_ret (v := .tuple #[.agg #[.int .i64 t.st, .int .i64 t.start, .slice ao2 t.xs.length cap2], .bool true]) (by simp [results, Try.results24, go_sem, x0, x1, x2]) rfl ?_
          rw [HX2.out]
          refine ⟨_, rfl, ⟨_, rfl, ?_⟩, ?_⟩
          · exact (((r5.setLow (by simp; omega) _).setLow (by simp; omega) _).setLow (by simp; omega) _).mono (by omega) (by simp; omega)
          · exact ((B5.setCell (by first | omega | (simp; done) | (simp; omega)) _).setCell (by first | omega | (simp; done) | (simp; omega)) _).setCell (by first | omega | (simp; done) | (simp; omega)) _

end Go.Proofs.Ytklilfbokpljkac
