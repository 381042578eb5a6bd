/- Packing: how many of the differences have which width, both programs. -/
import Derived.Test.YtkgohnlljbamlaaPkC
import Derived.Deep.DeepCutAuto
namespace Go.Proofs.Ytkgohnlljbamlaa
open Go.ChangeShapes Go.WideShapes Go.ChangeAt Go.RowKit Go.ChangeMaps
set_option linter.unusedSimpArgs false
set_option linter.unusedVariables false

/-- How many differences have width q + 1. -/
def cntW (ds : List Int) (q : Nat) : Int := ((ds.filter fun d => decide (wid (fold d) = q + 1)).length : Int)
def wc (ds : List Int) : List Int := [cntW ds 0, cntW ds 1, cntW ds 2]
def resWc (xs : List Int) : List Int := if okL xs then wc (dif xs) else []
theorem resWc_len (xs : List Int) : (resWc xs).length ≤ 1048576 := by
  unfold resWc wc
  split <;> simp
theorem cntW_nil (q : Nat) : cntW [] q = 0 := rfl
theorem cntW_step {ds : List Int} {k : Nat} {d : Int} (h : ds[k]? = some d) (q : Nat) : cntW (ds.take (k + 1)) q = cntW (ds.take k) q + if wid (fold d) = q + 1 then 1 else 0 := by
  unfold cntW
  rw [take_snoc h, List.filter_append, List.length_append]
  by_cases hw : wid (fold d) = q + 1
  · rw [if_pos hw]; simp [hw]
  · rw [if_neg hw]; simp [hw]
theorem cntW_bd (ds : List Int) (k q : Nat) : 0 ≤ cntW (ds.take k) q ∧ cntW (ds.take k) q ≤ k := by
  unfold cntW
  have := List.length_filter_le (fun d => decide (wid (fold d) = q + 1)) (ds.take k)
  rw [List.length_take] at this
  omega
/-- One more of a width. -/
theorem wc_set {ds : List Int} {k : Nat} {d : Int} (h : ds[k]? = some d) (j : Nat) (hj : wid (fold d) = j + 1) :
    (wc (ds.take k))[j]? = some (cntW (ds.take k) j) ∧ (wc (ds.take k)).set j (cntW (ds.take k) j + 1) = wc (ds.take (k + 1)) ∧ j < 3 := by
  have hp := wid_pos (fold d)
  have h3 : j < 3 := by omega
  refine ⟨?_, ?_, h3⟩
  · match j, h3 with
    | 0, _ => rfl
    | 1, _ => rfl
    | 2, _ => rfl
  · unfold wc
    rw [cntW_step h 0, cntW_step h 1, cntW_step h 2, hj]
    match j, h3 with
    | 0, _ => simp
    | 1, _ => simp
    | 2, _ => simp

theorem made_wc (ds : List Int) : (madeCells (Value.int .i64 0).cells (3 * 1)).toList = (wc (ds.take 0)).map (Value.int .i64) := by
  rw [List.take_zero]
  simp [madeCells, Value.cells, wc, cntW]
  first | done | rfl | decide
theorem Lst.setOther {α : Type} {en : α → Value} {w : World} {B : Nat} {v : Value} {xs : List α} (h : Lst en w B v xs) {g i : Nat} (hp : ∀ b off n c, v = .slice (some ⟨b, off, none⟩) n c → b ≠ g) (u : Value) : Lst en (w.setCell ⟨g, i, none⟩ u) B v xs := by
  obtain ⟨ao, cap, h1, h2, h3, hn, h4⟩ := h
  refine ⟨ao, cap, h1, h2, h3, hn, fun j x hx => ?_⟩
  obtain ⟨b, off, e1, e2, e3⟩ := h4 j x hx
  refine ⟨b, off, e1, e2, ?_⟩
  rw [← e3]
  have := hp b off _ _ (by rw [h1, e1])
  exact World.cell?_of_block (Below.heap_setCell w _ u b this)
theorem rows_eq9 {w : World} {base size n : Nat} {e : TypeId} {v : Value} {xs ys : List Value} (h : w.ownsRow base e size v n xs) (e9 : xs = ys) : w.ownsRow base e size v n ys := e9 ▸ h
theorem step_make {P : Program} (w : World) {ops : Array Oper} {o : Oper} {a : Act} {K : Act → World → Prop} {Q : Exit → Act → World → Prop} {E : Prop} (hgd : o.guard = none) (l c : Operand) (t : TypeId) (hop : o.op = Op.makeSlice t l c)
    (base : Nat) (e : TypeId) (i : TypeInfo) (z : Value) (size : Nat) (h1 : P.underlying t = some (.slice e)) (h2 : P.info? e = some i) (h3 : i.zero = some z) (h4 : i.size = size)
    (kl kc : IntKind) (L C : Int) (n : Nat) (hl : a.eval l = .int kl L) (hc : a.eval c = .int kc C) (hL : L = (n : Int)) (hC : C = (n : Int)) (b2 : i.bytes * n ≤ 281474976710656) (b3 : n ≤ maxLen) (b4 : base ≤ w.heap.size)
    (hK : ∀ w', w'.ownsRow base e size (.slice (some ⟨w.heap.size, 0, none⟩) n n) n (madeCells z.cells (n * size)).toList → w.grownBy w' none → K (a.put o.dst (.slice (some ⟨w.heap.size, 0, none⟩) n n)) w') :
    if Region.wanted o (yielded ops a.tmps) = true then Oper.wp P o a w K Q else E := by
  have hw : Region.wanted o (yielded ops a.tmps) = true := by simp [Region.wanted, hgd]
  rw [if_pos hw]
  obtain ⟨w', hrun, r1, r2⟩ := run_make_full (P := P) (w := w) base t e i z size h1 h2 h3 h4 kl kc n b2 b3 b4
  subst hL
  subst hC
  unfold Oper.wp
  simp [execOp, hop, hl, hc, hrun, Result.andThen]
  exact hK w' r1 r2

theorem upon_make {P : Program} (w : World) {o : Oper} {a : Act} {K : Act → World → Prop} {Q : Exit → Act → World → Prop} (t : TypeId)
    (base : Nat) (e : TypeId) (i : TypeInfo) (z : Value) (size : Nat) (h1 : P.underlying t = some (.slice e)) (h2 : P.info? e = some i) (h3 : i.zero = some z) (h4 : i.size = size)
    (kl kc : IntKind) (L C : Int) (n : Nat) (hL : L = (n : Int)) (hC : C = (n : Int)) (b2 : i.bytes * n ≤ 281474976710656) (b3 : n ≤ maxLen) (b4 : base ≤ w.heap.size)
    (hK : ∀ w', w'.ownsRow base e size (.slice (some ⟨w.heap.size, 0, none⟩) n n) n (madeCells z.cells (n * size)).toList → w.grownBy w' none → K (a.put o.dst (.slice (some ⟨w.heap.size, 0, none⟩) n n)) w') :
    Oper.upon P o a K Q ((Sem.run P (Instr.makeSlice t (.int kl L) (.int kc C)) w).andThen fun a w' => Result.ok (Next.value a) w') := by
  obtain ⟨w', hrun, r1, r2⟩ := run_make_full (P := P) (w := w) base t e i z size h1 h2 h3 h4 kl kc n b2 b3 b4
  subst hL
  subst hC
  rw [hrun]
  exact hK w' r1 r2

set_option maxRecDepth 100000 in
set_option maxHeartbeats 1000000 in
theorem implWc (xs : List Int) (v : Value) (w : World) (B : Nat) (h : Lst (Value.int .i64) w B v xs) (hB : B ≤ w.heap.size) (hn : xs.length ≤ 1048576) :
    Calls Try.prog 36 #[v] w fun e w' => ∃ v', e = .returned (.tuple #[v', .bool (okL xs)]) ∧ Own (Value.int .i64) w' w.heap.size w'.heap.size v' (resWc xs) ∧ Below w.heap.size w w' := by
  have C := Lib.hid (implDif xs v w B h hB hn)
  obtain ⟨ti, hi, hz0, hz1, hz2⟩ := info_parts infoInt
  cases hk : okL xs with
  | false =>
    have e2 : resWc xs = [] := by unfold resWc; rw [hk]; rfl
    rw [e2]
    rw [hk] at C
    clear e2 hk
    go_enter Try.func36, Try.ntmps36
    go_wp2_with fail
    refine C.out.mono ?_
    rintro e w1 ⟨v1, rfl, ho, hb⟩
    go_wp2
    go_ret2
    exact ⟨_, rfl, own_empty _ _ hb.size, hb.alloc hb.size _⟩
  | true =>
    have e2 : resWc xs = wc (dif xs) := by unfold resWc; rw [hk]; rfl
    have e3 : resDif xs = dif xs := by unfold resDif; rw [hk]; rfl
    have hx := dif_okD hk
    have hl : (dif xs).length ≤ 24 := by rw [dif_len]; exact (okL_yes hk).2
    rw [e2]
    rw [hk, e3] at C
    clear e2 e3 hk h
    generalize dif xs = ds at *
    have HX := Lib.hid hx
    clear hx
    go_enter Try.func36, Try.ntmps36
    go_wp2_with fail
    refine C.out.mono ?_
    rintro e w1 ⟨v1, rfl, ho, hb⟩
    obtain ⟨a1, c1, rfl, hcap, hmax, hnn, hc⟩ := ho.lst
    unfold maxLen at hmax
    have HC := Lib.hid hc
    clear hc hnn C
    go_wp2_with (at_make; refine wpList_make_full _ rfl _ _ 22 rfl w1.heap.size 3 ti (.int .i64 0) 1 Try.underlying22 hi hz0 hz1 .i64 .i64 _ _ 3 rfl rfl rfl rfl (by rw [hz2]; omega) (by unfold maxLen; omega) (Nat.le_refl _) ?_; intro w2 hown hgrow)
    have hb2 : Below w1.heap.size w1 w2 := (Below.refl _ _).grown hgrow (Nat.le_refl _) (by simp)
    rw [made_wc ds] at hown
    have hrow0 := hown
    clear hown hgrow
    go_loopw [20] (fun i wr => ∃ (k : Nat), k ≤ ds.length ∧ i = .int .i64 k ∧ wr.ownsRow w1.heap.size 3 1 (.slice (some ⟨w1.heap.size, 0, none⟩) 3 3) 3 ((wc (ds.take k)).map (Value.int .i64)) ∧ Below w1.heap.size w1 wr)
      (fun i _ => ds.length - (intOf i).toNat)
    case atStart => exact ⟨0, Nat.zero_le _, rfl, hrow0, hb2⟩
    case round =>
      obtain ⟨k, hk, rfl, hrow, hbl⟩ := hrel
      have hsz := hbl.size
      by_cases hlt : k < ds.length
      case neg =>
        obtain rfl : k = ds.length := by omega
        rw [List.take_length] at *
        go_wp2
        go_ret2
        exact ⟨_, rfl, (Own.of_row (n := 3) hrow).mono hb.size (Nat.le_refl _), hb.trans (hbl.mono hb.size)⟩
      obtain ⟨d, hd⟩ := get_of_lt hlt
      have hok := HX.out d (List.mem_of_getElem? hd)
      obtain ⟨b, off, rfl, hb1, hcd⟩ := HC.out k d hd
      have hcd' := cellOf hbl (by omega) hcd
      have hi0 : (0 : Int) ≤ (k : Int) := by omega
      have hi1 : (k : Int) < (ds.length : Int) := by omega
      have hwp := wid_pos (fold d)
      obtain ⟨j, hj⟩ : ∃ j, wid (fold d) = j + 1 := ⟨wid (fold d) - 1, by omega⟩
      obtain ⟨s1, s2, s3⟩ := wc_set hd j hj
      have hbd := cntW_bd ds k j
      have hlen := (byt_len (fold d)).trans hj
      have D := Lib.hid (implBytes d wr hok)
      generalize cntW (ds.take k) j = c at *
      have hcc : wr.cell? ⟨w1.heap.size, j, none⟩ = some (.int .i64 c) := (hrow.cellAt j (by omega)).trans (by rw [List.getElem?_map, s1]; rfl)
      have hfc := hrow.frozenAt j
      have HS2 := Lib.hid s2
      have HRW := Lib.hid hrow
      clear hd hcd hrow s1 s2 hwp
      go_wp2_with fail
      refine D.out.mono ?_
      rintro e w5 ⟨v5, rfl, hr5, hb5⟩
      rw [hlen] at hr5
      obtain ⟨a5, c5, rfl⟩ := row_form hr5
      have rw5 := row_below HRW.out hb5
      have hcc5 := cellOf hb5 (show w1.heap.size < wr.heap.size from Nat.lt_of_lt_of_le (cell_of_lt hcc) (Nat.le_refl _)) hcc
      have hfc5 := rw5.frozenAt j
      have hi3 : (0 : Int) ≤ (j : Int) := by omega
      have hi4 : (j : Int) < 3 := by omega
      have hi5 : (j : Int) + 1 - 1 = (j : Int) := by omega
      have s4 : IntKind.i64.wrap ((j : Int) + 1 - 1) = (j : Int) := by rw [hi5]; exact IntWalk.i64_in _ (by omega)
      have s5 : IntKind.i64.wrap (j : Int) = (j : Int) := IntWalk.i64_in _ (by omega)
      have s6 : IntKind.i64.wrap (c + 1) = c + 1 := IntWalk.i64_in _ (by omega)
      have rw6 := Lib.hid ((rw5.stored j (.int .i64 (c + 1))).1)
      have bl5 := hbl.trans (hb5.mono hsz)
      have bl6 := bl5.setCell (p := ⟨w1.heap.size, j, none⟩) (Nat.le_refl _) (.int .i64 (c + 1))
      clear hcc hfc D hb5 rw5 hr5 hlen hj
      go_wp2
      go_roundw
      case rel => exact ⟨k + 1, by omega, by go_num, by rw [← HS2.out, List.map_set]; exact rw6.out, bl6⟩
      case measure => simp [intOf]; omega

set_option maxRecDepth 100000 in
set_option maxHeartbeats 1000000 in
theorem specWc (xs : List Int) (v : Value) (w : World) (B : Nat) (h : Lst (Value.int .i64) w B v xs) (hB : B ≤ w.heap.size) (hn : xs.length ≤ 1048576) :
    Calls Try.prog 35 #[v] w fun e w' => ∃ v', e = .returned (.tuple #[v', .bool (okL xs)]) ∧ Own (Value.int .i64) w' w.heap.size w'.heap.size v' (resWc xs) ∧ Below w.heap.size w w' := by
  obtain ⟨ti, hi, hz0, hz1, hz2⟩ := info_parts infoInt
  cases hk : okL xs with
  | false =>
    have e2 : resWc xs = [] := by unfold resWc; rw [hk]; rfl
    have C := Lib.hid (l2SamplesB xs v w B false h hk)
    rw [e2]
    clear e2 hk
    go_enter Try.func35, Try.ntmps35
    go_wp2_with fail
    refine C.out.mono ?_
    rintro e w1 ⟨rfl, rfl⟩
    go_wp2
    go_ret2
    exact ⟨_, rfl, own_empty _ _ (Nat.le_refl _), (Below.refl _ _).alloc (Nat.le_refl _) _⟩
  | true =>
    have e2 : resWc xs = wc (dif xs) := by unfold resWc; rw [hk]; rfl
    have hx := dif_okD hk
    have gx := (okL_yes hk).1
    have gn := (okL_yes hk).2
    have C := Lib.hid (l2SamplesB xs v w B true h hk)
    have D : ∀ w', Below w.heap.size w w' → Calls Try.prog 53 #[v] w' fun e w2 => ∃ v', e = .returned v' ∧ w2.ownsRow w'.heap.size 3 1 v' (dif xs).length ((dif xs).map (Value.int .i64)) ∧ Below w'.heap.size w' w2 := fun w' hb => by
      rw [dif_len]
      exact specDiffs xs v w' B (h.below (hb.mono hB)) (Nat.le_trans hB hb.size) hn (fun x hx => by have := gx x hx; omega)
    have hl : (dif xs).length ≤ 24 := by rw [dif_len]; exact gn
    rw [e2]
    clear e2 hk h gx gn
    generalize dif xs = ds at *
    have HX := Lib.hid hx
    have HD := Lib.hid D
    clear hx D
    go_enter Try.func35, Try.ntmps35
    go_wp2_with fail
    refine C.out.mono ?_
    rintro e w1 ⟨rfl, hw1⟩
    obtain rfl := hw1.symm
    go_wp2
    go_region_held3 (fun w' => Below w.heap.size w w')
      (first
        | exact (Below.refl _ _).drew
        | exact Bm
        | exact Bd
        | exact Bm2
        | exact Bd2)
      (first
        | (refine upon_make w.drew _ w.heap.size 3 ti (.int .i64 0) 1 Try.underlying22 hi hz0 hz1 .i64 .i64 _ _ 3 (by rfl) (by rfl) (by rw [hz2]; omega) (by unfold maxLen; omega) (by exact Nat.le_refl _) ?_; intro wm hown hgrow; have Bm : Below w.heap.size w wm := (Below.refl _ _).drew.grown hgrow (by exact Nat.le_refl _) (by simp); have Zm := Bm.size)
        | (refine upon_make wd _ wd.heap.size 3 ti (.int .i64 0) 1 Try.underlying22 hi hz0 hz1 .i64 .i64 _ _ 3 (by rfl) (by rfl) (by rw [hz2]; omega) (by unfold maxLen; omega) (by exact Nat.le_refl _) ?_; intro wm hown hgrow; have Bm2 : Below w.heap.size w wm := Bd.grown hgrow Zd (by simp); have Zm := Bm2.size)
        | (go_at_call 53; refine (HD.out w.drew (Below.refl _ _).drew).mono ?_; rintro e wd ⟨vd, rfl, rd, hbd⟩; have Bd : Below w.heap.size w wd := (Below.refl _ _).drew.trans hbd; have Zd := Bd.size)
        | (go_at_call 53; refine (HD.out wm Bm).mono ?_; rintro e wd ⟨vd, rfl, rd, hbd⟩; have Bd2 : Below w.heap.size w wd := Bm.trans (hbd.mono Zm); have Zd := Bd2.size))
    · have r0 := rows_eq9 hown (made_wc ds)
      have LD : Lst (Value.int .i64) wd wd.heap.size vd ds := (Own.of_row rd).lst
      have hgle : w.heap.size ≤ w.heap.size := Nat.le_refl _
      have hgm : w.heap.size < wm.heap.size := cell_of_lt (r0.cellAt 0 (by omega) |>.trans (by rfl))
      have hne : ∀ b off n c, vd = .slice (some ⟨b, off, none⟩) n c → b ≠ w.heap.size := fun b off n c e => by
        have := (rd.lt b (by rw [e]; rfl)).1
        omega
      have hlt9 : ∀ b off n c, vd = .slice (some ⟨b, off, none⟩) n c → b < wd.heap.size := fun b off n c e => (rd.lt b (by rw [e]; rfl)).2
      have rowC := row_below r0 hbd
      have BQ := Bd2
      clear hown hgrow rd HD C
      obtain ⟨a1, c1, rfl, hcap, hmax, hnn, hc⟩ := LD
      unfold maxLen at hmax
      have HC := Lib.hid hc
      have hne2 : ∀ b off, a1 = some ⟨b, off, none⟩ → b ≠ w.heap.size ∧ b < wd.heap.size := fun b off e => ⟨hne b off _ _ (by rw [e]), by
        subst e
        exact hlt9 b off _ _ rfl⟩
      have HNE := Lib.hid hne2
      have hzq := BQ.size
      clear hc hnn hne hne2 hlt9
      go_wp2
      go_loopw [6] (fun i wr => ∃ (k : Nat), k ≤ ds.length ∧ i = .int .i64 k ∧ wr.ownsRow w.heap.size 3 1 (.slice (some ⟨w.heap.size, 0, none⟩) 3 3) 3 ((wc (ds.take k)).map (Value.int .i64)) ∧ (∀ b o, b ≠ w.heap.size → b < wd.heap.size → wr.cell? ⟨b, o, none⟩ = wd.cell? ⟨b, o, none⟩) ∧ wd.heap.size ≤ wr.heap.size ∧ Below w.heap.size w wr)
        (fun i _ => ds.length - (intOf i).toNat)
      case atStart => exact ⟨0, Nat.zero_le _, rfl, rowC, fun _ _ _ _ => rfl, Nat.le_refl _, BQ⟩
      case round =>
        obtain ⟨k, hk, rfl, hrow, hsame, hsz9, hbl⟩ := hrel
        have hsz := hbl.size
        by_cases hlt : k < ds.length
        case neg =>
          obtain rfl : k = ds.length := by omega
          rw [List.take_length] at *
          go_wp2
          go_ret2
          exact ⟨_, rfl, Own.of_row (n := 3) hrow, hbl⟩
        obtain ⟨d, hd⟩ := get_of_lt hlt
        have hok := HX.out d (List.mem_of_getElem? hd)
        obtain ⟨b, off, rfl, hb1, hcd⟩ := HC.out k d hd
        have hbg := HNE.out b off rfl
        have hcd' := (hsame b (off + k) hbg.1 hbg.2).trans hcd
        have hi0 : (0 : Int) ≤ (k : Int) := by omega
        have hi1 : (k : Int) < (ds.length : Int) := by omega
        have hwp := wid_pos (fold d)
        obtain ⟨j, hj⟩ : ∃ j, wid (fold d) = j + 1 := ⟨wid (fold d) - 1, by omega⟩
        obtain ⟨s1, s2, s3⟩ := wc_set hd j hj
        have hbd2 := cntW_bd ds k j
        have hlen := (byt_len (fold d)).trans hj
        have D0 := Lib.hid (specFold d wr hok)
        have D := Lib.hid (specBytes (fold d) wr (fold_nonneg d) (okD_fold hok))
        generalize cntW (ds.take k) j = c at *
        have hcc : wr.cell? ⟨w.heap.size, j, none⟩ = some (.int .i64 c) := (hrow.cellAt j (by omega)).trans (by rw [List.getElem?_map, s1]; rfl)
        have hgw : w.heap.size < wr.heap.size := cell_of_lt hcc
        have HS2 := Lib.hid s2
        have HRW := Lib.hid hrow
        have HSM := Lib.hid hsame
        clear hd hcd hrow s1 s2 hwp hsame
        go_wp2_with fail
        refine D0.out.mono ?_
        rintro e w9 ⟨rfl, hw9⟩
        obtain rfl := hw9.symm
        go_wp2_with fail
        refine D.out.mono ?_
        rintro e w5 ⟨v5, rfl, hr5, hb5⟩
        rw [hlen] at hr5
        obtain ⟨a5, c5, rfl⟩ := row_form hr5
        have rw5 := row_below HRW.out hb5
        have hcc5 := cellOf hb5 hgw hcc
        have hfc5 := rw5.frozenAt j
        have hi3 : (0 : Int) ≤ (j : Int) := by omega
        have hi4 : (j : Int) < 3 := by omega
        have hi5 : (j : Int) + 1 - 1 = (j : Int) := by omega
        have s4 : IntKind.i64.wrap ((j : Int) + 1 - 1) = (j : Int) := by rw [hi5]; exact IntWalk.i64_in _ (by omega)
        have s5 : IntKind.i64.wrap (j : Int) = (j : Int) := IntWalk.i64_in _ (by omega)
        have s6 : IntKind.i64.wrap (c + 1) = c + 1 := IntWalk.i64_in _ (by omega)
        have rw6 := Lib.hid ((rw5.stored j (.int .i64 (c + 1))).1)
        have bl5 := hbl.trans (hb5.mono hsz)
        have bl6 := bl5.setCell (p := ⟨w.heap.size, j, none⟩) (by exact hgle) (.int .i64 (c + 1))
        have HSM2 : ∀ b o, b ≠ w.heap.size → b < wd.heap.size → (w5.setCell ⟨w.heap.size, j, none⟩ (.int .i64 (c + 1))).cell? ⟨b, o, none⟩ = wd.cell? ⟨b, o, none⟩ := fun b o h1 h2 =>
          ((World.cell?_of_block (Below.heap_setCell w5 _ _ b (by exact h1))).trans (hb5.cell (p := ⟨b, o, none⟩) (by show b < wr.heap.size; omega))).trans (HSM.out b o h1 h2)
        have HZ5 : wd.heap.size ≤ (w5.setCell ⟨w.heap.size, j, none⟩ (.int .i64 (c + 1))).heap.size := by
          have := hb5.size
          simp [World.setCell]
          omega
        have HSM3 := Lib.hid HSM2
        clear hcc D hb5 rw5 hr5 hlen hj HSM2
        go_wp2
        go_roundw
        case rel => exact ⟨k + 1, by omega, by go_num, by rw [← HS2.out, List.map_set]; exact rw6.out, HSM3.out, HZ5, bl6⟩
        case measure => simp [intOf]; omega
    · have r0 := rows_eq9 hown (made_wc ds)
      have Bg : Below wd.heap.size wd wm := (Below.refl _ _).grown hgrow (Nat.le_refl _) (by simp)
      have LD : Lst (Value.int .i64) wm wd.heap.size vd ds := (Own.of_row rd).lst.below Bg
      have hgle : w.heap.size ≤ wd.heap.size := Zd
      have hne : ∀ b off n c, vd = .slice (some ⟨b, off, none⟩) n c → b ≠ wd.heap.size := fun b off n c e => by
        have := (rd.lt b (by rw [e]; rfl)).2
        omega
      have hlt9 : ∀ b off n c, vd = .slice (some ⟨b, off, none⟩) n c → b < wm.heap.size := fun b off n c e => Nat.lt_of_lt_of_le (rd.lt b (by rw [e]; rfl)).2 Bg.size
      have rowC := Go.Joins.ownsRow_le r0 Zd
      have BQ := Bm2
      clear hown hgrow rd HD C
      obtain ⟨a1, c1, rfl, hcap, hmax, hnn, hc⟩ := LD
      unfold maxLen at hmax
      have HC := Lib.hid hc
      have hne2 : ∀ b off, a1 = some ⟨b, off, none⟩ → b ≠ wd.heap.size ∧ b < wm.heap.size := fun b off e => ⟨hne b off _ _ (by rw [e]), by
        subst e
        exact hlt9 b off _ _ rfl⟩
      have HNE := Lib.hid hne2
      have hzq := BQ.size
      clear hc hnn hne hne2 hlt9
      go_wp2
      go_loopw [6] (fun i wr => ∃ (k : Nat), k ≤ ds.length ∧ i = .int .i64 k ∧ wr.ownsRow w.heap.size 3 1 (.slice (some ⟨wd.heap.size, 0, none⟩) 3 3) 3 ((wc (ds.take k)).map (Value.int .i64)) ∧ (∀ b o, b ≠ wd.heap.size → b < wm.heap.size → wr.cell? ⟨b, o, none⟩ = wm.cell? ⟨b, o, none⟩) ∧ wm.heap.size ≤ wr.heap.size ∧ Below w.heap.size w wr)
        (fun i _ => ds.length - (intOf i).toNat)
      case atStart => exact ⟨0, Nat.zero_le _, rfl, rowC, fun _ _ _ _ => rfl, Nat.le_refl _, BQ⟩
      case round =>
        obtain ⟨k, hk, rfl, hrow, hsame, hsz9, hbl⟩ := hrel
        have hsz := hbl.size
        by_cases hlt : k < ds.length
        case neg =>
          obtain rfl : k = ds.length := by omega
          rw [List.take_length] at *
          go_wp2
          go_ret2
          exact ⟨_, rfl, Own.of_row (n := 3) hrow, hbl⟩
        obtain ⟨d, hd⟩ := get_of_lt hlt
        have hok := HX.out d (List.mem_of_getElem? hd)
        obtain ⟨b, off, rfl, hb1, hcd⟩ := HC.out k d hd
        have hbg := HNE.out b off rfl
        have hcd' := (hsame b (off + k) hbg.1 hbg.2).trans hcd
        have hi0 : (0 : Int) ≤ (k : Int) := by omega
        have hi1 : (k : Int) < (ds.length : Int) := by omega
        have hwp := wid_pos (fold d)
        obtain ⟨j, hj⟩ : ∃ j, wid (fold d) = j + 1 := ⟨wid (fold d) - 1, by omega⟩
        obtain ⟨s1, s2, s3⟩ := wc_set hd j hj
        have hbd2 := cntW_bd ds k j
        have hlen := (byt_len (fold d)).trans hj
        have D0 := Lib.hid (specFold d wr hok)
        have D := Lib.hid (specBytes (fold d) wr (fold_nonneg d) (okD_fold hok))
        generalize cntW (ds.take k) j = c at *
        have hcc : wr.cell? ⟨wd.heap.size, j, none⟩ = some (.int .i64 c) := (hrow.cellAt j (by omega)).trans (by rw [List.getElem?_map, s1]; rfl)
        have hgw : wd.heap.size < wr.heap.size := cell_of_lt hcc
        have HS2 := Lib.hid s2
        have HRW := Lib.hid hrow
        have HSM := Lib.hid hsame
        clear hd hcd hrow s1 s2 hwp hsame
        go_wp2_with fail
        refine D0.out.mono ?_
        rintro e w9 ⟨rfl, hw9⟩
        obtain rfl := hw9.symm
        go_wp2_with fail
        refine D.out.mono ?_
        rintro e w5 ⟨v5, rfl, hr5, hb5⟩
        rw [hlen] at hr5
        obtain ⟨a5, c5, rfl⟩ := row_form hr5
        have rw5 := row_below HRW.out hb5
        have hcc5 := cellOf hb5 hgw hcc
        have hfc5 := rw5.frozenAt j
        have hi3 : (0 : Int) ≤ (j : Int) := by omega
        have hi4 : (j : Int) < 3 := by omega
        have hi5 : (j : Int) + 1 - 1 = (j : Int) := by omega
        have s4 : IntKind.i64.wrap ((j : Int) + 1 - 1) = (j : Int) := by rw [hi5]; exact IntWalk.i64_in _ (by omega)
        have s5 : IntKind.i64.wrap (j : Int) = (j : Int) := IntWalk.i64_in _ (by omega)
        have s6 : IntKind.i64.wrap (c + 1) = c + 1 := IntWalk.i64_in _ (by omega)
        have rw6 := Lib.hid ((rw5.stored j (.int .i64 (c + 1))).1)
        have bl5 := hbl.trans (hb5.mono hsz)
        have bl6 := bl5.setCell (p := ⟨wd.heap.size, j, none⟩) (by exact hgle) (.int .i64 (c + 1))
        have HSM2 : ∀ b o, b ≠ wd.heap.size → b < wm.heap.size → (w5.setCell ⟨wd.heap.size, j, none⟩ (.int .i64 (c + 1))).cell? ⟨b, o, none⟩ = wm.cell? ⟨b, o, none⟩ := fun b o h1 h2 =>
          ((World.cell?_of_block (Below.heap_setCell w5 _ _ b (by exact h1))).trans (hb5.cell (p := ⟨b, o, none⟩) (by show b < wr.heap.size; omega))).trans (HSM.out b o h1 h2)
        have HZ5 : wm.heap.size ≤ (w5.setCell ⟨wd.heap.size, j, none⟩ (.int .i64 (c + 1))).heap.size := by
          have := hb5.size
          simp [World.setCell]
          omega
        have HSM3 := Lib.hid HSM2
        clear hcc D hb5 rw5 hr5 hlen hj HSM2
        go_wp2
        go_roundw
        case rel => exact ⟨k + 1, by omega, by go_num, by rw [← HS2.out, List.map_set]; exact rw6.out, HSM3.out, HZ5, bl6⟩
        case measure => simp [intOf]; omega

end Go.Proofs.Ytkgohnlljbamlaa
