/- Picks: slices.DeleteFunc. -/
import Derived.Test.YtklilfbokpljkaaPqL
import Derived.Lib.SliceRun
namespace Go.Proofs.Ytklilfbokpljkaa
open Go.ChangeShapes Go.WideShapes Go.ChangeAt Go.RowKit Go.ChangeMaps Go.Sort Go.Shelf
set_option linter.unusedSimpArgs false
set_option linter.unusedVariables false

def keepP (pr : GPick → Bool) (xs : List GPick) : List GPick := xs.filter fun s => !pr s
theorem keep_snoc (pr : GPick → Bool) {xs : List GPick} {k : Nat} {x : GPick} (h : xs[k]? = some x) : keepP pr (xs.take (k + 1)) = keepP pr (xs.take k) ++ (if pr x = true then [] else [x]) := by
  unfold keepP
  rw [take_snoc h, List.filter_append]
  by_cases hp : pr x = true <;> simp [hp]
theorem keep_len (pr : GPick → Bool) (xs : List GPick) (k : Nat) : (keepP pr (xs.take k)).length ≤ k := by
  unfold keepP
  have := List.length_filter_le (fun s => !pr s) (xs.take k)
  rw [List.length_take] at this
  omega
theorem keep_none {pr : GPick → Bool} {xs : List GPick} (h : ∀ s ∈ xs, pr s = false) : keepP pr xs = xs := by
  unfold keepP
  rw [List.filter_eq_self]
  intro s hs
  rw [h s hs]; rfl
theorem keep_first {pr : GPick → Bool} {xs : List GPick} {k : Nat} {s : GPick} (hs : xs[k]? = some s) (hp : pr s = true) (hf : ∀ j t, xs[j]? = some t → j < k → pr t = false) : keepP pr (xs.take (k + 1)) = xs.take k := by
  rw [keep_snoc pr hs, if_pos hp, List.append_nil]
  refine keep_none fun t ht => ?_
  obtain ⟨j, hj⟩ := List.mem_iff_getElem?.1 ht
  rw [List.getElem?_take] at hj
  split at hj
  · exact hf j t hj (by assumption)
  · cases hj
/-- The first picks of a slice of one's own, as a part of it. -/
theorem own_take {w : World} {L B b off cap n : Nat} {xs : List GPick} (h : PickO w L B (.slice (some ⟨b, off, none⟩) n cap) xs) {k : Nat} (hk : k ≤ xs.length) : PickO w L B (.slice (some ⟨b, off, none⟩) k cap) (xs.take k) := by
  obtain ⟨ao, cap', e, h1, h2, h3, h4⟩ := h
  simp only [Value.slice.injEq] at e
  obtain ⟨rfl, -, rfl⟩ := e
  have hl : (xs.take k).length = k := by rw [List.length_take]; omega
  refine ⟨_, _, by rw [hl], by omega, h2, by simp, fun i x hx => ?_⟩
  have hi : i < k := by have := (List.getElem?_eq_some_iff.1 hx).1; omega
  rw [List.getElem?_take, if_pos hi] at hx
  exact h4 i x hx
theorem zero_pick (w : World) : (zeroValue 76).run Try.prog w = .ok (.agg #[.int .i64 0, .int .i64 0, .int .i64 0, .int .i64 0, .int .i64 0, .int .i64 0, .int .i64 0]) w := by
  obtain ⟨ti, hi, hz0, hz1, hz2⟩ := info_parts info_Pick
  simp [zeroValue, run_typeInfo w hi, hz0]
/-- clear, at picks. -/
theorem clear_picks (w : World) (ty : TypeId) (b o n c : Nat) (hn : 0 < n) (hc : ∀ j, j < n * 7 → (w.cell? ⟨b, o + j, none⟩).isSome = true) (hf : ∀ j, w.frozen? ⟨b, j, none⟩ = false) :
    (Builtin.clear_ #[63] ty #[.slice (some ⟨b, o, none⟩) n c]).run Try.prog w = .ok (.tuple #[]) (w.setCells b o ((List.replicate n zeroPick).flatMap encPick)) := by
  have hzc : (Builtin.zeroCells (.agg #[.int .i64 0, .int .i64 0, .int .i64 0, .int .i64 0, .int .i64 0, .int .i64 0, .int .i64 0] : Value).cells n).toList = (List.replicate n zeroPick).flatMap encPick := by
    apply List.ext_getElem?
    intro j
    by_cases hj : j < n * 7
    · have h1 : j = j / 7 * 7 + j % 7 := by omega
      have h2 := flat_get encPick_len (List.replicate n zeroPick) (j / 7) zeroPick (by rw [List.getElem?_replicate, if_pos (by omega)]) (j % 7) (by omega)
      rw [← h1] at h2
      rw [h2]
      have h3 : j % 7 < 7 := by omega
      have h4 : (.agg #[.int .i64 0, .int .i64 0, .int .i64 0, .int .i64 0, .int .i64 0, .int .i64 0, .int .i64 0] : Value).cells.size = 7 := rfl
      unfold Builtin.zeroCells
      rw [h4]
      rw [Array.getElem?_toList, Array.getElem?_map, Array.getElem?_range]
      rw [if_pos hj]
      have h5 : ∀ i < 7, some ((.agg #[.int .i64 0, .int .i64 0, .int .i64 0, .int .i64 0, .int .i64 0, .int .i64 0, .int .i64 0] : Value).cells[i]!) = (encPick zeroPick)[i]? := by
        intro i hi
        match i, hi with
        | 0, _ => rfl
        | 1, _ => rfl
        | 2, _ => rfl
        | 3, _ => rfl
        | 4, _ => rfl
        | 5, _ => rfl
        | 6, _ => rfl
      exact h5 _ h3
    · have a1 : ((List.replicate n zeroPick).flatMap encPick).length ≤ j := by rw [flat_len encPick_len, List.length_replicate]; omega
      have a2 : (Builtin.zeroCells (.agg #[.int .i64 0, .int .i64 0, .int .i64 0, .int .i64 0, .int .i64 0, .int .i64 0, .int .i64 0] : Value).cells n).toList.length ≤ j := by
        have h4 : (.agg #[.int .i64 0, .int .i64 0, .int .i64 0, .int .i64 0, .int .i64 0, .int .i64 0, .int .i64 0] : Value).cells.size = 7 := rfl
        unfold Builtin.zeroCells
        simp only [Array.length_toList, Array.size_map, Array.size_range]
        rw [h4]; omega
      rw [List.getElem?_eq_none a1, List.getElem?_eq_none a2]
  have hst := run_storeCells_cells (P := Try.prog) b o ((List.replicate n zeroPick).flatMap encPick) 0 w (fun j hj => by rw [Nat.add_zero]; exact hc j (by rwa [flat_len encPick_len, List.length_replicate] at hj)) (fun j _ => hf _) (fun v hv => onePick _ v hv)
  simp only [Nat.add_zero] at hst
  obtain ⟨m, rfl⟩ : ∃ m, n = m + 1 := ⟨n - 1, by omega⟩
  simp [Builtin.clear_, run_underlying Try.underlying63, zero_pick, hzc, hst]
theorem below_setCells {B b : Nat} {a : World} (hb : B ≤ b) : ∀ (vs : List Value) (o : Nat) (w : World), Below B a w → Below B a (w.setCells b o vs)
  | [], _, _, h => h
  | v :: vs, o, w, h => below_setCells hb vs (o + 1) _ (h.setCell (p := ⟨b, o, none⟩) hb v)
theorem size_setCells (b : Nat) : ∀ (vs : List Value) (o : Nat) (w : World), (w.setCells b o vs).heap.size = w.heap.size
  | [], _, _ => rfl
  | v :: vs, o, w => by rw [World.setCells, size_setCells b vs]; simp [World.setCell]
theorem own_clear {w : World} {L B b off cap p : Nat} {xs : List GPick} (h : PickO w L B (.slice (some ⟨b, off, none⟩) p cap) xs) (hl : xs.length = p) (vs : List Value) : PickO (w.setCells b (off + p * 7) vs) L B (.slice (some ⟨b, off, none⟩) p cap) xs := by
  obtain ⟨ao, cap', e, h1, h2, h3, h4⟩ := h
  simp only [Value.slice.injEq] at e
  obtain ⟨rfl, -, rfl⟩ := e
  refine ⟨_, _, by rw [hl], h1, h2, by simp, fun i x hx => ?_⟩
  have hi : i < p := by have := (List.getElem?_eq_some_iff.1 hx).1; omega
  obtain ⟨b', off', e, e1, e2, e5, e3, e4⟩ := h4 i x hx
  simp only [Option.some.injEq, Addr.mk.injEq, and_true] at e
  obtain ⟨rfl, rfl⟩ := e
  refine ⟨b, off, rfl, e1, e2, by rw [size_setCells]; exact e5, fun j c hj => ?_, fun o => by rw [World.frozen?_setCells]; exact e4 o⟩
  have hj7 : j < 7 := by have := (List.getElem?_eq_some_iff.1 hj).1; rwa [encPick_len] at this
  rw [World.cell?_setCells_out]
  · exact e3 j c hj
  · intro _ _
    refine Or.inl ?_
    show off + i * 7 + j < off + p * 7
    omega
set_option maxRecDepth 100000 in
set_option maxHeartbeats 4000000 in
theorem delFn (pr : GPick → Bool) (g : Nat) (lb : Array Value) (eg : ∀ args w, (callFunc g args).run Try.prog w = .ok (.enter g args) w) (xs : List GPick) (v : Value) (w : World) (L : Nat) (h : PickO w L w.heap.size v xs) (hL : L ≤ w.heap.size) (hn : xs.length ≤ 1048576) (hp : TestP g lb pr L w) :
    Calls Try.prog 174 #[v, .func (.func g) #[] lb] w fun e w' => ∃ v', e = .returned v' ∧ PickO w' L w'.heap.size v' (keepP pr xs) ∧ Below L w w' := by
  obtain ⟨r, hr⟩ := isPl_ex pr xs
  have C := Lib.hid (idxFn pr g lb eg xs v r w L w.heap.size h.lst (Nat.le_refl _) hL hn hr hp)
  have HP := Lib.hid hp
  have HO := Lib.hid h
  rcases hr with ⟨rfl, hnone⟩ | ⟨k, s, rfl, hs, hps, hf⟩
  · have HK : Hid (keepP pr xs = xs) := Lib.hid (keep_none hnone)
    obtain ⟨ao, cap, rfl⟩ := h.form
    clear hnone hp h
    go_enter Try.func174, Try.ntmps174
    go_wp2_with fail
    refine C.out.mono ?_
    rintro e w1 ⟨rfl, hb⟩
    go_wp2
    go_ret
    refine ⟨_, rfl, ?_, hb.mono hL⟩
    rw [HK.out]
    exact (HO.out.below hb).mono (Nat.le_refl _) hb.size
  · have hkl : k < xs.length := (List.getElem?_eq_some_iff.1 hs).1
    have HK := Lib.hid (keep_first hs hps hf)
    obtain ⟨ao, cap, e1, hcap, hmax, -, hc⟩ := h
    unfold maxLen at hmax
    obtain ⟨b, off, e2, hLb, hbB, hbs, -, -⟩ := hc k s hs
    subst e2 e1
    clear hc hp hf hps hs
    have hk0 : (0 : Int) ≤ (k : Int) := by omega
    have hk1 : (k : Int) < (xs.length : Int) := by omega
    have hk2 : ¬ (k : Int) = -1 := by omega
    have hk3 : ((k : Int) == -1) = false := (by first | (simp; done) | (simp; omega))
    go_enter Try.func174, Try.ntmps174
    go_wp2_with fail
    refine C.out.mono ?_
    rintro e w1 ⟨rfl, hb⟩
    have HO1 := Lib.hid (HO.out.below hb)
    have z1 := hb.size
    have BL := Lib.hid (hb.mono hL)
    clear hb C
    go_wp2
    go_loopw [5, 6] (fun i j wr => ∃ (p q : Nat) (ys : List GPick), i = .int .i64 p ∧ j = .int .i64 q ∧ p < q ∧ q ≤ xs.length ∧ PickO wr L wr.heap.size (.slice (some ⟨b, off, none⟩) xs.length cap) ys ∧ ys.length = xs.length ∧ Hid (ys.take p = keepP pr (xs.take q)) ∧ Hid (ys.drop q = xs.drop q) ∧ w1.heap.size ≤ wr.heap.size ∧ Below L w wr)
      (fun _ j _ => xs.length - (intOf j).toNat)
    case atStart => exact ⟨k, k + 1, xs, rfl, by go_num, by omega, by omega, HO1.out.mono (Nat.le_refl _) z1, rfl, Lib.hid (by rw [HK.out]), Lib.hid rfl, Nat.le_refl _, BL.out⟩
    case round =>
      obtain ⟨p, q, ys, rfl, rfl, hpq, hq, hrow, hyl, HT, HD, hz, hbl⟩ := hrel
      have HYL := Lib.hid hyl
      clear hyl
      have p0 : (0 : Int) ≤ (p : Int) := by omega
      have p1 : (p : Int) < (xs.length : Int) := by omega
      have q0 : (0 : Int) ≤ (q : Int) := by omega
      by_cases hlt : q < xs.length
      case neg =>
        obtain rfl : q = xs.length := by omega
        have HT2 : Hid (ys.take p = keepP pr xs) := Lib.hid (by rw [HT.out, List.take_length])
        obtain ⟨s0, hs0⟩ := get_of_lt (l := ys) (k := 0) (by rw [HYL.out]; omega)
        obtain ⟨-, -, hbz, -, tf⟩ := hrow.at hs0
        have hcl : ∀ ty, (Builtin.clear_ #[63] ty #[.slice (some ⟨b, off + p * 7, none⟩) (xs.length - p) (cap - p)]).run Try.prog wr = .ok (.tuple #[]) (wr.setCells b (off + p * 7) ((List.replicate (xs.length - p) zeroPick).flatMap encPick)) := fun ty => clear_picks wr ty b (off + p * 7) (xs.length - p) (cap - p) (by omega) (fun j hj => by
          obtain ⟨s1, hs1⟩ := get_of_lt (l := ys) (k := p + j / 7) (by rw [HYL.out]; omega)
          obtain ⟨-, -, -, tc, -⟩ := hrow.at hs1
          obtain ⟨u, hu⟩ := get_of_lt (l := encPick s1) (k := j % 7) (by rw [encPick_len]; omega)
          have := tc (j % 7) u hu
          rw [show off + p * 7 + j = off + (p + j / 7) * 7 + j % 7 by omega, this]; rfl) tf
        have HW := Lib.hid (own_clear (own_take hrow (k := p) (by rw [HYL.out]; omega)) (by rw [List.length_take, HYL.out]; omega) ((List.replicate (xs.length - p) zeroPick).flatMap encPick))
        have HB := Lib.hid (below_setCells hLb ((List.replicate (xs.length - p) zeroPick).flatMap encPick) (off + p * 7) wr hbl)
        have HZ : Hid ((wr.setCells b (off + p * 7) ((List.replicate (xs.length - p) zeroPick).flatMap encPick)).heap.size = wr.heap.size) := Lib.hid (size_setCells _ _ _ _)
        clear hs0 hrow tf
        generalize (List.replicate (xs.length - p) zeroPick).flatMap encPick = zs at *
        go_wp2
        go_ret
        refine ⟨_, rfl, ?_, HB.out⟩
        rw [← HT2.out, HZ.out]
        exact HW.out
      have q1 : (q : Int) < (xs.length : Int) := by omega
      obtain ⟨x, hx⟩ := get_of_lt hlt
      have hy : ys[q]? = some x := by
        have h1 := congrArg (fun l => l[0]?) HD.out
        simp only [List.getElem?_drop, Nat.add_zero] at h1
        rw [h1, hx]
      obtain ⟨-, -, hbz, tc, tf⟩ := hrow.at hy
      have c0 : wr.cell? ⟨b, off + q * 7, none⟩ = some (.int .i64 x.pId) := tc 0 _ rfl
      have c1 : wr.cell? ⟨b, off + q * 7 + 1, none⟩ = some (.int .i64 x.pStation) := tc 1 _ rfl
      have c2 : wr.cell? ⟨b, off + q * 7 + 2, none⟩ = some (.int .i64 x.pWave) := tc 2 _ rfl
      have c3 : wr.cell? ⟨b, off + q * 7 + 3, none⟩ = some (.int .i64 x.pTick) := tc 3 _ rfl
      have c4 : wr.cell? ⟨b, off + q * 7 + 4, none⟩ = some (.int .i64 x.pError) := tc 4 _ rfl
      have c5 : wr.cell? ⟨b, off + q * 7 + 5, none⟩ = some (.int .i64 x.pBy) := tc 5 _ rfl
      have c6 : wr.cell? ⟨b, off + q * 7 + 6, none⟩ = some (.int .i64 x.pAfter) := tc 6 _ rfl
      have HX := Lib.hid hx
      have HY := Lib.hid hy
      clear hx hy tc tf
      have N1 := below_cell (w := wr) (Nat.le_refl _) (.cells #[.int .i64 x.pId, .int .i64 x.pStation, .int .i64 x.pWave, .int .i64 x.pTick, .int .i64 x.pError, .int .i64 x.pBy, .int .i64 x.pAfter] 76)
      have bx : Bx (wr.alloc (.cells #[.int .i64 x.pId, .int .i64 x.pStation, .int .i64 x.pWave, .int .i64 x.pTick, .int .i64 x.pError, .int .i64 x.pBy, .int .i64 x.pAfter] 76)) wr.heap.size (encPick x) := Bx.new wr (encPick x) 76
      have hLz : L ≤ wr.heap.size := by omega
      have hcall := HP.out (wr.alloc (.cells #[.int .i64 x.pId, .int .i64 x.pStation, .int .i64 x.pWave, .int .i64 x.pTick, .int .i64 x.pError, .int .i64 x.pBy, .int .i64 x.pAfter] 76)) x (hbl.trans (N1.mono hLz))
      have hsnoc := keep_snoc pr HX.out
      cases hpx : pr x with
      | true =>
        rw [hpx] at hcall hsnoc
        rw [if_pos rfl, List.append_nil] at hsnoc
        have HT2 : Hid (ys.take p = keepP pr (xs.take (q + 1))) := Lib.hid (by rw [hsnoc]; exact HT.out)
        have HD2 : Hid (ys.drop (q + 1) = xs.drop (q + 1)) := Lib.hid (by rw [← List.drop_drop, ← List.drop_drop, HD.out])
        clear hpx hsnoc
        go_wp2_with (go_at_fn g; refine hcall.mono ?_; rintro e w2 ⟨rfl, hb2⟩)
        have N2 : Below wr.heap.size wr w2 := N1.trans (hb2.mono N1.size)
        go_roundw
        case rel => exact ⟨p, q + 1, ys, rfl, by go_num, by omega, by omega, (hrow.below N2).mono (Nat.le_refl _) N2.size, HYL.out, HT2, HD2, by have := N2.size; omega, hbl.trans (N2.mono hLz)⟩
        case measure => simp [intOf]; omega
      | false =>
        rw [hpx] at hcall hsnoc
        rw [if_neg (by simp)] at hsnoc
        have HS := Lib.hid hsnoc
        clear hpx hsnoc
        go_wp2_with (
          go_at_fn g
          refine hcall.mono ?_
          rintro e w2 ⟨rfl, hb2⟩
          have N2 : Below wr.heap.size wr w2 := N1.trans (hb2.mono N1.size)
          have bx2 := bx.below hb2
          have hr2 := (hrow.below N2).mono (Nat.le_refl _) N2.size
          have z2 := N2.size
          obtain ⟨y, hy⟩ : ∃ y, ys[p]? = some y := get_of_lt (by rw [HYL.out]; omega)
          obtain ⟨-, -, hbz2, tc2, tf2⟩ := hr2.at hy
          have e0 : w2.cell? ⟨wr.heap.size, 0, none⟩ = some (.int .i64 x.pId) := bx2.2 0 _ rfl
          have e1 : w2.cell? ⟨wr.heap.size, 1, none⟩ = some (.int .i64 x.pStation) := bx2.2 1 _ rfl
          have e2 : w2.cell? ⟨wr.heap.size, 2, none⟩ = some (.int .i64 x.pWave) := bx2.2 2 _ rfl
          have e3 : w2.cell? ⟨wr.heap.size, 3, none⟩ = some (.int .i64 x.pTick) := bx2.2 3 _ rfl
          have e4 : w2.cell? ⟨wr.heap.size, 4, none⟩ = some (.int .i64 x.pError) := bx2.2 4 _ rfl
          have e5 : w2.cell? ⟨wr.heap.size, 5, none⟩ = some (.int .i64 x.pBy) := bx2.2 5 _ rfl
          have e6 : w2.cell? ⟨wr.heap.size, 6, none⟩ = some (.int .i64 x.pAfter) := bx2.2 6 _ rfl
          have o0 : w2.cell? ⟨b, off + p * 7, none⟩ = some (.int .i64 y.pId) := tc2 0 _ rfl
          have o1 : w2.cell? ⟨b, off + p * 7 + 1, none⟩ = some (.int .i64 y.pStation) := tc2 1 _ rfl
          have o2 : w2.cell? ⟨b, off + p * 7 + 2, none⟩ = some (.int .i64 y.pWave) := tc2 2 _ rfl
          have o3 : w2.cell? ⟨b, off + p * 7 + 3, none⟩ = some (.int .i64 y.pTick) := tc2 3 _ rfl
          have o4 : w2.cell? ⟨b, off + p * 7 + 4, none⟩ = some (.int .i64 y.pError) := tc2 4 _ rfl
          have o5 : w2.cell? ⟨b, off + p * 7 + 5, none⟩ = some (.int .i64 y.pBy) := tc2 5 _ rfl
          have o6 : w2.cell? ⟨b, off + p * 7 + 6, none⟩ = some (.int .i64 y.pAfter) := tc2 6 _ rfl
          have hr3 := hr2.put encPick_len rfl hy rfl x
          have B3 := below_putCells (hbl.trans (N2.mono hLz)) hLb (off + p * 7) (encPick x) 0
          have HYY := Lib.hid hy
          have HR3 := Lib.hid hr3
          have HT2 : Hid ((ys.set p x).take (p + 1) = keepP pr (xs.take (q + 1))) := Lib.hid (by
            rw [HS.out, take_snoc (l := ys.set p x) (x := x) (by rw [List.getElem?_set_self]; rw [HYL.out]; omega), List.take_set_of_le (Nat.le_refl _), HT.out])
          have HD2 : Hid ((ys.set p x).drop (q + 1) = xs.drop (q + 1)) := Lib.hid (by
            rw [List.drop_set_of_lt (by omega), ← List.drop_drop, ← List.drop_drop, HD.out])
          clear hy tc2 hr2 hr3 hrow bx bx2)
        go_roundw
        case rel =>
          refine ⟨p + 1, q + 1, ys.set p x, by go_num, by go_num, by omega, by omega, ?_, by simp [HYL.out], HT2, HD2, ?_, B3⟩
          · exact HR3.out.mono (Nat.le_refl _) (by simp [World.setCell])
          · simp [World.setCell]; omega
        case measure => simp [intOf]; omega
end Go.Proofs.Ytklilfbokpljkaa
