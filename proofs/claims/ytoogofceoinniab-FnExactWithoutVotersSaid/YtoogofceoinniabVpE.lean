/- Arrival: slices.IndexFunc and slices.DeleteFunc. -/
import Derived.Test.YtoogofceoinniabVpC
import Derived.Lib.SliceRun
namespace Go.Proofs.Ytoogofceoinniab
open Go.ChangeShapes Go.WideShapes Go.ChangeAt Go.RowKit Go.ChangeMaps Go.Sort Go.Shelf
set_option linter.unusedSimpArgs false
set_option linter.unusedVariables false
set_option linter.unusedSimpArgs false
set_option linter.unusedVariables false

/-- The first place of a pick that a test takes, or -1. -/
def isPl (pr : GArrival → Bool) (xs : List GArrival) (r : Int) : Prop := (r = -1 ∧ ∀ s ∈ xs, pr s = false) ∨ ∃ (k : Nat) (s : GArrival), r = k ∧ xs[k]? = some s ∧ pr s = true ∧ ∀ j t, xs[j]? = some t → j < k → pr t = false
theorem isPl_ex (pr : GArrival → Bool) (xs : List GArrival) : ∃ r, isPl pr xs r := by
  cases h : xs.find? pr with
  | none =>
    rw [List.find?_eq_none] at h
    exact ⟨-1, Or.inl ⟨rfl, fun s hs => by have := h s hs; simpa using this⟩⟩
  | some s =>
    rw [List.find?_eq_some_iff_getElem] at h
    obtain ⟨he, k, hl, hv, hf⟩ := h
    refine ⟨k, Or.inr ⟨k, s, rfl, List.getElem?_eq_some_iff.2 ⟨hl, hv⟩, he, fun j t ht hj => ?_⟩⟩
    have := hf j hj
    obtain ⟨h1, h2⟩ := List.getElem?_eq_some_iff.1 ht
    rw [h2] at this
    simpa using this
theorem isPl_none {pr : GArrival → Bool} {xs : List GArrival} {r : Int} (h : isPl pr xs r) (hn : ∀ s ∈ xs, pr s = false) : r = -1 := by
  rcases h with ⟨h1, _⟩ | ⟨k, s, _, h2, h3, _⟩
  · exact h1
  · rw [hn s (List.mem_of_getElem? h2)] at h3; cases h3
theorem isPl_first {pr : GArrival → Bool} {xs : List GArrival} {r : Int} {k : Nat} {s : GArrival} (h : isPl pr xs r) (hs : xs[k]? = some s) (hp : pr s = true) (hf : ∀ j t, xs[j]? = some t → j < k → pr t = false) : r = k := by
  rcases h with ⟨_, h2⟩ | ⟨j, t, h1, h2, h3, h4⟩
  · rw [h2 s (List.mem_of_getElem? hs)] at hp; cases hp
  · rcases Nat.lt_trichotomy j k with e | e | e
    · rw [hf j t h2 e] at h3; cases h3
    · rw [h1, e]
    · rw [h4 k s hs e] at hp; cases hp
/-- What is asked of a test: it answers wherever I holds, and turns nothing that is there; I stays where blocks are added. -/
def TestI (D : GArrival → Prop) (g : Nat) (lb : Array Value) (pr : GArrival → Bool) (I : World → Prop) : Prop :=
  ∀ (W : World) (s : GArrival), D s → I W → Calls Try.prog g (#[.agg #[.int .i64 s.pId, .int .i64 s.pX, .int .i64 s.pY, .int .i64 s.pTick, .int .i64 s.pError]] ++ lb) W fun e w' => e = .returned (.bool (pr s)) ∧ Below W.heap.size W w'
def StayI (I : World → Prop) : Prop := ∀ W W', I W → Below W.heap.size W W' → I W'
theorem putCells_I {I : World → Prop} {b ad : Nat} (h : ∀ W o u, I W → I (W.setCell ⟨b, o, none⟩ u)) : ∀ (cs : List Value) (W : World) (s : Nat), I W → I (putCells W b ad cs s)
  | [], _, _, hi => hi
  | c :: cs, W, s, hi => putCells_I h cs _ (s + 1) (h W (ad + s) c hi)
set_option maxRecDepth 100000 in
set_option maxHeartbeats 2000000 in
theorem idxFn (D : GArrival → Prop) (I : World → Prop) (pr : GArrival → Bool) (g : Nat) (lb : Array Value) (eg : ∀ args w, (callFunc g args).run Try.prog w = .ok (.enter g args) w) (xs : List GArrival) (v : Value) (r : Int) (w : World) (L B : Nat) (h : ArrivalL w B v xs) (hB : B ≤ w.heap.size) (hL : L ≤ w.heap.size) (hn : xs.length ≤ 1048576) (hr : isPl pr xs r) (hp : TestI D g lb pr I) (hD : ∀ s ∈ xs, D s) (hst : StayI I) (hi0 : I w) :
    Calls Try.prog 109 #[v, .func (.func g) #[] lb] w fun e w' => e = .returned (.int .i64 r) ∧ Below w.heap.size w w' := by
  obtain ⟨ao, cap, rfl, hcap, hmax, hnn, hc⟩ := h
  have HC := Lib.hid hc
  have HR := Lib.hid hr
  have HP := Lib.hid hp
  have HD0 := Lib.hid hD
  have HST := Lib.hid hst
  have HI0 := Lib.hid hi0
  clear hc hnn hr hp hD hst hi0
  go_enter Try.func109, Try.ntmps109
  go_wp2
  go_loopw [8] (fun i wr => ∃ (k : Nat), k ≤ xs.length ∧ i = .int .i64 k ∧ Hid (∀ j s, xs[j]? = some s → j < k → pr s = false) ∧ Below w.heap.size w wr)
    (fun i _ => xs.length - (intOf i).toNat)
  case atStart => exact ⟨0, Nat.zero_le _, rfl, Lib.hid (fun _ _ _ h => by omega), Below.refl _ _⟩
  case round =>
    obtain ⟨k, hk, rfl, HN, hbl⟩ := hrel
    have hsz := hbl.size
    by_cases hlt : k < xs.length
    case neg =>
      obtain rfl : k = xs.length := by omega
      have HX : Hid (-1 = r) := Lib.hid (isPl_none HR.out (fun s hs => by
        obtain ⟨j, hj⟩ := List.mem_iff_getElem?.1 hs
        exact HN.out j s hj (List.getElem?_eq_some_iff.1 hj).1)).symm
      go_wp2
      go_ret
      exact ⟨ret_int HX.out, hbl⟩
    obtain ⟨s, hs⟩ := get_of_lt hlt
    obtain ⟨b, off, rfl, hb, hcell⟩ := HC.out k s hs
    have c0 : wr.cell? ⟨b, off + k * 5, none⟩ = some (.int .i64 s.pId) := cellOf hbl (by omega) (hcell 0 _ rfl)
    have c1 : wr.cell? ⟨b, off + k * 5 + 1, none⟩ = some (.int .i64 s.pX) := cellOf hbl (by omega) (hcell 1 _ rfl)
    have c2 : wr.cell? ⟨b, off + k * 5 + 2, none⟩ = some (.int .i64 s.pY) := cellOf hbl (by omega) (hcell 2 _ rfl)
    have c3 : wr.cell? ⟨b, off + k * 5 + 3, none⟩ = some (.int .i64 s.pTick) := cellOf hbl (by omega) (hcell 3 _ rfl)
    have c4 : wr.cell? ⟨b, off + k * 5 + 4, none⟩ = some (.int .i64 s.pError) := cellOf hbl (by omega) (hcell 4 _ rfl)
    have HS := Lib.hid hs
    have hk1 : (k : Int) < (xs.length : Int) := by omega
    clear hs hcell
    have hcall := HP.out wr s (HD0.out s (List.mem_of_getElem? HS.out)) (HST.out w wr HI0.out hbl)
    cases hq : pr s with
    | true =>
      rw [hq] at hcall
      have HX : Hid ((k : Int) = r) := Lib.hid (isPl_first HR.out HS.out hq HN.out).symm
      clear hq
      go_wp2_with (go_at_fn g; refine hcall.mono ?_; rintro e w2 ⟨rfl, hb2⟩)
      go_ret
      exact ⟨ret_int HX.out, hbl.trans (hb2.mono hsz)⟩
    | false =>
      rw [hq] at hcall
      have HN2 : Hid (∀ j t, xs[j]? = some t → j < k + 1 → pr t = false) := Lib.hid (fun j t ht hj => by
        by_cases e : j = k
        · subst e; have := HS.out; rw [ht] at this; cases this; exact hq
        · exact HN.out j t ht (by omega))
      clear hq
      go_wp2_with (go_at_fn g; refine hcall.mono ?_; rintro e w2 ⟨rfl, hb2⟩)
      go_roundw
      case rel => exact ⟨k + 1, by omega, by go_num, HN2, hbl.trans (hb2.mono hsz)⟩
      case measure => simp [intOf]; omega

def keepP (pr : GArrival → Bool) (xs : List GArrival) : List GArrival := xs.filter fun s => !pr s
theorem keep_snoc (pr : GArrival → Bool) {xs : List GArrival} {k : Nat} {x : GArrival} (h : xs[k]? = some x) : keepP pr (xs.take (k + 1)) = keepP pr (xs.take k) ++ (if pr x = true then [] else [x]) := by
  unfold keepP
  rw [take_snoc h, List.filter_append]
  by_cases hp : pr x = true <;> simp [hp]
theorem keep_len (pr : GArrival → Bool) (xs : List GArrival) (k : Nat) : (keepP pr (xs.take k)).length ≤ k := by
  unfold keepP
  have := List.length_filter_le (fun s => !pr s) (xs.take k)
  rw [List.length_take] at this
  omega
theorem keep_none {pr : GArrival → Bool} {xs : List GArrival} (h : ∀ s ∈ xs, pr s = false) : keepP pr xs = xs := by
  unfold keepP
  rw [List.filter_eq_self]
  intro s hs
  rw [h s hs]; rfl
theorem keep_first {pr : GArrival → Bool} {xs : List GArrival} {k : Nat} {s : GArrival} (hs : xs[k]? = some s) (hp : pr s = true) (hf : ∀ j t, xs[j]? = some t → j < k → pr t = false) : keepP pr (xs.take (k + 1)) = xs.take k := by
  rw [keep_snoc pr hs, if_pos hp, List.append_nil]
  refine keep_none fun t ht => ?_
  obtain ⟨j, hj⟩ := List.mem_iff_getElem?.1 ht
  rw [List.getElem?_take] at hj
  split at hj
  · exact hf j t hj (by assumption)
  · cases hj
/-- The first picks of a slice of one's own, as a part of it. -/
theorem own_take {w : World} {L B b off cap n : Nat} {xs : List GArrival} (h : ArrivalO w L B (.slice (some ⟨b, off, none⟩) n cap) xs) {k : Nat} (hk : k ≤ xs.length) : ArrivalO w L B (.slice (some ⟨b, off, none⟩) k cap) (xs.take k) := by
  obtain ⟨ao, cap', e, h1, h2, h3, h4⟩ := h
  simp only [Value.slice.injEq] at e
  obtain ⟨rfl, -, rfl⟩ := e
  have hl : (xs.take k).length = k := by rw [List.length_take]; omega
  refine ⟨_, _, by rw [hl], by omega, h2, by simp, fun i x hx => ?_⟩
  have hi : i < k := by have := (List.getElem?_eq_some_iff.1 hx).1; omega
  rw [List.getElem?_take, if_pos hi] at hx
  exact h4 i x hx
theorem zero_Arrival (w : World) : (zeroValue 28).run Try.prog w = .ok (.agg #[.int .i64 0, .int .i64 0, .int .i64 0, .int .i64 0, .int .i64 0]) w := by
  obtain ⟨ti, hi, hz0, hz1, hz2⟩ := info_parts info_Arrival
  simp [zeroValue, run_typeInfo w hi, hz0]
/-- clear, at picks. -/
theorem clear_Arrival (w : World) (ty : TypeId) (b o n c : Nat) (hn : 0 < n) (hc : ∀ j, j < n * 5 → (w.cell? ⟨b, o + j, none⟩).isSome = true) (hf : ∀ j, w.frozen? ⟨b, j, none⟩ = false) :
    (Builtin.clear_ #[37] ty #[.slice (some ⟨b, o, none⟩) n c]).run Try.prog w = .ok (.tuple #[]) (w.setCells b o ((List.replicate n zeroArrival).flatMap encArrival)) := by
  have hzc : (Builtin.zeroCells (.agg #[.int .i64 0, .int .i64 0, .int .i64 0, .int .i64 0, .int .i64 0] : Value).cells n).toList = (List.replicate n zeroArrival).flatMap encArrival := by
    apply List.ext_getElem?
    intro j
    by_cases hj : j < n * 5
    · have h1 : j = j / 5 * 5 + j % 5 := by omega
      have h2 := flat_get encArrival_len (List.replicate n zeroArrival) (j / 5) zeroArrival (by rw [List.getElem?_replicate, if_pos (by omega)]) (j % 5) (by omega)
      rw [← h1] at h2
      rw [h2]
      have h3 : j % 5 < 5 := by omega
      have h4 : (.agg #[.int .i64 0, .int .i64 0, .int .i64 0, .int .i64 0, .int .i64 0] : Value).cells.size = 5 := rfl
      unfold Builtin.zeroCells
      rw [h4]
      rw [Array.getElem?_toList, Array.getElem?_map, Array.getElem?_range]
      rw [if_pos hj]
      have h5 : ∀ i < 5, some ((.agg #[.int .i64 0, .int .i64 0, .int .i64 0, .int .i64 0, .int .i64 0] : Value).cells[i]!) = (encArrival zeroArrival)[i]? := by
        intro i hi
        match i, hi with
        | 0, _ => rfl
        | 1, _ => rfl
        | 2, _ => rfl
        | 3, _ => rfl
        | 4, _ => rfl
      exact h5 _ h3
    · have a1 : ((List.replicate n zeroArrival).flatMap encArrival).length ≤ j := by rw [flat_len encArrival_len, List.length_replicate]; omega
      have a2 : (Builtin.zeroCells (.agg #[.int .i64 0, .int .i64 0, .int .i64 0, .int .i64 0, .int .i64 0] : Value).cells n).toList.length ≤ j := by
        have h4 : (.agg #[.int .i64 0, .int .i64 0, .int .i64 0, .int .i64 0, .int .i64 0] : Value).cells.size = 5 := rfl
        unfold Builtin.zeroCells
        simp only [Array.length_toList, Array.size_map, Array.size_range]
        rw [h4]; omega
      rw [List.getElem?_eq_none a1, List.getElem?_eq_none a2]
  have hst := run_storeCells_cells (P := Try.prog) b o ((List.replicate n zeroArrival).flatMap encArrival) 0 w (fun j hj => by rw [Nat.add_zero]; exact hc j (by rwa [flat_len encArrival_len, List.length_replicate] at hj)) (fun j _ => hf _) (fun v hv => oneArrival _ v hv)
  simp only [Nat.add_zero] at hst
  obtain ⟨m, rfl⟩ : ∃ m, n = m + 1 := ⟨n - 1, by omega⟩
  simp [Builtin.clear_, run_underlying Try.underlying37, zero_Arrival, hzc, hst]
theorem below_setCells {B b : Nat} {a : World} (hb : B ≤ b) : ∀ (vs : List Value) (o : Nat) (w : World), Below B a w → Below B a (w.setCells b o vs)
  | [], _, _, h => h
  | v :: vs, o, w, h => below_setCells hb vs (o + 1) _ (h.setCell (p := ⟨b, o, none⟩) hb v)
theorem size_setCells (b : Nat) : ∀ (vs : List Value) (o : Nat) (w : World), (w.setCells b o vs).heap.size = w.heap.size
  | [], _, _ => rfl
  | v :: vs, o, w => by rw [World.setCells, size_setCells b vs]; simp [World.setCell]
theorem own_clear {w : World} {L B b off cap p : Nat} {xs : List GArrival} (h : ArrivalO w L B (.slice (some ⟨b, off, none⟩) p cap) xs) (hl : xs.length = p) (vs : List Value) : ArrivalO (w.setCells b (off + p * 5) vs) L B (.slice (some ⟨b, off, none⟩) p cap) xs := by
  obtain ⟨ao, cap', e, h1, h2, h3, h4⟩ := h
  simp only [Value.slice.injEq] at e
  obtain ⟨rfl, -, rfl⟩ := e
  refine ⟨_, _, by rw [hl], h1, h2, by simp, fun i x hx => ?_⟩
  have hi : i < p := by have := (List.getElem?_eq_some_iff.1 hx).1; omega
  obtain ⟨b', off', e, e1, e2, e5, e3, e4⟩ := h4 i x hx
  simp only [Option.some.injEq, Addr.mk.injEq, and_true] at e
  obtain ⟨rfl, rfl⟩ := e
  refine ⟨b, off, rfl, e1, e2, by rw [size_setCells]; exact e5, fun j c hj => ?_, fun o => by rw [World.frozen?_setCells]; exact e4 o⟩
  have hj7 : j < 5 := by have := (List.getElem?_eq_some_iff.1 hj).1; rwa [encArrival_len] at this
  rw [World.cell?_setCells_out]
  · exact e3 j c hj
  · intro _ _
    refine Or.inl ?_
    show off + i * 5 + j < off + p * 5
    omega
set_option maxRecDepth 100000 in
set_option maxHeartbeats 4000000 in
theorem delFn (D : GArrival → Prop) (I : World → Prop) (pr : GArrival → Bool) (g : Nat) (lb : Array Value) (eg : ∀ args w, (callFunc g args).run Try.prog w = .ok (.enter g args) w) (xs : List GArrival) (v : Value) (w : World) (L : Nat) (h : ArrivalO w L w.heap.size v xs) (hL : L ≤ w.heap.size) (hn : xs.length ≤ 1048576) (hp : TestI D g lb pr I) (hD : ∀ s ∈ xs, D s) (hst : StayI I) (hi0 : I w) (hset : ∀ (W : World) (b off cap o : Nat) (u : Value), 0 < xs.length → v = .slice (some ⟨b, off, none⟩) xs.length cap → I W → I (W.setCell ⟨b, o, none⟩ u)) :
    Calls Try.prog 101 #[v, .func (.func g) #[] lb] w fun e w' => ∃ v', e = .returned v' ∧ ArrivalO w' L w'.heap.size v' (keepP pr xs) ∧ Below L w w' := by
  obtain ⟨r, hr⟩ := isPl_ex pr xs
  have C := Lib.hid (idxFn D I pr g lb eg xs v r w L w.heap.size h.lst (Nat.le_refl _) hL hn hr hp hD hst hi0)
  have HP := Lib.hid hp
  have HD0 := Lib.hid hD
  have HST := Lib.hid hst
  have HI0 := Lib.hid hi0
  have HO := Lib.hid h
  rcases hr with ⟨rfl, hnone⟩ | ⟨k, s, rfl, hs, hps, hf⟩
  · have HK : Hid (keepP pr xs = xs) := Lib.hid (keep_none hnone)
    obtain ⟨ao, cap, rfl⟩ := h.form
    clear hnone hp h hD hst hi0 hset
    go_enter Try.func101, Try.ntmps101
    go_wp2_with fail
    refine C.out.mono ?_
    rintro e w1 ⟨rfl, hb⟩
    go_wp2
    go_ret
    refine ⟨_, rfl, ?_, hb.mono hL⟩
    rw [HK.out]
    exact (HO.out.below hb).mono (Nat.le_refl _) hb.size
  · have hkl : k < xs.length := (List.getElem?_eq_some_iff.1 hs).1
    have HK := Lib.hid (keep_first hs hps hf)
    obtain ⟨ao, cap, e1, hcap, hmax, -, hc⟩ := h
    unfold maxLen at hmax
    obtain ⟨b, off, e2, hLb, hbB, hbs, -, -⟩ := hc k s hs
    subst e2 e1
    have HSET : Hid (∀ W o u, I W → I (W.setCell ⟨b, o, none⟩ u)) := Lib.hid (fun W o u hi => hset W b off cap o u (by omega) rfl hi)
    clear hc hp hf hps hs hD hst hi0 hset
    have hk0 : (0 : Int) ≤ (k : Int) := by omega
    have hk1 : (k : Int) < (xs.length : Int) := by omega
    have hk2 : ¬ (k : Int) = -1 := by omega
    have hk3 : ((k : Int) == -1) = false := (by first | (simp; done) | (simp; omega))
    go_enter Try.func101, Try.ntmps101
    go_wp2_with fail
    refine C.out.mono ?_
    rintro e w1 ⟨rfl, hb⟩
    have HO1 := Lib.hid (HO.out.below hb)
    have z1 := hb.size
    have BL := Lib.hid (hb.mono hL)
    have HI1 : Hid (I w1) := Lib.hid (HST.out w w1 HI0.out hb)
    clear hb C
    go_wp2
    go_loopw [5, 6] (fun i j wr => ∃ (p q : Nat) (ys : List GArrival), i = .int .i64 p ∧ j = .int .i64 q ∧ p < q ∧ q ≤ xs.length ∧ ArrivalO wr L wr.heap.size (.slice (some ⟨b, off, none⟩) xs.length cap) ys ∧ ys.length = xs.length ∧ Hid (ys.take p = keepP pr (xs.take q)) ∧ Hid (ys.drop q = xs.drop q) ∧ w1.heap.size ≤ wr.heap.size ∧ Hid (I wr) ∧ Below L w wr)
      (fun _ j _ => xs.length - (intOf j).toNat)
    case atStart => exact ⟨k, k + 1, xs, rfl, by go_num, by omega, by omega, HO1.out.mono (Nat.le_refl _) z1, rfl, Lib.hid (by rw [HK.out]), Lib.hid rfl, Nat.le_refl _, HI1, BL.out⟩
    case round =>
      obtain ⟨p, q, ys, rfl, rfl, hpq, hq, hrow, hyl, HT, HD, hz, HIW, hbl⟩ := hrel
      have HYL := Lib.hid hyl
      clear hyl
      have p0 : (0 : Int) ≤ (p : Int) := by omega
      have p1 : (p : Int) < (xs.length : Int) := by omega
      have q0 : (0 : Int) ≤ (q : Int) := by omega
      by_cases hlt : q < xs.length
      case neg =>
        obtain rfl : q = xs.length := by omega
        have HT2 : Hid (ys.take p = keepP pr xs) := Lib.hid (by rw [HT.out, List.take_length])
        obtain ⟨s0, hs0⟩ := get_of_lt (l := ys) (k := 0) (by rw [HYL.out]; omega)
        obtain ⟨-, -, hbz, -, tf⟩ := hrow.at hs0
        have hcl : ∀ ty, (Builtin.clear_ #[37] ty #[.slice (some ⟨b, off + p * 5, none⟩) (xs.length - p) (cap - p)]).run Try.prog wr = .ok (.tuple #[]) (wr.setCells b (off + p * 5) ((List.replicate (xs.length - p) zeroArrival).flatMap encArrival)) := fun ty => clear_Arrival wr ty b (off + p * 5) (xs.length - p) (cap - p) (by omega) (fun j hj => by
          obtain ⟨s1, hs1⟩ := get_of_lt (l := ys) (k := p + j / 5) (by rw [HYL.out]; omega)
          obtain ⟨-, -, -, tc, -⟩ := hrow.at hs1
          obtain ⟨u, hu⟩ := get_of_lt (l := encArrival s1) (k := j % 5) (by rw [encArrival_len]; omega)
          have := tc (j % 5) u hu
          rw [show off + p * 5 + j = off + (p + j / 5) * 5 + j % 5 by omega, this]; rfl) tf
        have HW := Lib.hid (own_clear (own_take hrow (k := p) (by rw [HYL.out]; omega)) (by rw [List.length_take, HYL.out]; omega) ((List.replicate (xs.length - p) zeroArrival).flatMap encArrival))
        have HB := Lib.hid (below_setCells hLb ((List.replicate (xs.length - p) zeroArrival).flatMap encArrival) (off + p * 5) wr hbl)
        have HZ : Hid ((wr.setCells b (off + p * 5) ((List.replicate (xs.length - p) zeroArrival).flatMap encArrival)).heap.size = wr.heap.size) := Lib.hid (size_setCells _ _ _ _)
        clear hs0 hrow tf
        generalize (List.replicate (xs.length - p) zeroArrival).flatMap encArrival = zs at *
        go_wp2
        go_ret
        refine ⟨_, rfl, ?_, HB.out⟩
        rw [← HT2.out, HZ.out]
        exact HW.out
      have q1 : (q : Int) < (xs.length : Int) := by omega
      obtain ⟨x, hx⟩ := get_of_lt hlt
      have hy : ys[q]? = some x := by
        have h1 := congrArg (fun l => l[0]?) HD.out
        simp only [List.getElem?_drop, Nat.add_zero] at h1
        rw [h1, hx]
      obtain ⟨-, -, hbz, tc, tf⟩ := hrow.at hy
      have c0 : wr.cell? ⟨b, off + q * 5, none⟩ = some (.int .i64 x.pId) := tc 0 _ rfl
      have c1 : wr.cell? ⟨b, off + q * 5 + 1, none⟩ = some (.int .i64 x.pX) := tc 1 _ rfl
      have c2 : wr.cell? ⟨b, off + q * 5 + 2, none⟩ = some (.int .i64 x.pY) := tc 2 _ rfl
      have c3 : wr.cell? ⟨b, off + q * 5 + 3, none⟩ = some (.int .i64 x.pTick) := tc 3 _ rfl
      have c4 : wr.cell? ⟨b, off + q * 5 + 4, none⟩ = some (.int .i64 x.pError) := tc 4 _ rfl
      have HX := Lib.hid hx
      have HY := Lib.hid hy
      clear hx hy tc tf
      have N1 := below_cell (w := wr) (Nat.le_refl _) (.cells #[.int .i64 x.pId, .int .i64 x.pX, .int .i64 x.pY, .int .i64 x.pTick, .int .i64 x.pError] 28)
      have bx : Bx (wr.alloc (.cells #[.int .i64 x.pId, .int .i64 x.pX, .int .i64 x.pY, .int .i64 x.pTick, .int .i64 x.pError] 28)) wr.heap.size (encArrival x) := Bx.new wr (encArrival x) 28
      have hLz : L ≤ wr.heap.size := by omega
      have hcall := HP.out (wr.alloc (.cells #[.int .i64 x.pId, .int .i64 x.pX, .int .i64 x.pY, .int .i64 x.pTick, .int .i64 x.pError] 28)) x (HD0.out x (List.mem_of_getElem? HX.out)) (HST.out wr _ HIW.out N1)
      have hsnoc := keep_snoc pr HX.out
      cases hpx : pr x with
      | true =>
        rw [hpx] at hcall hsnoc
        rw [if_pos rfl, List.append_nil] at hsnoc
        have HT2 : Hid (ys.take p = keepP pr (xs.take (q + 1))) := Lib.hid (by rw [hsnoc]; exact HT.out)
        have HD2 : Hid (ys.drop (q + 1) = xs.drop (q + 1)) := Lib.hid (by rw [← List.drop_drop, ← List.drop_drop, HD.out])
        clear hpx hsnoc
        go_wp2_with (go_at_fn g; refine hcall.mono ?_; rintro e w2 ⟨rfl, hb2⟩)
        have N2 : Below wr.heap.size wr w2 := N1.trans (hb2.mono N1.size)
        go_roundw
        case rel => exact ⟨p, q + 1, ys, rfl, by go_num, by omega, by omega, (hrow.below N2).mono (Nat.le_refl _) N2.size, HYL.out, HT2, HD2, by have := N2.size; omega, Lib.hid (HST.out wr _ HIW.out N2), hbl.trans (N2.mono hLz)⟩
        case measure => simp [intOf]; omega
      | false =>
        rw [hpx] at hcall hsnoc
        rw [if_neg (by simp)] at hsnoc
        have HS := Lib.hid hsnoc
        clear hpx hsnoc
        go_wp2_with (
          go_at_fn g
          refine hcall.mono ?_
          rintro e w2 ⟨rfl, hb2⟩
          have N2 : Below wr.heap.size wr w2 := N1.trans (hb2.mono N1.size)
          have bx2 := bx.below hb2
          have hr2 := (hrow.below N2).mono (Nat.le_refl _) N2.size
          have z2 := N2.size
          obtain ⟨y, hy⟩ : ∃ y, ys[p]? = some y := get_of_lt (by rw [HYL.out]; omega)
          obtain ⟨-, -, hbz2, tc2, tf2⟩ := hr2.at hy
          have e0 : w2.cell? ⟨wr.heap.size, 0, none⟩ = some (.int .i64 x.pId) := bx2.2 0 _ rfl
          have e1 : w2.cell? ⟨wr.heap.size, 1, none⟩ = some (.int .i64 x.pX) := bx2.2 1 _ rfl
          have e2 : w2.cell? ⟨wr.heap.size, 2, none⟩ = some (.int .i64 x.pY) := bx2.2 2 _ rfl
          have e3 : w2.cell? ⟨wr.heap.size, 3, none⟩ = some (.int .i64 x.pTick) := bx2.2 3 _ rfl
          have e4 : w2.cell? ⟨wr.heap.size, 4, none⟩ = some (.int .i64 x.pError) := bx2.2 4 _ rfl
          have o0 : w2.cell? ⟨b, off + p * 5, none⟩ = some (.int .i64 y.pId) := tc2 0 _ rfl
          have o1 : w2.cell? ⟨b, off + p * 5 + 1, none⟩ = some (.int .i64 y.pX) := tc2 1 _ rfl
          have o2 : w2.cell? ⟨b, off + p * 5 + 2, none⟩ = some (.int .i64 y.pY) := tc2 2 _ rfl
          have o3 : w2.cell? ⟨b, off + p * 5 + 3, none⟩ = some (.int .i64 y.pTick) := tc2 3 _ rfl
          have o4 : w2.cell? ⟨b, off + p * 5 + 4, none⟩ = some (.int .i64 y.pError) := tc2 4 _ rfl
          have hr3 := hr2.put encArrival_len rfl hy rfl x
          have B3 := below_putCells (hbl.trans (N2.mono hLz)) hLb (off + p * 5) (encArrival x) 0
          have HI3 : Hid (I (putCells w2 b (off + p * 5) (encArrival x) 0)) := Lib.hid (putCells_I HSET.out _ _ _ (HST.out wr _ HIW.out N2))
          have HYY := Lib.hid hy
          have HR3 := Lib.hid hr3
          have HT2 : Hid ((ys.set p x).take (p + 1) = keepP pr (xs.take (q + 1))) := Lib.hid (by
            rw [HS.out, take_snoc (l := ys.set p x) (x := x) (by rw [List.getElem?_set_self]; rw [HYL.out]; omega), List.take_set_of_le (Nat.le_refl _), HT.out])
          have HD2 : Hid ((ys.set p x).drop (q + 1) = xs.drop (q + 1)) := Lib.hid (by
            rw [List.drop_set_of_lt (by omega), ← List.drop_drop, ← List.drop_drop, HD.out])
          clear hy tc2 hr2 hr3 hrow bx bx2)
        go_roundw
        case rel =>
          refine ⟨p + 1, q + 1, ys.set p x, by go_num, by go_num, by omega, by omega, ?_, by simp [HYL.out], HT2, HD2, ?_, HI3, B3⟩
          · exact HR3.out.mono (Nat.le_refl _) (by simp [World.setCell])
          · simp [World.setCell]; omega
        case measure => simp [intOf]; omega
end Go.Proofs.Ytoogofceoinniab
