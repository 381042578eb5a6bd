/- Earth: what it reads as; the laws' helpers on it and on slices of it. -/
import Derived.Test.YtklilfbokpljkaaFlat
import Derived.Handy
import Derived.Deep.Slices
import Derived.Deep.Fields
namespace Go.Proofs.Ytklilfbokpljkaa
open Go.ChangeShapes Go.WideShapes Go.ChangeAt Go.RowKit Go.ChangeMaps
set_option linter.unusedSimpArgs false
set_option linter.unusedVariables false

structure GEarth where
  pThick : Int
  pSpeed : Int
def encEarth (s : GEarth) : List Value := [.int .i64 s.pThick, .int .i64 s.pSpeed]
theorem encEarth_len : ∀ s, (encEarth s).length = 2 := fun _ => rfl
def zeroEarth : GEarth := ⟨0, 0⟩
abbrev EarthL (w : World) (B : Nat) (v : Value) (xs : List GEarth) : Prop := LstK encEarth 2 w B v xs
abbrev EarthO (w : World) (L B : Nat) (v : Value) (xs : List GEarth) : Prop := OwnK encEarth 2 w L B v xs
def sz1Earth (s : GEarth) : Nat := 0
def szsEarth (xs : List GEarth) : Nat := (xs.map fun s => 1 + sz1Earth s).sum
theorem szsEarth_len (xs : List GEarth) : xs.length ≤ szsEarth xs := by
  unfold szsEarth
  induction xs with
  | nil => simp
  | cons a l ih => simp only [List.map_cons, List.sum_cons, List.length_cons]; omega
theorem szsEarth_mem {xs : List GEarth} {s : GEarth} (h : s ∈ xs) : sz1Earth s ≤ szsEarth xs := by
  unfold szsEarth
  induction xs with
  | nil => simp at h
  | cons a l ih =>
    simp only [List.map_cons, List.sum_cons]
    rcases List.mem_cons.1 h with rfl | h
    · omega
    · have := ih h; omega
theorem szsEarth_split (xs : List GEarth) : szsEarth xs = xs.length := by
  unfold szsEarth
  induction xs with
  | nil => simp
  | cons a l ih => rw [List.map_cons, List.sum_cons, List.length_cons, ih]; unfold sz1Earth; omega

/-- One of them by value. -/
def EarthV (v : Value) (s : GEarth) : Prop := v = .agg #[.int .i64 s.pThick, .int .i64 s.pSpeed]
set_option maxHeartbeats 800000 in
theorem toEarth_any (s : GEarth) (w : World) :
    Calls Try.prog 98 #[.agg #[.int .i64 s.pThick, .int .i64 s.pSpeed]] w fun e w' => e = .returned (.agg #[.int .i64 s.pThick, .int .i64 s.pSpeed]) ∧ Below w.heap.size w w' := by
  go_enter Try.func98, Try.ntmps98
  go_wp2
  refine bodyPost_ret (v := .agg #[.int .i64 s.pThick, .int .i64 s.pSpeed]) (by simp [results, Try.results98, go_sem]) rfl ⟨rfl, ?_⟩
  first
    | exact (((Below.refl _ w).alloc (Nat.le_refl _) _).alloc (by first | omega | (simp; done) | (simp; omega)) _).alloc (by first | omega | (simp; done) | (simp; omega)) _
    | (repeat (first | exact (((Below.refl _ w).alloc (Nat.le_refl _) _).alloc (by first | omega | (simp; done) | (simp; omega)) _).alloc (by first | omega | (simp; done) | (simp; omega)) _ | (refine Below.setCell ?_ (by first | omega | (simp; done) | (simp; omega)) _)))
set_option maxHeartbeats 800000 in
theorem eqEarth_any (s : GEarth) (w : World) :
    Calls Try.prog 103 #[.agg #[.int .i64 s.pThick, .int .i64 s.pSpeed], .agg #[.int .i64 s.pThick, .int .i64 s.pSpeed]] w fun e w' => e = .returned (.bool true) ∧ Below w.heap.size w w' := by
  go_enter Try.func103, Try.ntmps103
  go_wp2
  go_ret
  exact ⟨rfl, ((Below.refl _ w).alloc (Nat.le_refl _) _).alloc (by first | omega | (simp; done) | (simp; omega)) _⟩

theorem info_Earth : (Try.prog.info? 83).map (fun i => (i.zero, i.size, i.bytes)) = some (some (.agg #[.int .i64 0, .int .i64 0]), 2, 16) := by kernel_rfl
set_option maxHeartbeats 800000 in
theorem szEarthS_le0 (xs : List GEarth) (v : Value) (left : Int) (w : World) (B : Nat) (h : EarthL w B v xs) (hB : B ≤ w.heap.size) (h0 : 0 ≤ left) (h1 : left ≤ 1048576) (ht : (szsEarth xs : Int) ≤ left) :
    Calls Try.prog 15 #[v, .int .i64 left] w fun e w' => e = .returned (.int .i64 (left - szsEarth xs)) ∧ Below w.heap.size w w' := by
  obtain ⟨ao, cap, rfl, hcap, hmax, -, hc⟩ := h
  unfold maxLen at hmax
  rw [szsEarth_split] at *
  clear hc
  go_enter Try.func15, Try.ntmps15
  have hd : ¬ left - (xs.length : Int) < 0 := by omega
  go_wp2
  go_ret
  exact ⟨rfl, Below.refl _ _⟩
set_option maxHeartbeats 800000 in
theorem szEarthS_gt0 (xs : List GEarth) (v : Value) (left : Int) (w : World) (B : Nat) (h : EarthL w B v xs) (hB : B ≤ w.heap.size) (h0 : 0 ≤ left) (h1 : left ≤ 1048576) (ht : left < (szsEarth xs : Int)) :
    Calls Try.prog 15 #[v, .int .i64 left] w fun e w' => e = .returned (.int .i64 (-1)) ∧ Below w.heap.size w w' := by
  obtain ⟨ao, cap, rfl, hcap, hmax, -, hc⟩ := h
  unfold maxLen at hmax
  rw [szsEarth_split] at *
  clear hc
  go_enter Try.func15, Try.ntmps15
  go_wp2
  go_ret
  exact ⟨rfl, Below.refl _ _⟩
set_option maxHeartbeats 1000000 in
theorem toEarthS_any (xs : List GEarth) (v : Value) (w : World) (B : Nat) (h : EarthL w B v xs) (hB : B ≤ w.heap.size) (hn : xs.length ≤ 1048576) :
    Calls Try.prog 17 #[v] w fun e w' => ∃ v', e = .returned v' ∧ EarthO w' w.heap.size w'.heap.size v' xs ∧ Below w.heap.size w w' := by
  obtain ⟨ao, cap, rfl, hcap, hmax, -, hc⟩ := h
  unfold maxLen at hmax
  obtain ⟨ti, hi, hz0, hz1, hz2⟩ := info_parts info_Earth
  have hnm : xs.length ≤ maxLen := by unfold maxLen; omega
  go_enter Try.func17, Try.ntmps17
  go_wp2_with (at_make; refine wpList_make_full _ rfl _ _ 26 rfl w.heap.size 83 ti (.agg #[.int .i64 0, .int .i64 0]) 2 Try.underlying26 hi hz0 hz1 .i64 .i64 _ _ xs.length rfl rfl rfl rfl (by rw [hz2]; omega) hnm (Nat.le_refl _) ?_; intro w1 hown hgrow)
  have hb1 : Below w.heap.size w w1 := (Below.refl _ _).grown hgrow (Nat.le_refl _) (by simp)
  have hown2 : w1.ownsRow w.heap.size 83 2 (.slice (some ⟨w.heap.size, 0, none⟩) xs.length xs.length) xs.length ((List.replicate xs.length zeroEarth).flatMap encEarth) := by
    rw [← made_flat encEarth_len (by omega) #[.int .i64 0, .int .i64 0] zeroEarth rfl xs.length]
    exact hown
  have hO : EarthO w1 w.heap.size w1.heap.size (.slice (some ⟨w.heap.size, 0, none⟩) xs.length xs.length) (List.replicate xs.length zeroEarth) := by
    have := OwnK.of_row encEarth_len (by omega) hown2
    simpa using this
  clear hown hown2
  go_loopw [4] (fun i wr => ∃ (k : Nat) (ys : List GEarth), k ≤ xs.length ∧ i = .int .i64 k ∧ EarthO wr w.heap.size wr.heap.size (.slice (some ⟨w.heap.size, 0, none⟩) xs.length xs.length) ys ∧ ys.length = xs.length ∧ ys.take k = xs.take k ∧ Below w.heap.size w wr)
    (fun i _ => xs.length - (intOf i).toNat)
  case atStart => exact ⟨0, _, Nat.zero_le _, rfl, hO, by simp, rfl, hb1⟩
  case round =>
    obtain ⟨k, ys, hk, rfl, hrow, hyl, hys, hbl⟩ := hrel
    clear hO hb1
    have HY := Lib.hid hys
    have HL := Lib.hid hyl
    clear hys hyl
    by_cases hlt : k < xs.length
    · obtain ⟨s, hs⟩ := get_of_lt hlt
      obtain ⟨b, off, rfl, hb, hcell⟩ := hc k s hs
      obtain ⟨y, hy⟩ : ∃ y, ys[k]? = some y := get_of_lt (by rw [HL.out]; omega)
      have c0 : wr.cell? ⟨b, off + k * 2, none⟩ = some (.int .i64 s.pThick) := cellOf hbl (by omega) (hcell 0 _ rfl)
      have c1 : wr.cell? ⟨b, off + k * 2 + 1, none⟩ = some (.int .i64 s.pSpeed) := cellOf hbl (by omega) (hcell 1 _ rfl)
      have HS := Lib.hid hs
      have HYY := Lib.hid hy
      clear hs hy hcell hc
      go_wp2_with fail
      refine (toEarth_any s _).mono ?_
      rintro e w2 ⟨rfl, hb2⟩
      have hz2 := hb2.size
      have hr2 := hrow.below hb2
      have hbl2 := hbl.trans (hb2.mono hbl.size)
      clear hb2 hrow hbl
      obtain ⟨ao3, cap3, e3, _, _, _, h3⟩ := id hr2
      obtain ⟨b3, off3, e4, _, hB3, hz3, hc3, hf3⟩ := h3 k y HYY.out
      rw [e4] at e3
      simp only [Value.slice.injEq, Option.some.injEq, Addr.mk.injEq] at e3
      obtain ⟨⟨rfl, rfl, -⟩, -, -⟩ := e3
      have o0 : w2.cell? ⟨w.heap.size, k * 2, none⟩ = some (.int .i64 y.pThick) := by have := hc3 0 _ rfl; simpa using this
      have o1 : w2.cell? ⟨w.heap.size, k * 2 + 1, none⟩ = some (.int .i64 y.pSpeed) := by have := hc3 1 _ rfl; simpa using this
      have hr3 := hr2.put encEarth_len rfl HYY.out (ad := k * 2) (by omega) s
      have hbl3 := below_putCells hbl2 (b := w.heap.size) (Nat.le_refl _) (k * 2) (encEarth s) 0
      have HR := Lib.hid hr3
      clear hr2 hr3 hc3 h3 e4
      go_wp2
      go_roundw
      case rel =>
        refine ⟨k + 1, ys.set k s, by omega, by go_num, ?_, by simp [HL.out], ?_, hbl3⟩
        · exact HR.out.mono (Nat.le_refl _) (by simp [World.setCell]; exact hz2)
        · rw [take_snoc HS.out, take_snoc (l := ys.set k s) (x := s) (by rw [List.getElem?_set_self]; rw [HL.out]; omega), List.take_set_of_le (by omega), HY.out]
      case measure => simp [intOf]; omega
    · go_wp2
      go_ret
      refine ⟨_, rfl, ?_, hbl⟩
      have := HY.out
      rw [take_all hlt, take_all (by rw [HL.out]; exact hlt)] at this
      rw [this] at hrow
      exact hrow
set_option maxHeartbeats 2000000 in
theorem eqEarthS_any (xs : List GEarth) (v v2 : Value) (w : World) (B : Nat) (h : EarthL w B v xs) (h2 : EarthL w B v2 xs) (hB : B ≤ w.heap.size) :
    Calls Try.prog 19 #[v, v2] w fun e w' => e = .returned (.bool true) ∧ Below w.heap.size w w' := by
  obtain ⟨ao, cap, rfl, hcap, hmax, -, hc⟩ := h
  obtain ⟨ao2, cap2, rfl, hcap2, hmax2, -, hc2⟩ := h2
  unfold maxLen at hmax hmax2
  go_enter Try.func19, Try.ntmps19
  go_wp2
  go_loopw [5] (fun i wr => ∃ (k : Nat), k ≤ xs.length ∧ i = .int .i64 k ∧ Below w.heap.size w wr)
    (fun i _ => xs.length - (intOf i).toNat)
  case atStart => exact ⟨0, Nat.zero_le _, rfl, Below.refl _ _⟩
  case round =>
    obtain ⟨k, hk, rfl, hbl⟩ := hrel
    have hsz := hbl.size
    by_cases hlt : k < xs.length
    · obtain ⟨s, hs⟩ := get_of_lt hlt
      obtain ⟨b, off, rfl, hb, hcell⟩ := hc k s hs
      obtain ⟨b2, off2, rfl, hb2, hcell2⟩ := hc2 k s hs
      have c0 : wr.cell? ⟨b, off + k * 2, none⟩ = some (.int .i64 s.pThick) := cellOf hbl (by omega) (hcell 0 _ rfl)
      have c1 : wr.cell? ⟨b, off + k * 2 + 1, none⟩ = some (.int .i64 s.pSpeed) := cellOf hbl (by omega) (hcell 1 _ rfl)
      have d0 : wr.cell? ⟨b2, off2 + k * 2, none⟩ = some (.int .i64 s.pThick) := cellOf hbl (by omega) (hcell2 0 _ rfl)
      have d1 : wr.cell? ⟨b2, off2 + k * 2 + 1, none⟩ = some (.int .i64 s.pSpeed) := cellOf hbl (by omega) (hcell2 1 _ rfl)
      have hi0 : (0 : Int) ≤ (k : Int) := by omega
      have hi1 : (k : Int) < (xs.length : Int) := by omega
      have hbs : b < wr.heap.size := by omega
      have hbs2 : b2 < wr.heap.size := by omega
      clear hs hcell hcell2 hc hc2
      go_wp2
      go_region_held3 (fun w' => Below wr.heap.size wr w' ∧ w'.cell? ⟨b, off + k * 2, none⟩ = some (.int .i64 s.pThick) ∧ w'.cell? ⟨b, off + k * 2 + 1, none⟩ = some (.int .i64 s.pSpeed) ∧ w'.cell? ⟨b2, off2 + k * 2, none⟩ = some (.int .i64 s.pThick) ∧ w'.cell? ⟨b2, off2 + k * 2 + 1, none⟩ = some (.int .i64 s.pSpeed))
        (first
          | exact ⟨(Below.refl _ _).drew, c0, c1, d0, d1⟩
          | (have q := (Below.refl wr.heap.size wr).drew.trans hq; exact ⟨q, cellOf q hbs c0, cellOf q hbs c1, cellOf q hbs2 d0, cellOf q hbs2 d1⟩))
        (first | (go_at_call 103; refine (eqEarth_any s _).mono ?_; rintro e w2 ⟨rfl, hq⟩))
      go_wp2
      go_roundw
      case rel => exact ⟨k + 1, by omega, by go_num, hbl.trans (((Below.refl wr.heap.size wr).drew.trans hq).mono (by omega))⟩
      case measure => simp [intOf]; omega
    · go_wp2
      go_ret
      exact ⟨rfl, hbl⟩
theorem oneEarth (xs : List GEarth) : ∀ u ∈ xs.flatMap encEarth, u.oneCell' = true := by
  intro u hu
  obtain ⟨x, _, hx⟩ := List.mem_flatMap.1 hu
  simp only [encEarth, List.mem_cons, List.not_mem_nil, or_false] at hx
  rcases hx with rfl | rfl <;> rfl
def wfEarth (s : GEarth) : Prop := I64 s.pThick ∧ I64 s.pSpeed
set_option maxRecDepth 100000 in
theorem cells_Earth {H : Type} {enc : TypeId × Value → H} {w : World} (n : Nat) (cs : List Value) (x : DataW H × List MemPlace) (h : DataW.trod enc Try.prog w 0 (fun _ => true) true n 85 cs = some x) : ∃ s, cs = encEarth s ∧ wfEarth s := by
  obtain ⟨ys, m, _, _, hlen, hyl, hf⟩ := DataW.trod_struct Try.underlying85 h
  have hlen : cs.length = 2 := hlen.trans (by kernel_rfl)
  obtain ⟨c0, y0, e0, t0⟩ := field_cell (by kernel_rfl) hlen hyl hf 0 _ rfl
  obtain ⟨a0, g0, _, b0⟩ := DataW.trod_int Try.underlying3 t0
  simp only [List.cons.injEq, and_true] at g0
  subst g0
  obtain ⟨c1, y1, e1, t1⟩ := field_cell (by kernel_rfl) hlen hyl hf 1 _ rfl
  obtain ⟨a1, g1, _, b1⟩ := DataW.trod_int Try.underlying3 t1
  simp only [List.cons.injEq, and_true] at g1
  subst g1
  refine ⟨⟨a0, a1⟩, ?_, bounds_i64 b0, bounds_i64 b1⟩
  apply List.ext_getElem?
  intro i
  match i with
  | 0 => exact e0
  | 1 => exact e1
  | i + 2 => rw [List.getElem?_eq_none (by omega), List.getElem?_eq_none (by rw [encEarth_len]; omega)]
set_option maxRecDepth 100000 in
theorem open_EarthS {H : Type} {enc : TypeId × Value → H} {w : World} {base : Nat} {v : Value} {d : DataW H} {ps : List MemPlace}
    (hval : Value.okWide Try.prog w .any base 22 v) (hd : DataW.Trod enc Try.prog w 0 (fun _ => true) true 22 v d ps) : ∃ xs : List GEarth, EarthL w w.heap.size v xs ∧ ∀ x ∈ xs, wfEarth x :=
  rows_of encEarth 2 encEarth_len (by omega) wfEarth Try.underlying22 (by kernel_rfl) (fun n cs x h => cells_Earth n cs x h) hval hd
/-- One of them, by value. -/
def EarthVL (_ : World) (_ : Nat) (v : Value) (s : GEarth) : Prop := v = .agg #[.int .i64 s.pThick, .int .i64 s.pSpeed]
def EarthVO (_ : World) (_ _ : Nat) (v : Value) (s : GEarth) : Prop := v = .agg #[.int .i64 s.pThick, .int .i64 s.pSpeed]
theorem EarthVO.lst {w : World} {L B : Nat} {v : Value} {s : GEarth} (h : EarthVO w L B v s) : EarthVL w B v s := h
theorem EarthVL.below {w w' : World} {B : Nat} {v : Value} {s : GEarth} (h : EarthVL w B v s) (_ : Below B w w') : EarthVL w' B v s := h
theorem EarthVL.mono {w : World} {B B' : Nat} {v : Value} {s : GEarth} (h : EarthVL w B v s) (_ : B ≤ B') : EarthVL w B' v s := h
theorem EarthVO.below {w w' : World} {L B : Nat} {v : Value} {s : GEarth} (h : EarthVO w L B v s) (_ : Below B w w') : EarthVO w' L B v s := h
theorem EarthVO.mono {w : World} {L B L' B' : Nat} {v : Value} {s : GEarth} (h : EarthVO w L B v s) (_ : L' ≤ L) (_ : B ≤ B') : EarthVO w L' B' v s := h
theorem EarthVO.high {w w' : World} {L B L' U' : Nat} {v : Value} {s : GEarth} (h : EarthVO w L B v s) (_ : Upd L' U' w w') (_ : U' ≤ L) : EarthVO w' L B v s := h
theorem EarthVL.form {w : World} {B : Nat} {v : Value} {s : GEarth} (h : EarthVL w B v s) : v = .agg #[.int .i64 s.pThick, .int .i64 s.pSpeed] := h
theorem EarthVO.form {w : World} {L B : Nat} {v : Value} {s : GEarth} (h : EarthVO w L B v s) : v = .agg #[.int .i64 s.pThick, .int .i64 s.pSpeed] := h
set_option maxRecDepth 100000 in
theorem open_Earth {H : Type} {enc : TypeId × Value → H} {w : World} {base : Nat} {v : Value} {d : DataW H} {ps : List MemPlace}
    (hval : Value.okWide Try.prog w .any base 85 v) (hd : DataW.Trod enc Try.prog w 0 (fun _ => true) true 85 v d ps) : ∃ s : GEarth, EarthVL w w.heap.size v s ∧ wfEarth s := by
  obtain ⟨cs, rfl, hsz⟩ := okWide_struct Try.underlying85 hval
  obtain ⟨fuel, hf⟩ := hd
  obtain ⟨s, h, hw⟩ := cells_Earth _ _ _ hf
  refine ⟨s, ?_, hw⟩
  obtain ⟨l⟩ := cs
  have h : l = encEarth s := h
  subst h
  rfl
theorem to_Earth (s : GEarth) (v : Value) (w : World) (B : Nat) (h : EarthVL w B v s) (_ : B ≤ w.heap.size) (_ : sz1Earth s ≤ 1048576) :
    Calls Try.prog 98 #[v] w fun e w' => ∃ v', e = .returned v' ∧ EarthVO w' w.heap.size w'.heap.size v' s ∧ Below w.heap.size w w' := by
  obtain rfl := h.form
  exact (toEarth_any s w).mono fun e w' ⟨h1, h2⟩ => ⟨_, h1, rfl, h2⟩
theorem eq_Earth (s : GEarth) (v v2 : Value) (w : World) (B : Nat) (h : EarthVL w B v s) (h2 : EarthVL w B v2 s) (_ : B ≤ w.heap.size) :
    Calls Try.prog 103 #[v, v2] w fun e w' => e = .returned (.bool true) ∧ Below w.heap.size w w' := by
  obtain rfl := h.form
  obtain rfl := h2.form
  exact eqEarth_any s w
theorem sz_EarthS (xs : List GEarth) (v : Value) (left : Int) (w : World) (B : Nat) (h : EarthL w B v xs) (hB : B ≤ w.heap.size) (h0 : 0 ≤ left) (h1 : left ≤ 1048576) (ht : (szsEarth xs : Int) ≤ left) :
    Calls Try.prog 15 #[v, .int .i64 left] w fun e w' => e = .returned (.int .i64 (left - szsEarth xs)) ∧ Below w.heap.size w w' := szEarthS_le0 xs v left w B h hB h0 h1 ht
theorem szgt_EarthS (xs : List GEarth) (v : Value) (left : Int) (w : World) (B : Nat) (h : EarthL w B v xs) (hB : B ≤ w.heap.size) (h0 : 0 ≤ left) (h1 : left ≤ 1048576) (ht : left < (szsEarth xs : Int)) (hw : ∀ s ∈ xs, wfEarth s) :
    Calls Try.prog 15 #[v, .int .i64 left] w fun e w' => e = .returned (.int .i64 (-1)) ∧ Below w.heap.size w w' := szEarthS_gt0 xs v left w B h hB h0 h1  ht
theorem to_EarthS (xs : List GEarth) (v : Value) (w : World) (B : Nat) (h : EarthL w B v xs) (hB : B ≤ w.heap.size) (hn : szsEarth xs ≤ 1048576) :
    Calls Try.prog 17 #[v] w fun e w' => ∃ v', e = .returned v' ∧ EarthO w' w.heap.size w'.heap.size v' xs ∧ Below w.heap.size w w' := toEarthS_any xs v w B h hB (Nat.le_trans (szsEarth_len xs) hn)
theorem eq_EarthS (xs : List GEarth) (v v2 : Value) (w : World) (B : Nat) (h : EarthL w B v xs) (h2 : EarthL w B v2 xs) (hB : B ≤ w.heap.size) :
    Calls Try.prog 19 #[v, v2] w fun e w' => e = .returned (.bool true) ∧ Below w.heap.size w w' := eqEarthS_any xs v v2 w B h h2 hB
end Go.Proofs.Ytklilfbokpljkaa
