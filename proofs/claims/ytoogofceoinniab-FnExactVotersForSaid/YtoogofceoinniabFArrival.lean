/- Arrival: what it reads as; the laws' helpers on it and on slices of it. -/
import Derived.Test.YtoogofceoinniabFlat
import Derived.Handy
import Derived.Deep.Slices
import Derived.Deep.Fields
namespace Go.Proofs.Ytoogofceoinniab
open Go.ChangeShapes Go.WideShapes Go.ChangeAt Go.RowKit Go.ChangeMaps
set_option linter.unusedSimpArgs false
set_option linter.unusedVariables false

structure GArrival where
  pId : Int
  pX : Int
  pY : Int
  pTick : Int
  pError : Int
def encArrival (s : GArrival) : List Value := [.int .i64 s.pId, .int .i64 s.pX, .int .i64 s.pY, .int .i64 s.pTick, .int .i64 s.pError]
theorem encArrival_len : ∀ s, (encArrival s).length = 5 := fun _ => rfl
def zeroArrival : GArrival := ⟨0, 0, 0, 0, 0⟩
abbrev ArrivalL (w : World) (B : Nat) (v : Value) (xs : List GArrival) : Prop := LstK encArrival 5 w B v xs
abbrev ArrivalO (w : World) (L B : Nat) (v : Value) (xs : List GArrival) : Prop := OwnK encArrival 5 w L B v xs
def sz1Arrival (s : GArrival) : Nat := 0
def szsArrival (xs : List GArrival) : Nat := (xs.map fun s => 1 + sz1Arrival s).sum
theorem szsArrival_len (xs : List GArrival) : xs.length ≤ szsArrival xs := by
  unfold szsArrival
  induction xs with
  | nil => simp
  | cons a l ih => simp only [List.map_cons, List.sum_cons, List.length_cons]; omega
theorem szsArrival_mem {xs : List GArrival} {s : GArrival} (h : s ∈ xs) : sz1Arrival s ≤ szsArrival xs := by
  unfold szsArrival
  induction xs with
  | nil => simp at h
  | cons a l ih =>
    simp only [List.map_cons, List.sum_cons]
    rcases List.mem_cons.1 h with rfl | h
    · omega
    · have := ih h; omega
theorem szsArrival_split (xs : List GArrival) : szsArrival xs = xs.length := by
  unfold szsArrival
  induction xs with
  | nil => simp
  | cons a l ih => rw [List.map_cons, List.sum_cons, List.length_cons, ih]; unfold sz1Arrival; omega

/-- One of them by value. -/
def ArrivalV (v : Value) (s : GArrival) : Prop := v = .agg #[.int .i64 s.pId, .int .i64 s.pX, .int .i64 s.pY, .int .i64 s.pTick, .int .i64 s.pError]
set_option maxHeartbeats 800000 in
theorem toArrival_any (s : GArrival) (w : World) :
    Calls Try.prog 14 #[.agg #[.int .i64 s.pId, .int .i64 s.pX, .int .i64 s.pY, .int .i64 s.pTick, .int .i64 s.pError]] w fun e w' => e = .returned (.agg #[.int .i64 s.pId, .int .i64 s.pX, .int .i64 s.pY, .int .i64 s.pTick, .int .i64 s.pError]) ∧ Below w.heap.size w w' := by
  go_enter Try.func14, Try.ntmps14
  go_wp2
  refine bodyPost_ret (v := .agg #[.int .i64 s.pId, .int .i64 s.pX, .int .i64 s.pY, .int .i64 s.pTick, .int .i64 s.pError]) (by simp [results, Try.results14, go_sem]) rfl ⟨rfl, ?_⟩
  first
    | exact (((Below.refl _ w).alloc (Nat.le_refl _) _).alloc (by first | omega | (simp; done) | (simp; omega)) _).alloc (by first | omega | (simp; done) | (simp; omega)) _
    | (repeat (first | exact (((Below.refl _ w).alloc (Nat.le_refl _) _).alloc (by first | omega | (simp; done) | (simp; omega)) _).alloc (by first | omega | (simp; done) | (simp; omega)) _ | (refine Below.setCell ?_ (by first | omega | (simp; done) | (simp; omega)) _)))
set_option maxHeartbeats 800000 in
theorem eqArrival_any (s : GArrival) (w : World) :
    Calls Try.prog 65 #[.agg #[.int .i64 s.pId, .int .i64 s.pX, .int .i64 s.pY, .int .i64 s.pTick, .int .i64 s.pError], .agg #[.int .i64 s.pId, .int .i64 s.pX, .int .i64 s.pY, .int .i64 s.pTick, .int .i64 s.pError]] w fun e w' => e = .returned (.bool true) ∧ Below w.heap.size w w' := by
  go_enter Try.func65, Try.ntmps65
  go_wp2
  go_ret
  exact ⟨rfl, ((Below.refl _ w).alloc (Nat.le_refl _) _).alloc (by first | omega | (simp; done) | (simp; omega)) _⟩

theorem info_Arrival : (Try.prog.info? 28).map (fun i => (i.zero, i.size, i.bytes)) = some (some (.agg #[.int .i64 0, .int .i64 0, .int .i64 0, .int .i64 0, .int .i64 0]), 5, 40) := by kernel_rfl
set_option maxHeartbeats 800000 in
theorem szArrivalS_le0 (xs : List GArrival) (v : Value) (left : Int) (w : World) (B : Nat) (h : ArrivalL w B v xs) (hB : B ≤ w.heap.size) (h0 : 0 ≤ left) (h1 : left ≤ 1048576) (ht : (szsArrival xs : Int) ≤ left) :
    Calls Try.prog 17 #[v, .int .i64 left] w fun e w' => e = .returned (.int .i64 (left - szsArrival xs)) ∧ Below w.heap.size w w' := by
  obtain ⟨ao, cap, rfl, hcap, hmax, -, hc⟩ := h
  unfold maxLen at hmax
  rw [szsArrival_split] at *
  clear hc
  go_enter Try.func17, Try.ntmps17
  have hd : ¬ left - (xs.length : Int) < 0 := by omega
  go_wp2
  go_ret
  exact ⟨rfl, Below.refl _ _⟩
set_option maxHeartbeats 800000 in
theorem szArrivalS_gt0 (xs : List GArrival) (v : Value) (left : Int) (w : World) (B : Nat) (h : ArrivalL w B v xs) (hB : B ≤ w.heap.size) (h0 : 0 ≤ left) (h1 : left ≤ 1048576) (ht : left < (szsArrival xs : Int)) :
    Calls Try.prog 17 #[v, .int .i64 left] w fun e w' => e = .returned (.int .i64 (-1)) ∧ Below w.heap.size w w' := by
  obtain ⟨ao, cap, rfl, hcap, hmax, -, hc⟩ := h
  unfold maxLen at hmax
  rw [szsArrival_split] at *
  clear hc
  go_enter Try.func17, Try.ntmps17
  go_wp2
  go_ret
  exact ⟨rfl, Below.refl _ _⟩
set_option maxHeartbeats 1000000 in
theorem toArrivalS_any (xs : List GArrival) (v : Value) (w : World) (B : Nat) (h : ArrivalL w B v xs) (hB : B ≤ w.heap.size) (hn : xs.length ≤ 1048576) :
    Calls Try.prog 19 #[v] w fun e w' => ∃ v', e = .returned v' ∧ ArrivalO w' w.heap.size w'.heap.size v' xs ∧ Below w.heap.size w w' := by
  obtain ⟨ao, cap, rfl, hcap, hmax, -, hc⟩ := h
  unfold maxLen at hmax
  obtain ⟨ti, hi, hz0, hz1, hz2⟩ := info_parts info_Arrival
  have hnm : xs.length ≤ maxLen := by unfold maxLen; omega
  go_enter Try.func19, Try.ntmps19
  go_wp2_with (at_make; refine wpList_make_full _ rfl _ _ 37 rfl w.heap.size 28 ti (.agg #[.int .i64 0, .int .i64 0, .int .i64 0, .int .i64 0, .int .i64 0]) 5 Try.underlying37 hi hz0 hz1 .i64 .i64 _ _ xs.length rfl rfl rfl rfl (by rw [hz2]; omega) hnm (Nat.le_refl _) ?_; intro w1 hown hgrow)
  have hb1 : Below w.heap.size w w1 := (Below.refl _ _).grown hgrow (Nat.le_refl _) (by simp)
  have hown2 : w1.ownsRow w.heap.size 28 5 (.slice (some ⟨w.heap.size, 0, none⟩) xs.length xs.length) xs.length ((List.replicate xs.length zeroArrival).flatMap encArrival) := by
    rw [← made_flat encArrival_len (by omega) #[.int .i64 0, .int .i64 0, .int .i64 0, .int .i64 0, .int .i64 0] zeroArrival rfl xs.length]
    exact hown
  have hO : ArrivalO w1 w.heap.size w1.heap.size (.slice (some ⟨w.heap.size, 0, none⟩) xs.length xs.length) (List.replicate xs.length zeroArrival) := by
    have := OwnK.of_row encArrival_len (by omega) hown2
    simpa using this
  clear hown hown2
  go_loopw [4] (fun i wr => ∃ (k : Nat) (ys : List GArrival), k ≤ xs.length ∧ i = .int .i64 k ∧ ArrivalO wr w.heap.size wr.heap.size (.slice (some ⟨w.heap.size, 0, none⟩) xs.length xs.length) ys ∧ ys.length = xs.length ∧ ys.take k = xs.take k ∧ Below w.heap.size w wr)
    (fun i _ => xs.length - (intOf i).toNat)
  case atStart => exact ⟨0, _, Nat.zero_le _, rfl, hO, by simp, rfl, hb1⟩
  case round =>
    obtain ⟨k, ys, hk, rfl, hrow, hyl, hys, hbl⟩ := hrel
    clear hO hb1
    have HY := Lib.hid hys
    have HL := Lib.hid hyl
    clear hys hyl
    by_cases hlt : k < xs.length
    · obtain ⟨s, hs⟩ := get_of_lt hlt
      obtain ⟨b, off, rfl, hb, hcell⟩ := hc k s hs
      obtain ⟨y, hy⟩ : ∃ y, ys[k]? = some y := get_of_lt (by rw [HL.out]; omega)
      have c0 : wr.cell? ⟨b, off + k * 5, none⟩ = some (.int .i64 s.pId) := cellOf hbl (by omega) (hcell 0 _ rfl)
      have c1 : wr.cell? ⟨b, off + k * 5 + 1, none⟩ = some (.int .i64 s.pX) := cellOf hbl (by omega) (hcell 1 _ rfl)
      have c2 : wr.cell? ⟨b, off + k * 5 + 2, none⟩ = some (.int .i64 s.pY) := cellOf hbl (by omega) (hcell 2 _ rfl)
      have c3 : wr.cell? ⟨b, off + k * 5 + 3, none⟩ = some (.int .i64 s.pTick) := cellOf hbl (by omega) (hcell 3 _ rfl)
      have c4 : wr.cell? ⟨b, off + k * 5 + 4, none⟩ = some (.int .i64 s.pError) := cellOf hbl (by omega) (hcell 4 _ rfl)
      have HS := Lib.hid hs
      have HYY := Lib.hid hy
      clear hs hy hcell hc
      go_wp2_with fail
      refine (toArrival_any s _).mono ?_
      rintro e w2 ⟨rfl, hb2⟩
      have hz2 := hb2.size
      have hr2 := hrow.below hb2
      have hbl2 := hbl.trans (hb2.mono hbl.size)
      clear hb2 hrow hbl
      obtain ⟨ao3, cap3, e3, _, _, _, h3⟩ := id hr2
      obtain ⟨b3, off3, e4, _, hB3, hz3, hc3, hf3⟩ := h3 k y HYY.out
      rw [e4] at e3
      simp only [Value.slice.injEq, Option.some.injEq, Addr.mk.injEq] at e3
      obtain ⟨⟨rfl, rfl, -⟩, -, -⟩ := e3
      have o0 : w2.cell? ⟨w.heap.size, k * 5, none⟩ = some (.int .i64 y.pId) := by have := hc3 0 _ rfl; simpa using this
      have o1 : w2.cell? ⟨w.heap.size, k * 5 + 1, none⟩ = some (.int .i64 y.pX) := by have := hc3 1 _ rfl; simpa using this
      have o2 : w2.cell? ⟨w.heap.size, k * 5 + 2, none⟩ = some (.int .i64 y.pY) := by have := hc3 2 _ rfl; simpa using this
      have o3 : w2.cell? ⟨w.heap.size, k * 5 + 3, none⟩ = some (.int .i64 y.pTick) := by have := hc3 3 _ rfl; simpa using this
      have o4 : w2.cell? ⟨w.heap.size, k * 5 + 4, none⟩ = some (.int .i64 y.pError) := by have := hc3 4 _ rfl; simpa using this
      have hr3 := hr2.put encArrival_len rfl HYY.out (ad := k * 5) (by omega) s
      have hbl3 := below_putCells hbl2 (b := w.heap.size) (Nat.le_refl _) (k * 5) (encArrival s) 0
      have HR := Lib.hid hr3
      clear hr2 hr3 hc3 h3 e4
      go_wp2
      go_roundw
      case rel =>
        refine ⟨k + 1, ys.set k s, by omega, by go_num, ?_, by simp [HL.out], ?_, hbl3⟩
        · exact HR.out.mono (Nat.le_refl _) (by simp [World.setCell]; exact hz2)
        · rw [take_snoc HS.out, take_snoc (l := ys.set k s) (x := s) (by rw [List.getElem?_set_self]; rw [HL.out]; omega), List.take_set_of_le (by omega), HY.out]
      case measure => simp [intOf]; omega
    · go_wp2
      go_ret
      refine ⟨_, rfl, ?_, hbl⟩
      have := HY.out
      rw [take_all hlt, take_all (by rw [HL.out]; exact hlt)] at this
      rw [this] at hrow
      exact hrow
set_option maxHeartbeats 2000000 in
theorem eqArrivalS_any (xs : List GArrival) (v v2 : Value) (w : World) (B : Nat) (h : ArrivalL w B v xs) (h2 : ArrivalL w B v2 xs) (hB : B ≤ w.heap.size) :
    Calls Try.prog 21 #[v, v2] w fun e w' => e = .returned (.bool true) ∧ Below w.heap.size w w' := by
  obtain ⟨ao, cap, rfl, hcap, hmax, -, hc⟩ := h
  obtain ⟨ao2, cap2, rfl, hcap2, hmax2, -, hc2⟩ := h2
  unfold maxLen at hmax hmax2
  go_enter Try.func21, Try.ntmps21
  go_wp2
  go_loopw [5] (fun i wr => ∃ (k : Nat), k ≤ xs.length ∧ i = .int .i64 k ∧ Below w.heap.size w wr)
    (fun i _ => xs.length - (intOf i).toNat)
  case atStart => exact ⟨0, Nat.zero_le _, rfl, Below.refl _ _⟩
  case round =>
    obtain ⟨k, hk, rfl, hbl⟩ := hrel
    have hsz := hbl.size
    by_cases hlt : k < xs.length
    · obtain ⟨s, hs⟩ := get_of_lt hlt
      obtain ⟨b, off, rfl, hb, hcell⟩ := hc k s hs
      obtain ⟨b2, off2, rfl, hb2, hcell2⟩ := hc2 k s hs
      have c0 : wr.cell? ⟨b, off + k * 5, none⟩ = some (.int .i64 s.pId) := cellOf hbl (by omega) (hcell 0 _ rfl)
      have c1 : wr.cell? ⟨b, off + k * 5 + 1, none⟩ = some (.int .i64 s.pX) := cellOf hbl (by omega) (hcell 1 _ rfl)
      have c2 : wr.cell? ⟨b, off + k * 5 + 2, none⟩ = some (.int .i64 s.pY) := cellOf hbl (by omega) (hcell 2 _ rfl)
      have c3 : wr.cell? ⟨b, off + k * 5 + 3, none⟩ = some (.int .i64 s.pTick) := cellOf hbl (by omega) (hcell 3 _ rfl)
      have c4 : wr.cell? ⟨b, off + k * 5 + 4, none⟩ = some (.int .i64 s.pError) := cellOf hbl (by omega) (hcell 4 _ rfl)
      have d0 : wr.cell? ⟨b2, off2 + k * 5, none⟩ = some (.int .i64 s.pId) := cellOf hbl (by omega) (hcell2 0 _ rfl)
      have d1 : wr.cell? ⟨b2, off2 + k * 5 + 1, none⟩ = some (.int .i64 s.pX) := cellOf hbl (by omega) (hcell2 1 _ rfl)
      have d2 : wr.cell? ⟨b2, off2 + k * 5 + 2, none⟩ = some (.int .i64 s.pY) := cellOf hbl (by omega) (hcell2 2 _ rfl)
      have d3 : wr.cell? ⟨b2, off2 + k * 5 + 3, none⟩ = some (.int .i64 s.pTick) := cellOf hbl (by omega) (hcell2 3 _ rfl)
      have d4 : wr.cell? ⟨b2, off2 + k * 5 + 4, none⟩ = some (.int .i64 s.pError) := cellOf hbl (by omega) (hcell2 4 _ rfl)
      have hi0 : (0 : Int) ≤ (k : Int) := by omega
      have hi1 : (k : Int) < (xs.length : Int) := by omega
      have hbs : b < wr.heap.size := by omega
      have hbs2 : b2 < wr.heap.size := by omega
      clear hs hcell hcell2 hc hc2
      go_wp2
      go_region_held3 (fun w' => Below wr.heap.size wr w' ∧ w'.cell? ⟨b, off + k * 5, none⟩ = some (.int .i64 s.pId) ∧ w'.cell? ⟨b, off + k * 5 + 1, none⟩ = some (.int .i64 s.pX) ∧ w'.cell? ⟨b, off + k * 5 + 2, none⟩ = some (.int .i64 s.pY) ∧ w'.cell? ⟨b, off + k * 5 + 3, none⟩ = some (.int .i64 s.pTick) ∧ w'.cell? ⟨b, off + k * 5 + 4, none⟩ = some (.int .i64 s.pError) ∧ w'.cell? ⟨b2, off2 + k * 5, none⟩ = some (.int .i64 s.pId) ∧ w'.cell? ⟨b2, off2 + k * 5 + 1, none⟩ = some (.int .i64 s.pX) ∧ w'.cell? ⟨b2, off2 + k * 5 + 2, none⟩ = some (.int .i64 s.pY) ∧ w'.cell? ⟨b2, off2 + k * 5 + 3, none⟩ = some (.int .i64 s.pTick) ∧ w'.cell? ⟨b2, off2 + k * 5 + 4, none⟩ = some (.int .i64 s.pError))
        (first
          | exact ⟨(Below.refl _ _).drew, c0, c1, c2, c3, c4, d0, d1, d2, d3, d4⟩
          | (have q := (Below.refl wr.heap.size wr).drew.trans hq; exact ⟨q, cellOf q hbs c0, cellOf q hbs c1, cellOf q hbs c2, cellOf q hbs c3, cellOf q hbs c4, cellOf q hbs2 d0, cellOf q hbs2 d1, cellOf q hbs2 d2, cellOf q hbs2 d3, cellOf q hbs2 d4⟩))
        (first | (go_at_call 65; refine (eqArrival_any s _).mono ?_; rintro e w2 ⟨rfl, hq⟩))
      go_wp2
      go_roundw
      case rel => exact ⟨k + 1, by omega, by go_num, hbl.trans (((Below.refl wr.heap.size wr).drew.trans hq).mono (by omega))⟩
      case measure => simp [intOf]; omega
    · go_wp2
      go_ret
      exact ⟨rfl, hbl⟩
def mkArrival (k : Int) : GArrival := ⟨k, k + 1, k + 1 + 1, k + 1 + 1 + 1, k + 1 + 1 + 1 + 1⟩
def marksArrival (k : Int) (n : Nat) : List GArrival := (List.range n).map fun (i : Nat) => mkArrival (k + 5 * i)
theorem marksArrival_get {k : Int} {n i : Nat} (h : i < n) : (marksArrival k n)[i]? = some (mkArrival (k + 5 * i)) := by simp [marksArrival, h]
theorem marksArrival_len (k : Int) (n : Nat) : (marksArrival k n).length = n := by simp [marksArrival]
theorem eq_marksArrival {k : Int} {n : Nat} {cs : List GArrival} (hl : cs.length = n) (h : ∀ i, i < n → cs[i]? = some (mkArrival (k + 5 * i))) : cs = marksArrival k n := by
  apply List.ext_getElem?
  intro i
  by_cases hi : i < n
  · rw [h i hi, marksArrival_get hi]
  · rw [List.getElem?_eq_none (by omega), List.getElem?_eq_none (by rw [marksArrival_len]; omega)]
set_option maxHeartbeats 2000000 in
theorem markArrivalS_any (ss : List GArrival) (v : Value) (k : Int) (w : World) (L B : Nat) (h : ArrivalO w L B v ss) (hB : B ≤ w.heap.size) (hn : ss.length ≤ 1048576) (h0 : 0 ≤ k) (h1 : k ≤ 100000000000) :
    Calls Try.prog 25 #[v, .int .i64 k] w fun e w' => e = .returned (.int .i64 (k + 5 * ss.length)) ∧ ArrivalO w' L B v (marksArrival k ss.length) ∧ Upd L B w w' := by
  obtain ⟨ao, cap, rfl, hcap, hmax, -, hc⟩ := id h
  go_enter Try.func25, Try.ntmps25
  go_wp2
  go_loopw [1, 5] (fun m i wr => ∃ (j : Nat) (cs : List GArrival), j ≤ ss.length ∧ i = .int .i64 j ∧ m = .int .i64 (k + 5 * j) ∧ cs.length = ss.length ∧ (∀ i, i < j → cs[i]? = some (mkArrival (k + 5 * i))) ∧ ArrivalO wr L B (.slice ao ss.length cap) cs ∧ Upd L B w wr)
    (fun _ i _ => ss.length - (intOf i).toNat)
  case atStart => exact ⟨0, ss, Nat.zero_le _, rfl, by simp, rfl, fun i hi => by omega, h, Upd.refl _ _ _⟩
  case round =>
    obtain ⟨j, cs, hj, rfl, rfl, hl, hm, hown, hbl⟩ := hrel
    clear hc h
    by_cases hlt : j < ss.length
    · obtain ⟨s, hs⟩ := get_of_lt (l := cs) (k := j) (by omega)
      obtain ⟨ao', cap', hv', _, _, _, hc'⟩ := id hown
      have hl' := Lib.hid hl
      simp only [Value.slice.injEq] at hv'
      obtain ⟨rfl, -, rfl⟩ := hv'
      obtain ⟨b, off, rfl, hLb, hb, hbz, hcell, hfr⟩ := hc' j s hs
      have HM := Lib.hid hm
      have HH := Lib.hid hs
      clear hl hs hc' hm
      have hj1 : (j : Int) < 1048576 := by omega
      have c0 : wr.cell? ⟨b, off + j * 5, none⟩ = some (.int .i64 s.pId) := hcell 0 _ rfl
      have c1 : wr.cell? ⟨b, off + j * 5 + 1, none⟩ = some (.int .i64 s.pX) := hcell 1 _ rfl
      have c2 : wr.cell? ⟨b, off + j * 5 + 2, none⟩ = some (.int .i64 s.pY) := hcell 2 _ rfl
      have c3 : wr.cell? ⟨b, off + j * 5 + 3, none⟩ = some (.int .i64 s.pTick) := hcell 3 _ rfl
      have c4 : wr.cell? ⟨b, off + j * 5 + 4, none⟩ = some (.int .i64 s.pError) := hcell 4 _ rfl
      generalize hq : (k + 5 * (j : Int)) = q at *
      have HQ := Lib.hid hq
      have hq0 : 0 ≤ q := by omega
      have hq1 : q ≤ 101000000000 := by omega
      clear hq
      have hBr : B ≤ wr.heap.size := Nat.le_trans hB hbl.size
      have R0 := Lib.hid hown
      have G0 := Lib.hid HH.out
      have U0 := Lib.hid hbl
      clear hown hbl
      have R1 := Lib.hid (OwnK.set encArrival_len R0.out (m := 0) rfl G0.out (by omega) (y := ⟨q, s.pX, s.pY, s.pTick, s.pError⟩) (u := .int .i64 (q)) rfl)
      have G1 := Lib.hid (get_set_self (y := (⟨q, s.pX, s.pY, s.pTick, s.pError⟩ : GArrival)) G0.out)
      have U1 := Lib.hid (Upd.setCell U0.out (p := ⟨b, off + j * 5, none⟩) hLb hb (.int .i64 (q)))
      clear R0 G0 U0
      have R2 := Lib.hid (OwnK.set encArrival_len R1.out (m := 1) rfl G1.out (by omega) (y := ⟨q, q + 1, s.pY, s.pTick, s.pError⟩) (u := .int .i64 (q + 1)) rfl)
      have G2 := Lib.hid (get_set_self (y := (⟨q, q + 1, s.pY, s.pTick, s.pError⟩ : GArrival)) G1.out)
      have U2 := Lib.hid (Upd.setCell U1.out (p := ⟨b, off + j * 5 + 1, none⟩) hLb hb (.int .i64 (q + 1)))
      clear R1 G1 U1
      have R3 := Lib.hid (OwnK.set encArrival_len R2.out (m := 2) rfl G2.out (by omega) (y := ⟨q, q + 1, q + 1 + 1, s.pTick, s.pError⟩) (u := .int .i64 (q + 1 + 1)) rfl)
      have G3 := Lib.hid (get_set_self (y := (⟨q, q + 1, q + 1 + 1, s.pTick, s.pError⟩ : GArrival)) G2.out)
      have U3 := Lib.hid (Upd.setCell U2.out (p := ⟨b, off + j * 5 + 2, none⟩) hLb hb (.int .i64 (q + 1 + 1)))
      clear R2 G2 U2
      have R4 := Lib.hid (OwnK.set encArrival_len R3.out (m := 3) rfl G3.out (by omega) (y := ⟨q, q + 1, q + 1 + 1, q + 1 + 1 + 1, s.pError⟩) (u := .int .i64 (q + 1 + 1 + 1)) rfl)
      have G4 := Lib.hid (get_set_self (y := (⟨q, q + 1, q + 1 + 1, q + 1 + 1 + 1, s.pError⟩ : GArrival)) G3.out)
      have U4 := Lib.hid (Upd.setCell U3.out (p := ⟨b, off + j * 5 + 3, none⟩) hLb hb (.int .i64 (q + 1 + 1 + 1)))
      clear R3 G3 U3
      have R5 := Lib.hid (OwnK.set encArrival_len R4.out (m := 4) rfl G4.out (by omega) (y := ⟨q, q + 1, q + 1 + 1, q + 1 + 1 + 1, q + 1 + 1 + 1 + 1⟩) (u := .int .i64 (q + 1 + 1 + 1 + 1)) rfl)
      have G5 := Lib.hid (get_set_self (y := (⟨q, q + 1, q + 1 + 1, q + 1 + 1 + 1, q + 1 + 1 + 1 + 1⟩ : GArrival)) G4.out)
      have U5 := Lib.hid (Upd.setCell U4.out (p := ⟨b, off + j * 5 + 4, none⟩) hLb hb (.int .i64 (q + 1 + 1 + 1 + 1)))
      clear R4 G4 U4
      go_wp2
      clear hfr hcell
      go_roundw
      case rel =>
        refine ⟨j + 1, (((((cs.set j ⟨q, s.pX, s.pY, s.pTick, s.pError⟩).set j ⟨q, q + 1, s.pY, s.pTick, s.pError⟩).set j ⟨q, q + 1, q + 1 + 1, s.pTick, s.pError⟩).set j ⟨q, q + 1, q + 1 + 1, q + 1 + 1 + 1, s.pError⟩).set j ⟨q, q + 1, q + 1 + 1, q + 1 + 1 + 1, q + 1 + 1 + 1 + 1⟩), by omega, by go_num, (by have e := HQ.out; simp only [Value.int.injEq, true_and]; omega), by simp [hl'.out], ?_, R5.out, U5.out⟩
        intro i hi
        by_cases hij : j = i
        · subst hij; rw [HQ.out]; exact G5.out
        · simp only [List.getElem?_set_ne hij]; exact HM.out i (by omega)
      case measure => simp [intOf]; omega
    · obtain rfl : j = ss.length := by omega
      have hcm := eq_marksArrival hl hm
      have HC := Lib.hid hcm
      clear hcm hl hm
      go_wp2
      go_ret
      refine ⟨rfl, ?_, hbl⟩
      rw [← HC.out]; exact hown
set_option maxRecDepth 100000 in
set_option maxHeartbeats 2000000 in
theorem heldArrivalS_any (n : Nat) (v : Value) (k : Int) (w : World) (B : Nat) (h : ArrivalL w B v (marksArrival k n)) (hB : B ≤ w.heap.size) (hn : n ≤ 1048576) (h0 : 0 ≤ k) (h1 : k ≤ 100000000000) :
    Calls Try.prog 37 #[v, .int .i64 k] w fun e w' => e = .returned (.int .i64 (k + 5 * n)) ∧ Below w.heap.size w w' := by
  obtain ⟨ao, cap, rfl, hcap, hmax, -, hc⟩ := h
  rw [marksArrival_len] at hcap ⊢
  unfold maxLen at hmax
  go_enter Try.func37, Try.ntmps37
  go_wp2
  go_loopw [1, 5] (fun m i wr => ∃ (j : Nat), j ≤ n ∧ i = .int .i64 j ∧ m = .int .i64 (k + 5 * j) ∧ Below w.heap.size w wr)
    (fun _ i _ => n - (intOf i).toNat)
  case atStart => exact ⟨0, Nat.zero_le _, rfl, by simp, Below.refl _ _⟩
  case round =>
    obtain ⟨j, hj, rfl, rfl, hbl⟩ := hrel
    have hsz := hbl.size
    by_cases hlt : j < n
    · obtain ⟨b, off, rfl, hb, hcell⟩ := hc j _ (marksArrival_get hlt)
      clear hc
      generalize hq : (k + 5 * (j : Int)) = q at *
      have HQ := Lib.hid hq
      have hq0 : 0 ≤ q := by omega
      have hq1 : q ≤ 101000000000 := by omega
      have hi0 : (0 : Int) ≤ (j : Int) := by omega
      have hi1 : (j : Int) < (n : Int) := by omega
      clear hq
      have c0 : wr.cell? ⟨b, off + j * 5, none⟩ = some (.int .i64 (q)) := cellOf hbl (by omega) (hcell 0 _ rfl)
      have c1 : wr.cell? ⟨b, off + j * 5 + 1, none⟩ = some (.int .i64 (q + 1)) := cellOf hbl (by omega) (hcell 1 _ rfl)
      have c2 : wr.cell? ⟨b, off + j * 5 + 2, none⟩ = some (.int .i64 (q + 1 + 1)) := cellOf hbl (by omega) (hcell 2 _ rfl)
      have c3 : wr.cell? ⟨b, off + j * 5 + 3, none⟩ = some (.int .i64 (q + 1 + 1 + 1)) := cellOf hbl (by omega) (hcell 3 _ rfl)
      have c4 : wr.cell? ⟨b, off + j * 5 + 4, none⟩ = some (.int .i64 (q + 1 + 1 + 1 + 1)) := cellOf hbl (by omega) (hcell 4 _ rfl)
      have hbs0 : b < wr.heap.size := by omega
      clear hcell
      go_wp2
      go_roundw
      case rel => exact ⟨j + 1, by omega, by go_num, (by have e := HQ.out; simp only [Value.int.injEq, true_and]; omega), hbl⟩
      case measure => simp [intOf]; omega
    · obtain rfl : j = n := by omega
      go_wp2
      go_ret
      exact ⟨rfl, hbl⟩
theorem oneArrival (xs : List GArrival) : ∀ u ∈ xs.flatMap encArrival, u.oneCell' = true := by
  intro u hu
  obtain ⟨x, _, hx⟩ := List.mem_flatMap.1 hu
  simp only [encArrival, List.mem_cons, List.not_mem_nil, or_false] at hx
  rcases hx with rfl | rfl | rfl | rfl | rfl <;> rfl
theorem cloneArrival (xs : List GArrival) (v : Value) (w : World) (B : Nat) (h : ArrivalL w B v xs) (hB : B ≤ w.heap.size) (hn : xs.length ≤ 1048576) :
    Calls Try.prog 102 #[v] w fun e w' => ∃ v', e = .returned v' ∧ ArrivalO w' w.heap.size w'.heap.size v' xs ∧ Below w.heap.size w w' := by
  obtain ⟨ti, hi, hz0, hz1, hz2⟩ := info_parts info_Arrival
  have hrow := rowK_empty w (base := w.heap.size) 28 5 (Nat.le_refl _)
  have hnil := fun (W : World) (a : Option Addr) (l c : Nat) => Lib.run_eql_slice_nil (P := Try.prog) W 37 28 a l c 0 0 Try.underlying37
  rcases h.split encArrival_len (by omega) with ⟨rfl, rfl⟩ | ⟨a, cap, rfl, _, _, hc⟩
  · go_enter Try.func102, Try.ntmps102
    go_wp2
    go_ret
    exact ⟨_, rfl, OwnK.of_row encArrival_len (by omega) (World.ownsRow_nil _ _ 28 5), Below.refl _ _⟩
  · have HC := Lib.hid (fun j u (hu : (xs.flatMap encArrival)[j]? = some u) => (((Below.refl B w).alloc hB (.cells #[] 28)).cell (hc j u hu).1).trans (hc j u hu).2)
    have H1 := Lib.hid (oneArrival xs)
    have HL : Hid ((xs.flatMap encArrival).length = xs.length * 5) := Lib.hid (flat_len encArrival_len xs)
    clear hc h
    go_enter Try.func102, Try.ntmps102
    go_wp2_with (at_builtin; refine wpList_append_own _ rfl _ _ 37 rfl w.heap.size 28 ti (.agg #[.int .i64 0, .int .i64 0, .int .i64 0, .int .i64 0, .int .i64 0]) 5 40 Try.underlying37 hi hz0 hz1 hz2 rfl (by decide) _ 0 [] rfl hrow a xs.length _ (xs.flatMap encArrival) rfl HL.out HC.out H1.out (by unfold maxLen; omega) (by omega) (by simp) ?_; intro v' w1 hown hg _)
    go_ret
    have ho : w1.ownsRow w.heap.size 28 5 v' xs.length (xs.flatMap encArrival) := by simpa using hown
    exact ⟨_, rfl, OwnK.of_row encArrival_len (by omega) ho, below_appK hg (by intro g e; cases e; exact Nat.le_refl _)⟩
def wfArrival (s : GArrival) : Prop := I64 s.pId ∧ I64 s.pX ∧ I64 s.pY ∧ I64 s.pTick ∧ I64 s.pError
set_option maxRecDepth 100000 in
theorem cells_Arrival {H : Type} {enc : TypeId × Value → H} {w : World} (n : Nat) (cs : List Value) (x : DataW H × List MemPlace) (h : DataW.trod enc Try.prog w 0 (fun _ => true) true n 23 cs = some x) : ∃ s, cs = encArrival s ∧ wfArrival s := by
  obtain ⟨ys, m, _, _, hlen, hyl, hf⟩ := DataW.trod_struct Try.underlying23 h
  have hlen : cs.length = 5 := hlen.trans (by kernel_rfl)
  obtain ⟨c0, y0, e0, t0⟩ := field_cell (by kernel_rfl) hlen hyl hf 0 _ rfl
  obtain ⟨a0, g0, _, b0⟩ := DataW.trod_int Try.underlying3 t0
  simp only [List.cons.injEq, and_true] at g0
  subst g0
  obtain ⟨c1, y1, e1, t1⟩ := field_cell (by kernel_rfl) hlen hyl hf 1 _ rfl
  obtain ⟨a1, g1, _, b1⟩ := DataW.trod_int Try.underlying3 t1
  simp only [List.cons.injEq, and_true] at g1
  subst g1
  obtain ⟨c2, y2, e2, t2⟩ := field_cell (by kernel_rfl) hlen hyl hf 2 _ rfl
  obtain ⟨a2, g2, _, b2⟩ := DataW.trod_int Try.underlying3 t2
  simp only [List.cons.injEq, and_true] at g2
  subst g2
  obtain ⟨c3, y3, e3, t3⟩ := field_cell (by kernel_rfl) hlen hyl hf 3 _ rfl
  obtain ⟨a3, g3, _, b3⟩ := DataW.trod_int Try.underlying3 t3
  simp only [List.cons.injEq, and_true] at g3
  subst g3
  obtain ⟨c4, y4, e4, t4⟩ := field_cell (by kernel_rfl) hlen hyl hf 4 _ rfl
  obtain ⟨a4, g4, _, b4⟩ := DataW.trod_int Try.underlying3 t4
  simp only [List.cons.injEq, and_true] at g4
  subst g4
  refine ⟨⟨a0, a1, a2, a3, a4⟩, ?_, bounds_i64 b0, bounds_i64 b1, bounds_i64 b2, bounds_i64 b3, bounds_i64 b4⟩
  apply List.ext_getElem?
  intro i
  match i with
  | 0 => exact e0
  | 1 => exact e1
  | 2 => exact e2
  | 3 => exact e3
  | 4 => exact e4
  | i + 5 => rw [List.getElem?_eq_none (by omega), List.getElem?_eq_none (by rw [encArrival_len]; omega)]
set_option maxRecDepth 100000 in
theorem open_ArrivalS {H : Type} {enc : TypeId × Value → H} {w : World} {base : Nat} {v : Value} {d : DataW H} {ps : List MemPlace}
    (hval : Value.okWide Try.prog w .any base 33 v) (hd : DataW.Trod enc Try.prog w 0 (fun _ => true) true 33 v d ps) : ∃ xs : List GArrival, ArrivalL w w.heap.size v xs ∧ ∀ x ∈ xs, wfArrival x :=
  rows_of encArrival 5 encArrival_len (by omega) wfArrival Try.underlying33 (by kernel_rfl) (fun n cs x h => cells_Arrival n cs x h) hval hd
/-- One of them, by value. -/
def ArrivalVL (_ : World) (_ : Nat) (v : Value) (s : GArrival) : Prop := v = .agg #[.int .i64 s.pId, .int .i64 s.pX, .int .i64 s.pY, .int .i64 s.pTick, .int .i64 s.pError]
def ArrivalVO (_ : World) (_ _ : Nat) (v : Value) (s : GArrival) : Prop := v = .agg #[.int .i64 s.pId, .int .i64 s.pX, .int .i64 s.pY, .int .i64 s.pTick, .int .i64 s.pError]
theorem ArrivalVO.lst {w : World} {L B : Nat} {v : Value} {s : GArrival} (h : ArrivalVO w L B v s) : ArrivalVL w B v s := h
theorem ArrivalVL.below {w w' : World} {B : Nat} {v : Value} {s : GArrival} (h : ArrivalVL w B v s) (_ : Below B w w') : ArrivalVL w' B v s := h
theorem ArrivalVL.mono {w : World} {B B' : Nat} {v : Value} {s : GArrival} (h : ArrivalVL w B v s) (_ : B ≤ B') : ArrivalVL w B' v s := h
theorem ArrivalVO.below {w w' : World} {L B : Nat} {v : Value} {s : GArrival} (h : ArrivalVO w L B v s) (_ : Below B w w') : ArrivalVO w' L B v s := h
theorem ArrivalVO.mono {w : World} {L B L' B' : Nat} {v : Value} {s : GArrival} (h : ArrivalVO w L B v s) (_ : L' ≤ L) (_ : B ≤ B') : ArrivalVO w L' B' v s := h
theorem ArrivalVO.high {w w' : World} {L B L' U' : Nat} {v : Value} {s : GArrival} (h : ArrivalVO w L B v s) (_ : Upd L' U' w w') (_ : U' ≤ L) : ArrivalVO w' L B v s := h
theorem ArrivalVL.form {w : World} {B : Nat} {v : Value} {s : GArrival} (h : ArrivalVL w B v s) : v = .agg #[.int .i64 s.pId, .int .i64 s.pX, .int .i64 s.pY, .int .i64 s.pTick, .int .i64 s.pError] := h
theorem ArrivalVO.form {w : World} {L B : Nat} {v : Value} {s : GArrival} (h : ArrivalVO w L B v s) : v = .agg #[.int .i64 s.pId, .int .i64 s.pX, .int .i64 s.pY, .int .i64 s.pTick, .int .i64 s.pError] := h
set_option maxRecDepth 100000 in
theorem open_Arrival {H : Type} {enc : TypeId × Value → H} {w : World} {base : Nat} {v : Value} {d : DataW H} {ps : List MemPlace}
    (hval : Value.okWide Try.prog w .any base 23 v) (hd : DataW.Trod enc Try.prog w 0 (fun _ => true) true 23 v d ps) : ∃ s : GArrival, ArrivalVL w w.heap.size v s ∧ wfArrival s := by
  obtain ⟨cs, rfl, hsz⟩ := okWide_struct Try.underlying23 hval
  obtain ⟨fuel, hf⟩ := hd
  obtain ⟨s, h, hw⟩ := cells_Arrival _ _ _ hf
  refine ⟨s, ?_, hw⟩
  obtain ⟨l⟩ := cs
  have h : l = encArrival s := h
  subst h
  rfl
theorem to_Arrival (s : GArrival) (v : Value) (w : World) (B : Nat) (h : ArrivalVL w B v s) (_ : B ≤ w.heap.size) (_ : sz1Arrival s ≤ 1048576) :
    Calls Try.prog 14 #[v] w fun e w' => ∃ v', e = .returned v' ∧ ArrivalVO w' w.heap.size w'.heap.size v' s ∧ Below w.heap.size w w' := by
  obtain rfl := h.form
  exact (toArrival_any s w).mono fun e w' ⟨h1, h2⟩ => ⟨_, h1, rfl, h2⟩
theorem eq_Arrival (s : GArrival) (v v2 : Value) (w : World) (B : Nat) (h : ArrivalVL w B v s) (h2 : ArrivalVL w B v2 s) (_ : B ≤ w.heap.size) :
    Calls Try.prog 65 #[v, v2] w fun e w' => e = .returned (.bool true) ∧ Below w.heap.size w w' := by
  obtain rfl := h.form
  obtain rfl := h2.form
  exact eqArrival_any s w
theorem sz_ArrivalS (xs : List GArrival) (v : Value) (left : Int) (w : World) (B : Nat) (h : ArrivalL w B v xs) (hB : B ≤ w.heap.size) (h0 : 0 ≤ left) (h1 : left ≤ 1048576) (ht : (szsArrival xs : Int) ≤ left) :
    Calls Try.prog 17 #[v, .int .i64 left] w fun e w' => e = .returned (.int .i64 (left - szsArrival xs)) ∧ Below w.heap.size w w' := szArrivalS_le0 xs v left w B h hB h0 h1 ht
theorem szgt_ArrivalS (xs : List GArrival) (v : Value) (left : Int) (w : World) (B : Nat) (h : ArrivalL w B v xs) (hB : B ≤ w.heap.size) (h0 : 0 ≤ left) (h1 : left ≤ 1048576) (ht : left < (szsArrival xs : Int)) (hw : ∀ s ∈ xs, wfArrival s) :
    Calls Try.prog 17 #[v, .int .i64 left] w fun e w' => e = .returned (.int .i64 (-1)) ∧ Below w.heap.size w w' := szArrivalS_gt0 xs v left w B h hB h0 h1  ht
theorem to_ArrivalS (xs : List GArrival) (v : Value) (w : World) (B : Nat) (h : ArrivalL w B v xs) (hB : B ≤ w.heap.size) (hn : szsArrival xs ≤ 1048576) :
    Calls Try.prog 19 #[v] w fun e w' => ∃ v', e = .returned v' ∧ ArrivalO w' w.heap.size w'.heap.size v' xs ∧ Below w.heap.size w w' := toArrivalS_any xs v w B h hB (Nat.le_trans (szsArrival_len xs) hn)
theorem eq_ArrivalS (xs : List GArrival) (v v2 : Value) (w : World) (B : Nat) (h : ArrivalL w B v xs) (h2 : ArrivalL w B v2 xs) (hB : B ≤ w.heap.size) :
    Calls Try.prog 21 #[v, v2] w fun e w' => e = .returned (.bool true) ∧ Below w.heap.size w w' := eqArrivalS_any xs v v2 w B h h2 hB
theorem mark_ArrivalS (xs : List GArrival) (v : Value) (k : Int) (w : World) (L B : Nat) (h : ArrivalO w L B v xs) (hB : B ≤ w.heap.size) (hn : szsArrival xs ≤ 1048576) (h0 : 0 ≤ k) (h1 : k ≤ 100000000000) :
    Calls Try.prog 25 #[v, .int .i64 k] w fun e w' => e = .returned (.int .i64 (k + 5 * xs.length)) ∧ ArrivalO w' L B v (marksArrival k xs.length) ∧ Upd L B w w' := markArrivalS_any xs v k w L B h hB (Nat.le_trans (szsArrival_len xs) hn) h0 h1
theorem held_ArrivalS (xs : List GArrival) (v : Value) (k : Int) (w : World) (B : Nat) (h : ArrivalL w B v (marksArrival k xs.length)) (hB : B ≤ w.heap.size) (hn : szsArrival xs ≤ 1048576) (h0 : 0 ≤ k) (h1 : k ≤ 100000000000) :
    Calls Try.prog 37 #[v, .int .i64 k] w fun e w' => e = .returned (.int .i64 (k + 5 * xs.length)) ∧ Below w.heap.size w w' := heldArrivalS_any xs.length v k w B h hB (Nat.le_trans (szsArrival_len xs) hn) h0 h1
end Go.Proofs.Ytoogofceoinniab
