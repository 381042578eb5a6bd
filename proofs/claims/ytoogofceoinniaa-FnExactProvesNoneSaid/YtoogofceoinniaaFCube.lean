/- Cube: what it reads as; the laws' helpers on it and on slices of it. -/
import Derived.Test.YtoogofceoinniaaFlat
import Derived.Handy
import Derived.Deep.Slices
import Derived.Deep.Fields
namespace Go.Proofs.Ytoogofceoinniaa
open Go.ChangeShapes Go.WideShapes Go.ChangeAt Go.RowKit Go.ChangeMaps
set_option linter.unusedSimpArgs false
set_option linter.unusedVariables false

structure GCube where
  pWest : Int
  pSouth : Int
  pSide : Int
  pFrom : Int
  pTo : Int
def encCube (s : GCube) : List Value := [.int .i64 s.pWest, .int .i64 s.pSouth, .int .i64 s.pSide, .int .i64 s.pFrom, .int .i64 s.pTo]
theorem encCube_len : ∀ s, (encCube s).length = 5 := fun _ => rfl
def zeroCube : GCube := ⟨0, 0, 0, 0, 0⟩
abbrev CubeL (w : World) (B : Nat) (v : Value) (xs : List GCube) : Prop := LstK encCube 5 w B v xs
abbrev CubeO (w : World) (L B : Nat) (v : Value) (xs : List GCube) : Prop := OwnK encCube 5 w L B v xs
def sz1Cube (s : GCube) : Nat := 0
def szsCube (xs : List GCube) : Nat := (xs.map fun s => 1 + sz1Cube s).sum
theorem szsCube_len (xs : List GCube) : xs.length ≤ szsCube xs := by
  unfold szsCube
  induction xs with
  | nil => simp
  | cons a l ih => simp only [List.map_cons, List.sum_cons, List.length_cons]; omega
theorem szsCube_mem {xs : List GCube} {s : GCube} (h : s ∈ xs) : sz1Cube s ≤ szsCube xs := by
  unfold szsCube
  induction xs with
  | nil => simp at h
  | cons a l ih =>
    simp only [List.map_cons, List.sum_cons]
    rcases List.mem_cons.1 h with rfl | h
    · omega
    · have := ih h; omega
theorem szsCube_split (xs : List GCube) : szsCube xs = xs.length := by
  unfold szsCube
  induction xs with
  | nil => simp
  | cons a l ih => rw [List.map_cons, List.sum_cons, List.length_cons, ih]; unfold sz1Cube; omega

/-- One of them by value. -/
def CubeV (v : Value) (s : GCube) : Prop := v = .agg #[.int .i64 s.pWest, .int .i64 s.pSouth, .int .i64 s.pSide, .int .i64 s.pFrom, .int .i64 s.pTo]
set_option maxHeartbeats 800000 in
theorem toCube_any (s : GCube) (w : World) :
    Calls Try.prog 14 #[.agg #[.int .i64 s.pWest, .int .i64 s.pSouth, .int .i64 s.pSide, .int .i64 s.pFrom, .int .i64 s.pTo]] w fun e w' => e = .returned (.agg #[.int .i64 s.pWest, .int .i64 s.pSouth, .int .i64 s.pSide, .int .i64 s.pFrom, .int .i64 s.pTo]) ∧ Below w.heap.size w w' := by
  go_enter Try.func14, Try.ntmps14
  go_wp2
  refine bodyPost_ret (v := .agg #[.int .i64 s.pWest, .int .i64 s.pSouth, .int .i64 s.pSide, .int .i64 s.pFrom, .int .i64 s.pTo]) (by simp [results, Try.results14, go_sem]) rfl ⟨rfl, ?_⟩
  first
    | exact (((Below.refl _ w).alloc (Nat.le_refl _) _).alloc (by first | omega | (simp; done) | (simp; omega)) _).alloc (by first | omega | (simp; done) | (simp; omega)) _
    | (repeat (first | exact (((Below.refl _ w).alloc (Nat.le_refl _) _).alloc (by first | omega | (simp; done) | (simp; omega)) _).alloc (by first | omega | (simp; done) | (simp; omega)) _ | (refine Below.setCell ?_ (by first | omega | (simp; done) | (simp; omega)) _)))
set_option maxHeartbeats 800000 in
theorem eqCube_any (s : GCube) (w : World) :
    Calls Try.prog 63 #[.agg #[.int .i64 s.pWest, .int .i64 s.pSouth, .int .i64 s.pSide, .int .i64 s.pFrom, .int .i64 s.pTo], .agg #[.int .i64 s.pWest, .int .i64 s.pSouth, .int .i64 s.pSide, .int .i64 s.pFrom, .int .i64 s.pTo]] w fun e w' => e = .returned (.bool true) ∧ Below w.heap.size w w' := by
  go_enter Try.func63, Try.ntmps63
  go_wp2
  go_ret
  exact ⟨rfl, ((Below.refl _ w).alloc (Nat.le_refl _) _).alloc (by first | omega | (simp; done) | (simp; omega)) _⟩

theorem info_Cube : (Try.prog.info? 25).map (fun i => (i.zero, i.size, i.bytes)) = some (some (.agg #[.int .i64 0, .int .i64 0, .int .i64 0, .int .i64 0, .int .i64 0]), 5, 40) := by kernel_rfl
set_option maxHeartbeats 800000 in
theorem szCubeS_le0 (xs : List GCube) (v : Value) (left : Int) (w : World) (B : Nat) (h : CubeL w B v xs) (hB : B ≤ w.heap.size) (h0 : 0 ≤ left) (h1 : left ≤ 1048576) (ht : (szsCube xs : Int) ≤ left) :
    Calls Try.prog 38 #[v, .int .i64 left] w fun e w' => e = .returned (.int .i64 (left - szsCube xs)) ∧ Below w.heap.size w w' := by
  obtain ⟨ao, cap, rfl, hcap, hmax, -, hc⟩ := h
  unfold maxLen at hmax
  rw [szsCube_split] at *
  clear hc
  go_enter Try.func38, Try.ntmps38
  have hd : ¬ left - (xs.length : Int) < 0 := by omega
  go_wp2
  go_ret
  exact ⟨rfl, Below.refl _ _⟩
set_option maxHeartbeats 800000 in
theorem szCubeS_gt0 (xs : List GCube) (v : Value) (left : Int) (w : World) (B : Nat) (h : CubeL w B v xs) (hB : B ≤ w.heap.size) (h0 : 0 ≤ left) (h1 : left ≤ 1048576) (ht : left < (szsCube xs : Int)) :
    Calls Try.prog 38 #[v, .int .i64 left] w fun e w' => e = .returned (.int .i64 (-1)) ∧ Below w.heap.size w w' := by
  obtain ⟨ao, cap, rfl, hcap, hmax, -, hc⟩ := h
  unfold maxLen at hmax
  rw [szsCube_split] at *
  clear hc
  go_enter Try.func38, Try.ntmps38
  go_wp2
  go_ret
  exact ⟨rfl, Below.refl _ _⟩
set_option maxHeartbeats 1000000 in
theorem toCubeS_any (xs : List GCube) (v : Value) (w : World) (B : Nat) (h : CubeL w B v xs) (hB : B ≤ w.heap.size) (hn : xs.length ≤ 1048576) :
    Calls Try.prog 40 #[v] w fun e w' => ∃ v', e = .returned v' ∧ CubeO w' w.heap.size w'.heap.size v' xs ∧ Below w.heap.size w w' := by
  obtain ⟨ao, cap, rfl, hcap, hmax, -, hc⟩ := h
  unfold maxLen at hmax
  obtain ⟨ti, hi, hz0, hz1, hz2⟩ := info_parts info_Cube
  have hnm : xs.length ≤ maxLen := by unfold maxLen; omega
  go_enter Try.func40, Try.ntmps40
  go_wp2_with (at_make; refine wpList_make_full _ rfl _ _ 39 rfl w.heap.size 25 ti (.agg #[.int .i64 0, .int .i64 0, .int .i64 0, .int .i64 0, .int .i64 0]) 5 Try.underlying39 hi hz0 hz1 .i64 .i64 _ _ xs.length rfl rfl rfl rfl (by rw [hz2]; omega) hnm (Nat.le_refl _) ?_; intro w1 hown hgrow)
  have hb1 : Below w.heap.size w w1 := (Below.refl _ _).grown hgrow (Nat.le_refl _) (by simp)
  have hown2 : w1.ownsRow w.heap.size 25 5 (.slice (some ⟨w.heap.size, 0, none⟩) xs.length xs.length) xs.length ((List.replicate xs.length zeroCube).flatMap encCube) := by
    rw [← made_flat encCube_len (by omega) #[.int .i64 0, .int .i64 0, .int .i64 0, .int .i64 0, .int .i64 0] zeroCube rfl xs.length]
    exact hown
  have hO : CubeO w1 w.heap.size w1.heap.size (.slice (some ⟨w.heap.size, 0, none⟩) xs.length xs.length) (List.replicate xs.length zeroCube) := by
    have := OwnK.of_row encCube_len (by omega) hown2
    simpa using this
  clear hown hown2
  go_loopw [4] (fun i wr => ∃ (k : Nat) (ys : List GCube), k ≤ xs.length ∧ i = .int .i64 k ∧ CubeO wr w.heap.size wr.heap.size (.slice (some ⟨w.heap.size, 0, none⟩) xs.length xs.length) ys ∧ ys.length = xs.length ∧ ys.take k = xs.take k ∧ Below w.heap.size w wr)
    (fun i _ => xs.length - (intOf i).toNat)
  case atStart => exact ⟨0, _, Nat.zero_le _, rfl, hO, by simp, rfl, hb1⟩
  case round =>
    obtain ⟨k, ys, hk, rfl, hrow, hyl, hys, hbl⟩ := hrel
    clear hO hb1
    have HY := Lib.hid hys
    have HL := Lib.hid hyl
    clear hys hyl
    by_cases hlt : k < xs.length
    · obtain ⟨s, hs⟩ := get_of_lt hlt
      obtain ⟨b, off, rfl, hb, hcell⟩ := hc k s hs
      obtain ⟨y, hy⟩ : ∃ y, ys[k]? = some y := get_of_lt (by rw [HL.out]; omega)
      have c0 : wr.cell? ⟨b, off + k * 5, none⟩ = some (.int .i64 s.pWest) := cellOf hbl (by omega) (hcell 0 _ rfl)
      have c1 : wr.cell? ⟨b, off + k * 5 + 1, none⟩ = some (.int .i64 s.pSouth) := cellOf hbl (by omega) (hcell 1 _ rfl)
      have c2 : wr.cell? ⟨b, off + k * 5 + 2, none⟩ = some (.int .i64 s.pSide) := cellOf hbl (by omega) (hcell 2 _ rfl)
      have c3 : wr.cell? ⟨b, off + k * 5 + 3, none⟩ = some (.int .i64 s.pFrom) := cellOf hbl (by omega) (hcell 3 _ rfl)
      have c4 : wr.cell? ⟨b, off + k * 5 + 4, none⟩ = some (.int .i64 s.pTo) := cellOf hbl (by omega) (hcell 4 _ rfl)
      have HS := Lib.hid hs
      have HYY := Lib.hid hy
      clear hs hy hcell hc
      go_wp2_with fail
      refine (toCube_any s _).mono ?_
      rintro e w2 ⟨rfl, hb2⟩
      have hz2 := hb2.size
      have hr2 := hrow.below hb2
      have hbl2 := hbl.trans (hb2.mono hbl.size)
      clear hb2 hrow hbl
      obtain ⟨ao3, cap3, e3, _, _, _, h3⟩ := id hr2
      obtain ⟨b3, off3, e4, _, hB3, hz3, hc3, hf3⟩ := h3 k y HYY.out
      rw [e4] at e3
      simp only [Value.slice.injEq, Option.some.injEq, Addr.mk.injEq] at e3
      obtain ⟨⟨rfl, rfl, -⟩, -, -⟩ := e3
      have o0 : w2.cell? ⟨w.heap.size, k * 5, none⟩ = some (.int .i64 y.pWest) := by have := hc3 0 _ rfl; simpa using this
      have o1 : w2.cell? ⟨w.heap.size, k * 5 + 1, none⟩ = some (.int .i64 y.pSouth) := by have := hc3 1 _ rfl; simpa using this
      have o2 : w2.cell? ⟨w.heap.size, k * 5 + 2, none⟩ = some (.int .i64 y.pSide) := by have := hc3 2 _ rfl; simpa using this
      have o3 : w2.cell? ⟨w.heap.size, k * 5 + 3, none⟩ = some (.int .i64 y.pFrom) := by have := hc3 3 _ rfl; simpa using this
      have o4 : w2.cell? ⟨w.heap.size, k * 5 + 4, none⟩ = some (.int .i64 y.pTo) := by have := hc3 4 _ rfl; simpa using this
      have hr3 := hr2.put encCube_len rfl HYY.out (ad := k * 5) (by omega) s
      have hbl3 := below_putCells hbl2 (b := w.heap.size) (Nat.le_refl _) (k * 5) (encCube s) 0
      have HR := Lib.hid hr3
      clear hr2 hr3 hc3 h3 e4
      go_wp2
      go_roundw
      case rel =>
        refine ⟨k + 1, ys.set k s, by omega, by go_num, ?_, by simp [HL.out], ?_, hbl3⟩
        · exact HR.out.mono (Nat.le_refl _) (by simp [World.setCell]; exact hz2)
        · rw [take_snoc HS.out, take_snoc (l := ys.set k s) (x := s) (by rw [List.getElem?_set_self]; rw [HL.out]; omega), List.take_set_of_le (by omega), HY.out]
      case measure => simp [intOf]; omega
    · go_wp2
      go_ret
      refine ⟨_, rfl, ?_, hbl⟩
      have := HY.out
      rw [take_all hlt, take_all (by rw [HL.out]; exact hlt)] at this
      rw [this] at hrow
      exact hrow
set_option maxHeartbeats 2000000 in
theorem eqCubeS_any (xs : List GCube) (v v2 : Value) (w : World) (B : Nat) (h : CubeL w B v xs) (h2 : CubeL w B v2 xs) (hB : B ≤ w.heap.size) :
    Calls Try.prog 25 #[v, v2] w fun e w' => e = .returned (.bool true) ∧ Below w.heap.size w w' := by
  obtain ⟨ao, cap, rfl, hcap, hmax, -, hc⟩ := h
  obtain ⟨ao2, cap2, rfl, hcap2, hmax2, -, hc2⟩ := h2
  unfold maxLen at hmax hmax2
  go_enter Try.func25, Try.ntmps25
  go_wp2
  go_loopw [5] (fun i wr => ∃ (k : Nat), k ≤ xs.length ∧ i = .int .i64 k ∧ Below w.heap.size w wr)
    (fun i _ => xs.length - (intOf i).toNat)
  case atStart => exact ⟨0, Nat.zero_le _, rfl, Below.refl _ _⟩
  case round =>
    obtain ⟨k, hk, rfl, hbl⟩ := hrel
    have hsz := hbl.size
    by_cases hlt : k < xs.length
    · obtain ⟨s, hs⟩ := get_of_lt hlt
      obtain ⟨b, off, rfl, hb, hcell⟩ := hc k s hs
      obtain ⟨b2, off2, rfl, hb2, hcell2⟩ := hc2 k s hs
      have c0 : wr.cell? ⟨b, off + k * 5, none⟩ = some (.int .i64 s.pWest) := cellOf hbl (by omega) (hcell 0 _ rfl)
      have c1 : wr.cell? ⟨b, off + k * 5 + 1, none⟩ = some (.int .i64 s.pSouth) := cellOf hbl (by omega) (hcell 1 _ rfl)
      have c2 : wr.cell? ⟨b, off + k * 5 + 2, none⟩ = some (.int .i64 s.pSide) := cellOf hbl (by omega) (hcell 2 _ rfl)
      have c3 : wr.cell? ⟨b, off + k * 5 + 3, none⟩ = some (.int .i64 s.pFrom) := cellOf hbl (by omega) (hcell 3 _ rfl)
      have c4 : wr.cell? ⟨b, off + k * 5 + 4, none⟩ = some (.int .i64 s.pTo) := cellOf hbl (by omega) (hcell 4 _ rfl)
      have d0 : wr.cell? ⟨b2, off2 + k * 5, none⟩ = some (.int .i64 s.pWest) := cellOf hbl (by omega) (hcell2 0 _ rfl)
      have d1 : wr.cell? ⟨b2, off2 + k * 5 + 1, none⟩ = some (.int .i64 s.pSouth) := cellOf hbl (by omega) (hcell2 1 _ rfl)
      have d2 : wr.cell? ⟨b2, off2 + k * 5 + 2, none⟩ = some (.int .i64 s.pSide) := cellOf hbl (by omega) (hcell2 2 _ rfl)
      have d3 : wr.cell? ⟨b2, off2 + k * 5 + 3, none⟩ = some (.int .i64 s.pFrom) := cellOf hbl (by omega) (hcell2 3 _ rfl)
      have d4 : wr.cell? ⟨b2, off2 + k * 5 + 4, none⟩ = some (.int .i64 s.pTo) := cellOf hbl (by omega) (hcell2 4 _ rfl)
      have hi0 : (0 : Int) ≤ (k : Int) := by omega
      have hi1 : (k : Int) < (xs.length : Int) := by omega
      have hbs : b < wr.heap.size := by omega
      have hbs2 : b2 < wr.heap.size := by omega
      clear hs hcell hcell2 hc hc2
      go_wp2
      go_region_held3 (fun w' => Below wr.heap.size wr w' ∧ w'.cell? ⟨b, off + k * 5, none⟩ = some (.int .i64 s.pWest) ∧ w'.cell? ⟨b, off + k * 5 + 1, none⟩ = some (.int .i64 s.pSouth) ∧ w'.cell? ⟨b, off + k * 5 + 2, none⟩ = some (.int .i64 s.pSide) ∧ w'.cell? ⟨b, off + k * 5 + 3, none⟩ = some (.int .i64 s.pFrom) ∧ w'.cell? ⟨b, off + k * 5 + 4, none⟩ = some (.int .i64 s.pTo) ∧ w'.cell? ⟨b2, off2 + k * 5, none⟩ = some (.int .i64 s.pWest) ∧ w'.cell? ⟨b2, off2 + k * 5 + 1, none⟩ = some (.int .i64 s.pSouth) ∧ w'.cell? ⟨b2, off2 + k * 5 + 2, none⟩ = some (.int .i64 s.pSide) ∧ w'.cell? ⟨b2, off2 + k * 5 + 3, none⟩ = some (.int .i64 s.pFrom) ∧ w'.cell? ⟨b2, off2 + k * 5 + 4, none⟩ = some (.int .i64 s.pTo))
        (first
          | exact ⟨(Below.refl _ _).drew, c0, c1, c2, c3, c4, d0, d1, d2, d3, d4⟩
          | (have q := (Below.refl wr.heap.size wr).drew.trans hq; exact ⟨q, cellOf q hbs c0, cellOf q hbs c1, cellOf q hbs c2, cellOf q hbs c3, cellOf q hbs c4, cellOf q hbs2 d0, cellOf q hbs2 d1, cellOf q hbs2 d2, cellOf q hbs2 d3, cellOf q hbs2 d4⟩))
        (first | (go_at_call 63; refine (eqCube_any s _).mono ?_; rintro e w2 ⟨rfl, hq⟩))
      go_wp2
      go_roundw
      case rel => exact ⟨k + 1, by omega, by go_num, hbl.trans (((Below.refl wr.heap.size wr).drew.trans hq).mono (by omega))⟩
      case measure => simp [intOf]; omega
    · go_wp2
      go_ret
      exact ⟨rfl, hbl⟩
def mkCube (k : Int) : GCube := ⟨k, k + 1, k + 1 + 1, k + 1 + 1 + 1, k + 1 + 1 + 1 + 1⟩
def marksCube (k : Int) (n : Nat) : List GCube := (List.range n).map fun (i : Nat) => mkCube (k + 5 * i)
theorem marksCube_get {k : Int} {n i : Nat} (h : i < n) : (marksCube k n)[i]? = some (mkCube (k + 5 * i)) := by simp [marksCube, h]
theorem marksCube_len (k : Int) (n : Nat) : (marksCube k n).length = n := by simp [marksCube]
theorem eq_marksCube {k : Int} {n : Nat} {cs : List GCube} (hl : cs.length = n) (h : ∀ i, i < n → cs[i]? = some (mkCube (k + 5 * i))) : cs = marksCube k n := by
  apply List.ext_getElem?
  intro i
  by_cases hi : i < n
  · rw [h i hi, marksCube_get hi]
  · rw [List.getElem?_eq_none (by omega), List.getElem?_eq_none (by rw [marksCube_len]; omega)]
set_option maxHeartbeats 2000000 in
theorem markCubeS_any (ss : List GCube) (v : Value) (k : Int) (w : World) (L B : Nat) (h : CubeO w L B v ss) (hB : B ≤ w.heap.size) (hn : ss.length ≤ 1048576) (h0 : 0 ≤ k) (h1 : k ≤ 100000000000) :
    Calls Try.prog 26 #[v, .int .i64 k] w fun e w' => e = .returned (.int .i64 (k + 5 * ss.length)) ∧ CubeO w' L B v (marksCube k ss.length) ∧ Upd L B w w' := by
  obtain ⟨ao, cap, rfl, hcap, hmax, -, hc⟩ := id h
  go_enter Try.func26, Try.ntmps26
  go_wp2
  go_loopw [1, 5] (fun m i wr => ∃ (j : Nat) (cs : List GCube), j ≤ ss.length ∧ i = .int .i64 j ∧ m = .int .i64 (k + 5 * j) ∧ cs.length = ss.length ∧ (∀ i, i < j → cs[i]? = some (mkCube (k + 5 * i))) ∧ CubeO wr L B (.slice ao ss.length cap) cs ∧ Upd L B w wr)
    (fun _ i _ => ss.length - (intOf i).toNat)
  case atStart => exact ⟨0, ss, Nat.zero_le _, rfl, by simp, rfl, fun i hi => by omega, h, Upd.refl _ _ _⟩
  case round =>
    obtain ⟨j, cs, hj, rfl, rfl, hl, hm, hown, hbl⟩ := hrel
    clear hc h
    by_cases hlt : j < ss.length
    · obtain ⟨s, hs⟩ := get_of_lt (l := cs) (k := j) (by omega)
      obtain ⟨ao', cap', hv', _, _, _, hc'⟩ := id hown
      have hl' := Lib.hid hl
      simp only [Value.slice.injEq] at hv'
      obtain ⟨rfl, -, rfl⟩ := hv'
      obtain ⟨b, off, rfl, hLb, hb, hbz, hcell, hfr⟩ := hc' j s hs
      have HM := Lib.hid hm
      have HH := Lib.hid hs
      clear hl hs hc' hm
      have hj1 : (j : Int) < 1048576 := by omega
      have c0 : wr.cell? ⟨b, off + j * 5, none⟩ = some (.int .i64 s.pWest) := hcell 0 _ rfl
      have c1 : wr.cell? ⟨b, off + j * 5 + 1, none⟩ = some (.int .i64 s.pSouth) := hcell 1 _ rfl
      have c2 : wr.cell? ⟨b, off + j * 5 + 2, none⟩ = some (.int .i64 s.pSide) := hcell 2 _ rfl
      have c3 : wr.cell? ⟨b, off + j * 5 + 3, none⟩ = some (.int .i64 s.pFrom) := hcell 3 _ rfl
      have c4 : wr.cell? ⟨b, off + j * 5 + 4, none⟩ = some (.int .i64 s.pTo) := hcell 4 _ rfl
      generalize hq : (k + 5 * (j : Int)) = q at *
      have HQ := Lib.hid hq
      have hq0 : 0 ≤ q := by omega
      have hq1 : q ≤ 101000000000 := by omega
      clear hq
      have hBr : B ≤ wr.heap.size := Nat.le_trans hB hbl.size
      have R0 := Lib.hid hown
      have G0 := Lib.hid HH.out
      have U0 := Lib.hid hbl
      clear hown hbl
      have R1 := Lib.hid (OwnK.set encCube_len R0.out (m := 0) rfl G0.out (by omega) (y := ⟨q, s.pSouth, s.pSide, s.pFrom, s.pTo⟩) (u := .int .i64 (q)) rfl)
      have G1 := Lib.hid (get_set_self (y := (⟨q, s.pSouth, s.pSide, s.pFrom, s.pTo⟩ : GCube)) G0.out)
      have U1 := Lib.hid (Upd.setCell U0.out (p := ⟨b, off + j * 5, none⟩) hLb hb (.int .i64 (q)))
      clear R0 G0 U0
      have R2 := Lib.hid (OwnK.set encCube_len R1.out (m := 1) rfl G1.out (by omega) (y := ⟨q, q + 1, s.pSide, s.pFrom, s.pTo⟩) (u := .int .i64 (q + 1)) rfl)
      have G2 := Lib.hid (get_set_self (y := (⟨q, q + 1, s.pSide, s.pFrom, s.pTo⟩ : GCube)) G1.out)
      have U2 := Lib.hid (Upd.setCell U1.out (p := ⟨b, off + j * 5 + 1, none⟩) hLb hb (.int .i64 (q + 1)))
      clear R1 G1 U1
      have R3 := Lib.hid (OwnK.set encCube_len R2.out (m := 2) rfl G2.out (by omega) (y := ⟨q, q + 1, q + 1 + 1, s.pFrom, s.pTo⟩) (u := .int .i64 (q + 1 + 1)) rfl)
      have G3 := Lib.hid (get_set_self (y := (⟨q, q + 1, q + 1 + 1, s.pFrom, s.pTo⟩ : GCube)) G2.out)
      have U3 := Lib.hid (Upd.setCell U2.out (p := ⟨b, off + j * 5 + 2, none⟩) hLb hb (.int .i64 (q + 1 + 1)))
      clear R2 G2 U2
      have R4 := Lib.hid (OwnK.set encCube_len R3.out (m := 3) rfl G3.out (by omega) (y := ⟨q, q + 1, q + 1 + 1, q + 1 + 1 + 1, s.pTo⟩) (u := .int .i64 (q + 1 + 1 + 1)) rfl)
      have G4 := Lib.hid (get_set_self (y := (⟨q, q + 1, q + 1 + 1, q + 1 + 1 + 1, s.pTo⟩ : GCube)) G3.out)
      have U4 := Lib.hid (Upd.setCell U3.out (p := ⟨b, off + j * 5 + 3, none⟩) hLb hb (.int .i64 (q + 1 + 1 + 1)))
      clear R3 G3 U3
      have R5 := Lib.hid (OwnK.set encCube_len R4.out (m := 4) rfl G4.out (by omega) (y := ⟨q, q + 1, q + 1 + 1, q + 1 + 1 + 1, q + 1 + 1 + 1 + 1⟩) (u := .int .i64 (q + 1 + 1 + 1 + 1)) rfl)
      have G5 := Lib.hid (get_set_self (y := (⟨q, q + 1, q + 1 + 1, q + 1 + 1 + 1, q + 1 + 1 + 1 + 1⟩ : GCube)) G4.out)
      have U5 := Lib.hid (Upd.setCell U4.out (p := ⟨b, off + j * 5 + 4, none⟩) hLb hb (.int .i64 (q + 1 + 1 + 1 + 1)))
      clear R4 G4 U4
      go_wp2
      clear hfr hcell
      go_roundw
      case rel =>
        refine ⟨j + 1, (((((cs.set j ⟨q, s.pSouth, s.pSide, s.pFrom, s.pTo⟩).set j ⟨q, q + 1, s.pSide, s.pFrom, s.pTo⟩).set j ⟨q, q + 1, q + 1 + 1, s.pFrom, s.pTo⟩).set j ⟨q, q + 1, q + 1 + 1, q + 1 + 1 + 1, s.pTo⟩).set j ⟨q, q + 1, q + 1 + 1, q + 1 + 1 + 1, q + 1 + 1 + 1 + 1⟩), by omega, by go_num, (by have e := HQ.out; simp only [Value.int.injEq, true_and]; omega), by simp [hl'.out], ?_, R5.out, U5.out⟩
        intro i hi
        by_cases hij : j = i
        · subst hij; rw [HQ.out]; exact G5.out
        · simp only [List.getElem?_set_ne hij]; exact HM.out i (by omega)
      case measure => simp [intOf]; omega
    · obtain rfl : j = ss.length := by omega
      have hcm := eq_marksCube hl hm
      have HC := Lib.hid hcm
      clear hcm hl hm
      go_wp2
      go_ret
      refine ⟨rfl, ?_, hbl⟩
      rw [← HC.out]; exact hown
set_option maxRecDepth 100000 in
set_option maxHeartbeats 2000000 in
theorem heldCubeS_any (n : Nat) (v : Value) (k : Int) (w : World) (B : Nat) (h : CubeL w B v (marksCube k n)) (hB : B ≤ w.heap.size) (hn : n ≤ 1048576) (h0 : 0 ≤ k) (h1 : k ≤ 100000000000) :
    Calls Try.prog 27 #[v, .int .i64 k] w fun e w' => e = .returned (.int .i64 (k + 5 * n)) ∧ Below w.heap.size w w' := by
  obtain ⟨ao, cap, rfl, hcap, hmax, -, hc⟩ := h
  rw [marksCube_len] at hcap ⊢
  unfold maxLen at hmax
  go_enter Try.func27, Try.ntmps27
  go_wp2
  go_loopw [1, 5] (fun m i wr => ∃ (j : Nat), j ≤ n ∧ i = .int .i64 j ∧ m = .int .i64 (k + 5 * j) ∧ Below w.heap.size w wr)
    (fun _ i _ => n - (intOf i).toNat)
  case atStart => exact ⟨0, Nat.zero_le _, rfl, by simp, Below.refl _ _⟩
  case round =>
    obtain ⟨j, hj, rfl, rfl, hbl⟩ := hrel
    have hsz := hbl.size
    by_cases hlt : j < n
    · obtain ⟨b, off, rfl, hb, hcell⟩ := hc j _ (marksCube_get hlt)
      clear hc
      generalize hq : (k + 5 * (j : Int)) = q at *
      have HQ := Lib.hid hq
      have hq0 : 0 ≤ q := by omega
      have hq1 : q ≤ 101000000000 := by omega
      have hi0 : (0 : Int) ≤ (j : Int) := by omega
      have hi1 : (j : Int) < (n : Int) := by omega
      clear hq
      have c0 : wr.cell? ⟨b, off + j * 5, none⟩ = some (.int .i64 (q)) := cellOf hbl (by omega) (hcell 0 _ rfl)
      have c1 : wr.cell? ⟨b, off + j * 5 + 1, none⟩ = some (.int .i64 (q + 1)) := cellOf hbl (by omega) (hcell 1 _ rfl)
      have c2 : wr.cell? ⟨b, off + j * 5 + 2, none⟩ = some (.int .i64 (q + 1 + 1)) := cellOf hbl (by omega) (hcell 2 _ rfl)
      have c3 : wr.cell? ⟨b, off + j * 5 + 3, none⟩ = some (.int .i64 (q + 1 + 1 + 1)) := cellOf hbl (by omega) (hcell 3 _ rfl)
      have c4 : wr.cell? ⟨b, off + j * 5 + 4, none⟩ = some (.int .i64 (q + 1 + 1 + 1 + 1)) := cellOf hbl (by omega) (hcell 4 _ rfl)
      have hbs0 : b < wr.heap.size := by omega
      clear hcell
      go_wp2
      go_roundw
      case rel => exact ⟨j + 1, by omega, by go_num, (by have e := HQ.out; simp only [Value.int.injEq, true_and]; omega), hbl⟩
      case measure => simp [intOf]; omega
    · obtain rfl : j = n := by omega
      go_wp2
      go_ret
      exact ⟨rfl, hbl⟩
theorem oneCube (xs : List GCube) : ∀ u ∈ xs.flatMap encCube, u.oneCell' = true := by
  intro u hu
  obtain ⟨x, _, hx⟩ := List.mem_flatMap.1 hu
  simp only [encCube, List.mem_cons, List.not_mem_nil, or_false] at hx
  rcases hx with rfl | rfl | rfl | rfl | rfl <;> rfl
def wfCube (s : GCube) : Prop := I64 s.pWest ∧ I64 s.pSouth ∧ I64 s.pSide ∧ I64 s.pFrom ∧ I64 s.pTo
set_option maxRecDepth 100000 in
theorem cells_Cube {H : Type} {enc : TypeId × Value → H} {w : World} (n : Nat) (cs : List Value) (x : DataW H × List MemPlace) (h : DataW.trod enc Try.prog w 0 (fun _ => true) true n 23 cs = some x) : ∃ s, cs = encCube s ∧ wfCube s := by
  obtain ⟨ys, m, _, _, hlen, hyl, hf⟩ := DataW.trod_struct Try.underlying23 h
  have hlen : cs.length = 5 := hlen.trans (by kernel_rfl)
  obtain ⟨c0, y0, e0, t0⟩ := field_cell (by kernel_rfl) hlen hyl hf 0 _ rfl
  obtain ⟨a0, g0, _, b0⟩ := DataW.trod_int Try.underlying3 t0
  simp only [List.cons.injEq, and_true] at g0
  subst g0
  obtain ⟨c1, y1, e1, t1⟩ := field_cell (by kernel_rfl) hlen hyl hf 1 _ rfl
  obtain ⟨a1, g1, _, b1⟩ := DataW.trod_int Try.underlying3 t1
  simp only [List.cons.injEq, and_true] at g1
  subst g1
  obtain ⟨c2, y2, e2, t2⟩ := field_cell (by kernel_rfl) hlen hyl hf 2 _ rfl
  obtain ⟨a2, g2, _, b2⟩ := DataW.trod_int Try.underlying3 t2
  simp only [List.cons.injEq, and_true] at g2
  subst g2
  obtain ⟨c3, y3, e3, t3⟩ := field_cell (by kernel_rfl) hlen hyl hf 3 _ rfl
  obtain ⟨a3, g3, _, b3⟩ := DataW.trod_int Try.underlying3 t3
  simp only [List.cons.injEq, and_true] at g3
  subst g3
  obtain ⟨c4, y4, e4, t4⟩ := field_cell (by kernel_rfl) hlen hyl hf 4 _ rfl
  obtain ⟨a4, g4, _, b4⟩ := DataW.trod_int Try.underlying3 t4
  simp only [List.cons.injEq, and_true] at g4
  subst g4
  refine ⟨⟨a0, a1, a2, a3, a4⟩, ?_, bounds_i64 b0, bounds_i64 b1, bounds_i64 b2, bounds_i64 b3, bounds_i64 b4⟩
  apply List.ext_getElem?
  intro i
  match i with
  | 0 => exact e0
  | 1 => exact e1
  | 2 => exact e2
  | 3 => exact e3
  | 4 => exact e4
  | i + 5 => rw [List.getElem?_eq_none (by omega), List.getElem?_eq_none (by rw [encCube_len]; omega)]
set_option maxRecDepth 100000 in
theorem open_CubeS {H : Type} {enc : TypeId × Value → H} {w : World} {base : Nat} {v : Value} {d : DataW H} {ps : List MemPlace}
    (hval : Value.okWide Try.prog w .any base 56 v) (hd : DataW.Trod enc Try.prog w 0 (fun _ => true) true 56 v d ps) : ∃ xs : List GCube, CubeL w w.heap.size v xs ∧ ∀ x ∈ xs, wfCube x :=
  rows_of encCube 5 encCube_len (by omega) wfCube Try.underlying56 (by kernel_rfl) (fun n cs x h => cells_Cube n cs x h) hval hd
/-- One of them, by value. -/
def CubeVL (_ : World) (_ : Nat) (v : Value) (s : GCube) : Prop := v = .agg #[.int .i64 s.pWest, .int .i64 s.pSouth, .int .i64 s.pSide, .int .i64 s.pFrom, .int .i64 s.pTo]
def CubeVO (_ : World) (_ _ : Nat) (v : Value) (s : GCube) : Prop := v = .agg #[.int .i64 s.pWest, .int .i64 s.pSouth, .int .i64 s.pSide, .int .i64 s.pFrom, .int .i64 s.pTo]
theorem CubeVO.lst {w : World} {L B : Nat} {v : Value} {s : GCube} (h : CubeVO w L B v s) : CubeVL w B v s := h
theorem CubeVL.below {w w' : World} {B : Nat} {v : Value} {s : GCube} (h : CubeVL w B v s) (_ : Below B w w') : CubeVL w' B v s := h
theorem CubeVL.mono {w : World} {B B' : Nat} {v : Value} {s : GCube} (h : CubeVL w B v s) (_ : B ≤ B') : CubeVL w B' v s := h
theorem CubeVO.below {w w' : World} {L B : Nat} {v : Value} {s : GCube} (h : CubeVO w L B v s) (_ : Below B w w') : CubeVO w' L B v s := h
theorem CubeVO.mono {w : World} {L B L' B' : Nat} {v : Value} {s : GCube} (h : CubeVO w L B v s) (_ : L' ≤ L) (_ : B ≤ B') : CubeVO w L' B' v s := h
theorem CubeVO.high {w w' : World} {L B L' U' : Nat} {v : Value} {s : GCube} (h : CubeVO w L B v s) (_ : Upd L' U' w w') (_ : U' ≤ L) : CubeVO w' L B v s := h
theorem CubeVL.form {w : World} {B : Nat} {v : Value} {s : GCube} (h : CubeVL w B v s) : v = .agg #[.int .i64 s.pWest, .int .i64 s.pSouth, .int .i64 s.pSide, .int .i64 s.pFrom, .int .i64 s.pTo] := h
theorem CubeVO.form {w : World} {L B : Nat} {v : Value} {s : GCube} (h : CubeVO w L B v s) : v = .agg #[.int .i64 s.pWest, .int .i64 s.pSouth, .int .i64 s.pSide, .int .i64 s.pFrom, .int .i64 s.pTo] := h
set_option maxRecDepth 100000 in
theorem open_Cube {H : Type} {enc : TypeId × Value → H} {w : World} {base : Nat} {v : Value} {d : DataW H} {ps : List MemPlace}
    (hval : Value.okWide Try.prog w .any base 23 v) (hd : DataW.Trod enc Try.prog w 0 (fun _ => true) true 23 v d ps) : ∃ s : GCube, CubeVL w w.heap.size v s ∧ wfCube s := by
  obtain ⟨cs, rfl, hsz⟩ := okWide_struct Try.underlying23 hval
  obtain ⟨fuel, hf⟩ := hd
  obtain ⟨s, h, hw⟩ := cells_Cube _ _ _ hf
  refine ⟨s, ?_, hw⟩
  obtain ⟨l⟩ := cs
  have h : l = encCube s := h
  subst h
  rfl
theorem to_Cube (s : GCube) (v : Value) (w : World) (B : Nat) (h : CubeVL w B v s) (_ : B ≤ w.heap.size) (_ : sz1Cube s ≤ 1048576) :
    Calls Try.prog 14 #[v] w fun e w' => ∃ v', e = .returned v' ∧ CubeVO w' w.heap.size w'.heap.size v' s ∧ Below w.heap.size w w' := by
  obtain rfl := h.form
  exact (toCube_any s w).mono fun e w' ⟨h1, h2⟩ => ⟨_, h1, rfl, h2⟩
theorem eq_Cube (s : GCube) (v v2 : Value) (w : World) (B : Nat) (h : CubeVL w B v s) (h2 : CubeVL w B v2 s) (_ : B ≤ w.heap.size) :
    Calls Try.prog 63 #[v, v2] w fun e w' => e = .returned (.bool true) ∧ Below w.heap.size w w' := by
  obtain rfl := h.form
  obtain rfl := h2.form
  exact eqCube_any s w
theorem sz_CubeS (xs : List GCube) (v : Value) (left : Int) (w : World) (B : Nat) (h : CubeL w B v xs) (hB : B ≤ w.heap.size) (h0 : 0 ≤ left) (h1 : left ≤ 1048576) (ht : (szsCube xs : Int) ≤ left) :
    Calls Try.prog 38 #[v, .int .i64 left] w fun e w' => e = .returned (.int .i64 (left - szsCube xs)) ∧ Below w.heap.size w w' := szCubeS_le0 xs v left w B h hB h0 h1 ht
theorem szgt_CubeS (xs : List GCube) (v : Value) (left : Int) (w : World) (B : Nat) (h : CubeL w B v xs) (hB : B ≤ w.heap.size) (h0 : 0 ≤ left) (h1 : left ≤ 1048576) (ht : left < (szsCube xs : Int)) (hw : ∀ s ∈ xs, wfCube s) :
    Calls Try.prog 38 #[v, .int .i64 left] w fun e w' => e = .returned (.int .i64 (-1)) ∧ Below w.heap.size w w' := szCubeS_gt0 xs v left w B h hB h0 h1  ht
theorem to_CubeS (xs : List GCube) (v : Value) (w : World) (B : Nat) (h : CubeL w B v xs) (hB : B ≤ w.heap.size) (hn : szsCube xs ≤ 1048576) :
    Calls Try.prog 40 #[v] w fun e w' => ∃ v', e = .returned v' ∧ CubeO w' w.heap.size w'.heap.size v' xs ∧ Below w.heap.size w w' := toCubeS_any xs v w B h hB (Nat.le_trans (szsCube_len xs) hn)
theorem eq_CubeS (xs : List GCube) (v v2 : Value) (w : World) (B : Nat) (h : CubeL w B v xs) (h2 : CubeL w B v2 xs) (hB : B ≤ w.heap.size) :
    Calls Try.prog 25 #[v, v2] w fun e w' => e = .returned (.bool true) ∧ Below w.heap.size w w' := eqCubeS_any xs v v2 w B h h2 hB
theorem mark_CubeS (xs : List GCube) (v : Value) (k : Int) (w : World) (L B : Nat) (h : CubeO w L B v xs) (hB : B ≤ w.heap.size) (hn : szsCube xs ≤ 1048576) (h0 : 0 ≤ k) (h1 : k ≤ 100000000000) :
    Calls Try.prog 26 #[v, .int .i64 k] w fun e w' => e = .returned (.int .i64 (k + 5 * xs.length)) ∧ CubeO w' L B v (marksCube k xs.length) ∧ Upd L B w w' := markCubeS_any xs v k w L B h hB (Nat.le_trans (szsCube_len xs) hn) h0 h1
theorem held_CubeS (xs : List GCube) (v : Value) (k : Int) (w : World) (B : Nat) (h : CubeL w B v (marksCube k xs.length)) (hB : B ≤ w.heap.size) (hn : szsCube xs ≤ 1048576) (h0 : 0 ≤ k) (h1 : k ≤ 100000000000) :
    Calls Try.prog 27 #[v, .int .i64 k] w fun e w' => e = .returned (.int .i64 (k + 5 * xs.length)) ∧ Below w.heap.size w w' := heldCubeS_any xs.length v k w B h hB (Nat.le_trans (szsCube_len xs) hn) h0 h1
end Go.Proofs.Ytoogofceoinniaa
