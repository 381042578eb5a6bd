/- Swing: what it reads as; the laws' helpers on it and on slices of it. -/
import Derived.Test.YtdiedfpfhbdamaaFlat
import Derived.Handy
import Derived.Deep.Slices
import Derived.Deep.Fields
namespace Go.Proofs.Ytdiedfpfhbdamaa
open Go.ChangeShapes Go.WideShapes Go.ChangeAt Go.RowKit Go.ChangeMaps
set_option linter.unusedSimpArgs false
set_option linter.unusedVariables false

structure GSwing where
  pStation : Int
  pFar : Int
  pWidth : Int
  pTerm : Int
def encSwing (s : GSwing) : List Value := [.int .i64 s.pStation, .int .i64 s.pFar, .int .i64 s.pWidth, .int .i64 s.pTerm]
theorem encSwing_len : ∀ s, (encSwing s).length = 4 := fun _ => rfl
def zeroSwing : GSwing := ⟨0, 0, 0, 0⟩
abbrev SwingL (w : World) (B : Nat) (v : Value) (xs : List GSwing) : Prop := LstK encSwing 4 w B v xs
abbrev SwingO (w : World) (L B : Nat) (v : Value) (xs : List GSwing) : Prop := OwnK encSwing 4 w L B v xs
def sz1Swing (s : GSwing) : Nat := 0
def szsSwing (xs : List GSwing) : Nat := (xs.map fun s => 1 + sz1Swing s).sum
theorem szsSwing_len (xs : List GSwing) : xs.length ≤ szsSwing xs := by
  unfold szsSwing
  induction xs with
  | nil => simp
  | cons a l ih => simp only [List.map_cons, List.sum_cons, List.length_cons]; omega
theorem szsSwing_mem {xs : List GSwing} {s : GSwing} (h : s ∈ xs) : sz1Swing s ≤ szsSwing xs := by
  unfold szsSwing
  induction xs with
  | nil => simp at h
  | cons a l ih =>
    simp only [List.map_cons, List.sum_cons]
    rcases List.mem_cons.1 h with rfl | h
    · omega
    · have := ih h; omega
theorem szsSwing_split (xs : List GSwing) : szsSwing xs = xs.length := by
  unfold szsSwing
  induction xs with
  | nil => simp
  | cons a l ih => rw [List.map_cons, List.sum_cons, List.length_cons, ih]; unfold sz1Swing; omega

/-- One of them by value. -/
def SwingV (v : Value) (s : GSwing) : Prop := v = .agg #[.int .i64 s.pStation, .int .i64 s.pFar, .int .i64 s.pWidth, .int .i64 s.pTerm]
set_option maxHeartbeats 800000 in
theorem toSwing_any (s : GSwing) (w : World) :
    Calls Try.prog 64 #[.agg #[.int .i64 s.pStation, .int .i64 s.pFar, .int .i64 s.pWidth, .int .i64 s.pTerm]] w fun e w' => e = .returned (.agg #[.int .i64 s.pStation, .int .i64 s.pFar, .int .i64 s.pWidth, .int .i64 s.pTerm]) ∧ Below w.heap.size w w' := by
  go_enter Try.func64, Try.ntmps64
  go_wp2
  refine bodyPost_ret (v := .agg #[.int .i64 s.pStation, .int .i64 s.pFar, .int .i64 s.pWidth, .int .i64 s.pTerm]) (by simp [results, Try.results64, go_sem]) rfl ⟨rfl, ?_⟩
  first
    | exact (((Below.refl _ w).alloc (Nat.le_refl _) _).alloc (by first | omega | (simp; done) | (simp; omega)) _).alloc (by first | omega | (simp; done) | (simp; omega)) _
    | (repeat (first | exact (((Below.refl _ w).alloc (Nat.le_refl _) _).alloc (by first | omega | (simp; done) | (simp; omega)) _).alloc (by first | omega | (simp; done) | (simp; omega)) _ | (refine Below.setCell ?_ (by first | omega | (simp; done) | (simp; omega)) _)))
set_option maxHeartbeats 800000 in
theorem eqSwing_any (s : GSwing) (w : World) :
    Calls Try.prog 112 #[.agg #[.int .i64 s.pStation, .int .i64 s.pFar, .int .i64 s.pWidth, .int .i64 s.pTerm], .agg #[.int .i64 s.pStation, .int .i64 s.pFar, .int .i64 s.pWidth, .int .i64 s.pTerm]] w fun e w' => e = .returned (.bool true) ∧ Below w.heap.size w w' := by
  go_enter Try.func112, Try.ntmps112
  go_wp2
  go_ret
  exact ⟨rfl, ((Below.refl _ w).alloc (Nat.le_refl _) _).alloc (by first | omega | (simp; done) | (simp; omega)) _⟩

theorem info_Swing : (Try.prog.info? 63).map (fun i => (i.zero, i.size, i.bytes)) = some (some (.agg #[.int .i64 0, .int .i64 0, .int .i64 0, .int .i64 0]), 4, 32) := by kernel_rfl
set_option maxHeartbeats 800000 in
theorem szSwingS_le0 (xs : List GSwing) (v : Value) (left : Int) (w : World) (B : Nat) (h : SwingL w B v xs) (hB : B ≤ w.heap.size) (h0 : 0 ≤ left) (h1 : left ≤ 1048576) (ht : (szsSwing xs : Int) ≤ left) :
    Calls Try.prog 55 #[v, .int .i64 left] w fun e w' => e = .returned (.int .i64 (left - szsSwing xs)) ∧ Below w.heap.size w w' := by
  obtain ⟨ao, cap, rfl, hcap, hmax, -, hc⟩ := h
  unfold maxLen at hmax
  rw [szsSwing_split] at *
  clear hc
  go_enter Try.func55, Try.ntmps55
  have hd : ¬ left - (xs.length : Int) < 0 := by omega
  go_wp2
  go_ret
  exact ⟨rfl, Below.refl _ _⟩
set_option maxHeartbeats 800000 in
theorem szSwingS_gt0 (xs : List GSwing) (v : Value) (left : Int) (w : World) (B : Nat) (h : SwingL w B v xs) (hB : B ≤ w.heap.size) (h0 : 0 ≤ left) (h1 : left ≤ 1048576) (ht : left < (szsSwing xs : Int)) :
    Calls Try.prog 55 #[v, .int .i64 left] w fun e w' => e = .returned (.int .i64 (-1)) ∧ Below w.heap.size w w' := by
  obtain ⟨ao, cap, rfl, hcap, hmax, -, hc⟩ := h
  unfold maxLen at hmax
  rw [szsSwing_split] at *
  clear hc
  go_enter Try.func55, Try.ntmps55
  go_wp2
  go_ret
  exact ⟨rfl, Below.refl _ _⟩
set_option maxHeartbeats 1000000 in
theorem toSwingS_any (xs : List GSwing) (v : Value) (w : World) (B : Nat) (h : SwingL w B v xs) (hB : B ≤ w.heap.size) (hn : xs.length ≤ 1048576) :
    Calls Try.prog 57 #[v] w fun e w' => ∃ v', e = .returned v' ∧ SwingO w' w.heap.size w'.heap.size v' xs ∧ Below w.heap.size w w' := by
  obtain ⟨ao, cap, rfl, hcap, hmax, -, hc⟩ := h
  unfold maxLen at hmax
  obtain ⟨ti, hi, hz0, hz1, hz2⟩ := info_parts info_Swing
  have hnm : xs.length ≤ maxLen := by unfold maxLen; omega
  go_enter Try.func57, Try.ntmps57
  go_wp2_with (at_make; refine wpList_make_full _ rfl _ _ 52 rfl w.heap.size 63 ti (.agg #[.int .i64 0, .int .i64 0, .int .i64 0, .int .i64 0]) 4 Try.underlying52 hi hz0 hz1 .i64 .i64 _ _ xs.length rfl rfl rfl rfl (by rw [hz2]; omega) hnm (Nat.le_refl _) ?_; intro w1 hown hgrow)
  have hb1 : Below w.heap.size w w1 := (Below.refl _ _).grown hgrow (Nat.le_refl _) (by simp)
  have hown2 : w1.ownsRow w.heap.size 63 4 (.slice (some ⟨w.heap.size, 0, none⟩) xs.length xs.length) xs.length ((List.replicate xs.length zeroSwing).flatMap encSwing) := by
    rw [← made_flat encSwing_len (by omega) #[.int .i64 0, .int .i64 0, .int .i64 0, .int .i64 0] zeroSwing rfl xs.length]
    exact hown
  have hO : SwingO w1 w.heap.size w1.heap.size (.slice (some ⟨w.heap.size, 0, none⟩) xs.length xs.length) (List.replicate xs.length zeroSwing) := by
    have := OwnK.of_row encSwing_len (by omega) hown2
    simpa using this
  clear hown hown2
  go_loopw [4] (fun i wr => ∃ (k : Nat) (ys : List GSwing), k ≤ xs.length ∧ i = .int .i64 k ∧ SwingO wr w.heap.size wr.heap.size (.slice (some ⟨w.heap.size, 0, none⟩) xs.length xs.length) ys ∧ ys.length = xs.length ∧ ys.take k = xs.take k ∧ Below w.heap.size w wr)
    (fun i _ => xs.length - (intOf i).toNat)
  case atStart => exact ⟨0, _, Nat.zero_le _, rfl, hO, by simp, rfl, hb1⟩
  case round =>
    obtain ⟨k, ys, hk, rfl, hrow, hyl, hys, hbl⟩ := hrel
    clear hO hb1
    have HY := Lib.hid hys
    have HL := Lib.hid hyl
    clear hys hyl
    by_cases hlt : k < xs.length
    · obtain ⟨s, hs⟩ := get_of_lt hlt
      obtain ⟨b, off, rfl, hb, hcell⟩ := hc k s hs
      obtain ⟨y, hy⟩ : ∃ y, ys[k]? = some y := get_of_lt (by rw [HL.out]; omega)
      have c0 : wr.cell? ⟨b, off + k * 4, none⟩ = some (.int .i64 s.pStation) := cellOf hbl (by omega) (hcell 0 _ rfl)
      have c1 : wr.cell? ⟨b, off + k * 4 + 1, none⟩ = some (.int .i64 s.pFar) := cellOf hbl (by omega) (hcell 1 _ rfl)
      have c2 : wr.cell? ⟨b, off + k * 4 + 2, none⟩ = some (.int .i64 s.pWidth) := cellOf hbl (by omega) (hcell 2 _ rfl)
      have c3 : wr.cell? ⟨b, off + k * 4 + 3, none⟩ = some (.int .i64 s.pTerm) := cellOf hbl (by omega) (hcell 3 _ rfl)
      have HS := Lib.hid hs
      have HYY := Lib.hid hy
      clear hs hy hcell hc
      go_wp2_with fail
      refine (toSwing_any s _).mono ?_
      rintro e w2 ⟨rfl, hb2⟩
      have hz2 := hb2.size
      have hr2 := hrow.below hb2
      have hbl2 := hbl.trans (hb2.mono hbl.size)
      clear hb2 hrow hbl
      obtain ⟨ao3, cap3, e3, _, _, _, h3⟩ := id hr2
      obtain ⟨b3, off3, e4, _, hB3, hz3, hc3, hf3⟩ := h3 k y HYY.out
      rw [e4] at e3
      simp only [Value.slice.injEq, Option.some.injEq, Addr.mk.injEq] at e3
      obtain ⟨⟨rfl, rfl, -⟩, -, -⟩ := e3
      have o0 : w2.cell? ⟨w.heap.size, k * 4, none⟩ = some (.int .i64 y.pStation) := by have := hc3 0 _ rfl; simpa using this
      have o1 : w2.cell? ⟨w.heap.size, k * 4 + 1, none⟩ = some (.int .i64 y.pFar) := by have := hc3 1 _ rfl; simpa using this
      have o2 : w2.cell? ⟨w.heap.size, k * 4 + 2, none⟩ = some (.int .i64 y.pWidth) := by have := hc3 2 _ rfl; simpa using this
      have o3 : w2.cell? ⟨w.heap.size, k * 4 + 3, none⟩ = some (.int .i64 y.pTerm) := by have := hc3 3 _ rfl; simpa using this
      have hr3 := hr2.put encSwing_len rfl HYY.out (ad := k * 4) (by omega) s
      have hbl3 := below_putCells hbl2 (b := w.heap.size) (Nat.le_refl _) (k * 4) (encSwing s) 0
      have HR := Lib.hid hr3
      clear hr2 hr3 hc3 h3 e4
      go_wp2
      go_roundw
      case rel =>
        refine ⟨k + 1, ys.set k s, by omega, by go_num, ?_, by simp [HL.out], ?_, hbl3⟩
        · exact HR.out.mono (Nat.le_refl _) (by simp [World.setCell]; exact hz2)
        · rw [take_snoc HS.out, take_snoc (l := ys.set k s) (x := s) (by rw [List.getElem?_set_self]; rw [HL.out]; omega), List.take_set_of_le (by omega), HY.out]
      case measure => simp [intOf]; omega
    · go_wp2
      go_ret
      refine ⟨_, rfl, ?_, hbl⟩
      have := HY.out
      rw [take_all hlt, take_all (by rw [HL.out]; exact hlt)] at this
      rw [this] at hrow
      exact hrow
set_option maxHeartbeats 2000000 in
theorem eqSwingS_any (xs : List GSwing) (v v2 : Value) (w : World) (B : Nat) (h : SwingL w B v xs) (h2 : SwingL w B v2 xs) (hB : B ≤ w.heap.size) :
    Calls Try.prog 58 #[v, v2] w fun e w' => e = .returned (.bool true) ∧ Below w.heap.size w w' := by
  obtain ⟨ao, cap, rfl, hcap, hmax, -, hc⟩ := h
  obtain ⟨ao2, cap2, rfl, hcap2, hmax2, -, hc2⟩ := h2
  unfold maxLen at hmax hmax2
  go_enter Try.func58, Try.ntmps58
  go_wp2
  go_loopw [5] (fun i wr => ∃ (k : Nat), k ≤ xs.length ∧ i = .int .i64 k ∧ Below w.heap.size w wr)
    (fun i _ => xs.length - (intOf i).toNat)
  case atStart => exact ⟨0, Nat.zero_le _, rfl, Below.refl _ _⟩
  case round =>
    obtain ⟨k, hk, rfl, hbl⟩ := hrel
    have hsz := hbl.size
    by_cases hlt : k < xs.length
    · obtain ⟨s, hs⟩ := get_of_lt hlt
      obtain ⟨b, off, rfl, hb, hcell⟩ := hc k s hs
      obtain ⟨b2, off2, rfl, hb2, hcell2⟩ := hc2 k s hs
      have c0 : wr.cell? ⟨b, off + k * 4, none⟩ = some (.int .i64 s.pStation) := cellOf hbl (by omega) (hcell 0 _ rfl)
      have c1 : wr.cell? ⟨b, off + k * 4 + 1, none⟩ = some (.int .i64 s.pFar) := cellOf hbl (by omega) (hcell 1 _ rfl)
      have c2 : wr.cell? ⟨b, off + k * 4 + 2, none⟩ = some (.int .i64 s.pWidth) := cellOf hbl (by omega) (hcell 2 _ rfl)
      have c3 : wr.cell? ⟨b, off + k * 4 + 3, none⟩ = some (.int .i64 s.pTerm) := cellOf hbl (by omega) (hcell 3 _ rfl)
      have d0 : wr.cell? ⟨b2, off2 + k * 4, none⟩ = some (.int .i64 s.pStation) := cellOf hbl (by omega) (hcell2 0 _ rfl)
      have d1 : wr.cell? ⟨b2, off2 + k * 4 + 1, none⟩ = some (.int .i64 s.pFar) := cellOf hbl (by omega) (hcell2 1 _ rfl)
      have d2 : wr.cell? ⟨b2, off2 + k * 4 + 2, none⟩ = some (.int .i64 s.pWidth) := cellOf hbl (by omega) (hcell2 2 _ rfl)
      have d3 : wr.cell? ⟨b2, off2 + k * 4 + 3, none⟩ = some (.int .i64 s.pTerm) := cellOf hbl (by omega) (hcell2 3 _ rfl)
      have hi0 : (0 : Int) ≤ (k : Int) := by omega
      have hi1 : (k : Int) < (xs.length : Int) := by omega
      have hbs : b < wr.heap.size := by omega
      have hbs2 : b2 < wr.heap.size := by omega
      clear hs hcell hcell2 hc hc2
      go_wp2
      go_region_held3 (fun w' => Below wr.heap.size wr w' ∧ w'.cell? ⟨b, off + k * 4, none⟩ = some (.int .i64 s.pStation) ∧ w'.cell? ⟨b, off + k * 4 + 1, none⟩ = some (.int .i64 s.pFar) ∧ w'.cell? ⟨b, off + k * 4 + 2, none⟩ = some (.int .i64 s.pWidth) ∧ w'.cell? ⟨b, off + k * 4 + 3, none⟩ = some (.int .i64 s.pTerm) ∧ w'.cell? ⟨b2, off2 + k * 4, none⟩ = some (.int .i64 s.pStation) ∧ w'.cell? ⟨b2, off2 + k * 4 + 1, none⟩ = some (.int .i64 s.pFar) ∧ w'.cell? ⟨b2, off2 + k * 4 + 2, none⟩ = some (.int .i64 s.pWidth) ∧ w'.cell? ⟨b2, off2 + k * 4 + 3, none⟩ = some (.int .i64 s.pTerm))
        (first
          | exact ⟨(Below.refl _ _).drew, c0, c1, c2, c3, d0, d1, d2, d3⟩
          | (have q := (Below.refl wr.heap.size wr).drew.trans hq; exact ⟨q, cellOf q hbs c0, cellOf q hbs c1, cellOf q hbs c2, cellOf q hbs c3, cellOf q hbs2 d0, cellOf q hbs2 d1, cellOf q hbs2 d2, cellOf q hbs2 d3⟩))
        (first | (go_at_call 112; refine (eqSwing_any s _).mono ?_; rintro e w2 ⟨rfl, hq⟩))
      go_wp2
      go_roundw
      case rel => exact ⟨k + 1, by omega, by go_num, hbl.trans (((Below.refl wr.heap.size wr).drew.trans hq).mono (by omega))⟩
      case measure => simp [intOf]; omega
    · go_wp2
      go_ret
      exact ⟨rfl, hbl⟩
def mkSwing (k : Int) : GSwing := ⟨k, k + 1, k + 1 + 1, k + 1 + 1 + 1⟩
def marksSwing (k : Int) (n : Nat) : List GSwing := (List.range n).map fun (i : Nat) => mkSwing (k + 4 * i)
theorem marksSwing_get {k : Int} {n i : Nat} (h : i < n) : (marksSwing k n)[i]? = some (mkSwing (k + 4 * i)) := by simp [marksSwing, h]
theorem marksSwing_len (k : Int) (n : Nat) : (marksSwing k n).length = n := by simp [marksSwing]
theorem eq_marksSwing {k : Int} {n : Nat} {cs : List GSwing} (hl : cs.length = n) (h : ∀ i, i < n → cs[i]? = some (mkSwing (k + 4 * i))) : cs = marksSwing k n := by
  apply List.ext_getElem?
  intro i
  by_cases hi : i < n
  · rw [h i hi, marksSwing_get hi]
  · rw [List.getElem?_eq_none (by omega), List.getElem?_eq_none (by rw [marksSwing_len]; omega)]
set_option maxHeartbeats 2000000 in
theorem markSwingS_any (ss : List GSwing) (v : Value) (k : Int) (w : World) (L B : Nat) (h : SwingO w L B v ss) (hB : B ≤ w.heap.size) (hn : ss.length ≤ 1048576) (h0 : 0 ≤ k) (h1 : k ≤ 100000000000) :
    Calls Try.prog 67 #[v, .int .i64 k] w fun e w' => e = .returned (.int .i64 (k + 4 * ss.length)) ∧ SwingO w' L B v (marksSwing k ss.length) ∧ Upd L B w w' := by
  obtain ⟨ao, cap, rfl, hcap, hmax, -, hc⟩ := id h
  go_enter Try.func67, Try.ntmps67
  go_wp2
  go_loopw [1, 5] (fun m i wr => ∃ (j : Nat) (cs : List GSwing), j ≤ ss.length ∧ i = .int .i64 j ∧ m = .int .i64 (k + 4 * j) ∧ cs.length = ss.length ∧ (∀ i, i < j → cs[i]? = some (mkSwing (k + 4 * i))) ∧ SwingO wr L B (.slice ao ss.length cap) cs ∧ Upd L B w wr)
    (fun _ i _ => ss.length - (intOf i).toNat)
  case atStart => exact ⟨0, ss, Nat.zero_le _, rfl, by simp, rfl, fun i hi => by omega, h, Upd.refl _ _ _⟩
  case round =>
    obtain ⟨j, cs, hj, rfl, rfl, hl, hm, hown, hbl⟩ := hrel
    clear hc h
    by_cases hlt : j < ss.length
    · obtain ⟨s, hs⟩ := get_of_lt (l := cs) (k := j) (by omega)
      obtain ⟨ao', cap', hv', _, _, _, hc'⟩ := id hown
      have hl' := Lib.hid hl
      simp only [Value.slice.injEq] at hv'
      obtain ⟨rfl, -, rfl⟩ := hv'
      obtain ⟨b, off, rfl, hLb, hb, hbz, hcell, hfr⟩ := hc' j s hs
      have HM := Lib.hid hm
      have HH := Lib.hid hs
      clear hl hs hc' hm
      have hj1 : (j : Int) < 1048576 := by omega
      have c0 : wr.cell? ⟨b, off + j * 4, none⟩ = some (.int .i64 s.pStation) := hcell 0 _ rfl
      have c1 : wr.cell? ⟨b, off + j * 4 + 1, none⟩ = some (.int .i64 s.pFar) := hcell 1 _ rfl
      have c2 : wr.cell? ⟨b, off + j * 4 + 2, none⟩ = some (.int .i64 s.pWidth) := hcell 2 _ rfl
      have c3 : wr.cell? ⟨b, off + j * 4 + 3, none⟩ = some (.int .i64 s.pTerm) := hcell 3 _ rfl
      generalize hq : (k + 4 * (j : Int)) = q at *
      have HQ := Lib.hid hq
      have hq0 : 0 ≤ q := by omega
      have hq1 : q ≤ 101000000000 := by omega
      clear hq
      have hBr : B ≤ wr.heap.size := Nat.le_trans hB hbl.size
      have R0 := Lib.hid hown
      have G0 := Lib.hid HH.out
      have U0 := Lib.hid hbl
      clear hown hbl
      have R1 := Lib.hid (OwnK.set encSwing_len R0.out (m := 0) rfl G0.out (by omega) (y := ⟨q, s.pFar, s.pWidth, s.pTerm⟩) (u := .int .i64 (q)) rfl)
      have G1 := Lib.hid (get_set_self (y := (⟨q, s.pFar, s.pWidth, s.pTerm⟩ : GSwing)) G0.out)
      have U1 := Lib.hid (Upd.setCell U0.out (p := ⟨b, off + j * 4, none⟩) hLb hb (.int .i64 (q)))
      clear R0 G0 U0
      have R2 := Lib.hid (OwnK.set encSwing_len R1.out (m := 1) rfl G1.out (by omega) (y := ⟨q, q + 1, s.pWidth, s.pTerm⟩) (u := .int .i64 (q + 1)) rfl)
      have G2 := Lib.hid (get_set_self (y := (⟨q, q + 1, s.pWidth, s.pTerm⟩ : GSwing)) G1.out)
      have U2 := Lib.hid (Upd.setCell U1.out (p := ⟨b, off + j * 4 + 1, none⟩) hLb hb (.int .i64 (q + 1)))
      clear R1 G1 U1
      have R3 := Lib.hid (OwnK.set encSwing_len R2.out (m := 2) rfl G2.out (by omega) (y := ⟨q, q + 1, q + 1 + 1, s.pTerm⟩) (u := .int .i64 (q + 1 + 1)) rfl)
      have G3 := Lib.hid (get_set_self (y := (⟨q, q + 1, q + 1 + 1, s.pTerm⟩ : GSwing)) G2.out)
      have U3 := Lib.hid (Upd.setCell U2.out (p := ⟨b, off + j * 4 + 2, none⟩) hLb hb (.int .i64 (q + 1 + 1)))
      clear R2 G2 U2
      have R4 := Lib.hid (OwnK.set encSwing_len R3.out (m := 3) rfl G3.out (by omega) (y := ⟨q, q + 1, q + 1 + 1, q + 1 + 1 + 1⟩) (u := .int .i64 (q + 1 + 1 + 1)) rfl)
      have G4 := Lib.hid (get_set_self (y := (⟨q, q + 1, q + 1 + 1, q + 1 + 1 + 1⟩ : GSwing)) G3.out)
      have U4 := Lib.hid (Upd.setCell U3.out (p := ⟨b, off + j * 4 + 3, none⟩) hLb hb (.int .i64 (q + 1 + 1 + 1)))
      clear R3 G3 U3
      go_wp2
      clear hfr hcell
      go_roundw
      case rel =>
        refine ⟨j + 1, ((((cs.set j ⟨q, s.pFar, s.pWidth, s.pTerm⟩).set j ⟨q, q + 1, s.pWidth, s.pTerm⟩).set j ⟨q, q + 1, q + 1 + 1, s.pTerm⟩).set j ⟨q, q + 1, q + 1 + 1, q + 1 + 1 + 1⟩), by omega, by go_num, (by have e := HQ.out; simp only [Value.int.injEq, true_and]; omega), by simp [hl'.out], ?_, R4.out, U4.out⟩
        intro i hi
        by_cases hij : j = i
        · subst hij; rw [HQ.out]; exact G4.out
        · simp only [List.getElem?_set_ne hij]; exact HM.out i (by omega)
      case measure => simp [intOf]; omega
    · obtain rfl : j = ss.length := by omega
      have hcm := eq_marksSwing hl hm
      have HC := Lib.hid hcm
      clear hcm hl hm
      go_wp2
      go_ret
      refine ⟨rfl, ?_, hbl⟩
      rw [← HC.out]; exact hown
set_option maxRecDepth 100000 in
set_option maxHeartbeats 2000000 in
theorem heldSwingS_any (n : Nat) (v : Value) (k : Int) (w : World) (B : Nat) (h : SwingL w B v (marksSwing k n)) (hB : B ≤ w.heap.size) (hn : n ≤ 1048576) (h0 : 0 ≤ k) (h1 : k ≤ 100000000000) :
    Calls Try.prog 72 #[v, .int .i64 k] w fun e w' => e = .returned (.int .i64 (k + 4 * n)) ∧ Below w.heap.size w w' := by
  obtain ⟨ao, cap, rfl, hcap, hmax, -, hc⟩ := h
  rw [marksSwing_len] at hcap ⊢
  unfold maxLen at hmax
  go_enter Try.func72, Try.ntmps72
  go_wp2
  go_loopw [1, 5] (fun m i wr => ∃ (j : Nat), j ≤ n ∧ i = .int .i64 j ∧ m = .int .i64 (k + 4 * j) ∧ Below w.heap.size w wr)
    (fun _ i _ => n - (intOf i).toNat)
  case atStart => exact ⟨0, Nat.zero_le _, rfl, by simp, Below.refl _ _⟩
  case round =>
    obtain ⟨j, hj, rfl, rfl, hbl⟩ := hrel
    have hsz := hbl.size
    by_cases hlt : j < n
    · obtain ⟨b, off, rfl, hb, hcell⟩ := hc j _ (marksSwing_get hlt)
      clear hc
      generalize hq : (k + 4 * (j : Int)) = q at *
      have HQ := Lib.hid hq
      have hq0 : 0 ≤ q := by omega
      have hq1 : q ≤ 101000000000 := by omega
      have hi0 : (0 : Int) ≤ (j : Int) := by omega
      have hi1 : (j : Int) < (n : Int) := by omega
      clear hq
      have c0 : wr.cell? ⟨b, off + j * 4, none⟩ = some (.int .i64 (q)) := cellOf hbl (by omega) (hcell 0 _ rfl)
      have c1 : wr.cell? ⟨b, off + j * 4 + 1, none⟩ = some (.int .i64 (q + 1)) := cellOf hbl (by omega) (hcell 1 _ rfl)
      have c2 : wr.cell? ⟨b, off + j * 4 + 2, none⟩ = some (.int .i64 (q + 1 + 1)) := cellOf hbl (by omega) (hcell 2 _ rfl)
      have c3 : wr.cell? ⟨b, off + j * 4 + 3, none⟩ = some (.int .i64 (q + 1 + 1 + 1)) := cellOf hbl (by omega) (hcell 3 _ rfl)
      have hbs0 : b < wr.heap.size := by omega
      clear hcell
      go_wp2
      go_roundw
      case rel => exact ⟨j + 1, by omega, by go_num, (by have e := HQ.out; simp only [Value.int.injEq, true_and]; omega), hbl⟩
      case measure => simp [intOf]; omega
    · obtain rfl : j = n := by omega
      go_wp2
      go_ret
      exact ⟨rfl, hbl⟩
theorem oneSwing (xs : List GSwing) : ∀ u ∈ xs.flatMap encSwing, u.oneCell' = true := by
  intro u hu
  obtain ⟨x, _, hx⟩ := List.mem_flatMap.1 hu
  simp only [encSwing, List.mem_cons, List.not_mem_nil, or_false] at hx
  rcases hx with rfl | rfl | rfl | rfl <;> rfl
theorem cloneSwing (xs : List GSwing) (v : Value) (w : World) (B : Nat) (h : SwingL w B v xs) (hB : B ≤ w.heap.size) (hn : xs.length ≤ 1048576) :
    Calls Try.prog 101 #[v] w fun e w' => ∃ v', e = .returned v' ∧ SwingO w' w.heap.size w'.heap.size v' xs ∧ Below w.heap.size w w' := by
  obtain ⟨ti, hi, hz0, hz1, hz2⟩ := info_parts info_Swing
  have hrow := rowK_empty w (base := w.heap.size) 63 4 (Nat.le_refl _)
  have hnil := fun (W : World) (a : Option Addr) (l c : Nat) => Lib.run_eql_slice_nil (P := Try.prog) W 52 63 a l c 0 0 Try.underlying52
  rcases h.split encSwing_len (by omega) with ⟨rfl, rfl⟩ | ⟨a, cap, rfl, _, _, hc⟩
  · go_enter Try.func101, Try.ntmps101
    go_wp2
    go_ret
    exact ⟨_, rfl, OwnK.of_row encSwing_len (by omega) (World.ownsRow_nil _ _ 63 4), Below.refl _ _⟩
  · have HC := Lib.hid (fun j u (hu : (xs.flatMap encSwing)[j]? = some u) => (((Below.refl B w).alloc hB (.cells #[] 63)).cell (hc j u hu).1).trans (hc j u hu).2)
    have H1 := Lib.hid (oneSwing xs)
    have HL : Hid ((xs.flatMap encSwing).length = xs.length * 4) := Lib.hid (flat_len encSwing_len xs)
    clear hc h
    go_enter Try.func101, Try.ntmps101
    go_wp2_with (at_builtin; refine wpList_append_own _ rfl _ _ 52 rfl w.heap.size 63 ti (.agg #[.int .i64 0, .int .i64 0, .int .i64 0, .int .i64 0]) 4 32 Try.underlying52 hi hz0 hz1 hz2 rfl (by decide) _ 0 [] rfl hrow a xs.length _ (xs.flatMap encSwing) rfl HL.out HC.out H1.out (by unfold maxLen; omega) (by omega) (by simp) ?_; intro v' w1 hown hg _)
    go_ret
    have ho : w1.ownsRow w.heap.size 63 4 v' xs.length (xs.flatMap encSwing) := by simpa using hown
    exact ⟨_, rfl, OwnK.of_row encSwing_len (by omega) ho, below_appK hg (by intro g e; cases e; exact Nat.le_refl _)⟩
def wfSwing (s : GSwing) : Prop := I64 s.pStation ∧ I64 s.pFar ∧ I64 s.pWidth ∧ I64 s.pTerm
set_option maxRecDepth 100000 in
theorem cells_Swing {H : Type} {enc : TypeId × Value → H} {w : World} (n : Nat) (cs : List Value) (x : DataW H × List MemPlace) (h : DataW.trod enc Try.prog w 0 (fun _ => true) true n 78 cs = some x) : ∃ s, cs = encSwing s ∧ wfSwing s := by
  obtain ⟨ys, m, _, _, hlen, hyl, hf⟩ := DataW.trod_struct Try.underlying78 h
  have hlen : cs.length = 4 := hlen.trans (by kernel_rfl)
  obtain ⟨c0, y0, e0, t0⟩ := field_cell (by kernel_rfl) hlen hyl hf 0 _ rfl
  obtain ⟨a0, g0, _, b0⟩ := DataW.trod_int Try.underlying3 t0
  simp only [List.cons.injEq, and_true] at g0
  subst g0
  obtain ⟨c1, y1, e1, t1⟩ := field_cell (by kernel_rfl) hlen hyl hf 1 _ rfl
  obtain ⟨a1, g1, _, b1⟩ := DataW.trod_int Try.underlying3 t1
  simp only [List.cons.injEq, and_true] at g1
  subst g1
  obtain ⟨c2, y2, e2, t2⟩ := field_cell (by kernel_rfl) hlen hyl hf 2 _ rfl
  obtain ⟨a2, g2, _, b2⟩ := DataW.trod_int Try.underlying3 t2
  simp only [List.cons.injEq, and_true] at g2
  subst g2
  obtain ⟨c3, y3, e3, t3⟩ := field_cell (by kernel_rfl) hlen hyl hf 3 _ rfl
  obtain ⟨a3, g3, _, b3⟩ := DataW.trod_int Try.underlying3 t3
  simp only [List.cons.injEq, and_true] at g3
  subst g3
  refine ⟨⟨a0, a1, a2, a3⟩, ?_, bounds_i64 b0, bounds_i64 b1, bounds_i64 b2, bounds_i64 b3⟩
  apply List.ext_getElem?
  intro i
  match i with
  | 0 => exact e0
  | 1 => exact e1
  | 2 => exact e2
  | 3 => exact e3
  | i + 4 => rw [List.getElem?_eq_none (by omega), List.getElem?_eq_none (by rw [encSwing_len]; omega)]
set_option maxRecDepth 100000 in
theorem open_SwingS {H : Type} {enc : TypeId × Value → H} {w : World} {base : Nat} {v : Value} {d : DataW H} {ps : List MemPlace}
    (hval : Value.okWide Try.prog w .any base 70 v) (hd : DataW.Trod enc Try.prog w 0 (fun _ => true) true 70 v d ps) : ∃ xs : List GSwing, SwingL w w.heap.size v xs ∧ ∀ x ∈ xs, wfSwing x :=
  rows_of encSwing 4 encSwing_len (by omega) wfSwing Try.underlying70 (by kernel_rfl) (fun n cs x h => cells_Swing n cs x h) hval hd
/-- One of them, by value. -/
def SwingVL (_ : World) (_ : Nat) (v : Value) (s : GSwing) : Prop := v = .agg #[.int .i64 s.pStation, .int .i64 s.pFar, .int .i64 s.pWidth, .int .i64 s.pTerm]
def SwingVO (_ : World) (_ _ : Nat) (v : Value) (s : GSwing) : Prop := v = .agg #[.int .i64 s.pStation, .int .i64 s.pFar, .int .i64 s.pWidth, .int .i64 s.pTerm]
theorem SwingVO.lst {w : World} {L B : Nat} {v : Value} {s : GSwing} (h : SwingVO w L B v s) : SwingVL w B v s := h
theorem SwingVL.below {w w' : World} {B : Nat} {v : Value} {s : GSwing} (h : SwingVL w B v s) (_ : Below B w w') : SwingVL w' B v s := h
theorem SwingVL.mono {w : World} {B B' : Nat} {v : Value} {s : GSwing} (h : SwingVL w B v s) (_ : B ≤ B') : SwingVL w B' v s := h
theorem SwingVO.below {w w' : World} {L B : Nat} {v : Value} {s : GSwing} (h : SwingVO w L B v s) (_ : Below B w w') : SwingVO w' L B v s := h
theorem SwingVO.mono {w : World} {L B L' B' : Nat} {v : Value} {s : GSwing} (h : SwingVO w L B v s) (_ : L' ≤ L) (_ : B ≤ B') : SwingVO w L' B' v s := h
theorem SwingVO.high {w w' : World} {L B L' U' : Nat} {v : Value} {s : GSwing} (h : SwingVO w L B v s) (_ : Upd L' U' w w') (_ : U' ≤ L) : SwingVO w' L B v s := h
theorem SwingVL.form {w : World} {B : Nat} {v : Value} {s : GSwing} (h : SwingVL w B v s) : v = .agg #[.int .i64 s.pStation, .int .i64 s.pFar, .int .i64 s.pWidth, .int .i64 s.pTerm] := h
theorem SwingVO.form {w : World} {L B : Nat} {v : Value} {s : GSwing} (h : SwingVO w L B v s) : v = .agg #[.int .i64 s.pStation, .int .i64 s.pFar, .int .i64 s.pWidth, .int .i64 s.pTerm] := h
set_option maxRecDepth 100000 in
theorem open_Swing {H : Type} {enc : TypeId × Value → H} {w : World} {base : Nat} {v : Value} {d : DataW H} {ps : List MemPlace}
    (hval : Value.okWide Try.prog w .any base 78 v) (hd : DataW.Trod enc Try.prog w 0 (fun _ => true) true 78 v d ps) : ∃ s : GSwing, SwingVL w w.heap.size v s ∧ wfSwing s := by
  obtain ⟨cs, rfl, hsz⟩ := okWide_struct Try.underlying78 hval
  obtain ⟨fuel, hf⟩ := hd
  obtain ⟨s, h, hw⟩ := cells_Swing _ _ _ hf
  refine ⟨s, ?_, hw⟩
  obtain ⟨l⟩ := cs
  have h : l = encSwing s := h
  subst h
  rfl
theorem to_Swing (s : GSwing) (v : Value) (w : World) (B : Nat) (h : SwingVL w B v s) (_ : B ≤ w.heap.size) (_ : sz1Swing s ≤ 1048576) :
    Calls Try.prog 64 #[v] w fun e w' => ∃ v', e = .returned v' ∧ SwingVO w' w.heap.size w'.heap.size v' s ∧ Below w.heap.size w w' := by
  obtain rfl := h.form
  exact (toSwing_any s w).mono fun e w' ⟨h1, h2⟩ => ⟨_, h1, rfl, h2⟩
theorem eq_Swing (s : GSwing) (v v2 : Value) (w : World) (B : Nat) (h : SwingVL w B v s) (h2 : SwingVL w B v2 s) (_ : B ≤ w.heap.size) :
    Calls Try.prog 112 #[v, v2] w fun e w' => e = .returned (.bool true) ∧ Below w.heap.size w w' := by
  obtain rfl := h.form
  obtain rfl := h2.form
  exact eqSwing_any s w
theorem sz_SwingS (xs : List GSwing) (v : Value) (left : Int) (w : World) (B : Nat) (h : SwingL w B v xs) (hB : B ≤ w.heap.size) (h0 : 0 ≤ left) (h1 : left ≤ 1048576) (ht : (szsSwing xs : Int) ≤ left) :
    Calls Try.prog 55 #[v, .int .i64 left] w fun e w' => e = .returned (.int .i64 (left - szsSwing xs)) ∧ Below w.heap.size w w' := szSwingS_le0 xs v left w B h hB h0 h1 ht
theorem szgt_SwingS (xs : List GSwing) (v : Value) (left : Int) (w : World) (B : Nat) (h : SwingL w B v xs) (hB : B ≤ w.heap.size) (h0 : 0 ≤ left) (h1 : left ≤ 1048576) (ht : left < (szsSwing xs : Int)) (hw : ∀ s ∈ xs, wfSwing s) :
    Calls Try.prog 55 #[v, .int .i64 left] w fun e w' => e = .returned (.int .i64 (-1)) ∧ Below w.heap.size w w' := szSwingS_gt0 xs v left w B h hB h0 h1  ht
theorem to_SwingS (xs : List GSwing) (v : Value) (w : World) (B : Nat) (h : SwingL w B v xs) (hB : B ≤ w.heap.size) (hn : szsSwing xs ≤ 1048576) :
    Calls Try.prog 57 #[v] w fun e w' => ∃ v', e = .returned v' ∧ SwingO w' w.heap.size w'.heap.size v' xs ∧ Below w.heap.size w w' := toSwingS_any xs v w B h hB (Nat.le_trans (szsSwing_len xs) hn)
theorem eq_SwingS (xs : List GSwing) (v v2 : Value) (w : World) (B : Nat) (h : SwingL w B v xs) (h2 : SwingL w B v2 xs) (hB : B ≤ w.heap.size) :
    Calls Try.prog 58 #[v, v2] w fun e w' => e = .returned (.bool true) ∧ Below w.heap.size w w' := eqSwingS_any xs v v2 w B h h2 hB
theorem mark_SwingS (xs : List GSwing) (v : Value) (k : Int) (w : World) (L B : Nat) (h : SwingO w L B v xs) (hB : B ≤ w.heap.size) (hn : szsSwing xs ≤ 1048576) (h0 : 0 ≤ k) (h1 : k ≤ 100000000000) :
    Calls Try.prog 67 #[v, .int .i64 k] w fun e w' => e = .returned (.int .i64 (k + 4 * xs.length)) ∧ SwingO w' L B v (marksSwing k xs.length) ∧ Upd L B w w' := markSwingS_any xs v k w L B h hB (Nat.le_trans (szsSwing_len xs) hn) h0 h1
theorem held_SwingS (xs : List GSwing) (v : Value) (k : Int) (w : World) (B : Nat) (h : SwingL w B v (marksSwing k xs.length)) (hB : B ≤ w.heap.size) (hn : szsSwing xs ≤ 1048576) (h0 : 0 ≤ k) (h1 : k ≤ 100000000000) :
    Calls Try.prog 72 #[v, .int .i64 k] w fun e w' => e = .returned (.int .i64 (k + 4 * xs.length)) ∧ Below w.heap.size w w' := heldSwingS_any xs.length v k w B h hB (Nat.le_trans (szsSwing_len xs) hn) h0 h1
end Go.Proofs.Ytdiedfpfhbdamaa
