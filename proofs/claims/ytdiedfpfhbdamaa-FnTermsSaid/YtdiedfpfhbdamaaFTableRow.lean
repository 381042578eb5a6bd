/- TableRow: what it reads as; the laws' helpers on it and on slices of it. -/
import Derived.Test.YtdiedfpfhbdamaaFlat
import Derived.Handy
import Derived.Deep.Slices
import Derived.Deep.Fields
namespace Go.Proofs.Ytdiedfpfhbdamaa
open Go.ChangeShapes Go.WideShapes Go.ChangeAt Go.RowKit Go.ChangeMaps
set_option linter.unusedSimpArgs false
set_option linter.unusedVariables false

structure GTableRow where
  pFar : Int
  pBonus : Int
def encTableRow (s : GTableRow) : List Value := [.int .i64 s.pFar, .int .i64 s.pBonus]
theorem encTableRow_len : ∀ s, (encTableRow s).length = 2 := fun _ => rfl
def zeroTableRow : GTableRow := ⟨0, 0⟩
abbrev TableRowL (w : World) (B : Nat) (v : Value) (xs : List GTableRow) : Prop := LstK encTableRow 2 w B v xs
abbrev TableRowO (w : World) (L B : Nat) (v : Value) (xs : List GTableRow) : Prop := OwnK encTableRow 2 w L B v xs
def sz1TableRow (s : GTableRow) : Nat := 0
def szsTableRow (xs : List GTableRow) : Nat := (xs.map fun s => 1 + sz1TableRow s).sum
theorem szsTableRow_len (xs : List GTableRow) : xs.length ≤ szsTableRow xs := by
  unfold szsTableRow
  induction xs with
  | nil => simp
  | cons a l ih => simp only [List.map_cons, List.sum_cons, List.length_cons]; omega
theorem szsTableRow_mem {xs : List GTableRow} {s : GTableRow} (h : s ∈ xs) : sz1TableRow s ≤ szsTableRow xs := by
  unfold szsTableRow
  induction xs with
  | nil => simp at h
  | cons a l ih =>
    simp only [List.map_cons, List.sum_cons]
    rcases List.mem_cons.1 h with rfl | h
    · omega
    · have := ih h; omega
theorem szsTableRow_split (xs : List GTableRow) : szsTableRow xs = xs.length := by
  unfold szsTableRow
  induction xs with
  | nil => simp
  | cons a l ih => rw [List.map_cons, List.sum_cons, List.length_cons, ih]; unfold sz1TableRow; omega

/-- One of them by value. -/
def TableRowV (v : Value) (s : GTableRow) : Prop := v = .agg #[.int .i64 s.pFar, .int .i64 s.pBonus]
set_option maxHeartbeats 800000 in
theorem toTableRow_any (s : GTableRow) (w : World) :
    Calls Try.prog 108 #[.agg #[.int .i64 s.pFar, .int .i64 s.pBonus]] w fun e w' => e = .returned (.agg #[.int .i64 s.pFar, .int .i64 s.pBonus]) ∧ Below w.heap.size w w' := by
  go_enter Try.func108, Try.ntmps108
  go_wp2
  refine bodyPost_ret (v := .agg #[.int .i64 s.pFar, .int .i64 s.pBonus]) (by simp [results, Try.results108, go_sem]) rfl ⟨rfl, ?_⟩
  first
    | exact (((Below.refl _ w).alloc (Nat.le_refl _) _).alloc (by first | omega | (simp; done) | (simp; omega)) _).alloc (by first | omega | (simp; done) | (simp; omega)) _
    | (repeat (first | exact (((Below.refl _ w).alloc (Nat.le_refl _) _).alloc (by first | omega | (simp; done) | (simp; omega)) _).alloc (by first | omega | (simp; done) | (simp; omega)) _ | (refine Below.setCell ?_ (by first | omega | (simp; done) | (simp; omega)) _)))
set_option maxHeartbeats 800000 in
theorem eqTableRow_any (s : GTableRow) (w : World) :
    Calls Try.prog 111 #[.agg #[.int .i64 s.pFar, .int .i64 s.pBonus], .agg #[.int .i64 s.pFar, .int .i64 s.pBonus]] w fun e w' => e = .returned (.bool true) ∧ Below w.heap.size w w' := by
  go_enter Try.func111, Try.ntmps111
  go_wp2
  go_ret
  exact ⟨rfl, ((Below.refl _ w).alloc (Nat.le_refl _) _).alloc (by first | omega | (simp; done) | (simp; omega)) _⟩

theorem info_TableRow : (Try.prog.info? 118).map (fun i => (i.zero, i.size, i.bytes)) = some (some (.agg #[.int .i64 0, .int .i64 0]), 2, 16) := by kernel_rfl
set_option maxHeartbeats 800000 in
theorem szTableRowS_le0 (xs : List GTableRow) (v : Value) (left : Int) (w : World) (B : Nat) (h : TableRowL w B v xs) (hB : B ≤ w.heap.size) (h0 : 0 ≤ left) (h1 : left ≤ 1048576) (ht : (szsTableRow xs : Int) ≤ left) :
    Calls Try.prog 50 #[v, .int .i64 left] w fun e w' => e = .returned (.int .i64 (left - szsTableRow xs)) ∧ Below w.heap.size w w' := by
  obtain ⟨ao, cap, rfl, hcap, hmax, -, hc⟩ := h
  unfold maxLen at hmax
  rw [szsTableRow_split] at *
  clear hc
  go_enter Try.func50, Try.ntmps50
  have hd : ¬ left - (xs.length : Int) < 0 := by omega
  go_wp2
  go_ret
  exact ⟨rfl, Below.refl _ _⟩
set_option maxHeartbeats 800000 in
theorem szTableRowS_gt0 (xs : List GTableRow) (v : Value) (left : Int) (w : World) (B : Nat) (h : TableRowL w B v xs) (hB : B ≤ w.heap.size) (h0 : 0 ≤ left) (h1 : left ≤ 1048576) (ht : left < (szsTableRow xs : Int)) :
    Calls Try.prog 50 #[v, .int .i64 left] w fun e w' => e = .returned (.int .i64 (-1)) ∧ Below w.heap.size w w' := by
  obtain ⟨ao, cap, rfl, hcap, hmax, -, hc⟩ := h
  unfold maxLen at hmax
  rw [szsTableRow_split] at *
  clear hc
  go_enter Try.func50, Try.ntmps50
  go_wp2
  go_ret
  exact ⟨rfl, Below.refl _ _⟩
set_option maxHeartbeats 1000000 in
theorem toTableRowS_any (xs : List GTableRow) (v : Value) (w : World) (B : Nat) (h : TableRowL w B v xs) (hB : B ≤ w.heap.size) (hn : xs.length ≤ 1048576) :
    Calls Try.prog 52 #[v] w fun e w' => ∃ v', e = .returned v' ∧ TableRowO w' w.heap.size w'.heap.size v' xs ∧ Below w.heap.size w w' := by
  obtain ⟨ao, cap, rfl, hcap, hmax, -, hc⟩ := h
  unfold maxLen at hmax
  obtain ⟨ti, hi, hz0, hz1, hz2⟩ := info_parts info_TableRow
  have hnm : xs.length ≤ maxLen := by unfold maxLen; omega
  go_enter Try.func52, Try.ntmps52
  go_wp2_with (at_make; refine wpList_make_full _ rfl _ _ 51 rfl w.heap.size 118 ti (.agg #[.int .i64 0, .int .i64 0]) 2 Try.underlying51 hi hz0 hz1 .i64 .i64 _ _ xs.length rfl rfl rfl rfl (by rw [hz2]; omega) hnm (Nat.le_refl _) ?_; intro w1 hown hgrow)
  have hb1 : Below w.heap.size w w1 := (Below.refl _ _).grown hgrow (Nat.le_refl _) (by simp)
  have hown2 : w1.ownsRow w.heap.size 118 2 (.slice (some ⟨w.heap.size, 0, none⟩) xs.length xs.length) xs.length ((List.replicate xs.length zeroTableRow).flatMap encTableRow) := by
    rw [← made_flat encTableRow_len (by omega) #[.int .i64 0, .int .i64 0] zeroTableRow rfl xs.length]
    exact hown
  have hO : TableRowO w1 w.heap.size w1.heap.size (.slice (some ⟨w.heap.size, 0, none⟩) xs.length xs.length) (List.replicate xs.length zeroTableRow) := by
    have := OwnK.of_row encTableRow_len (by omega) hown2
    simpa using this
  clear hown hown2
  go_loopw [4] (fun i wr => ∃ (k : Nat) (ys : List GTableRow), k ≤ xs.length ∧ i = .int .i64 k ∧ TableRowO wr w.heap.size wr.heap.size (.slice (some ⟨w.heap.size, 0, none⟩) xs.length xs.length) ys ∧ ys.length = xs.length ∧ ys.take k = xs.take k ∧ Below w.heap.size w wr)
    (fun i _ => xs.length - (intOf i).toNat)
  case atStart => exact ⟨0, _, Nat.zero_le _, rfl, hO, by simp, rfl, hb1⟩
  case round =>
    obtain ⟨k, ys, hk, rfl, hrow, hyl, hys, hbl⟩ := hrel
    clear hO hb1
    have HY := Lib.hid hys
    have HL := Lib.hid hyl
    clear hys hyl
    by_cases hlt : k < xs.length
    · obtain ⟨s, hs⟩ := get_of_lt hlt
      obtain ⟨b, off, rfl, hb, hcell⟩ := hc k s hs
      obtain ⟨y, hy⟩ : ∃ y, ys[k]? = some y := get_of_lt (by rw [HL.out]; omega)
      have c0 : wr.cell? ⟨b, off + k * 2, none⟩ = some (.int .i64 s.pFar) := cellOf hbl (by omega) (hcell 0 _ rfl)
      have c1 : wr.cell? ⟨b, off + k * 2 + 1, none⟩ = some (.int .i64 s.pBonus) := cellOf hbl (by omega) (hcell 1 _ rfl)
      have HS := Lib.hid hs
      have HYY := Lib.hid hy
      clear hs hy hcell hc
      go_wp2_with fail
      refine (toTableRow_any s _).mono ?_
      rintro e w2 ⟨rfl, hb2⟩
      have hz2 := hb2.size
      have hr2 := hrow.below hb2
      have hbl2 := hbl.trans (hb2.mono hbl.size)
      clear hb2 hrow hbl
      obtain ⟨ao3, cap3, e3, _, _, _, h3⟩ := id hr2
      obtain ⟨b3, off3, e4, _, hB3, hz3, hc3, hf3⟩ := h3 k y HYY.out
      rw [e4] at e3
      simp only [Value.slice.injEq, Option.some.injEq, Addr.mk.injEq] at e3
      obtain ⟨⟨rfl, rfl, -⟩, -, -⟩ := e3
      have o0 : w2.cell? ⟨w.heap.size, k * 2, none⟩ = some (.int .i64 y.pFar) := by have := hc3 0 _ rfl; simpa using this
      have o1 : w2.cell? ⟨w.heap.size, k * 2 + 1, none⟩ = some (.int .i64 y.pBonus) := by have := hc3 1 _ rfl; simpa using this
      have hr3 := hr2.put encTableRow_len rfl HYY.out (ad := k * 2) (by omega) s
      have hbl3 := below_putCells hbl2 (b := w.heap.size) (Nat.le_refl _) (k * 2) (encTableRow s) 0
      have HR := Lib.hid hr3
      clear hr2 hr3 hc3 h3 e4
      go_wp2
      go_roundw
      case rel =>
        refine ⟨k + 1, ys.set k s, by omega, by go_num, ?_, by simp [HL.out], ?_, hbl3⟩
        · exact HR.out.mono (Nat.le_refl _) (by simp [World.setCell]; exact hz2)
        · rw [take_snoc HS.out, take_snoc (l := ys.set k s) (x := s) (by rw [List.getElem?_set_self]; rw [HL.out]; omega), List.take_set_of_le (by omega), HY.out]
      case measure => simp [intOf]; omega
    · go_wp2
      go_ret
      refine ⟨_, rfl, ?_, hbl⟩
      have := HY.out
      rw [take_all hlt, take_all (by rw [HL.out]; exact hlt)] at this
      rw [this] at hrow
      exact hrow
set_option maxHeartbeats 2000000 in
theorem eqTableRowS_any (xs : List GTableRow) (v v2 : Value) (w : World) (B : Nat) (h : TableRowL w B v xs) (h2 : TableRowL w B v2 xs) (hB : B ≤ w.heap.size) :
    Calls Try.prog 54 #[v, v2] w fun e w' => e = .returned (.bool true) ∧ Below w.heap.size w w' := by
  obtain ⟨ao, cap, rfl, hcap, hmax, -, hc⟩ := h
  obtain ⟨ao2, cap2, rfl, hcap2, hmax2, -, hc2⟩ := h2
  unfold maxLen at hmax hmax2
  go_enter Try.func54, Try.ntmps54
  go_wp2
  go_loopw [5] (fun i wr => ∃ (k : Nat), k ≤ xs.length ∧ i = .int .i64 k ∧ Below w.heap.size w wr)
    (fun i _ => xs.length - (intOf i).toNat)
  case atStart => exact ⟨0, Nat.zero_le _, rfl, Below.refl _ _⟩
  case round =>
    obtain ⟨k, hk, rfl, hbl⟩ := hrel
    have hsz := hbl.size
    by_cases hlt : k < xs.length
    · obtain ⟨s, hs⟩ := get_of_lt hlt
      obtain ⟨b, off, rfl, hb, hcell⟩ := hc k s hs
      obtain ⟨b2, off2, rfl, hb2, hcell2⟩ := hc2 k s hs
      have c0 : wr.cell? ⟨b, off + k * 2, none⟩ = some (.int .i64 s.pFar) := cellOf hbl (by omega) (hcell 0 _ rfl)
      have c1 : wr.cell? ⟨b, off + k * 2 + 1, none⟩ = some (.int .i64 s.pBonus) := cellOf hbl (by omega) (hcell 1 _ rfl)
      have d0 : wr.cell? ⟨b2, off2 + k * 2, none⟩ = some (.int .i64 s.pFar) := cellOf hbl (by omega) (hcell2 0 _ rfl)
      have d1 : wr.cell? ⟨b2, off2 + k * 2 + 1, none⟩ = some (.int .i64 s.pBonus) := cellOf hbl (by omega) (hcell2 1 _ rfl)
      have hi0 : (0 : Int) ≤ (k : Int) := by omega
      have hi1 : (k : Int) < (xs.length : Int) := by omega
      have hbs : b < wr.heap.size := by omega
      have hbs2 : b2 < wr.heap.size := by omega
      clear hs hcell hcell2 hc hc2
      go_wp2
      go_region_held3 (fun w' => Below wr.heap.size wr w' ∧ w'.cell? ⟨b, off + k * 2, none⟩ = some (.int .i64 s.pFar) ∧ w'.cell? ⟨b, off + k * 2 + 1, none⟩ = some (.int .i64 s.pBonus) ∧ w'.cell? ⟨b2, off2 + k * 2, none⟩ = some (.int .i64 s.pFar) ∧ w'.cell? ⟨b2, off2 + k * 2 + 1, none⟩ = some (.int .i64 s.pBonus))
        (first
          | exact ⟨(Below.refl _ _).drew, c0, c1, d0, d1⟩
          | (have q := (Below.refl wr.heap.size wr).drew.trans hq; exact ⟨q, cellOf q hbs c0, cellOf q hbs c1, cellOf q hbs2 d0, cellOf q hbs2 d1⟩))
        (first | (go_at_call 111; refine (eqTableRow_any s _).mono ?_; rintro e w2 ⟨rfl, hq⟩))
      go_wp2
      go_roundw
      case rel => exact ⟨k + 1, by omega, by go_num, hbl.trans (((Below.refl wr.heap.size wr).drew.trans hq).mono (by omega))⟩
      case measure => simp [intOf]; omega
    · go_wp2
      go_ret
      exact ⟨rfl, hbl⟩
def mkTableRow (k : Int) : GTableRow := ⟨k, k + 1⟩
def marksTableRow (k : Int) (n : Nat) : List GTableRow := (List.range n).map fun (i : Nat) => mkTableRow (k + 2 * i)
theorem marksTableRow_get {k : Int} {n i : Nat} (h : i < n) : (marksTableRow k n)[i]? = some (mkTableRow (k + 2 * i)) := by simp [marksTableRow, h]
theorem marksTableRow_len (k : Int) (n : Nat) : (marksTableRow k n).length = n := by simp [marksTableRow]
theorem eq_marksTableRow {k : Int} {n : Nat} {cs : List GTableRow} (hl : cs.length = n) (h : ∀ i, i < n → cs[i]? = some (mkTableRow (k + 2 * i))) : cs = marksTableRow k n := by
  apply List.ext_getElem?
  intro i
  by_cases hi : i < n
  · rw [h i hi, marksTableRow_get hi]
  · rw [List.getElem?_eq_none (by omega), List.getElem?_eq_none (by rw [marksTableRow_len]; omega)]
set_option maxHeartbeats 2000000 in
theorem markTableRowS_any (ss : List GTableRow) (v : Value) (k : Int) (w : World) (L B : Nat) (h : TableRowO w L B v ss) (hB : B ≤ w.heap.size) (hn : ss.length ≤ 1048576) (h0 : 0 ≤ k) (h1 : k ≤ 100000000000) :
    Calls Try.prog 66 #[v, .int .i64 k] w fun e w' => e = .returned (.int .i64 (k + 2 * ss.length)) ∧ TableRowO w' L B v (marksTableRow k ss.length) ∧ Upd L B w w' := by
  obtain ⟨ao, cap, rfl, hcap, hmax, -, hc⟩ := id h
  go_enter Try.func66, Try.ntmps66
  go_wp2
  go_loopw [1, 5] (fun m i wr => ∃ (j : Nat) (cs : List GTableRow), j ≤ ss.length ∧ i = .int .i64 j ∧ m = .int .i64 (k + 2 * j) ∧ cs.length = ss.length ∧ (∀ i, i < j → cs[i]? = some (mkTableRow (k + 2 * i))) ∧ TableRowO wr L B (.slice ao ss.length cap) cs ∧ Upd L B w wr)
    (fun _ i _ => ss.length - (intOf i).toNat)
  case atStart => exact ⟨0, ss, Nat.zero_le _, rfl, by simp, rfl, fun i hi => by omega, h, Upd.refl _ _ _⟩
  case round =>
    obtain ⟨j, cs, hj, rfl, rfl, hl, hm, hown, hbl⟩ := hrel
    clear hc h
    by_cases hlt : j < ss.length
    · obtain ⟨s, hs⟩ := get_of_lt (l := cs) (k := j) (by omega)
      obtain ⟨ao', cap', hv', _, _, _, hc'⟩ := id hown
      have hl' := Lib.hid hl
      simp only [Value.slice.injEq] at hv'
      obtain ⟨rfl, -, rfl⟩ := hv'
      obtain ⟨b, off, rfl, hLb, hb, hbz, hcell, hfr⟩ := hc' j s hs
      have HM := Lib.hid hm
      have HH := Lib.hid hs
      clear hl hs hc' hm
      have hj1 : (j : Int) < 1048576 := by omega
      have c0 : wr.cell? ⟨b, off + j * 2, none⟩ = some (.int .i64 s.pFar) := hcell 0 _ rfl
      have c1 : wr.cell? ⟨b, off + j * 2 + 1, none⟩ = some (.int .i64 s.pBonus) := hcell 1 _ rfl
      generalize hq : (k + 2 * (j : Int)) = q at *
      have HQ := Lib.hid hq
      have hq0 : 0 ≤ q := by omega
      have hq1 : q ≤ 101000000000 := by omega
      clear hq
      have hBr : B ≤ wr.heap.size := Nat.le_trans hB hbl.size
      have R0 := Lib.hid hown
      have G0 := Lib.hid HH.out
      have U0 := Lib.hid hbl
      clear hown hbl
      have R1 := Lib.hid (OwnK.set encTableRow_len R0.out (m := 0) rfl G0.out (by omega) (y := ⟨q, s.pBonus⟩) (u := .int .i64 (q)) rfl)
      have G1 := Lib.hid (get_set_self (y := (⟨q, s.pBonus⟩ : GTableRow)) G0.out)
      have U1 := Lib.hid (Upd.setCell U0.out (p := ⟨b, off + j * 2, none⟩) hLb hb (.int .i64 (q)))
      clear R0 G0 U0
      have R2 := Lib.hid (OwnK.set encTableRow_len R1.out (m := 1) rfl G1.out (by omega) (y := ⟨q, q + 1⟩) (u := .int .i64 (q + 1)) rfl)
      have G2 := Lib.hid (get_set_self (y := (⟨q, q + 1⟩ : GTableRow)) G1.out)
      have U2 := Lib.hid (Upd.setCell U1.out (p := ⟨b, off + j * 2 + 1, none⟩) hLb hb (.int .i64 (q + 1)))
      clear R1 G1 U1
      go_wp2
      clear hfr hcell
      go_roundw
      case rel =>
        refine ⟨j + 1, ((cs.set j ⟨q, s.pBonus⟩).set j ⟨q, q + 1⟩), by omega, by go_num, (by have e := HQ.out; simp only [Value.int.injEq, true_and]; omega), by simp [hl'.out], ?_, R2.out, U2.out⟩
        intro i hi
        by_cases hij : j = i
        · subst hij; rw [HQ.out]; exact G2.out
        · simp only [List.getElem?_set_ne hij]; exact HM.out i (by omega)
      case measure => simp [intOf]; omega
    · obtain rfl : j = ss.length := by omega
      have hcm := eq_marksTableRow hl hm
      have HC := Lib.hid hcm
      clear hcm hl hm
      go_wp2
      go_ret
      refine ⟨rfl, ?_, hbl⟩
      rw [← HC.out]; exact hown
theorem oneTableRow (xs : List GTableRow) : ∀ u ∈ xs.flatMap encTableRow, u.oneCell' = true := by
  intro u hu
  obtain ⟨x, _, hx⟩ := List.mem_flatMap.1 hu
  simp only [encTableRow, List.mem_cons, List.not_mem_nil, or_false] at hx
  rcases hx with rfl | rfl <;> rfl
def wfTableRow (s : GTableRow) : Prop := I64 s.pFar ∧ I64 s.pBonus
set_option maxRecDepth 100000 in
theorem cells_TableRow {H : Type} {enc : TypeId × Value → H} {w : World} (n : Nat) (cs : List Value) (x : DataW H × List MemPlace) (h : DataW.trod enc Try.prog w 0 (fun _ => true) true n 120 cs = some x) : ∃ s, cs = encTableRow s ∧ wfTableRow s := by
  obtain ⟨ys, m, _, _, hlen, hyl, hf⟩ := DataW.trod_struct Try.underlying120 h
  have hlen : cs.length = 2 := hlen.trans (by kernel_rfl)
  obtain ⟨c0, y0, e0, t0⟩ := field_cell (by kernel_rfl) hlen hyl hf 0 _ rfl
  obtain ⟨a0, g0, _, b0⟩ := DataW.trod_int Try.underlying3 t0
  simp only [List.cons.injEq, and_true] at g0
  subst g0
  obtain ⟨c1, y1, e1, t1⟩ := field_cell (by kernel_rfl) hlen hyl hf 1 _ rfl
  obtain ⟨a1, g1, _, b1⟩ := DataW.trod_int Try.underlying3 t1
  simp only [List.cons.injEq, and_true] at g1
  subst g1
  refine ⟨⟨a0, a1⟩, ?_, bounds_i64 b0, bounds_i64 b1⟩
  apply List.ext_getElem?
  intro i
  match i with
  | 0 => exact e0
  | 1 => exact e1
  | i + 2 => rw [List.getElem?_eq_none (by omega), List.getElem?_eq_none (by rw [encTableRow_len]; omega)]
set_option maxRecDepth 100000 in
theorem open_TableRowS {H : Type} {enc : TypeId × Value → H} {w : World} {base : Nat} {v : Value} {d : DataW H} {ps : List MemPlace}
    (hval : Value.okWide Try.prog w .any base 64 v) (hd : DataW.Trod enc Try.prog w 0 (fun _ => true) true 64 v d ps) : ∃ xs : List GTableRow, TableRowL w w.heap.size v xs ∧ ∀ x ∈ xs, wfTableRow x :=
  rows_of encTableRow 2 encTableRow_len (by omega) wfTableRow Try.underlying64 (by kernel_rfl) (fun n cs x h => cells_TableRow n cs x h) hval hd
/-- One of them, by value. -/
def TableRowVL (_ : World) (_ : Nat) (v : Value) (s : GTableRow) : Prop := v = .agg #[.int .i64 s.pFar, .int .i64 s.pBonus]
def TableRowVO (_ : World) (_ _ : Nat) (v : Value) (s : GTableRow) : Prop := v = .agg #[.int .i64 s.pFar, .int .i64 s.pBonus]
theorem TableRowVO.lst {w : World} {L B : Nat} {v : Value} {s : GTableRow} (h : TableRowVO w L B v s) : TableRowVL w B v s := h
theorem TableRowVL.below {w w' : World} {B : Nat} {v : Value} {s : GTableRow} (h : TableRowVL w B v s) (_ : Below B w w') : TableRowVL w' B v s := h
theorem TableRowVL.mono {w : World} {B B' : Nat} {v : Value} {s : GTableRow} (h : TableRowVL w B v s) (_ : B ≤ B') : TableRowVL w B' v s := h
theorem TableRowVO.below {w w' : World} {L B : Nat} {v : Value} {s : GTableRow} (h : TableRowVO w L B v s) (_ : Below B w w') : TableRowVO w' L B v s := h
theorem TableRowVO.mono {w : World} {L B L' B' : Nat} {v : Value} {s : GTableRow} (h : TableRowVO w L B v s) (_ : L' ≤ L) (_ : B ≤ B') : TableRowVO w L' B' v s := h
theorem TableRowVO.high {w w' : World} {L B L' U' : Nat} {v : Value} {s : GTableRow} (h : TableRowVO w L B v s) (_ : Upd L' U' w w') (_ : U' ≤ L) : TableRowVO w' L B v s := h
theorem TableRowVL.form {w : World} {B : Nat} {v : Value} {s : GTableRow} (h : TableRowVL w B v s) : v = .agg #[.int .i64 s.pFar, .int .i64 s.pBonus] := h
theorem TableRowVO.form {w : World} {L B : Nat} {v : Value} {s : GTableRow} (h : TableRowVO w L B v s) : v = .agg #[.int .i64 s.pFar, .int .i64 s.pBonus] := h
set_option maxRecDepth 100000 in
theorem open_TableRow {H : Type} {enc : TypeId × Value → H} {w : World} {base : Nat} {v : Value} {d : DataW H} {ps : List MemPlace}
    (hval : Value.okWide Try.prog w .any base 120 v) (hd : DataW.Trod enc Try.prog w 0 (fun _ => true) true 120 v d ps) : ∃ s : GTableRow, TableRowVL w w.heap.size v s ∧ wfTableRow s := by
  obtain ⟨cs, rfl, hsz⟩ := okWide_struct Try.underlying120 hval
  obtain ⟨fuel, hf⟩ := hd
  obtain ⟨s, h, hw⟩ := cells_TableRow _ _ _ hf
  refine ⟨s, ?_, hw⟩
  obtain ⟨l⟩ := cs
  have h : l = encTableRow s := h
  subst h
  rfl
theorem to_TableRow (s : GTableRow) (v : Value) (w : World) (B : Nat) (h : TableRowVL w B v s) (_ : B ≤ w.heap.size) (_ : sz1TableRow s ≤ 1048576) :
    Calls Try.prog 108 #[v] w fun e w' => ∃ v', e = .returned v' ∧ TableRowVO w' w.heap.size w'.heap.size v' s ∧ Below w.heap.size w w' := by
  obtain rfl := h.form
  exact (toTableRow_any s w).mono fun e w' ⟨h1, h2⟩ => ⟨_, h1, rfl, h2⟩
theorem eq_TableRow (s : GTableRow) (v v2 : Value) (w : World) (B : Nat) (h : TableRowVL w B v s) (h2 : TableRowVL w B v2 s) (_ : B ≤ w.heap.size) :
    Calls Try.prog 111 #[v, v2] w fun e w' => e = .returned (.bool true) ∧ Below w.heap.size w w' := by
  obtain rfl := h.form
  obtain rfl := h2.form
  exact eqTableRow_any s w
theorem sz_TableRowS (xs : List GTableRow) (v : Value) (left : Int) (w : World) (B : Nat) (h : TableRowL w B v xs) (hB : B ≤ w.heap.size) (h0 : 0 ≤ left) (h1 : left ≤ 1048576) (ht : (szsTableRow xs : Int) ≤ left) :
    Calls Try.prog 50 #[v, .int .i64 left] w fun e w' => e = .returned (.int .i64 (left - szsTableRow xs)) ∧ Below w.heap.size w w' := szTableRowS_le0 xs v left w B h hB h0 h1 ht
theorem szgt_TableRowS (xs : List GTableRow) (v : Value) (left : Int) (w : World) (B : Nat) (h : TableRowL w B v xs) (hB : B ≤ w.heap.size) (h0 : 0 ≤ left) (h1 : left ≤ 1048576) (ht : left < (szsTableRow xs : Int)) (hw : ∀ s ∈ xs, wfTableRow s) :
    Calls Try.prog 50 #[v, .int .i64 left] w fun e w' => e = .returned (.int .i64 (-1)) ∧ Below w.heap.size w w' := szTableRowS_gt0 xs v left w B h hB h0 h1  ht
theorem to_TableRowS (xs : List GTableRow) (v : Value) (w : World) (B : Nat) (h : TableRowL w B v xs) (hB : B ≤ w.heap.size) (hn : szsTableRow xs ≤ 1048576) :
    Calls Try.prog 52 #[v] w fun e w' => ∃ v', e = .returned v' ∧ TableRowO w' w.heap.size w'.heap.size v' xs ∧ Below w.heap.size w w' := toTableRowS_any xs v w B h hB (Nat.le_trans (szsTableRow_len xs) hn)
theorem eq_TableRowS (xs : List GTableRow) (v v2 : Value) (w : World) (B : Nat) (h : TableRowL w B v xs) (h2 : TableRowL w B v2 xs) (hB : B ≤ w.heap.size) :
    Calls Try.prog 54 #[v, v2] w fun e w' => e = .returned (.bool true) ∧ Below w.heap.size w w' := eqTableRowS_any xs v v2 w B h h2 hB
theorem mark_TableRowS (xs : List GTableRow) (v : Value) (k : Int) (w : World) (L B : Nat) (h : TableRowO w L B v xs) (hB : B ≤ w.heap.size) (hn : szsTableRow xs ≤ 1048576) (h0 : 0 ≤ k) (h1 : k ≤ 100000000000) :
    Calls Try.prog 66 #[v, .int .i64 k] w fun e w' => e = .returned (.int .i64 (k + 2 * xs.length)) ∧ TableRowO w' L B v (marksTableRow k xs.length) ∧ Upd L B w w' := markTableRowS_any xs v k w L B h hB (Nat.le_trans (szsTableRow_len xs) hn) h0 h1
end Go.Proofs.Ytdiedfpfhbdamaa
