/- ClockMark: what it reads as; the laws' helpers on it and on slices of it. -/
import Derived.Test.YtklilfbokpljkacFlat
import Derived.Handy
import Derived.Deep.Slices
import Derived.Deep.Fields
namespace Go.Proofs.Ytklilfbokpljkac
open Go.ChangeShapes Go.WideShapes Go.ChangeAt Go.RowKit Go.ChangeMaps
set_option linter.unusedSimpArgs false
set_option linter.unusedVariables false

structure GClockMark where
  pShown : Int
  pTrue : Int
def encClockMark (s : GClockMark) : List Value := [.int .i64 s.pShown, .int .i64 s.pTrue]
theorem encClockMark_len : ∀ s, (encClockMark s).length = 2 := fun _ => rfl
def zeroClockMark : GClockMark := ⟨0, 0⟩
abbrev ClockMarkL (w : World) (B : Nat) (v : Value) (xs : List GClockMark) : Prop := LstK encClockMark 2 w B v xs
abbrev ClockMarkO (w : World) (L B : Nat) (v : Value) (xs : List GClockMark) : Prop := OwnK encClockMark 2 w L B v xs
def sz1ClockMark (s : GClockMark) : Nat := 0
def szsClockMark (xs : List GClockMark) : Nat := (xs.map fun s => 1 + sz1ClockMark s).sum
theorem szsClockMark_len (xs : List GClockMark) : xs.length ≤ szsClockMark xs := by
  unfold szsClockMark
  induction xs with
  | nil => simp
  | cons a l ih => simp only [List.map_cons, List.sum_cons, List.length_cons]; omega
theorem szsClockMark_mem {xs : List GClockMark} {s : GClockMark} (h : s ∈ xs) : sz1ClockMark s ≤ szsClockMark xs := by
  unfold szsClockMark
  induction xs with
  | nil => simp at h
  | cons a l ih =>
    simp only [List.map_cons, List.sum_cons]
    rcases List.mem_cons.1 h with rfl | h
    · omega
    · have := ih h; omega
theorem szsClockMark_split (xs : List GClockMark) : szsClockMark xs = xs.length := by
  unfold szsClockMark
  induction xs with
  | nil => simp
  | cons a l ih => rw [List.map_cons, List.sum_cons, List.length_cons, ih]; unfold sz1ClockMark; omega

/-- One of them by value. -/
def ClockMarkV (v : Value) (s : GClockMark) : Prop := v = .agg #[.int .i64 s.pShown, .int .i64 s.pTrue]
set_option maxHeartbeats 800000 in
theorem toClockMark_any (s : GClockMark) (w : World) :
    Calls Try.prog 107 #[.agg #[.int .i64 s.pShown, .int .i64 s.pTrue]] w fun e w' => e = .returned (.agg #[.int .i64 s.pShown, .int .i64 s.pTrue]) ∧ Below w.heap.size w w' := by
  go_enter Try.func107, Try.ntmps107
  go_wp2
  refine bodyPost_ret (v := .agg #[.int .i64 s.pShown, .int .i64 s.pTrue]) (by simp [results, Try.results107, go_sem]) rfl ⟨rfl, ?_⟩
  first
    | exact (((Below.refl _ w).alloc (Nat.le_refl _) _).alloc (by first | omega | (simp; done) | (simp; omega)) _).alloc (by first | omega | (simp; done) | (simp; omega)) _
    | (repeat (first | exact (((Below.refl _ w).alloc (Nat.le_refl _) _).alloc (by first | omega | (simp; done) | (simp; omega)) _).alloc (by first | omega | (simp; done) | (simp; omega)) _ | (refine Below.setCell ?_ (by first | omega | (simp; done) | (simp; omega)) _)))
set_option maxHeartbeats 800000 in
theorem eqClockMark_any (s : GClockMark) (w : World) :
    Calls Try.prog 109 #[.agg #[.int .i64 s.pShown, .int .i64 s.pTrue], .agg #[.int .i64 s.pShown, .int .i64 s.pTrue]] w fun e w' => e = .returned (.bool true) ∧ Below w.heap.size w w' := by
  go_enter Try.func109, Try.ntmps109
  go_wp2
  go_ret
  exact ⟨rfl, ((Below.refl _ w).alloc (Nat.le_refl _) _).alloc (by first | omega | (simp; done) | (simp; omega)) _⟩

theorem info_ClockMark : (Try.prog.info? 50).map (fun i => (i.zero, i.size, i.bytes)) = some (some (.agg #[.int .i64 0, .int .i64 0]), 2, 16) := by kernel_rfl
set_option maxHeartbeats 800000 in
theorem szClockMarkS_le0 (xs : List GClockMark) (v : Value) (left : Int) (w : World) (B : Nat) (h : ClockMarkL w B v xs) (hB : B ≤ w.heap.size) (h0 : 0 ≤ left) (h1 : left ≤ 1048576) (ht : (szsClockMark xs : Int) ≤ left) :
    Calls Try.prog 49 #[v, .int .i64 left] w fun e w' => e = .returned (.int .i64 (left - szsClockMark xs)) ∧ Below w.heap.size w w' := by
  obtain ⟨ao, cap, rfl, hcap, hmax, -, hc⟩ := h
  unfold maxLen at hmax
  rw [szsClockMark_split] at *
  clear hc
  go_enter Try.func49, Try.ntmps49
  have hd : ¬ left - (xs.length : Int) < 0 := by omega
  go_wp2
  go_ret
  exact ⟨rfl, Below.refl _ _⟩
set_option maxHeartbeats 800000 in
theorem szClockMarkS_gt0 (xs : List GClockMark) (v : Value) (left : Int) (w : World) (B : Nat) (h : ClockMarkL w B v xs) (hB : B ≤ w.heap.size) (h0 : 0 ≤ left) (h1 : left ≤ 1048576) (ht : left < (szsClockMark xs : Int)) :
    Calls Try.prog 49 #[v, .int .i64 left] w fun e w' => e = .returned (.int .i64 (-1)) ∧ Below w.heap.size w w' := by
  obtain ⟨ao, cap, rfl, hcap, hmax, -, hc⟩ := h
  unfold maxLen at hmax
  rw [szsClockMark_split] at *
  clear hc
  go_enter Try.func49, Try.ntmps49
  go_wp2
  go_ret
  exact ⟨rfl, Below.refl _ _⟩
set_option maxHeartbeats 1000000 in
theorem toClockMarkS_any (xs : List GClockMark) (v : Value) (w : World) (B : Nat) (h : ClockMarkL w B v xs) (hB : B ≤ w.heap.size) (hn : xs.length ≤ 1048576) :
    Calls Try.prog 51 #[v] w fun e w' => ∃ v', e = .returned v' ∧ ClockMarkO w' w.heap.size w'.heap.size v' xs ∧ Below w.heap.size w w' := by
  obtain ⟨ao, cap, rfl, hcap, hmax, -, hc⟩ := h
  unfold maxLen at hmax
  obtain ⟨ti, hi, hz0, hz1, hz2⟩ := info_parts info_ClockMark
  have hnm : xs.length ≤ maxLen := by unfold maxLen; omega
  go_enter Try.func51, Try.ntmps51
  go_wp2_with (at_make; refine wpList_make_full _ rfl _ _ 45 rfl w.heap.size 50 ti (.agg #[.int .i64 0, .int .i64 0]) 2 Try.underlying45 hi hz0 hz1 .i64 .i64 _ _ xs.length rfl rfl rfl rfl (by rw [hz2]; omega) hnm (Nat.le_refl _) ?_; intro w1 hown hgrow)
  have hb1 : Below w.heap.size w w1 := (Below.refl _ _).grown hgrow (Nat.le_refl _) (by simp)
  have hown2 : w1.ownsRow w.heap.size 50 2 (.slice (some ⟨w.heap.size, 0, none⟩) xs.length xs.length) xs.length ((List.replicate xs.length zeroClockMark).flatMap encClockMark) := by
    rw [← made_flat encClockMark_len (by omega) #[.int .i64 0, .int .i64 0] zeroClockMark rfl xs.length]
    exact hown
  have hO : ClockMarkO w1 w.heap.size w1.heap.size (.slice (some ⟨w.heap.size, 0, none⟩) xs.length xs.length) (List.replicate xs.length zeroClockMark) := by
    have := OwnK.of_row encClockMark_len (by omega) hown2
    simpa using this
  clear hown hown2
  go_loopw [4] (fun i wr => ∃ (k : Nat) (ys : List GClockMark), k ≤ xs.length ∧ i = .int .i64 k ∧ ClockMarkO wr w.heap.size wr.heap.size (.slice (some ⟨w.heap.size, 0, none⟩) xs.length xs.length) ys ∧ ys.length = xs.length ∧ ys.take k = xs.take k ∧ Below w.heap.size w wr)
    (fun i _ => xs.length - (intOf i).toNat)
  case atStart => exact ⟨0, _, Nat.zero_le _, rfl, hO, by simp, rfl, hb1⟩
  case round =>
    obtain ⟨k, ys, hk, rfl, hrow, hyl, hys, hbl⟩ := hrel
    clear hO hb1
    have HY := Lib.hid hys
    have HL := Lib.hid hyl
    clear hys hyl
    by_cases hlt : k < xs.length
    · obtain ⟨s, hs⟩ := get_of_lt hlt
      obtain ⟨b, off, rfl, hb, hcell⟩ := hc k s hs
      obtain ⟨y, hy⟩ : ∃ y, ys[k]? = some y := get_of_lt (by rw [HL.out]; omega)
      have c0 : wr.cell? ⟨b, off + k * 2, none⟩ = some (.int .i64 s.pShown) := cellOf hbl (by omega) (hcell 0 _ rfl)
      have c1 : wr.cell? ⟨b, off + k * 2 + 1, none⟩ = some (.int .i64 s.pTrue) := cellOf hbl (by omega) (hcell 1 _ rfl)
      have HS := Lib.hid hs
      have HYY := Lib.hid hy
      clear hs hy hcell hc
      go_wp2_with fail
      refine (toClockMark_any s _).mono ?_
      rintro e w2 ⟨rfl, hb2⟩
      have hz2 := hb2.size
      have hr2 := hrow.below hb2
      have hbl2 := hbl.trans (hb2.mono hbl.size)
      clear hb2 hrow hbl
      obtain ⟨ao3, cap3, e3, _, _, _, h3⟩ := id hr2
      obtain ⟨b3, off3, e4, _, hB3, hz3, hc3, hf3⟩ := h3 k y HYY.out
      rw [e4] at e3
      simp only [Value.slice.injEq, Option.some.injEq, Addr.mk.injEq] at e3
      obtain ⟨⟨rfl, rfl, -⟩, -, -⟩ := e3
      have o0 : w2.cell? ⟨w.heap.size, k * 2, none⟩ = some (.int .i64 y.pShown) := by have := hc3 0 _ rfl; simpa using this
      have o1 : w2.cell? ⟨w.heap.size, k * 2 + 1, none⟩ = some (.int .i64 y.pTrue) := by have := hc3 1 _ rfl; simpa using this
      have hr3 := hr2.put encClockMark_len rfl HYY.out (ad := k * 2) (by omega) s
      have hbl3 := below_putCells hbl2 (b := w.heap.size) (Nat.le_refl _) (k * 2) (encClockMark s) 0
      have HR := Lib.hid hr3
      clear hr2 hr3 hc3 h3 e4
      go_wp2
      go_roundw
      case rel =>
        refine ⟨k + 1, ys.set k s, by omega, by go_num, ?_, by simp [HL.out], ?_, hbl3⟩
        · exact HR.out.mono (Nat.le_refl _) (by simp [World.setCell]; exact hz2)
        · rw [take_snoc HS.out, take_snoc (l := ys.set k s) (x := s) (by rw [List.getElem?_set_self]; rw [HL.out]; omega), List.take_set_of_le (by omega), HY.out]
      case measure => simp [intOf]; omega
    · go_wp2
      go_ret
      refine ⟨_, rfl, ?_, hbl⟩
      have := HY.out
      rw [take_all hlt, take_all (by rw [HL.out]; exact hlt)] at this
      rw [this] at hrow
      exact hrow
set_option maxHeartbeats 2000000 in
theorem eqClockMarkS_any (xs : List GClockMark) (v v2 : Value) (w : World) (B : Nat) (h : ClockMarkL w B v xs) (h2 : ClockMarkL w B v2 xs) (hB : B ≤ w.heap.size) :
    Calls Try.prog 54 #[v, v2] w fun e w' => e = .returned (.bool true) ∧ Below w.heap.size w w' := by
  obtain ⟨ao, cap, rfl, hcap, hmax, -, hc⟩ := h
  obtain ⟨ao2, cap2, rfl, hcap2, hmax2, -, hc2⟩ := h2
  unfold maxLen at hmax hmax2
  go_enter Try.func54, Try.ntmps54
  go_wp2
  go_loopw [5] (fun i wr => ∃ (k : Nat), k ≤ xs.length ∧ i = .int .i64 k ∧ Below w.heap.size w wr)
    (fun i _ => xs.length - (intOf i).toNat)
  case atStart => exact ⟨0, Nat.zero_le _, rfl, Below.refl _ _⟩
  case round =>
    obtain ⟨k, hk, rfl, hbl⟩ := hrel
    have hsz := hbl.size
    by_cases hlt : k < xs.length
    · obtain ⟨s, hs⟩ := get_of_lt hlt
      obtain ⟨b, off, rfl, hb, hcell⟩ := hc k s hs
      obtain ⟨b2, off2, rfl, hb2, hcell2⟩ := hc2 k s hs
      have c0 : wr.cell? ⟨b, off + k * 2, none⟩ = some (.int .i64 s.pShown) := cellOf hbl (by omega) (hcell 0 _ rfl)
      have c1 : wr.cell? ⟨b, off + k * 2 + 1, none⟩ = some (.int .i64 s.pTrue) := cellOf hbl (by omega) (hcell 1 _ rfl)
      have d0 : wr.cell? ⟨b2, off2 + k * 2, none⟩ = some (.int .i64 s.pShown) := cellOf hbl (by omega) (hcell2 0 _ rfl)
      have d1 : wr.cell? ⟨b2, off2 + k * 2 + 1, none⟩ = some (.int .i64 s.pTrue) := cellOf hbl (by omega) (hcell2 1 _ rfl)
      have hi0 : (0 : Int) ≤ (k : Int) := by omega
      have hi1 : (k : Int) < (xs.length : Int) := by omega
      have hbs : b < wr.heap.size := by omega
      have hbs2 : b2 < wr.heap.size := by omega
      clear hs hcell hcell2 hc hc2
      go_wp2
      go_region_held3 (fun w' => Below wr.heap.size wr w' ∧ w'.cell? ⟨b, off + k * 2, none⟩ = some (.int .i64 s.pShown) ∧ w'.cell? ⟨b, off + k * 2 + 1, none⟩ = some (.int .i64 s.pTrue) ∧ w'.cell? ⟨b2, off2 + k * 2, none⟩ = some (.int .i64 s.pShown) ∧ w'.cell? ⟨b2, off2 + k * 2 + 1, none⟩ = some (.int .i64 s.pTrue))
        (first
          | exact ⟨(Below.refl _ _).drew, c0, c1, d0, d1⟩
          | (have q := (Below.refl wr.heap.size wr).drew.trans hq; exact ⟨q, cellOf q hbs c0, cellOf q hbs c1, cellOf q hbs2 d0, cellOf q hbs2 d1⟩))
        (first | (go_at_call 109; refine (eqClockMark_any s _).mono ?_; rintro e w2 ⟨rfl, hq⟩))
      go_wp2
      go_roundw
      case rel => exact ⟨k + 1, by omega, by go_num, hbl.trans (((Below.refl wr.heap.size wr).drew.trans hq).mono (by omega))⟩
      case measure => simp [intOf]; omega
    · go_wp2
      go_ret
      exact ⟨rfl, hbl⟩
def mkClockMark (k : Int) : GClockMark := ⟨k, k + 1⟩
def marksClockMark (k : Int) (n : Nat) : List GClockMark := (List.range n).map fun (i : Nat) => mkClockMark (k + 2 * i)
theorem marksClockMark_get {k : Int} {n i : Nat} (h : i < n) : (marksClockMark k n)[i]? = some (mkClockMark (k + 2 * i)) := by simp [marksClockMark, h]
theorem marksClockMark_len (k : Int) (n : Nat) : (marksClockMark k n).length = n := by simp [marksClockMark]
theorem eq_marksClockMark {k : Int} {n : Nat} {cs : List GClockMark} (hl : cs.length = n) (h : ∀ i, i < n → cs[i]? = some (mkClockMark (k + 2 * i))) : cs = marksClockMark k n := by
  apply List.ext_getElem?
  intro i
  by_cases hi : i < n
  · rw [h i hi, marksClockMark_get hi]
  · rw [List.getElem?_eq_none (by omega), List.getElem?_eq_none (by rw [marksClockMark_len]; omega)]
set_option maxHeartbeats 2000000 in
theorem markClockMarkS_any (ss : List GClockMark) (v : Value) (k : Int) (w : World) (L B : Nat) (h : ClockMarkO w L B v ss) (hB : B ≤ w.heap.size) (hn : ss.length ≤ 1048576) (h0 : 0 ≤ k) (h1 : k ≤ 100000000000) :
    Calls Try.prog 55 #[v, .int .i64 k] w fun e w' => e = .returned (.int .i64 (k + 2 * ss.length)) ∧ ClockMarkO w' L B v (marksClockMark k ss.length) ∧ Upd L B w w' := by
  obtain ⟨ao, cap, rfl, hcap, hmax, -, hc⟩ := id h
  go_enter Try.func55, Try.ntmps55
  go_wp2
  go_loopw [1, 5] (fun m i wr => ∃ (j : Nat) (cs : List GClockMark), j ≤ ss.length ∧ i = .int .i64 j ∧ m = .int .i64 (k + 2 * j) ∧ cs.length = ss.length ∧ (∀ i, i < j → cs[i]? = some (mkClockMark (k + 2 * i))) ∧ ClockMarkO wr L B (.slice ao ss.length cap) cs ∧ Upd L B w wr)
    (fun _ i _ => ss.length - (intOf i).toNat)
  case atStart => exact ⟨0, ss, Nat.zero_le _, rfl, by simp, rfl, fun i hi => by omega, h, Upd.refl _ _ _⟩
  case round =>
    obtain ⟨j, cs, hj, rfl, rfl, hl, hm, hown, hbl⟩ := hrel
    clear hc h
    by_cases hlt : j < ss.length
    · obtain ⟨s, hs⟩ := get_of_lt (l := cs) (k := j) (by omega)
      obtain ⟨ao', cap', hv', _, _, _, hc'⟩ := id hown
      have hl' := Lib.hid hl
      simp only [Value.slice.injEq] at hv'
      obtain ⟨rfl, -, rfl⟩ := hv'
      obtain ⟨b, off, rfl, hLb, hb, hbz, hcell, hfr⟩ := hc' j s hs
      have HM := Lib.hid hm
      have HH := Lib.hid hs
      clear hl hs hc' hm
      have hj1 : (j : Int) < 1048576 := by omega
      have c0 : wr.cell? ⟨b, off + j * 2, none⟩ = some (.int .i64 s.pShown) := hcell 0 _ rfl
      have c1 : wr.cell? ⟨b, off + j * 2 + 1, none⟩ = some (.int .i64 s.pTrue) := hcell 1 _ rfl
      generalize hq : (k + 2 * (j : Int)) = q at *
      have HQ := Lib.hid hq
      have hq0 : 0 ≤ q := by omega
      have hq1 : q ≤ 101000000000 := by omega
      clear hq
      have hBr : B ≤ wr.heap.size := Nat.le_trans hB hbl.size
      have R0 := Lib.hid hown
      have G0 := Lib.hid HH.out
      have U0 := Lib.hid hbl
      clear hown hbl
      have R1 := Lib.hid (OwnK.set encClockMark_len R0.out (m := 0) rfl G0.out (by omega) (y := ⟨q, s.pTrue⟩) (u := .int .i64 (q)) rfl)
      have G1 := Lib.hid (get_set_self (y := (⟨q, s.pTrue⟩ : GClockMark)) G0.out)
      have U1 := Lib.hid (Upd.setCell U0.out (p := ⟨b, off + j * 2, none⟩) hLb hb (.int .i64 (q)))
      clear R0 G0 U0
      have R2 := Lib.hid (OwnK.set encClockMark_len R1.out (m := 1) rfl G1.out (by omega) (y := ⟨q, q + 1⟩) (u := .int .i64 (q + 1)) rfl)
      have G2 := Lib.hid (get_set_self (y := (⟨q, q + 1⟩ : GClockMark)) G1.out)
      have U2 := Lib.hid (Upd.setCell U1.out (p := ⟨b, off + j * 2 + 1, none⟩) hLb hb (.int .i64 (q + 1)))
      clear R1 G1 U1
      go_wp2
      clear hfr hcell
      go_roundw
      case rel =>
        refine ⟨j + 1, ((cs.set j ⟨q, s.pTrue⟩).set j ⟨q, q + 1⟩), by omega, by go_num, (by have e := HQ.out; simp only [Value.int.injEq, true_and]; omega), by simp [hl'.out], ?_, R2.out, U2.out⟩
        intro i hi
        by_cases hij : j = i
        · subst hij; rw [HQ.out]; exact G2.out
        · simp only [List.getElem?_set_ne hij]; exact HM.out i (by omega)
      case measure => simp [intOf]; omega
    · obtain rfl : j = ss.length := by omega
      have hcm := eq_marksClockMark hl hm
      have HC := Lib.hid hcm
      clear hcm hl hm
      go_wp2
      go_ret
      refine ⟨rfl, ?_, hbl⟩
      rw [← HC.out]; exact hown
set_option maxRecDepth 100000 in
set_option maxHeartbeats 2000000 in
theorem heldClockMarkS_any (n : Nat) (v : Value) (k : Int) (w : World) (B : Nat) (h : ClockMarkL w B v (marksClockMark k n)) (hB : B ≤ w.heap.size) (hn : n ≤ 1048576) (h0 : 0 ≤ k) (h1 : k ≤ 100000000000) :
    Calls Try.prog 60 #[v, .int .i64 k] w fun e w' => e = .returned (.int .i64 (k + 2 * n)) ∧ Below w.heap.size w w' := by
  obtain ⟨ao, cap, rfl, hcap, hmax, -, hc⟩ := h
  rw [marksClockMark_len] at hcap ⊢
  unfold maxLen at hmax
  go_enter Try.func60, Try.ntmps60
  go_wp2
  go_loopw [1, 5] (fun m i wr => ∃ (j : Nat), j ≤ n ∧ i = .int .i64 j ∧ m = .int .i64 (k + 2 * j) ∧ Below w.heap.size w wr)
    (fun _ i _ => n - (intOf i).toNat)
  case atStart => exact ⟨0, Nat.zero_le _, rfl, by simp, Below.refl _ _⟩
  case round =>
    obtain ⟨j, hj, rfl, rfl, hbl⟩ := hrel
    have hsz := hbl.size
    by_cases hlt : j < n
    · obtain ⟨b, off, rfl, hb, hcell⟩ := hc j _ (marksClockMark_get hlt)
      clear hc
      generalize hq : (k + 2 * (j : Int)) = q at *
      have HQ := Lib.hid hq
      have hq0 : 0 ≤ q := by omega
      have hq1 : q ≤ 101000000000 := by omega
      have hi0 : (0 : Int) ≤ (j : Int) := by omega
      have hi1 : (j : Int) < (n : Int) := by omega
      clear hq
      have c0 : wr.cell? ⟨b, off + j * 2, none⟩ = some (.int .i64 (q)) := cellOf hbl (by omega) (hcell 0 _ rfl)
      have c1 : wr.cell? ⟨b, off + j * 2 + 1, none⟩ = some (.int .i64 (q + 1)) := cellOf hbl (by omega) (hcell 1 _ rfl)
      have hbs0 : b < wr.heap.size := by omega
      clear hcell
      go_wp2
      go_roundw
      case rel => exact ⟨j + 1, by omega, by go_num, (by have e := HQ.out; simp only [Value.int.injEq, true_and]; omega), hbl⟩
      case measure => simp [intOf]; omega
    · obtain rfl : j = n := by omega
      go_wp2
      go_ret
      exact ⟨rfl, hbl⟩
theorem oneClockMark (xs : List GClockMark) : ∀ u ∈ xs.flatMap encClockMark, u.oneCell' = true := by
  intro u hu
  obtain ⟨x, _, hx⟩ := List.mem_flatMap.1 hu
  simp only [encClockMark, List.mem_cons, List.not_mem_nil, or_false] at hx
  rcases hx with rfl | rfl <;> rfl
theorem cloneClockMark (xs : List GClockMark) (v : Value) (w : World) (B : Nat) (h : ClockMarkL w B v xs) (hB : B ≤ w.heap.size) (hn : xs.length ≤ 1048576) :
    Calls Try.prog 110 #[v] w fun e w' => ∃ v', e = .returned v' ∧ ClockMarkO w' w.heap.size w'.heap.size v' xs ∧ Below w.heap.size w w' := by
  obtain ⟨ti, hi, hz0, hz1, hz2⟩ := info_parts info_ClockMark
  have hrow := rowK_empty w (base := w.heap.size) 50 2 (Nat.le_refl _)
  have hnil := fun (W : World) (a : Option Addr) (l c : Nat) => Lib.run_eql_slice_nil (P := Try.prog) W 45 50 a l c 0 0 Try.underlying45
  rcases h.split encClockMark_len (by omega) with ⟨rfl, rfl⟩ | ⟨a, cap, rfl, _, _, hc⟩
  · go_enter Try.func110, Try.ntmps110
    go_wp2
    go_ret
    exact ⟨_, rfl, OwnK.of_row encClockMark_len (by omega) (World.ownsRow_nil _ _ 50 2), Below.refl _ _⟩
  · have HC := Lib.hid (fun j u (hu : (xs.flatMap encClockMark)[j]? = some u) => (((Below.refl B w).alloc hB (.cells #[] 50)).cell (hc j u hu).1).trans (hc j u hu).2)
    have H1 := Lib.hid (oneClockMark xs)
    have HL : Hid ((xs.flatMap encClockMark).length = xs.length * 2) := Lib.hid (flat_len encClockMark_len xs)
    clear hc h
    go_enter Try.func110, Try.ntmps110
    go_wp2_with (at_builtin; refine wpList_append_own _ rfl _ _ 45 rfl w.heap.size 50 ti (.agg #[.int .i64 0, .int .i64 0]) 2 16 Try.underlying45 hi hz0 hz1 hz2 rfl (by decide) _ 0 [] rfl hrow a xs.length _ (xs.flatMap encClockMark) rfl HL.out HC.out H1.out (by unfold maxLen; omega) (by omega) (by simp) ?_; intro v' w1 hown hg _)
    go_ret
    have ho : w1.ownsRow w.heap.size 50 2 v' xs.length (xs.flatMap encClockMark) := by simpa using hown
    exact ⟨_, rfl, OwnK.of_row encClockMark_len (by omega) ho, below_appK hg (by intro g e; cases e; exact Nat.le_refl _)⟩
def wfClockMark (s : GClockMark) : Prop := I64 s.pShown ∧ I64 s.pTrue
set_option maxRecDepth 100000 in
theorem cells_ClockMark {H : Type} {enc : TypeId × Value → H} {w : World} (n : Nat) (cs : List Value) (x : DataW H × List MemPlace) (h : DataW.trod enc Try.prog w 0 (fun _ => true) true n 99 cs = some x) : ∃ s, cs = encClockMark s ∧ wfClockMark s := by
  obtain ⟨ys, m, _, _, hlen, hyl, hf⟩ := DataW.trod_struct Try.underlying99 h
  have hlen : cs.length = 2 := hlen.trans (by kernel_rfl)
  obtain ⟨c0, y0, e0, t0⟩ := field_cell (by kernel_rfl) hlen hyl hf 0 _ rfl
  obtain ⟨a0, g0, _, b0⟩ := DataW.trod_int Try.underlying3 t0
  simp only [List.cons.injEq, and_true] at g0
  subst g0
  obtain ⟨c1, y1, e1, t1⟩ := field_cell (by kernel_rfl) hlen hyl hf 1 _ rfl
  obtain ⟨a1, g1, _, b1⟩ := DataW.trod_int Try.underlying3 t1
  simp only [List.cons.injEq, and_true] at g1
  subst g1
  refine ⟨⟨a0, a1⟩, ?_, bounds_i64 b0, bounds_i64 b1⟩
  apply List.ext_getElem?
  intro i
  match i with
  | 0 => exact e0
  | 1 => exact e1
  | i + 2 => rw [List.getElem?_eq_none (by omega), List.getElem?_eq_none (by rw [encClockMark_len]; omega)]
set_option maxRecDepth 100000 in
theorem open_ClockMarkS {H : Type} {enc : TypeId × Value → H} {w : World} {base : Nat} {v : Value} {d : DataW H} {ps : List MemPlace}
    (hval : Value.okWide Try.prog w .any base 55 v) (hd : DataW.Trod enc Try.prog w 0 (fun _ => true) true 55 v d ps) : ∃ xs : List GClockMark, ClockMarkL w w.heap.size v xs ∧ ∀ x ∈ xs, wfClockMark x :=
  rows_of encClockMark 2 encClockMark_len (by omega) wfClockMark Try.underlying55 (by kernel_rfl) (fun n cs x h => cells_ClockMark n cs x h) hval hd
/-- One of them, by value. -/
def ClockMarkVL (_ : World) (_ : Nat) (v : Value) (s : GClockMark) : Prop := v = .agg #[.int .i64 s.pShown, .int .i64 s.pTrue]
def ClockMarkVO (_ : World) (_ _ : Nat) (v : Value) (s : GClockMark) : Prop := v = .agg #[.int .i64 s.pShown, .int .i64 s.pTrue]
theorem ClockMarkVO.lst {w : World} {L B : Nat} {v : Value} {s : GClockMark} (h : ClockMarkVO w L B v s) : ClockMarkVL w B v s := h
theorem ClockMarkVL.below {w w' : World} {B : Nat} {v : Value} {s : GClockMark} (h : ClockMarkVL w B v s) (_ : Below B w w') : ClockMarkVL w' B v s := h
theorem ClockMarkVL.mono {w : World} {B B' : Nat} {v : Value} {s : GClockMark} (h : ClockMarkVL w B v s) (_ : B ≤ B') : ClockMarkVL w B' v s := h
theorem ClockMarkVO.below {w w' : World} {L B : Nat} {v : Value} {s : GClockMark} (h : ClockMarkVO w L B v s) (_ : Below B w w') : ClockMarkVO w' L B v s := h
theorem ClockMarkVO.mono {w : World} {L B L' B' : Nat} {v : Value} {s : GClockMark} (h : ClockMarkVO w L B v s) (_ : L' ≤ L) (_ : B ≤ B') : ClockMarkVO w L' B' v s := h
theorem ClockMarkVO.high {w w' : World} {L B L' U' : Nat} {v : Value} {s : GClockMark} (h : ClockMarkVO w L B v s) (_ : Upd L' U' w w') (_ : U' ≤ L) : ClockMarkVO w' L B v s := h
theorem ClockMarkVL.form {w : World} {B : Nat} {v : Value} {s : GClockMark} (h : ClockMarkVL w B v s) : v = .agg #[.int .i64 s.pShown, .int .i64 s.pTrue] := h
theorem ClockMarkVO.form {w : World} {L B : Nat} {v : Value} {s : GClockMark} (h : ClockMarkVO w L B v s) : v = .agg #[.int .i64 s.pShown, .int .i64 s.pTrue] := h
set_option maxRecDepth 100000 in
theorem open_ClockMark {H : Type} {enc : TypeId × Value → H} {w : World} {base : Nat} {v : Value} {d : DataW H} {ps : List MemPlace}
    (hval : Value.okWide Try.prog w .any base 99 v) (hd : DataW.Trod enc Try.prog w 0 (fun _ => true) true 99 v d ps) : ∃ s : GClockMark, ClockMarkVL w w.heap.size v s ∧ wfClockMark s := by
  obtain ⟨cs, rfl, hsz⟩ := okWide_struct Try.underlying99 hval
  obtain ⟨fuel, hf⟩ := hd
  obtain ⟨s, h, hw⟩ := cells_ClockMark _ _ _ hf
  refine ⟨s, ?_, hw⟩
  obtain ⟨l⟩ := cs
  have h : l = encClockMark s := h
  subst h
  rfl
theorem to_ClockMark (s : GClockMark) (v : Value) (w : World) (B : Nat) (h : ClockMarkVL w B v s) (_ : B ≤ w.heap.size) (_ : sz1ClockMark s ≤ 1048576) :
    Calls Try.prog 107 #[v] w fun e w' => ∃ v', e = .returned v' ∧ ClockMarkVO w' w.heap.size w'.heap.size v' s ∧ Below w.heap.size w w' := by
  obtain rfl := h.form
  exact (toClockMark_any s w).mono fun e w' ⟨h1, h2⟩ => ⟨_, h1, rfl, h2⟩
theorem eq_ClockMark (s : GClockMark) (v v2 : Value) (w : World) (B : Nat) (h : ClockMarkVL w B v s) (h2 : ClockMarkVL w B v2 s) (_ : B ≤ w.heap.size) :
    Calls Try.prog 109 #[v, v2] w fun e w' => e = .returned (.bool true) ∧ Below w.heap.size w w' := by
  obtain rfl := h.form
  obtain rfl := h2.form
  exact eqClockMark_any s w
theorem sz_ClockMarkS (xs : List GClockMark) (v : Value) (left : Int) (w : World) (B : Nat) (h : ClockMarkL w B v xs) (hB : B ≤ w.heap.size) (h0 : 0 ≤ left) (h1 : left ≤ 1048576) (ht : (szsClockMark xs : Int) ≤ left) :
    Calls Try.prog 49 #[v, .int .i64 left] w fun e w' => e = .returned (.int .i64 (left - szsClockMark xs)) ∧ Below w.heap.size w w' := szClockMarkS_le0 xs v left w B h hB h0 h1 ht
theorem szgt_ClockMarkS (xs : List GClockMark) (v : Value) (left : Int) (w : World) (B : Nat) (h : ClockMarkL w B v xs) (hB : B ≤ w.heap.size) (h0 : 0 ≤ left) (h1 : left ≤ 1048576) (ht : left < (szsClockMark xs : Int)) (hw : ∀ s ∈ xs, wfClockMark s) :
    Calls Try.prog 49 #[v, .int .i64 left] w fun e w' => e = .returned (.int .i64 (-1)) ∧ Below w.heap.size w w' := szClockMarkS_gt0 xs v left w B h hB h0 h1  ht
theorem to_ClockMarkS (xs : List GClockMark) (v : Value) (w : World) (B : Nat) (h : ClockMarkL w B v xs) (hB : B ≤ w.heap.size) (hn : szsClockMark xs ≤ 1048576) :
    Calls Try.prog 51 #[v] w fun e w' => ∃ v', e = .returned v' ∧ ClockMarkO w' w.heap.size w'.heap.size v' xs ∧ Below w.heap.size w w' := toClockMarkS_any xs v w B h hB (Nat.le_trans (szsClockMark_len xs) hn)
theorem eq_ClockMarkS (xs : List GClockMark) (v v2 : Value) (w : World) (B : Nat) (h : ClockMarkL w B v xs) (h2 : ClockMarkL w B v2 xs) (hB : B ≤ w.heap.size) :
    Calls Try.prog 54 #[v, v2] w fun e w' => e = .returned (.bool true) ∧ Below w.heap.size w w' := eqClockMarkS_any xs v v2 w B h h2 hB
theorem mark_ClockMarkS (xs : List GClockMark) (v : Value) (k : Int) (w : World) (L B : Nat) (h : ClockMarkO w L B v xs) (hB : B ≤ w.heap.size) (hn : szsClockMark xs ≤ 1048576) (h0 : 0 ≤ k) (h1 : k ≤ 100000000000) :
    Calls Try.prog 55 #[v, .int .i64 k] w fun e w' => e = .returned (.int .i64 (k + 2 * xs.length)) ∧ ClockMarkO w' L B v (marksClockMark k xs.length) ∧ Upd L B w w' := markClockMarkS_any xs v k w L B h hB (Nat.le_trans (szsClockMark_len xs) hn) h0 h1
theorem held_ClockMarkS (xs : List GClockMark) (v : Value) (k : Int) (w : World) (B : Nat) (h : ClockMarkL w B v (marksClockMark k xs.length)) (hB : B ≤ w.heap.size) (hn : szsClockMark xs ≤ 1048576) (h0 : 0 ≤ k) (h1 : k ≤ 100000000000) :
    Calls Try.prog 60 #[v, .int .i64 k] w fun e w' => e = .returned (.int .i64 (k + 2 * xs.length)) ∧ Below w.heap.size w w' := heldClockMarkS_any xs.length v k w B h hB (Nat.le_trans (szsClockMark_len xs) hn) h0 h1
end Go.Proofs.Ytklilfbokpljkac
