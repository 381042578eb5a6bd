/- Origin: what it reads as; the laws' helpers on it and on slices of it. -/
import Derived.Test.YtoogofceoinniabFlat
import Derived.Handy
import Derived.Deep.Slices
import Derived.Deep.Fields
namespace Go.Proofs.Ytoogofceoinniab
open Go.ChangeShapes Go.WideShapes Go.ChangeAt Go.RowKit Go.ChangeMaps
set_option linter.unusedSimpArgs false
set_option linter.unusedVariables false

structure GOrigin where
  pX : Int
  pY : Int
  pTick : Int
def encOrigin (s : GOrigin) : List Value := [.int .i64 s.pX, .int .i64 s.pY, .int .i64 s.pTick]
theorem encOrigin_len : ∀ s, (encOrigin s).length = 3 := fun _ => rfl
def zeroOrigin : GOrigin := ⟨0, 0, 0⟩
abbrev OriginL (w : World) (B : Nat) (v : Value) (xs : List GOrigin) : Prop := LstK encOrigin 3 w B v xs
abbrev OriginO (w : World) (L B : Nat) (v : Value) (xs : List GOrigin) : Prop := OwnK encOrigin 3 w L B v xs
def sz1Origin (s : GOrigin) : Nat := 0
def szsOrigin (xs : List GOrigin) : Nat := (xs.map fun s => 1 + sz1Origin s).sum
theorem szsOrigin_len (xs : List GOrigin) : xs.length ≤ szsOrigin xs := by
  unfold szsOrigin
  induction xs with
  | nil => simp
  | cons a l ih => simp only [List.map_cons, List.sum_cons, List.length_cons]; omega
theorem szsOrigin_mem {xs : List GOrigin} {s : GOrigin} (h : s ∈ xs) : sz1Origin s ≤ szsOrigin xs := by
  unfold szsOrigin
  induction xs with
  | nil => simp at h
  | cons a l ih =>
    simp only [List.map_cons, List.sum_cons]
    rcases List.mem_cons.1 h with rfl | h
    · omega
    · have := ih h; omega
theorem szsOrigin_split (xs : List GOrigin) : szsOrigin xs = xs.length := by
  unfold szsOrigin
  induction xs with
  | nil => simp
  | cons a l ih => rw [List.map_cons, List.sum_cons, List.length_cons, ih]; unfold sz1Origin; omega

/-- One of them by value. -/
def OriginV (v : Value) (s : GOrigin) : Prop := v = .agg #[.int .i64 s.pX, .int .i64 s.pY, .int .i64 s.pTick]
set_option maxHeartbeats 800000 in
theorem toOrigin_any (s : GOrigin) (w : World) :
    Calls Try.prog 15 #[.agg #[.int .i64 s.pX, .int .i64 s.pY, .int .i64 s.pTick]] w fun e w' => e = .returned (.agg #[.int .i64 s.pX, .int .i64 s.pY, .int .i64 s.pTick]) ∧ Below w.heap.size w w' := by
  go_enter Try.func15, Try.ntmps15
  go_wp2
  refine bodyPost_ret (v := .agg #[.int .i64 s.pX, .int .i64 s.pY, .int .i64 s.pTick]) (by simp [results, Try.results15, go_sem]) rfl ⟨rfl, ?_⟩
  first
    | exact (((Below.refl _ w).alloc (Nat.le_refl _) _).alloc (by first | omega | (simp; done) | (simp; omega)) _).alloc (by first | omega | (simp; done) | (simp; omega)) _
    | (repeat (first | exact (((Below.refl _ w).alloc (Nat.le_refl _) _).alloc (by first | omega | (simp; done) | (simp; omega)) _).alloc (by first | omega | (simp; done) | (simp; omega)) _ | (refine Below.setCell ?_ (by first | omega | (simp; done) | (simp; omega)) _)))
set_option maxHeartbeats 800000 in
theorem eqOrigin_any (s : GOrigin) (w : World) :
    Calls Try.prog 34 #[.agg #[.int .i64 s.pX, .int .i64 s.pY, .int .i64 s.pTick], .agg #[.int .i64 s.pX, .int .i64 s.pY, .int .i64 s.pTick]] w fun e w' => e = .returned (.bool true) ∧ Below w.heap.size w w' := by
  go_enter Try.func34, Try.ntmps34
  go_wp2
  go_ret
  exact ⟨rfl, ((Below.refl _ w).alloc (Nat.le_refl _) _).alloc (by first | omega | (simp; done) | (simp; omega)) _⟩

theorem info_Origin : (Try.prog.info? 30).map (fun i => (i.zero, i.size, i.bytes)) = some (some (.agg #[.int .i64 0, .int .i64 0, .int .i64 0]), 3, 24) := by kernel_rfl
set_option maxHeartbeats 2000000 in
theorem eqOriginS_any (xs : List GOrigin) (v v2 : Value) (w : World) (B : Nat) (h : OriginL w B v xs) (h2 : OriginL w B v2 xs) (hB : B ≤ w.heap.size) :
    Calls Try.prog 40 #[v, v2] w fun e w' => e = .returned (.bool true) ∧ Below w.heap.size w w' := by
  obtain ⟨ao, cap, rfl, hcap, hmax, -, hc⟩ := h
  obtain ⟨ao2, cap2, rfl, hcap2, hmax2, -, hc2⟩ := h2
  unfold maxLen at hmax hmax2
  go_enter Try.func40, Try.ntmps40
  go_wp2
  go_loopw [5] (fun i wr => ∃ (k : Nat), k ≤ xs.length ∧ i = .int .i64 k ∧ Below w.heap.size w wr)
    (fun i _ => xs.length - (intOf i).toNat)
  case atStart => exact ⟨0, Nat.zero_le _, rfl, Below.refl _ _⟩
  case round =>
    obtain ⟨k, hk, rfl, hbl⟩ := hrel
    have hsz := hbl.size
    by_cases hlt : k < xs.length
    · obtain ⟨s, hs⟩ := get_of_lt hlt
      obtain ⟨b, off, rfl, hb, hcell⟩ := hc k s hs
      obtain ⟨b2, off2, rfl, hb2, hcell2⟩ := hc2 k s hs
      have c0 : wr.cell? ⟨b, off + k * 3, none⟩ = some (.int .i64 s.pX) := cellOf hbl (by omega) (hcell 0 _ rfl)
      have c1 : wr.cell? ⟨b, off + k * 3 + 1, none⟩ = some (.int .i64 s.pY) := cellOf hbl (by omega) (hcell 1 _ rfl)
      have c2 : wr.cell? ⟨b, off + k * 3 + 2, none⟩ = some (.int .i64 s.pTick) := cellOf hbl (by omega) (hcell 2 _ rfl)
      have d0 : wr.cell? ⟨b2, off2 + k * 3, none⟩ = some (.int .i64 s.pX) := cellOf hbl (by omega) (hcell2 0 _ rfl)
      have d1 : wr.cell? ⟨b2, off2 + k * 3 + 1, none⟩ = some (.int .i64 s.pY) := cellOf hbl (by omega) (hcell2 1 _ rfl)
      have d2 : wr.cell? ⟨b2, off2 + k * 3 + 2, none⟩ = some (.int .i64 s.pTick) := cellOf hbl (by omega) (hcell2 2 _ rfl)
      have hi0 : (0 : Int) ≤ (k : Int) := by omega
      have hi1 : (k : Int) < (xs.length : Int) := by omega
      have hbs : b < wr.heap.size := by omega
      have hbs2 : b2 < wr.heap.size := by omega
      clear hs hcell hcell2 hc hc2
      go_wp2
      go_region_held3 (fun w' => Below wr.heap.size wr w' ∧ w'.cell? ⟨b, off + k * 3, none⟩ = some (.int .i64 s.pX) ∧ w'.cell? ⟨b, off + k * 3 + 1, none⟩ = some (.int .i64 s.pY) ∧ w'.cell? ⟨b, off + k * 3 + 2, none⟩ = some (.int .i64 s.pTick) ∧ w'.cell? ⟨b2, off2 + k * 3, none⟩ = some (.int .i64 s.pX) ∧ w'.cell? ⟨b2, off2 + k * 3 + 1, none⟩ = some (.int .i64 s.pY) ∧ w'.cell? ⟨b2, off2 + k * 3 + 2, none⟩ = some (.int .i64 s.pTick))
        (first
          | exact ⟨(Below.refl _ _).drew, c0, c1, c2, d0, d1, d2⟩
          | (have q := (Below.refl wr.heap.size wr).drew.trans hq; exact ⟨q, cellOf q hbs c0, cellOf q hbs c1, cellOf q hbs c2, cellOf q hbs2 d0, cellOf q hbs2 d1, cellOf q hbs2 d2⟩))
        (first | (go_at_call 34; refine (eqOrigin_any s _).mono ?_; rintro e w2 ⟨rfl, hq⟩))
      go_wp2
      go_roundw
      case rel => exact ⟨k + 1, by omega, by go_num, hbl.trans (((Below.refl wr.heap.size wr).drew.trans hq).mono (by omega))⟩
      case measure => simp [intOf]; omega
    · go_wp2
      go_ret
      exact ⟨rfl, hbl⟩
def mkOrigin (k : Int) : GOrigin := ⟨k, k + 1, k + 1 + 1⟩
def marksOrigin (k : Int) (n : Nat) : List GOrigin := (List.range n).map fun (i : Nat) => mkOrigin (k + 3 * i)
theorem marksOrigin_get {k : Int} {n i : Nat} (h : i < n) : (marksOrigin k n)[i]? = some (mkOrigin (k + 3 * i)) := by simp [marksOrigin, h]
theorem marksOrigin_len (k : Int) (n : Nat) : (marksOrigin k n).length = n := by simp [marksOrigin]
theorem eq_marksOrigin {k : Int} {n : Nat} {cs : List GOrigin} (hl : cs.length = n) (h : ∀ i, i < n → cs[i]? = some (mkOrigin (k + 3 * i))) : cs = marksOrigin k n := by
  apply List.ext_getElem?
  intro i
  by_cases hi : i < n
  · rw [h i hi, marksOrigin_get hi]
  · rw [List.getElem?_eq_none (by omega), List.getElem?_eq_none (by rw [marksOrigin_len]; omega)]
set_option maxHeartbeats 2000000 in
theorem markOriginS_any (ss : List GOrigin) (v : Value) (k : Int) (w : World) (L B : Nat) (h : OriginO w L B v ss) (hB : B ≤ w.heap.size) (hn : ss.length ≤ 1048576) (h0 : 0 ≤ k) (h1 : k ≤ 100000000000) :
    Calls Try.prog 41 #[v, .int .i64 k] w fun e w' => e = .returned (.int .i64 (k + 3 * ss.length)) ∧ OriginO w' L B v (marksOrigin k ss.length) ∧ Upd L B w w' := by
  obtain ⟨ao, cap, rfl, hcap, hmax, -, hc⟩ := id h
  go_enter Try.func41, Try.ntmps41
  go_wp2
  go_loopw [1, 5] (fun m i wr => ∃ (j : Nat) (cs : List GOrigin), j ≤ ss.length ∧ i = .int .i64 j ∧ m = .int .i64 (k + 3 * j) ∧ cs.length = ss.length ∧ (∀ i, i < j → cs[i]? = some (mkOrigin (k + 3 * i))) ∧ OriginO wr L B (.slice ao ss.length cap) cs ∧ Upd L B w wr)
    (fun _ i _ => ss.length - (intOf i).toNat)
  case atStart => exact ⟨0, ss, Nat.zero_le _, rfl, by simp, rfl, fun i hi => by omega, h, Upd.refl _ _ _⟩
  case round =>
    obtain ⟨j, cs, hj, rfl, rfl, hl, hm, hown, hbl⟩ := hrel
    clear hc h
    by_cases hlt : j < ss.length
    · obtain ⟨s, hs⟩ := get_of_lt (l := cs) (k := j) (by omega)
      obtain ⟨ao', cap', hv', _, _, _, hc'⟩ := id hown
      have hl' := Lib.hid hl
      simp only [Value.slice.injEq] at hv'
      obtain ⟨rfl, -, rfl⟩ := hv'
      obtain ⟨b, off, rfl, hLb, hb, hbz, hcell, hfr⟩ := hc' j s hs
      have HM := Lib.hid hm
      have HH := Lib.hid hs
      clear hl hs hc' hm
      have hj1 : (j : Int) < 1048576 := by omega
      have c0 : wr.cell? ⟨b, off + j * 3, none⟩ = some (.int .i64 s.pX) := hcell 0 _ rfl
      have c1 : wr.cell? ⟨b, off + j * 3 + 1, none⟩ = some (.int .i64 s.pY) := hcell 1 _ rfl
      have c2 : wr.cell? ⟨b, off + j * 3 + 2, none⟩ = some (.int .i64 s.pTick) := hcell 2 _ rfl
      generalize hq : (k + 3 * (j : Int)) = q at *
      have HQ := Lib.hid hq
      have hq0 : 0 ≤ q := by omega
      have hq1 : q ≤ 101000000000 := by omega
      clear hq
      have hBr : B ≤ wr.heap.size := Nat.le_trans hB hbl.size
      have R0 := Lib.hid hown
      have G0 := Lib.hid HH.out
      have U0 := Lib.hid hbl
      clear hown hbl
      have R1 := Lib.hid (OwnK.set encOrigin_len R0.out (m := 0) rfl G0.out (by omega) (y := ⟨q, s.pY, s.pTick⟩) (u := .int .i64 (q)) rfl)
      have G1 := Lib.hid (get_set_self (y := (⟨q, s.pY, s.pTick⟩ : GOrigin)) G0.out)
      have U1 := Lib.hid (Upd.setCell U0.out (p := ⟨b, off + j * 3, none⟩) hLb hb (.int .i64 (q)))
      clear R0 G0 U0
      have R2 := Lib.hid (OwnK.set encOrigin_len R1.out (m := 1) rfl G1.out (by omega) (y := ⟨q, q + 1, s.pTick⟩) (u := .int .i64 (q + 1)) rfl)
      have G2 := Lib.hid (get_set_self (y := (⟨q, q + 1, s.pTick⟩ : GOrigin)) G1.out)
      have U2 := Lib.hid (Upd.setCell U1.out (p := ⟨b, off + j * 3 + 1, none⟩) hLb hb (.int .i64 (q + 1)))
      clear R1 G1 U1
      have R3 := Lib.hid (OwnK.set encOrigin_len R2.out (m := 2) rfl G2.out (by omega) (y := ⟨q, q + 1, q + 1 + 1⟩) (u := .int .i64 (q + 1 + 1)) rfl)
      have G3 := Lib.hid (get_set_self (y := (⟨q, q + 1, q + 1 + 1⟩ : GOrigin)) G2.out)
      have U3 := Lib.hid (Upd.setCell U2.out (p := ⟨b, off + j * 3 + 2, none⟩) hLb hb (.int .i64 (q + 1 + 1)))
      clear R2 G2 U2
      go_wp2
      clear hfr hcell
      go_roundw
      case rel =>
        refine ⟨j + 1, (((cs.set j ⟨q, s.pY, s.pTick⟩).set j ⟨q, q + 1, s.pTick⟩).set j ⟨q, q + 1, q + 1 + 1⟩), by omega, by go_num, (by have e := HQ.out; simp only [Value.int.injEq, true_and]; omega), by simp [hl'.out], ?_, R3.out, U3.out⟩
        intro i hi
        by_cases hij : j = i
        · subst hij; rw [HQ.out]; exact G3.out
        · simp only [List.getElem?_set_ne hij]; exact HM.out i (by omega)
      case measure => simp [intOf]; omega
    · obtain rfl : j = ss.length := by omega
      have hcm := eq_marksOrigin hl hm
      have HC := Lib.hid hcm
      clear hcm hl hm
      go_wp2
      go_ret
      refine ⟨rfl, ?_, hbl⟩
      rw [← HC.out]; exact hown
set_option maxRecDepth 100000 in
set_option maxHeartbeats 2000000 in
theorem heldOriginS_any (n : Nat) (v : Value) (k : Int) (w : World) (B : Nat) (h : OriginL w B v (marksOrigin k n)) (hB : B ≤ w.heap.size) (hn : n ≤ 1048576) (h0 : 0 ≤ k) (h1 : k ≤ 100000000000) :
    Calls Try.prog 42 #[v, .int .i64 k] w fun e w' => e = .returned (.int .i64 (k + 3 * n)) ∧ Below w.heap.size w w' := by
  obtain ⟨ao, cap, rfl, hcap, hmax, -, hc⟩ := h
  rw [marksOrigin_len] at hcap ⊢
  unfold maxLen at hmax
  go_enter Try.func42, Try.ntmps42
  go_wp2
  go_loopw [1, 5] (fun m i wr => ∃ (j : Nat), j ≤ n ∧ i = .int .i64 j ∧ m = .int .i64 (k + 3 * j) ∧ Below w.heap.size w wr)
    (fun _ i _ => n - (intOf i).toNat)
  case atStart => exact ⟨0, Nat.zero_le _, rfl, by simp, Below.refl _ _⟩
  case round =>
    obtain ⟨j, hj, rfl, rfl, hbl⟩ := hrel
    have hsz := hbl.size
    by_cases hlt : j < n
    · obtain ⟨b, off, rfl, hb, hcell⟩ := hc j _ (marksOrigin_get hlt)
      clear hc
      generalize hq : (k + 3 * (j : Int)) = q at *
      have HQ := Lib.hid hq
      have hq0 : 0 ≤ q := by omega
      have hq1 : q ≤ 101000000000 := by omega
      have hi0 : (0 : Int) ≤ (j : Int) := by omega
      have hi1 : (j : Int) < (n : Int) := by omega
      clear hq
      have c0 : wr.cell? ⟨b, off + j * 3, none⟩ = some (.int .i64 (q)) := cellOf hbl (by omega) (hcell 0 _ rfl)
      have c1 : wr.cell? ⟨b, off + j * 3 + 1, none⟩ = some (.int .i64 (q + 1)) := cellOf hbl (by omega) (hcell 1 _ rfl)
      have c2 : wr.cell? ⟨b, off + j * 3 + 2, none⟩ = some (.int .i64 (q + 1 + 1)) := cellOf hbl (by omega) (hcell 2 _ rfl)
      have hbs0 : b < wr.heap.size := by omega
      clear hcell
      go_wp2
      go_roundw
      case rel => exact ⟨j + 1, by omega, by go_num, (by have e := HQ.out; simp only [Value.int.injEq, true_and]; omega), hbl⟩
      case measure => simp [intOf]; omega
    · obtain rfl : j = n := by omega
      go_wp2
      go_ret
      exact ⟨rfl, hbl⟩
theorem oneOrigin (xs : List GOrigin) : ∀ u ∈ xs.flatMap encOrigin, u.oneCell' = true := by
  intro u hu
  obtain ⟨x, _, hx⟩ := List.mem_flatMap.1 hu
  simp only [encOrigin, List.mem_cons, List.not_mem_nil, or_false] at hx
  rcases hx with rfl | rfl | rfl <;> rfl
def wfOrigin (s : GOrigin) : Prop := I64 s.pX ∧ I64 s.pY ∧ I64 s.pTick
set_option maxRecDepth 100000 in
theorem cells_Origin {H : Type} {enc : TypeId × Value → H} {w : World} (n : Nat) (cs : List Value) (x : DataW H × List MemPlace) (h : DataW.trod enc Try.prog w 0 (fun _ => true) true n 25 cs = some x) : ∃ s, cs = encOrigin s ∧ wfOrigin s := by
  obtain ⟨ys, m, _, _, hlen, hyl, hf⟩ := DataW.trod_struct Try.underlying25 h
  have hlen : cs.length = 3 := hlen.trans (by kernel_rfl)
  obtain ⟨c0, y0, e0, t0⟩ := field_cell (by kernel_rfl) hlen hyl hf 0 _ rfl
  obtain ⟨a0, g0, _, b0⟩ := DataW.trod_int Try.underlying3 t0
  simp only [List.cons.injEq, and_true] at g0
  subst g0
  obtain ⟨c1, y1, e1, t1⟩ := field_cell (by kernel_rfl) hlen hyl hf 1 _ rfl
  obtain ⟨a1, g1, _, b1⟩ := DataW.trod_int Try.underlying3 t1
  simp only [List.cons.injEq, and_true] at g1
  subst g1
  obtain ⟨c2, y2, e2, t2⟩ := field_cell (by kernel_rfl) hlen hyl hf 2 _ rfl
  obtain ⟨a2, g2, _, b2⟩ := DataW.trod_int Try.underlying3 t2
  simp only [List.cons.injEq, and_true] at g2
  subst g2
  refine ⟨⟨a0, a1, a2⟩, ?_, bounds_i64 b0, bounds_i64 b1, bounds_i64 b2⟩
  apply List.ext_getElem?
  intro i
  match i with
  | 0 => exact e0
  | 1 => exact e1
  | 2 => exact e2
  | i + 3 => rw [List.getElem?_eq_none (by omega), List.getElem?_eq_none (by rw [encOrigin_len]; omega)]
/-- One of them, by value. -/
def OriginVL (_ : World) (_ : Nat) (v : Value) (s : GOrigin) : Prop := v = .agg #[.int .i64 s.pX, .int .i64 s.pY, .int .i64 s.pTick]
def OriginVO (_ : World) (_ _ : Nat) (v : Value) (s : GOrigin) : Prop := v = .agg #[.int .i64 s.pX, .int .i64 s.pY, .int .i64 s.pTick]
theorem OriginVO.lst {w : World} {L B : Nat} {v : Value} {s : GOrigin} (h : OriginVO w L B v s) : OriginVL w B v s := h
theorem OriginVL.below {w w' : World} {B : Nat} {v : Value} {s : GOrigin} (h : OriginVL w B v s) (_ : Below B w w') : OriginVL w' B v s := h
theorem OriginVL.mono {w : World} {B B' : Nat} {v : Value} {s : GOrigin} (h : OriginVL w B v s) (_ : B ≤ B') : OriginVL w B' v s := h
theorem OriginVO.below {w w' : World} {L B : Nat} {v : Value} {s : GOrigin} (h : OriginVO w L B v s) (_ : Below B w w') : OriginVO w' L B v s := h
theorem OriginVO.mono {w : World} {L B L' B' : Nat} {v : Value} {s : GOrigin} (h : OriginVO w L B v s) (_ : L' ≤ L) (_ : B ≤ B') : OriginVO w L' B' v s := h
theorem OriginVO.high {w w' : World} {L B L' U' : Nat} {v : Value} {s : GOrigin} (h : OriginVO w L B v s) (_ : Upd L' U' w w') (_ : U' ≤ L) : OriginVO w' L B v s := h
theorem OriginVL.form {w : World} {B : Nat} {v : Value} {s : GOrigin} (h : OriginVL w B v s) : v = .agg #[.int .i64 s.pX, .int .i64 s.pY, .int .i64 s.pTick] := h
theorem OriginVO.form {w : World} {L B : Nat} {v : Value} {s : GOrigin} (h : OriginVO w L B v s) : v = .agg #[.int .i64 s.pX, .int .i64 s.pY, .int .i64 s.pTick] := h
set_option maxRecDepth 100000 in
theorem open_Origin {H : Type} {enc : TypeId × Value → H} {w : World} {base : Nat} {v : Value} {d : DataW H} {ps : List MemPlace}
    (hval : Value.okWide Try.prog w .any base 25 v) (hd : DataW.Trod enc Try.prog w 0 (fun _ => true) true 25 v d ps) : ∃ s : GOrigin, OriginVL w w.heap.size v s ∧ wfOrigin s := by
  obtain ⟨cs, rfl, hsz⟩ := okWide_struct Try.underlying25 hval
  obtain ⟨fuel, hf⟩ := hd
  obtain ⟨s, h, hw⟩ := cells_Origin _ _ _ hf
  refine ⟨s, ?_, hw⟩
  obtain ⟨l⟩ := cs
  have h : l = encOrigin s := h
  subst h
  rfl
theorem to_Origin (s : GOrigin) (v : Value) (w : World) (B : Nat) (h : OriginVL w B v s) (_ : B ≤ w.heap.size) (_ : sz1Origin s ≤ 1048576) :
    Calls Try.prog 15 #[v] w fun e w' => ∃ v', e = .returned v' ∧ OriginVO w' w.heap.size w'.heap.size v' s ∧ Below w.heap.size w w' := by
  obtain rfl := h.form
  exact (toOrigin_any s w).mono fun e w' ⟨h1, h2⟩ => ⟨_, h1, rfl, h2⟩
theorem eq_Origin (s : GOrigin) (v v2 : Value) (w : World) (B : Nat) (h : OriginVL w B v s) (h2 : OriginVL w B v2 s) (_ : B ≤ w.heap.size) :
    Calls Try.prog 34 #[v, v2] w fun e w' => e = .returned (.bool true) ∧ Below w.heap.size w w' := by
  obtain rfl := h.form
  obtain rfl := h2.form
  exact eqOrigin_any s w
theorem eq_OriginS (xs : List GOrigin) (v v2 : Value) (w : World) (B : Nat) (h : OriginL w B v xs) (h2 : OriginL w B v2 xs) (hB : B ≤ w.heap.size) :
    Calls Try.prog 40 #[v, v2] w fun e w' => e = .returned (.bool true) ∧ Below w.heap.size w w' := eqOriginS_any xs v v2 w B h h2 hB
theorem mark_OriginS (xs : List GOrigin) (v : Value) (k : Int) (w : World) (L B : Nat) (h : OriginO w L B v xs) (hB : B ≤ w.heap.size) (hn : szsOrigin xs ≤ 1048576) (h0 : 0 ≤ k) (h1 : k ≤ 100000000000) :
    Calls Try.prog 41 #[v, .int .i64 k] w fun e w' => e = .returned (.int .i64 (k + 3 * xs.length)) ∧ OriginO w' L B v (marksOrigin k xs.length) ∧ Upd L B w w' := markOriginS_any xs v k w L B h hB (Nat.le_trans (szsOrigin_len xs) hn) h0 h1
theorem held_OriginS (xs : List GOrigin) (v : Value) (k : Int) (w : World) (B : Nat) (h : OriginL w B v (marksOrigin k xs.length)) (hB : B ≤ w.heap.size) (hn : szsOrigin xs ≤ 1048576) (h0 : 0 ≤ k) (h1 : k ≤ 100000000000) :
    Calls Try.prog 42 #[v, .int .i64 k] w fun e w' => e = .returned (.int .i64 (k + 3 * xs.length)) ∧ Below w.heap.size w w' := heldOriginS_any xs.length v k w B h hB (Nat.le_trans (szsOrigin_len xs) hn) h0 h1
end Go.Proofs.Ytoogofceoinniab
