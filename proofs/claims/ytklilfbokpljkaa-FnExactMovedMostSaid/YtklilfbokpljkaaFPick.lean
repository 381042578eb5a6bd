/- Pick: what it reads as; the laws' helpers on it and on slices of it. -/
import Derived.Test.YtklilfbokpljkaaFlat
import Derived.Handy
import Derived.Deep.Slices
import Derived.Deep.Fields
namespace Go.Proofs.Ytklilfbokpljkaa
open Go.ChangeShapes Go.WideShapes Go.ChangeAt Go.RowKit Go.ChangeMaps
set_option linter.unusedSimpArgs false
set_option linter.unusedVariables false

structure GPick where
  pId : Int
  pStation : Int
  pWave : Int
  pTick : Int
  pError : Int
  pBy : Int
  pAfter : Int
def encPick (s : GPick) : List Value := [.int .i64 s.pId, .int .i64 s.pStation, .int .i64 s.pWave, .int .i64 s.pTick, .int .i64 s.pError, .int .i64 s.pBy, .int .i64 s.pAfter]
theorem encPick_len : ∀ s, (encPick s).length = 7 := fun _ => rfl
def zeroPick : GPick := ⟨0, 0, 0, 0, 0, 0, 0⟩
abbrev PickL (w : World) (B : Nat) (v : Value) (xs : List GPick) : Prop := LstK encPick 7 w B v xs
abbrev PickO (w : World) (L B : Nat) (v : Value) (xs : List GPick) : Prop := OwnK encPick 7 w L B v xs
def sz1Pick (s : GPick) : Nat := 0
def szsPick (xs : List GPick) : Nat := (xs.map fun s => 1 + sz1Pick s).sum
theorem szsPick_len (xs : List GPick) : xs.length ≤ szsPick xs := by
  unfold szsPick
  induction xs with
  | nil => simp
  | cons a l ih => simp only [List.map_cons, List.sum_cons, List.length_cons]; omega
theorem szsPick_mem {xs : List GPick} {s : GPick} (h : s ∈ xs) : sz1Pick s ≤ szsPick xs := by
  unfold szsPick
  induction xs with
  | nil => simp at h
  | cons a l ih =>
    simp only [List.map_cons, List.sum_cons]
    rcases List.mem_cons.1 h with rfl | h
    · omega
    · have := ih h; omega
theorem szsPick_split (xs : List GPick) : szsPick xs = xs.length := by
  unfold szsPick
  induction xs with
  | nil => simp
  | cons a l ih => rw [List.map_cons, List.sum_cons, List.length_cons, ih]; unfold sz1Pick; omega

/-- One of them by value. -/
def PickV (v : Value) (s : GPick) : Prop := v = .agg #[.int .i64 s.pId, .int .i64 s.pStation, .int .i64 s.pWave, .int .i64 s.pTick, .int .i64 s.pError, .int .i64 s.pBy, .int .i64 s.pAfter]
set_option maxHeartbeats 800000 in
theorem toPick_any (s : GPick) (w : World) :
    Calls Try.prog 144 #[.agg #[.int .i64 s.pId, .int .i64 s.pStation, .int .i64 s.pWave, .int .i64 s.pTick, .int .i64 s.pError, .int .i64 s.pBy, .int .i64 s.pAfter]] w fun e w' => e = .returned (.agg #[.int .i64 s.pId, .int .i64 s.pStation, .int .i64 s.pWave, .int .i64 s.pTick, .int .i64 s.pError, .int .i64 s.pBy, .int .i64 s.pAfter]) ∧ Below w.heap.size w w' := by
  go_enter Try.func144, Try.ntmps144
  go_wp2
  refine bodyPost_ret (v := .agg #[.int .i64 s.pId, .int .i64 s.pStation, .int .i64 s.pWave, .int .i64 s.pTick, .int .i64 s.pError, .int .i64 s.pBy, .int .i64 s.pAfter]) (by simp [results, Try.results144, go_sem]) rfl ⟨rfl, ?_⟩
  first
    | exact (((Below.refl _ w).alloc (Nat.le_refl _) _).alloc (by first | omega | (simp; done) | (simp; omega)) _).alloc (by first | omega | (simp; done) | (simp; omega)) _
    | (repeat (first | exact (((Below.refl _ w).alloc (Nat.le_refl _) _).alloc (by first | omega | (simp; done) | (simp; omega)) _).alloc (by first | omega | (simp; done) | (simp; omega)) _ | (refine Below.setCell ?_ (by first | omega | (simp; done) | (simp; omega)) _)))
set_option maxHeartbeats 800000 in
theorem eqPick_any (s : GPick) (w : World) :
    Calls Try.prog 147 #[.agg #[.int .i64 s.pId, .int .i64 s.pStation, .int .i64 s.pWave, .int .i64 s.pTick, .int .i64 s.pError, .int .i64 s.pBy, .int .i64 s.pAfter], .agg #[.int .i64 s.pId, .int .i64 s.pStation, .int .i64 s.pWave, .int .i64 s.pTick, .int .i64 s.pError, .int .i64 s.pBy, .int .i64 s.pAfter]] w fun e w' => e = .returned (.bool true) ∧ Below w.heap.size w w' := by
  go_enter Try.func147, Try.ntmps147
  go_wp2
  go_ret
  exact ⟨rfl, ((Below.refl _ w).alloc (Nat.le_refl _) _).alloc (by first | omega | (simp; done) | (simp; omega)) _⟩

theorem info_Pick : (Try.prog.info? 76).map (fun i => (i.zero, i.size, i.bytes)) = some (some (.agg #[.int .i64 0, .int .i64 0, .int .i64 0, .int .i64 0, .int .i64 0, .int .i64 0, .int .i64 0]), 7, 56) := by kernel_rfl
set_option maxHeartbeats 800000 in
theorem szPickS_le0 (xs : List GPick) (v : Value) (left : Int) (w : World) (B : Nat) (h : PickL w B v xs) (hB : B ≤ w.heap.size) (h0 : 0 ≤ left) (h1 : left ≤ 1048576) (ht : (szsPick xs : Int) ≤ left) :
    Calls Try.prog 77 #[v, .int .i64 left] w fun e w' => e = .returned (.int .i64 (left - szsPick xs)) ∧ Below w.heap.size w w' := by
  obtain ⟨ao, cap, rfl, hcap, hmax, -, hc⟩ := h
  unfold maxLen at hmax
  rw [szsPick_split] at *
  clear hc
  go_enter Try.func77, Try.ntmps77
  have hd : ¬ left - (xs.length : Int) < 0 := by omega
  go_wp2
  go_ret
  exact ⟨rfl, Below.refl _ _⟩
set_option maxHeartbeats 800000 in
theorem szPickS_gt0 (xs : List GPick) (v : Value) (left : Int) (w : World) (B : Nat) (h : PickL w B v xs) (hB : B ≤ w.heap.size) (h0 : 0 ≤ left) (h1 : left ≤ 1048576) (ht : left < (szsPick xs : Int)) :
    Calls Try.prog 77 #[v, .int .i64 left] w fun e w' => e = .returned (.int .i64 (-1)) ∧ Below w.heap.size w w' := by
  obtain ⟨ao, cap, rfl, hcap, hmax, -, hc⟩ := h
  unfold maxLen at hmax
  rw [szsPick_split] at *
  clear hc
  go_enter Try.func77, Try.ntmps77
  go_wp2
  go_ret
  exact ⟨rfl, Below.refl _ _⟩
set_option maxHeartbeats 1000000 in
theorem toPickS_any (xs : List GPick) (v : Value) (w : World) (B : Nat) (h : PickL w B v xs) (hB : B ≤ w.heap.size) (hn : xs.length ≤ 1048576) :
    Calls Try.prog 79 #[v] w fun e w' => ∃ v', e = .returned v' ∧ PickO w' w.heap.size w'.heap.size v' xs ∧ Below w.heap.size w w' := by
  obtain ⟨ao, cap, rfl, hcap, hmax, -, hc⟩ := h
  unfold maxLen at hmax
  obtain ⟨ti, hi, hz0, hz1, hz2⟩ := info_parts info_Pick
  have hnm : xs.length ≤ maxLen := by unfold maxLen; omega
  go_enter Try.func79, Try.ntmps79
  go_wp2_with (at_make; refine wpList_make_full _ rfl _ _ 63 rfl w.heap.size 76 ti (.agg #[.int .i64 0, .int .i64 0, .int .i64 0, .int .i64 0, .int .i64 0, .int .i64 0, .int .i64 0]) 7 Try.underlying63 hi hz0 hz1 .i64 .i64 _ _ xs.length rfl rfl rfl rfl (by rw [hz2]; omega) hnm (Nat.le_refl _) ?_; intro w1 hown hgrow)
  have hb1 : Below w.heap.size w w1 := (Below.refl _ _).grown hgrow (Nat.le_refl _) (by simp)
  have hown2 : w1.ownsRow w.heap.size 76 7 (.slice (some ⟨w.heap.size, 0, none⟩) xs.length xs.length) xs.length ((List.replicate xs.length zeroPick).flatMap encPick) := by
    rw [← made_flat encPick_len (by omega) #[.int .i64 0, .int .i64 0, .int .i64 0, .int .i64 0, .int .i64 0, .int .i64 0, .int .i64 0] zeroPick rfl xs.length]
    exact hown
  have hO : PickO w1 w.heap.size w1.heap.size (.slice (some ⟨w.heap.size, 0, none⟩) xs.length xs.length) (List.replicate xs.length zeroPick) := by
    have := OwnK.of_row encPick_len (by omega) hown2
    simpa using this
  clear hown hown2
  go_loopw [4] (fun i wr => ∃ (k : Nat) (ys : List GPick), k ≤ xs.length ∧ i = .int .i64 k ∧ PickO wr w.heap.size wr.heap.size (.slice (some ⟨w.heap.size, 0, none⟩) xs.length xs.length) ys ∧ ys.length = xs.length ∧ ys.take k = xs.take k ∧ Below w.heap.size w wr)
    (fun i _ => xs.length - (intOf i).toNat)
  case atStart => exact ⟨0, _, Nat.zero_le _, rfl, hO, by simp, rfl, hb1⟩
  case round =>
    obtain ⟨k, ys, hk, rfl, hrow, hyl, hys, hbl⟩ := hrel
    clear hO hb1
    have HY := Lib.hid hys
    have HL := Lib.hid hyl
    clear hys hyl
    by_cases hlt : k < xs.length
    · obtain ⟨s, hs⟩ := get_of_lt hlt
      obtain ⟨b, off, rfl, hb, hcell⟩ := hc k s hs
      obtain ⟨y, hy⟩ : ∃ y, ys[k]? = some y := get_of_lt (by rw [HL.out]; omega)
      have c0 : wr.cell? ⟨b, off + k * 7, none⟩ = some (.int .i64 s.pId) := cellOf hbl (by omega) (hcell 0 _ rfl)
      have c1 : wr.cell? ⟨b, off + k * 7 + 1, none⟩ = some (.int .i64 s.pStation) := cellOf hbl (by omega) (hcell 1 _ rfl)
      have c2 : wr.cell? ⟨b, off + k * 7 + 2, none⟩ = some (.int .i64 s.pWave) := cellOf hbl (by omega) (hcell 2 _ rfl)
      have c3 : wr.cell? ⟨b, off + k * 7 + 3, none⟩ = some (.int .i64 s.pTick) := cellOf hbl (by omega) (hcell 3 _ rfl)
      have c4 : wr.cell? ⟨b, off + k * 7 + 4, none⟩ = some (.int .i64 s.pError) := cellOf hbl (by omega) (hcell 4 _ rfl)
      have c5 : wr.cell? ⟨b, off + k * 7 + 5, none⟩ = some (.int .i64 s.pBy) := cellOf hbl (by omega) (hcell 5 _ rfl)
      have c6 : wr.cell? ⟨b, off + k * 7 + 6, none⟩ = some (.int .i64 s.pAfter) := cellOf hbl (by omega) (hcell 6 _ rfl)
      have HS := Lib.hid hs
      have HYY := Lib.hid hy
      clear hs hy hcell hc
      go_wp2_with fail
      refine (toPick_any s _).mono ?_
      rintro e w2 ⟨rfl, hb2⟩
      have hz2 := hb2.size
      have hr2 := hrow.below hb2
      have hbl2 := hbl.trans (hb2.mono hbl.size)
      clear hb2 hrow hbl
      obtain ⟨ao3, cap3, e3, _, _, _, h3⟩ := id hr2
      obtain ⟨b3, off3, e4, _, hB3, hz3, hc3, hf3⟩ := h3 k y HYY.out
      rw [e4] at e3
      simp only [Value.slice.injEq, Option.some.injEq, Addr.mk.injEq] at e3
      obtain ⟨⟨rfl, rfl, -⟩, -, -⟩ := e3
      have o0 : w2.cell? ⟨w.heap.size, k * 7, none⟩ = some (.int .i64 y.pId) := by have := hc3 0 _ rfl; simpa using this
      have o1 : w2.cell? ⟨w.heap.size, k * 7 + 1, none⟩ = some (.int .i64 y.pStation) := by have := hc3 1 _ rfl; simpa using this
      have o2 : w2.cell? ⟨w.heap.size, k * 7 + 2, none⟩ = some (.int .i64 y.pWave) := by have := hc3 2 _ rfl; simpa using this
      have o3 : w2.cell? ⟨w.heap.size, k * 7 + 3, none⟩ = some (.int .i64 y.pTick) := by have := hc3 3 _ rfl; simpa using this
      have o4 : w2.cell? ⟨w.heap.size, k * 7 + 4, none⟩ = some (.int .i64 y.pError) := by have := hc3 4 _ rfl; simpa using this
      have o5 : w2.cell? ⟨w.heap.size, k * 7 + 5, none⟩ = some (.int .i64 y.pBy) := by have := hc3 5 _ rfl; simpa using this
      have o6 : w2.cell? ⟨w.heap.size, k * 7 + 6, none⟩ = some (.int .i64 y.pAfter) := by have := hc3 6 _ rfl; simpa using this
      have hr3 := hr2.put encPick_len rfl HYY.out (ad := k * 7) (by omega) s
      have hbl3 := below_putCells hbl2 (b := w.heap.size) (Nat.le_refl _) (k * 7) (encPick s) 0
      have HR := Lib.hid hr3
      clear hr2 hr3 hc3 h3 e4
      go_wp2
      go_roundw
      case rel =>
        refine ⟨k + 1, ys.set k s, by omega, by go_num, ?_, by simp [HL.out], ?_, hbl3⟩
        · exact HR.out.mono (Nat.le_refl _) (by simp [World.setCell]; exact hz2)
        · rw [take_snoc HS.out, take_snoc (l := ys.set k s) (x := s) (by rw [List.getElem?_set_self]; rw [HL.out]; omega), List.take_set_of_le (by omega), HY.out]
      case measure => simp [intOf]; omega
    · go_wp2
      go_ret
      refine ⟨_, rfl, ?_, hbl⟩
      have := HY.out
      rw [take_all hlt, take_all (by rw [HL.out]; exact hlt)] at this
      rw [this] at hrow
      exact hrow
set_option maxHeartbeats 2000000 in
theorem eqPickS_any (xs : List GPick) (v v2 : Value) (w : World) (B : Nat) (h : PickL w B v xs) (h2 : PickL w B v2 xs) (hB : B ≤ w.heap.size) :
    Calls Try.prog 81 #[v, v2] w fun e w' => e = .returned (.bool true) ∧ Below w.heap.size w w' := by
  obtain ⟨ao, cap, rfl, hcap, hmax, -, hc⟩ := h
  obtain ⟨ao2, cap2, rfl, hcap2, hmax2, -, hc2⟩ := h2
  unfold maxLen at hmax hmax2
  go_enter Try.func81, Try.ntmps81
  go_wp2
  go_loopw [5] (fun i wr => ∃ (k : Nat), k ≤ xs.length ∧ i = .int .i64 k ∧ Below w.heap.size w wr)
    (fun i _ => xs.length - (intOf i).toNat)
  case atStart => exact ⟨0, Nat.zero_le _, rfl, Below.refl _ _⟩
  case round =>
    obtain ⟨k, hk, rfl, hbl⟩ := hrel
    have hsz := hbl.size
    by_cases hlt : k < xs.length
    · obtain ⟨s, hs⟩ := get_of_lt hlt
      obtain ⟨b, off, rfl, hb, hcell⟩ := hc k s hs
      obtain ⟨b2, off2, rfl, hb2, hcell2⟩ := hc2 k s hs
      have c0 : wr.cell? ⟨b, off + k * 7, none⟩ = some (.int .i64 s.pId) := cellOf hbl (by omega) (hcell 0 _ rfl)
      have c1 : wr.cell? ⟨b, off + k * 7 + 1, none⟩ = some (.int .i64 s.pStation) := cellOf hbl (by omega) (hcell 1 _ rfl)
      have c2 : wr.cell? ⟨b, off + k * 7 + 2, none⟩ = some (.int .i64 s.pWave) := cellOf hbl (by omega) (hcell 2 _ rfl)
      have c3 : wr.cell? ⟨b, off + k * 7 + 3, none⟩ = some (.int .i64 s.pTick) := cellOf hbl (by omega) (hcell 3 _ rfl)
      have c4 : wr.cell? ⟨b, off + k * 7 + 4, none⟩ = some (.int .i64 s.pError) := cellOf hbl (by omega) (hcell 4 _ rfl)
      have c5 : wr.cell? ⟨b, off + k * 7 + 5, none⟩ = some (.int .i64 s.pBy) := cellOf hbl (by omega) (hcell 5 _ rfl)
      have c6 : wr.cell? ⟨b, off + k * 7 + 6, none⟩ = some (.int .i64 s.pAfter) := cellOf hbl (by omega) (hcell 6 _ rfl)
      have d0 : wr.cell? ⟨b2, off2 + k * 7, none⟩ = some (.int .i64 s.pId) := cellOf hbl (by omega) (hcell2 0 _ rfl)
      have d1 : wr.cell? ⟨b2, off2 + k * 7 + 1, none⟩ = some (.int .i64 s.pStation) := cellOf hbl (by omega) (hcell2 1 _ rfl)
      have d2 : wr.cell? ⟨b2, off2 + k * 7 + 2, none⟩ = some (.int .i64 s.pWave) := cellOf hbl (by omega) (hcell2 2 _ rfl)
      have d3 : wr.cell? ⟨b2, off2 + k * 7 + 3, none⟩ = some (.int .i64 s.pTick) := cellOf hbl (by omega) (hcell2 3 _ rfl)
      have d4 : wr.cell? ⟨b2, off2 + k * 7 + 4, none⟩ = some (.int .i64 s.pError) := cellOf hbl (by omega) (hcell2 4 _ rfl)
      have d5 : wr.cell? ⟨b2, off2 + k * 7 + 5, none⟩ = some (.int .i64 s.pBy) := cellOf hbl (by omega) (hcell2 5 _ rfl)
      have d6 : wr.cell? ⟨b2, off2 + k * 7 + 6, none⟩ = some (.int .i64 s.pAfter) := cellOf hbl (by omega) (hcell2 6 _ rfl)
      have hi0 : (0 : Int) ≤ (k : Int) := by omega
      have hi1 : (k : Int) < (xs.length : Int) := by omega
      have hbs : b < wr.heap.size := by omega
      have hbs2 : b2 < wr.heap.size := by omega
      clear hs hcell hcell2 hc hc2
      go_wp2
      go_region_held3 (fun w' => Below wr.heap.size wr w' ∧ w'.cell? ⟨b, off + k * 7, none⟩ = some (.int .i64 s.pId) ∧ w'.cell? ⟨b, off + k * 7 + 1, none⟩ = some (.int .i64 s.pStation) ∧ w'.cell? ⟨b, off + k * 7 + 2, none⟩ = some (.int .i64 s.pWave) ∧ w'.cell? ⟨b, off + k * 7 + 3, none⟩ = some (.int .i64 s.pTick) ∧ w'.cell? ⟨b, off + k * 7 + 4, none⟩ = some (.int .i64 s.pError) ∧ w'.cell? ⟨b, off + k * 7 + 5, none⟩ = some (.int .i64 s.pBy) ∧ w'.cell? ⟨b, off + k * 7 + 6, none⟩ = some (.int .i64 s.pAfter) ∧ w'.cell? ⟨b2, off2 + k * 7, none⟩ = some (.int .i64 s.pId) ∧ w'.cell? ⟨b2, off2 + k * 7 + 1, none⟩ = some (.int .i64 s.pStation) ∧ w'.cell? ⟨b2, off2 + k * 7 + 2, none⟩ = some (.int .i64 s.pWave) ∧ w'.cell? ⟨b2, off2 + k * 7 + 3, none⟩ = some (.int .i64 s.pTick) ∧ w'.cell? ⟨b2, off2 + k * 7 + 4, none⟩ = some (.int .i64 s.pError) ∧ w'.cell? ⟨b2, off2 + k * 7 + 5, none⟩ = some (.int .i64 s.pBy) ∧ w'.cell? ⟨b2, off2 + k * 7 + 6, none⟩ = some (.int .i64 s.pAfter))
        (first
          | exact ⟨(Below.refl _ _).drew, c0, c1, c2, c3, c4, c5, c6, d0, d1, d2, d3, d4, d5, d6⟩
          | (have q := (Below.refl wr.heap.size wr).drew.trans hq; exact ⟨q, cellOf q hbs c0, cellOf q hbs c1, cellOf q hbs c2, cellOf q hbs c3, cellOf q hbs c4, cellOf q hbs c5, cellOf q hbs c6, cellOf q hbs2 d0, cellOf q hbs2 d1, cellOf q hbs2 d2, cellOf q hbs2 d3, cellOf q hbs2 d4, cellOf q hbs2 d5, cellOf q hbs2 d6⟩))
        (first | (go_at_call 147; refine (eqPick_any s _).mono ?_; rintro e w2 ⟨rfl, hq⟩))
      go_wp2
      go_roundw
      case rel => exact ⟨k + 1, by omega, by go_num, hbl.trans (((Below.refl wr.heap.size wr).drew.trans hq).mono (by omega))⟩
      case measure => simp [intOf]; omega
    · go_wp2
      go_ret
      exact ⟨rfl, hbl⟩
def mkPick (k : Int) : GPick := ⟨k, k + 1, k + 1 + 1, k + 1 + 1 + 1, k + 1 + 1 + 1 + 1, k + 1 + 1 + 1 + 1 + 1, k + 1 + 1 + 1 + 1 + 1 + 1⟩
def marksPick (k : Int) (n : Nat) : List GPick := (List.range n).map fun (i : Nat) => mkPick (k + 7 * i)
theorem marksPick_get {k : Int} {n i : Nat} (h : i < n) : (marksPick k n)[i]? = some (mkPick (k + 7 * i)) := by simp [marksPick, h]
theorem marksPick_len (k : Int) (n : Nat) : (marksPick k n).length = n := by simp [marksPick]
theorem eq_marksPick {k : Int} {n : Nat} {cs : List GPick} (hl : cs.length = n) (h : ∀ i, i < n → cs[i]? = some (mkPick (k + 7 * i))) : cs = marksPick k n := by
  apply List.ext_getElem?
  intro i
  by_cases hi : i < n
  · rw [h i hi, marksPick_get hi]
  · rw [List.getElem?_eq_none (by omega), List.getElem?_eq_none (by rw [marksPick_len]; omega)]
theorem onePick (xs : List GPick) : ∀ u ∈ xs.flatMap encPick, u.oneCell' = true := by
  intro u hu
  obtain ⟨x, _, hx⟩ := List.mem_flatMap.1 hu
  simp only [encPick, List.mem_cons, List.not_mem_nil, or_false] at hx
  rcases hx with rfl | rfl | rfl | rfl | rfl | rfl | rfl <;> rfl
theorem clonePick (xs : List GPick) (v : Value) (w : World) (B : Nat) (h : PickL w B v xs) (hB : B ≤ w.heap.size) (hn : xs.length ≤ 1048576) :
    Calls Try.prog 176 #[v] w fun e w' => ∃ v', e = .returned v' ∧ PickO w' w.heap.size w'.heap.size v' xs ∧ Below w.heap.size w w' := by
  obtain ⟨ti, hi, hz0, hz1, hz2⟩ := info_parts info_Pick
  have hrow := rowK_empty w (base := w.heap.size) 76 7 (Nat.le_refl _)
  have hnil := fun (W : World) (a : Option Addr) (l c : Nat) => Lib.run_eql_slice_nil (P := Try.prog) W 63 76 a l c 0 0 Try.underlying63
  rcases h.split encPick_len (by omega) with ⟨rfl, rfl⟩ | ⟨a, cap, rfl, _, _, hc⟩
  · go_enter Try.func176, Try.ntmps176
    go_wp2
    go_ret
    exact ⟨_, rfl, OwnK.of_row encPick_len (by omega) (World.ownsRow_nil _ _ 76 7), Below.refl _ _⟩
  · have HC := Lib.hid (fun j u (hu : (xs.flatMap encPick)[j]? = some u) => (((Below.refl B w).alloc hB (.cells #[] 76)).cell (hc j u hu).1).trans (hc j u hu).2)
    have H1 := Lib.hid (onePick xs)
    have HL : Hid ((xs.flatMap encPick).length = xs.length * 7) := Lib.hid (flat_len encPick_len xs)
    clear hc h
    go_enter Try.func176, Try.ntmps176
    go_wp2_with (at_builtin; refine wpList_append_own _ rfl _ _ 63 rfl w.heap.size 76 ti (.agg #[.int .i64 0, .int .i64 0, .int .i64 0, .int .i64 0, .int .i64 0, .int .i64 0, .int .i64 0]) 7 56 Try.underlying63 hi hz0 hz1 hz2 rfl (by decide) _ 0 [] rfl hrow a xs.length _ (xs.flatMap encPick) rfl HL.out HC.out H1.out (by unfold maxLen; omega) (by omega) (by simp) ?_; intro v' w1 hown hg _)
    go_ret
    have ho : w1.ownsRow w.heap.size 76 7 v' xs.length (xs.flatMap encPick) := by simpa using hown
    exact ⟨_, rfl, OwnK.of_row encPick_len (by omega) ho, below_appK hg (by intro g e; cases e; exact Nat.le_refl _)⟩
def wfPick (s : GPick) : Prop := I64 s.pId ∧ I64 s.pStation ∧ I64 s.pWave ∧ I64 s.pTick ∧ I64 s.pError ∧ I64 s.pBy ∧ I64 s.pAfter
set_option maxRecDepth 100000 in
theorem cells_Pick {H : Type} {enc : TypeId × Value → H} {w : World} (n : Nat) (cs : List Value) (x : DataW H × List MemPlace) (h : DataW.trod enc Try.prog w 0 (fun _ => true) true n 116 cs = some x) : ∃ s, cs = encPick s ∧ wfPick s := by
  obtain ⟨ys, m, _, _, hlen, hyl, hf⟩ := DataW.trod_struct Try.underlying116 h
  have hlen : cs.length = 7 := hlen.trans (by kernel_rfl)
  obtain ⟨c0, y0, e0, t0⟩ := field_cell (by kernel_rfl) hlen hyl hf 0 _ rfl
  obtain ⟨a0, g0, _, b0⟩ := DataW.trod_int Try.underlying3 t0
  simp only [List.cons.injEq, and_true] at g0
  subst g0
  obtain ⟨c1, y1, e1, t1⟩ := field_cell (by kernel_rfl) hlen hyl hf 1 _ rfl
  obtain ⟨a1, g1, _, b1⟩ := DataW.trod_int Try.underlying3 t1
  simp only [List.cons.injEq, and_true] at g1
  subst g1
  obtain ⟨c2, y2, e2, t2⟩ := field_cell (by kernel_rfl) hlen hyl hf 2 _ rfl
  obtain ⟨a2, g2, _, b2⟩ := DataW.trod_int Try.underlying3 t2
  simp only [List.cons.injEq, and_true] at g2
  subst g2
  obtain ⟨c3, y3, e3, t3⟩ := field_cell (by kernel_rfl) hlen hyl hf 3 _ rfl
  obtain ⟨a3, g3, _, b3⟩ := DataW.trod_int Try.underlying3 t3
  simp only [List.cons.injEq, and_true] at g3
  subst g3
  obtain ⟨c4, y4, e4, t4⟩ := field_cell (by kernel_rfl) hlen hyl hf 4 _ rfl
  obtain ⟨a4, g4, _, b4⟩ := DataW.trod_int Try.underlying3 t4
  simp only [List.cons.injEq, and_true] at g4
  subst g4
  obtain ⟨c5, y5, e5, t5⟩ := field_cell (by kernel_rfl) hlen hyl hf 5 _ rfl
  obtain ⟨a5, g5, _, b5⟩ := DataW.trod_int Try.underlying3 t5
  simp only [List.cons.injEq, and_true] at g5
  subst g5
  obtain ⟨c6, y6, e6, t6⟩ := field_cell (by kernel_rfl) hlen hyl hf 6 _ rfl
  obtain ⟨a6, g6, _, b6⟩ := DataW.trod_int Try.underlying3 t6
  simp only [List.cons.injEq, and_true] at g6
  subst g6
  refine ⟨⟨a0, a1, a2, a3, a4, a5, a6⟩, ?_, bounds_i64 b0, bounds_i64 b1, bounds_i64 b2, bounds_i64 b3, bounds_i64 b4, bounds_i64 b5, bounds_i64 b6⟩
  apply List.ext_getElem?
  intro i
  match i with
  | 0 => exact e0
  | 1 => exact e1
  | 2 => exact e2
  | 3 => exact e3
  | 4 => exact e4
  | 5 => exact e5
  | 6 => exact e6
  | i + 7 => rw [List.getElem?_eq_none (by omega), List.getElem?_eq_none (by rw [encPick_len]; omega)]
set_option maxRecDepth 100000 in
theorem open_PickS {H : Type} {enc : TypeId × Value → H} {w : World} {base : Nat} {v : Value} {d : DataW H} {ps : List MemPlace}
    (hval : Value.okWide Try.prog w .any base 60 v) (hd : DataW.Trod enc Try.prog w 0 (fun _ => true) true 60 v d ps) : ∃ xs : List GPick, PickL w w.heap.size v xs ∧ ∀ x ∈ xs, wfPick x :=
  rows_of encPick 7 encPick_len (by omega) wfPick Try.underlying60 (by kernel_rfl) (fun n cs x h => cells_Pick n cs x h) hval hd
/-- One of them, by value. -/
def PickVL (_ : World) (_ : Nat) (v : Value) (s : GPick) : Prop := v = .agg #[.int .i64 s.pId, .int .i64 s.pStation, .int .i64 s.pWave, .int .i64 s.pTick, .int .i64 s.pError, .int .i64 s.pBy, .int .i64 s.pAfter]
def PickVO (_ : World) (_ _ : Nat) (v : Value) (s : GPick) : Prop := v = .agg #[.int .i64 s.pId, .int .i64 s.pStation, .int .i64 s.pWave, .int .i64 s.pTick, .int .i64 s.pError, .int .i64 s.pBy, .int .i64 s.pAfter]
theorem PickVO.lst {w : World} {L B : Nat} {v : Value} {s : GPick} (h : PickVO w L B v s) : PickVL w B v s := h
theorem PickVL.below {w w' : World} {B : Nat} {v : Value} {s : GPick} (h : PickVL w B v s) (_ : Below B w w') : PickVL w' B v s := h
theorem PickVL.mono {w : World} {B B' : Nat} {v : Value} {s : GPick} (h : PickVL w B v s) (_ : B ≤ B') : PickVL w B' v s := h
theorem PickVO.below {w w' : World} {L B : Nat} {v : Value} {s : GPick} (h : PickVO w L B v s) (_ : Below B w w') : PickVO w' L B v s := h
theorem PickVO.mono {w : World} {L B L' B' : Nat} {v : Value} {s : GPick} (h : PickVO w L B v s) (_ : L' ≤ L) (_ : B ≤ B') : PickVO w L' B' v s := h
theorem PickVO.high {w w' : World} {L B L' U' : Nat} {v : Value} {s : GPick} (h : PickVO w L B v s) (_ : Upd L' U' w w') (_ : U' ≤ L) : PickVO w' L B v s := h
theorem PickVL.form {w : World} {B : Nat} {v : Value} {s : GPick} (h : PickVL w B v s) : v = .agg #[.int .i64 s.pId, .int .i64 s.pStation, .int .i64 s.pWave, .int .i64 s.pTick, .int .i64 s.pError, .int .i64 s.pBy, .int .i64 s.pAfter] := h
theorem PickVO.form {w : World} {L B : Nat} {v : Value} {s : GPick} (h : PickVO w L B v s) : v = .agg #[.int .i64 s.pId, .int .i64 s.pStation, .int .i64 s.pWave, .int .i64 s.pTick, .int .i64 s.pError, .int .i64 s.pBy, .int .i64 s.pAfter] := h
set_option maxRecDepth 100000 in
theorem open_Pick {H : Type} {enc : TypeId × Value → H} {w : World} {base : Nat} {v : Value} {d : DataW H} {ps : List MemPlace}
    (hval : Value.okWide Try.prog w .any base 116 v) (hd : DataW.Trod enc Try.prog w 0 (fun _ => true) true 116 v d ps) : ∃ s : GPick, PickVL w w.heap.size v s ∧ wfPick s := by
  obtain ⟨cs, rfl, hsz⟩ := okWide_struct Try.underlying116 hval
  obtain ⟨fuel, hf⟩ := hd
  obtain ⟨s, h, hw⟩ := cells_Pick _ _ _ hf
  refine ⟨s, ?_, hw⟩
  obtain ⟨l⟩ := cs
  have h : l = encPick s := h
  subst h
  rfl
theorem to_Pick (s : GPick) (v : Value) (w : World) (B : Nat) (h : PickVL w B v s) (_ : B ≤ w.heap.size) (_ : sz1Pick s ≤ 1048576) :
    Calls Try.prog 144 #[v] w fun e w' => ∃ v', e = .returned v' ∧ PickVO w' w.heap.size w'.heap.size v' s ∧ Below w.heap.size w w' := by
  obtain rfl := h.form
  exact (toPick_any s w).mono fun e w' ⟨h1, h2⟩ => ⟨_, h1, rfl, h2⟩
theorem eq_Pick (s : GPick) (v v2 : Value) (w : World) (B : Nat) (h : PickVL w B v s) (h2 : PickVL w B v2 s) (_ : B ≤ w.heap.size) :
    Calls Try.prog 147 #[v, v2] w fun e w' => e = .returned (.bool true) ∧ Below w.heap.size w w' := by
  obtain rfl := h.form
  obtain rfl := h2.form
  exact eqPick_any s w
theorem sz_PickS (xs : List GPick) (v : Value) (left : Int) (w : World) (B : Nat) (h : PickL w B v xs) (hB : B ≤ w.heap.size) (h0 : 0 ≤ left) (h1 : left ≤ 1048576) (ht : (szsPick xs : Int) ≤ left) :
    Calls Try.prog 77 #[v, .int .i64 left] w fun e w' => e = .returned (.int .i64 (left - szsPick xs)) ∧ Below w.heap.size w w' := szPickS_le0 xs v left w B h hB h0 h1 ht
theorem szgt_PickS (xs : List GPick) (v : Value) (left : Int) (w : World) (B : Nat) (h : PickL w B v xs) (hB : B ≤ w.heap.size) (h0 : 0 ≤ left) (h1 : left ≤ 1048576) (ht : left < (szsPick xs : Int)) (hw : ∀ s ∈ xs, wfPick s) :
    Calls Try.prog 77 #[v, .int .i64 left] w fun e w' => e = .returned (.int .i64 (-1)) ∧ Below w.heap.size w w' := szPickS_gt0 xs v left w B h hB h0 h1  ht
theorem to_PickS (xs : List GPick) (v : Value) (w : World) (B : Nat) (h : PickL w B v xs) (hB : B ≤ w.heap.size) (hn : szsPick xs ≤ 1048576) :
    Calls Try.prog 79 #[v] w fun e w' => ∃ v', e = .returned v' ∧ PickO w' w.heap.size w'.heap.size v' xs ∧ Below w.heap.size w w' := toPickS_any xs v w B h hB (Nat.le_trans (szsPick_len xs) hn)
theorem eq_PickS (xs : List GPick) (v v2 : Value) (w : World) (B : Nat) (h : PickL w B v xs) (h2 : PickL w B v2 xs) (hB : B ≤ w.heap.size) :
    Calls Try.prog 81 #[v, v2] w fun e w' => e = .returned (.bool true) ∧ Below w.heap.size w w' := eqPickS_any xs v v2 w B h h2 hB
end Go.Proofs.Ytklilfbokpljkaa
