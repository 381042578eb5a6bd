/- Station: what it reads as; the laws' helpers on it and on slices of it. -/
import Derived.Test.YtjiaejempfhheaaFlat
import Derived.Handy
import Derived.Deep.Slices
import Derived.Deep.Fields
import Derived.Test.YtjiaejempfhheaaStr
namespace Go.Proofs.Ytjiaejempfhheaa
open Go.ChangeShapes Go.WideShapes Go.ChangeAt Go.RowKit Go.ChangeMaps
set_option linter.unusedSimpArgs false
set_option linter.unusedVariables false

structure GStation where
  pId : Int
  pName : ByteArray
  pX : Int
  pY : Int
  pGain : Int
  pLow : Int
  pHigh : Int
  pUntil : Int
def encStation (s : GStation) : List Value := [.int .i64 s.pId, .string s.pName, .int .i64 s.pX, .int .i64 s.pY, .int .i64 s.pGain, .int .i64 s.pLow, .int .i64 s.pHigh, .int .i64 s.pUntil]
theorem encStation_len : ∀ s, (encStation s).length = 8 := fun _ => rfl
def zeroStation : GStation := ⟨0, .empty, 0, 0, 0, 0, 0, 0⟩
abbrev StationL (w : World) (B : Nat) (v : Value) (xs : List GStation) : Prop := LstK encStation 8 w B v xs
abbrev StationO (w : World) (L B : Nat) (v : Value) (xs : List GStation) : Prop := OwnK encStation 8 w L B v xs
def sz1Station (s : GStation) : Nat := 0 + s.pName.size
def szsStation (xs : List GStation) : Nat := (xs.map fun s => 1 + sz1Station s).sum
theorem szsStation_len (xs : List GStation) : xs.length ≤ szsStation xs := by
  unfold szsStation
  induction xs with
  | nil => simp
  | cons a l ih => simp only [List.map_cons, List.sum_cons, List.length_cons]; omega
theorem szsStation_mem {xs : List GStation} {s : GStation} (h : s ∈ xs) : sz1Station s ≤ szsStation xs := by
  unfold szsStation
  induction xs with
  | nil => simp at h
  | cons a l ih =>
    simp only [List.map_cons, List.sum_cons]
    rcases List.mem_cons.1 h with rfl | h
    · omega
    · have := ih h; omega
def szpStation (xs : List GStation) (k : Nat) : Nat := ((xs.take k).map sz1Station).sum
theorem szpStation_zero (xs : List GStation) : szpStation xs 0 = 0 := by simp [szpStation]
theorem szpStation_succ {xs : List GStation} {k : Nat} {s : GStation} (h : xs[k]? = some s) : szpStation xs (k + 1) = szpStation xs k + sz1Station s := by
  unfold szpStation; rw [take_snoc h, List.map_append, List.sum_append]; simp
theorem szsStation_split (xs : List GStation) : szsStation xs = xs.length + szpStation xs xs.length := by
  unfold szsStation szpStation
  rw [List.take_length]
  induction xs with
  | nil => simp
  | cons a l ih => simp only [List.map_cons, List.sum_cons, List.length_cons, ih]; omega
theorem szpStation_le (xs : List GStation) (k : Nat) : szpStation xs k ≤ szpStation xs xs.length := by
  unfold szpStation
  rw [List.take_length]
  conv => rhs; rw [← List.take_append_drop k xs, List.map_append, List.sum_append]
  omega

theorem szStation_le0 (s : GStation) (left : Int) (w : World) (h0 : 0 ≤ left) (h1 : left ≤ 1048576) (ht : (sz1Station s : Int) ≤ left) :
    Calls Try.prog 49 #[.agg #[.int .i64 s.pId, .string s.pName, .int .i64 s.pX, .int .i64 s.pY, .int .i64 s.pGain, .int .i64 s.pLow, .int .i64 s.pHigh, .int .i64 s.pUntil], .int .i64 left] w fun e w' => e = .returned (.int .i64 (left - sz1Station s)) ∧ Below w.heap.size w w' := by
  unfold sz1Station at *
  go_enter Try.func49, Try.ntmps49
  go_wp2
  go_ret
  exact ⟨ret_int (by first | omega | (simp; done) | (simp; omega)), (Below.refl _ _).alloc (Nat.le_refl _) _⟩
theorem szStation_gt0 (s : GStation) (left : Int) (w : World) (h0 : 0 ≤ left) (h1 : left ≤ 1048576) (hzName : (s.pName.size : Int) ≤ 9223372036854775807) (ht : left < (sz1Station s : Int)) :
    Calls Try.prog 49 #[.agg #[.int .i64 s.pId, .string s.pName, .int .i64 s.pX, .int .i64 s.pY, .int .i64 s.pGain, .int .i64 s.pLow, .int .i64 s.pHigh, .int .i64 s.pUntil], .int .i64 left] w fun e w' => e = .returned (.int .i64 (-1)) ∧ Below w.heap.size w w' := by
  unfold sz1Station at *
  go_enter Try.func49, Try.ntmps49
  go_wp2
  all_goals first
    | (go_ret; exact ⟨rfl, (Below.refl _ _).alloc (Nat.le_refl _) _⟩)
    | go_wall
/-- One of them by value. -/
def StationV (v : Value) (s : GStation) : Prop := v = .agg #[.int .i64 s.pId, .string s.pName, .int .i64 s.pX, .int .i64 s.pY, .int .i64 s.pGain, .int .i64 s.pLow, .int .i64 s.pHigh, .int .i64 s.pUntil]
set_option maxHeartbeats 800000 in
theorem toStation_any (s : GStation) (w : World) :
    Calls Try.prog 50 #[.agg #[.int .i64 s.pId, .string s.pName, .int .i64 s.pX, .int .i64 s.pY, .int .i64 s.pGain, .int .i64 s.pLow, .int .i64 s.pHigh, .int .i64 s.pUntil]] w fun e w' => e = .returned (.agg #[.int .i64 s.pId, .string s.pName, .int .i64 s.pX, .int .i64 s.pY, .int .i64 s.pGain, .int .i64 s.pLow, .int .i64 s.pHigh, .int .i64 s.pUntil]) ∧ Below w.heap.size w w' := by
  go_enter Try.func50, Try.ntmps50
  go_wp2
  refine bodyPost_ret (v := .agg #[.int .i64 s.pId, .string s.pName, .int .i64 s.pX, .int .i64 s.pY, .int .i64 s.pGain, .int .i64 s.pLow, .int .i64 s.pHigh, .int .i64 s.pUntil]) (by simp [results, Try.results50, go_sem]) rfl ⟨rfl, ?_⟩
  first
    | exact (((Below.refl _ w).alloc (Nat.le_refl _) _).alloc (by first | omega | (simp; done) | (simp; omega)) _).alloc (by first | omega | (simp; done) | (simp; omega)) _
    | (repeat (first | exact (((Below.refl _ w).alloc (Nat.le_refl _) _).alloc (by first | omega | (simp; done) | (simp; omega)) _).alloc (by first | omega | (simp; done) | (simp; omega)) _ | (refine Below.setCell ?_ (by first | omega | (simp; done) | (simp; omega)) _)))
set_option maxHeartbeats 800000 in
theorem eqStation_any (s : GStation) (w : World) :
    Calls Try.prog 101 #[.agg #[.int .i64 s.pId, .string s.pName, .int .i64 s.pX, .int .i64 s.pY, .int .i64 s.pGain, .int .i64 s.pLow, .int .i64 s.pHigh, .int .i64 s.pUntil], .agg #[.int .i64 s.pId, .string s.pName, .int .i64 s.pX, .int .i64 s.pY, .int .i64 s.pGain, .int .i64 s.pLow, .int .i64 s.pHigh, .int .i64 s.pUntil]] w fun e w' => e = .returned (.bool true) ∧ Below w.heap.size w w' := by
  go_enter Try.func101, Try.ntmps101
  go_wp2
  go_ret
  exact ⟨rfl, ((Below.refl _ w).alloc (Nat.le_refl _) _).alloc (by first | omega | (simp; done) | (simp; omega)) _⟩

theorem info_Station : (Try.prog.info? 36).map (fun i => (i.zero, i.size, i.bytes)) = some (some (.agg #[.int .i64 0, .string .empty, .int .i64 0, .int .i64 0, .int .i64 0, .int .i64 0, .int .i64 0, .int .i64 0]), 8, 72) := by kernel_rfl
set_option maxHeartbeats 800000 in
theorem szStationS_le0 (xs : List GStation) (v : Value) (left : Int) (w : World) (B : Nat) (h : StationL w B v xs) (hB : B ≤ w.heap.size) (h0 : 0 ≤ left) (h1 : left ≤ 1048576) (ht : (szsStation xs : Int) ≤ left) :
    Calls Try.prog 51 #[v, .int .i64 left] w fun e w' => e = .returned (.int .i64 (left - szsStation xs)) ∧ Below w.heap.size w w' := by
  obtain ⟨ao, cap, rfl, hcap, hmax, -, hc⟩ := h
  unfold maxLen at hmax
  rw [szsStation_split] at *
  have hd : ¬ left - (xs.length : Int) < 0 := by omega
  go_enter Try.func51, Try.ntmps51
  go_wp2
  go_loopw [1, 5] (fun l i wr => ∃ (k : Nat), k ≤ xs.length ∧ i = .int .i64 k ∧ 0 ≤ left - xs.length - szpStation xs k ∧ l = .int .i64 (left - xs.length - szpStation xs k) ∧ Below w.heap.size w wr)
    (fun _ i _ => xs.length - (intOf i).toNat)
  case atStart => exact ⟨0, Nat.zero_le _, rfl, by rw [szpStation_zero]; omega, by rw [szpStation_zero]; simp, Below.refl _ _⟩
  case round =>
    obtain ⟨k, hk, rfl, hnn, rfl, hbl⟩ := hrel
    have hpart := szpStation_le xs k
    by_cases hlt : k < xs.length
    · obtain ⟨s, hs⟩ := get_of_lt hlt
      obtain ⟨b, off, rfl, hb, hcell⟩ := hc k s hs
      have hpart1 := szpStation_le xs (k + 1)
      have hsum := szpStation_succ hs
      have c0 : wr.cell? ⟨b, off + k * 8, none⟩ = some (.int .i64 s.pId) := cellOf hbl (by omega) (hcell 0 _ rfl)
      have c1 : wr.cell? ⟨b, off + k * 8 + 1, none⟩ = some (.string s.pName) := cellOf hbl (by omega) (hcell 1 _ rfl)
      have c2 : wr.cell? ⟨b, off + k * 8 + 2, none⟩ = some (.int .i64 s.pX) := cellOf hbl (by omega) (hcell 2 _ rfl)
      have c3 : wr.cell? ⟨b, off + k * 8 + 3, none⟩ = some (.int .i64 s.pY) := cellOf hbl (by omega) (hcell 3 _ rfl)
      have c4 : wr.cell? ⟨b, off + k * 8 + 4, none⟩ = some (.int .i64 s.pGain) := cellOf hbl (by omega) (hcell 4 _ rfl)
      have c5 : wr.cell? ⟨b, off + k * 8 + 5, none⟩ = some (.int .i64 s.pLow) := cellOf hbl (by omega) (hcell 5 _ rfl)
      have c6 : wr.cell? ⟨b, off + k * 8 + 6, none⟩ = some (.int .i64 s.pHigh) := cellOf hbl (by omega) (hcell 6 _ rfl)
      have c7 : wr.cell? ⟨b, off + k * 8 + 7, none⟩ = some (.int .i64 s.pUntil) := cellOf hbl (by omega) (hcell 7 _ rfl)
      have HS := Lib.hid hs
      clear hc hcell hs
      have hlt2 : (sz1Station s : Int) ≤ left - xs.length - szpStation xs k := by omega
      go_wp2_with fail
      refine (szStation_le0 s _ _ (by omega) (by omega) hlt2).mono ?_
      rintro e w1 ⟨rfl, hb1⟩
      have hd2 : ¬ left - xs.length - szpStation xs k - sz1Station s < 0 := by omega
      go_wp2
      go_roundw
      case rel => exact ⟨k + 1, by omega, by go_num, by omega, by rw [hsum]; go_num, hbl.trans (hb1.mono hbl.size)⟩
      case measure => simp [intOf]; omega
    · obtain rfl : k = xs.length := by omega
      go_wp2
      go_ret
      exact ⟨ret_int (by omega), hbl⟩
set_option maxHeartbeats 800000 in
theorem szStationS_gt0 (xs : List GStation) (v : Value) (left : Int) (w : World) (B : Nat) (h : StationL w B v xs) (hB : B ≤ w.heap.size) (h0 : 0 ≤ left) (h1 : left ≤ 1048576) (hzName : ∀ s ∈ xs, (s.pName.size : Int) ≤ 9223372036854775807) (ht : left < (szsStation xs : Int)) :
    Calls Try.prog 51 #[v, .int .i64 left] w fun e w' => e = .returned (.int .i64 (-1)) ∧ Below w.heap.size w w' := by
  obtain ⟨ao, cap, rfl, hcap, hmax, -, hc⟩ := h
  unfold maxLen at hmax
  rw [szsStation_split] at *
  by_cases hd : left - (xs.length : Int) < 0
  · clear hc
    go_enter Try.func51, Try.ntmps51
    go_wp2
    go_ret
    exact ⟨rfl, Below.refl _ _⟩
  go_enter Try.func51, Try.ntmps51
  go_wp2
  go_loopw [1, 5] (fun l i wr => ∃ (k : Nat), k ≤ xs.length ∧ i = .int .i64 k ∧ 0 ≤ left - xs.length - szpStation xs k ∧ l = .int .i64 (left - xs.length - szpStation xs k) ∧ Below w.heap.size w wr)
    (fun _ i _ => xs.length - (intOf i).toNat)
  case atStart => exact ⟨0, Nat.zero_le _, rfl, by rw [szpStation_zero]; omega, by rw [szpStation_zero]; simp, Below.refl _ _⟩
  case round =>
    obtain ⟨k, hk, rfl, hnn, rfl, hbl⟩ := hrel
    have hpart := szpStation_le xs k
    by_cases hlt : k < xs.length
    · obtain ⟨s, hs⟩ := get_of_lt hlt
      obtain ⟨b, off, rfl, hb, hcell⟩ := hc k s hs
      have hpart1 := szpStation_le xs (k + 1)
      have hsum := szpStation_succ hs
      have c0 : wr.cell? ⟨b, off + k * 8, none⟩ = some (.int .i64 s.pId) := cellOf hbl (by omega) (hcell 0 _ rfl)
      have c1 : wr.cell? ⟨b, off + k * 8 + 1, none⟩ = some (.string s.pName) := cellOf hbl (by omega) (hcell 1 _ rfl)
      have c2 : wr.cell? ⟨b, off + k * 8 + 2, none⟩ = some (.int .i64 s.pX) := cellOf hbl (by omega) (hcell 2 _ rfl)
      have c3 : wr.cell? ⟨b, off + k * 8 + 3, none⟩ = some (.int .i64 s.pY) := cellOf hbl (by omega) (hcell 3 _ rfl)
      have c4 : wr.cell? ⟨b, off + k * 8 + 4, none⟩ = some (.int .i64 s.pGain) := cellOf hbl (by omega) (hcell 4 _ rfl)
      have c5 : wr.cell? ⟨b, off + k * 8 + 5, none⟩ = some (.int .i64 s.pLow) := cellOf hbl (by omega) (hcell 5 _ rfl)
      have c6 : wr.cell? ⟨b, off + k * 8 + 6, none⟩ = some (.int .i64 s.pHigh) := cellOf hbl (by omega) (hcell 6 _ rfl)
      have c7 : wr.cell? ⟨b, off + k * 8 + 7, none⟩ = some (.int .i64 s.pUntil) := cellOf hbl (by omega) (hcell 7 _ rfl)
      have HS := Lib.hid hs
      have hz1Name := hzName s (List.mem_of_getElem? hs)
      clear hzName
      clear hc hcell hs
      by_cases hlt2 : (sz1Station s : Int) ≤ left - xs.length - szpStation xs k
      case neg =>
        go_wp2_with fail
        refine (szStation_gt0 s _ _ (by omega) (by omega) hz1Name (by omega)).mono ?_
        rintro e w1 ⟨rfl, hb1⟩
        go_wp2
        go_ret
        exact ⟨rfl, hbl.trans (hb1.mono hbl.size)⟩
      go_wp2_with fail
      refine (szStation_le0 s _ _ (by omega) (by omega) hlt2).mono ?_
      rintro e w1 ⟨rfl, hb1⟩
      have hd2 : ¬ left - xs.length - szpStation xs k - sz1Station s < 0 := by omega
      go_wp2
      go_roundw
      case rel => exact ⟨k + 1, by omega, by go_num, by omega, by rw [hsum]; go_num, hbl.trans (hb1.mono hbl.size)⟩
      case measure => simp [intOf]; omega
    · exfalso
      obtain rfl : k = xs.length := by omega
      omega
set_option maxHeartbeats 1000000 in
theorem toStationS_any (xs : List GStation) (v : Value) (w : World) (B : Nat) (h : StationL w B v xs) (hB : B ≤ w.heap.size) (hn : xs.length ≤ 1048576) :
    Calls Try.prog 52 #[v] w fun e w' => ∃ v', e = .returned v' ∧ StationO w' w.heap.size w'.heap.size v' xs ∧ Below w.heap.size w w' := by
  obtain ⟨ao, cap, rfl, hcap, hmax, -, hc⟩ := h
  unfold maxLen at hmax
  obtain ⟨ti, hi, hz0, hz1, hz2⟩ := info_parts info_Station
  have hnm : xs.length ≤ maxLen := by unfold maxLen; omega
  go_enter Try.func52, Try.ntmps52
  go_wp2_with (at_make; refine wpList_make_full _ rfl _ _ 24 rfl w.heap.size 36 ti (.agg #[.int .i64 0, .string .empty, .int .i64 0, .int .i64 0, .int .i64 0, .int .i64 0, .int .i64 0, .int .i64 0]) 8 Try.underlying24 hi hz0 hz1 .i64 .i64 _ _ xs.length rfl rfl rfl rfl (by rw [hz2]; omega) hnm (Nat.le_refl _) ?_; intro w1 hown hgrow)
  have hb1 : Below w.heap.size w w1 := (Below.refl _ _).grown hgrow (Nat.le_refl _) (by simp)
  have hown2 : w1.ownsRow w.heap.size 36 8 (.slice (some ⟨w.heap.size, 0, none⟩) xs.length xs.length) xs.length ((List.replicate xs.length zeroStation).flatMap encStation) := by
    rw [← made_flat encStation_len (by omega) #[.int .i64 0, .string .empty, .int .i64 0, .int .i64 0, .int .i64 0, .int .i64 0, .int .i64 0, .int .i64 0] zeroStation rfl xs.length]
    exact hown
  have hO : StationO w1 w.heap.size w1.heap.size (.slice (some ⟨w.heap.size, 0, none⟩) xs.length xs.length) (List.replicate xs.length zeroStation) := by
    have := OwnK.of_row encStation_len (by omega) hown2
    simpa using this
  clear hown hown2
  go_loopw [4] (fun i wr => ∃ (k : Nat) (ys : List GStation), k ≤ xs.length ∧ i = .int .i64 k ∧ StationO wr w.heap.size wr.heap.size (.slice (some ⟨w.heap.size, 0, none⟩) xs.length xs.length) ys ∧ ys.length = xs.length ∧ ys.take k = xs.take k ∧ Below w.heap.size w wr)
    (fun i _ => xs.length - (intOf i).toNat)
  case atStart => exact ⟨0, _, Nat.zero_le _, rfl, hO, by simp, rfl, hb1⟩
  case round =>
    obtain ⟨k, ys, hk, rfl, hrow, hyl, hys, hbl⟩ := hrel
    clear hO hb1
    have HY := Lib.hid hys
    have HL := Lib.hid hyl
    clear hys hyl
    by_cases hlt : k < xs.length
    · obtain ⟨s, hs⟩ := get_of_lt hlt
      obtain ⟨b, off, rfl, hb, hcell⟩ := hc k s hs
      obtain ⟨y, hy⟩ : ∃ y, ys[k]? = some y := get_of_lt (by rw [HL.out]; omega)
      have c0 : wr.cell? ⟨b, off + k * 8, none⟩ = some (.int .i64 s.pId) := cellOf hbl (by omega) (hcell 0 _ rfl)
      have c1 : wr.cell? ⟨b, off + k * 8 + 1, none⟩ = some (.string s.pName) := cellOf hbl (by omega) (hcell 1 _ rfl)
      have c2 : wr.cell? ⟨b, off + k * 8 + 2, none⟩ = some (.int .i64 s.pX) := cellOf hbl (by omega) (hcell 2 _ rfl)
      have c3 : wr.cell? ⟨b, off + k * 8 + 3, none⟩ = some (.int .i64 s.pY) := cellOf hbl (by omega) (hcell 3 _ rfl)
      have c4 : wr.cell? ⟨b, off + k * 8 + 4, none⟩ = some (.int .i64 s.pGain) := cellOf hbl (by omega) (hcell 4 _ rfl)
      have c5 : wr.cell? ⟨b, off + k * 8 + 5, none⟩ = some (.int .i64 s.pLow) := cellOf hbl (by omega) (hcell 5 _ rfl)
      have c6 : wr.cell? ⟨b, off + k * 8 + 6, none⟩ = some (.int .i64 s.pHigh) := cellOf hbl (by omega) (hcell 6 _ rfl)
      have c7 : wr.cell? ⟨b, off + k * 8 + 7, none⟩ = some (.int .i64 s.pUntil) := cellOf hbl (by omega) (hcell 7 _ rfl)
      have HS := Lib.hid hs
      have HYY := Lib.hid hy
      clear hs hy hcell hc
      go_wp2_with fail
      refine (toStation_any s _).mono ?_
      rintro e w2 ⟨rfl, hb2⟩
      have hz2 := hb2.size
      have hr2 := hrow.below hb2
      have hbl2 := hbl.trans (hb2.mono hbl.size)
      clear hb2 hrow hbl
      obtain ⟨ao3, cap3, e3, _, _, _, h3⟩ := id hr2
      obtain ⟨b3, off3, e4, _, hB3, hz3, hc3, hf3⟩ := h3 k y HYY.out
      rw [e4] at e3
      simp only [Value.slice.injEq, Option.some.injEq, Addr.mk.injEq] at e3
      obtain ⟨⟨rfl, rfl, -⟩, -, -⟩ := e3
      have o0 : w2.cell? ⟨w.heap.size, k * 8, none⟩ = some (.int .i64 y.pId) := by have := hc3 0 _ rfl; simpa using this
      have o1 : w2.cell? ⟨w.heap.size, k * 8 + 1, none⟩ = some (.string y.pName) := by have := hc3 1 _ rfl; simpa using this
      have o2 : w2.cell? ⟨w.heap.size, k * 8 + 2, none⟩ = some (.int .i64 y.pX) := by have := hc3 2 _ rfl; simpa using this
      have o3 : w2.cell? ⟨w.heap.size, k * 8 + 3, none⟩ = some (.int .i64 y.pY) := by have := hc3 3 _ rfl; simpa using this
      have o4 : w2.cell? ⟨w.heap.size, k * 8 + 4, none⟩ = some (.int .i64 y.pGain) := by have := hc3 4 _ rfl; simpa using this
      have o5 : w2.cell? ⟨w.heap.size, k * 8 + 5, none⟩ = some (.int .i64 y.pLow) := by have := hc3 5 _ rfl; simpa using this
      have o6 : w2.cell? ⟨w.heap.size, k * 8 + 6, none⟩ = some (.int .i64 y.pHigh) := by have := hc3 6 _ rfl; simpa using this
      have o7 : w2.cell? ⟨w.heap.size, k * 8 + 7, none⟩ = some (.int .i64 y.pUntil) := by have := hc3 7 _ rfl; simpa using this
      have hr3 := hr2.put encStation_len rfl HYY.out (ad := k * 8) (by omega) s
      have hbl3 := below_putCells hbl2 (b := w.heap.size) (Nat.le_refl _) (k * 8) (encStation s) 0
      have HR := Lib.hid hr3
      clear hr2 hr3 hc3 h3 e4
      go_wp2
      go_roundw
      case rel =>
        refine ⟨k + 1, ys.set k s, by omega, by go_num, ?_, by simp [HL.out], ?_, hbl3⟩
        · exact HR.out.mono (Nat.le_refl _) (by simp [World.setCell]; exact hz2)
        · rw [take_snoc HS.out, take_snoc (l := ys.set k s) (x := s) (by rw [List.getElem?_set_self]; rw [HL.out]; omega), List.take_set_of_le (by omega), HY.out]
      case measure => simp [intOf]; omega
    · go_wp2
      go_ret
      refine ⟨_, rfl, ?_, hbl⟩
      have := HY.out
      rw [take_all hlt, take_all (by rw [HL.out]; exact hlt)] at this
      rw [this] at hrow
      exact hrow
set_option maxHeartbeats 2000000 in
theorem eqStationS_any (xs : List GStation) (v v2 : Value) (w : World) (B : Nat) (h : StationL w B v xs) (h2 : StationL w B v2 xs) (hB : B ≤ w.heap.size) :
    Calls Try.prog 53 #[v, v2] w fun e w' => e = .returned (.bool true) ∧ Below w.heap.size w w' := by
  obtain ⟨ao, cap, rfl, hcap, hmax, -, hc⟩ := h
  obtain ⟨ao2, cap2, rfl, hcap2, hmax2, -, hc2⟩ := h2
  unfold maxLen at hmax hmax2
  go_enter Try.func53, Try.ntmps53
  go_wp2
  go_loopw [5] (fun i wr => ∃ (k : Nat), k ≤ xs.length ∧ i = .int .i64 k ∧ Below w.heap.size w wr)
    (fun i _ => xs.length - (intOf i).toNat)
  case atStart => exact ⟨0, Nat.zero_le _, rfl, Below.refl _ _⟩
  case round =>
    obtain ⟨k, hk, rfl, hbl⟩ := hrel
    have hsz := hbl.size
    by_cases hlt : k < xs.length
    · obtain ⟨s, hs⟩ := get_of_lt hlt
      obtain ⟨b, off, rfl, hb, hcell⟩ := hc k s hs
      obtain ⟨b2, off2, rfl, hb2, hcell2⟩ := hc2 k s hs
      have c0 : wr.cell? ⟨b, off + k * 8, none⟩ = some (.int .i64 s.pId) := cellOf hbl (by omega) (hcell 0 _ rfl)
      have c1 : wr.cell? ⟨b, off + k * 8 + 1, none⟩ = some (.string s.pName) := cellOf hbl (by omega) (hcell 1 _ rfl)
      have c2 : wr.cell? ⟨b, off + k * 8 + 2, none⟩ = some (.int .i64 s.pX) := cellOf hbl (by omega) (hcell 2 _ rfl)
      have c3 : wr.cell? ⟨b, off + k * 8 + 3, none⟩ = some (.int .i64 s.pY) := cellOf hbl (by omega) (hcell 3 _ rfl)
      have c4 : wr.cell? ⟨b, off + k * 8 + 4, none⟩ = some (.int .i64 s.pGain) := cellOf hbl (by omega) (hcell 4 _ rfl)
      have c5 : wr.cell? ⟨b, off + k * 8 + 5, none⟩ = some (.int .i64 s.pLow) := cellOf hbl (by omega) (hcell 5 _ rfl)
      have c6 : wr.cell? ⟨b, off + k * 8 + 6, none⟩ = some (.int .i64 s.pHigh) := cellOf hbl (by omega) (hcell 6 _ rfl)
      have c7 : wr.cell? ⟨b, off + k * 8 + 7, none⟩ = some (.int .i64 s.pUntil) := cellOf hbl (by omega) (hcell 7 _ rfl)
      have d0 : wr.cell? ⟨b2, off2 + k * 8, none⟩ = some (.int .i64 s.pId) := cellOf hbl (by omega) (hcell2 0 _ rfl)
      have d1 : wr.cell? ⟨b2, off2 + k * 8 + 1, none⟩ = some (.string s.pName) := cellOf hbl (by omega) (hcell2 1 _ rfl)
      have d2 : wr.cell? ⟨b2, off2 + k * 8 + 2, none⟩ = some (.int .i64 s.pX) := cellOf hbl (by omega) (hcell2 2 _ rfl)
      have d3 : wr.cell? ⟨b2, off2 + k * 8 + 3, none⟩ = some (.int .i64 s.pY) := cellOf hbl (by omega) (hcell2 3 _ rfl)
      have d4 : wr.cell? ⟨b2, off2 + k * 8 + 4, none⟩ = some (.int .i64 s.pGain) := cellOf hbl (by omega) (hcell2 4 _ rfl)
      have d5 : wr.cell? ⟨b2, off2 + k * 8 + 5, none⟩ = some (.int .i64 s.pLow) := cellOf hbl (by omega) (hcell2 5 _ rfl)
      have d6 : wr.cell? ⟨b2, off2 + k * 8 + 6, none⟩ = some (.int .i64 s.pHigh) := cellOf hbl (by omega) (hcell2 6 _ rfl)
      have d7 : wr.cell? ⟨b2, off2 + k * 8 + 7, none⟩ = some (.int .i64 s.pUntil) := cellOf hbl (by omega) (hcell2 7 _ rfl)
      have hi0 : (0 : Int) ≤ (k : Int) := by omega
      have hi1 : (k : Int) < (xs.length : Int) := by omega
      have hbs : b < wr.heap.size := by omega
      have hbs2 : b2 < wr.heap.size := by omega
      clear hs hcell hcell2 hc hc2
      go_wp2
      go_region_held3 (fun w' => Below wr.heap.size wr w' ∧ w'.cell? ⟨b, off + k * 8, none⟩ = some (.int .i64 s.pId) ∧ w'.cell? ⟨b, off + k * 8 + 1, none⟩ = some (.string s.pName) ∧ w'.cell? ⟨b, off + k * 8 + 2, none⟩ = some (.int .i64 s.pX) ∧ w'.cell? ⟨b, off + k * 8 + 3, none⟩ = some (.int .i64 s.pY) ∧ w'.cell? ⟨b, off + k * 8 + 4, none⟩ = some (.int .i64 s.pGain) ∧ w'.cell? ⟨b, off + k * 8 + 5, none⟩ = some (.int .i64 s.pLow) ∧ w'.cell? ⟨b, off + k * 8 + 6, none⟩ = some (.int .i64 s.pHigh) ∧ w'.cell? ⟨b, off + k * 8 + 7, none⟩ = some (.int .i64 s.pUntil) ∧ w'.cell? ⟨b2, off2 + k * 8, none⟩ = some (.int .i64 s.pId) ∧ w'.cell? ⟨b2, off2 + k * 8 + 1, none⟩ = some (.string s.pName) ∧ w'.cell? ⟨b2, off2 + k * 8 + 2, none⟩ = some (.int .i64 s.pX) ∧ w'.cell? ⟨b2, off2 + k * 8 + 3, none⟩ = some (.int .i64 s.pY) ∧ w'.cell? ⟨b2, off2 + k * 8 + 4, none⟩ = some (.int .i64 s.pGain) ∧ w'.cell? ⟨b2, off2 + k * 8 + 5, none⟩ = some (.int .i64 s.pLow) ∧ w'.cell? ⟨b2, off2 + k * 8 + 6, none⟩ = some (.int .i64 s.pHigh) ∧ w'.cell? ⟨b2, off2 + k * 8 + 7, none⟩ = some (.int .i64 s.pUntil))
        (first
          | exact ⟨(Below.refl _ _).drew, c0, c1, c2, c3, c4, c5, c6, c7, d0, d1, d2, d3, d4, d5, d6, d7⟩
          | (have q := (Below.refl wr.heap.size wr).drew.trans hq; exact ⟨q, cellOf q hbs c0, cellOf q hbs c1, cellOf q hbs c2, cellOf q hbs c3, cellOf q hbs c4, cellOf q hbs c5, cellOf q hbs c6, cellOf q hbs c7, cellOf q hbs2 d0, cellOf q hbs2 d1, cellOf q hbs2 d2, cellOf q hbs2 d3, cellOf q hbs2 d4, cellOf q hbs2 d5, cellOf q hbs2 d6, cellOf q hbs2 d7⟩))
        (first | (go_at_call 101; refine (eqStation_any s _).mono ?_; rintro e w2 ⟨rfl, hq⟩))
      go_wp2
      go_roundw
      case rel => exact ⟨k + 1, by omega, by go_num, hbl.trans (((Below.refl wr.heap.size wr).drew.trans hq).mono (by omega))⟩
      case measure => simp [intOf]; omega
    · go_wp2
      go_ret
      exact ⟨rfl, hbl⟩
def mkStation (k : Int) : GStation := ⟨k, mark (k + 1), k + 1 + 1, k + 1 + 1 + 1, k + 1 + 1 + 1 + 1, k + 1 + 1 + 1 + 1 + 1, k + 1 + 1 + 1 + 1 + 1 + 1, k + 1 + 1 + 1 + 1 + 1 + 1 + 1⟩
def marksStation (k : Int) (n : Nat) : List GStation := (List.range n).map fun (i : Nat) => mkStation (k + 8 * i)
theorem marksStation_get {k : Int} {n i : Nat} (h : i < n) : (marksStation k n)[i]? = some (mkStation (k + 8 * i)) := by simp [marksStation, h]
theorem marksStation_len (k : Int) (n : Nat) : (marksStation k n).length = n := by simp [marksStation]
theorem eq_marksStation {k : Int} {n : Nat} {cs : List GStation} (hl : cs.length = n) (h : ∀ i, i < n → cs[i]? = some (mkStation (k + 8 * i))) : cs = marksStation k n := by
  apply List.ext_getElem?
  intro i
  by_cases hi : i < n
  · rw [h i hi, marksStation_get hi]
  · rw [List.getElem?_eq_none (by omega), List.getElem?_eq_none (by rw [marksStation_len]; omega)]
set_option maxHeartbeats 2000000 in
theorem markStationS_any (ss : List GStation) (v : Value) (k : Int) (w : World) (L B : Nat) (h : StationO w L B v ss) (hB : B ≤ w.heap.size) (hn : ss.length ≤ 1048576) (h0 : 0 ≤ k) (h1 : k ≤ 100000000000) :
    Calls Try.prog 55 #[v, .int .i64 k] w fun e w' => e = .returned (.int .i64 (k + 8 * ss.length)) ∧ StationO w' L B v (marksStation k ss.length) ∧ Upd L B w w' := by
  obtain ⟨ao, cap, rfl, hcap, hmax, -, hc⟩ := id h
  go_enter Try.func55, Try.ntmps55
  go_wp2
  go_loopw [1, 5] (fun m i wr => ∃ (j : Nat) (cs : List GStation), j ≤ ss.length ∧ i = .int .i64 j ∧ m = .int .i64 (k + 8 * j) ∧ cs.length = ss.length ∧ (∀ i, i < j → cs[i]? = some (mkStation (k + 8 * i))) ∧ StationO wr L B (.slice ao ss.length cap) cs ∧ Upd L B w wr)
    (fun _ i _ => ss.length - (intOf i).toNat)
  case atStart => exact ⟨0, ss, Nat.zero_le _, rfl, by simp, rfl, fun i hi => by omega, h, Upd.refl _ _ _⟩
  case round =>
    obtain ⟨j, cs, hj, rfl, rfl, hl, hm, hown, hbl⟩ := hrel
    clear hc h
    by_cases hlt : j < ss.length
    · obtain ⟨s, hs⟩ := get_of_lt (l := cs) (k := j) (by omega)
      obtain ⟨ao', cap', hv', _, _, _, hc'⟩ := id hown
      have hl' := Lib.hid hl
      simp only [Value.slice.injEq] at hv'
      obtain ⟨rfl, -, rfl⟩ := hv'
      obtain ⟨b, off, rfl, hLb, hb, hbz, hcell, hfr⟩ := hc' j s hs
      have HM := Lib.hid hm
      have HH := Lib.hid hs
      clear hl hs hc' hm
      have hj1 : (j : Int) < 1048576 := by omega
      have c0 : wr.cell? ⟨b, off + j * 8, none⟩ = some (.int .i64 s.pId) := hcell 0 _ rfl
      have c1 : wr.cell? ⟨b, off + j * 8 + 1, none⟩ = some (.string s.pName) := hcell 1 _ rfl
      have c2 : wr.cell? ⟨b, off + j * 8 + 2, none⟩ = some (.int .i64 s.pX) := hcell 2 _ rfl
      have c3 : wr.cell? ⟨b, off + j * 8 + 3, none⟩ = some (.int .i64 s.pY) := hcell 3 _ rfl
      have c4 : wr.cell? ⟨b, off + j * 8 + 4, none⟩ = some (.int .i64 s.pGain) := hcell 4 _ rfl
      have c5 : wr.cell? ⟨b, off + j * 8 + 5, none⟩ = some (.int .i64 s.pLow) := hcell 5 _ rfl
      have c6 : wr.cell? ⟨b, off + j * 8 + 6, none⟩ = some (.int .i64 s.pHigh) := hcell 6 _ rfl
      have c7 : wr.cell? ⟨b, off + j * 8 + 7, none⟩ = some (.int .i64 s.pUntil) := hcell 7 _ rfl
      generalize hq : (k + 8 * (j : Int)) = q at *
      have HQ := Lib.hid hq
      have hq0 : 0 ≤ q := by omega
      have hq1 : q ≤ 101000000000 := by omega
      clear hq
      have hBr : B ≤ wr.heap.size := Nat.le_trans hB hbl.size
      have R0 := Lib.hid hown
      have G0 := Lib.hid HH.out
      have U0 := Lib.hid hbl
      clear hown hbl
      have R1 := Lib.hid (OwnK.set encStation_len R0.out (m := 0) rfl G0.out (by omega) (y := ⟨q, s.pName, s.pX, s.pY, s.pGain, s.pLow, s.pHigh, s.pUntil⟩) (u := .int .i64 (q)) rfl)
      have G1 := Lib.hid (get_set_self (y := (⟨q, s.pName, s.pX, s.pY, s.pGain, s.pLow, s.pHigh, s.pUntil⟩ : GStation)) G0.out)
      have U1 := Lib.hid (Upd.setCell U0.out (p := ⟨b, off + j * 8, none⟩) hLb hb (.int .i64 (q)))
      clear R0 G0 U0
      go_wp2_with fail
      refine (markText_any _ _ (by omega)).mono ?_
      rintro e w2 ⟨rfl, hbm1⟩
      have zz1 := hbm1.size
      have R2 := Lib.hid (OwnK.below R1.out (hbm1.mono (B' := B) (by first | omega | (simp; omega) | (simp [World.setCell]; omega))))
      have G2 := Lib.hid G1.out
      have U2 := Lib.hid (Upd.trans U1.out (Upd.of_below hbm1))
      have hBr1 : B ≤ w2.heap.size := by first | omega | (simp at zz1; omega) | (simp [World.setCell] at zz1; omega)
      clear hbm1 R1 G1 U1 c0 c1 c2 c3 c4 c5 c6 c7
      obtain ⟨-, -, hbz1, hce1, hfr1⟩ := OwnK.at R2.out G2.out
      have c1_0 : w2.cell? ⟨b, off + j * 8, none⟩ = some (.int .i64 q) := hce1 0 _ rfl
      have c1_1 : w2.cell? ⟨b, off + j * 8 + 1, none⟩ = some (.string s.pName) := hce1 1 _ rfl
      have c1_2 : w2.cell? ⟨b, off + j * 8 + 2, none⟩ = some (.int .i64 s.pX) := hce1 2 _ rfl
      have c1_3 : w2.cell? ⟨b, off + j * 8 + 3, none⟩ = some (.int .i64 s.pY) := hce1 3 _ rfl
      have c1_4 : w2.cell? ⟨b, off + j * 8 + 4, none⟩ = some (.int .i64 s.pGain) := hce1 4 _ rfl
      have c1_5 : w2.cell? ⟨b, off + j * 8 + 5, none⟩ = some (.int .i64 s.pLow) := hce1 5 _ rfl
      have c1_6 : w2.cell? ⟨b, off + j * 8 + 6, none⟩ = some (.int .i64 s.pHigh) := hce1 6 _ rfl
      have c1_7 : w2.cell? ⟨b, off + j * 8 + 7, none⟩ = some (.int .i64 s.pUntil) := hce1 7 _ rfl
      clear hce1
      have R3 := Lib.hid (OwnK.set encStation_len R2.out (m := 1) rfl G2.out (by omega) (y := ⟨q, mark (q + 1), s.pX, s.pY, s.pGain, s.pLow, s.pHigh, s.pUntil⟩) (u := .string (mark (q + 1))) rfl)
      have G3 := Lib.hid (get_set_self (y := (⟨q, mark (q + 1), s.pX, s.pY, s.pGain, s.pLow, s.pHigh, s.pUntil⟩ : GStation)) G2.out)
      have U3 := Lib.hid (Upd.setCell U2.out (p := ⟨b, off + j * 8 + 1, none⟩) hLb hb (.string (mark (q + 1))))
      clear R2 G2 U2
      have R4 := Lib.hid (OwnK.set encStation_len R3.out (m := 2) rfl G3.out (by omega) (y := ⟨q, mark (q + 1), q + 1 + 1, s.pY, s.pGain, s.pLow, s.pHigh, s.pUntil⟩) (u := .int .i64 (q + 1 + 1)) rfl)
      have G4 := Lib.hid (get_set_self (y := (⟨q, mark (q + 1), q + 1 + 1, s.pY, s.pGain, s.pLow, s.pHigh, s.pUntil⟩ : GStation)) G3.out)
      have U4 := Lib.hid (Upd.setCell U3.out (p := ⟨b, off + j * 8 + 2, none⟩) hLb hb (.int .i64 (q + 1 + 1)))
      clear R3 G3 U3
      have R5 := Lib.hid (OwnK.set encStation_len R4.out (m := 3) rfl G4.out (by omega) (y := ⟨q, mark (q + 1), q + 1 + 1, q + 1 + 1 + 1, s.pGain, s.pLow, s.pHigh, s.pUntil⟩) (u := .int .i64 (q + 1 + 1 + 1)) rfl)
      have G5 := Lib.hid (get_set_self (y := (⟨q, mark (q + 1), q + 1 + 1, q + 1 + 1 + 1, s.pGain, s.pLow, s.pHigh, s.pUntil⟩ : GStation)) G4.out)
      have U5 := Lib.hid (Upd.setCell U4.out (p := ⟨b, off + j * 8 + 3, none⟩) hLb hb (.int .i64 (q + 1 + 1 + 1)))
      clear R4 G4 U4
      have R6 := Lib.hid (OwnK.set encStation_len R5.out (m := 4) rfl G5.out (by omega) (y := ⟨q, mark (q + 1), q + 1 + 1, q + 1 + 1 + 1, q + 1 + 1 + 1 + 1, s.pLow, s.pHigh, s.pUntil⟩) (u := .int .i64 (q + 1 + 1 + 1 + 1)) rfl)
      have G6 := Lib.hid (get_set_self (y := (⟨q, mark (q + 1), q + 1 + 1, q + 1 + 1 + 1, q + 1 + 1 + 1 + 1, s.pLow, s.pHigh, s.pUntil⟩ : GStation)) G5.out)
      have U6 := Lib.hid (Upd.setCell U5.out (p := ⟨b, off + j * 8 + 4, none⟩) hLb hb (.int .i64 (q + 1 + 1 + 1 + 1)))
      clear R5 G5 U5
      have R7 := Lib.hid (OwnK.set encStation_len R6.out (m := 5) rfl G6.out (by omega) (y := ⟨q, mark (q + 1), q + 1 + 1, q + 1 + 1 + 1, q + 1 + 1 + 1 + 1, q + 1 + 1 + 1 + 1 + 1, s.pHigh, s.pUntil⟩) (u := .int .i64 (q + 1 + 1 + 1 + 1 + 1)) rfl)
      have G7 := Lib.hid (get_set_self (y := (⟨q, mark (q + 1), q + 1 + 1, q + 1 + 1 + 1, q + 1 + 1 + 1 + 1, q + 1 + 1 + 1 + 1 + 1, s.pHigh, s.pUntil⟩ : GStation)) G6.out)
      have U7 := Lib.hid (Upd.setCell U6.out (p := ⟨b, off + j * 8 + 5, none⟩) hLb hb (.int .i64 (q + 1 + 1 + 1 + 1 + 1)))
      clear R6 G6 U6
      have R8 := Lib.hid (OwnK.set encStation_len R7.out (m := 6) rfl G7.out (by omega) (y := ⟨q, mark (q + 1), q + 1 + 1, q + 1 + 1 + 1, q + 1 + 1 + 1 + 1, q + 1 + 1 + 1 + 1 + 1, q + 1 + 1 + 1 + 1 + 1 + 1, s.pUntil⟩) (u := .int .i64 (q + 1 + 1 + 1 + 1 + 1 + 1)) rfl)
      have G8 := Lib.hid (get_set_self (y := (⟨q, mark (q + 1), q + 1 + 1, q + 1 + 1 + 1, q + 1 + 1 + 1 + 1, q + 1 + 1 + 1 + 1 + 1, q + 1 + 1 + 1 + 1 + 1 + 1, s.pUntil⟩ : GStation)) G7.out)
      have U8 := Lib.hid (Upd.setCell U7.out (p := ⟨b, off + j * 8 + 6, none⟩) hLb hb (.int .i64 (q + 1 + 1 + 1 + 1 + 1 + 1)))
      clear R7 G7 U7
      have R9 := Lib.hid (OwnK.set encStation_len R8.out (m := 7) rfl G8.out (by omega) (y := ⟨q, mark (q + 1), q + 1 + 1, q + 1 + 1 + 1, q + 1 + 1 + 1 + 1, q + 1 + 1 + 1 + 1 + 1, q + 1 + 1 + 1 + 1 + 1 + 1, q + 1 + 1 + 1 + 1 + 1 + 1 + 1⟩) (u := .int .i64 (q + 1 + 1 + 1 + 1 + 1 + 1 + 1)) rfl)
      have G9 := Lib.hid (get_set_self (y := (⟨q, mark (q + 1), q + 1 + 1, q + 1 + 1 + 1, q + 1 + 1 + 1 + 1, q + 1 + 1 + 1 + 1 + 1, q + 1 + 1 + 1 + 1 + 1 + 1, q + 1 + 1 + 1 + 1 + 1 + 1 + 1⟩ : GStation)) G8.out)
      have U9 := Lib.hid (Upd.setCell U8.out (p := ⟨b, off + j * 8 + 7, none⟩) hLb hb (.int .i64 (q + 1 + 1 + 1 + 1 + 1 + 1 + 1)))
      clear R8 G8 U8
      go_wp2
      clear hfr hcell
      go_roundw
      case rel =>
        refine ⟨j + 1, ((((((((cs.set j ⟨q, s.pName, s.pX, s.pY, s.pGain, s.pLow, s.pHigh, s.pUntil⟩).set j ⟨q, mark (q + 1), s.pX, s.pY, s.pGain, s.pLow, s.pHigh, s.pUntil⟩).set j ⟨q, mark (q + 1), q + 1 + 1, s.pY, s.pGain, s.pLow, s.pHigh, s.pUntil⟩).set j ⟨q, mark (q + 1), q + 1 + 1, q + 1 + 1 + 1, s.pGain, s.pLow, s.pHigh, s.pUntil⟩).set j ⟨q, mark (q + 1), q + 1 + 1, q + 1 + 1 + 1, q + 1 + 1 + 1 + 1, s.pLow, s.pHigh, s.pUntil⟩).set j ⟨q, mark (q + 1), q + 1 + 1, q + 1 + 1 + 1, q + 1 + 1 + 1 + 1, q + 1 + 1 + 1 + 1 + 1, s.pHigh, s.pUntil⟩).set j ⟨q, mark (q + 1), q + 1 + 1, q + 1 + 1 + 1, q + 1 + 1 + 1 + 1, q + 1 + 1 + 1 + 1 + 1, q + 1 + 1 + 1 + 1 + 1 + 1, s.pUntil⟩).set j ⟨q, mark (q + 1), q + 1 + 1, q + 1 + 1 + 1, q + 1 + 1 + 1 + 1, q + 1 + 1 + 1 + 1 + 1, q + 1 + 1 + 1 + 1 + 1 + 1, q + 1 + 1 + 1 + 1 + 1 + 1 + 1⟩), by omega, by go_num, (by have e := HQ.out; simp only [Value.int.injEq, true_and]; omega), by simp [hl'.out], ?_, R9.out, U9.out⟩
        intro i hi
        by_cases hij : j = i
        · subst hij; rw [HQ.out]; exact G9.out
        · simp only [List.getElem?_set_ne hij]; exact HM.out i (by omega)
      case measure => simp [intOf]; omega
    · obtain rfl : j = ss.length := by omega
      have hcm := eq_marksStation hl hm
      have HC := Lib.hid hcm
      clear hcm hl hm
      go_wp2
      go_ret
      refine ⟨rfl, ?_, hbl⟩
      rw [← HC.out]; exact hown
set_option maxRecDepth 100000 in
set_option maxHeartbeats 2000000 in
theorem heldStationS_any (n : Nat) (v : Value) (k : Int) (w : World) (B : Nat) (h : StationL w B v (marksStation k n)) (hB : B ≤ w.heap.size) (hn : n ≤ 1048576) (h0 : 0 ≤ k) (h1 : k ≤ 100000000000) :
    Calls Try.prog 58 #[v, .int .i64 k] w fun e w' => e = .returned (.int .i64 (k + 8 * n)) ∧ Below w.heap.size w w' := by
  obtain ⟨ao, cap, rfl, hcap, hmax, -, hc⟩ := h
  rw [marksStation_len] at hcap ⊢
  unfold maxLen at hmax
  go_enter Try.func58, Try.ntmps58
  go_wp2
  go_loopw [1, 5] (fun m i wr => ∃ (j : Nat), j ≤ n ∧ i = .int .i64 j ∧ m = .int .i64 (k + 8 * j) ∧ Below w.heap.size w wr)
    (fun _ i _ => n - (intOf i).toNat)
  case atStart => exact ⟨0, Nat.zero_le _, rfl, by simp, Below.refl _ _⟩
  case round =>
    obtain ⟨j, hj, rfl, rfl, hbl⟩ := hrel
    have hsz := hbl.size
    by_cases hlt : j < n
    · obtain ⟨b, off, rfl, hb, hcell⟩ := hc j _ (marksStation_get hlt)
      clear hc
      generalize hq : (k + 8 * (j : Int)) = q at *
      have HQ := Lib.hid hq
      have hq0 : 0 ≤ q := by omega
      have hq1 : q ≤ 101000000000 := by omega
      have hi0 : (0 : Int) ≤ (j : Int) := by omega
      have hi1 : (j : Int) < (n : Int) := by omega
      clear hq
      have c0 : wr.cell? ⟨b, off + j * 8, none⟩ = some (.int .i64 (q)) := cellOf hbl (by omega) (hcell 0 _ rfl)
      have c1 : wr.cell? ⟨b, off + j * 8 + 1, none⟩ = some (.string (mark (q + 1))) := cellOf hbl (by omega) (hcell 1 _ rfl)
      have c2 : wr.cell? ⟨b, off + j * 8 + 2, none⟩ = some (.int .i64 (q + 1 + 1)) := cellOf hbl (by omega) (hcell 2 _ rfl)
      have c3 : wr.cell? ⟨b, off + j * 8 + 3, none⟩ = some (.int .i64 (q + 1 + 1 + 1)) := cellOf hbl (by omega) (hcell 3 _ rfl)
      have c4 : wr.cell? ⟨b, off + j * 8 + 4, none⟩ = some (.int .i64 (q + 1 + 1 + 1 + 1)) := cellOf hbl (by omega) (hcell 4 _ rfl)
      have c5 : wr.cell? ⟨b, off + j * 8 + 5, none⟩ = some (.int .i64 (q + 1 + 1 + 1 + 1 + 1)) := cellOf hbl (by omega) (hcell 5 _ rfl)
      have c6 : wr.cell? ⟨b, off + j * 8 + 6, none⟩ = some (.int .i64 (q + 1 + 1 + 1 + 1 + 1 + 1)) := cellOf hbl (by omega) (hcell 6 _ rfl)
      have c7 : wr.cell? ⟨b, off + j * 8 + 7, none⟩ = some (.int .i64 (q + 1 + 1 + 1 + 1 + 1 + 1 + 1)) := cellOf hbl (by omega) (hcell 7 _ rfl)
      have hbs0 : b < wr.heap.size := by omega
      clear hcell
      go_wp2
      go_region_held3 (fun w' => Below wr.heap.size wr w' ∧ w'.cell? ⟨b, off + j * 8 + 1, none⟩ = some (.string (mark (q + 1))))
        (first
          | exact ⟨(Below.refl _ _).drew, c1⟩
          | exact ⟨(Below.refl wr.heap.size wr).drew.trans hb1, cellOf hb1 hbs0 c1⟩)
        (first | (go_at_call 102; refine (markText_any _ _ (by omega)).mono ?_; rintro e w2 ⟨rfl, hb1⟩))
      have q1 := (Below.refl wr.heap.size wr).drew.trans hb1
      have hqz1 := q1.size
      have hbs1 : b < w2.heap.size := by omega
      have c1_0 : w2.cell? ⟨b, off + j * 8, none⟩ = some (.int .i64 (q)) := cellOf q1 hbs0 c0
      have c1_1 : w2.cell? ⟨b, off + j * 8 + 1, none⟩ = some (.string (mark (q + 1))) := cellOf q1 hbs0 c1
      have c1_2 : w2.cell? ⟨b, off + j * 8 + 2, none⟩ = some (.int .i64 (q + 1 + 1)) := cellOf q1 hbs0 c2
      have c1_3 : w2.cell? ⟨b, off + j * 8 + 3, none⟩ = some (.int .i64 (q + 1 + 1 + 1)) := cellOf q1 hbs0 c3
      have c1_4 : w2.cell? ⟨b, off + j * 8 + 4, none⟩ = some (.int .i64 (q + 1 + 1 + 1 + 1)) := cellOf q1 hbs0 c4
      have c1_5 : w2.cell? ⟨b, off + j * 8 + 5, none⟩ = some (.int .i64 (q + 1 + 1 + 1 + 1 + 1)) := cellOf q1 hbs0 c5
      have c1_6 : w2.cell? ⟨b, off + j * 8 + 6, none⟩ = some (.int .i64 (q + 1 + 1 + 1 + 1 + 1 + 1)) := cellOf q1 hbs0 c6
      have c1_7 : w2.cell? ⟨b, off + j * 8 + 7, none⟩ = some (.int .i64 (q + 1 + 1 + 1 + 1 + 1 + 1 + 1)) := cellOf q1 hbs0 c7
      have hbl1 := hbl.trans (q1.mono (B' := w.heap.size) (by omega))
      clear c0 c1 c2 c3 c4 c5 c6 c7 q1 hb1 hbl
      go_wp2
      go_roundw
      case rel => exact ⟨j + 1, by omega, by go_num, (by have e := HQ.out; simp only [Value.int.injEq, true_and]; omega), hbl1⟩
      case measure => simp [intOf]; omega
    · obtain rfl : j = n := by omega
      go_wp2
      go_ret
      exact ⟨rfl, hbl⟩
theorem oneStation (xs : List GStation) : ∀ u ∈ xs.flatMap encStation, u.oneCell' = true := by
  intro u hu
  obtain ⟨x, _, hx⟩ := List.mem_flatMap.1 hu
  simp only [encStation, List.mem_cons, List.not_mem_nil, or_false] at hx
  rcases hx with rfl | rfl | rfl | rfl | rfl | rfl | rfl | rfl <;> rfl
theorem cloneStation (xs : List GStation) (v : Value) (w : World) (B : Nat) (h : StationL w B v xs) (hB : B ≤ w.heap.size) (hn : xs.length ≤ 1048576) :
    Calls Try.prog 67 #[v] w fun e w' => ∃ v', e = .returned v' ∧ StationO w' w.heap.size w'.heap.size v' xs ∧ Below w.heap.size w w' := by
  obtain ⟨ti, hi, hz0, hz1, hz2⟩ := info_parts info_Station
  have hrow := rowK_empty w (base := w.heap.size) 36 8 (Nat.le_refl _)
  have hnil := fun (W : World) (a : Option Addr) (l c : Nat) => Lib.run_eql_slice_nil (P := Try.prog) W 24 36 a l c 0 0 Try.underlying24
  rcases h.split encStation_len (by omega) with ⟨rfl, rfl⟩ | ⟨a, cap, rfl, _, _, hc⟩
  · go_enter Try.func67, Try.ntmps67
    go_wp2
    go_ret
    exact ⟨_, rfl, OwnK.of_row encStation_len (by omega) (World.ownsRow_nil _ _ 36 8), Below.refl _ _⟩
  · have HC := Lib.hid (fun j u (hu : (xs.flatMap encStation)[j]? = some u) => (((Below.refl B w).alloc hB (.cells #[] 36)).cell (hc j u hu).1).trans (hc j u hu).2)
    have H1 := Lib.hid (oneStation xs)
    have HL : Hid ((xs.flatMap encStation).length = xs.length * 8) := Lib.hid (flat_len encStation_len xs)
    clear hc h
    go_enter Try.func67, Try.ntmps67
    go_wp2_with (at_builtin; refine wpList_append_own _ rfl _ _ 24 rfl w.heap.size 36 ti (.agg #[.int .i64 0, .string .empty, .int .i64 0, .int .i64 0, .int .i64 0, .int .i64 0, .int .i64 0, .int .i64 0]) 8 72 Try.underlying24 hi hz0 hz1 hz2 rfl (by decide) _ 0 [] rfl hrow a xs.length _ (xs.flatMap encStation) rfl HL.out HC.out H1.out (by unfold maxLen; omega) (by omega) (by simp) ?_; intro v' w1 hown hg _)
    go_ret
    have ho : w1.ownsRow w.heap.size 36 8 v' xs.length (xs.flatMap encStation) := by simpa using hown
    exact ⟨_, rfl, OwnK.of_row encStation_len (by omega) ho, below_appK hg (by intro g e; cases e; exact Nat.le_refl _)⟩
def wfStation (s : GStation) : Prop := I64 s.pId ∧ (s.pName.size : Int) ≤ 9223372036854775807 ∧ I64 s.pX ∧ I64 s.pY ∧ I64 s.pGain ∧ I64 s.pLow ∧ I64 s.pHigh ∧ I64 s.pUntil
set_option maxRecDepth 100000 in
theorem cells_Station {H : Type} {enc : TypeId × Value → H} {w : World} (n : Nat) (cs : List Value) (x : DataW H × List MemPlace) (h : DataW.trod enc Try.prog w 0 (fun _ => true) true n 57 cs = some x) : ∃ s, cs = encStation s ∧ wfStation s := by
  obtain ⟨ys, m, _, _, hlen, hyl, hf⟩ := DataW.trod_struct Try.underlying57 h
  have hlen : cs.length = 8 := hlen.trans (by kernel_rfl)
  obtain ⟨c0, y0, e0, t0⟩ := field_cell (by kernel_rfl) hlen hyl hf 0 _ rfl
  obtain ⟨a0, g0, _, b0⟩ := DataW.trod_int Try.underlying3 t0
  simp only [List.cons.injEq, and_true] at g0
  subst g0
  obtain ⟨c1, y1, e1, t1⟩ := field_cell (by kernel_rfl) hlen hyl hf 1 _ rfl
  obtain ⟨a1, g1, _, b1⟩ := DataW.trod_string Try.underlying9 t1
  simp only [List.cons.injEq, and_true] at g1
  subst g1
  obtain ⟨c2, y2, e2, t2⟩ := field_cell (by kernel_rfl) hlen hyl hf 2 _ rfl
  obtain ⟨a2, g2, _, b2⟩ := DataW.trod_int Try.underlying3 t2
  simp only [List.cons.injEq, and_true] at g2
  subst g2
  obtain ⟨c3, y3, e3, t3⟩ := field_cell (by kernel_rfl) hlen hyl hf 3 _ rfl
  obtain ⟨a3, g3, _, b3⟩ := DataW.trod_int Try.underlying3 t3
  simp only [List.cons.injEq, and_true] at g3
  subst g3
  obtain ⟨c4, y4, e4, t4⟩ := field_cell (by kernel_rfl) hlen hyl hf 4 _ rfl
  obtain ⟨a4, g4, _, b4⟩ := DataW.trod_int Try.underlying3 t4
  simp only [List.cons.injEq, and_true] at g4
  subst g4
  obtain ⟨c5, y5, e5, t5⟩ := field_cell (by kernel_rfl) hlen hyl hf 5 _ rfl
  obtain ⟨a5, g5, _, b5⟩ := DataW.trod_int Try.underlying3 t5
  simp only [List.cons.injEq, and_true] at g5
  subst g5
  obtain ⟨c6, y6, e6, t6⟩ := field_cell (by kernel_rfl) hlen hyl hf 6 _ rfl
  obtain ⟨a6, g6, _, b6⟩ := DataW.trod_int Try.underlying3 t6
  simp only [List.cons.injEq, and_true] at g6
  subst g6
  obtain ⟨c7, y7, e7, t7⟩ := field_cell (by kernel_rfl) hlen hyl hf 7 _ rfl
  obtain ⟨a7, g7, _, b7⟩ := DataW.trod_int Try.underlying3 t7
  simp only [List.cons.injEq, and_true] at g7
  subst g7
  refine ⟨⟨a0, a1, a2, a3, a4, a5, a6, a7⟩, ?_, bounds_i64 b0, (by unfold maxLen at b1; show (a1.size : Int) ≤ 9223372036854775807; omega), bounds_i64 b2, bounds_i64 b3, bounds_i64 b4, bounds_i64 b5, bounds_i64 b6, bounds_i64 b7⟩
  apply List.ext_getElem?
  intro i
  match i with
  | 0 => exact e0
  | 1 => exact e1
  | 2 => exact e2
  | 3 => exact e3
  | 4 => exact e4
  | 5 => exact e5
  | 6 => exact e6
  | 7 => exact e7
  | i + 8 => rw [List.getElem?_eq_none (by omega), List.getElem?_eq_none (by rw [encStation_len]; omega)]
set_option maxRecDepth 100000 in
theorem open_StationS {H : Type} {enc : TypeId × Value → H} {w : World} {base : Nat} {v : Value} {d : DataW H} {ps : List MemPlace}
    (hval : Value.okWide Try.prog w .any base 61 v) (hd : DataW.Trod enc Try.prog w 0 (fun _ => true) true 61 v d ps) : ∃ xs : List GStation, StationL w w.heap.size v xs ∧ ∀ x ∈ xs, wfStation x :=
  rows_of encStation 8 encStation_len (by omega) wfStation Try.underlying61 (by kernel_rfl) (fun n cs x h => cells_Station n cs x h) hval hd
/-- One of them, by value. -/
def StationVL (_ : World) (_ : Nat) (v : Value) (s : GStation) : Prop := v = .agg #[.int .i64 s.pId, .string s.pName, .int .i64 s.pX, .int .i64 s.pY, .int .i64 s.pGain, .int .i64 s.pLow, .int .i64 s.pHigh, .int .i64 s.pUntil]
def StationVO (_ : World) (_ _ : Nat) (v : Value) (s : GStation) : Prop := v = .agg #[.int .i64 s.pId, .string s.pName, .int .i64 s.pX, .int .i64 s.pY, .int .i64 s.pGain, .int .i64 s.pLow, .int .i64 s.pHigh, .int .i64 s.pUntil]
theorem StationVO.lst {w : World} {L B : Nat} {v : Value} {s : GStation} (h : StationVO w L B v s) : StationVL w B v s := h
theorem StationVL.below {w w' : World} {B : Nat} {v : Value} {s : GStation} (h : StationVL w B v s) (_ : Below B w w') : StationVL w' B v s := h
theorem StationVL.mono {w : World} {B B' : Nat} {v : Value} {s : GStation} (h : StationVL w B v s) (_ : B ≤ B') : StationVL w B' v s := h
theorem StationVO.below {w w' : World} {L B : Nat} {v : Value} {s : GStation} (h : StationVO w L B v s) (_ : Below B w w') : StationVO w' L B v s := h
theorem StationVO.mono {w : World} {L B L' B' : Nat} {v : Value} {s : GStation} (h : StationVO w L B v s) (_ : L' ≤ L) (_ : B ≤ B') : StationVO w L' B' v s := h
theorem StationVO.high {w w' : World} {L B L' U' : Nat} {v : Value} {s : GStation} (h : StationVO w L B v s) (_ : Upd L' U' w w') (_ : U' ≤ L) : StationVO w' L B v s := h
theorem StationVL.form {w : World} {B : Nat} {v : Value} {s : GStation} (h : StationVL w B v s) : v = .agg #[.int .i64 s.pId, .string s.pName, .int .i64 s.pX, .int .i64 s.pY, .int .i64 s.pGain, .int .i64 s.pLow, .int .i64 s.pHigh, .int .i64 s.pUntil] := h
theorem StationVO.form {w : World} {L B : Nat} {v : Value} {s : GStation} (h : StationVO w L B v s) : v = .agg #[.int .i64 s.pId, .string s.pName, .int .i64 s.pX, .int .i64 s.pY, .int .i64 s.pGain, .int .i64 s.pLow, .int .i64 s.pHigh, .int .i64 s.pUntil] := h
set_option maxRecDepth 100000 in
theorem open_Station {H : Type} {enc : TypeId × Value → H} {w : World} {base : Nat} {v : Value} {d : DataW H} {ps : List MemPlace}
    (hval : Value.okWide Try.prog w .any base 57 v) (hd : DataW.Trod enc Try.prog w 0 (fun _ => true) true 57 v d ps) : ∃ s : GStation, StationVL w w.heap.size v s ∧ wfStation s := by
  obtain ⟨cs, rfl, hsz⟩ := okWide_struct Try.underlying57 hval
  obtain ⟨fuel, hf⟩ := hd
  obtain ⟨s, h, hw⟩ := cells_Station _ _ _ hf
  refine ⟨s, ?_, hw⟩
  obtain ⟨l⟩ := cs
  have h : l = encStation s := h
  subst h
  rfl
theorem sz_Station (s : GStation) (v : Value) (left : Int) (w : World) (B : Nat) (h : StationVL w B v s) (_ : B ≤ w.heap.size) (h0 : 0 ≤ left) (h1 : left ≤ 1048576) (ht : (sz1Station s : Int) ≤ left) :
    Calls Try.prog 49 #[v, .int .i64 left] w fun e w' => e = .returned (.int .i64 (left - sz1Station s)) ∧ Below w.heap.size w w' := by
  obtain rfl := h.form
  exact szStation_le0 s left w h0 h1 ht
theorem szgt_Station (s : GStation) (v : Value) (left : Int) (w : World) (B : Nat) (h : StationVL w B v s) (_ : B ≤ w.heap.size) (h0 : 0 ≤ left) (h1 : left ≤ 1048576) (ht : left < (sz1Station s : Int)) (hw : wfStation s) :
    Calls Try.prog 49 #[v, .int .i64 left] w fun e w' => e = .returned (.int .i64 (-1)) ∧ Below w.heap.size w w' := by
  obtain rfl := h.form
  exact szStation_gt0 s left w h0 h1 hw.2.1 ht
theorem to_Station (s : GStation) (v : Value) (w : World) (B : Nat) (h : StationVL w B v s) (_ : B ≤ w.heap.size) (_ : sz1Station s ≤ 1048576) :
    Calls Try.prog 50 #[v] w fun e w' => ∃ v', e = .returned v' ∧ StationVO w' w.heap.size w'.heap.size v' s ∧ Below w.heap.size w w' := by
  obtain rfl := h.form
  exact (toStation_any s w).mono fun e w' ⟨h1, h2⟩ => ⟨_, h1, rfl, h2⟩
theorem eq_Station (s : GStation) (v v2 : Value) (w : World) (B : Nat) (h : StationVL w B v s) (h2 : StationVL w B v2 s) (_ : B ≤ w.heap.size) :
    Calls Try.prog 101 #[v, v2] w fun e w' => e = .returned (.bool true) ∧ Below w.heap.size w w' := by
  obtain rfl := h.form
  obtain rfl := h2.form
  exact eqStation_any s w
theorem sz_StationS (xs : List GStation) (v : Value) (left : Int) (w : World) (B : Nat) (h : StationL w B v xs) (hB : B ≤ w.heap.size) (h0 : 0 ≤ left) (h1 : left ≤ 1048576) (ht : (szsStation xs : Int) ≤ left) :
    Calls Try.prog 51 #[v, .int .i64 left] w fun e w' => e = .returned (.int .i64 (left - szsStation xs)) ∧ Below w.heap.size w w' := szStationS_le0 xs v left w B h hB h0 h1 ht
theorem szgt_StationS (xs : List GStation) (v : Value) (left : Int) (w : World) (B : Nat) (h : StationL w B v xs) (hB : B ≤ w.heap.size) (h0 : 0 ≤ left) (h1 : left ≤ 1048576) (ht : left < (szsStation xs : Int)) (hw : ∀ s ∈ xs, wfStation s) :
    Calls Try.prog 51 #[v, .int .i64 left] w fun e w' => e = .returned (.int .i64 (-1)) ∧ Below w.heap.size w w' := szStationS_gt0 xs v left w B h hB h0 h1 (fun s hs => (hw s hs).2.1) ht
theorem to_StationS (xs : List GStation) (v : Value) (w : World) (B : Nat) (h : StationL w B v xs) (hB : B ≤ w.heap.size) (hn : szsStation xs ≤ 1048576) :
    Calls Try.prog 52 #[v] w fun e w' => ∃ v', e = .returned v' ∧ StationO w' w.heap.size w'.heap.size v' xs ∧ Below w.heap.size w w' := toStationS_any xs v w B h hB (Nat.le_trans (szsStation_len xs) hn)
theorem eq_StationS (xs : List GStation) (v v2 : Value) (w : World) (B : Nat) (h : StationL w B v xs) (h2 : StationL w B v2 xs) (hB : B ≤ w.heap.size) :
    Calls Try.prog 53 #[v, v2] w fun e w' => e = .returned (.bool true) ∧ Below w.heap.size w w' := eqStationS_any xs v v2 w B h h2 hB
theorem mark_StationS (xs : List GStation) (v : Value) (k : Int) (w : World) (L B : Nat) (h : StationO w L B v xs) (hB : B ≤ w.heap.size) (hn : szsStation xs ≤ 1048576) (h0 : 0 ≤ k) (h1 : k ≤ 100000000000) :
    Calls Try.prog 55 #[v, .int .i64 k] w fun e w' => e = .returned (.int .i64 (k + 8 * xs.length)) ∧ StationO w' L B v (marksStation k xs.length) ∧ Upd L B w w' := markStationS_any xs v k w L B h hB (Nat.le_trans (szsStation_len xs) hn) h0 h1
theorem held_StationS (xs : List GStation) (v : Value) (k : Int) (w : World) (B : Nat) (h : StationL w B v (marksStation k xs.length)) (hB : B ≤ w.heap.size) (hn : szsStation xs ≤ 1048576) (h0 : 0 ≤ k) (h1 : k ≤ 100000000000) :
    Calls Try.prog 58 #[v, .int .i64 k] w fun e w' => e = .returned (.int .i64 (k + 8 * xs.length)) ∧ Below w.heap.size w w' := heldStationS_any xs.length v k w B h hB (Nat.le_trans (szsStation_len xs) hn) h0 h1
end Go.Proofs.Ytjiaejempfhheaa
