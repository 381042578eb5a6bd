/- Contracts of the laws' helpers on slices of strings. -/
import Derived.Test.YtkjiejobiihipaaBase
namespace Go.Proofs.Ytkjiejobiihipaa
open Go.ChangeShapes Go.WideShapes Go.ChangeAt Go.RowKit Go.ChangeMaps

def total (ss : List ByteArray) : Int := ss.length + (ss.map (fun s => (s.size : Int))).sum
def sizes (ss : List ByteArray) : Int := (ss.map (fun s => (s.size : Int))).sum
theorem sizes_nonneg (ss : List ByteArray) : 0 ≤ sizes ss := by
  unfold sizes
  induction ss with
  | nil => simp
  | cons s r ih => simp; omega
theorem sizes_take (ss : List ByteArray) (k : Nat) : sizes (ss.take k) ≤ sizes ss := by
  have h : sizes ss = sizes (ss.take k) + sizes (ss.drop k) := by
    unfold sizes
    rw [← List.sum_append, ← List.map_append, List.take_append_drop]
  have := sizes_nonneg (ss.drop k)
  omega
theorem sizes_succ (ss : List ByteArray) (k : Nat) {s : ByteArray} (h : ss[k]? = some s) : sizes (ss.take (k + 1)) = sizes (ss.take k) + (s.size : Int) := by
  unfold sizes
  rw [List.take_add_one, h]
  simp
theorem szStringS_le (ss : List ByteArray) (v : Value) (left : Int) (w : World) (B : Nat) (h : Lst Value.string w B v ss)
    (h0 : 0 ≤ left) (h1 : left ≤ 1048576) (ht : (ss.length : Int) + sizes ss ≤ left) :
    Calls Try.prog 21 #[v, .int .i64 left] w fun e w' => e = .returned (.int .i64 (left - ss.length - sizes ss)) ∧ w' = w := by
  obtain ⟨ao, cap, rfl, hcap, hmax, hc⟩ := h
  have hss := sizes_nonneg ss
  have hn : (ss.length : Int) ≤ 1048576 := by omega
  go_enter Try.func21, Try.ntmps21
  go_wp2
  go_loop [1, 5] (fun l i => ∃ k : Nat, k ≤ ss.length ∧ i = .int .i64 k ∧ l = .int .i64 (left - ss.length - sizes (ss.take k))) (fun _ i => ss.length - (intOf i).toNat)
  case atStart => exact ⟨0, Nat.zero_le _, rfl, by simp [sizes]⟩
  case round =>
    obtain ⟨k, hk, rfl, rfl⟩ := hrel
    have hq := sizes_nonneg (ss.take k)
    have hq2 := sizes_take ss k
    by_cases hlt : k < ss.length
    · obtain ⟨s, hs⟩ := get_of_lt hlt
      obtain ⟨b, off, rfl, hb, hcell⟩ := hc k s hs
      have hq3 := sizes_take ss (k + 1)
      have hsu := sizes_succ ss k hs
      have hs0 : 0 ≤ (s.size : Int) := by omega
      have HS : Hid (sizes (ss.take (k + 1)) = sizes (ss.take k) + (s.size : Int)) := hsu
      have hs1 : (s.size : Int) ≤ 1048576 := by omega
      have hs2 : 0 ≤ left - ss.length - sizes (ss.take k) - (s.size : Int) := by omega
      clear hsu hs
      go_wp2
      go_round
      case rel => exact ⟨k + 1, by omega, by go_num, by rw [HS.out]; go_num⟩
      case measure => simp [intOf]; omega
    · go_wp2
      go_ret
      exact ⟨ret_int (by rw [take_all hlt]), rfl⟩

theorem szStringS_gt (ss : List ByteArray) (v : Value) (left : Int) (w : World) (B : Nat) (h : Lst Value.string w B v ss) (hm : ∀ s ∈ ss, s.size ≤ maxLen)
    (h0 : 0 ≤ left) (h1 : left ≤ 1048576) (ht : left < (ss.length : Int) + sizes ss) :
    Calls Try.prog 21 #[v, .int .i64 left] w fun e w' => e = .returned (.int .i64 (-1)) ∧ w = w' := by
  obtain ⟨ao, cap, rfl, hcap, hmax, hc⟩ := h
  have hss := sizes_nonneg ss
  unfold maxLen at hmax hm
  by_cases hn : left < (ss.length : Int)
  · go_enter Try.func21, Try.ntmps21
    go_wp2
    go_ret
    exact ⟨rfl, rfl⟩
  · go_enter Try.func21, Try.ntmps21
    go_wp2
    go_loop [1, 5] (fun l i => ∃ k : Nat, k ≤ ss.length ∧ i = .int .i64 k ∧ l = .int .i64 (left - ss.length - sizes (ss.take k)) ∧ 0 ≤ left - ss.length - sizes (ss.take k)) (fun _ i => ss.length - (intOf i).toNat)
    case atStart => exact ⟨0, Nat.zero_le _, rfl, by simp [sizes], by simp [sizes]; omega⟩
    case round =>
      obtain ⟨k, hk, rfl, rfl, hge⟩ := hrel
      have hq := sizes_nonneg (ss.take k)
      by_cases hlt : k < ss.length
      · obtain ⟨s, hs⟩ := get_of_lt hlt
        obtain ⟨b, off, rfl, hb, hcell⟩ := hc k s hs
        have hms := hm s (List.mem_of_getElem? hs)
        have hsu := sizes_succ ss k hs
        have hs0 : 0 ≤ (s.size : Int) := by omega
        have HS : Hid (sizes (ss.take (k + 1)) = sizes (ss.take k) + (s.size : Int)) := hsu
        by_cases hbig : left - ss.length - sizes (ss.take k) - (s.size : Int) < 0
        · clear hsu hs hc hm
          go_wp2
          go_ret
          exact ⟨rfl, rfl⟩
        · clear hsu hs hc hm
          go_wp2
          go_round
          case rel => exact ⟨k + 1, by omega, by go_num, by rw [HS.out]; go_num, by rw [HS.out]; omega⟩
          case measure => simp [intOf]; omega
      · rw [take_all hlt] at hge
        omega

theorem infoString : (Try.prog.info? 9).map (fun i => (i.zero, i.size, i.bytes)) = some (some (.string .empty), 1, 16) := by kernel_rfl

theorem toStringS_any (ss : List ByteArray) (v : Value) (w : World) (B : Nat) (h : Lst Value.string w B v ss) (hB : B ≤ w.heap.size) (hn : ss.length ≤ 1048576) :
    Calls Try.prog 22 #[v] w fun e w' => ∃ v', e = .returned v' ∧ w'.ownsRow w.heap.size 9 1 v' ss.length (ss.map Value.string) ∧ Below w.heap.size w w' := by
  obtain ⟨ao, cap, rfl, hcap, hmax, hc⟩ := h
  obtain ⟨ti, hi, hz0, hz1, hz2⟩ := info_parts infoString
  have hnm : ss.length ≤ maxLen := by unfold maxLen; omega
  go_enter Try.func22, Try.ntmps22
  go_wp2_with (at_make; refine wpList_make_full _ rfl _ _ 26 rfl w.heap.size 9 ti (.string .empty) 1 Try.underlying26 hi hz0 hz1 .i64 .i64 _ _ ss.length rfl rfl rfl rfl (by rw [hz2]; omega) hnm (Nat.le_refl _) ?_; intro w1 hown hgrow)
  have hb1 : Below w.heap.size w w1 := (Below.refl _ _).grown hgrow (Nat.le_refl _) (by simp)
  go_loopw [4] (fun i wr => ∃ (k : Nat) (cs : List Value), k ≤ ss.length ∧ i = .int .i64 k ∧ wr.ownsRow w.heap.size 9 1 (.slice (some ⟨w.heap.size, 0, none⟩) ss.length ss.length) ss.length cs ∧ cs.take k = (ss.take k).map Value.string ∧ Below w.heap.size w wr)
    (fun i _ => ss.length - (intOf i).toNat)
  case atStart => exact ⟨0, _, Nat.zero_le _, rfl, hown, rfl, hb1⟩
  case round =>
    obtain ⟨k, cs, hk, rfl, hrow, hcs, hbl⟩ := hrel
    by_cases hlt : k < ss.length
    · obtain ⟨s, hs⟩ := get_of_lt hlt
      obtain ⟨b, off, rfl, hb, hcell⟩ := hc k s hs
      have hcell' := cellOf hbl (by omega) hcell
      have hl := hrow.1
      obtain ⟨u, hu⟩ : ∃ u, cs[k]? = some u := get_of_lt (by omega)
      have hc2 : wr.cell? ⟨w.heap.size, k, none⟩ = some u := (hrow.cellAt k (by omega)).trans hu
      have hf2 := hrow.frozenAt k
      have HS := Lib.hid hs
      have HU := Lib.hid hu
      have HC := Lib.hid hcs
      clear hs hu hcs hcell
      go_wp2
      go_roundw
      case rel =>
        refine ⟨k + 1, cs.set k (.string s), by omega, by go_num, (hrow.stored k _).1, ?_, hbl.setCell (p := ⟨w.heap.size, k, none⟩) (Nat.le_refl _) _⟩
        rw [take_snoc HS.out, take_snoc (l := cs.set k (.string s)) (x := .string s) (by rw [List.getElem?_set_self]; omega), List.take_set_of_le (by omega), HC.out]
        simp
      case measure => simp [intOf]; omega
    · go_wp2
      go_ret
      refine ⟨_, rfl, ?_, hbl⟩
      have hl := hrow.1
      rw [take_all hlt, take_all (by omega)] at hcs
      rw [← hcs]
      exact hrow

theorem eqStringS_len (ss ts : List ByteArray) (v v2 : Value) (w : World) (B : Nat) (h : Lst Value.string w B v ss) (h2 : Lst Value.string w B v2 ts) (hne : ss.length ≠ ts.length) :
    Calls Try.prog 18 #[v, v2] w fun e w' => e = .returned (.bool false) ∧ Below w.heap.size w w' := by
  obtain ⟨ao, cap, rfl, hcap, hmax, hc⟩ := h
  obtain ⟨ao2, cap2, rfl, hcap2, hmax2, hc2⟩ := h2
  have h1 : ((ss.length : Int) == (ts.length : Int)) = false := by simp; omega
  have h3 : ((ss.length : Int) != (ts.length : Int)) = true := by simp; omega
  go_enter Try.func18, Try.ntmps18
  go_wp2
  go_ret
  exact ⟨rfl, Below.refl _ _⟩

theorem eqStringS_any (ss ts : List ByteArray) (v v2 : Value) (w : World) (B : Nat) (h : Lst Value.string w B v ss) (h2 : Lst Value.string w B v2 ts) (hB : B ≤ w.heap.size) (hl : ts.length = ss.length) :
    Calls Try.prog 18 #[v, v2] w fun e w' => e = .returned (.bool (decide (ss = ts))) ∧ Below w.heap.size w w' := by
  obtain ⟨ao, cap, rfl, hcap, hmax, hc⟩ := h
  obtain ⟨ao2, cap2, rfl, hcap2, hmax2, hc2⟩ := h2
  unfold maxLen at hmax
  rw [hl]
  rw [hl] at hcap2
  have HL := Lib.hid hl
  clear hl
  go_enter Try.func18, Try.ntmps18
  go_wp2
  go_loopw [5] (fun i wr => ∃ (k : Nat), k ≤ ss.length ∧ i = .int .i64 k ∧ ss.take k = ts.take k ∧ Below w.heap.size w wr)
    (fun i _ => ss.length - (intOf i).toNat)
  case atStart => exact ⟨0, Nat.zero_le _, rfl, rfl, Below.refl _ _⟩
  case round =>
    obtain ⟨k, hk, rfl, ht, hbl⟩ := hrel
    by_cases hlt : k < ss.length
    · obtain ⟨s, hs⟩ := get_of_lt hlt
      obtain ⟨t, ht1⟩ := get_of_lt (l := ts) (k := k) (by rw [HL.out]; exact hlt)
      obtain ⟨b, off, rfl, hb, hcell⟩ := hc k s hs
      obtain ⟨b2, off2, rfl, hb2, hcell2⟩ := hc2 k t ht1
      have hcell' := cellOf hbl (by omega) hcell
      have hcell2' := cellOf hbl (by omega) hcell2
      have HS := Lib.hid hs
      have HT := Lib.hid ht1
      have HK := Lib.hid ht
      clear hs ht1 hcell hcell2 ht
      have hi0 : (0 : Int) ≤ (k : Int) := by omega
      have hi1 : (k : Int) < (ss.length : Int) := by omega
      go_wp2
      by_cases hst : s = t
      · subst hst
        go_quiet (fail)
        go_wp2
        go_roundw
        case rel =>
          refine ⟨k + 1, by omega, by go_num, ?_, drewN_b hbl _⟩
          rw [take_snoc HS.out, take_snoc HT.out, HK.out]
        case measure => simp [intOf]; omega
      · have hst1 := str_ne hst
        go_quiet (fail)
        go_wp2
        go_ret
        refine ⟨ret_bool ?_, drewN_b hbl _⟩
        symm
        rw [decide_eq_false_iff_not]
        intro e
        rw [← e, HS.out] at HT
        exact hst (Option.some.inj HT.out)
    · go_wp2
      go_ret
      refine ⟨ret_bool ?_, hbl⟩
      rw [take_all hlt, take_all (by rw [HL.out]; exact hlt)] at ht
      simp [ht]

theorem run_conv_one {P : Program} (W : World) (src dst e t : TypeId) (n : Int)
    (hs : P.underlying src = some (.slice e)) (he : P.underlying e = some (.int .u8)) (hd : P.underlying dst = some .string) :
    (convert src dst (.slice (some ⟨W.heap.size, 0, none⟩) 1 1)).run P (W.alloc (.cells #[.int .u8 n] t)) =
      .ok (.string ⟨#[UInt8.ofNat n.toNat]⟩) (W.alloc (.cells #[.int .u8 n] t)) := by
  rw [run_convert_bytes_string _ _ _ _ _ _ _ hs he hd]
  have hc := cell_one_new W (.int .u8 n) t 0 _ rfl
  rw [run_bytesToString _ _ _ _ [n] (by simp [loadCells, loadCellsFrom, hc])]
  rfl

/-- The digits of k ahead of a text, as the law's helper writes them. -/
def digits : Nat → Nat → List UInt8 → List UInt8
  | 0, _, l => l
  | f + 1, k, l => if k = 0 then l else digits f (k / 10) ((48 + UInt8.ofNat (k % 10)) :: l)
theorem digits_zero (f : Nat) (l : List UInt8) : digits f 0 l = l := by cases f <;> simp [digits]
theorem digits_step (f k : Nat) (l : List UInt8) (h : 0 < k) : digits (f + 1) k l = digits f (k / 10) ((48 + UInt8.ofNat (k % 10)) :: l) := by
  simp [digits]; omega
def mark (k : Int) : ByteArray := if k ≤ 0 then ⟨#[109, 48]⟩ else ⟨#[109]⟩ ++ ⟨(digits 20 k.toNat []).toArray⟩
theorem size_cons (c : UInt8) (q : ByteArray) : (({ data := #[c] } : ByteArray) ++ q).size = q.size + 1 := by
  rw [ByteArray.size_append, Nat.add_comm]; rfl
theorem list_cons (c : UInt8) (q : ByteArray) : (({ data := #[c] } : ByteArray) ++ q).data.toList = c :: q.data.toList := by
  simp

set_option maxHeartbeats 400000 in
theorem markText_any (k : Int) (w : World) (h1 : k ≤ 1000000000000) :
    Calls Try.prog 34 #[.int .i64 k] w fun e w' => e = .returned (.string (mark k)) ∧ Below w.heap.size w w' := by
  have hconv := fun (W : World) (n : Int) => run_conv_one (P := Try.prog) W 22 9 5 5 n Try.underlying22 Try.underlying5 Try.underlying9
  by_cases h0 : k ≤ 0
  · go_enter Try.func34, Try.ntmps34
    go_wp2
    go_ret
    exact ⟨ret_str (by simp [mark, h0]), Below.refl _ _⟩
  · go_enter Try.func34, Try.ntmps34
    go_wp2
    go_loopw [0, 3] (fun i s wr => ∃ (n f : Nat) (q : ByteArray), (n : Int) ≤ k ∧ n < 10 ^ f ∧ q.size + f ≤ 20 ∧ digits f n q.data.toList = digits 20 k.toNat [] ∧ i = .int .i64 n ∧ s = .string q ∧ Below w.heap.size w wr) (fun i _ _ => (intOf i).toNat)
    case atStart =>
      refine ⟨k.toNat, 20, ByteArray.empty, by omega, ?_, by simp, rfl, ?_, rfl, Below.refl _ _⟩
      · have : (10 : Nat) ^ 20 = 100000000000000000000 := by decide
        omega
      · rw [Int.toNat_of_nonneg (by omega)]
    case round =>
      obtain ⟨n, f, q, hn, hf, hz, hd, rfl, rfl, hbl⟩ := hrel
      by_cases hlt : 0 < n
      · have hlt' : (0 : Int) < (n : Int) := by omega
        have HF := Lib.hid hf
        have HD := Lib.hid hd
        clear hf hd
        go_wp2
        go_roundw
        case rel =>
          cases f with
          | zero => have := HF.out; simp at this; omega
          | succ f =>
            refine ⟨n / 10, f, { data := #[48 + UInt8.ofNat (n % 10)] } ++ q, by omega, ?_, ?_, ?_, ?_, rfl, ?_⟩
            · have := HF.out
              rw [Nat.pow_succ] at this
              omega
            · rw [size_cons]; omega
            · rw [list_cons, ← digits_step f n _ hlt]; exact HD.out
            · go_num
            · exact hbl.alloc (by have := hbl.size; omega) _
        case measure => simp [intOf]; omega
      · have hlt' : ¬ (0 : Int) < (n : Int) := by omega
        have HD := Lib.hid hd
        clear hd
        go_wp2
        go_ret
        refine ⟨ret_str ?_, hbl⟩
        obtain rfl : n = 0 := by omega
        have hd := HD.out
        rw [digits_zero] at hd
        unfold mark
        rw [if_neg (by omega), ← hd]

/-- n marks from k on. -/
def marks (k : Int) (n : Nat) : List ByteArray := (List.range n).map fun (i : Nat) => mark (k + i)
theorem marks_get {k : Int} {n i : Nat} (h : i < n) : (marks k n)[i]? = some (mark (k + i)) := by simp [marks, h]
theorem marks_len (k : Int) (n : Nat) : (marks k n).length = n := by simp [marks]
theorem eq_marks {k : Int} {n : Nat} {cs : List ByteArray} (hl : cs.length = n) (h : ∀ i, i < n → cs[i]? = some (mark (k + i))) : cs = marks k n := by
  apply List.ext_getElem?
  intro i
  by_cases hi : i < n
  · rw [h i hi, marks_get hi]
  · rw [List.getElem?_eq_none (by omega), List.getElem?_eq_none (by rw [marks_len]; omega)]

set_option maxHeartbeats 400000 in
theorem markStringS_any (ss : List ByteArray) (v : Value) (k : Int) (w : World) (L B : Nat) (h : Own Value.string w L B v ss) (hB : B ≤ w.heap.size) (hL : L ≤ B) (hn : ss.length ≤ 1048576) (h0 : 0 ≤ k) (h1 : k ≤ 100000000000) :
    Calls Try.prog 19 #[v, .int .i64 k] w fun e w' => e = .returned (.int .i64 (k + ss.length)) ∧ Own Value.string w' L B v (marks k ss.length) ∧ Below L w w' := by
  obtain ⟨ao, cap, rfl, hcap, hmax, hc⟩ := id h
  go_enter Try.func19, Try.ntmps19
  go_wp2
  go_loopw [1, 5] (fun m i wr => ∃ (j : Nat) (cs : List ByteArray), j ≤ ss.length ∧ i = .int .i64 j ∧ m = .int .i64 (k + j) ∧ cs.length = ss.length ∧ (∀ i, i < j → cs[i]? = some (mark (k + i))) ∧ Own Value.string wr L B (.slice ao ss.length cap) cs ∧ Below L w wr)
    (fun _ i _ => ss.length - (intOf i).toNat)
  case atStart => exact ⟨0, ss, Nat.zero_le _, rfl, by simp, rfl, fun i hi => by omega, h, Below.refl _ _⟩
  case round =>
    obtain ⟨j, cs, hj, rfl, rfl, hl, hm, hown, hbl⟩ := hrel
    have hsz := hbl.size
    by_cases hlt : j < ss.length
    · obtain ⟨s, hs⟩ := get_of_lt (l := cs) (k := j) (by omega)
      obtain ⟨ao', cap', hv', _, _, hc'⟩ := id hown
      have hl' := Lib.hid hl
      simp only [Value.slice.injEq] at hv'
      obtain ⟨rfl, -, rfl⟩ := hv'
      obtain ⟨b, off, rfl, hLb, hb, hcell, hfr⟩ := hc' j s hs
      have HM := Lib.hid hm
      have HH := Lib.hid hs
      clear hl hs hc hc' hm h
      have hj1 : (j : Int) < 1048576 := by omega
      go_wp2_with fail
      refine (markText_any _ _ (by omega)).mono ?_
      rintro e w2 ⟨rfl, hb2⟩
      have hcell2 := cellOf hb2 (by omega) hcell
      have hfr2 : w2.frozen? ⟨b, off + j, none⟩ = false := (hb2.frozen (p := ⟨b, off + j, none⟩) (by show b < wr.heap.size; omega)).trans hfr
      have hown2 := hown.below (hb2.mono (B' := B) (by omega))
      have hbl2 := hbl.trans (hb2.mono (B' := L) (by omega))
      go_wp2
      go_roundw
      case rel =>
        refine ⟨j + 1, cs.set j (mark (k + j)), by omega, by go_num, by go_num, by simp [hl'.out], ?_, hown2.set rfl (by rw [hl'.out]; omega), hbl2.setCell (p := ⟨b, off + j, none⟩) hLb _⟩
        intro i hi
        by_cases hij : j = i
        · subst hij; rw [List.getElem?_set_self (by rw [hl'.out]; omega)]
        · rw [List.getElem?_set_ne hij]; exact HM.out i (by omega)
      case measure => simp [intOf]; omega
    · obtain rfl : j = ss.length := by omega
      have hcm := eq_marks hl hm
      have HC := Lib.hid hcm
      clear hcm hl hm
      go_wp2
      go_ret
      refine ⟨rfl, ?_, hbl⟩
      rw [← HC.out]; exact hown

set_option maxHeartbeats 400000 in
theorem heldStringS_any (n : Nat) (v : Value) (k : Int) (w : World) (B : Nat) (h : Lst Value.string w B v (marks k n)) (hB : B ≤ w.heap.size) (hn : n ≤ 1048576) (h0 : 0 ≤ k) (h1 : k ≤ 100000000000) :
    Calls Try.prog 20 #[v, .int .i64 k] w fun e w' => e = .returned (.int .i64 (k + n)) ∧ Below w.heap.size w w' := by
  obtain ⟨ao, cap, rfl, hcap, hmax, hc⟩ := h
  rw [marks_len] at hcap ⊢
  unfold maxLen at hmax
  go_enter Try.func20, Try.ntmps20
  go_wp2
  go_loopw [1, 5] (fun m i wr => ∃ (j : Nat), j ≤ n ∧ i = .int .i64 j ∧ m = .int .i64 (k + j) ∧ Below w.heap.size w wr)
    (fun _ i _ => n - (intOf i).toNat)
  case atStart => exact ⟨0, Nat.zero_le _, rfl, by simp, Below.refl _ _⟩
  case round =>
    obtain ⟨j, hj, rfl, rfl, hbl⟩ := hrel
    have hsz := hbl.size
    by_cases hlt : j < n
    · obtain ⟨b, off, rfl, hb, hcell⟩ := hc j _ (marks_get hlt)
      have hcell' := cellOf hbl (by omega) hcell
      have hi0 : (0 : Int) ≤ (j : Int) := by omega
      have hi1 : (j : Int) < (n : Int) := by omega
      clear hcell hc
      go_wp2
      go_region_held3 (fun w' => Below wr.heap.size wr w' ∧ w'.cell? ⟨b, off + j, none⟩ = some (.string (mark (k + j))))
        (first
          | exact ⟨(Below.refl _ _).drew, by simp [*]⟩
          | exact ⟨(Below.refl wr.heap.size wr).drew.trans hb2, cellOf hb2 (by show b < wr.heap.size; omega) hcell'⟩)
        (first | (go_at_call 34; refine (markText_any _ _ (by omega)).mono ?_; rintro e w2 ⟨rfl, hb2⟩))
      go_wp2
      go_roundw
      case rel => exact ⟨j + 1, by omega, by go_num, by go_num, hbl.trans (((Below.refl wr.heap.size wr).drew.trans hb2).mono (by omega))⟩
      case measure => simp [intOf]; omega
    · obtain rfl : j = n := by omega
      go_wp2
      go_ret
      exact ⟨rfl, hbl⟩
end Go.Proofs.Ytkjiejobiihipaa
