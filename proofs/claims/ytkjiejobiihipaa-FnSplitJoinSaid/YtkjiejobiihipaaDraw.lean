/- The specification's draws of texts. -/
import Derived.Test.YtkjiejobiihipaaCur
import Derived.Test.YtkjiejobiihipaaStr
namespace Go.Proofs.Ytkjiejobiihipaa
open Go.ChangeShapes Go.WideShapes Go.ChangeAt Go.RowKit Go.ChangeMaps

/-- A list of texts that lies in another block than the cursor. -/
def Of (w : World) (b : Nat) (v : Value) (xs : List ByteArray) : Prop :=
  ∃ bb off cap, v = .slice (some ⟨bb, off, none⟩) xs.length cap ∧ bb ≠ b ∧ bb < w.heap.size ∧ ∀ i x, xs[i]? = some x → w.cell? ⟨bb, off + i, none⟩ = some (.string x)

def TextPost (w : World) (B b k : Nat) (Q : ByteArray → Prop) (e : Ending) (w' : World) : Prop :=
  ∃ x, e = .returned (.string x) ∧ Q x ∧ Cur w' B b k ∧ w.grownBy w' (some b)

set_option maxHeartbeats 400000 in
theorem cur_of (w : World) (B b k : Nat) (h : Cur w B b k) (hk : k ≤ 900000) (v : Value) (xs : List ByteArray) (hl : Of w b v xs) (h0 : 0 < xs.length) (hx : xs.length ≤ 200) :
    Calls Try.prog 26 #[.pointer (some ⟨b, 0, none⟩), v] w (TextPost w B b (k + 2) (· ∈ xs)) := by
  obtain ⟨bb, off, cap, rfl, hne, hlt, hc⟩ := hl
  go_enter Try.func26, Try.ntmps26
  go_wp2_with fail
  refine (cur_pick _ B b k (xs.length : Int) h (by omega) (by omega) (by omega)).mono ?_
  rintro e w1 ⟨r, rfl, hr0, hr1, hc1, hg1⟩
  obtain ⟨j, rfl⟩ : ∃ j : Nat, r = j := ⟨r.toNat, by omega⟩
  obtain ⟨x, hjx⟩ := get_of_lt (l := xs) (k := j) (by omega)
  have hcell : w1.cell? ⟨bb, off + j, none⟩ = some (.string x) := (grown_cell hg1 hne hlt).trans (hc j x hjx)
  go_wp2
  go_ret
  exact ⟨x, rfl, List.mem_of_getElem? hjx, hc1, hg1⟩

set_option maxHeartbeats 400000 in
theorem cur_one (w : World) (B b k : Nat) (n : Int) (h : Cur w B b k) (hk : k ≤ 900000) (hn1 : 1 ≤ n) (hn2 : n ≤ 1000000) :
    Calls Try.prog 29 #[.pointer (some ⟨b, 0, none⟩), .int .i64 n] w fun e w' => ∃ x : Bool, e = .returned (.bool x) ∧ Cur w' B b (k + 2) ∧ w.grownBy w' (some b) := by
  go_enter Try.func29, Try.ntmps29
  go_wp2_with fail
  refine (cur_pick _ B b k n h (by omega) (by omega) (by omega)).mono ?_
  rintro e w1 ⟨r, rfl, hr0, hr1, hc1, hg1⟩
  go_wp2
  go_ret
  exact ⟨_, rfl, hc1, hg1⟩

theorem grown_alloc (w : World) (o : Obj) (x : Option Nat) : w.grownBy (w.alloc o) x :=
  ⟨rfl, rfl, rfl, by show _ ≤ (w.heap.push o).size; simp, fun k hk _ => by show (w.heap.push o)[k]? = _; rw [Array.getElem?_push, if_neg (by omega)]⟩
theorem Cur.keep {w w' : World} {row : Option Nat} {B b k : Nat} (h : Cur w B b k) (hg : w.grownBy w' row) (hr : ∀ g, row = some g → b < g) : Cur w' B b k := by
  have hlt := h.lt
  obtain ⟨hB, ao, n, cap, pos, seed, g1, g2, g3, g4, g5, g6⟩ := h
  have hne : ∀ j, j ≤ b → some j ≠ row := fun j hj e => by have := hr j e.symm; omega
  refine ⟨hB, ao, n, cap, pos, seed, ?_, g2, g3, g4, g5, g6.keep fun bb o hbb => World.cell?_of_block (hg.block bb (by omega) (hne bb (by omega)))⟩
  rw [hg.block b hlt (hne b (Nat.le_refl _))]; exact g1
theorem Cur.alloc {w : World} {B b k : Nat} (h : Cur w B b k) (o : Obj) : Cur (w.alloc o) B b k := h.keep (grown_alloc w o none) (by simp)
theorem grown_b {w w' : World} {row : Option Nat} (h : w.grownBy w' row) {B : Nat} (hB : B ≤ w.heap.size) (hr : ∀ g, row = some g → B ≤ g) : Below B w w' :=
  ⟨h.os, h.tape, h.output, h.size, fun k hk => h.block k (by omega) (by intro e; have := hr k e.symm; omega)⟩
/-- A literal of texts. -/
theorem of_lit (w : World) (b : Nat) (hb : b < w.heap.size) (T : TypeId) (cap : Nat) (xs : List ByteArray) :
    Of (w.alloc (.cells (xs.map Value.string).toArray T)) b (.slice (some ⟨w.heap.size, 0, none⟩) xs.length cap) xs := by
  refine ⟨w.heap.size, 0, cap, rfl, by omega, by show _ < (w.heap.push _).size; simp, fun i x hi => ?_⟩
  have e : (w.alloc (.cells (xs.map Value.string).toArray T)).heap = w.heap.push (.cells (xs.map Value.string).toArray T) := rfl
  simp [World.cell?, e, hi]
theorem TextPost.imp {w w0 : World} {B b k : Nat} {Q Q' : ByteArray → Prop} {e : Ending} {w' : World} (h : TextPost w B b k Q e w') (hg : w0.grownBy w (some b)) (hQ : ∀ x, Q x → Q' x) : TextPost w0 B b k Q' e w' := by
  obtain ⟨x, h1, h2, h3, h4⟩ := h
  exact ⟨x, h1, hQ x h2, h3, hg.trans h4⟩

set_option maxHeartbeats 400000 in
theorem cur_any1 (w : World) (B b k : Nat) (h : Cur w B b k) (hk : k ≤ 900000) :
    Calls Try.prog 25 #[.pointer (some ⟨b, 0, none⟩)] w (TextPost w B b (k + 2) (·.size ≤ 16)) := by
  go_enter Try.func25, Try.ntmps25
  go_wp2_with fail
  have hc := cur_of _ B b k (h.alloc _) hk _ _ (of_lit w b h.lt 9 9 [⟨#[]⟩, ⟨#[97]⟩, ⟨#[97, 44, 98]⟩, ⟨#[115, 111, 109, 101, 32, 119, 111, 114, 100, 115]⟩, ⟨#[120, 35, 121]⟩, ⟨#[45, 49, 50]⟩, ⟨#[0, 255]⟩, ⟨#[44, 44]⟩, ⟨#[48]⟩]) (by simp) (by simp)
  refine hc.mono ?_
  rintro e w1 ⟨x, rfl, hx, hc1, hg1⟩
  go_wp2
  go_ret
  refine ⟨x, rfl, ?_, hc1, (grown_alloc _ _ _).trans hg1⟩
  revert x
  decide
/-- The code that a draw is given. -/
def CodeArg (w : World) (B : Nat) (v : Value) : Prop := B ≤ w.heap.size ∧ ∃ ao n cap, v = .slice ao n cap ∧ n ≤ 65536 ∧ Code w B ao n
theorem CodeArg.below {w w' : World} {B : Nat} {v : Value} (h : CodeArg w B v) (hb : Below B w w') : CodeArg w' B v :=
  let ⟨h0, ao, n, cap, h1, h2, h3⟩ := h
  have := hb.size
  ⟨by omega, ao, n, cap, h1, h2, h3.keep fun bb o hbb => hb.cell (p := ⟨bb, o, none⟩) hbb⟩

/-- A new cursor. -/
theorem cur_new (w : World) (B : Nat) (ao : Option Addr) (n cap : Nat) (hB : B ≤ w.heap.size) (hn : n ≤ 65536) (hc : Code w B ao n) :
    Cur (w.alloc (.cells #[.slice ao n cap, .int .i64 0, .int .u64 0] 44)) B w.heap.size 0 := by
  have e : (w.alloc (.cells #[.slice ao n cap, .int .i64 0, .int .u64 0] 44)).heap = w.heap.push (.cells #[.slice ao n cap, .int .i64 0, .int .u64 0] 44) := rfl
  exact ⟨hB, ao, n, cap, 0, 0, by rw [e, Array.getElem?_push, if_pos rfl]; rfl, hn, Nat.le_refl _, by omega, by omega, hc.keep fun bb o hbb => World.cell?_of_block (by rw [e, Array.getElem?_push, if_neg (by show ¬ bb = _; omega)])⟩
theorem grown_below {w w' : World} {o : Obj} (h : (w.alloc o).grownBy w' (some w.heap.size)) : Below w.heap.size w w' := by
  have h2 : w.grownBy w' (some w.heap.size) := (grown_alloc w o _).trans h
  exact ⟨h2.os, h2.tape, h2.output, h2.size, fun k hk => h2.block k hk (by intro e; have := Option.some.inj e; omega)⟩

set_option maxHeartbeats 400000 in
theorem drawSplit (w : World) (B : Nat) (v : Value) (h : CodeArg w B v) :
    Calls Try.prog 9 #[v] w fun e w' => ∃ x y, e = .returned (.tuple #[.string x, .string y]) ∧ x.size ≤ 16 ∧ y.size ≤ 2 ∧ Below w.heap.size w w' := by
  obtain ⟨h0, ao, n, cap, rfl, h2, h3⟩ := h
  go_enter Try.func9, Try.ntmps9
  go_wp2_with fail
  refine (cur_any1 _ B _ 0 (cur_new w B ao n cap h0 h2 h3) (by omega)).mono ?_
  rintro e w1 ⟨x, rfl, hx, hc1, hg1⟩
  go_wp2_with fail
  refine (cur_of _ B _ _ (hc1.alloc _) (by omega) _ _ (of_lit w1 w.heap.size hc1.lt 9 5 [⟨#[44]⟩, ⟨#[44]⟩, ⟨#[32]⟩, ⟨#[]⟩, ⟨#[44, 44]⟩]) (by simp) (by simp)).mono ?_
  rintro e w2 ⟨y, rfl, hy, hc2, hg2⟩
  go_wp2
  go_ret2
  refine ⟨x, y, rfl, hx, ?_, grown_below (hg1.trans ((grown_alloc _ _ _).trans hg2))⟩
  revert y
  decide

set_option maxHeartbeats 400000 in
theorem drawLess (w : World) (B : Nat) (v : Value) (h : CodeArg w B v) :
    Calls Try.prog 14 #[v] w fun e w' => ∃ x y, e = .returned (.tuple #[.string x, .string y]) ∧ x.size ≤ 16 ∧ y.size ≤ 16 ∧ Below w.heap.size w w' := by
  obtain ⟨h0, ao, n, cap, rfl, h2, h3⟩ := h
  go_enter Try.func14, Try.ntmps14
  go_wp2_with fail
  refine (cur_any1 _ B _ 0 (cur_new w B ao n cap h0 h2 h3) (by omega)).mono ?_
  rintro e w1 ⟨x, rfl, hx, hc1, hg1⟩
  go_wp2_with fail
  refine (cur_any1 _ B _ _ hc1 (by omega)).mono ?_
  rintro e w2 ⟨y, rfl, hy, hc2, hg2⟩
  go_wp2
  go_ret2
  exact ⟨x, y, rfl, hx, hy, grown_below (hg1.trans hg2)⟩

theorem kept_row {w w' : World} {base size n b : Nat} {e : TypeId} {v : Value} {xs : List Value} (h : w.ownsRow base e size v n xs) (hg : w.grownBy w' (some b)) (hb : b < base) : w'.ownsRow base e size v n xs :=
  h.kept hg (Or.inr fun e2 => by have := (h.lt b e2).1; omega)
theorem lst_row {w : World} {L : Nat} {e : TypeId} {v : Value} {n : Nat} {xs : List ByteArray} (h : w.ownsRow L e 1 v n (xs.map Value.string)) : Lst Value.string w w.heap.size v xs := (Own.of_row h).lst
theorem sizes_snoc (xs : List ByteArray) (x : ByteArray) : sizes (xs ++ [x]) = sizes xs + x.size := by simp [sizes]

set_option maxHeartbeats 1000000 in
theorem drawJoin (w : World) (B : Nat) (v : Value) (h : CodeArg w B v) :
    Calls Try.prog 11 #[v] w fun e w' => ∃ v x xs, e = .returned (.tuple #[v, .string x]) ∧ x.size ≤ 16 ∧ Lst Value.string w' w'.heap.size v xs ∧ (xs.length : Int) + sizes xs ≤ 1048576 ∧ Below w.heap.size w w' := by
  obtain ⟨ti, hi, hz0, hz1, hz2⟩ := info_parts (show (Try.prog.info? 9).map (fun i => (i.zero, i.size, i.bytes)) = some (some (.string .empty), 1, 16) by kernel_rfl)
  obtain ⟨bi, bi1, bz0, bz1, bz2⟩ := info_parts (show (Try.prog.info? 5).map (fun i => (i.zero, i.size, i.bytes)) = some (some (.int .u8 0), 1, 1) by kernel_rfl)
  obtain ⟨h0, ao, n, cap, rfl, h2, h3⟩ := h
  go_enter Try.func11, Try.ntmps11
  go_wp2_with fail
  refine (cur_pick _ B _ 0 4 ((cur_new w B ao n cap h0 h2 h3).alloc _) (by omega) (by omega) (by omega)).mono ?_
  rintro e w1 ⟨r, rfl, hr0, hr1, hc1, hg1⟩
  have hs1 := hg1.size
  have hrow0 := World.ownsRow_made (base := w.heap.size + 1) (e := 9) (size := 1) (w.alloc (.cells #[.slice ao n cap, .int .i64 0, .int .u64 0] 44)) #[] 0 (by simp) (by simp [maxLen]) rfl
  have hrow1 := hrow0.kept hg1 (Or.inr (by simp [Value.ownBlock]))
  rw [World.size_alloc] at hrow1
  clear hrow0
  have hb1 : Below w.heap.size w w1 := grown_below ((grown_alloc _ _ _).trans hg1)
  go_wp2
  go_loopw [5, 7] (fun o i wr => ∃ (k : Nat) (v : Value) (xs : List ByteArray), (k : Int) ≤ r ∧ i = .int .i64 k ∧ o = v ∧ xs.length = k ∧ sizes xs ≤ 16 * k ∧ wr.ownsRow (w.heap.size + 1) 9 1 v k (xs.map Value.string) ∧ Below w.heap.size w wr ∧ Cur wr B w.heap.size (2 + 2 * k) ∧ w.heap.size + 1 ≤ wr.heap.size ∧ (∃ ao cap, v = .slice ao k cap))
    (fun _ i _ => r.toNat - (intOf i).toNat)
  case atStart =>
    exact ⟨0, _, [], by omega, rfl, rfl, rfl, by simp [sizes], hrow1, hb1, hc1, by have : (w.alloc (.cells #[.slice ao n cap, .int .i64 0, .int .u64 0] 44)).heap.size = w.heap.size + 1 := (by show (w.heap.push _).size = _; simp); have h9 := (grown_alloc (w.alloc (.cells #[.slice ao n cap, .int .i64 0, .int .u64 0] 44)) (.cells #[] 9) none).size; omega, _, _, rfl⟩
  case round =>
    obtain ⟨k, _, xs, hk, rfl, rfl, hxl, hxs, hrow, hbl, hcu, hsz, ao2, cap2, rfl⟩ := hrel
    by_cases hlt : (k : Int) < r
    · have hcu0 := hcu
      clear hcu
      go_wp2_with fail
      refine (cur_any1 _ B _ _ hcu0 (by omega)).mono ?_
      rintro e w2 ⟨x, rfl, hx, hc2, hg2⟩
      have hrow2 := kept_row hrow hg2 (by omega)
      have hsz2 := hg2.size
      go_wp2_with (at_builtin; refine wpList_append_own _ rfl _ _ 26 rfl (w.heap.size + 1) 9 ti (.string .empty) 1 16 Try.underlying26 hi hz0 hz1 hz2 rfl (by decide) _ _ _ rfl (hrow2.alloc _) ⟨w2.heap.size, 0, none⟩ 1 1 [.string x] rfl rfl (cell_one_new _ _ _) (by simp [Value.oneCell']) (by unfold maxLen; omega) (by omega) (by have := (grown_alloc w2 (.cells #[.string x] 9) none).size; omega) ?_; intro v' w3 hown' hgrow _)
      have hlo : ∀ g, Value.ownBlock (.slice ao2 k cap2) = some g → w.heap.size + 1 ≤ g := fun g e => (hrow2.lt g e).1
      have hg23 : Below w.heap.size w2 w3 := (grown_b (grown_alloc w2 _ none) (by omega) (by simp)).trans (grown_b hgrow (by have := (grown_alloc w2 (.cells #[.string x] 9) none).size; omega) fun g e => by have := hlo g e; omega)
      have hc3 : Cur w3 B w.heap.size (2 + 2 * k + 2) := (hc2.alloc _).keep hgrow fun g e => by have := hlo g e; omega
      have hb3 : Below w.heap.size w w3 := (hbl.trans (grown_b hg2 (by omega) (by intro g e; have := Option.some.inj e; omega))).trans hg23
      have hz3 := hg23.size
      go_roundw
      case rel =>
        refine ⟨k + 1, _, xs ++ [x], by omega, by go_num, rfl, by simp [hxl], ?_, by simpa using hown', hb3, by have e : 2 + 2 * (k + 1) = 2 + 2 * k + 2 := (by omega); rw [e]; exact hc3, by omega, by simpa using row_form hown'⟩
        have : sizes (xs ++ [x]) = sizes xs + x.size := by simp [sizes]
        omega
      case measure => simp [intOf]; omega
    · have hkr : (k : Int) ≤ 4 := by omega
      have hcu0 := hcu
      clear hcu
      go_wp2_with fail
      refine (cur_one _ B _ _ 20 hcu0 (by omega) (by omega) (by omega)).mono ?_
      rintro e w2 ⟨yes, rfl, hc2, hg2⟩
      have hrow2 := kept_row hrow hg2 (by omega)
      have hsz2 := hg2.size
      have hb2 : Below w.heap.size w w2 := hbl.trans (grown_b hg2 (by omega) (by intro g e; have := Option.some.inj e; omega))
      cases yes
      · have hcu2 := hc2
        clear hc2
        go_wp2_with fail
        refine (cur_of _ B _ _ (hcu2.alloc _) (by omega) _ _ (of_lit w2 w.heap.size hcu2.lt 9 5 [⟨#[44]⟩, ⟨#[59]⟩, ⟨#[59]⟩, ⟨#[]⟩, ⟨#[97, 98]⟩]) (by simp) (by simp)).mono ?_
        rintro e w3 ⟨y, rfl, hy, hc3, hg3⟩
        have hrow3 := kept_row (hrow2.alloc _) hg3 (by omega)
        go_wp2
        go_ret2
        refine ⟨_, y, xs, rfl, ?_, lst_row hrow3, by omega, hb2.trans ((grown_b (grown_alloc _ _ none) (by omega) (by simp)).trans (grown_b hg3 (by simp; omega) (by intro g e; have := Option.some.inj e; omega)))⟩
        revert y
        decide
      · have hcu2 := hc2
        clear hc2
        go_wp2_with fail
        refine (cur_pick _ B _ _ 20 hcu2 (by omega) (by omega) (by omega)).mono ?_
        rintro e w3 ⟨q, rfl, hq0, hq1, hc3, hg3⟩
        obtain ⟨m, hm⟩ : ∃ m : Nat, 3990 + q = (m : Int) := ⟨(3990 + q).toNat, by omega⟩
        have hrow3 := kept_row hrow2 hg3 (by omega)
        have hsz3 := hg3.size
        have hb3 : Below w.heap.size w w3 := hb2.trans (grown_b hg3 (by omega) (by intro g e; have := Option.some.inj e; omega))
        go_wp2_with (at_make; go_loud (refine wpList_make_full _ rfl _ _ 22 rfl (w.heap.size + 1) 5 bi (.int .u8 0) 1 Try.underlying22 bi1 bz0 bz1 .i64 .i64 _ _ m rfl rfl rfl rfl (by rw [bz2]; omega) (by unfold maxLen; omega) (by omega) ?_; intro w4 hown4 hgrow4))
        have hz : ∀ i, i < m → w4.cell? ⟨w3.heap.size, 0 + i, none⟩ = some (.int .u8 ((List.replicate m (0 : Int)).getD i 0)) := fun i hi => by
          rw [Nat.zero_add, hown4.cellAt i (by omega)]
          simp [Value.cells, toList_madeCells_one, hi]
        have hcv := run_convert_bytes_arg (P := Try.prog) w4 22 5 Try.underlying22 Try.underlying5 w3.heap.size 0 m m (List.replicate m 0) (by simp) hz 9 Try.underlying9
        have hzs : (strOfNums (List.replicate m 0)).size = m := by simp [strOfNums, ByteArray.size]
        generalize strOfNums (List.replicate m 0) = zs at hcv hzs
        have hrow4 := hrow3.kept hgrow4 (Classical.or_iff_not_imp_left.2 fun h => h)
        have hc4 : Cur w4 B w.heap.size _ := hc3.keep hgrow4 (by simp)
        have hsz4 := hgrow4.size
        have hb4 : Below w.heap.size w w4 := hb3.trans (grown_b hgrow4 (by omega) (by simp))
        clear hz hown4
        rw [hcv]
        clear hcv
        go_wp2_with (at_builtin; refine wpList_append_own _ rfl _ _ 26 rfl (w.heap.size + 1) 9 ti (.string .empty) 1 16 Try.underlying26 hi hz0 hz1 hz2 rfl (by decide) _ _ _ rfl (hrow4.alloc _) ⟨w4.heap.size, 0, none⟩ 1 1 [.string zs] rfl rfl (cell_one_new _ _ _) (by simp [Value.oneCell']) (by unfold maxLen; omega) (by omega) (by have := (grown_alloc w4 (.cells #[.string zs] 9) none).size; omega) ?_; intro v' w5 hown' hgrow _)
        have hlo : ∀ g, Value.ownBlock (.slice ao2 k cap2) = some g → w.heap.size + 1 ≤ g := fun g e => (hrow4.lt g e).1
        have hsa := (grown_alloc w4 (.cells #[.string zs] 9) none).size
        have hb5 : Below w.heap.size w w5 := hb4.trans ((grown_b (grown_alloc w4 _ none) (by omega) (by simp)).trans (grown_b hgrow (by omega) fun g e => by have := hlo g e; omega))
        have hc5 : Cur w5 B w.heap.size _ := (hc4.alloc _).keep hgrow fun g e => by have := hlo g e; omega
        have hsz5 := hgrow.size
        clear hc4 hc3 hcu2
        go_wp2_with fail
        refine (cur_of _ B _ _ (hc5.alloc _) (by omega) _ _ (of_lit w5 w.heap.size hc5.lt 9 5 [⟨#[44]⟩, ⟨#[59]⟩, ⟨#[59]⟩, ⟨#[]⟩, ⟨#[97, 98]⟩]) (by simp) (by simp)).mono ?_
        rintro e w6 ⟨y, rfl, hy, hc6, hg6⟩
        have hrow6 := kept_row (hown'.alloc _) hg6 (by omega)
        have hrow7 : w6.ownsRow (w.heap.size + 1) 9 1 v' (k + 1) ((xs ++ [zs]).map Value.string) := by simpa using hrow6
        have hsn := sizes_snoc xs zs
        go_wp2
        go_ret2
        refine ⟨_, y, xs ++ [zs], rfl, ?_, lst_row hrow7, by simp; omega, hb5.trans ((grown_b (grown_alloc _ _ none) (by omega) (by simp)).trans (grown_b hg6 (by simp; omega) (by intro g e; have := Option.some.inj e; omega)))⟩
        revert y
        decide
end Go.Proofs.Ytkjiejobiihipaa
