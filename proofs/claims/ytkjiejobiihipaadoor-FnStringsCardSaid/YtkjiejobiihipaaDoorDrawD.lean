/- The specification's draws of texts. -/
import Derived.Test.YtkjiejobiihipaaDoorCur
import Derived.Test.YtkjiejobiihipaaDoorNum
namespace Go.Proofs.YtkjiejobiihipaaDoor
open Go.ChangeShapes Go.WideShapes Go.ChangeAt Go.RowKit Go.ChangeMaps

/-- A list of texts that lies in another block than the cursor. -/
def Of (w : World) (b : Nat) (v : Value) (xs : List ByteArray) : Prop :=
  ∃ bb off cap, v = .slice (some ⟨bb, off, none⟩) xs.length cap ∧ bb ≠ b ∧ bb < w.heap.size ∧ ∀ i x, xs[i]? = some x → w.cell? ⟨bb, off + i, none⟩ = some (.string x)

def TextPost (w : World) (B b k : Nat) (Q : ByteArray → Prop) (e : Ending) (w' : World) : Prop :=
  ∃ x, e = .returned (.string x) ∧ Q x ∧ Cur w' B b k ∧ w.grownBy w' (some b)

set_option maxHeartbeats 400000 in
theorem cur_of (w : World) (B b k : Nat) (h : Cur w B b k) (hk : k ≤ 900000) (v : Value) (xs : List ByteArray) (hl : Of w b v xs) (h0 : 0 < xs.length) (hx : xs.length ≤ 200) :
    Calls Tryd.prog 27 #[.pointer (some ⟨b, 0, none⟩), v] w (TextPost w B b (k + 2) (· ∈ xs)) := by
  obtain ⟨bb, off, cap, rfl, hne, hlt, hc⟩ := hl
  go_enter Tryd.func27, Tryd.ntmps27
  go_wp2_with fail
  refine (cur_pick _ B b k (xs.length : Int) h (by omega) (by omega) (by omega)).mono ?_
  rintro e w1 ⟨r, rfl, hr0, hr1, hc1, hg1⟩
  obtain ⟨j, rfl⟩ : ∃ j : Nat, r = j := ⟨r.toNat, by omega⟩
  obtain ⟨x, hjx⟩ := get_of_lt (l := xs) (k := j) (by omega)
  have hcell : w1.cell? ⟨bb, off + j, none⟩ = some (.string x) := (grown_cell hg1 hne hlt).trans (hc j x hjx)
  go_wp2
  go_ret
  exact ⟨x, rfl, List.mem_of_getElem? hjx, hc1, hg1⟩

set_option maxHeartbeats 400000 in
theorem cur_one (w : World) (B b k : Nat) (n : Int) (h : Cur w B b k) (hk : k ≤ 900000) (hn1 : 1 ≤ n) (hn2 : n ≤ 1000000) :
    Calls Tryd.prog 26 #[.pointer (some ⟨b, 0, none⟩), .int .i64 n] w fun e w' => ∃ x : Bool, e = .returned (.bool x) ∧ Cur w' B b (k + 2) ∧ w.grownBy w' (some b) := by
  go_enter Tryd.func26, Tryd.ntmps26
  go_wp2_with fail
  refine (cur_pick _ B b k n h (by omega) (by omega) (by omega)).mono ?_
  rintro e w1 ⟨r, rfl, hr0, hr1, hc1, hg1⟩
  go_wp2
  go_ret
  exact ⟨_, rfl, hc1, hg1⟩

theorem grown_alloc (w : World) (o : Obj) (x : Option Nat) : w.grownBy (w.alloc o) x :=
  ⟨rfl, rfl, rfl, by show _ ≤ (w.heap.push o).size; simp, fun k hk _ => by show (w.heap.push o)[k]? = _; rw [Array.getElem?_push, if_neg (by omega)]⟩
theorem Cur.keep {w w' : World} {row : Option Nat} {B b k : Nat} (h : Cur w B b k) (hg : w.grownBy w' row) (hr : ∀ g, row = some g → b < g) : Cur w' B b k := by
  have hlt := h.lt
  obtain ⟨hB, ao, n, cap, pos, seed, g1, g2, g3, g4, g5, g6⟩ := h
  have hne : ∀ j, j ≤ b → some j ≠ row := fun j hj e => by have := hr j e.symm; omega
  refine ⟨hB, ao, n, cap, pos, seed, ?_, g2, g3, g4, g5, g6.keep fun bb o hbb => World.cell?_of_block (hg.block bb (by omega) (hne bb (by omega)))⟩
  rw [hg.block b hlt (hne b (Nat.le_refl _))]; exact g1
theorem Cur.alloc {w : World} {B b k : Nat} (h : Cur w B b k) (o : Obj) : Cur (w.alloc o) B b k := h.keep (grown_alloc w o none) (by simp)
theorem grown_b {w w' : World} {row : Option Nat} (h : w.grownBy w' row) {B : Nat} (hB : B ≤ w.heap.size) (hr : ∀ g, row = some g → B ≤ g) : Below B w w' :=
  ⟨h.os, h.tape, h.output, h.size, fun k hk => h.block k (by omega) (by intro e; have := hr k e.symm; omega)⟩
/-- A literal of texts. -/
theorem of_lit (w : World) (b : Nat) (hb : b < w.heap.size) (T : TypeId) (cap : Nat) (xs : List ByteArray) :
    Of (w.alloc (.cells (xs.map Value.string).toArray T)) b (.slice (some ⟨w.heap.size, 0, none⟩) xs.length cap) xs := by
  refine ⟨w.heap.size, 0, cap, rfl, by omega, by show _ < (w.heap.push _).size; simp, fun i x hi => ?_⟩
  have e : (w.alloc (.cells (xs.map Value.string).toArray T)).heap = w.heap.push (.cells (xs.map Value.string).toArray T) := rfl
  simp [World.cell?, e, hi]
theorem TextPost.imp {w w0 : World} {B b k : Nat} {Q Q' : ByteArray → Prop} {e : Ending} {w' : World} (h : TextPost w B b k Q e w') (hg : w0.grownBy w (some b)) (hQ : ∀ x, Q x → Q' x) : TextPost w0 B b k Q' e w' := by
  obtain ⟨x, h1, h2, h3, h4⟩ := h
  exact ⟨x, h1, hQ x h2, h3, hg.trans h4⟩

set_option maxHeartbeats 400000 in
theorem cur_any1 (w : World) (B b k : Nat) (h : Cur w B b k) (hk : k ≤ 900000) :
    Calls Tryd.prog 30 #[.pointer (some ⟨b, 0, none⟩)] w (TextPost w B b (k + 2) (·.size ≤ 16)) := by
  go_enter Tryd.func30, Tryd.ntmps30
  go_wp2_with fail
  have hc := cur_of _ B b k (h.alloc _) hk _ _ (of_lit w b h.lt 9 9 [⟨#[]⟩, ⟨#[97]⟩, ⟨#[97, 44, 98]⟩, ⟨#[115, 111, 109, 101, 32, 119, 111, 114, 100, 115]⟩, ⟨#[120, 35, 121]⟩, ⟨#[45, 49, 50]⟩, ⟨#[0, 255]⟩, ⟨#[44, 44]⟩, ⟨#[48]⟩]) (by simp) (by simp)
  refine hc.mono ?_
  rintro e w1 ⟨x, rfl, hx, hc1, hg1⟩
  go_wp2
  go_ret
  refine ⟨x, rfl, ?_, hc1, (grown_alloc _ _ _).trans hg1⟩
  revert x
  decide
/-- The code that a draw is given. -/
def CodeArg (w : World) (B : Nat) (v : Value) : Prop := B ≤ w.heap.size ∧ ∃ ao n cap, v = .slice ao n cap ∧ n ≤ 65536 ∧ Code w B ao n
theorem CodeArg.below {w w' : World} {B : Nat} {v : Value} (h : CodeArg w B v) (hb : Below B w w') : CodeArg w' B v :=
  let ⟨h0, ao, n, cap, h1, h2, h3⟩ := h
  have := hb.size
  ⟨by omega, ao, n, cap, h1, h2, h3.keep fun bb o hbb => hb.cell (p := ⟨bb, o, none⟩) hbb⟩

/-- A new cursor. -/
theorem cur_new (w : World) (B : Nat) (ao : Option Addr) (n cap : Nat) (hB : B ≤ w.heap.size) (hn : n ≤ 65536) (hc : Code w B ao n) :
    Cur (w.alloc (.cells #[.slice ao n cap, .int .i64 0, .int .u64 0] 37)) B w.heap.size 0 := by
  have e : (w.alloc (.cells #[.slice ao n cap, .int .i64 0, .int .u64 0] 37)).heap = w.heap.push (.cells #[.slice ao n cap, .int .i64 0, .int .u64 0] 37) := rfl
  exact ⟨hB, ao, n, cap, 0, 0, by rw [e, Array.getElem?_push, if_pos rfl]; rfl, hn, Nat.le_refl _, by omega, by omega, hc.keep fun bb o hbb => World.cell?_of_block (by rw [e, Array.getElem?_push, if_neg (by show ¬ bb = _; omega)])⟩
theorem grown_below {w w' : World} {o : Obj} (h : (w.alloc o).grownBy w' (some w.heap.size)) : Below w.heap.size w w' := by
  have h2 : w.grownBy w' (some w.heap.size) := (grown_alloc w o _).trans h
  exact ⟨h2.os, h2.tape, h2.output, h2.size, fun k hk => h2.block k hk (by intro e; have := Option.some.inj e; omega)⟩

theorem kept_row {w w' : World} {base size n b : Nat} {e : TypeId} {v : Value} {xs : List Value} (h : w.ownsRow base e size v n xs) (hg : w.grownBy w' (some b)) (hb : b < base) : w'.ownsRow base e size v n xs :=
  h.kept hg (Or.inr fun e2 => by have := (h.lt b e2).1; omega)

/-- A list of numbers that lies in another block than the cursor. -/
def OfInts (w : World) (b : Nat) (v : Value) (xs : List Int) : Prop :=
  ∃ bb off cap, v = .slice (some ⟨bb, off, none⟩) xs.length cap ∧ bb ≠ b ∧ bb < w.heap.size ∧ ∀ i x, xs[i]? = some x → w.cell? ⟨bb, off + i, none⟩ = some (.int .i64 x)
theorem ints_lit (w : World) (b : Nat) (hb : b < w.heap.size) (T : TypeId) (cap : Nat) (xs : List Int) :
    OfInts (w.alloc (.cells (xs.map (Value.int .i64)).toArray T)) b (.slice (some ⟨w.heap.size, 0, none⟩) xs.length cap) xs := by
  refine ⟨w.heap.size, 0, cap, rfl, by omega, by show _ < (w.heap.push _).size; simp, fun i x hi => ?_⟩
  have e : (w.alloc (.cells (xs.map (Value.int .i64)).toArray T)).heap = w.heap.push (.cells (xs.map (Value.int .i64)).toArray T) := rfl
  simp [World.cell?, e, hi]
set_option maxHeartbeats 400000 in
theorem cur_among (w : World) (B b k : Nat) (h : Cur w B b k) (hk : k ≤ 900000) (v : Value) (xs : List Int) (hl : OfInts w b v xs) (h0 : 0 < xs.length) (hx : xs.length ≤ 200) :
    Calls Tryd.prog 21 #[.pointer (some ⟨b, 0, none⟩), v] w fun e w' => ∃ x, e = .returned (.int .i64 x) ∧ x ∈ xs ∧ Cur w' B b (k + 2) ∧ w.grownBy w' (some b) := by
  obtain ⟨bb, off, cap, rfl, hne, hlt, hc⟩ := hl
  go_enter Tryd.func21, Tryd.ntmps21
  go_wp2_with fail
  refine (cur_pick _ B b k (xs.length : Int) h (by omega) (by omega) (by omega)).mono ?_
  rintro e w1 ⟨r, rfl, hr0, hr1, hc1, hg1⟩
  obtain ⟨j, rfl⟩ : ∃ j : Nat, r = j := ⟨r.toNat, by omega⟩
  obtain ⟨x, hjx⟩ := get_of_lt (l := xs) (k := j) (by omega)
  have hcell : w1.cell? ⟨bb, off + j, none⟩ = some (.int .i64 x) := (grown_cell hg1 hne hlt).trans (hc j x hjx)
  go_wp2
  go_ret
  exact ⟨x, rfl, List.mem_of_getElem? hjx, hc1, hg1⟩

set_option maxHeartbeats 400000 in
theorem drawFormat (w : World) (B : Nat) (v : Value) (h : CodeArg w B v) :
    Calls Tryd.prog 9 #[v] w fun e w' => ∃ n, e = .returned (.int .i64 n) ∧ -1000000 ≤ n ∧ n ≤ 1000000 ∧ Below w.heap.size w w' := by
  obtain ⟨h0, ao, n, cap, rfl, h2, h3⟩ := h
  go_enter Tryd.func9, Tryd.ntmps9
  go_wp2_with fail
  refine (cur_pick _ B _ 0 1000 (cur_new w B ao n cap h0 h2 h3) (by omega) (by omega) (by omega)).mono ?_
  rintro e w1 ⟨r, rfl, hr0, hr1, hc1, hg1⟩
  go_wp2_with fail
  refine (cur_among _ B _ _ (hc1.alloc _) (by omega) _ _ (ints_lit w1 w.heap.size hc1.lt 3 9 [0, 1, -1, 10, 999999, -999999, 1000000, -1000000, r - 500]) (by simp) (by simp)).mono ?_
  rintro e w2 ⟨x, rfl, hx, hc2, hg2⟩
  go_wp2
  go_ret
  have hb : -1000000 ≤ x ∧ x ≤ 1000000 := by
    simp only [List.mem_cons, List.not_mem_nil, or_false] at hx
    omega
  exact ⟨x, rfl, hb.1, hb.2, grown_below (hg1.trans ((grown_alloc _ _ _).trans hg2))⟩

theorem num_small (n : Int) (h : -1000000 ≤ n ∧ n ≤ 1000000) : (numB n).size ≤ 12 := by
  by_cases hn : n < 0
  · obtain ⟨u, rfl⟩ : ∃ u : Nat, n = -(u : Int) := ⟨n.natAbs, by omega⟩
    have h1 := dec_size u (by omega)
    rw [numB_neg u (by omega), ByteArray.size_append]
    show 1 + _ ≤ _
    omega
  · obtain ⟨u, rfl⟩ : ∃ u : Nat, n = (u : Int) := ⟨n.toNat, by omega⟩
    have h1 := dec_size u (by omega)
    rw [numB_pos]
    omega

set_option maxHeartbeats 400000 in
theorem drawParse (w : World) (B : Nat) (v : Value) (h : CodeArg w B v) :
    Calls Tryd.prog 12 #[v] w fun e w' => ∃ x, e = .returned (.string x) ∧ x.size ≤ 1048576 ∧ Below w.heap.size w w' := by
  obtain ⟨h0, ao, n, cap, rfl, h2, h3⟩ := h
  go_enter Tryd.func12, Tryd.ntmps12
  go_wp2_with fail
  refine (cur_one _ B _ 0 2 (cur_new w B ao n cap h0 h2 h3) (by omega) (by omega) (by omega)).mono ?_
  rintro e w1 ⟨yes, rfl, hc1, hg1⟩
  have hb1 : Below w.heap.size w w1 := grown_below hg1
  have hz1 := hb1.size
  cases yes
  · have hcu := hc1
    clear hc1
    go_wp2_with fail
    refine (cur_pick _ B _ _ 2000 hcu (by omega) (by omega) (by omega)).mono ?_
    rintro e w2 ⟨r, rfl, hr0, hr1, hc2, hg2⟩
    have hb2 : Below w.heap.size w w2 := hb1.trans (grown_b hg2 hz1 (by intro g e; have := Option.some.inj e; omega))
    have hz2 := hb2.size
    go_wp2_with fail
    refine (l1Num_any (r - 1000) (by omega) (by omega) _).mono ?_
    rintro e w3 ⟨rfl, m, rfl⟩
    go_wp2
    go_ret
    have := num_small (r - 1000) (by omega)
    exact ⟨_, rfl, by omega, drewN_b hb2 m⟩
  · have hcu := hc1
    clear hc1
    go_wp2_with fail
    refine (cur_of _ B _ _ (hcu.alloc _) (by omega) _ _ (of_lit w1 w.heap.size hcu.lt 9 11 [⟨#[]⟩, ⟨#[45]⟩, ⟨#[45, 48]⟩, ⟨#[48, 48]⟩, ⟨#[48, 49]⟩, ⟨#[45, 45, 49]⟩, ⟨#[49, 120]⟩, ⟨#[57, 57, 57, 57, 57, 57]⟩, ⟨#[49, 48, 48, 48, 48, 48, 48]⟩, ⟨#[45, 57, 57, 57, 57, 57, 57]⟩, ⟨#[49, 56, 52, 52, 54, 55, 52, 52, 48, 55, 51, 55, 48, 57, 53, 53, 49, 54, 49, 55]⟩]) (by simp) (by simp)).mono ?_
    rintro e w2 ⟨x, rfl, hx, hc2, hg2⟩
    go_wp2
    go_ret
    refine ⟨x, rfl, ?_, grown_below (hg1.trans ((grown_alloc _ _ _).trans hg2))⟩
    revert x
    decide

set_option maxHeartbeats 400000 in
theorem drawAppend (w : World) (B : Nat) (v : Value) (h : CodeArg w B v) :
    Calls Tryd.prog 15 #[v] w fun e w' => ∃ x, e = .returned (.string x) ∧ x.size ≤ 4000 ∧ Below w.heap.size w w' := by
  obtain ⟨bi, bi1, bz0, bz1, bz2⟩ := info_parts (show (Tryd.prog.info? 5).map (fun i => (i.zero, i.size, i.bytes)) = some (some (.int .u8 0), 1, 1) by kernel_rfl)
  obtain ⟨h0, ao, n, cap, rfl, h2, h3⟩ := h
  go_enter Tryd.func15, Tryd.ntmps15
  go_wp2_with fail
  refine (cur_one _ B _ 0 20 (cur_new w B ao n cap h0 h2 h3) (by omega) (by omega) (by omega)).mono ?_
  rintro e w1 ⟨yes, rfl, hc1, hg1⟩
  have hb1 : Below w.heap.size w w1 := grown_below hg1
  have hz1 := hb1.size
  cases yes
  · have hcu := hc1
    clear hc1
    go_wp2_with fail
    refine (cur_any1 _ B _ _ hcu (by omega)).mono ?_
    rintro e w2 ⟨x, rfl, hx, hc2, hg2⟩
    go_wp2
    go_ret
    exact ⟨x, rfl, by omega, grown_below (hg1.trans hg2)⟩
  · have hcu := hc1
    clear hc1
    go_wp2_with fail
    refine (cur_pick _ B _ _ 10 hcu (by omega) (by omega) (by omega)).mono ?_
    rintro e w3 ⟨q, rfl, hq0, hq1, hc3, hg3⟩
    obtain ⟨m, hm⟩ : ∃ m : Nat, 3990 + q = (m : Int) := ⟨(3990 + q).toNat, by omega⟩
    have hsz3 := hg3.size
    have hb3 : Below w.heap.size w w3 := hb1.trans (grown_b hg3 (by omega) (by intro g e; have := Option.some.inj e; omega))
    go_wp2_with (at_make; refine wpList_make_full _ rfl _ _ 22 rfl (w.heap.size + 1) 5 bi (.int .u8 0) 1 Tryd.underlying22 bi1 bz0 bz1 .i64 .i64 _ _ m rfl rfl rfl rfl (by rw [bz2]; omega) (by unfold maxLen; omega) (by have := hcu.lt; omega) ?_; intro w4 hown4 hgrow4)
    have hz : ∀ i, i < m → w4.cell? ⟨w3.heap.size, 0 + i, none⟩ = some (.int .u8 ((List.replicate m (0 : Int)).getD i 0)) := fun i hi => by
      rw [Nat.zero_add, hown4.cellAt i (by omega)]
      simp [Value.cells, toList_madeCells_one, hi]
    have hcv := run_convert_bytes_arg (P := Tryd.prog) w4 22 5 Tryd.underlying22 Tryd.underlying5 w3.heap.size 0 m m (List.replicate m 0) (by simp) hz 9 Tryd.underlying9
    have hzs : (strOfNums (List.replicate m 0)).size = m := by simp [strOfNums, ByteArray.size]
    generalize strOfNums (List.replicate m 0) = zs at hcv hzs
    have hb4 : Below w.heap.size w w4 := hb3.trans (grown_b hgrow4 (by omega) (by simp))
    clear hz hown4
    rw [hcv]
    clear hcv
    go_wp2
    go_ret
    exact ⟨zs, rfl, by omega, hb4⟩

/-- A choice of the law's own: a number from 0 on. -/
theorem vAt_any (ao : Option Addr) (n cap : Nat) (i : Int) (w : World) (B : Nat) (hc : Code w B ao n) (hn : n ≤ 65536) (h0 : 0 ≤ i) (h1 : i ≤ 1000) :
    Calls Tryd.prog 19 #[.slice ao n cap, .int .i64 i] w fun e w' => ∃ r, e = .returned (.int .i64 r) ∧ 0 ≤ r ∧ r ≤ 255 ∧ w = w' := by
  by_cases hlt : i < (n : Int)
  · obtain ⟨j, rfl⟩ : ∃ j : Nat, i = j := ⟨i.toNat, by omega⟩
    obtain ⟨bb, off, x, rfl, _, hx, hx0, hx1⟩ := hc j (by omega)
    go_enter Tryd.func19, Tryd.ntmps19
    go_wp2
    go_ret
    exact ⟨x, rfl, hx0, hx1, rfl⟩
  · have hni : (n : Int) ≤ 65536 := by omega
    go_enter Tryd.func19, Tryd.ntmps19
    go_wp2
    go_ret
    exact ⟨_, rfl, by omega, by omega, rfl⟩
theorem vAt_const (ao : Option Addr) (n cap : Nat) (i : Int) (w : World) (B : Nat) (hc : Code w B ao n) (hn : n ≤ 65536) (h0 : 0 ≤ i) (h1 : i ≤ 1000) :
    ∃ r : Int, 0 ≤ r ∧ r ≤ 255 ∧ ∀ m : Nat, Calls Tryd.prog 19 #[.slice ao n cap, .int .i64 i] (w.drewN m) fun e w' => e = .returned (.int .i64 r) ∧ w' = w.drewN m := by
  by_cases hlt : i < (n : Int)
  · obtain ⟨j, rfl⟩ : ∃ j : Nat, i = j := ⟨i.toNat, by omega⟩
    obtain ⟨bb, off, x, rfl, _, hx, hx0, hx1⟩ := hc j (by omega)
    refine ⟨x, hx0, hx1, fun m => ?_⟩
    have hx2 : (w.drewN m).cell? ⟨bb, off + j, none⟩ = some (.int .u8 x) := hx
    go_enter Tryd.func19, Tryd.ntmps19
    go_wp2
    go_ret
    exact ⟨rfl, rfl⟩
  · have hni : (n : Int) ≤ 65536 := by omega
    refine ⟨(i * 7 + n) % 256, by omega, by omega, fun m => ?_⟩
    go_enter Tryd.func19, Tryd.ntmps19
    go_wp2
    go_ret
    exact ⟨rfl, rfl⟩
theorem xor_ne (a : UInt8) (d : Int) (h1 : 1 ≤ d) (h2 : d ≤ 255) : ∃ c : UInt8, bits .xor .u8 (a.toNat : Int) d = (c.toNat : Int) ∧ c ≠ a := by
  obtain ⟨e, rfl⟩ : ∃ e : Nat, d = e := ⟨d.toNat, by omega⟩
  have ha := a.toNat_lt
  have he : (UInt8.ofNat e).toNat = e := UInt8.toNat_ofNat_of_lt (by show e < 256; omega)
  refine ⟨a ^^^ UInt8.ofNat e, ?_, fun h => ?_⟩
  · rw [u8_xor_nat _ _ (by omega) (by omega), UInt8.toNat_xor, he]
  · have h3 := congrArg UInt8.toNat h
    rw [UInt8.toNat_xor, he] at h3
    have h4 : a.toNat ^^^ (a.toNat ^^^ e) = 0 := by rw [h3, Nat.xor_self]
    rw [← Nat.xor_assoc, Nat.xor_self, Nat.zero_xor] at h4
    omega
end Go.Proofs.YtkjiejobiihipaaDoor
