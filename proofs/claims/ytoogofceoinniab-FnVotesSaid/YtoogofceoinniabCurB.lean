/- The specification's cursor: one of some texts or numbers, a new cursor, what is kept beside it. -/
import Derived.Test.YtoogofceoinniabCur
namespace Go.Proofs.Ytoogofceoinniab
open Go.ChangeShapes Go.WideShapes Go.ChangeAt Go.RowKit Go.ChangeMaps
set_option linter.unusedSimpArgs false
set_option linter.unusedVariables false

/-- A list of texts that lies in another block than the cursor. -/
def Of (w : World) (b : Nat) (v : Value) (xs : List ByteArray) : Prop :=
  ∃ bb off cap, v = .slice (some ⟨bb, off, none⟩) xs.length cap ∧ bb ≠ b ∧ bb < w.heap.size ∧ ∀ i x, xs[i]? = some x → w.cell? ⟨bb, off + i, none⟩ = some (.string x)

def TextPost (w : World) (B b k : Nat) (Q : ByteArray → Prop) (e : Ending) (w' : World) : Prop :=
  ∃ x, e = .returned (.string x) ∧ Q x ∧ Cur w' B b k ∧ w.grownBy w' (some b)

set_option maxHeartbeats 400000 in
theorem cur_one (w : World) (B b k : Nat) (n : Int) (h : Cur w B b k) (hk : k ≤ 900000) (hn1 : 1 ≤ n) (hn2 : n ≤ 1000000) :
    Calls Try.prog 88 #[.pointer (some ⟨b, 0, none⟩), .int .i64 n] w fun e w' => ∃ x : Bool, e = .returned (.bool x) ∧ Cur w' B b (k + 2) ∧ w.grownBy w' (some b) := by
  go_enter Try.func88, Try.ntmps88
  go_wp2_with fail
  refine (cur_pick _ B b k n h (by omega) (by omega) (by omega)).mono ?_
  rintro e w1 ⟨r, rfl, hr0, hr1, hc1, hg1⟩
  go_wp2
  go_ret
  exact ⟨_, rfl, hc1, hg1⟩

theorem grown_alloc (w : World) (o : Obj) (x : Option Nat) : w.grownBy (w.alloc o) x :=
  ⟨rfl, rfl, rfl, by show _ ≤ (w.heap.push o).size; simp, fun k hk _ => by show (w.heap.push o)[k]? = _; rw [Array.getElem?_push, if_neg (by omega)]⟩
theorem Cur.keep {w w' : World} {row : Option Nat} {B b k : Nat} (h : Cur w B b k) (hg : w.grownBy w' row) (hr : ∀ g, row = some g → b < g) : Cur w' B b k := by
  have hlt := h.lt
  obtain ⟨hB, ao, n, cap, pos, seed, g1, g2, g3, g4, g5, g6⟩ := h
  have hne : ∀ j, j ≤ b → some j ≠ row := fun j hj e => by have := hr j e.symm; omega
  refine ⟨hB, ao, n, cap, pos, seed, ?_, g2, g3, g4, g5, g6.keep fun bb o hbb => World.cell?_of_block (hg.block bb (by omega) (hne bb (by omega)))⟩
  rw [hg.block b hlt (hne b (Nat.le_refl _))]; exact g1
theorem Cur.alloc {w : World} {B b k : Nat} (h : Cur w B b k) (o : Obj) : Cur (w.alloc o) B b k := h.keep (grown_alloc w o none) (by simp)
theorem grown_b {w w' : World} {row : Option Nat} (h : w.grownBy w' row) {B : Nat} (hB : B ≤ w.heap.size) (hr : ∀ g, row = some g → B ≤ g) : Below B w w' :=
  ⟨h.os, h.tape, h.output, h.size, fun k hk => h.block k (by omega) (by intro e; have := hr k e.symm; omega)⟩
/-- A literal of texts. -/
theorem of_lit (w : World) (b : Nat) (hb : b < w.heap.size) (T : TypeId) (cap : Nat) (xs : List ByteArray) :
    Of (w.alloc (.cells (xs.map Value.string).toArray T)) b (.slice (some ⟨w.heap.size, 0, none⟩) xs.length cap) xs := by
  refine ⟨w.heap.size, 0, cap, rfl, by omega, by show _ < (w.heap.push _).size; simp, fun i x hi => ?_⟩
  have e : (w.alloc (.cells (xs.map Value.string).toArray T)).heap = w.heap.push (.cells (xs.map Value.string).toArray T) := rfl
  simp [World.cell?, e, hi]
theorem TextPost.imp {w w0 : World} {B b k : Nat} {Q Q' : ByteArray → Prop} {e : Ending} {w' : World} (h : TextPost w B b k Q e w') (hg : w0.grownBy w (some b)) (hQ : ∀ x, Q x → Q' x) : TextPost w0 B b k Q' e w' := by
  obtain ⟨x, h1, h2, h3, h4⟩ := h
  exact ⟨x, h1, hQ x h2, h3, hg.trans h4⟩

/-- The code that a draw is given. -/
def CodeArg (w : World) (B : Nat) (v : Value) : Prop := B ≤ w.heap.size ∧ ∃ ao n cap, v = .slice ao n cap ∧ n ≤ 65536 ∧ Code w B ao n
theorem CodeArg.below {w w' : World} {B : Nat} {v : Value} (h : CodeArg w B v) (hb : Below B w w') : CodeArg w' B v :=
  let ⟨h0, ao, n, cap, h1, h2, h3⟩ := h
  have := hb.size
  ⟨by omega, ao, n, cap, h1, h2, h3.keep fun bb o hbb => hb.cell (p := ⟨bb, o, none⟩) hbb⟩

/-- A new cursor. -/
theorem cur_new (w : World) (B : Nat) (ao : Option Addr) (n cap : Nat) (hB : B ≤ w.heap.size) (hn : n ≤ 65536) (hc : Code w B ao n) :
    Cur (w.alloc (.cells #[.slice ao n cap, .int .i64 0, .int .u64 0] 106)) B w.heap.size 0 := by
  have e : (w.alloc (.cells #[.slice ao n cap, .int .i64 0, .int .u64 0] 106)).heap = w.heap.push (.cells #[.slice ao n cap, .int .i64 0, .int .u64 0] 106) := rfl
  exact ⟨hB, ao, n, cap, 0, 0, by rw [e, Array.getElem?_push, if_pos rfl]; rfl, hn, Nat.le_refl _, by omega, by omega, hc.keep fun bb o hbb => World.cell?_of_block (by rw [e, Array.getElem?_push, if_neg (by show ¬ bb = _; omega)])⟩
theorem grown_below {w w' : World} {o : Obj} (h : (w.alloc o).grownBy w' (some w.heap.size)) : Below w.heap.size w w' := by
  have h2 : w.grownBy w' (some w.heap.size) := (grown_alloc w o _).trans h
  exact ⟨h2.os, h2.tape, h2.output, h2.size, fun k hk => h2.block k hk (by intro e; have := Option.some.inj e; omega)⟩

theorem kept_row {w w' : World} {base size n b : Nat} {e : TypeId} {v : Value} {xs : List Value} (h : w.ownsRow base e size v n xs) (hg : w.grownBy w' (some b)) (hb : b < base) : w'.ownsRow base e size v n xs :=
  h.kept hg (Or.inr fun e2 => by have := (h.lt b e2).1; omega)

/-- A list of numbers that lies in another block than the cursor. -/
def OfInts (w : World) (b : Nat) (v : Value) (xs : List Int) : Prop :=
  ∃ bb off cap, v = .slice (some ⟨bb, off, none⟩) xs.length cap ∧ bb ≠ b ∧ bb < w.heap.size ∧ ∀ i x, xs[i]? = some x → w.cell? ⟨bb, off + i, none⟩ = some (.int .i64 x)
theorem ints_lit (w : World) (b : Nat) (hb : b < w.heap.size) (T : TypeId) (cap : Nat) (xs : List Int) :
    OfInts (w.alloc (.cells (xs.map (Value.int .i64)).toArray T)) b (.slice (some ⟨w.heap.size, 0, none⟩) xs.length cap) xs := by
  refine ⟨w.heap.size, 0, cap, rfl, by omega, by show _ < (w.heap.push _).size; simp, fun i x hi => ?_⟩
  have e : (w.alloc (.cells (xs.map (Value.int .i64)).toArray T)).heap = w.heap.push (.cells (xs.map (Value.int .i64)).toArray T) := rfl
  simp [World.cell?, e, hi]
set_option maxHeartbeats 400000 in
theorem cur_among (w : World) (B b k : Nat) (h : Cur w B b k) (hk : k ≤ 900000) (v : Value) (xs : List Int) (hl : OfInts w b v xs) (h0 : 0 < xs.length) (hx : xs.length ≤ 200) :
    Calls Try.prog 84 #[.pointer (some ⟨b, 0, none⟩), v] w fun e w' => ∃ x, e = .returned (.int .i64 x) ∧ x ∈ xs ∧ Cur w' B b (k + 2) ∧ w.grownBy w' (some b) := by
  obtain ⟨bb, off, cap, rfl, hne, hlt, hc⟩ := hl
  go_enter Try.func84, Try.ntmps84
  go_wp2_with fail
  refine (cur_pick _ B b k (xs.length : Int) h (by omega) (by omega) (by omega)).mono ?_
  rintro e w1 ⟨r, rfl, hr0, hr1, hc1, hg1⟩
  obtain ⟨j, rfl⟩ : ∃ j : Nat, r = j := ⟨r.toNat, by omega⟩
  obtain ⟨x, hjx⟩ := get_of_lt (l := xs) (k := j) (by omega)
  have hcell : w1.cell? ⟨bb, off + j, none⟩ = some (.int .i64 x) := (grown_cell hg1 hne hlt).trans (hc j x hjx)
  go_wp2
  go_ret
  exact ⟨x, rfl, List.mem_of_getElem? hjx, hc1, hg1⟩

end Go.Proofs.Ytoogofceoinniab
