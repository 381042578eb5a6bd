/- The specification's draws of samples. -/
import Derived.Test.YtkafmfpbfedmdaaCurB
import Derived.Test.YtkafmfpbfedmdaaBx
import Derived.Maps.AppendAt
namespace Go.Proofs.Ytkafmfpbfedmdaa
open Go.ChangeShapes Go.WideShapes Go.ChangeAt Go.RowKit Go.ChangeMaps
set_option linter.unusedSimpArgs false
set_option linter.unusedVariables false

theorem grown_new {w0 w2 w3 : World} {b : Nat} {row : Option Nat} (h : w0.grownBy w2 (some b)) (h2 : w2.grownBy w3 row) (hr : ∀ g, row = some g → w0.heap.size ≤ g ∨ g = b) : w0.grownBy w3 (some b) :=
  ⟨h2.os.trans h.os, h2.tape.trans h.tape, h2.output.trans h.output, Nat.le_trans h.size h2.size, fun k hk hne => (h2.block k (Nat.lt_of_lt_of_le hk h.size) (by
    intro e
    rcases hr k e.symm with h9 | h9
    · omega
    · exact hne (by rw [h9]))).trans (h.block k hk hne)⟩

theorem ints_lit1 (w : World) (o : Obj) (b : Nat) (hb : b < w.heap.size) (T : TypeId) (cap : Nat) (xs : List Int) :
    OfInts ((w.alloc o).alloc (.cells (xs.map (Value.int .i64)).toArray T)) b (.slice (some ⟨w.heap.size + 1, 0, none⟩) xs.length cap) xs := by
  have h := ints_lit (w.alloc o) b (by simp; omega) T cap xs
  rwa [World.size_alloc] at h
theorem lit_cell0 {w : World} {o : Obj} {g i : Nat} {v : Value} (hlt : g < w.heap.size) (hc : w.cell? ⟨g, i, none⟩ = some v) : (w.drew.alloc o).cell? ⟨g, i, none⟩ = some v :=
  (World.cell?_of_block (w := w) (a := ⟨g, i, none⟩) (Below.heap_alloc w.drew o g hlt)).trans hc
theorem lit_cell {w w4 : World} {o : Obj} {b g i : Nat} {v : Value} (hg : (w.drew.alloc o).grownBy w4 (some b)) (hgb : g ≠ b) (hlt : g < w.heap.size) (hc : w.cell? ⟨g, i, none⟩ = some v) : w4.cell? ⟨g, i, none⟩ = some v :=
  (grown_cell hg hgb (by have := (grown_alloc w.drew o none).size; exact Nat.lt_of_lt_of_le hlt this)).trans (lit_cell0 hlt hc)
theorem lit_grown {w w4 : World} {o : Obj} {b : Nat} (hg : (w.drew.alloc o).grownBy w4 (some b)) : w.grownBy w4 (some b) :=
  let h := (grown_alloc w.drew o (some b)).trans hg
  ⟨h.os, h.tape, h.output, h.size, h.block⟩
theorem leastAny (x y : Int) (w : World) :
    Calls Try.prog 65 #[.int .i64 x, .int .i64 y] w fun e w' => e = .returned (.int .i64 (if x < y then x else y)) ∧ w = w' := by
  by_cases h : x < y
  · rw [if_pos h]
    go_enter Try.func65, Try.ntmps65
    go_wp2
    go_ret
    exact ⟨rfl, rfl⟩
  · rw [if_neg h]
    go_enter Try.func65, Try.ntmps65
    go_wp2
    go_ret
    exact ⟨rfl, rfl⟩
theorem leastB (x y z : Int) (w : World) (h : (if x < y then x else y) = z) :
    Calls Try.prog 65 #[.int .i64 x, .int .i64 y] w fun e w' => e = .returned (.int .i64 z) ∧ w = w' := h ▸ leastAny x y w

/-- What has been drawn of samples so far. -/
def Smp (w0 : World) (B b k : Nat) (wr : World) (v : Value) (xs : List Int) : Prop :=
  wr.ownsRow w0.heap.size 3 1 v xs.length (xs.map (Value.int .i64)) ∧ (∃ ao cap, v = .slice ao xs.length cap) ∧ (∀ x ∈ xs, -100000 - 5 * (xs.length : Int) ≤ x ∧ x ≤ 100001) ∧ Cur wr B b (k + 10 * xs.length) ∧ w0.grownBy wr (some b)
theorem Smp.snoc {w0 : World} {B b k k' : Nat} {wr w2 w3 : World} {v v' : Value} {xs : List Int} {x : Int} {o : Obj} (h : Smp w0 B b k wr v xs) (hb : b < w0.heap.size) (hg : wr.grownBy w2 (some b)) (hc : Cur w2 B b k') (hk : k' ≤ k + 10 * xs.length + 10)
    (hown : w3.ownsRow w0.heap.size 3 1 v' (xs.length + 1) (xs.map (Value.int .i64) ++ [.int .i64 x])) (hgrow : (w2.alloc o).grownBy w3 v.ownBlock) (h1 : -100000 - 5 * ((xs.length : Int) + 1) ≤ x) (h2 : x ≤ 100001) : Smp w0 B b k w3 v' (xs ++ [x]) := by
  obtain ⟨hrow, hf, hx, hcu, hgr⟩ := h
  have hlo : ∀ g, v.ownBlock = some g → w0.heap.size ≤ g := fun g e => (hrow.lt g e).1
  refine ⟨by simpa using hown, by simpa using row_form hown, ?_, ?_, ?_⟩
  · intro y hy
    rw [List.length_append, List.length_singleton]
    rcases List.mem_append.1 hy with hy | hy
    · have := hx y hy
      constructor
      · have := this.1; push_cast; omega
      · exact this.2
    · rw [List.mem_singleton.1 hy]
      exact ⟨by push_cast; omega, h2⟩
  · have := (hc.alloc o).keep hgrow (fun g e => Nat.lt_of_lt_of_le hb (hlo g e))
    exact this.mono (by rw [List.length_append, List.length_singleton]; omega)
  · exact grown_new (hgr.trans hg) ((grown_alloc w2 o _).trans hgrow) (fun g e => Or.inl (hlo g e))

theorem Smp.draw {w0 : World} {B b k k' k2 : Nat} {wr w2 : World} {v : Value} {xs : List Int} (h : Smp w0 B b k wr v xs) (hb : b < w0.heap.size) (hg : wr.grownBy w2 (some b)) (hc : Cur w2 B b k') (hk : k' ≤ k2 + 10 * xs.length) : Smp w0 B b k2 w2 v xs := by
  obtain ⟨hrow, hf, hx, hcu, hgr⟩ := h
  exact ⟨kept_row hrow hg hb, hf, hx, hc.mono hk, hgr.trans hg⟩

end Go.Proofs.Ytkafmfpbfedmdaa
