/- The specification's cursor: lists of numbers, boxes and rows beside it. -/
import Derived.Test.YtoogofceoinniabCurB
import Derived.Test.YtoogofceoinniabAcc
import Derived.Test.YtoogofceoinniabIns
import Derived.Deep.RegionHeld3
namespace Go.Proofs.Ytoogofceoinniab
open Go.ChangeShapes Go.WideShapes Go.ChangeAt Go.RowKit Go.ChangeMaps
set_option linter.unusedSimpArgs false
set_option linter.unusedVariables false

theorem OfInts.grown {w w' : World} {b : Nat} {v : Value} {xs : List Int} (h : OfInts w b v xs) (hg : w.grownBy w' (some b)) : OfInts w' b v xs := by
  obtain ⟨bb, off, cap, h1, h2, h3, h4⟩ := h
  exact ⟨bb, off, cap, h1, h2, Nat.lt_of_lt_of_le h3 hg.size, fun i x hi => (grown_cell hg h2 h3).trans (h4 i x hi)⟩
theorem OfInts.take {w : World} {b : Nat} {a : Option Addr} {n cap : Nat} {xs : List Int} (h : OfInts w b (.slice a n cap) xs) (m : Nat) (hm : m ≤ xs.length) : OfInts w b (.slice a m cap) (xs.take m) := by
  obtain ⟨bb, off, cap, h1, h2, h3, h4⟩ := h
  simp only [Value.slice.injEq] at h1
  obtain ⟨rfl, -, rfl⟩ := h1
  refine ⟨bb, off, _, by rw [List.length_take, Nat.min_eq_left hm], h2, h3, fun i x hi => h4 i x ?_⟩
  rw [List.getElem?_take] at hi
  split at hi
  · exact hi
  · cases hi
theorem mem_take_all {P : Int → Prop} {xs : List Int} (h : ∀ x ∈ xs, P x) {m : Nat} {x : Int} (hx : x ∈ xs.take m) : P x := h x (List.mem_of_mem_take hx)
theorem setP {a w : World} {b : Nat} (h : a.grownBy w (some b)) {p : Addr} (hp : a.heap.size ≤ p.block) (u : Value) : a.grownBy (w.setCell p u) (some b) :=
  ⟨h.os, h.tape, h.output, by simpa [World.setCell] using h.size, fun i hi hne => (Below.heap_setCell w p u i (by rintro rfl; omega)).trans (h.block i hi hne)⟩
theorem curSet {w : World} {B b k : Nat} (h : Cur w B b k) {p : Addr} (hp : b < p.block) (u : Value) : Cur (w.setCell p u) B b k :=
  h.keep (row := some p.block) ⟨rfl, rfl, rfl, by simp [World.setCell], fun i hi hne => Below.heap_setCell w p u i (fun e => hne (by rw [e]))⟩ (fun g e => by cases e; exact hp)
theorem Bx.setAt {w : World} {b : Nat} {cs : List Value} (h : Bx w b cs) (i : Nat) (hi : i < cs.length) (u : Value) : Bx (w.setCell ⟨b, i, none⟩ u) b (cs.set i u) := by
  refine ⟨⟨by simpa using h.1.1, fun i => by rw [World.frozen?_setCell]; exact h.1.2 i⟩, fun j c hj => ?_⟩
  by_cases e : i = j
  · subst e
    rw [List.getElem?_set_self hi] at hj
    cases hj
    obtain ⟨c', hc'⟩ := get_of_lt hi
    exact World.cell?_setCell_same' _ _ _ (by rw [h.2 i c' hc']; rfl)
  · rw [List.getElem?_set_ne e] at hj
    rw [World.cell?_setCell_other _ _ _ _ (by first | omega | (simp; done) | (simp; omega))]
    exact h.2 j c hj
theorem row_whole {w : World} {base size n : Nat} {e : TypeId} {g cap : Nat} {xs : List Value} (h : w.ownsRow base e size (.slice (some ⟨g, 0, none⟩) n cap) n xs) (h1 : ∀ u ∈ xs, u.oneCell' = true) (c : Nat) :
    SrcK w size (.slice (some ⟨g, 0, none⟩) n c) n xs :=
  ⟨_, _, rfl, h.1, fun q u hu => h.cells (g := g) rfl _ _ hu, h1⟩
theorem grown_up {a w w' : World} {b : Nat} {row : Option Nat} (h : a.grownBy w (some b)) (hg : w.grownBy w' row) (hr : ∀ g, row = some g → a.heap.size ≤ g) : a.grownBy w' (some b) :=
  ⟨hg.os.trans h.os, hg.tape.trans h.tape, hg.output.trans h.output, Nat.le_trans h.size hg.size, fun i hi hne => (hg.block i (Nat.lt_of_lt_of_le hi h.size) (by intro e; have := hr i e.symm; omega)).trans (h.block i hi hne)⟩
theorem own_neS {v v' : Value} {b c : Nat} (h : v'.ownBlock = v.ownBlock ∨ v'.ownBlock = some c) (hv : v.ownBlock ≠ some b) (hc : c ≠ b) : v'.ownBlock ≠ some b := by
  rcases h with h | h
  · rw [h]; exact hv
  · rw [h]; exact fun e => hc (Option.some.inj e)
end Go.Proofs.Ytoogofceoinniab
