/- The specification's draws of places and stations. -/
import Derived.Test.YtklilfbokpljkacCurB
import Derived.Test.YtklilfbokpljkacFStation
import Derived.Test.YtklilfbokpljkacAcc
import Derived.Deep.RegionHeld3
namespace Go.Proofs.Ytklilfbokpljkac
open Go.ChangeShapes Go.WideShapes Go.ChangeAt Go.RowKit Go.ChangeMaps
set_option linter.unusedSimpArgs false
set_option linter.unusedVariables false

theorem OfInts.grown {w w' : World} {b : Nat} {v : Value} {xs : List Int} (h : OfInts w b v xs) (hg : w.grownBy w' (some b)) : OfInts w' b v xs := by
  obtain ⟨bb, off, cap, h1, h2, h3, h4⟩ := h
  exact ⟨bb, off, cap, h1, h2, Nat.lt_of_lt_of_le h3 hg.size, fun i x hi => (grown_cell hg h2 h3).trans (h4 i x hi)⟩
theorem OfInts.take {w : World} {b : Nat} {a : Option Addr} {n cap : Nat} {xs : List Int} (h : OfInts w b (.slice a n cap) xs) (m : Nat) (hm : m ≤ xs.length) : OfInts w b (.slice a m cap) (xs.take m) := by
  obtain ⟨bb, off, cap, h1, h2, h3, h4⟩ := h
  simp only [Value.slice.injEq] at h1
  obtain ⟨rfl, -, rfl⟩ := h1
  refine ⟨bb, off, _, by rw [List.length_take, Nat.min_eq_left hm], h2, h3, fun i x hi => h4 i x ?_⟩
  rw [List.getElem?_take] at hi
  split at hi
  · exact hi
  · cases hi
theorem mem_take_all {P : Int → Prop} {xs : List Int} (h : ∀ x ∈ xs, P x) {m : Nat} {x : Int} (hx : x ∈ xs.take m) : P x := h x (List.mem_of_mem_take hx)
theorem of_lit1 (w : World) (o : Obj) (b : Nat) (hb : b < w.heap.size) (T : TypeId) (cap : Nat) (xs : List ByteArray) :
    Of ((w.alloc o).alloc (.cells (xs.map Value.string).toArray T)) b (.slice (some ⟨w.heap.size + 1, 0, none⟩) xs.length cap) xs := by
  have h := of_lit (w.alloc o) b (by simp; omega) T cap xs
  rwa [World.size_alloc] at h
theorem setP {a w : World} {b : Nat} (h : a.grownBy w (some b)) {p : Addr} (hp : a.heap.size ≤ p.block) (u : Value) : a.grownBy (w.setCell p u) (some b) :=
  ⟨h.os, h.tape, h.output, by simpa [World.setCell] using h.size, fun i hi hne => (Below.heap_setCell w p u i (by rintro rfl; omega)).trans (h.block i hi hne)⟩
theorem curSet {w : World} {B b k : Nat} (h : Cur w B b k) {p : Addr} (hp : b < p.block) (u : Value) : Cur (w.setCell p u) B b k :=
  h.keep (row := some p.block) ⟨rfl, rfl, rfl, by simp [World.setCell], fun i hi hne => Below.heap_setCell w p u i (fun e => hne (by rw [e]))⟩ (fun g e => by cases e; exact hp)
theorem Bx.setAt {w : World} {b : Nat} {cs : List Value} (h : Bx w b cs) (i : Nat) (hi : i < cs.length) (u : Value) : Bx (w.setCell ⟨b, i, none⟩ u) b (cs.set i u) := by
  refine ⟨⟨by simpa using h.1.1, fun i => by rw [World.frozen?_setCell]; exact h.1.2 i⟩, fun j c hj => ?_⟩
  by_cases e : i = j
  · subst e
    rw [List.getElem?_set_self hi] at hj
    cases hj
    obtain ⟨c', hc'⟩ := get_of_lt hi
    exact World.cell?_setCell_same' _ _ _ (by rw [h.2 i c' hc']; rfl)
  · rw [List.getElem?_set_ne e] at hj
    rw [World.cell?_setCell_other _ _ _ _ (by first | omega | (simp; done) | (simp; omega))]
    exact h.2 j c hj
/-- A station as a draw gives it. -/
def BdS (s : GStation) : Prop := (-2000000 ≤ s.pId ∧ s.pId ≤ 2000000) ∧ s.pName.size ≤ 16 ∧ (-2000000 ≤ s.pX ∧ s.pX ≤ 2000000) ∧ (-2000000 ≤ s.pY ∧ s.pY ≤ 2000000) ∧ (-2000000 ≤ s.pGain ∧ s.pGain ≤ 2000000) ∧ (-2000000 ≤ s.pLow ∧ s.pLow ≤ 2000000) ∧ (-2000000 ≤ s.pHigh ∧ s.pHigh ≤ 2000000) ∧ (-2000000 ≤ s.pUntil ∧ s.pUntil ≤ 2000000)
end Go.Proofs.Ytklilfbokpljkac
