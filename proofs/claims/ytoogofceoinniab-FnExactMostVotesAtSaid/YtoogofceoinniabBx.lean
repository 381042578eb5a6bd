/- A variable in memory whose cells are known. -/
import Derived.Test.YtoogofceoinniabInt
import Derived.Deep.RegionHeld3
namespace Go.Proofs.Ytoogofceoinniab
open Go.ChangeShapes Go.WideShapes Go.ChangeAt Go.RowKit Go.ChangeMaps
set_option linter.unusedSimpArgs false
set_option linter.unusedVariables false

/-- Block b holds these cells; they may be written. -/
def Bx (w : World) (b : Nat) (cs : List Value) : Prop := (b < w.heap.size ∧ ∀ i, w.frozen? ⟨b, i, none⟩ = false) ∧ ∀ i c, cs[i]? = some c → w.cell? ⟨b, i, none⟩ = some c
theorem Bx.new (w : World) (cs : List Value) (T : TypeId) : Bx (w.alloc (.cells cs.toArray T)) w.heap.size cs := by
  have e : (w.alloc (.cells cs.toArray T)).heap = w.heap.push (.cells cs.toArray T) := rfl
  exact ⟨⟨by simp, fun i => by simp [World.frozen?, e]⟩, fun i c hi => by simp [World.cell?, e, hi]⟩
theorem Bx.block {w w' : World} {b : Nat} {cs : List Value} (h : Bx w b cs) (hb : w'.heap[b]? = w.heap[b]?) (hz : w.heap.size ≤ w'.heap.size) : Bx w' b cs :=
  ⟨⟨Nat.lt_of_lt_of_le h.1.1 hz, fun i => (World.frozen?_of_block hb).trans (h.1.2 i)⟩, fun i c hi => (World.cell?_of_block hb).trans (h.2 i c hi)⟩
theorem Bx.below {w w' : World} {b : Nat} {cs : List Value} (h : Bx w b cs) (hb : Below w.heap.size w w') : Bx w' b cs := h.block (hb.block b h.1.1) hb.size
theorem Bx.alloc {w : World} {b : Nat} {cs : List Value} (h : Bx w b cs) (o : Obj) : Bx (w.alloc o) b cs := h.below ((Below.refl _ w).alloc (Nat.le_refl _) o)
theorem Bx.upd {w w' : World} {b L U : Nat} {cs : List Value} (h : Bx w b cs) (hu : Upd L U w w') (hb : b < L ∨ U ≤ b) : Bx w' b cs := h.block (hu.block b h.1.1 hb) hu.size
theorem Bx.drewN {w : World} {b : Nat} {cs : List Value} (h : Bx w b cs) (n : Nat) : Bx (w.drewN n) b cs := h
theorem Bx.three {w : World} {b : Nat} {x y z : Value} (h : Bx w b [x, y, z]) : w.cell? ⟨b, 0, none⟩ = some x ∧ w.cell? ⟨b, 1, none⟩ = some y ∧ w.cell? ⟨b, 2, none⟩ = some z := ⟨h.2 0 x rfl, h.2 1 y rfl, h.2 2 z rfl⟩
theorem Bx.setOther {w : World} {b : Nat} {cs : List Value} (h : Bx w b cs) {p : Addr} (hp : p.block ≠ b) (u : Value) : Bx (w.setCell p u) b cs :=
  h.block (Below.heap_setCell w p u b (fun e => hp e.symm)) (by simp [World.setCell])
theorem World.Below_grown {w w1 : World} (h : Below w.heap.size w w1) : w.grownBy w1 none := ⟨h.os, h.tape, h.output, h.size, fun k hk _ => h.block k hk⟩
theorem Bx.set3 {w : World} {b : Nat} {x y z : Value} (h : Bx w b [x, y, z]) (u : Value) : Bx (w.setCell ⟨b, 2, none⟩ u) b [x, y, u] := by
  refine ⟨⟨by simpa using h.1.1, fun i => by rw [World.frozen?_setCell]; exact h.1.2 i⟩, fun i c hi => ?_⟩
  match i, hi with
  | 0, hi => cases hi; rw [World.cell?_setCell_other _ _ _ _ (by simp)]; exact h.2 0 x rfl
  | 1, hi => cases hi; rw [World.cell?_setCell_other _ _ _ _ (by simp)]; exact h.2 1 y rfl
  | 2, hi => cases hi; exact World.cell?_setCell_same' _ _ _ (by rw [h.2 2 z rfl]; rfl)
  | n + 3, hi => simp at hi
theorem Bx.grown {w w' : World} {row : Option Nat} {b : Nat} {cs : List Value} (h : Bx w b cs) (hg : w.grownBy w' row) (hne : some b ≠ row) : Bx w' b cs := h.block (hg.block b h.1.1 hne) hg.size
theorem Bx.set0 {w : World} {b : Nat} {x y z : Value} (h : Bx w b [x, y, z]) (u : Value) : Bx (w.setCell ⟨b, 0, none⟩ u) b [u, y, z] := by
  refine ⟨⟨by simpa using h.1.1, fun i => by rw [World.frozen?_setCell]; exact h.1.2 i⟩, fun i c hi => ?_⟩
  match i, hi with
  | 0, hi => cases hi; exact World.cell?_setCell_same' _ _ _ (by rw [h.2 0 x rfl]; rfl)
  | 1, hi => cases hi; rw [World.cell?_setCell_other _ _ _ _ (by simp)]; exact h.2 1 y rfl
  | 2, hi => cases hi; rw [World.cell?_setCell_other _ _ _ _ (by simp)]; exact h.2 2 z rfl
  | n + 3, hi => simp at hi
theorem Bx.set1 {w : World} {b : Nat} {x y z : Value} (h : Bx w b [x, y, z]) (u : Value) : Bx (w.setCell ⟨b, 1, none⟩ u) b [x, u, z] := by
  refine ⟨⟨by simpa using h.1.1, fun i => by rw [World.frozen?_setCell]; exact h.1.2 i⟩, fun i c hi => ?_⟩
  match i, hi with
  | 0, hi => cases hi; rw [World.cell?_setCell_other _ _ _ _ (by simp)]; exact h.2 0 x rfl
  | 1, hi => cases hi; exact World.cell?_setCell_same' _ _ _ (by rw [h.2 1 y rfl]; rfl)
  | 2, hi => cases hi; rw [World.cell?_setCell_other _ _ _ _ (by simp)]; exact h.2 2 z rfl
  | n + 3, hi => simp at hi
theorem Bx.put3 {w : World} {b : Nat} {x y z : Value} (h : Bx w b [x, y, z]) (x' y' z' : Value) : Bx (((w.setCell ⟨b, 0, none⟩ x').setCell ⟨b, 1, none⟩ y').setCell ⟨b, 2, none⟩ z') b [x', y', z'] := ((h.set0 x').set1 y').set3 z'
theorem Bx.other3 {w : World} {b g : Nat} {cs : List Value} (h : Bx w b cs) (hg : g ≠ b) (x' y' z' : Value) : Bx (((w.setCell ⟨g, 0, none⟩ x').setCell ⟨g, 1, none⟩ y').setCell ⟨g, 2, none⟩ z') b cs :=
  ((h.setOther (p := ⟨g, 0, none⟩) hg x').setOther (p := ⟨g, 1, none⟩) hg y').setOther (p := ⟨g, 2, none⟩) hg z'
theorem Bx.new1 (w : World) (o : Obj) (cs : List Value) (T : TypeId) : Bx ((w.alloc o).alloc (.cells cs.toArray T)) (w.heap.size + 1) cs := by
  have h := Bx.new (w.alloc o) cs T
  rwa [World.size_alloc] at h
theorem Bx.new2 (w : World) (o p : Obj) (cs : List Value) (T : TypeId) : Bx (((w.alloc o).alloc p).alloc (.cells cs.toArray T)) (w.heap.size + 1 + 1) cs := by
  have h := Bx.new1 (w.alloc o) p cs T
  rwa [World.size_alloc] at h
/-- Nothing but answers was drawn. -/
def Drawn (a w : World) : Prop := ∃ n, w = a.drewN n
theorem Drawn.refl (a : World) : Drawn a a := ⟨0, by simp [World.drewN]⟩
theorem Drawn.drewN {a w : World} (h : Drawn a w) (n : Nat) : Drawn a (w.drewN n) := let ⟨m, hm⟩ := h; ⟨m + n, by rw [hm, World.drewN_drewN]⟩
theorem Drawn.cell {a w : World} (h : Drawn a w) (p : Addr) : w.cell? p = a.cell? p := let ⟨m, hm⟩ := h; by rw [hm]; rfl
theorem Drawn.frozen {a w : World} (h : Drawn a w) (p : Addr) : w.frozen? p = a.frozen? p := let ⟨m, hm⟩ := h; by rw [hm]; rfl
theorem Drawn.below {a w : World} (h : Drawn a w) (B : Nat) : Below B a w := let ⟨m, hm⟩ := h; by rw [hm]; exact drewN_b (Below.refl _ _) _
theorem ret3i {a b a' b' : Int} {c : Bool} (h1 : a = a') (h2 : b = b') : Ending.returned (.tuple #[.int .i64 a, .int .i64 b, .bool c]) = .returned (.tuple #[.int .i64 a', .int .i64 b', .bool c]) := by rw [h1, h2]
end Go.Proofs.Ytoogofceoinniab
