/- A slice that grows by append. -/
import Derived.Test.YtoogofceoinniabBx
import Derived.Laws.AppendOwnNone
namespace Go.Proofs.Ytoogofceoinniab
open Go.ChangeShapes Go.WideShapes Go.ChangeAt Go.RowKit Go.ChangeMaps
set_option linter.unusedSimpArgs false
set_option linter.unusedVariables false

theorem row_drewN {w : World} {base size n : Nat} {e : TypeId} {v : Value} {xs : List Value} (h : w.ownsRow base e size v n xs) (m : Nat) : (w.drewN m).ownsRow base e size v n xs := h
theorem size_da {w : World} {n : Nat} {o : Obj} {B : Nat} (h : B ≤ w.heap.size) : B ≤ ((w.drewN n).alloc o).heap.size := by
  show B ≤ (w.heap.push o).size
  simp; omega
theorem below_app2 {B : Nat} {w w1 : World} {o : Obj} {base e size n : Nat} {v : Value} {xs : List Value} (hrow : w.ownsRow base e size v n xs) (hg : (w.alloc o).grownBy w1 v.ownBlock) (hB : B ≤ w.heap.size) (hb : B ≤ base) : Below B w w1 :=
  ((Below.refl B w).alloc hB o).grown hg (by simp; omega) (fun k hk => Nat.le_trans hb (hrow.lt k hk).1)

theorem row_below {w w' : World} {base size n : Nat} {e : TypeId} {v : Value} {xs : List Value} (h : w.ownsRow base e size v n xs) (hb : Below w.heap.size w w') : w'.ownsRow base e size v n xs := h.kept (World.Below_grown hb) (Classical.em _)
/-- An empty slice that was made. -/
theorem row_empty (w : World) {base : Nat} (e : TypeId) (size : Nat) (h : base ≤ w.heap.size) : (w.alloc (.cells #[] e)).ownsRow base e size (.slice (some ⟨w.heap.size, 0, none⟩) 0 0) 0 [] := World.ownsRow_made w #[] 0 h (by simp [maxLen]) (by simp)
theorem own_empty {α : Type} {en : α → Value} (w : World) {L : Nat} (e : TypeId) (h : L ≤ w.heap.size) : Own en (w.alloc (.cells #[] e)) L (w.alloc (.cells #[] e)).heap.size (.slice (some ⟨w.heap.size, 0, none⟩) 0 0) [] := Own.of_row (row_empty w e 1 h)
end Go.Proofs.Ytoogofceoinniab
