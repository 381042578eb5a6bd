/- Picks: the current ones, by the specification. -/
import Derived.Test.YtklilfbokpljkaaPqT
import Derived.Test.YtklilfbokpljkaaIns
import Derived.Test.YtklilfbokpljkaaAcc
import Derived.Test.YtklilfbokpljkaaQTail
import Derived.IntWalk
namespace Go.Proofs.Ytklilfbokpljkaa
open Go.ChangeShapes Go.WideShapes Go.ChangeAt Go.RowKit Go.ChangeMaps Go.Sort Go.Shelf
set_option linter.unusedSimpArgs false
set_option linter.unusedVariables false

theorem cell_same {w w' : World} {g : Nat} (h : w'.heap[g]? = w.heap[g]?) (o : Nat) : w'.cell? ⟨g, o, none⟩ = w.cell? ⟨g, o, none⟩ := by
  unfold World.cell?; simp only [h]
theorem flat_take {α : Type} {en : α → List Value} {K : Nat} (hK : ∀ x, (en x).length = K) : ∀ (l : List α) (k : Nat), ((l.flatMap en).take (k * K)) = (l.take k).flatMap en
  | [], k => by simp
  | a :: l, 0 => by simp
  | a :: l, k + 1 => by
    rw [List.flatMap_cons, List.take_succ_cons, List.flatMap_cons, Nat.add_mul, Nat.one_mul, Nat.add_comm, List.take_append, hK, Nat.add_sub_cancel_left, List.take_of_length_le (by rw [hK]; omega), flat_take hK l k]
theorem flat_drop {α : Type} {en : α → List Value} {K : Nat} (hK : ∀ x, (en x).length = K) : ∀ (l : List α) (k : Nat), ((l.flatMap en).drop (k * K)) = (l.drop k).flatMap en
  | [], k => by simp
  | a :: l, 0 => by simp
  | a :: l, k + 1 => by
    rw [List.flatMap_cons, List.drop_succ_cons, Nat.add_mul, Nat.one_mul, Nat.add_comm, List.drop_append, hK, Nat.add_sub_cancel_left, List.drop_of_length_le (by rw [hK]; omega), List.nil_append, flat_drop hK l k]
end Go.Proofs.Ytklilfbokpljkaa
