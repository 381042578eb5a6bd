/- Picks: HistoryOf. -/
import Derived.Test.YtklilfbokpljkaaPqT
import Derived.Test.YtklilfbokpljkaaAcc
import Derived.Test.YtklilfbokpljkaaIns
import Derived.IntWalk
namespace Go.Proofs.Ytklilfbokpljkaa
open Go.ChangeShapes Go.WideShapes Go.ChangeAt Go.RowKit Go.ChangeMaps Go.Sort Go.Shelf
set_option linter.unusedSimpArgs false
set_option linter.unusedVariables false

theorem row_empty1 (w : World) (o : Obj) {base : Nat} (e : TypeId) (size : Nat) (h : base ≤ w.heap.size + 1) : ((w.alloc o).alloc (.cells #[] e)).ownsRow base e size (.slice (some ⟨w.heap.size + 1, 0, none⟩) 0 0) 0 [] := by
  have := row_empty (w.alloc o) (base := base) e size (by simpa using h)
  rwa [show (w.alloc o).heap.size = w.heap.size + 1 by simp] at this
theorem own_empty1 {α : Type} {en : α → Value} (w : World) (o : Obj) {L : Nat} (e : TypeId) (h : L ≤ w.heap.size + 1) : Own en ((w.alloc o).alloc (.cells #[] e)) L ((w.alloc o).alloc (.cells #[] e)).heap.size (.slice (some ⟨w.heap.size + 1, 0, none⟩) 0 0) [] := Own.of_row (row_empty1 w o e 1 h)
noncomputable def okH (xs : List GPick) (id : Int) : Bool := goodP xs && (lookP xs id).isSome
noncomputable def resH (xs : List GPick) (id : Int) : List Int := if okH xs id = true then histP xs id else []
theorem h_bad {xs : List GPick} (h : goodP xs = false) (id : Int) : okH xs id = false ∧ resH xs id = [] := by
  have e : okH xs id = false := by unfold okH; rw [h]; rfl
  exact ⟨e, by unfold resH; rw [e]; rfl⟩
theorem h_none {xs : List GPick} {id : Int} (h : lookP xs id = none) : okH xs id = false ∧ resH xs id = [] := by
  have e : okH xs id = false := by unfold okH; rw [h]; exact Bool.and_false _
  exact ⟨e, by unfold resH; rw [e]; rfl⟩
theorem h_yes {xs : List GPick} {id : Int} {p : GPick} (hg : goodP xs = true) (h : lookP xs id = some p) : okH xs id = true ∧ resH xs id = histP xs id := by
  have e : okH xs id = true := by unfold okH; rw [h, hg]; rfl
  exact ⟨e, by unfold resH; rw [e]; rfl⟩
theorem resH_len (xs : List GPick) (id : Int) : (resH xs id).length ≤ 1048576 := by
  unfold resH
  split
  · exact Nat.le_trans (histP_len xs id) (by omega)
  · simp
/-- So far: the Ids before this one. -/
def hisUp (xs : List GPick) (id0 id : Int) (il : List Int) : Prop := histP xs id0 = il ++ histP xs id
theorem hisUp_zero (xs : List GPick) (id : Int) : hisUp xs id id [] := rfl
theorem hisUp_succ {xs : List GPick} (ho : okP xs) {id0 id : Int} {il : List Int} {q : GPick} (h : hisUp xs id0 id il) (hq : lookP xs id = some q) : hisUp xs id0 q.pAfter (il ++ [id]) := by
  unfold hisUp at *
  rw [h, histP_some ho hq]
  simp
theorem hisUp_end {xs : List GPick} {id0 id : Int} {il : List Int} (h : hisUp xs id0 id il) (hq : lookP xs id = none) : il = histP xs id0 := by
  unfold hisUp at h
  rw [h, histP_none hq, List.append_nil]
theorem hisUp_len {xs : List GPick} {id0 id : Int} {il : List Int} (h : hisUp xs id0 id il) : il.length ≤ 9999 := by
  have := histP_len xs id0
  rw [h, List.length_append] at this
  omega
/-- What comes behind a pick: nothing, or one that is there. -/
theorem next_look {xs : List GPick} (ho : okP xs) {q : GPick} (hm : q ∈ xs) : q.pAfter = 0 ∨ ∃ r, lookP xs q.pAfter = some r := by
  by_cases h : q.pAfter = 0
  · exact Or.inl h
  · obtain ⟨r, hr, _⟩ := after_some ho hm h
    exact Or.inr ⟨r, hr⟩
theorem row_keep {w w' : World} {base size n : Nat} {e : TypeId} {v : Value} {xs : List Value} (h : w.ownsRow base e size v n xs) (hk : ∀ b, base ≤ b → w'.heap[b]? = w.heap[b]?) : w'.ownsRow base e size v n xs := by
  obtain ⟨hl, h⟩ := h
  refine ⟨hl, ?_⟩
  rcases h with ⟨h1, hn⟩ | ⟨g, cap, cur, h1, hg, hh, rest⟩
  · exact Or.inl ⟨h1, hn⟩
  · exact Or.inr ⟨g, cap, cur, h1, hg, (hk g hg).trans hh, rest⟩
theorem putCells_heap (b ad : Nat) : ∀ (cs : List Value) (w : World) (s : Nat) (b' : Nat), b' ≠ b → (putCells w b ad cs s).heap[b']? = w.heap[b']?
  | [], _, _, _, _ => rfl
  | c :: cs, w, s, b', h => by
    rw [putCells, putCells_heap b ad cs _ _ b' h]
    exact Below.heap_setCell w ⟨b, ad + s, none⟩ c b' h
end Go.Proofs.Ytklilfbokpljkaa
