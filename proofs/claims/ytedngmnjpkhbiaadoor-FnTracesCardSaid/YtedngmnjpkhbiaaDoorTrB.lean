/- FnTraces: what the law asks. -/
import Derived.Test.YtedngmnjpkhbiaaDoorPtI
import Derived.Test.YtedngmnjpkhbiaaDoorJn
import Derived.Test.YtedngmnjpkhbiaaDoorCut
namespace Go.Proofs.YtedngmnjpkhbiaaDoor
open Go.ChangeShapes Go.WideShapes Go.ChangeAt Go.RowKit Go.ChangeMaps
set_option linter.unusedSimpArgs false
set_option linter.unusedVariables false

theorem resTx_size (t : Tr) : (resTx t).size ≤ 1048576 := by
  unfold resTx
  split
  · rename_i h
    have := tx_size t h t.xs.length (Nat.le_refl _)
    have := (goodT_yes h).1
    unfold textT
    omega
  · simp
/-- A trace is recovered from its text. -/
theorem text_back {t : Tr} (h : goodT t = true) : okPT (resTx t) = true ∧ resPT (resTx t) = t := by
  have e : resTx t = textT t := by unfold resTx; rw [h]; rfl
  obtain ⟨h1, h2⟩ := pt_complete h
  rw [e]
  exact ⟨h1, by rw [resPT_yes h1, h2]⟩
/-- A text that is read is the text of what was read. -/
theorem parse_back {s : ByteArray} (h : okPT s = true) : goodT (resPT s) = true ∧ resTx (resPT s) = s := by
  obtain ⟨_, _, _, h1, h2⟩ := okPT_yes h
  rw [resPT_yes h]
  exact ⟨h1, by unfold resTx; rw [h1]; exact h2⟩
theorem okX_sub {xs ys : List Int} (h : okX xs = true) (hs : ∀ y ∈ ys, y ∈ xs) : okX ys = true := by
  unfold okX at *
  have h' := of_decide_eq_true h
  exact decide_eq_true fun y hy => h' y (hs y hy)
/-- Two parts that are joined again are the whole. -/
theorem cut_join {t : Tr} (h : goodT t = true) {k : Nat} (h1 : 1 ≤ k) (h2 : k < t.xs.length) :
    ∃ a b : Tr, okCut t t.start (t.start + (k : Int) - 1) = true ∧ resCut t t.start (t.start + (k : Int) - 1) = a ∧ okCut t (t.start + (k : Int)) (t.start + (t.xs.length : Int) - 1) = true ∧
      resCut t (t.start + (k : Int)) (t.start + (t.xs.length : Int) - 1) = b ∧ okJn a b = true ∧ resJn a b = t ∧ a.xs.length ≤ 1048576 ∧ b.xs.length ≤ 1048576 := by
  obtain ⟨⟨g1, g2, g3, g4, g5, g6⟩, g7⟩ := goodT_yes h
  have c1 : okCut t t.start (t.start + (k : Int) - 1) = true := by
    unfold okCut hasT
    rw [h, decide_eq_true (show t.start ≤ t.start ∧ t.start < t.start + (t.xs.length : Int) by omega), decide_eq_true (show t.start ≤ t.start + (k : Int) - 1 ∧ t.start + (k : Int) - 1 < t.start + (t.xs.length : Int) by omega), decide_eq_true (show t.start ≤ t.start + (k : Int) - 1 by omega)]
    rfl
  have c2 : okCut t (t.start + (k : Int)) (t.start + (t.xs.length : Int) - 1) = true := by
    unfold okCut hasT
    rw [h, decide_eq_true (show t.start ≤ t.start + (k : Int) ∧ t.start + (k : Int) < t.start + (t.xs.length : Int) by omega), decide_eq_true (show t.start ≤ t.start + (t.xs.length : Int) - 1 ∧ t.start + (t.xs.length : Int) - 1 < t.start + (t.xs.length : Int) by omega), decide_eq_true (show t.start + (k : Int) ≤ t.start + (t.xs.length : Int) - 1 by omega)]
    rfl
  have r1 : resCut t t.start (t.start + (k : Int) - 1) = ⟨t.st, t.start, t.xs.take k⟩ := by
    unfold resCut
    rw [c1, if_pos rfl, show (t.start - t.start).toNat = 0 by omega, show (t.start + (k : Int) - 1 - t.start + 1).toNat = k by omega, List.drop_zero, Nat.sub_zero]
  have r2 : resCut t (t.start + (k : Int)) (t.start + (t.xs.length : Int) - 1) = ⟨t.st, t.start + (k : Int), t.xs.drop k⟩ := by
    unfold resCut
    rw [c2, if_pos rfl, show (t.start + (k : Int) - t.start).toNat = k by omega, show (t.start + (t.xs.length : Int) - 1 - (t.start) + 1).toNat = t.xs.length by omega]
    rw [List.take_of_length_le (by rw [List.length_drop]; omega)]
  refine ⟨_, _, c1, r1, c2, r2, ?_, ?_, by simp; omega, by simp; omega⟩
  · have la : (t.xs.take k).length = k := by rw [List.length_take]; omega
    have lb : (t.xs.drop k).length = t.xs.length - k := List.length_drop
    have ga : goodT ⟨t.st, t.start, t.xs.take k⟩ = true := goodT_mk (by simp only [la]; omega) (okX_sub g7 fun y hy => List.mem_of_mem_take hy)
    have gb : goodT ⟨t.st, t.start + (k : Int), t.xs.drop k⟩ = true := goodT_mk (by simp only [lb]; omega) (okX_sub g7 fun y hy => List.mem_of_mem_drop hy)
    have gj : joinT ⟨t.st, t.start, t.xs.take k⟩ ⟨t.st, t.start + (k : Int), t.xs.drop k⟩ = t := by unfold joinT; simp
    unfold okJn
    rw [gj, ga, gb, h]
    simp only [la]
    rw [decide_eq_true (show 0 < k by omega)]
    simp
  · have gj : joinT ⟨t.st, t.start, t.xs.take k⟩ ⟨t.st, t.start + (k : Int), t.xs.drop k⟩ = t := by unfold joinT; simp
    have la : (t.xs.take k).length = k := by rw [List.length_take]; omega
    have lb : (t.xs.drop k).length = t.xs.length - k := List.length_drop
    have ga : goodT ⟨t.st, t.start, t.xs.take k⟩ = true := goodT_mk (by simp only [la]; omega) (okX_sub g7 fun y hy => List.mem_of_mem_take hy)
    have gb : goodT ⟨t.st, t.start + (k : Int), t.xs.drop k⟩ = true := goodT_mk (by simp only [lb]; omega) (okX_sub g7 fun y hy => List.mem_of_mem_drop hy)
    have ok : okJn ⟨t.st, t.start, t.xs.take k⟩ ⟨t.st, t.start + (k : Int), t.xs.drop k⟩ = true := by
      unfold okJn
      rw [gj, ga, gb, h]
      simp only [la]
      rw [decide_eq_true (show 0 < k by omega)]
      simp
    unfold resJn
    rw [ok, gj]
    rfl
end Go.Proofs.YtedngmnjpkhbiaaDoor
