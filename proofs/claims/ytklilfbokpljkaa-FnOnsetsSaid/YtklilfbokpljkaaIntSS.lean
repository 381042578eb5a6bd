/- Slices of slices of integers, each in a block of its own: eq, mark and held of the laws. -/
import Derived.Test.YtklilfbokpljkaaInt
import Derived.Lib.QuietBelow
namespace Go.Proofs.Ytklilfbokpljkaa
open Go.ChangeShapes Go.WideShapes Go.ChangeAt Go.RowKit Go.ChangeMaps Go.Sort
set_option linter.unusedSimpArgs false
set_option linter.unusedVariables false

theorem Own.blk {α : Type} {en : α → Value} {w w' : World} {g : Nat} {v : Value} {xs : List α} (h : Own en w g (g + 1) v xs) (hk : g < w.heap.size → w'.heap[g]? = w.heap[g]?) : Own en w' g (g + 1) v xs := by
  obtain ⟨ao, cap, h1, h2, h3, hn, h4⟩ := h
  refine ⟨ao, cap, h1, h2, h3, hn, fun i x hi => ?_⟩
  obtain ⟨b, off, e1, e0, e2, e3, e4⟩ := h4 i x hi
  obtain rfl : b = g := by omega
  have hb := hk (cell_of_lt e3)
  exact ⟨b, off, e1, e0, e2, (World.cell?_of_block hb).trans e3, (World.frozen?_of_block hb).trans e4⟩
/-- A slice of slices of integers, below block B. -/
def SSL (w : World) (B : Nat) (v : Value) (xss : List (List Int)) : Prop :=
  ∃ us : List Value, us.length = xss.length ∧ Lst id w B v us ∧ ∀ (i : Nat) (u : Value) (xs : List Int), us[i]? = some u → xss[i]? = some xs → Lst (Value.int .i64) w B u xs
/-- The same, each in a block of its own, from block L on. -/
def SSO (w : World) (L B : Nat) (v : Value) (xss : List (List Int)) : Prop :=
  ∃ (us : List Value) (bs : List Nat) (g : Nat), us.length = xss.length ∧ bs.length = xss.length ∧ bs.Nodup ∧ g ∉ bs ∧ (L ≤ g ∧ g < B) ∧ Own id w g (g + 1) v us ∧
    (∀ b ∈ bs, L ≤ b ∧ b < B) ∧ ∀ (i : Nat) (u : Value) (xs : List Int) (b : Nat), us[i]? = some u → xss[i]? = some xs → bs[i]? = some b → Own (Value.int .i64) w b (b + 1) u xs
theorem SSL.below {w w' : World} {B : Nat} {v : Value} {xss : List (List Int)} (h : SSL w B v xss) (hb : Below B w w') : SSL w' B v xss := by
  obtain ⟨us, h1, h2, h3⟩ := h
  exact ⟨us, h1, h2.below hb, fun i u xs hu hx => (h3 i u xs hu hx).below hb⟩
theorem SSL.mono {w : World} {B B' : Nat} {v : Value} {xss : List (List Int)} (h : SSL w B v xss) (hb : B ≤ B') : SSL w B' v xss := by
  obtain ⟨us, h1, h2, h3⟩ := h
  exact ⟨us, h1, h2.mono hb, fun i u xs hu hx => (h3 i u xs hu hx).mono hb⟩
theorem SSL.form {w : World} {B : Nat} {v : Value} {xss : List (List Int)} (h : SSL w B v xss) : ∃ ao cap, v = .slice ao xss.length cap := by
  obtain ⟨us, h1, h2, -⟩ := h
  rw [← h1]; exact h2.form
theorem SSO.form {w : World} {L B : Nat} {v : Value} {xss : List (List Int)} (h : SSO w L B v xss) : ∃ ao cap, v = .slice ao xss.length cap := by
  obtain ⟨us, bs, g, h1, -, -, -, -, h2, -⟩ := h
  rw [← h1]; exact h2.form
theorem SSO.lst {w : World} {L B : Nat} {v : Value} {xss : List (List Int)} (h : SSO w L B v xss) : SSL w B v xss := by
  obtain ⟨us, bs, g, h1, h2, -, -, ⟨-, hg⟩, h3, hb, h4⟩ := h
  refine ⟨us, h1, h3.lst.mono (by omega), fun i u xs hu hx => ?_⟩
  obtain ⟨b, hbi⟩ := get_of_lt (l := bs) (k := i) (by have := (List.getElem?_eq_some_iff.1 hx).1; omega)
  have := hb b (List.mem_of_getElem? hbi)
  exact (h4 i u xs b hu hx hbi).lst.mono (by omega)
theorem SSO.mono {w : World} {L B L' B' : Nat} {v : Value} {xss : List (List Int)} (h : SSO w L B v xss) (hl : L' ≤ L) (hb : B ≤ B') : SSO w L' B' v xss := by
  obtain ⟨us, bs, g, h1, h2, h3, h4, h5, h6, h7, h8⟩ := h
  exact ⟨us, bs, g, h1, h2, h3, h4, by omega, h6, fun b hb => by have := h7 b hb; omega, h8⟩
theorem SSO.kept {w w' : World} {L B : Nat} {v : Value} {xss : List (List Int)} (h : SSO w L B v xss) (hk : ∀ b, L ≤ b → b < B → b < w.heap.size → w'.heap[b]? = w.heap[b]?) : SSO w' L B v xss := by
  obtain ⟨us, bs, g, h1, h2, h3, h4, h5, h6, h7, h8⟩ := h
  exact ⟨us, bs, g, h1, h2, h3, h4, h5, h6.blk (hk g h5.1 h5.2), h7, fun i u xs b hu hx hb => (h8 i u xs b hu hx hb).blk (hk b (h7 b (List.mem_of_getElem? hb)).1 (h7 b (List.mem_of_getElem? hb)).2)⟩
theorem SSO.below {w w' : World} {L B : Nat} {v : Value} {xss : List (List Int)} (h : SSO w L B v xss) (hb : Below B w w') : SSO w' L B v xss := h.kept fun b _ h2 _ => hb.block b h2
theorem SSO.high {w w' : World} {L B L' U' : Nat} {v : Value} {xss : List (List Int)} (h : SSO w L B v xss) (hu : Upd L' U' w w') (hU : U' ≤ L) : SSO w' L B v xss := h.kept fun b h1 _ h3 => hu.block b h3 (Or.inr (by omega))

/-- How many numbers. -/
def totSS : List (List Int) → Nat
  | [] => 0
  | xs :: r => xs.length + totSS r
theorem totSS_append : ∀ (a b : List (List Int)), totSS (a ++ b) = totSS a + totSS b
  | [], b => by simp [totSS]
  | x :: a, b => by rw [List.cons_append, totSS, totSS, totSS_append a b]; omega
theorem totSS_succ {xss : List (List Int)} {i : Nat} {xs : List Int} (h : xss[i]? = some xs) : totSS (xss.take (i + 1)) = totSS (xss.take i) + xs.length := by
  rw [take_snoc h, totSS_append]; simp [totSS]
theorem totSS_le : ∀ (xss : List (List Int)) (i : Nat), totSS (xss.take i) ≤ totSS xss
  | [], i => by simp [totSS]
  | x :: r, 0 => by simp [totSS]
  | x :: r, i + 1 => by rw [List.take_succ_cons, totSS, totSS]; have := totSS_le r i; omega
def marksSS : Int → List (List Int) → List (List Int)
  | _, [] => []
  | k, xs :: r => imarks k xs.length :: marksSS (k + xs.length) r
theorem marksSS_len : ∀ (k : Int) (xss : List (List Int)), (marksSS k xss).length = xss.length
  | _, [] => rfl
  | k, xs :: r => by rw [marksSS, List.length_cons, List.length_cons, marksSS_len]
theorem marksSS_get : ∀ {k : Int} {xss : List (List Int)} {i : Nat} {xs : List Int}, xss[i]? = some xs → (marksSS k xss)[i]? = some (imarks (k + (totSS (xss.take i) : Nat)) xs.length)
  | k, ys :: r, 0, xs, h => by simp at h; subst h; simp [marksSS, totSS]
  | k, ys :: r, i + 1, xs, h => by
    have h1 : r[i]? = some xs := by simpa using h
    have h2 := marksSS_get (k := k + ys.length) h1
    rw [marksSS, List.getElem?_cons_succ, h2, List.take_succ_cons, totSS]
    congr 2; push_cast; omega

theorem nodup_at {bs : List Nat} (h : bs.Nodup) {i j b : Nat} (hi : bs[i]? = some b) (hj : bs[j]? = some b) : i = j := by
  have hi' := List.getElem?_eq_some_iff.1 hi
  have hj' := List.getElem?_eq_some_iff.1 hj
  rcases Nat.lt_trichotomy i j with q | q | q
  · exact absurd (hi'.2.trans hj'.2.symm) (List.pairwise_iff_getElem.1 h i j hi'.1 hj'.1 q)
  · exact q
  · exact absurd (hj'.2.trans hi'.2.symm) (List.pairwise_iff_getElem.1 h j i hj'.1 hi'.1 q)
end Go.Proofs.Ytklilfbokpljkaa
