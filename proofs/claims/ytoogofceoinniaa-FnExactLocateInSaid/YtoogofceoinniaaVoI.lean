/- Votes: the events, by the specification. -/
import Derived.Test.YtoogofceoinniaaVoH
namespace Go.Proofs.Ytoogofceoinniaa
open Go.ChangeShapes Go.WideShapes Go.ChangeAt Go.RowKit Go.ChangeMaps Go.Sort
set_option linter.unusedSimpArgs false
set_option linter.unusedVariables false
set_option linter.unusedSimpArgs false
set_option linter.unusedVariables false

/-- A list stays where another block grows. -/
theorem LstK.grown {α : Type} {en : α → List Value} {K : Nat} {w w' : World} {B : Nat} {ao : Option Addr} {n cap : Nat} {row : Option Nat} {xs : List α} (h : LstK en K w B (.slice ao n cap) xs) (hB : B ≤ w.heap.size) (hg : w.grownBy w' row) (hne : ∀ b off, ao = some ⟨b, off, none⟩ → 0 < n → some b ≠ row) : LstK en K w' B (.slice ao n cap) xs := by
  obtain ⟨ao', cap', e, h1, h2, h3, h4⟩ := h
  simp only [Value.slice.injEq] at e
  obtain ⟨rfl, rfl, rfl⟩ := e
  refine ⟨_, _, rfl, h1, h2, h3, fun i x hx => ?_⟩
  obtain ⟨b, off, e, hb, hc⟩ := h4 i x hx
  refine ⟨b, off, e, hb, fun j c hj => ?_⟩
  have := hg.block b (by omega) (hne b off e (by have := (List.getElem?_eq_some_iff.1 hx).1; omega))
  have hs : ∀ o, w'.cell? ⟨b, o, none⟩ = w.cell? ⟨b, o, none⟩ := fun o => by unfold World.cell?; simp only [this]
  rw [hs]
  exact hc j c hj
def lenOf : Value → Nat
  | .slice _ n _ => n
  | _ => 0
theorem LstK.grow {α : Type} {en : α → List Value} {K : Nat} {w : World} {B B' : Nat} {v : Value} {xs : List α} (h : LstK en K w B v xs) (hb : B ≤ B') : LstK en K w B' v xs := h.mono hb
/-- An own list's block is none of those that were there before. -/
theorem OwnK.apart {α : Type} {en : α → List Value} {K : Nat} {w : World} {L B n : Nat} {ao : Option Addr} {cap : Nat} {xs : List α} (h : OwnK en K w L B (.slice ao n cap) xs) : ∀ b off, ao = some ⟨b, off, none⟩ → 0 < n → L ≤ b ∧ b < B := fun b off e h0 => by
  obtain ⟨ao', cap', e1, -, -, -, h4⟩ := h
  simp only [Value.slice.injEq] at e1
  obtain ⟨rfl, rfl, rfl⟩ := e1
  obtain ⟨x, hx⟩ := get_of_lt h0
  obtain ⟨b', off', e2, h5, h6, -⟩ := h4 0 x hx
  rw [e] at e2
  simp only [Option.some.injEq, Addr.mk.injEq, and_true] at e2
  omega
theorem LstK.apart {α : Type} {en : α → List Value} {K : Nat} {w : World} {B n : Nat} {ao : Option Addr} {cap : Nat} {xs : List α} (h : LstK en K w B (.slice ao n cap) xs) : ∀ b off, ao = some ⟨b, off, none⟩ → 0 < n → b < B := fun b off e h0 => by
  obtain ⟨ao', cap', e1, -, -, -, h4⟩ := h
  simp only [Value.slice.injEq] at e1
  obtain ⟨rfl, rfl, rfl⟩ := e1
  obtain ⟨x, hx⟩ := get_of_lt h0
  obtain ⟨b', off', e2, h5, -⟩ := h4 0 x hx
  rw [e] at e2
  simp only [Option.some.injEq, Addr.mk.injEq, and_true] at e2
  omega
theorem oneCellO (o : GOrigin) : ∀ u ∈ encOrigin o, u.oneCell' = true := fun u hu => oneOrigin [o] u (by simpa using hu)
end Go.Proofs.Ytoogofceoinniaa
