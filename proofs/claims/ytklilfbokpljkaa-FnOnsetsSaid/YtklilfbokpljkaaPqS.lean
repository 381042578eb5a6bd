/- Picks: IsPick, ArePicks, WithdrawLast, WindowOf. -/
import Derived.Test.YtklilfbokpljkaaPqR
import Derived.Test.YtklilfbokpljkaaIns
namespace Go.Proofs.Ytklilfbokpljkaa
open Go.ChangeShapes Go.WideShapes Go.ChangeAt Go.RowKit Go.ChangeMaps Go.Sort Go.Shelf
set_option linter.unusedSimpArgs false
set_option linter.unusedVariables false
theorem implIsPk (p : GPick) (v : Value) (w : World) (B : Nat) (h : PickVL w B v p) (_ : B ≤ w.heap.size) (_ : sz1Pick p ≤ 1048576) (_ : wfPick p) :
    Calls Try.prog 170 #[v] w fun e w' => e = .returned (.bool (oneB p)) ∧ Below w.heap.size w w' := by
  obtain rfl := h.form
  exact implOne p _ w rfl
theorem implArePk (xs : List GPick) (v : Value) (w : World) (B : Nat) (h : PickL w B v xs) (hB : B ≤ w.heap.size) (hn : szsPick xs ≤ 1048576) (hw : ∀ s ∈ xs, wfPick s) :
    Calls Try.prog 145 #[v] w fun e w' => e = .returned (.bool (goodP xs)) ∧ Below w.heap.size w w' := implGoodP xs v _ w B h hB (Nat.le_trans (szsPick_len xs) hn) rfl
/-- The last one withdrawn. -/
noncomputable def okWd (xs : List GPick) : Bool := goodP xs && decide (0 < xs.length)
noncomputable def resWd (xs : List GPick) : List GPick := if okWd xs = true then xs.take (xs.length - 1) else []
theorem wd_bad {xs : List GPick} (h : goodP xs = false) : okWd xs = false ∧ resWd xs = [] := by
  have e : okWd xs = false := by unfold okWd; rw [h]; rfl
  exact ⟨e, by unfold resWd; rw [e]; rfl⟩
theorem wd_nil {xs : List GPick} (h : xs.length = 0) : okWd xs = false ∧ resWd xs = [] := by
  have e : okWd xs = false := by unfold okWd; rw [decide_eq_false (by omega), Bool.and_false]
  exact ⟨e, by unfold resWd; rw [e]; rfl⟩
theorem wd_yes {xs : List GPick} (h : goodP xs = true) (h0 : 0 < xs.length) : okWd xs = true ∧ resWd xs = xs.take (xs.length - 1) := by
  have e : okWd xs = true := by unfold okWd; rw [h, decide_eq_true h0]; rfl
  exact ⟨e, by unfold resWd; rw [e]; rfl⟩
theorem resWd_len {xs : List GPick} (hn : szsPick xs ≤ 1048576) : szsPick (resWd xs) ≤ 1048576 := by
  rw [szsPick_split] at *
  unfold resWd
  split
  · rw [List.length_take]; omega
  · simp
/-- A whole list as a source. -/
theorem lst_src {w : World} {B : Nat} {b off n cap : Nat} {xs : List GPick} (h : PickL w B (.slice (some ⟨b, off, none⟩) n cap) xs) : ∀ j u, (xs.flatMap encPick)[j]? = some u → w.cell? ((⟨b, off, none⟩ : Addr).add j) = some u := by
  intro j u hu
  have hj : j < xs.length * 7 := by have := (List.getElem?_eq_some_iff.1 hu).1; rwa [flat_len encPick_len] at this
  obtain ⟨x, hx⟩ := get_of_lt (l := xs) (k := j / 7) (by omega)
  have h1 := flat_get encPick_len xs (j / 7) x hx (j % 7) (by omega)
  rw [show j / 7 * 7 + j % 7 = j by omega, hu] at h1
  have h2 := (h.at hx).2 (j % 7) u h1.symm
  rw [Addr.add_lit]
  rwa [show off + j / 7 * 7 + j % 7 = off + j by omega] at h2
theorem src_of {w : World} {B : Nat} {b off n cap : Nat} {xs : List GPick} (h : PickL w B (.slice (some ⟨b, off, none⟩) n cap) xs) (hn : n = xs.length) : SrcK w 7 (.slice (some ⟨b, off, none⟩) n cap) n (xs.flatMap encPick) :=
  ⟨_, _, rfl, by rw [flat_len encPick_len, hn], lst_src h, onePick xs⟩
end Go.Proofs.Ytklilfbokpljkaa
