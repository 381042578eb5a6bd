/- A copy of a slice of integers in memory of its own: both programs. -/
import Derived.Test.YtklilfbokpljkacInt
import Derived.Laws.AppendOwnNone
import Derived.Lib.LazyBuf
namespace Go.Proofs.Ytklilfbokpljkac
open Go.ChangeShapes Go.WideShapes Go.ChangeAt Go.RowKit Go.ChangeMaps
set_option linter.unusedSimpArgs false
set_option linter.unusedVariables false

theorem below_app {w w' : World} {o : Obj} {v : Value} (h : (w.alloc o).grownBy w' v.ownBlock) (hv : ∀ g, v.ownBlock = some g → w.heap.size ≤ g) : Below w.heap.size w w' :=
  ((Below.refl _ w).alloc (Nat.le_refl _) o).grown h (by simp) hv
theorem Lst.split {α : Type} {en : α → Value} {w : World} {B : Nat} {v : Value} {xs : List α} (h : Lst en w B v xs) :
    (v = .slice none 0 0 ∧ xs = []) ∨ ∃ a cap, v = .slice (some a) xs.length cap ∧ xs.length ≤ cap ∧ cap ≤ maxLen ∧ ∀ i x, xs[i]? = some x → a.block < B ∧ w.cell? (a.add i) = some (en x) := by
  obtain ⟨ao, cap, rfl, h1, h2, h3, h4⟩ := h
  cases ao with
  | none =>
    left
    obtain rfl := h3 rfl
    have : xs = [] := List.eq_nil_of_length_eq_zero (by omega)
    subst this
    exact ⟨rfl, rfl⟩
  | some a =>
    right
    refine ⟨a, cap, rfl, h1, h2, fun i x hi => ?_⟩
    obtain ⟨b, off, e, hb, hc⟩ := h4 i x hi
    cases e
    exact ⟨hb, by rw [Addr.add_lit]; exact hc⟩
theorem Lst.sub {α : Type} {en : α → Value} {w : World} {B b off n cap : Nat} {xs : List α} (h : Lst en w B (.slice (some ⟨b, off, none⟩) n cap) xs) (i j : Nat) (hij : i ≤ j) (hj : j ≤ xs.length) :
    Lst en w B (.slice (some ⟨b, off + i, none⟩) (j - i) (cap - i)) ((xs.drop i).take (j - i)) := by
  obtain ⟨ao, cap', hv, h1, h2, h3, h4⟩ := h
  simp only [Value.slice.injEq] at hv
  obtain ⟨rfl, rfl, rfl⟩ := hv
  have hl : ((xs.drop i).take (j - i)).length = j - i := by rw [List.length_take, List.length_drop]; omega
  refine ⟨_, _, by rw [hl], by omega, by omega, by simp, fun q x hx => ?_⟩
  have hq : q < j - i := by have := (List.getElem?_eq_some_iff.1 hx).1; omega
  rw [List.getElem?_take, if_pos hq, List.getElem?_drop] at hx
  obtain ⟨b', off', e, hb, hc⟩ := h4 (i + q) x hx
  cases e
  exact ⟨b, off + i, rfl, hb, by rw [Nat.add_assoc]; exact hc⟩
theorem map_get {α : Type} {en : α → Value} {xs : List α} {j : Nat} {u : Value} (h : (xs.map en)[j]? = some u) : ∃ x, xs[j]? = some x ∧ u = en x := by
  rw [List.getElem?_map] at h
  cases hx : xs[j]? with
  | none => rw [hx] at h; cases h
  | some x => rw [hx] at h; exact ⟨x, rfl, (Option.some.inj h).symm⟩

theorem implClone (xs : List Int) (v : Value) (w : World) (B : Nat) (h : Lst (Value.int .i64) w B v xs) (hB : B ≤ w.heap.size) (hn : xs.length ≤ 1048576) :
    Calls Try.prog 89 #[v] w fun e w' => ∃ v', e = .returned v' ∧ w'.ownsRow w.heap.size 3 1 v' xs.length (xs.map (Value.int .i64)) ∧ Below w.heap.size w w' := by
  obtain ⟨ti, hi, hz0, hz1, hz2⟩ := info_parts infoInt
  have hrow := World.ownsRow_made (base := w.heap.size) (e := 3) (size := 1) w #[] 0 (Nat.le_refl _) (by simp [maxLen]) rfl
  have hnil := fun (W : World) (a : Option Addr) (l c : Nat) => Lib.run_eql_slice_nil (P := Try.prog) W 22 3 a l c 0 0 Try.underlying22
  rcases h.split with ⟨rfl, rfl⟩ | ⟨a, cap, rfl, _, _, hc⟩
  · go_enter Try.func89, Try.ntmps89
    go_wp2
    go_ret
    exact ⟨_, rfl, World.ownsRow_nil _ _ _ _, Below.refl _ _⟩
  · have hcell : ∀ j u, (xs.map (Value.int .i64))[j]? = some u → (w.alloc (.cells #[] 3)).cell? (a.add j) = some u := by
      intro j u hu
      obtain ⟨x, hx, rfl⟩ := map_get hu
      obtain ⟨g1, g2⟩ := hc j x hx
      rw [← g2]
      exact ((Below.refl B w).alloc hB _).cell (by unfold Addr.add; split <;> exact g1)
    have h1 : ∀ u ∈ xs.map (Value.int .i64), u.oneCell' = true := by
      intro u hu
      obtain ⟨x, _, rfl⟩ := List.mem_map.1 hu
      rfl
    have HC := Lib.hid hcell
    have H1 := Lib.hid h1
    clear hcell hc h h1
    go_enter Try.func89, Try.ntmps89
    go_wp2_with (at_builtin; refine wpList_append_own _ rfl _ _ 22 rfl w.heap.size 3 ti (.int .i64 0) 1 8 Try.underlying22 hi hz0 hz1 hz2 rfl (by decide) _ 0 [] rfl hrow a xs.length _ (xs.map (Value.int .i64)) rfl (by simp) HC.out H1.out (by unfold maxLen; omega) (by omega) (by simp) ?_; intro v' w1 hown hg _)
    go_ret
    refine ⟨_, rfl, by simpa using hown, below_app hg (by intro g e; cases e; exact Nat.le_refl _)⟩
end Go.Proofs.Ytklilfbokpljkac
