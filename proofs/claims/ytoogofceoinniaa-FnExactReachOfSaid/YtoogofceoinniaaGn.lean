/- What serves all chapters from 12 on: lists in a strict order, induction from the end, the first one with a mark. -/
import Derived.Test.YtoogofceoinniaaBase
namespace Go.Proofs.Ytoogofceoinniaa
set_option linter.unusedSimpArgs false
set_option linter.unusedVariables false
set_option linter.unusedSimpArgs false
set_option linter.unusedVariables false

/-- Two lists in a strict order with the same members are one. -/
theorem strict_one {α : Type} {R : α → α → Prop} (hR : ∀ a b, R a b → R b a → False) : ∀ (o l : List α), o.Pairwise R → l.Pairwise R → (∀ x, x ∈ o ↔ x ∈ l) → o = l
  | [], [], _, _, _ => rfl
  | [], b :: l, _, _, h => absurd ((h b).2 (by simp)) (by simp)
  | a :: o, [], _, _, h => absurd ((h a).1 (by simp)) (by simp)
  | a :: o, b :: l, ho, hl, h => by
    rw [List.pairwise_cons] at ho hl
    have ir : ∀ x, ¬ R x x := fun x hx => hR x x hx hx
    have e : a = b := by
      rcases List.mem_cons.1 ((h a).1 (by simp)) with e | ha
      · exact e
      · rcases List.mem_cons.1 ((h b).2 (by simp)) with e | hb
        · exact e.symm
        · exact absurd (hl.1 a ha) (fun g => hR _ _ g (ho.1 b hb))
    subst e
    congr 1
    refine strict_one hR o l ho.2 hl.2 fun x => ⟨fun hx => ?_, fun hx => ?_⟩
    · rcases List.mem_cons.1 ((h x).1 (by simp [hx])) with e | g
      · subst e; exact absurd (ho.1 x hx) (ir x)
      · exact g
    · rcases List.mem_cons.1 ((h x).2 (by simp [hx])) with e | g
      · subst e; exact absurd (hl.1 x hx) (ir x)
      · exact g
/-- Induction from the end. -/
theorem snoc_ind {α : Type} {P : List α → Prop} (h0 : P []) (h1 : ∀ l a, P l → P (l ++ [a])) (l : List α) : P l := by
  have : ∀ n, ∀ l : List α, l.length = n → P l := by
    intro n
    induction n with
    | zero => intro l hl; rw [List.length_eq_zero_iff] at hl; subst hl; exact h0
    | succ n ih =>
      intro l hl
      rcases List.eq_nil_or_concat l with rfl | ⟨t, a, rfl⟩
      · simp at hl
      · rw [List.concat_eq_append] at *
        refine h1 t a (ih t ?_)
        rw [List.length_append, List.length_singleton] at hl
        omega
  exact this _ l rfl
/-- The first one with a mark. -/
def fstP {α : Type} (p : α → Bool) (l : List α) (i : Nat) : Prop := i ≤ l.length ∧ (∀ j a, j < i → l[j]? = some a → p a = false) ∧ ∀ a, l[i]? = some a → p a = true
theorem fstP_one {α : Type} {p : α → Bool} {l : List α} {i j : Nat} (h : fstP p l i) (g : fstP p l j) : i = j := by
  rcases Nat.lt_trichotomy i j with q | q | q
  · obtain ⟨a, ha⟩ := get_of_lt (l := l) (k := i) (by have := g.1; omega)
    have := h.2.2 a ha; have := g.2.1 i a q ha; simp_all
  · exact q
  · obtain ⟨a, ha⟩ := get_of_lt (l := l) (k := j) (by have := h.1; omega)
    have := g.2.2 a ha; have := h.2.1 j a q ha; simp_all
theorem fstP_has {α : Type} {p : α → Bool} {l : List α} {i : Nat} (h : fstP p l i) {a : α} (ha : a ∈ l) (hp : p a = true) : i < l.length := by
  obtain ⟨j, hj⟩ := List.mem_iff_getElem?.1 ha
  have hl := (List.getElem?_eq_some_iff.1 hj).1
  rcases Nat.lt_or_ge j i with q | q
  · have := h.2.1 j a q hj; simp_all
  · omega
end Go.Proofs.Ytoogofceoinniaa
