/- Packing: the specification's draws. -/
import Derived.Test.YtklilfbokpljkaaDrS
import Derived.Test.YtklilfbokpljkaaPkC
namespace Go.Proofs.Ytklilfbokpljkaa
open Go.ChangeShapes Go.WideShapes Go.ChangeAt Go.RowKit Go.ChangeMaps
set_option linter.unusedSimpArgs false
set_option linter.unusedVariables false

/-- A list of integers that a draw gives. -/
def DrI (w w' : World) (v : Value) (xs : List Int) : Prop := xs.length ≤ 200 ∧ (∀ x ∈ xs, -1000000 ≤ x ∧ x ≤ 1000000) ∧ Own (Value.int .i64) w' w.heap.size w'.heap.size v xs ∧ Below w.heap.size w w'
theorem smp_bd {w0 : World} {B b k : Nat} {wr : World} {v : Value} {xs : List Int} (h : Smp w0 B b k wr v xs) (hl : xs.length ≤ 40) : ∀ x ∈ xs, -1000000 ≤ x ∧ x ≤ 1000000 := fun x hx => by
  have := h.2.2.1 x hx
  omega
theorem cur_below {w w' : World} {b : Nat} {o : Obj} (hb : b = w.heap.size) (hg : (w.alloc o).grownBy w' (some b)) : Below w.heap.size w w' := by
  subst hb
  exact grown_below hg
set_option maxHeartbeats 400000 in
theorem drawDif (w : World) (B : Nat) (v : Value) (h : CodeArg w B v) :
    Calls Try.prog 141 #[v] w fun e w' => ∃ (v' : Value) (xs : List Int), e = .returned v' ∧ DrI w w' v' xs := by
  obtain ⟨h0, ao, n, cap, rfl, h2, h3⟩ := h
  have hcu := Lib.hid (cur_new w B ao n cap h0 h2 h3)
  clear h3
  go_enter Try.func141, Try.ntmps141
  go_wp2_with fail
  refine (cur_samples _ B w.heap.size 0 hcu.out (by omega)).mono ?_
  rintro e w1 ⟨v1, xs, rfl, hl, hS⟩
  obtain ⟨a1, c1, rfl⟩ := hS.2.1
  have HS := Lib.hid hS
  clear hS
  go_wp2
  go_ret
  exact ⟨_, xs, rfl, by omega, smp_bd HS.out hl, (Own.of_row HS.out.1).mono (by simp) (Nat.le_refl _), grown_below HS.out.2.2.2.2⟩
theorem difF_bd : ∀ (xs : List Int) (l : Int), -300000 ≤ l ∧ l ≤ 300000 → (∀ x ∈ xs, -300000 ≤ x ∧ x ≤ 300000) → ∀ d ∈ difF l xs, -1000000 ≤ d ∧ d ≤ 1000000
  | [], _, _, _ => by simp [difF]
  | x :: xs, l, hl, hx => by
    have h1 := hx x (by simp)
    intro d hd
    rw [difF] at hd
    rcases List.mem_cons.1 hd with rfl | hd
    · omega
    · exact difF_bd xs x h1 (fun y hy => hx y (by simp [hy])) d hd
end Go.Proofs.Ytklilfbokpljkaa
