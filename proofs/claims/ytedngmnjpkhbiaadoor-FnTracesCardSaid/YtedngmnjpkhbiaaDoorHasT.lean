/- The sample at a tick: both programs. -/
import Derived.Test.YtedngmnjpkhbiaaDoorGood
import Derived.Test.YtedngmnjpkhbiaaDoorBx
namespace Go.Proofs.YtedngmnjpkhbiaaDoor
open Go.ChangeShapes Go.WideShapes Go.ChangeAt Go.RowKit Go.ChangeMaps
set_option linter.unusedSimpArgs false
set_option linter.unusedVariables false

def hasT (t : Tr) (k : Int) : Bool := decide (t.start ≤ k ∧ k < t.start + (t.xs.length : Int))
theorem hasT_yes {t : Tr} {k : Int} (h : hasT t k = true) : t.start ≤ k ∧ k < t.start + (t.xs.length : Int) := of_decide_eq_true h
theorem hasT_no {t : Tr} {k : Int} (h : hasT t k = false) : ¬ (t.start ≤ k ∧ k < t.start + (t.xs.length : Int)) := of_decide_eq_false h
def okAt (t : Tr) (k : Int) : Bool := goodT t && hasT t k
def resAt (t : Tr) (k : Int) : Int := if okAt t k then t.xs.getD (k - t.start).toNat 0 else 0

set_option maxHeartbeats 400000 in
theorem implHas (t : Tr) (v : Value) (k : Int) (w : World) (B : Nat) (h : TrL w B v t) (hB : B ≤ w.heap.size) (h0 : 0 ≤ t.start) (h1 : t.start ≤ 1000000) (h2 : (t.xs.length : Int) ≤ 24) :
    Calls Tryd.prog 31 #[v, .int .i64 k] w fun e w' => e = .returned (.bool (hasT t k)) ∧ Below w.heap.size w w' := by
  obtain ⟨ao, cap, rfl⟩ := h.form
  clear h
  cases hh : hasT t k with
  | true =>
    obtain ⟨h3, h4⟩ := hasT_yes hh
    clear hh
    go_enter Tryd.func31, Tryd.ntmps31
    go_wp2
    go_ret
    exact ⟨rfl, ((Below.refl _ w).alloc (Nat.le_refl _) _).alloc (by simp) _⟩
  | false =>
    have h3 := hasT_no hh
    clear hh
    by_cases h4 : t.start ≤ k
    · have h5 : ¬ k < t.start + (t.xs.length : Int) := fun g => h3 ⟨h4, g⟩
      go_enter Tryd.func31, Tryd.ntmps31
      go_wp2
      go_ret
      exact ⟨rfl, ((Below.refl _ w).alloc (Nat.le_refl _) _).alloc (by simp) _⟩
    · clear h3
      go_enter Tryd.func31, Tryd.ntmps31
      go_wp2
      go_ret
      exact ⟨rfl, ((Below.refl _ w).alloc (Nat.le_refl _) _)⟩

theorem specHas (t : Tr) (v : Value) (k : Int) (w : World) (B : Nat) (h : TrL w B v t) (hB : B ≤ w.heap.size) (h0 : 0 ≤ t.start) (h1 : t.start ≤ 1000000) (h2 : (t.xs.length : Int) ≤ 24) :
    Calls Tryd.prog 41 #[v, .int .i64 k] w fun e w' => e = .returned (.bool (hasT t k)) ∧ Below w.heap.size w w' := by
  obtain ⟨ao, cap, rfl⟩ := h.form
  clear h
  cases hh : hasT t k with
  | true =>
    have h3 := hasT_yes hh
    clear hh
    go_enter Tryd.func41, Tryd.ntmps41
    go_wp2_with fail
    refine (inYes k _ _ _ (by omega)).mono ?_
    rintro e w1 ⟨rfl, rfl⟩
    go_wp2
    go_ret
    exact ⟨rfl, ((Below.refl _ w).alloc (Nat.le_refl _) _)⟩
  | false =>
    have h3 := hasT_no hh
    clear hh
    go_enter Tryd.func41, Tryd.ntmps41
    go_wp2_with fail
    refine (inNo k _ _ _ (by omega)).mono ?_
    rintro e w1 ⟨rfl, rfl⟩
    go_wp2
    go_ret
    exact ⟨rfl, ((Below.refl _ w).alloc (Nat.le_refl _) _)⟩

end Go.Proofs.YtedngmnjpkhbiaaDoor
