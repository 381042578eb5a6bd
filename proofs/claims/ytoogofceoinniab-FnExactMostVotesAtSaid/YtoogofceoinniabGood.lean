/- Valid traces: both programs ask the same. -/
import Derived.Test.YtoogofceoinniabTrc
import Derived.Deep.QuietTactic
import Derived.BigQuiet
import Derived.Handy
namespace Go.Proofs.Ytoogofceoinniab
open Go.ChangeShapes Go.WideShapes Go.ChangeAt Go.RowKit Go.ChangeMaps
set_option linter.unusedSimpArgs false
set_option linter.unusedVariables false

theorem quiet_left {P : Program} {f : FuncId} {args : Array Value} {w : World} {n : Nat} {v : Value}
    (h : Calls P f args (w.drewN n) fun e w' => e = .returned v ∧ w.drewN n = w') : Calls P f args (w.drewN n) fun e w'' => e = .returned v ∧ ∃ m, w'' = w.drewN m :=
  h.mono fun _ _ ⟨he, hm⟩ => ⟨he, n, hm.symm⟩

def okX (l : List Int) : Bool := decide (∀ x ∈ l, -100000 ≤ x ∧ x ≤ 100000)
theorem okX_get {l : List Int} (h : okX l = true) {k : Nat} {x : Int} (hx : l[k]? = some x) : -100000 ≤ x ∧ x ≤ 100000 := by
  unfold okX at h
  exact of_decide_eq_true h x (List.mem_of_getElem? hx)
theorem okX_bad {l : List Int} {k : Nat} {x : Int} (hx : l[k]? = some x) (h : ¬ (-100000 ≤ x ∧ x ≤ 100000)) : okX l = false := by
  unfold okX
  exact decide_eq_false fun g => h (g x (List.mem_of_getElem? hx))
theorem okX_snoc {l : List Int} {k : Nat} {x : Int} (hx : l[k]? = some x) (h : -100000 ≤ x ∧ x ≤ 100000) (g : okX (l.take k) = true) : okX (l.take (k + 1)) = true := by
  unfold okX at *
  rw [take_snoc hx]
  have g' := of_decide_eq_true g
  refine decide_eq_true fun y hy => ?_
  rcases List.mem_append.1 hy with hy | hy
  · exact g' y hy
  · rw [List.mem_singleton.1 hy]; exact h

def goodT (t : Tr) : Bool := decide (1 ≤ t.st ∧ t.st ≤ 99 ∧ 0 ≤ t.start ∧ t.start ≤ 1000000 ∧ (t.xs.length : Int) ≤ 24 ∧ t.start + (t.xs.length : Int) ≤ 1000001) && okX t.xs
theorem goodT_yes {t : Tr} (h : goodT t = true) : (1 ≤ t.st ∧ t.st ≤ 99 ∧ 0 ≤ t.start ∧ t.start ≤ 1000000 ∧ (t.xs.length : Int) ≤ 24 ∧ t.start + (t.xs.length : Int) ≤ 1000001) ∧ okX t.xs = true := by
  unfold goodT at h
  rw [Bool.and_eq_true] at h
  exact ⟨of_decide_eq_true h.1, h.2⟩
theorem goodT_mk {t : Tr} (h : 1 ≤ t.st ∧ t.st ≤ 99 ∧ 0 ≤ t.start ∧ t.start ≤ 1000000 ∧ (t.xs.length : Int) ≤ 24 ∧ t.start + (t.xs.length : Int) ≤ 1000001) (g : okX t.xs = true) : goodT t = true := by
  unfold goodT
  rw [decide_eq_true h, g]; rfl
theorem goodT_no {t : Tr} (h : ¬ (1 ≤ t.st ∧ t.st ≤ 99 ∧ 0 ≤ t.start ∧ t.start ≤ 1000000 ∧ (t.xs.length : Int) ≤ 24 ∧ t.start + (t.xs.length : Int) ≤ 1000001)) : goodT t = false := by
  unfold goodT
  rw [decide_eq_false h]; rfl
theorem goodT_bad {t : Tr} (h : okX t.xs = false) : goodT t = false := by
  unfold goodT
  rw [h, Bool.and_false]

/-- A list of samples. -/
def okL (l : List Int) : Bool := okX l && decide ((l.length : Int) ≤ 24)
theorem okL_yes {l : List Int} (h : okL l = true) : (∀ x ∈ l, -100000 ≤ x ∧ x ≤ 100000) ∧ l.length ≤ 24 := by
  unfold okL at h
  rw [Bool.and_eq_true] at h
  exact ⟨of_decide_eq_true h.1, by have := of_decide_eq_true h.2; omega⟩
theorem okL_mk {l : List Int} (h : ∀ x ∈ l, -100000 ≤ x ∧ x ≤ 100000) (g : l.length ≤ 24) : okL l = true := by
  unfold okL okX
  rw [decide_eq_true h, decide_eq_true (show (l.length : Int) ≤ 24 by omega)]; rfl
theorem tickIY (x : Int) (w : World) (h : 0 ≤ x ∧ x ≤ 1000000) : Calls Try.prog 91 #[.int .i64 x] w fun e w' => e = .returned (.bool true) ∧ w' = w := by
  obtain ⟨h1, h2⟩ := h
  go_enter Try.func91, Try.ntmps91
  go_wp2
  go_ret
  exact ⟨rfl, rfl⟩

theorem inYes (x a b : Int) (w : World) (h : a ≤ x ∧ x ≤ b) :
    Calls Try.prog 80 #[.int .i64 x, .int .i64 a, .int .i64 b] w fun e w' => e = .returned (.bool true) ∧ w' = w := by
  obtain ⟨h1, h2⟩ := h
  go_enter Try.func80, Try.ntmps80
  go_wp2
  go_ret
  exact ⟨rfl, rfl⟩
theorem inNo (x a b : Int) (w : World) (h : ¬ (a ≤ x ∧ x ≤ b)) :
    Calls Try.prog 80 #[.int .i64 x, .int .i64 a, .int .i64 b] w fun e w' => e = .returned (.bool false) ∧ w' = w := by
  go_enter Try.func80, Try.ntmps80
  by_cases h1 : a ≤ x
  · have h2 : ¬ x ≤ b := fun g => h ⟨h1, g⟩
    go_wp2
    go_ret
    exact ⟨rfl, rfl⟩
  · go_wp2
    go_ret
    exact ⟨rfl, rfl⟩
theorem tickYes (x : Int) (w : World) (h : 0 ≤ x ∧ x ≤ 1000000) :
    Calls Try.prog 89 #[.int .i64 x] w fun e w' => e = .returned (.bool true) ∧ w' = w := by
  go_enter Try.func89, Try.ntmps89
  go_wp2_with fail
  refine (inYes x 0 1000000 _ h).mono ?_
  rintro e w' ⟨rfl, rfl⟩
  go_wp2
  go_ret
  exact ⟨rfl, rfl⟩
theorem tickNo (x : Int) (w : World) (h : ¬ (0 ≤ x ∧ x ≤ 1000000)) :
    Calls Try.prog 89 #[.int .i64 x] w fun e w' => e = .returned (.bool false) ∧ w' = w := by
  go_enter Try.func89, Try.ntmps89
  go_wp2_with fail
  refine (inNo x 0 1000000 _ h).mono ?_
  rintro e w' ⟨rfl, rfl⟩
  go_wp2
  go_ret
  exact ⟨rfl, rfl⟩
theorem mostAny (x y : Int) (w : World) :
    Calls Try.prog 95 #[.int .i64 x, .int .i64 y] w fun e w' => e = .returned (.int .i64 (if y < x then x else y)) ∧ w' = w := by
  by_cases h : y < x
  · rw [if_pos h]
    go_enter Try.func95, Try.ntmps95
    go_wp2
    go_ret
    exact ⟨rfl, rfl⟩
  · rw [if_neg h]
    go_enter Try.func95, Try.ntmps95
    go_wp2
    go_ret
    exact ⟨rfl, rfl⟩

theorem mostB (x y z : Int) (w : World) (h : (if y < x then x else y) = z) :
    Calls Try.prog 95 #[.int .i64 x, .int .i64 y] w fun e w' => e = .returned (.int .i64 z) ∧ w' = w := h ▸ mostAny x y w

end Go.Proofs.Ytoogofceoinniab
