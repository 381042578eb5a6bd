/- FnExactSubtractLevel: the lowered trace, both programs. -/
import Derived.Test.YtedngmnjpkhbiaaDoorCutS
import Derived.Test.YtedngmnjpkhbiaaDoorCrs
import Derived.Deep.AppendLies
import Derived.Deep.RegionLaw
namespace Go.Proofs.YtedngmnjpkhbiaaDoor
open Go.ChangeShapes Go.WideShapes Go.ChangeAt Go.RowKit Go.ChangeMaps
set_option linter.unusedSimpArgs false
set_option linter.unusedVariables false

def low (xs : List Int) (l : Int) : List Int := xs.map (· - l)
theorem low_len (xs : List Int) (l : Int) : (low xs l).length = xs.length := by simp [low]
def inS (l : Int) : Bool := decide (-100000 ≤ l ∧ l ≤ 100000)
def pickT (b : Bool) (t : Tr) : Tr := if b then t else nilT
def okS (t : Tr) (l : Int) : Bool := goodT t && (inS l && okX (low t.xs l))
def resS (t : Tr) (l : Int) : Tr := if okS t l then ⟨t.st, t.start, low t.xs l⟩ else nilT
theorem resS_len (t : Tr) (l : Int) (h : t.xs.length ≤ 1048576) : (resS t l).xs.length ≤ 1048576 := by
  unfold resS
  split
  · rw [low_len]; exact h
  · simp [nilT]
theorem good_low {t : Tr} {l : Int} (h : goodT t = true) : goodT ⟨t.st, t.start, low t.xs l⟩ = okX (low t.xs l) := by
  have g := (goodT_yes h).1
  unfold goodT
  rw [decide_eq_true (by simpa [low_len] using g), Bool.true_and]
theorem sampYes (x : Int) (w : World) (h : -100000 ≤ x ∧ x ≤ 100000) :
    Calls Tryd.prog 54 #[.int .i64 x] w fun e w' => e = .returned (.bool true) ∧ w = w' := by
  obtain ⟨h1, h2⟩ := h
  go_enter Tryd.func54, Tryd.ntmps54
  go_wp2
  go_ret
  exact ⟨rfl, rfl⟩
theorem sampNo (x : Int) (w : World) (h : ¬ (-100000 ≤ x ∧ x ≤ 100000)) :
    Calls Tryd.prog 54 #[.int .i64 x] w fun e w' => e = .returned (.bool false) ∧ w = w' := by
  by_cases h1 : -100000 ≤ x
  · have h2 : ¬ x ≤ 100000 := fun g => h ⟨h1, g⟩
    go_enter Tryd.func54, Tryd.ntmps54
    go_wp2
    go_ret
    exact ⟨rfl, rfl⟩
  · go_enter Tryd.func54, Tryd.ntmps54
    go_wp2
    go_ret
    exact ⟨rfl, rfl⟩
theorem ownsRow_setOther {w : World} {base size n : Nat} {e : TypeId} {v : Value} {xs : List Value} (h : w.ownsRow base e size v n xs) {a : Addr} (ha : ∀ g, v.ownBlock = some g → a.block ≠ g) (u : Value) : (w.setCell a u).ownsRow base e size v n xs := by
  refine ⟨h.1, ?_⟩
  rcases h.2 with h0 | ⟨g, cap, cur, hv, hg, hh, r⟩
  · exact Or.inl h0
  · refine Or.inr ⟨g, cap, cur, hv, hg, ?_, r⟩
    rw [Below.heap_setCell w a u g (by have := ha g (by rw [hv]; rfl); omega)]
    exact hh
theorem row_lst {w : World} {L e n : Nat} {v : Value} {xs : List Int} (h : w.ownsRow L e 1 v n (xs.map (Value.int .i64))) : Lst (Value.int .i64) w w.heap.size v xs := (Own.of_row h).lst

end Go.Proofs.YtedngmnjpkhbiaaDoor
