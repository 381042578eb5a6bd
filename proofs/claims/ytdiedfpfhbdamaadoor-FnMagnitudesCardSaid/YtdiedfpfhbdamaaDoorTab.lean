/- What the listed package-level variables hold, and a world that holds them. -/
import Derived.Test.YtdiedfpfhbdamaaDoorBase
import Derived.Test.YtdiedfpfhbdamaaDoorCards
import Derived.Test.YtdiedfpfhbdamaaDoorTie
import Derived.Deep.DeepHandedRow
import Derived.Lib.LaidTab
import Derived.LaidSub
import Derived.Lib.ItoaNum
namespace Go.Proofs.YtdiedfpfhbdamaaDoor
open Go.ChangeShapes Go.WideShapes Go.ChangeAt Go.RowKit Go.ChangeMaps
set_option linter.unusedSimpArgs false
set_option linter.unusedVariables false

theorem own : ownKnob Tryd.prog.godebug = none := by kernel_rfl

def Pow10 (W : World) : Prop := Lib.TabIs Tryd.prog W "internal/strconv.uint64pow10" .u64 Lib.pow10Tab
theorem cellsU64 : Tryd.prog.cellsOf 44 = 1 := by kernel_rfl
theorem cellsTab : Tryd.prog.cellsOf 70 = 20 := by kernel_rfl
theorem gTab : Tryd.prog.globalNamed "internal/strconv.uint64pow10" = some 0 := by kernel_rfl
theorem gTabType : (Tryd.prog.globals[0]?).map (·.type) = some 70 := by kernel_rfl
theorem pow10_of {W : World} {l : List (String × DataW Unit)} (h : laidMetH Tryd.prog l W)
    (hl : l.filter (fun x => x.1 == "internal/strconv.uint64pow10") = [("internal/strconv.uint64pow10", Lib.tabData .u64 Lib.pow10Tab)]) : Pow10 W := by
  have h2 := laidMetH.filter (fun x => x.1 == "internal/strconv.uint64pow10") h
  rw [hl] at h2
  exact Lib.tabIs_of_head (rest := []) gTab gTabType Tryd.underlying70 Tryd.underlying44 cellsU64 cellsTab h2

theorem pow10_below {w w' : World} (h : Pow10 w) (hb : Below w.heap.size w w') : Pow10 w' := by
  have hg : 0 < w.heap.size := by
    have := h
    unfold Pow10 Lib.TabIs World.var? at this
    rw [gTab] at this
    simp only [Option.bind_some] at this
    split at this
    · rename_i hh; exact (Array.getElem?_eq_some_iff.1 hh).1
    · cases this
  unfold Pow10 Lib.TabIs World.var? at *
  rw [gTab] at *
  simp only [Option.bind_some] at *
  rw [hb.block _ hg]
  exact h

/-- The cells of a listed table. -/
noncomputable def layCells : DataW Unit → Array Value
  | .agg ds => (ds.map fun
    | .lit (.int k z) => Value.int k z
    | _ => undef).toArray
  | _ => #[]
noncomputable def layTab (h : Array Obj) (x : String × DataW Unit) : Array Obj :=
  match Tryd.prog.globalNamed x.1 with
  | some g => h.modify g fun
    | .cells _ t frozen => .cells (layCells x.2) t frozen
    | o => o
  | none => h
noncomputable def holdingTabs (os : Os) (l : List (String × DataW Unit)) : World :=
  { World.holding Tryd.prog os ⟨#[], #[], []⟩ with heap := l.foldl layTab (World.holding Tryd.prog os ⟨#[], #[], []⟩).heap }
end Go.Proofs.YtdiedfpfhbdamaaDoor
