/-
  No cell of these rows narrows 'for every input' (looked for: loops, veiled, ifaces, maps, wideKeys, modest, calm, conditions, laid).
  DERIVED. THE GIVEN ROWS OF THIS SEAT. 11 by the template 'for every input the law returns true; each argument reads behind the call as it read before'; 0 by the template 'total and deterministic' (their statements: YtgokoeomoejcdaaTotals.lean).
  GIVEN WITH THE SEED: the statements are not yours to turn. If you find one false, say at which input.
  Laid BY PROGRAM, IN A SANDBOX (cutbox-rows.mjs): the forced cells as the released guide's own fill.sh prints them over the translation 37fafa7eb2bc86b6… (all of the seat's roots in one cut). By AI agents, Wed Nov 11 2026. No macro, syntax, notation, axiom, sorry.
-/
import Derived.Test.YtgokoeomoejcdaaChecked
import GoSem.Claim
import GoSem.ClaimJoined
import GoSem.ClaimMapViews
import Derived.JoinedTies
import Derived.KernelRfl
namespace Go.Proofs.Ytgokoeomoejcdaa
/- THE CELL 'sum', in the pinned program and in every row, IS THE sha256 OF THE DUMP (.gsa) THAT YtgokoeomoejcdaaProg.lean LOADS. Nothing in Lean hashes anything: it is a label: what it is worth is what the hold of that sum in a sandbox is worth. -/
noncomputable def Try.pinned : Pinned := { name := "ytgokoeomoejcdaa", sum := "37fafa7eb2bc86b6a1eb8a89ac02535a5b1b57672913343ff5e94b660d60e77e", checked := Try.checked }
namespace Rows
def none {H : Type} : Left H := { results := [], args := [] }

/-- 'laws.FnFilters': WHATEVER THE INPUT: true; the input reads as it did. -/
def fnFiltersSpec : ChangeSpec := { name := "fnFilters", fn := fun _ => fun
  | [d] => { results := [.lit (.bool true)], args := [d] }
  | _ => none }
def fnFiltersRow : OpenClaim := { program := "ytgokoeomoejcdaa", sum := "37fafa7eb2bc86b6a1eb8a89ac02535a5b1b57672913343ff5e94b660d60e77e", func := "loop.example/g01017/laws.FnFilters", spec := "fnFilters", unfollowed := true, recurses := true, apart := false }
def FnFiltersSaid : Prop := fnFiltersRow.holds Try.pinned (OpenSpec.ofChange fnFiltersSpec)

/-- ITS FALSE NEIGHBOUR: 'it returns false'. Refute it at one input. -/
def fnFiltersWrong : ChangeSpec := { name := "fnFilters", fn := fun _ => fun
  | [d] => { results := [.lit (.bool false)], args := [d] }
  | _ => none }
def FnFiltersWrongFalsely : Prop := fnFiltersRow.holds Try.pinned (OpenSpec.ofChange fnFiltersWrong)

/-- 'laws.FnSmoothing': WHATEVER THE INPUT: true; the input reads as it did. -/
def fnSmoothingSpec : ChangeSpec := { name := "fnSmoothing", fn := fun _ => fun
  | [d] => { results := [.lit (.bool true)], args := [d] }
  | _ => none }
def fnSmoothingRow : OpenClaim := { program := "ytgokoeomoejcdaa", sum := "37fafa7eb2bc86b6a1eb8a89ac02535a5b1b57672913343ff5e94b660d60e77e", func := "loop.example/g01017/laws.FnSmoothing", spec := "fnSmoothing", unfollowed := true, recurses := true, apart := false }
def FnSmoothingSaid : Prop := fnSmoothingRow.holds Try.pinned (OpenSpec.ofChange fnSmoothingSpec)

/-- ITS FALSE NEIGHBOUR: 'it returns false'. Refute it at one input. -/
def fnSmoothingWrong : ChangeSpec := { name := "fnSmoothing", fn := fun _ => fun
  | [d] => { results := [.lit (.bool false)], args := [d] }
  | _ => none }
def FnSmoothingWrongFalsely : Prop := fnSmoothingRow.holds Try.pinned (OpenSpec.ofChange fnSmoothingWrong)

/-- 'laws.FnExactMovingSums': WHATEVER THE INPUT: true; the input reads as it did. -/
def fnExactMovingSumsSpec : ChangeSpec := { name := "fnExactMovingSums", fn := fun _ => fun
  | [d1, d2] => { results := [.lit (.bool true)], args := [d1, d2] }
  | _ => none }
def fnExactMovingSumsRow : OpenClaim := { program := "ytgokoeomoejcdaa", sum := "37fafa7eb2bc86b6a1eb8a89ac02535a5b1b57672913343ff5e94b660d60e77e", func := "loop.example/g01017/laws.FnExactMovingSums", spec := "fnExactMovingSums", unfollowed := true, recurses := true, apart := false }
def FnExactMovingSumsSaid : Prop := fnExactMovingSumsRow.holds Try.pinned (OpenSpec.ofChange fnExactMovingSumsSpec)

/-- ITS FALSE NEIGHBOUR: 'it returns false'. Refute it at one input. -/
def fnExactMovingSumsWrong : ChangeSpec := { name := "fnExactMovingSums", fn := fun _ => fun
  | [d1, d2] => { results := [.lit (.bool false)], args := [d1, d2] }
  | _ => none }
def FnExactMovingSumsWrongFalsely : Prop := fnExactMovingSumsRow.holds Try.pinned (OpenSpec.ofChange fnExactMovingSumsWrong)

/-- 'laws.FnExactMovingMedians': WHATEVER THE INPUT: true; the input reads as it did. -/
def fnExactMovingMediansSpec : ChangeSpec := { name := "fnExactMovingMedians", fn := fun _ => fun
  | [d1, d2] => { results := [.lit (.bool true)], args := [d1, d2] }
  | _ => none }
def fnExactMovingMediansRow : OpenClaim := { program := "ytgokoeomoejcdaa", sum := "37fafa7eb2bc86b6a1eb8a89ac02535a5b1b57672913343ff5e94b660d60e77e", func := "loop.example/g01017/laws.FnExactMovingMedians", spec := "fnExactMovingMedians", unfollowed := true, recurses := true, apart := false }
def FnExactMovingMediansSaid : Prop := fnExactMovingMediansRow.holds Try.pinned (OpenSpec.ofChange fnExactMovingMediansSpec)

/-- ITS FALSE NEIGHBOUR: 'it returns false'. Refute it at one input. -/
def fnExactMovingMediansWrong : ChangeSpec := { name := "fnExactMovingMedians", fn := fun _ => fun
  | [d1, d2] => { results := [.lit (.bool false)], args := [d1, d2] }
  | _ => none }
def FnExactMovingMediansWrongFalsely : Prop := fnExactMovingMediansRow.holds Try.pinned (OpenSpec.ofChange fnExactMovingMediansWrong)

/-- 'laws.FnExactSmoothed': WHATEVER THE INPUT: true; the input reads as it did. -/
def fnExactSmoothedSpec : ChangeSpec := { name := "fnExactSmoothed", fn := fun _ => fun
  | [d1, d2] => { results := [.lit (.bool true)], args := [d1, d2] }
  | _ => none }
def fnExactSmoothedRow : OpenClaim := { program := "ytgokoeomoejcdaa", sum := "37fafa7eb2bc86b6a1eb8a89ac02535a5b1b57672913343ff5e94b660d60e77e", func := "loop.example/g01017/laws.FnExactSmoothed", spec := "fnExactSmoothed", apart := false }
def FnExactSmoothedSaid : Prop := fnExactSmoothedRow.holds Try.pinned (OpenSpec.ofChange fnExactSmoothedSpec)

/-- ITS FALSE NEIGHBOUR: 'it returns false'. Refute it at one input. -/
def fnExactSmoothedWrong : ChangeSpec := { name := "fnExactSmoothed", fn := fun _ => fun
  | [d1, d2] => { results := [.lit (.bool false)], args := [d1, d2] }
  | _ => none }
def FnExactSmoothedWrongFalsely : Prop := fnExactSmoothedRow.holds Try.pinned (OpenSpec.ofChange fnExactSmoothedWrong)

/-- 'laws.FnExactClipped': WHATEVER THE INPUT: true; the input reads as it did. -/
def fnExactClippedSpec : ChangeSpec := { name := "fnExactClipped", fn := fun _ => fun
  | [d1, d2] => { results := [.lit (.bool true)], args := [d1, d2] }
  | _ => none }
def fnExactClippedRow : OpenClaim := { program := "ytgokoeomoejcdaa", sum := "37fafa7eb2bc86b6a1eb8a89ac02535a5b1b57672913343ff5e94b660d60e77e", func := "loop.example/g01017/laws.FnExactClipped", spec := "fnExactClipped", apart := false }
def FnExactClippedSaid : Prop := fnExactClippedRow.holds Try.pinned (OpenSpec.ofChange fnExactClippedSpec)

/-- ITS FALSE NEIGHBOUR: 'it returns false'. Refute it at one input. -/
def fnExactClippedWrong : ChangeSpec := { name := "fnExactClipped", fn := fun _ => fun
  | [d1, d2] => { results := [.lit (.bool false)], args := [d1, d2] }
  | _ => none }
def FnExactClippedWrongFalsely : Prop := fnExactClippedRow.holds Try.pinned (OpenSpec.ofChange fnExactClippedWrong)

/-- 'laws.FnExactEveryNth': WHATEVER THE INPUT: true; the input reads as it did. -/
def fnExactEveryNthSpec : ChangeSpec := { name := "fnExactEveryNth", fn := fun _ => fun
  | [d1, d2] => { results := [.lit (.bool true)], args := [d1, d2] }
  | _ => none }
def fnExactEveryNthRow : OpenClaim := { program := "ytgokoeomoejcdaa", sum := "37fafa7eb2bc86b6a1eb8a89ac02535a5b1b57672913343ff5e94b660d60e77e", func := "loop.example/g01017/laws.FnExactEveryNth", spec := "fnExactEveryNth", apart := false }
def FnExactEveryNthSaid : Prop := fnExactEveryNthRow.holds Try.pinned (OpenSpec.ofChange fnExactEveryNthSpec)

/-- ITS FALSE NEIGHBOUR: 'it returns false'. Refute it at one input. -/
def fnExactEveryNthWrong : ChangeSpec := { name := "fnExactEveryNth", fn := fun _ => fun
  | [d1, d2] => { results := [.lit (.bool false)], args := [d1, d2] }
  | _ => none }
def FnExactEveryNthWrongFalsely : Prop := fnExactEveryNthRow.holds Try.pinned (OpenSpec.ofChange fnExactEveryNthWrong)

/-- 'laws.FnExactComb': WHATEVER THE INPUT: true; the input reads as it did. -/
def fnExactCombSpec : ChangeSpec := { name := "fnExactComb", fn := fun _ => fun
  | [d1, d2] => { results := [.lit (.bool true)], args := [d1, d2] }
  | _ => none }
def fnExactCombRow : OpenClaim := { program := "ytgokoeomoejcdaa", sum := "37fafa7eb2bc86b6a1eb8a89ac02535a5b1b57672913343ff5e94b660d60e77e", func := "loop.example/g01017/laws.FnExactComb", spec := "fnExactComb", apart := false }
def FnExactCombSaid : Prop := fnExactCombRow.holds Try.pinned (OpenSpec.ofChange fnExactCombSpec)

/-- ITS FALSE NEIGHBOUR: 'it returns false'. Refute it at one input. -/
def fnExactCombWrong : ChangeSpec := { name := "fnExactComb", fn := fun _ => fun
  | [d1, d2] => { results := [.lit (.bool false)], args := [d1, d2] }
  | _ => none }
def FnExactCombWrongFalsely : Prop := fnExactCombRow.holds Try.pinned (OpenSpec.ofChange fnExactCombWrong)

/-- 'laws.FnExactWeighted': WHATEVER THE INPUT: true; the input reads as it did. -/
def fnExactWeightedSpec : ChangeSpec := { name := "fnExactWeighted", fn := fun _ => fun
  | [d1, d2] => { results := [.lit (.bool true)], args := [d1, d2] }
  | _ => none }
def fnExactWeightedRow : OpenClaim := { program := "ytgokoeomoejcdaa", sum := "37fafa7eb2bc86b6a1eb8a89ac02535a5b1b57672913343ff5e94b660d60e77e", func := "loop.example/g01017/laws.FnExactWeighted", spec := "fnExactWeighted", unfollowed := true, recurses := true, apart := false }
def FnExactWeightedSaid : Prop := fnExactWeightedRow.holds Try.pinned (OpenSpec.ofChange fnExactWeightedSpec)

/-- ITS FALSE NEIGHBOUR: 'it returns false'. Refute it at one input. -/
def fnExactWeightedWrong : ChangeSpec := { name := "fnExactWeighted", fn := fun _ => fun
  | [d1, d2] => { results := [.lit (.bool false)], args := [d1, d2] }
  | _ => none }
def FnExactWeightedWrongFalsely : Prop := fnExactWeightedRow.holds Try.pinned (OpenSpec.ofChange fnExactWeightedWrong)

/-- 'laws.FnExactWeightBound': WHATEVER THE INPUT: true; the input reads as it did. -/
def fnExactWeightBoundSpec : ChangeSpec := { name := "fnExactWeightBound", fn := fun _ => fun
  | [d] => { results := [.lit (.bool true)], args := [d] }
  | _ => none }
def fnExactWeightBoundRow : OpenClaim := { program := "ytgokoeomoejcdaa", sum := "37fafa7eb2bc86b6a1eb8a89ac02535a5b1b57672913343ff5e94b660d60e77e", func := "loop.example/g01017/laws.FnExactWeightBound", spec := "fnExactWeightBound", apart := false }
def FnExactWeightBoundSaid : Prop := fnExactWeightBoundRow.holds Try.pinned (OpenSpec.ofChange fnExactWeightBoundSpec)

/-- ITS FALSE NEIGHBOUR: 'it returns false'. Refute it at one input. -/
def fnExactWeightBoundWrong : ChangeSpec := { name := "fnExactWeightBound", fn := fun _ => fun
  | [d] => { results := [.lit (.bool false)], args := [d] }
  | _ => none }
def FnExactWeightBoundWrongFalsely : Prop := fnExactWeightBoundRow.holds Try.pinned (OpenSpec.ofChange fnExactWeightBoundWrong)

/-- 'laws.FnExactTurningPoints': WHATEVER THE INPUT: true; the input reads as it did. -/
def fnExactTurningPointsSpec : ChangeSpec := { name := "fnExactTurningPoints", fn := fun _ => fun
  | [d] => { results := [.lit (.bool true)], args := [d] }
  | _ => none }
def fnExactTurningPointsRow : OpenClaim := { program := "ytgokoeomoejcdaa", sum := "37fafa7eb2bc86b6a1eb8a89ac02535a5b1b57672913343ff5e94b660d60e77e", func := "loop.example/g01017/laws.FnExactTurningPoints", spec := "fnExactTurningPoints", apart := false }
def FnExactTurningPointsSaid : Prop := fnExactTurningPointsRow.holds Try.pinned (OpenSpec.ofChange fnExactTurningPointsSpec)

/-- ITS FALSE NEIGHBOUR: 'it returns false'. Refute it at one input. -/
def fnExactTurningPointsWrong : ChangeSpec := { name := "fnExactTurningPoints", fn := fun _ => fun
  | [d] => { results := [.lit (.bool false)], args := [d] }
  | _ => none }
def FnExactTurningPointsWrongFalsely : Prop := fnExactTurningPointsRow.holds Try.pinned (OpenSpec.ofChange fnExactTurningPointsWrong)

/- THE SECOND FORM. 'bulk': how many values and letters a reading holds, each counted each time it is reached (what is shared counts as often as it is met; a slice's spare places count too). A statement '..UptoSaid' is the law's where the arguments, and the package variables that the reading takes, are together of bulk at most 1048576: NARROWER than '..Said'. Prove '..Said' where nothing that the law and all that it calls make is longer than what came in: it says more and counts as full. Else prove '..UptoSaid'. A law counts once. -/
mutual
def uptoBulk {H : Type} : DataW H → Nat
  | .lit (.string bytes) => bytes.length + 1
  | .lit _ => 1
  | .nil => 1
  | .ptr d => uptoBulk d + 1
  | .slice elems spare => uptoBulkAll elems + uptoBulkAll spare + 1
  | .agg parts => uptoBulkAll parts + 1
  | .iface _ d => uptoBulk d + 1
  | .map entries => uptoBulkEntries entries + 1
  | .held _ => 1
def uptoBulkAll {H : Type} : List (DataW H) → Nat
  | [] => 0
  | d :: r => uptoBulk d + uptoBulkAll r
def uptoBulkEntries {H : Type} : List (Lit × DataW H) → Nat
  | [] => 0
  | x :: r => uptoBulkEntry x + uptoBulkEntries r
def uptoBulkEntry {H : Type} : Lit × DataW H → Nat
  | (.string bytes, d) => bytes.length + uptoBulk d + 1
  | (_, d) => uptoBulk d + 1
 end
def uptoSmall : (H : Type) → List (DataW H) → Bool := fun _ ds => decide (uptoBulkAll ds ≤ 1048576)
def OpenSpec.upto (s : _root_.Go.ChangeSpec) : _root_.Go.OpenSpec := { _root_.Go.OpenSpec.ofChange s with cond := some uptoSmall }

/-- 'laws.FnFilters', WHERE WHAT IT READS IS OF BULK AT MOST 1048576: true; the input reads as it did. -/
def fnFiltersUptoRow : OpenClaim := { program := "ytgokoeomoejcdaa", sum := "37fafa7eb2bc86b6a1eb8a89ac02535a5b1b57672913343ff5e94b660d60e77e", func := "loop.example/g01017/laws.FnFilters", spec := "fnFilters", unfollowed := true, recurses := true, apart := false, narrowed := true }
def FnFiltersUptoSaid : Prop := fnFiltersUptoRow.holds Try.pinned (OpenSpec.upto fnFiltersSpec)

/-- 'laws.FnSmoothing', WHERE WHAT IT READS IS OF BULK AT MOST 1048576: true; the input reads as it did. -/
def fnSmoothingUptoRow : OpenClaim := { program := "ytgokoeomoejcdaa", sum := "37fafa7eb2bc86b6a1eb8a89ac02535a5b1b57672913343ff5e94b660d60e77e", func := "loop.example/g01017/laws.FnSmoothing", spec := "fnSmoothing", unfollowed := true, recurses := true, apart := false, narrowed := true }
def FnSmoothingUptoSaid : Prop := fnSmoothingUptoRow.holds Try.pinned (OpenSpec.upto fnSmoothingSpec)

/-- 'laws.FnExactMovingSums', WHERE WHAT IT READS IS OF BULK AT MOST 1048576: true; the input reads as it did. -/
def fnExactMovingSumsUptoRow : OpenClaim := { program := "ytgokoeomoejcdaa", sum := "37fafa7eb2bc86b6a1eb8a89ac02535a5b1b57672913343ff5e94b660d60e77e", func := "loop.example/g01017/laws.FnExactMovingSums", spec := "fnExactMovingSums", unfollowed := true, recurses := true, apart := false, narrowed := true }
def FnExactMovingSumsUptoSaid : Prop := fnExactMovingSumsUptoRow.holds Try.pinned (OpenSpec.upto fnExactMovingSumsSpec)

/-- 'laws.FnExactMovingMedians', WHERE WHAT IT READS IS OF BULK AT MOST 1048576: true; the input reads as it did. -/
def fnExactMovingMediansUptoRow : OpenClaim := { program := "ytgokoeomoejcdaa", sum := "37fafa7eb2bc86b6a1eb8a89ac02535a5b1b57672913343ff5e94b660d60e77e", func := "loop.example/g01017/laws.FnExactMovingMedians", spec := "fnExactMovingMedians", unfollowed := true, recurses := true, apart := false, narrowed := true }
def FnExactMovingMediansUptoSaid : Prop := fnExactMovingMediansUptoRow.holds Try.pinned (OpenSpec.upto fnExactMovingMediansSpec)

/-- 'laws.FnExactSmoothed', WHERE WHAT IT READS IS OF BULK AT MOST 1048576: true; the input reads as it did. -/
def fnExactSmoothedUptoRow : OpenClaim := { program := "ytgokoeomoejcdaa", sum := "37fafa7eb2bc86b6a1eb8a89ac02535a5b1b57672913343ff5e94b660d60e77e", func := "loop.example/g01017/laws.FnExactSmoothed", spec := "fnExactSmoothed", apart := false, narrowed := true }
def FnExactSmoothedUptoSaid : Prop := fnExactSmoothedUptoRow.holds Try.pinned (OpenSpec.upto fnExactSmoothedSpec)

/-- 'laws.FnExactClipped', WHERE WHAT IT READS IS OF BULK AT MOST 1048576: true; the input reads as it did. -/
def fnExactClippedUptoRow : OpenClaim := { program := "ytgokoeomoejcdaa", sum := "37fafa7eb2bc86b6a1eb8a89ac02535a5b1b57672913343ff5e94b660d60e77e", func := "loop.example/g01017/laws.FnExactClipped", spec := "fnExactClipped", apart := false, narrowed := true }
def FnExactClippedUptoSaid : Prop := fnExactClippedUptoRow.holds Try.pinned (OpenSpec.upto fnExactClippedSpec)

/-- 'laws.FnExactEveryNth', WHERE WHAT IT READS IS OF BULK AT MOST 1048576: true; the input reads as it did. -/
def fnExactEveryNthUptoRow : OpenClaim := { program := "ytgokoeomoejcdaa", sum := "37fafa7eb2bc86b6a1eb8a89ac02535a5b1b57672913343ff5e94b660d60e77e", func := "loop.example/g01017/laws.FnExactEveryNth", spec := "fnExactEveryNth", apart := false, narrowed := true }
def FnExactEveryNthUptoSaid : Prop := fnExactEveryNthUptoRow.holds Try.pinned (OpenSpec.upto fnExactEveryNthSpec)

/-- 'laws.FnExactComb', WHERE WHAT IT READS IS OF BULK AT MOST 1048576: true; the input reads as it did. -/
def fnExactCombUptoRow : OpenClaim := { program := "ytgokoeomoejcdaa", sum := "37fafa7eb2bc86b6a1eb8a89ac02535a5b1b57672913343ff5e94b660d60e77e", func := "loop.example/g01017/laws.FnExactComb", spec := "fnExactComb", apart := false, narrowed := true }
def FnExactCombUptoSaid : Prop := fnExactCombUptoRow.holds Try.pinned (OpenSpec.upto fnExactCombSpec)

/-- 'laws.FnExactWeighted', WHERE WHAT IT READS IS OF BULK AT MOST 1048576: true; the input reads as it did. -/
def fnExactWeightedUptoRow : OpenClaim := { program := "ytgokoeomoejcdaa", sum := "37fafa7eb2bc86b6a1eb8a89ac02535a5b1b57672913343ff5e94b660d60e77e", func := "loop.example/g01017/laws.FnExactWeighted", spec := "fnExactWeighted", unfollowed := true, recurses := true, apart := false, narrowed := true }
def FnExactWeightedUptoSaid : Prop := fnExactWeightedUptoRow.holds Try.pinned (OpenSpec.upto fnExactWeightedSpec)

/-- 'laws.FnExactWeightBound', WHERE WHAT IT READS IS OF BULK AT MOST 1048576: true; the input reads as it did. -/
def fnExactWeightBoundUptoRow : OpenClaim := { program := "ytgokoeomoejcdaa", sum := "37fafa7eb2bc86b6a1eb8a89ac02535a5b1b57672913343ff5e94b660d60e77e", func := "loop.example/g01017/laws.FnExactWeightBound", spec := "fnExactWeightBound", apart := false, narrowed := true }
def FnExactWeightBoundUptoSaid : Prop := fnExactWeightBoundUptoRow.holds Try.pinned (OpenSpec.upto fnExactWeightBoundSpec)

/-- 'laws.FnExactTurningPoints', WHERE WHAT IT READS IS OF BULK AT MOST 1048576: true; the input reads as it did. -/
def fnExactTurningPointsUptoRow : OpenClaim := { program := "ytgokoeomoejcdaa", sum := "37fafa7eb2bc86b6a1eb8a89ac02535a5b1b57672913343ff5e94b660d60e77e", func := "loop.example/g01017/laws.FnExactTurningPoints", spec := "fnExactTurningPoints", apart := false, narrowed := true }
def FnExactTurningPointsUptoSaid : Prop := fnExactTurningPointsUptoRow.holds Try.pinned (OpenSpec.upto fnExactTurningPointsSpec)

end Rows
end Go.Proofs.Ytgokoeomoejcdaa
