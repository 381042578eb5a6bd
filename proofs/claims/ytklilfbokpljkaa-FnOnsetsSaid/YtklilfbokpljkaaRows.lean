/-
  No cell of these rows narrows 'for every input' (looked for: loops, veiled, ifaces, maps, wideKeys, modest, calm, conditions, laid).
  DERIVED. THE GIVEN ROWS OF THIS SEAT. 12 by the template 'for every input the law returns true; each argument reads behind the call as it read before'; 0 by the template 'total and deterministic' (their statements: YtklilfbokpljkaaTotals.lean).
  GIVEN WITH THE SEED: the statements are not yours to turn. If you find one false, say at which input.
  Laid BY PROGRAM, IN A SANDBOX (cutbox-rows.mjs): the forced cells as the released guide's own fill.sh prints them over the translation d5c13fd72f815e7a… (all of the seat's roots in one cut). By AI agents, Wed Nov 11 2026. No macro, syntax, notation, axiom, sorry.
-/
import Derived.Test.YtklilfbokpljkaaChecked
import GoSem.Claim
import GoSem.ClaimJoined
import GoSem.ClaimMapViews
import Derived.JoinedTies
import Derived.KernelRfl
namespace Go.Proofs.Ytklilfbokpljkaa
/- THE CELL 'sum', in the pinned program and in every row, IS THE sha256 OF THE DUMP (.gsa) THAT YtklilfbokpljkaaProg.lean LOADS. Nothing in Lean hashes anything: it is a label: what it is worth is what the hold of that sum in a sandbox is worth. -/
noncomputable def Try.pinned : Pinned := { name := "ytklilfbokpljkaa", sum := "d5c13fd72f815e7a0968307da9a7c7319d0a64f319443c44c7f15cfb4cbbcc58", checked := Try.checked }
namespace Rows
def none {H : Type} : Left H := { results := [], args := [] }

/-- 'laws.FnExactFirstTime': WHATEVER THE INPUT: true; the input reads as it did. -/
def fnExactFirstTimeSpec : ChangeSpec := { name := "fnExactFirstTime", fn := fun _ => fun
  | [d1, d2] => { results := [.lit (.bool true)], args := [d1, d2] }
  | _ => none }
def fnExactFirstTimeRow : OpenClaim := { program := "ytklilfbokpljkaa", sum := "d5c13fd72f815e7a0968307da9a7c7319d0a64f319443c44c7f15cfb4cbbcc58", func := "loop.example/g01017/laws.FnExactFirstTime", spec := "fnExactFirstTime", apart := false }
def FnExactFirstTimeSaid : Prop := fnExactFirstTimeRow.holds Try.pinned (OpenSpec.ofChange fnExactFirstTimeSpec)

/-- ITS FALSE NEIGHBOUR: 'it returns false'. Refute it at one input. -/
def fnExactFirstTimeWrong : ChangeSpec := { name := "fnExactFirstTime", fn := fun _ => fun
  | [d1, d2] => { results := [.lit (.bool false)], args := [d1, d2] }
  | _ => none }
def FnExactFirstTimeWrongFalsely : Prop := fnExactFirstTimeRow.holds Try.pinned (OpenSpec.ofChange fnExactFirstTimeWrong)

/-- 'laws.FnExactMeanSpeedTo': WHATEVER THE INPUT: true; the input reads as it did. -/
def fnExactMeanSpeedToSpec : ChangeSpec := { name := "fnExactMeanSpeedTo", fn := fun _ => fun
  | [d1, d2] => { results := [.lit (.bool true)], args := [d1, d2] }
  | _ => none }
def fnExactMeanSpeedToRow : OpenClaim := { program := "ytklilfbokpljkaa", sum := "d5c13fd72f815e7a0968307da9a7c7319d0a64f319443c44c7f15cfb4cbbcc58", func := "loop.example/g01017/laws.FnExactMeanSpeedTo", spec := "fnExactMeanSpeedTo", apart := false }
def FnExactMeanSpeedToSaid : Prop := fnExactMeanSpeedToRow.holds Try.pinned (OpenSpec.ofChange fnExactMeanSpeedToSpec)

/-- ITS FALSE NEIGHBOUR: 'it returns false'. Refute it at one input. -/
def fnExactMeanSpeedToWrong : ChangeSpec := { name := "fnExactMeanSpeedTo", fn := fun _ => fun
  | [d1, d2] => { results := [.lit (.bool false)], args := [d1, d2] }
  | _ => none }
def FnExactMeanSpeedToWrongFalsely : Prop := fnExactMeanSpeedToRow.holds Try.pinned (OpenSpec.ofChange fnExactMeanSpeedToWrong)

/-- 'laws.FnExactTimeTo': WHATEVER THE INPUT: true; the input reads as it did. -/
def fnExactTimeToSpec : ChangeSpec := { name := "fnExactTimeTo", fn := fun _ => fun
  | [d1, d2] => { results := [.lit (.bool true)], args := [d1, d2] }
  | _ => none }
def fnExactTimeToRow : OpenClaim := { program := "ytklilfbokpljkaa", sum := "d5c13fd72f815e7a0968307da9a7c7319d0a64f319443c44c7f15cfb4cbbcc58", func := "loop.example/g01017/laws.FnExactTimeTo", spec := "fnExactTimeTo", apart := false }
def FnExactTimeToSaid : Prop := fnExactTimeToRow.holds Try.pinned (OpenSpec.ofChange fnExactTimeToSpec)

/-- ITS FALSE NEIGHBOUR: 'it returns false'. Refute it at one input. -/
def fnExactTimeToWrong : ChangeSpec := { name := "fnExactTimeTo", fn := fun _ => fun
  | [d1, d2] => { results := [.lit (.bool false)], args := [d1, d2] }
  | _ => none }
def FnExactTimeToWrongFalsely : Prop := fnExactTimeToRow.holds Try.pinned (OpenSpec.ofChange fnExactTimeToWrong)

/-- 'laws.FnExactTimeVia': WHATEVER THE INPUT: true; the input reads as it did. -/
def fnExactTimeViaSpec : ChangeSpec := { name := "fnExactTimeVia", fn := fun _ => fun
  | [d1, d2, d3] => { results := [.lit (.bool true)], args := [d1, d2, d3] }
  | _ => none }
def fnExactTimeViaRow : OpenClaim := { program := "ytklilfbokpljkaa", sum := "d5c13fd72f815e7a0968307da9a7c7319d0a64f319443c44c7f15cfb4cbbcc58", func := "loop.example/g01017/laws.FnExactTimeVia", spec := "fnExactTimeVia", apart := false }
def FnExactTimeViaSaid : Prop := fnExactTimeViaRow.holds Try.pinned (OpenSpec.ofChange fnExactTimeViaSpec)

/-- ITS FALSE NEIGHBOUR: 'it returns false'. Refute it at one input. -/
def fnExactTimeViaWrong : ChangeSpec := { name := "fnExactTimeVia", fn := fun _ => fun
  | [d1, d2, d3] => { results := [.lit (.bool false)], args := [d1, d2, d3] }
  | _ => none }
def FnExactTimeViaWrongFalsely : Prop := fnExactTimeViaRow.holds Try.pinned (OpenSpec.ofChange fnExactTimeViaWrong)

/-- 'laws.FnLayers': WHATEVER THE INPUT: true; the input reads as it did. -/
def fnLayersSpec : ChangeSpec := { name := "fnLayers", fn := fun _ => fun
  | [d] => { results := [.lit (.bool true)], args := [d] }
  | _ => none }
def fnLayersRow : OpenClaim := { program := "ytklilfbokpljkaa", sum := "d5c13fd72f815e7a0968307da9a7c7319d0a64f319443c44c7f15cfb4cbbcc58", func := "loop.example/g01017/laws.FnLayers", spec := "fnLayers", apart := false }
def FnLayersSaid : Prop := fnLayersRow.holds Try.pinned (OpenSpec.ofChange fnLayersSpec)

/-- ITS FALSE NEIGHBOUR: 'it returns false'. Refute it at one input. -/
def fnLayersWrong : ChangeSpec := { name := "fnLayers", fn := fun _ => fun
  | [d] => { results := [.lit (.bool false)], args := [d] }
  | _ => none }
def FnLayersWrongFalsely : Prop := fnLayersRow.holds Try.pinned (OpenSpec.ofChange fnLayersWrong)

/-- 'laws.FnTravel': WHATEVER THE INPUT: true; the input reads as it did. -/
def fnTravelSpec : ChangeSpec := { name := "fnTravel", fn := fun _ => fun
  | [d] => { results := [.lit (.bool true)], args := [d] }
  | _ => none }
def fnTravelRow : OpenClaim := { program := "ytklilfbokpljkaa", sum := "d5c13fd72f815e7a0968307da9a7c7319d0a64f319443c44c7f15cfb4cbbcc58", func := "loop.example/g01017/laws.FnTravel", spec := "fnTravel", unfollowed := true, recurses := true, apart := false }
def FnTravelSaid : Prop := fnTravelRow.holds Try.pinned (OpenSpec.ofChange fnTravelSpec)

/-- ITS FALSE NEIGHBOUR: 'it returns false'. Refute it at one input. -/
def fnTravelWrong : ChangeSpec := { name := "fnTravel", fn := fun _ => fun
  | [d] => { results := [.lit (.bool false)], args := [d] }
  | _ => none }
def FnTravelWrongFalsely : Prop := fnTravelRow.holds Try.pinned (OpenSpec.ofChange fnTravelWrong)

/-- 'laws.FnExactMovingMedians': WHATEVER THE INPUT: true; the input reads as it did. -/
def fnExactMovingMediansSpec : ChangeSpec := { name := "fnExactMovingMedians", fn := fun _ => fun
  | [d1, d2] => { results := [.lit (.bool true)], args := [d1, d2] }
  | _ => none }
def fnExactMovingMediansRow : OpenClaim := { program := "ytklilfbokpljkaa", sum := "d5c13fd72f815e7a0968307da9a7c7319d0a64f319443c44c7f15cfb4cbbcc58", func := "loop.example/g01017/laws.FnExactMovingMedians", spec := "fnExactMovingMedians", unfollowed := true, recurses := true, apart := false }
def FnExactMovingMediansSaid : Prop := fnExactMovingMediansRow.holds Try.pinned (OpenSpec.ofChange fnExactMovingMediansSpec)

/-- ITS FALSE NEIGHBOUR: 'it returns false'. Refute it at one input. -/
def fnExactMovingMediansWrong : ChangeSpec := { name := "fnExactMovingMedians", fn := fun _ => fun
  | [d1, d2] => { results := [.lit (.bool false)], args := [d1, d2] }
  | _ => none }
def FnExactMovingMediansWrongFalsely : Prop := fnExactMovingMediansRow.holds Try.pinned (OpenSpec.ofChange fnExactMovingMediansWrong)

/-- 'laws.FnExactWeightBound': WHATEVER THE INPUT: true; the input reads as it did. -/
def fnExactWeightBoundSpec : ChangeSpec := { name := "fnExactWeightBound", fn := fun _ => fun
  | [d] => { results := [.lit (.bool true)], args := [d] }
  | _ => none }
def fnExactWeightBoundRow : OpenClaim := { program := "ytklilfbokpljkaa", sum := "d5c13fd72f815e7a0968307da9a7c7319d0a64f319443c44c7f15cfb4cbbcc58", func := "loop.example/g01017/laws.FnExactWeightBound", spec := "fnExactWeightBound", apart := false }
def FnExactWeightBoundSaid : Prop := fnExactWeightBoundRow.holds Try.pinned (OpenSpec.ofChange fnExactWeightBoundSpec)

/-- ITS FALSE NEIGHBOUR: 'it returns false'. Refute it at one input. -/
def fnExactWeightBoundWrong : ChangeSpec := { name := "fnExactWeightBound", fn := fun _ => fun
  | [d] => { results := [.lit (.bool false)], args := [d] }
  | _ => none }
def FnExactWeightBoundWrongFalsely : Prop := fnExactWeightBoundRow.holds Try.pinned (OpenSpec.ofChange fnExactWeightBoundWrong)

/-- 'laws.FnFilters': WHATEVER THE INPUT: true; the input reads as it did. -/
def fnFiltersSpec : ChangeSpec := { name := "fnFilters", fn := fun _ => fun
  | [d] => { results := [.lit (.bool true)], args := [d] }
  | _ => none }
def fnFiltersRow : OpenClaim := { program := "ytklilfbokpljkaa", sum := "d5c13fd72f815e7a0968307da9a7c7319d0a64f319443c44c7f15cfb4cbbcc58", func := "loop.example/g01017/laws.FnFilters", spec := "fnFilters", unfollowed := true, recurses := true, apart := false }
def FnFiltersSaid : Prop := fnFiltersRow.holds Try.pinned (OpenSpec.ofChange fnFiltersSpec)

/-- ITS FALSE NEIGHBOUR: 'it returns false'. Refute it at one input. -/
def fnFiltersWrong : ChangeSpec := { name := "fnFilters", fn := fun _ => fun
  | [d] => { results := [.lit (.bool false)], args := [d] }
  | _ => none }
def FnFiltersWrongFalsely : Prop := fnFiltersRow.holds Try.pinned (OpenSpec.ofChange fnFiltersWrong)

/-- 'laws.FnSmoothing': WHATEVER THE INPUT: true; the input reads as it did. -/
def fnSmoothingSpec : ChangeSpec := { name := "fnSmoothing", fn := fun _ => fun
  | [d] => { results := [.lit (.bool true)], args := [d] }
  | _ => none }
def fnSmoothingRow : OpenClaim := { program := "ytklilfbokpljkaa", sum := "d5c13fd72f815e7a0968307da9a7c7319d0a64f319443c44c7f15cfb4cbbcc58", func := "loop.example/g01017/laws.FnSmoothing", spec := "fnSmoothing", unfollowed := true, recurses := true, apart := false }
def FnSmoothingSaid : Prop := fnSmoothingRow.holds Try.pinned (OpenSpec.ofChange fnSmoothingSpec)

/-- ITS FALSE NEIGHBOUR: 'it returns false'. Refute it at one input. -/
def fnSmoothingWrong : ChangeSpec := { name := "fnSmoothing", fn := fun _ => fun
  | [d] => { results := [.lit (.bool false)], args := [d] }
  | _ => none }
def FnSmoothingWrongFalsely : Prop := fnSmoothingRow.holds Try.pinned (OpenSpec.ofChange fnSmoothingWrong)

/-- 'laws.FnExactMovedMost': WHATEVER THE INPUT: true; the input reads as it did. -/
def fnExactMovedMostSpec : ChangeSpec := { name := "fnExactMovedMost", fn := fun _ => fun
  | [d] => { results := [.lit (.bool true)], args := [d] }
  | _ => none }
def fnExactMovedMostRow : OpenClaim := { program := "ytklilfbokpljkaa", sum := "d5c13fd72f815e7a0968307da9a7c7319d0a64f319443c44c7f15cfb4cbbcc58", func := "loop.example/g01017/laws.FnExactMovedMost", spec := "fnExactMovedMost", unfollowed := true, recurses := true, apart := false }
def FnExactMovedMostSaid : Prop := fnExactMovedMostRow.holds Try.pinned (OpenSpec.ofChange fnExactMovedMostSpec)

/-- ITS FALSE NEIGHBOUR: 'it returns false'. Refute it at one input. -/
def fnExactMovedMostWrong : ChangeSpec := { name := "fnExactMovedMost", fn := fun _ => fun
  | [d] => { results := [.lit (.bool false)], args := [d] }
  | _ => none }
def FnExactMovedMostWrongFalsely : Prop := fnExactMovedMostRow.holds Try.pinned (OpenSpec.ofChange fnExactMovedMostWrong)

/-- 'laws.FnOnsets': WHATEVER THE INPUT: true; the input reads as it did. -/
def fnOnsetsSpec : ChangeSpec := { name := "fnOnsets", fn := fun _ => fun
  | [d] => { results := [.lit (.bool true)], args := [d] }
  | _ => none }
def fnOnsetsRow : OpenClaim := { program := "ytklilfbokpljkaa", sum := "d5c13fd72f815e7a0968307da9a7c7319d0a64f319443c44c7f15cfb4cbbcc58", func := "loop.example/g01017/laws.FnOnsets", spec := "fnOnsets", unfollowed := true, recurses := true, apart := false }
def FnOnsetsSaid : Prop := fnOnsetsRow.holds Try.pinned (OpenSpec.ofChange fnOnsetsSpec)

/-- ITS FALSE NEIGHBOUR: 'it returns false'. Refute it at one input. -/
def fnOnsetsWrong : ChangeSpec := { name := "fnOnsets", fn := fun _ => fun
  | [d] => { results := [.lit (.bool false)], args := [d] }
  | _ => none }
def FnOnsetsWrongFalsely : Prop := fnOnsetsRow.holds Try.pinned (OpenSpec.ofChange fnOnsetsWrong)

/- THE SECOND FORM. 'bulk': how many values and letters a reading holds, each counted each time it is reached (what is shared counts as often as it is met; a slice's spare places count too). A statement '..UptoSaid' is the law's where the arguments, and the package variables that the reading takes, are together of bulk at most 1048576: NARROWER than '..Said'. Prove '..Said' where nothing that the law and all that it calls make is longer than what came in: it says more and counts as full. Else prove '..UptoSaid'. A law counts once. -/
mutual
def uptoBulk {H : Type} : DataW H → Nat
  | .lit (.string bytes) => bytes.length + 1
  | .lit _ => 1
  | .nil => 1
  | .ptr d => uptoBulk d + 1
  | .slice elems spare => uptoBulkAll elems + uptoBulkAll spare + 1
  | .agg parts => uptoBulkAll parts + 1
  | .iface _ d => uptoBulk d + 1
  | .map entries => uptoBulkEntries entries + 1
  | .held _ => 1
def uptoBulkAll {H : Type} : List (DataW H) → Nat
  | [] => 0
  | d :: r => uptoBulk d + uptoBulkAll r
def uptoBulkEntries {H : Type} : List (Lit × DataW H) → Nat
  | [] => 0
  | x :: r => uptoBulkEntry x + uptoBulkEntries r
def uptoBulkEntry {H : Type} : Lit × DataW H → Nat
  | (.string bytes, d) => bytes.length + uptoBulk d + 1
  | (_, d) => uptoBulk d + 1
 end
def uptoSmall : (H : Type) → List (DataW H) → Bool := fun _ ds => decide (uptoBulkAll ds ≤ 1048576)
def OpenSpec.upto (s : _root_.Go.ChangeSpec) : _root_.Go.OpenSpec := { _root_.Go.OpenSpec.ofChange s with cond := some uptoSmall }

/-- 'laws.FnExactFirstTime', WHERE WHAT IT READS IS OF BULK AT MOST 1048576: true; the input reads as it did. -/
def fnExactFirstTimeUptoRow : OpenClaim := { program := "ytklilfbokpljkaa", sum := "d5c13fd72f815e7a0968307da9a7c7319d0a64f319443c44c7f15cfb4cbbcc58", func := "loop.example/g01017/laws.FnExactFirstTime", spec := "fnExactFirstTime", apart := false, narrowed := true }
def FnExactFirstTimeUptoSaid : Prop := fnExactFirstTimeUptoRow.holds Try.pinned (OpenSpec.upto fnExactFirstTimeSpec)

/-- 'laws.FnExactMeanSpeedTo', WHERE WHAT IT READS IS OF BULK AT MOST 1048576: true; the input reads as it did. -/
def fnExactMeanSpeedToUptoRow : OpenClaim := { program := "ytklilfbokpljkaa", sum := "d5c13fd72f815e7a0968307da9a7c7319d0a64f319443c44c7f15cfb4cbbcc58", func := "loop.example/g01017/laws.FnExactMeanSpeedTo", spec := "fnExactMeanSpeedTo", apart := false, narrowed := true }
def FnExactMeanSpeedToUptoSaid : Prop := fnExactMeanSpeedToUptoRow.holds Try.pinned (OpenSpec.upto fnExactMeanSpeedToSpec)

/-- 'laws.FnExactTimeTo', WHERE WHAT IT READS IS OF BULK AT MOST 1048576: true; the input reads as it did. -/
def fnExactTimeToUptoRow : OpenClaim := { program := "ytklilfbokpljkaa", sum := "d5c13fd72f815e7a0968307da9a7c7319d0a64f319443c44c7f15cfb4cbbcc58", func := "loop.example/g01017/laws.FnExactTimeTo", spec := "fnExactTimeTo", apart := false, narrowed := true }
def FnExactTimeToUptoSaid : Prop := fnExactTimeToUptoRow.holds Try.pinned (OpenSpec.upto fnExactTimeToSpec)

/-- 'laws.FnExactTimeVia', WHERE WHAT IT READS IS OF BULK AT MOST 1048576: true; the input reads as it did. -/
def fnExactTimeViaUptoRow : OpenClaim := { program := "ytklilfbokpljkaa", sum := "d5c13fd72f815e7a0968307da9a7c7319d0a64f319443c44c7f15cfb4cbbcc58", func := "loop.example/g01017/laws.FnExactTimeVia", spec := "fnExactTimeVia", apart := false, narrowed := true }
def FnExactTimeViaUptoSaid : Prop := fnExactTimeViaUptoRow.holds Try.pinned (OpenSpec.upto fnExactTimeViaSpec)

/-- 'laws.FnLayers', WHERE WHAT IT READS IS OF BULK AT MOST 1048576: true; the input reads as it did. -/
def fnLayersUptoRow : OpenClaim := { program := "ytklilfbokpljkaa", sum := "d5c13fd72f815e7a0968307da9a7c7319d0a64f319443c44c7f15cfb4cbbcc58", func := "loop.example/g01017/laws.FnLayers", spec := "fnLayers", apart := false, narrowed := true }
def FnLayersUptoSaid : Prop := fnLayersUptoRow.holds Try.pinned (OpenSpec.upto fnLayersSpec)

/-- 'laws.FnTravel', WHERE WHAT IT READS IS OF BULK AT MOST 1048576: true; the input reads as it did. -/
def fnTravelUptoRow : OpenClaim := { program := "ytklilfbokpljkaa", sum := "d5c13fd72f815e7a0968307da9a7c7319d0a64f319443c44c7f15cfb4cbbcc58", func := "loop.example/g01017/laws.FnTravel", spec := "fnTravel", unfollowed := true, recurses := true, apart := false, narrowed := true }
def FnTravelUptoSaid : Prop := fnTravelUptoRow.holds Try.pinned (OpenSpec.upto fnTravelSpec)

/-- 'laws.FnExactMovingMedians', WHERE WHAT IT READS IS OF BULK AT MOST 1048576: true; the input reads as it did. -/
def fnExactMovingMediansUptoRow : OpenClaim := { program := "ytklilfbokpljkaa", sum := "d5c13fd72f815e7a0968307da9a7c7319d0a64f319443c44c7f15cfb4cbbcc58", func := "loop.example/g01017/laws.FnExactMovingMedians", spec := "fnExactMovingMedians", unfollowed := true, recurses := true, apart := false, narrowed := true }
def FnExactMovingMediansUptoSaid : Prop := fnExactMovingMediansUptoRow.holds Try.pinned (OpenSpec.upto fnExactMovingMediansSpec)

/-- 'laws.FnExactWeightBound', WHERE WHAT IT READS IS OF BULK AT MOST 1048576: true; the input reads as it did. -/
def fnExactWeightBoundUptoRow : OpenClaim := { program := "ytklilfbokpljkaa", sum := "d5c13fd72f815e7a0968307da9a7c7319d0a64f319443c44c7f15cfb4cbbcc58", func := "loop.example/g01017/laws.FnExactWeightBound", spec := "fnExactWeightBound", apart := false, narrowed := true }
def FnExactWeightBoundUptoSaid : Prop := fnExactWeightBoundUptoRow.holds Try.pinned (OpenSpec.upto fnExactWeightBoundSpec)

/-- 'laws.FnFilters', WHERE WHAT IT READS IS OF BULK AT MOST 1048576: true; the input reads as it did. -/
def fnFiltersUptoRow : OpenClaim := { program := "ytklilfbokpljkaa", sum := "d5c13fd72f815e7a0968307da9a7c7319d0a64f319443c44c7f15cfb4cbbcc58", func := "loop.example/g01017/laws.FnFilters", spec := "fnFilters", unfollowed := true, recurses := true, apart := false, narrowed := true }
def FnFiltersUptoSaid : Prop := fnFiltersUptoRow.holds Try.pinned (OpenSpec.upto fnFiltersSpec)

/-- 'laws.FnSmoothing', WHERE WHAT IT READS IS OF BULK AT MOST 1048576: true; the input reads as it did. -/
def fnSmoothingUptoRow : OpenClaim := { program := "ytklilfbokpljkaa", sum := "d5c13fd72f815e7a0968307da9a7c7319d0a64f319443c44c7f15cfb4cbbcc58", func := "loop.example/g01017/laws.FnSmoothing", spec := "fnSmoothing", unfollowed := true, recurses := true, apart := false, narrowed := true }
def FnSmoothingUptoSaid : Prop := fnSmoothingUptoRow.holds Try.pinned (OpenSpec.upto fnSmoothingSpec)

/-- 'laws.FnExactMovedMost', WHERE WHAT IT READS IS OF BULK AT MOST 1048576: true; the input reads as it did. -/
def fnExactMovedMostUptoRow : OpenClaim := { program := "ytklilfbokpljkaa", sum := "d5c13fd72f815e7a0968307da9a7c7319d0a64f319443c44c7f15cfb4cbbcc58", func := "loop.example/g01017/laws.FnExactMovedMost", spec := "fnExactMovedMost", unfollowed := true, recurses := true, apart := false, narrowed := true }
def FnExactMovedMostUptoSaid : Prop := fnExactMovedMostUptoRow.holds Try.pinned (OpenSpec.upto fnExactMovedMostSpec)

/-- 'laws.FnOnsets', WHERE WHAT IT READS IS OF BULK AT MOST 1048576: true; the input reads as it did. -/
def fnOnsetsUptoRow : OpenClaim := { program := "ytklilfbokpljkaa", sum := "d5c13fd72f815e7a0968307da9a7c7319d0a64f319443c44c7f15cfb4cbbcc58", func := "loop.example/g01017/laws.FnOnsets", spec := "fnOnsets", unfollowed := true, recurses := true, apart := false, narrowed := true }
def FnOnsetsUptoSaid : Prop := fnOnsetsUptoRow.holds Try.pinned (OpenSpec.upto fnOnsetsSpec)

end Rows
end Go.Proofs.Ytklilfbokpljkaa
