/-
  No cell of these rows narrows 'for every input' (looked for: loops, veiled, ifaces, maps, wideKeys, modest, calm, conditions, laid).
  DERIVED. THE GIVEN ROWS OF THIS SEAT. 10 by the template 'for every input the law returns true; each argument reads behind the call as it read before'; 0 by the template 'total and deterministic' (their statements: YtoogofceoinniabTotals.lean).
  GIVEN WITH THE SEED: the statements are not yours to turn. If you find one false, say at which input.
  Laid BY PROGRAM, IN A SANDBOX (cutbox-rows.mjs): the forced cells as the released guide's own fill.sh prints them over the translation a758759855664843… (all of the seat's roots in one cut). By AI agents, Wed Nov 11 2026. No macro, syntax, notation, axiom, sorry.
-/
import Derived.Test.YtoogofceoinniabChecked
import GoSem.Claim
import GoSem.ClaimJoined
import GoSem.ClaimMapViews
import Derived.JoinedTies
import Derived.KernelRfl
namespace Go.Proofs.Ytoogofceoinniab
/- THE CELL 'sum', in the pinned program and in every row, IS THE sha256 OF THE DUMP (.gsa) THAT YtoogofceoinniabProg.lean LOADS. Nothing in Lean hashes anything: it is a label: what it is worth is what the hold of that sum in a sandbox is worth. -/
noncomputable def Try.pinned : Pinned := { name := "ytoogofceoinniab", sum := "a7587598556648436f7526f7a47e3b31d888bb89914ec1e9f7a65c12faedd7b9", checked := Try.checked }
namespace Rows
def none {H : Type} : Left H := { results := [], args := [] }

/-- 'laws.FnExactDoesFit': WHATEVER THE INPUT: true; the input reads as it did. -/
def fnExactDoesFitSpec : ChangeSpec := { name := "fnExactDoesFit", fn := fun _ => fun
  | [d1, d2] => { results := [.lit (.bool true)], args := [d1, d2] }
  | _ => none }
def fnExactDoesFitRow : OpenClaim := { program := "ytoogofceoinniab", sum := "a7587598556648436f7526f7a47e3b31d888bb89914ec1e9f7a65c12faedd7b9", func := "loop.example/g01017/laws.FnExactDoesFit", spec := "fnExactDoesFit", unfollowed := true, recurses := true, apart := false }
def FnExactDoesFitSaid : Prop := fnExactDoesFitRow.holds Try.pinned (OpenSpec.ofChange fnExactDoesFitSpec)

/-- ITS FALSE NEIGHBOUR: 'it returns false'. Refute it at one input. -/
def fnExactDoesFitWrong : ChangeSpec := { name := "fnExactDoesFit", fn := fun _ => fun
  | [d1, d2] => { results := [.lit (.bool false)], args := [d1, d2] }
  | _ => none }
def FnExactDoesFitWrongFalsely : Prop := fnExactDoesFitRow.holds Try.pinned (OpenSpec.ofChange fnExactDoesFitWrong)

/-- 'laws.FnExactVotesFor': WHATEVER THE INPUT: true; the input reads as it did. -/
def fnExactVotesForSpec : ChangeSpec := { name := "fnExactVotesFor", fn := fun _ => fun
  | [d1, d2] => { results := [.lit (.bool true)], args := [d1, d2] }
  | _ => none }
def fnExactVotesForRow : OpenClaim := { program := "ytoogofceoinniab", sum := "a7587598556648436f7526f7a47e3b31d888bb89914ec1e9f7a65c12faedd7b9", func := "loop.example/g01017/laws.FnExactVotesFor", spec := "fnExactVotesFor", unfollowed := true, recurses := true, apart := false }
def FnExactVotesForSaid : Prop := fnExactVotesForRow.holds Try.pinned (OpenSpec.ofChange fnExactVotesForSpec)

/-- ITS FALSE NEIGHBOUR: 'it returns false'. Refute it at one input. -/
def fnExactVotesForWrong : ChangeSpec := { name := "fnExactVotesFor", fn := fun _ => fun
  | [d1, d2] => { results := [.lit (.bool false)], args := [d1, d2] }
  | _ => none }
def FnExactVotesForWrongFalsely : Prop := fnExactVotesForRow.holds Try.pinned (OpenSpec.ofChange fnExactVotesForWrong)

/-- 'laws.FnExactVotersFor': WHATEVER THE INPUT: true; the input reads as it did. -/
def fnExactVotersForSpec : ChangeSpec := { name := "fnExactVotersFor", fn := fun _ => fun
  | [d1, d2] => { results := [.lit (.bool true)], args := [d1, d2] }
  | _ => none }
def fnExactVotersForRow : OpenClaim := { program := "ytoogofceoinniab", sum := "a7587598556648436f7526f7a47e3b31d888bb89914ec1e9f7a65c12faedd7b9", func := "loop.example/g01017/laws.FnExactVotersFor", spec := "fnExactVotersFor", unfollowed := true, recurses := true, apart := false }
def FnExactVotersForSaid : Prop := fnExactVotersForRow.holds Try.pinned (OpenSpec.ofChange fnExactVotersForSpec)

/-- ITS FALSE NEIGHBOUR: 'it returns false'. Refute it at one input. -/
def fnExactVotersForWrong : ChangeSpec := { name := "fnExactVotersFor", fn := fun _ => fun
  | [d1, d2] => { results := [.lit (.bool false)], args := [d1, d2] }
  | _ => none }
def FnExactVotersForWrongFalsely : Prop := fnExactVotersForRow.holds Try.pinned (OpenSpec.ofChange fnExactVotersForWrong)

/-- 'laws.FnExactTicksThatFit': WHATEVER THE INPUT: true; the input reads as it did. -/
def fnExactTicksThatFitSpec : ChangeSpec := { name := "fnExactTicksThatFit", fn := fun _ => fun
  | [d1, d2, d3] => { results := [.lit (.bool true)], args := [d1, d2, d3] }
  | _ => none }
def fnExactTicksThatFitRow : OpenClaim := { program := "ytoogofceoinniab", sum := "a7587598556648436f7526f7a47e3b31d888bb89914ec1e9f7a65c12faedd7b9", func := "loop.example/g01017/laws.FnExactTicksThatFit", spec := "fnExactTicksThatFit", unfollowed := true, recurses := true, apart := false }
def FnExactTicksThatFitSaid : Prop := fnExactTicksThatFitRow.holds Try.pinned (OpenSpec.ofChange fnExactTicksThatFitSpec)

/-- ITS FALSE NEIGHBOUR: 'it returns false'. Refute it at one input. -/
def fnExactTicksThatFitWrong : ChangeSpec := { name := "fnExactTicksThatFit", fn := fun _ => fun
  | [d1, d2, d3] => { results := [.lit (.bool false)], args := [d1, d2, d3] }
  | _ => none }
def FnExactTicksThatFitWrongFalsely : Prop := fnExactTicksThatFitRow.holds Try.pinned (OpenSpec.ofChange fnExactTicksThatFitWrong)

/-- 'laws.FnExactMostVotesAt': WHATEVER THE INPUT: true; the input reads as it did. -/
def fnExactMostVotesAtSpec : ChangeSpec := { name := "fnExactMostVotesAt", fn := fun _ => fun
  | [d1, d2, d3] => { results := [.lit (.bool true)], args := [d1, d2, d3] }
  | _ => none }
def fnExactMostVotesAtRow : OpenClaim := { program := "ytoogofceoinniab", sum := "a7587598556648436f7526f7a47e3b31d888bb89914ec1e9f7a65c12faedd7b9", func := "loop.example/g01017/laws.FnExactMostVotesAt", spec := "fnExactMostVotesAt", unfollowed := true, recurses := true, apart := false }
def FnExactMostVotesAtSaid : Prop := fnExactMostVotesAtRow.holds Try.pinned (OpenSpec.ofChange fnExactMostVotesAtSpec)

/-- ITS FALSE NEIGHBOUR: 'it returns false'. Refute it at one input. -/
def fnExactMostVotesAtWrong : ChangeSpec := { name := "fnExactMostVotesAt", fn := fun _ => fun
  | [d1, d2, d3] => { results := [.lit (.bool false)], args := [d1, d2, d3] }
  | _ => none }
def FnExactMostVotesAtWrongFalsely : Prop := fnExactMostVotesAtRow.holds Try.pinned (OpenSpec.ofChange fnExactMostVotesAtWrong)

/-- 'laws.FnExactBestOnGrid': WHATEVER THE INPUT: true; the input reads as it did. -/
def fnExactBestOnGridSpec : ChangeSpec := { name := "fnExactBestOnGrid", fn := fun _ => fun
  | [d1, d2] => { results := [.lit (.bool true)], args := [d1, d2] }
  | _ => none }
def fnExactBestOnGridRow : OpenClaim := { program := "ytoogofceoinniab", sum := "a7587598556648436f7526f7a47e3b31d888bb89914ec1e9f7a65c12faedd7b9", func := "loop.example/g01017/laws.FnExactBestOnGrid", spec := "fnExactBestOnGrid", unfollowed := true, recurses := true, apart := false }
def FnExactBestOnGridSaid : Prop := fnExactBestOnGridRow.holds Try.pinned (OpenSpec.ofChange fnExactBestOnGridSpec)

/-- ITS FALSE NEIGHBOUR: 'it returns false'. Refute it at one input. -/
def fnExactBestOnGridWrong : ChangeSpec := { name := "fnExactBestOnGrid", fn := fun _ => fun
  | [d1, d2] => { results := [.lit (.bool false)], args := [d1, d2] }
  | _ => none }
def FnExactBestOnGridWrongFalsely : Prop := fnExactBestOnGridRow.holds Try.pinned (OpenSpec.ofChange fnExactBestOnGridWrong)

/-- 'laws.FnExactWithoutVoters': WHATEVER THE INPUT: true; the input reads as it did. -/
def fnExactWithoutVotersSpec : ChangeSpec := { name := "fnExactWithoutVoters", fn := fun _ => fun
  | [d1, d2] => { results := [.lit (.bool true)], args := [d1, d2] }
  | _ => none }
def fnExactWithoutVotersRow : OpenClaim := { program := "ytoogofceoinniab", sum := "a7587598556648436f7526f7a47e3b31d888bb89914ec1e9f7a65c12faedd7b9", func := "loop.example/g01017/laws.FnExactWithoutVoters", spec := "fnExactWithoutVoters", unfollowed := true, recurses := true, apart := false }
def FnExactWithoutVotersSaid : Prop := fnExactWithoutVotersRow.holds Try.pinned (OpenSpec.ofChange fnExactWithoutVotersSpec)

/-- ITS FALSE NEIGHBOUR: 'it returns false'. Refute it at one input. -/
def fnExactWithoutVotersWrong : ChangeSpec := { name := "fnExactWithoutVoters", fn := fun _ => fun
  | [d1, d2] => { results := [.lit (.bool false)], args := [d1, d2] }
  | _ => none }
def FnExactWithoutVotersWrongFalsely : Prop := fnExactWithoutVotersRow.holds Try.pinned (OpenSpec.ofChange fnExactWithoutVotersWrong)

/-- 'laws.FnExactEventsFound': WHATEVER THE INPUT: true; the input reads as it did. -/
def fnExactEventsFoundSpec : ChangeSpec := { name := "fnExactEventsFound", fn := fun _ => fun
  | [d1, d2, d3] => { results := [.lit (.bool true)], args := [d1, d2, d3] }
  | _ => none }
def fnExactEventsFoundRow : OpenClaim := { program := "ytoogofceoinniab", sum := "a7587598556648436f7526f7a47e3b31d888bb89914ec1e9f7a65c12faedd7b9", func := "loop.example/g01017/laws.FnExactEventsFound", spec := "fnExactEventsFound", unfollowed := true, recurses := true, apart := false }
def FnExactEventsFoundSaid : Prop := fnExactEventsFoundRow.holds Try.pinned (OpenSpec.ofChange fnExactEventsFoundSpec)

/-- ITS FALSE NEIGHBOUR: 'it returns false'. Refute it at one input. -/
def fnExactEventsFoundWrong : ChangeSpec := { name := "fnExactEventsFound", fn := fun _ => fun
  | [d1, d2, d3] => { results := [.lit (.bool false)], args := [d1, d2, d3] }
  | _ => none }
def FnExactEventsFoundWrongFalsely : Prop := fnExactEventsFoundRow.holds Try.pinned (OpenSpec.ofChange fnExactEventsFoundWrong)

/-- 'laws.FnEventsFound': WHATEVER THE INPUT: true; the input reads as it did. -/
def fnEventsFoundSpec : ChangeSpec := { name := "fnEventsFound", fn := fun _ => fun
  | [d] => { results := [.lit (.bool true)], args := [d] }
  | _ => none }
def fnEventsFoundRow : OpenClaim := { program := "ytoogofceoinniab", sum := "a7587598556648436f7526f7a47e3b31d888bb89914ec1e9f7a65c12faedd7b9", func := "loop.example/g01017/laws.FnEventsFound", spec := "fnEventsFound", unfollowed := true, recurses := true, apart := false }
def FnEventsFoundSaid : Prop := fnEventsFoundRow.holds Try.pinned (OpenSpec.ofChange fnEventsFoundSpec)

/-- ITS FALSE NEIGHBOUR: 'it returns false'. Refute it at one input. -/
def fnEventsFoundWrong : ChangeSpec := { name := "fnEventsFound", fn := fun _ => fun
  | [d] => { results := [.lit (.bool false)], args := [d] }
  | _ => none }
def FnEventsFoundWrongFalsely : Prop := fnEventsFoundRow.holds Try.pinned (OpenSpec.ofChange fnEventsFoundWrong)

/-- 'laws.FnVotes': WHATEVER THE INPUT: true; the input reads as it did. -/
def fnVotesSpec : ChangeSpec := { name := "fnVotes", fn := fun _ => fun
  | [d] => { results := [.lit (.bool true)], args := [d] }
  | _ => none }
def fnVotesRow : OpenClaim := { program := "ytoogofceoinniab", sum := "a7587598556648436f7526f7a47e3b31d888bb89914ec1e9f7a65c12faedd7b9", func := "loop.example/g01017/laws.FnVotes", spec := "fnVotes", unfollowed := true, recurses := true, apart := false }
def FnVotesSaid : Prop := fnVotesRow.holds Try.pinned (OpenSpec.ofChange fnVotesSpec)

/-- ITS FALSE NEIGHBOUR: 'it returns false'. Refute it at one input. -/
def fnVotesWrong : ChangeSpec := { name := "fnVotes", fn := fun _ => fun
  | [d] => { results := [.lit (.bool false)], args := [d] }
  | _ => none }
def FnVotesWrongFalsely : Prop := fnVotesRow.holds Try.pinned (OpenSpec.ofChange fnVotesWrong)

/- THE SECOND FORM. 'bulk': how many values and letters a reading holds, each counted each time it is reached (what is shared counts as often as it is met; a slice's spare places count too). A statement '..UptoSaid' is the law's where the arguments, and the package variables that the reading takes, are together of bulk at most 1048576: NARROWER than '..Said'. Prove '..Said' where nothing that the law and all that it calls make is longer than what came in: it says more and counts as full. Else prove '..UptoSaid'. A law counts once. -/
mutual
def uptoBulk {H : Type} : DataW H → Nat
  | .lit (.string bytes) => bytes.length + 1
  | .lit _ => 1
  | .nil => 1
  | .ptr d => uptoBulk d + 1
  | .slice elems spare => uptoBulkAll elems + uptoBulkAll spare + 1
  | .agg parts => uptoBulkAll parts + 1
  | .iface _ d => uptoBulk d + 1
  | .map entries => uptoBulkEntries entries + 1
  | .held _ => 1
def uptoBulkAll {H : Type} : List (DataW H) → Nat
  | [] => 0
  | d :: r => uptoBulk d + uptoBulkAll r
def uptoBulkEntries {H : Type} : List (Lit × DataW H) → Nat
  | [] => 0
  | x :: r => uptoBulkEntry x + uptoBulkEntries r
def uptoBulkEntry {H : Type} : Lit × DataW H → Nat
  | (.string bytes, d) => bytes.length + uptoBulk d + 1
  | (_, d) => uptoBulk d + 1
 end
def uptoSmall : (H : Type) → List (DataW H) → Bool := fun _ ds => decide (uptoBulkAll ds ≤ 1048576)
def OpenSpec.upto (s : _root_.Go.ChangeSpec) : _root_.Go.OpenSpec := { _root_.Go.OpenSpec.ofChange s with cond := some uptoSmall }

/-- 'laws.FnExactDoesFit', WHERE WHAT IT READS IS OF BULK AT MOST 1048576: true; the input reads as it did. -/
def fnExactDoesFitUptoRow : OpenClaim := { program := "ytoogofceoinniab", sum := "a7587598556648436f7526f7a47e3b31d888bb89914ec1e9f7a65c12faedd7b9", func := "loop.example/g01017/laws.FnExactDoesFit", spec := "fnExactDoesFit", unfollowed := true, recurses := true, apart := false, narrowed := true }
def FnExactDoesFitUptoSaid : Prop := fnExactDoesFitUptoRow.holds Try.pinned (OpenSpec.upto fnExactDoesFitSpec)

/-- 'laws.FnExactVotesFor', WHERE WHAT IT READS IS OF BULK AT MOST 1048576: true; the input reads as it did. -/
def fnExactVotesForUptoRow : OpenClaim := { program := "ytoogofceoinniab", sum := "a7587598556648436f7526f7a47e3b31d888bb89914ec1e9f7a65c12faedd7b9", func := "loop.example/g01017/laws.FnExactVotesFor", spec := "fnExactVotesFor", unfollowed := true, recurses := true, apart := false, narrowed := true }
def FnExactVotesForUptoSaid : Prop := fnExactVotesForUptoRow.holds Try.pinned (OpenSpec.upto fnExactVotesForSpec)

/-- 'laws.FnExactVotersFor', WHERE WHAT IT READS IS OF BULK AT MOST 1048576: true; the input reads as it did. -/
def fnExactVotersForUptoRow : OpenClaim := { program := "ytoogofceoinniab", sum := "a7587598556648436f7526f7a47e3b31d888bb89914ec1e9f7a65c12faedd7b9", func := "loop.example/g01017/laws.FnExactVotersFor", spec := "fnExactVotersFor", unfollowed := true, recurses := true, apart := false, narrowed := true }
def FnExactVotersForUptoSaid : Prop := fnExactVotersForUptoRow.holds Try.pinned (OpenSpec.upto fnExactVotersForSpec)

/-- 'laws.FnExactTicksThatFit', WHERE WHAT IT READS IS OF BULK AT MOST 1048576: true; the input reads as it did. -/
def fnExactTicksThatFitUptoRow : OpenClaim := { program := "ytoogofceoinniab", sum := "a7587598556648436f7526f7a47e3b31d888bb89914ec1e9f7a65c12faedd7b9", func := "loop.example/g01017/laws.FnExactTicksThatFit", spec := "fnExactTicksThatFit", unfollowed := true, recurses := true, apart := false, narrowed := true }
def FnExactTicksThatFitUptoSaid : Prop := fnExactTicksThatFitUptoRow.holds Try.pinned (OpenSpec.upto fnExactTicksThatFitSpec)

/-- 'laws.FnExactMostVotesAt', WHERE WHAT IT READS IS OF BULK AT MOST 1048576: true; the input reads as it did. -/
def fnExactMostVotesAtUptoRow : OpenClaim := { program := "ytoogofceoinniab", sum := "a7587598556648436f7526f7a47e3b31d888bb89914ec1e9f7a65c12faedd7b9", func := "loop.example/g01017/laws.FnExactMostVotesAt", spec := "fnExactMostVotesAt", unfollowed := true, recurses := true, apart := false, narrowed := true }
def FnExactMostVotesAtUptoSaid : Prop := fnExactMostVotesAtUptoRow.holds Try.pinned (OpenSpec.upto fnExactMostVotesAtSpec)

/-- 'laws.FnExactBestOnGrid', WHERE WHAT IT READS IS OF BULK AT MOST 1048576: true; the input reads as it did. -/
def fnExactBestOnGridUptoRow : OpenClaim := { program := "ytoogofceoinniab", sum := "a7587598556648436f7526f7a47e3b31d888bb89914ec1e9f7a65c12faedd7b9", func := "loop.example/g01017/laws.FnExactBestOnGrid", spec := "fnExactBestOnGrid", unfollowed := true, recurses := true, apart := false, narrowed := true }
def FnExactBestOnGridUptoSaid : Prop := fnExactBestOnGridUptoRow.holds Try.pinned (OpenSpec.upto fnExactBestOnGridSpec)

/-- 'laws.FnExactWithoutVoters', WHERE WHAT IT READS IS OF BULK AT MOST 1048576: true; the input reads as it did. -/
def fnExactWithoutVotersUptoRow : OpenClaim := { program := "ytoogofceoinniab", sum := "a7587598556648436f7526f7a47e3b31d888bb89914ec1e9f7a65c12faedd7b9", func := "loop.example/g01017/laws.FnExactWithoutVoters", spec := "fnExactWithoutVoters", unfollowed := true, recurses := true, apart := false, narrowed := true }
def FnExactWithoutVotersUptoSaid : Prop := fnExactWithoutVotersUptoRow.holds Try.pinned (OpenSpec.upto fnExactWithoutVotersSpec)

/-- 'laws.FnExactEventsFound', WHERE WHAT IT READS IS OF BULK AT MOST 1048576: true; the input reads as it did. -/
def fnExactEventsFoundUptoRow : OpenClaim := { program := "ytoogofceoinniab", sum := "a7587598556648436f7526f7a47e3b31d888bb89914ec1e9f7a65c12faedd7b9", func := "loop.example/g01017/laws.FnExactEventsFound", spec := "fnExactEventsFound", unfollowed := true, recurses := true, apart := false, narrowed := true }
def FnExactEventsFoundUptoSaid : Prop := fnExactEventsFoundUptoRow.holds Try.pinned (OpenSpec.upto fnExactEventsFoundSpec)

/-- 'laws.FnEventsFound', WHERE WHAT IT READS IS OF BULK AT MOST 1048576: true; the input reads as it did. -/
def fnEventsFoundUptoRow : OpenClaim := { program := "ytoogofceoinniab", sum := "a7587598556648436f7526f7a47e3b31d888bb89914ec1e9f7a65c12faedd7b9", func := "loop.example/g01017/laws.FnEventsFound", spec := "fnEventsFound", unfollowed := true, recurses := true, apart := false, narrowed := true }
def FnEventsFoundUptoSaid : Prop := fnEventsFoundUptoRow.holds Try.pinned (OpenSpec.upto fnEventsFoundSpec)

/-- 'laws.FnVotes', WHERE WHAT IT READS IS OF BULK AT MOST 1048576: true; the input reads as it did. -/
def fnVotesUptoRow : OpenClaim := { program := "ytoogofceoinniab", sum := "a7587598556648436f7526f7a47e3b31d888bb89914ec1e9f7a65c12faedd7b9", func := "loop.example/g01017/laws.FnVotes", spec := "fnVotes", unfollowed := true, recurses := true, apart := false, narrowed := true }
def FnVotesUptoSaid : Prop := fnVotesUptoRow.holds Try.pinned (OpenSpec.upto fnVotesSpec)

end Rows
end Go.Proofs.Ytoogofceoinniab
