/-
  No cell of these rows narrows 'for every input' (looked for: loops, veiled, ifaces, maps, wideKeys, modest, calm, conditions, laid).
  DERIVED. THE GIVEN ROWS OF THIS SEAT. 11 by the template 'for every input the law returns true; each argument reads behind the call as it read before'; 0 by the template 'total and deterministic' (their statements: YtdiedfpfhbdamaaTotals.lean).
  GIVEN WITH THE SEED: the statements are not yours to turn. If you find one false, say at which input.
  Laid BY PROGRAM, IN A SANDBOX (cutbox-rows.mjs): the forced cells as the released guide's own fill.sh prints them over the translation f1f6f05e107ede8c… (all of the seat's roots in one cut). By AI agents, Wed Nov 11 2026. No macro, syntax, notation, axiom, sorry.
-/
import Derived.Test.YtdiedfpfhbdamaaChecked
import GoSem.Claim
import GoSem.ClaimJoined
import GoSem.ClaimMapViews
import Derived.JoinedTies
import Derived.KernelRfl
namespace Go.Proofs.Ytdiedfpfhbdamaa
/- THE CELL 'sum', in the pinned program and in every row, IS THE sha256 OF THE DUMP (.gsa) THAT YtdiedfpfhbdamaaProg.lean LOADS. Nothing in Lean hashes anything: it is a label: what it is worth is what the hold of that sum in a sandbox is worth. -/
noncomputable def Try.pinned : Pinned := { name := "ytdiedfpfhbdamaa", sum := "f1f6f05e107ede8caaaab338e7e1d64f90bf7923a35dcebed3418081cfbe4910", checked := Try.checked }
namespace Rows
def none {H : Type} : Left H := { results := [], args := [] }

/-- 'laws.FnVotes': WHATEVER THE INPUT: true; the input reads as it did. -/
def fnVotesSpec : ChangeSpec := { name := "fnVotes", fn := fun _ => fun
  | [d] => { results := [.lit (.bool true)], args := [d] }
  | _ => none }
def fnVotesRow : OpenClaim := { program := "ytdiedfpfhbdamaa", sum := "f1f6f05e107ede8caaaab338e7e1d64f90bf7923a35dcebed3418081cfbe4910", func := "loop.example/g01017/laws.FnVotes", spec := "fnVotes", unfollowed := true, recurses := true, apart := false }
def FnVotesSaid : Prop := fnVotesRow.holds Try.pinned (OpenSpec.ofChange fnVotesSpec)

/-- ITS FALSE NEIGHBOUR: 'it returns false'. Refute it at one input. -/
def fnVotesWrong : ChangeSpec := { name := "fnVotes", fn := fun _ => fun
  | [d] => { results := [.lit (.bool false)], args := [d] }
  | _ => none }
def FnVotesWrongFalsely : Prop := fnVotesRow.holds Try.pinned (OpenSpec.ofChange fnVotesWrong)

/-- 'laws.FnTerms': WHATEVER THE INPUT: true; the input reads as it did. -/
def fnTermsSpec : ChangeSpec := { name := "fnTerms", fn := fun _ => fun
  | [d] => { results := [.lit (.bool true)], args := [d] }
  | _ => none }
def fnTermsRow : OpenClaim := { program := "ytdiedfpfhbdamaa", sum := "f1f6f05e107ede8caaaab338e7e1d64f90bf7923a35dcebed3418081cfbe4910", func := "loop.example/g01017/laws.FnTerms", spec := "fnTerms", unfollowed := true, recurses := true, apart := false }
def FnTermsSaid : Prop := fnTermsRow.holds Try.pinned (OpenSpec.ofChange fnTermsSpec)

/-- ITS FALSE NEIGHBOUR: 'it returns false'. Refute it at one input. -/
def fnTermsWrong : ChangeSpec := { name := "fnTerms", fn := fun _ => fun
  | [d] => { results := [.lit (.bool false)], args := [d] }
  | _ => none }
def FnTermsWrongFalsely : Prop := fnTermsRow.holds Try.pinned (OpenSpec.ofChange fnTermsWrong)

/-- 'laws.FnExactIsTable': WHATEVER THE INPUT: true; the input reads as it did. -/
def fnExactIsTableSpec : ChangeSpec := { name := "fnExactIsTable", fn := fun _ => fun
  | [d] => { results := [.lit (.bool true)], args := [d] }
  | _ => none }
def fnExactIsTableRow : OpenClaim := { program := "ytdiedfpfhbdamaa", sum := "f1f6f05e107ede8caaaab338e7e1d64f90bf7923a35dcebed3418081cfbe4910", func := "loop.example/g01017/laws.FnExactIsTable", spec := "fnExactIsTable", apart := false }
def FnExactIsTableSaid : Prop := fnExactIsTableRow.holds Try.pinned (OpenSpec.ofChange fnExactIsTableSpec)

/-- ITS FALSE NEIGHBOUR: 'it returns false'. Refute it at one input. -/
def fnExactIsTableWrong : ChangeSpec := { name := "fnExactIsTable", fn := fun _ => fun
  | [d] => { results := [.lit (.bool false)], args := [d] }
  | _ => none }
def FnExactIsTableWrongFalsely : Prop := fnExactIsTableRow.holds Try.pinned (OpenSpec.ofChange fnExactIsTableWrong)

/-- 'laws.FnExactAreSwings': WHATEVER THE INPUT: true; the input reads as it did. -/
def fnExactAreSwingsSpec : ChangeSpec := { name := "fnExactAreSwings", fn := fun _ => fun
  | [d] => { results := [.lit (.bool true)], args := [d] }
  | _ => none }
def fnExactAreSwingsRow : OpenClaim := { program := "ytdiedfpfhbdamaa", sum := "f1f6f05e107ede8caaaab338e7e1d64f90bf7923a35dcebed3418081cfbe4910", func := "loop.example/g01017/laws.FnExactAreSwings", spec := "fnExactAreSwings", apart := false }
def FnExactAreSwingsSaid : Prop := fnExactAreSwingsRow.holds Try.pinned (OpenSpec.ofChange fnExactAreSwingsSpec)

/-- ITS FALSE NEIGHBOUR: 'it returns false'. Refute it at one input. -/
def fnExactAreSwingsWrong : ChangeSpec := { name := "fnExactAreSwings", fn := fun _ => fun
  | [d] => { results := [.lit (.bool false)], args := [d] }
  | _ => none }
def FnExactAreSwingsWrongFalsely : Prop := fnExactAreSwingsRow.holds Try.pinned (OpenSpec.ofChange fnExactAreSwingsWrong)

/-- 'laws.FnExactBonusAt': WHATEVER THE INPUT: true; the input reads as it did. -/
def fnExactBonusAtSpec : ChangeSpec := { name := "fnExactBonusAt", fn := fun _ => fun
  | [d1, d2] => { results := [.lit (.bool true)], args := [d1, d2] }
  | _ => none }
def fnExactBonusAtRow : OpenClaim := { program := "ytdiedfpfhbdamaa", sum := "f1f6f05e107ede8caaaab338e7e1d64f90bf7923a35dcebed3418081cfbe4910", func := "loop.example/g01017/laws.FnExactBonusAt", spec := "fnExactBonusAt", apart := false }
def FnExactBonusAtSaid : Prop := fnExactBonusAtRow.holds Try.pinned (OpenSpec.ofChange fnExactBonusAtSpec)

/-- ITS FALSE NEIGHBOUR: 'it returns false'. Refute it at one input. -/
def fnExactBonusAtWrong : ChangeSpec := { name := "fnExactBonusAt", fn := fun _ => fun
  | [d1, d2] => { results := [.lit (.bool false)], args := [d1, d2] }
  | _ => none }
def FnExactBonusAtWrongFalsely : Prop := fnExactBonusAtRow.holds Try.pinned (OpenSpec.ofChange fnExactBonusAtWrong)

/-- 'laws.FnExactSizeOf': WHATEVER THE INPUT: true; the input reads as it did. -/
def fnExactSizeOfSpec : ChangeSpec := { name := "fnExactSizeOf", fn := fun _ => fun
  | [d] => { results := [.lit (.bool true)], args := [d] }
  | _ => none }
def fnExactSizeOfRow : OpenClaim := { program := "ytdiedfpfhbdamaa", sum := "f1f6f05e107ede8caaaab338e7e1d64f90bf7923a35dcebed3418081cfbe4910", func := "loop.example/g01017/laws.FnExactSizeOf", spec := "fnExactSizeOf", apart := false }
def FnExactSizeOfSaid : Prop := fnExactSizeOfRow.holds Try.pinned (OpenSpec.ofChange fnExactSizeOfSpec)

/-- ITS FALSE NEIGHBOUR: 'it returns false'. Refute it at one input. -/
def fnExactSizeOfWrong : ChangeSpec := { name := "fnExactSizeOf", fn := fun _ => fun
  | [d] => { results := [.lit (.bool false)], args := [d] }
  | _ => none }
def FnExactSizeOfWrongFalsely : Prop := fnExactSizeOfRow.holds Try.pinned (OpenSpec.ofChange fnExactSizeOfWrong)

/-- 'laws.FnExactMagnitudeOf': WHATEVER THE INPUT: true; the input reads as it did. -/
def fnExactMagnitudeOfSpec : ChangeSpec := { name := "fnExactMagnitudeOf", fn := fun _ => fun
  | [d1, d2] => { results := [.lit (.bool true)], args := [d1, d2] }
  | _ => none }
def fnExactMagnitudeOfRow : OpenClaim := { program := "ytdiedfpfhbdamaa", sum := "f1f6f05e107ede8caaaab338e7e1d64f90bf7923a35dcebed3418081cfbe4910", func := "loop.example/g01017/laws.FnExactMagnitudeOf", spec := "fnExactMagnitudeOf", apart := false }
def FnExactMagnitudeOfSaid : Prop := fnExactMagnitudeOfRow.holds Try.pinned (OpenSpec.ofChange fnExactMagnitudeOfSpec)

/-- ITS FALSE NEIGHBOUR: 'it returns false'. Refute it at one input. -/
def fnExactMagnitudeOfWrong : ChangeSpec := { name := "fnExactMagnitudeOf", fn := fun _ => fun
  | [d1, d2] => { results := [.lit (.bool false)], args := [d1, d2] }
  | _ => none }
def FnExactMagnitudeOfWrongFalsely : Prop := fnExactMagnitudeOfRow.holds Try.pinned (OpenSpec.ofChange fnExactMagnitudeOfWrong)

/-- 'laws.FnExactMedianMagnitude': WHATEVER THE INPUT: true; the input reads as it did. -/
def fnExactMedianMagnitudeSpec : ChangeSpec := { name := "fnExactMedianMagnitude", fn := fun _ => fun
  | [d1, d2] => { results := [.lit (.bool true)], args := [d1, d2] }
  | _ => none }
def fnExactMedianMagnitudeRow : OpenClaim := { program := "ytdiedfpfhbdamaa", sum := "f1f6f05e107ede8caaaab338e7e1d64f90bf7923a35dcebed3418081cfbe4910", func := "loop.example/g01017/laws.FnExactMedianMagnitude", spec := "fnExactMedianMagnitude", unfollowed := true, recurses := true, apart := false }
def FnExactMedianMagnitudeSaid : Prop := fnExactMedianMagnitudeRow.holds Try.pinned (OpenSpec.ofChange fnExactMedianMagnitudeSpec)

/-- ITS FALSE NEIGHBOUR: 'it returns false'. Refute it at one input. -/
def fnExactMedianMagnitudeWrong : ChangeSpec := { name := "fnExactMedianMagnitude", fn := fun _ => fun
  | [d1, d2] => { results := [.lit (.bool false)], args := [d1, d2] }
  | _ => none }
def FnExactMedianMagnitudeWrongFalsely : Prop := fnExactMedianMagnitudeRow.holds Try.pinned (OpenSpec.ofChange fnExactMedianMagnitudeWrong)

/-- 'laws.FnExactResiduals': WHATEVER THE INPUT: true; the input reads as it did. -/
def fnExactResidualsSpec : ChangeSpec := { name := "fnExactResiduals", fn := fun _ => fun
  | [d1, d2] => { results := [.lit (.bool true)], args := [d1, d2] }
  | _ => none }
def fnExactResidualsRow : OpenClaim := { program := "ytdiedfpfhbdamaa", sum := "f1f6f05e107ede8caaaab338e7e1d64f90bf7923a35dcebed3418081cfbe4910", func := "loop.example/g01017/laws.FnExactResiduals", spec := "fnExactResiduals", unfollowed := true, recurses := true, apart := false }
def FnExactResidualsSaid : Prop := fnExactResidualsRow.holds Try.pinned (OpenSpec.ofChange fnExactResidualsSpec)

/-- ITS FALSE NEIGHBOUR: 'it returns false'. Refute it at one input. -/
def fnExactResidualsWrong : ChangeSpec := { name := "fnExactResiduals", fn := fun _ => fun
  | [d1, d2] => { results := [.lit (.bool false)], args := [d1, d2] }
  | _ => none }
def FnExactResidualsWrongFalsely : Prop := fnExactResidualsRow.holds Try.pinned (OpenSpec.ofChange fnExactResidualsWrong)

/-- 'laws.FnExactLeastWidth': WHATEVER THE INPUT: true; the input reads as it did. -/
def fnExactLeastWidthSpec : ChangeSpec := { name := "fnExactLeastWidth", fn := fun _ => fun
  | [d1, d2, d3] => { results := [.lit (.bool true)], args := [d1, d2, d3] }
  | _ => none }
def fnExactLeastWidthRow : OpenClaim := { program := "ytdiedfpfhbdamaa", sum := "f1f6f05e107ede8caaaab338e7e1d64f90bf7923a35dcebed3418081cfbe4910", func := "loop.example/g01017/laws.FnExactLeastWidth", spec := "fnExactLeastWidth", unfollowed := true, recurses := true, apart := false }
def FnExactLeastWidthSaid : Prop := fnExactLeastWidthRow.holds Try.pinned (OpenSpec.ofChange fnExactLeastWidthSpec)

/-- ITS FALSE NEIGHBOUR: 'it returns false'. Refute it at one input. -/
def fnExactLeastWidthWrong : ChangeSpec := { name := "fnExactLeastWidth", fn := fun _ => fun
  | [d1, d2, d3] => { results := [.lit (.bool false)], args := [d1, d2, d3] }
  | _ => none }
def FnExactLeastWidthWrongFalsely : Prop := fnExactLeastWidthRow.holds Try.pinned (OpenSpec.ofChange fnExactLeastWidthWrong)

/-- 'laws.FnExactNewTerms': WHATEVER THE INPUT: true; the input reads as it did. -/
def fnExactNewTermsSpec : ChangeSpec := { name := "fnExactNewTerms", fn := fun _ => fun
  | [d1, d2] => { results := [.lit (.bool true)], args := [d1, d2] }
  | _ => none }
def fnExactNewTermsRow : OpenClaim := { program := "ytdiedfpfhbdamaa", sum := "f1f6f05e107ede8caaaab338e7e1d64f90bf7923a35dcebed3418081cfbe4910", func := "loop.example/g01017/laws.FnExactNewTerms", spec := "fnExactNewTerms", unfollowed := true, recurses := true, apart := false }
def FnExactNewTermsSaid : Prop := fnExactNewTermsRow.holds Try.pinned (OpenSpec.ofChange fnExactNewTermsSpec)

/-- ITS FALSE NEIGHBOUR: 'it returns false'. Refute it at one input. -/
def fnExactNewTermsWrong : ChangeSpec := { name := "fnExactNewTerms", fn := fun _ => fun
  | [d1, d2] => { results := [.lit (.bool false)], args := [d1, d2] }
  | _ => none }
def FnExactNewTermsWrongFalsely : Prop := fnExactNewTermsRow.holds Try.pinned (OpenSpec.ofChange fnExactNewTermsWrong)

/- THE SECOND FORM. 'bulk': how many values and letters a reading holds, each counted each time it is reached (what is shared counts as often as it is met; a slice's spare places count too). A statement '..UptoSaid' is the law's where the arguments, and the package variables that the reading takes, are together of bulk at most 1048576: NARROWER than '..Said'. Prove '..Said' where nothing that the law and all that it calls make is longer than what came in: it says more and counts as full. Else prove '..UptoSaid'. A law counts once. -/
mutual
def uptoBulk {H : Type} : DataW H → Nat
  | .lit (.string bytes) => bytes.length + 1
  | .lit _ => 1
  | .nil => 1
  | .ptr d => uptoBulk d + 1
  | .slice elems spare => uptoBulkAll elems + uptoBulkAll spare + 1
  | .agg parts => uptoBulkAll parts + 1
  | .iface _ d => uptoBulk d + 1
  | .map entries => uptoBulkEntries entries + 1
  | .held _ => 1
def uptoBulkAll {H : Type} : List (DataW H) → Nat
  | [] => 0
  | d :: r => uptoBulk d + uptoBulkAll r
def uptoBulkEntries {H : Type} : List (Lit × DataW H) → Nat
  | [] => 0
  | x :: r => uptoBulkEntry x + uptoBulkEntries r
def uptoBulkEntry {H : Type} : Lit × DataW H → Nat
  | (.string bytes, d) => bytes.length + uptoBulk d + 1
  | (_, d) => uptoBulk d + 1
 end
def uptoSmall : (H : Type) → List (DataW H) → Bool := fun _ ds => decide (uptoBulkAll ds ≤ 1048576)
def OpenSpec.upto (s : _root_.Go.ChangeSpec) : _root_.Go.OpenSpec := { _root_.Go.OpenSpec.ofChange s with cond := some uptoSmall }

/-- 'laws.FnVotes', WHERE WHAT IT READS IS OF BULK AT MOST 1048576: true; the input reads as it did. -/
def fnVotesUptoRow : OpenClaim := { program := "ytdiedfpfhbdamaa", sum := "f1f6f05e107ede8caaaab338e7e1d64f90bf7923a35dcebed3418081cfbe4910", func := "loop.example/g01017/laws.FnVotes", spec := "fnVotes", unfollowed := true, recurses := true, apart := false, narrowed := true }
def FnVotesUptoSaid : Prop := fnVotesUptoRow.holds Try.pinned (OpenSpec.upto fnVotesSpec)

/-- 'laws.FnTerms', WHERE WHAT IT READS IS OF BULK AT MOST 1048576: true; the input reads as it did. -/
def fnTermsUptoRow : OpenClaim := { program := "ytdiedfpfhbdamaa", sum := "f1f6f05e107ede8caaaab338e7e1d64f90bf7923a35dcebed3418081cfbe4910", func := "loop.example/g01017/laws.FnTerms", spec := "fnTerms", unfollowed := true, recurses := true, apart := false, narrowed := true }
def FnTermsUptoSaid : Prop := fnTermsUptoRow.holds Try.pinned (OpenSpec.upto fnTermsSpec)

/-- 'laws.FnExactIsTable', WHERE WHAT IT READS IS OF BULK AT MOST 1048576: true; the input reads as it did. -/
def fnExactIsTableUptoRow : OpenClaim := { program := "ytdiedfpfhbdamaa", sum := "f1f6f05e107ede8caaaab338e7e1d64f90bf7923a35dcebed3418081cfbe4910", func := "loop.example/g01017/laws.FnExactIsTable", spec := "fnExactIsTable", apart := false, narrowed := true }
def FnExactIsTableUptoSaid : Prop := fnExactIsTableUptoRow.holds Try.pinned (OpenSpec.upto fnExactIsTableSpec)

/-- 'laws.FnExactAreSwings', WHERE WHAT IT READS IS OF BULK AT MOST 1048576: true; the input reads as it did. -/
def fnExactAreSwingsUptoRow : OpenClaim := { program := "ytdiedfpfhbdamaa", sum := "f1f6f05e107ede8caaaab338e7e1d64f90bf7923a35dcebed3418081cfbe4910", func := "loop.example/g01017/laws.FnExactAreSwings", spec := "fnExactAreSwings", apart := false, narrowed := true }
def FnExactAreSwingsUptoSaid : Prop := fnExactAreSwingsUptoRow.holds Try.pinned (OpenSpec.upto fnExactAreSwingsSpec)

/-- 'laws.FnExactBonusAt', WHERE WHAT IT READS IS OF BULK AT MOST 1048576: true; the input reads as it did. -/
def fnExactBonusAtUptoRow : OpenClaim := { program := "ytdiedfpfhbdamaa", sum := "f1f6f05e107ede8caaaab338e7e1d64f90bf7923a35dcebed3418081cfbe4910", func := "loop.example/g01017/laws.FnExactBonusAt", spec := "fnExactBonusAt", apart := false, narrowed := true }
def FnExactBonusAtUptoSaid : Prop := fnExactBonusAtUptoRow.holds Try.pinned (OpenSpec.upto fnExactBonusAtSpec)

/-- 'laws.FnExactSizeOf', WHERE WHAT IT READS IS OF BULK AT MOST 1048576: true; the input reads as it did. -/
def fnExactSizeOfUptoRow : OpenClaim := { program := "ytdiedfpfhbdamaa", sum := "f1f6f05e107ede8caaaab338e7e1d64f90bf7923a35dcebed3418081cfbe4910", func := "loop.example/g01017/laws.FnExactSizeOf", spec := "fnExactSizeOf", apart := false, narrowed := true }
def FnExactSizeOfUptoSaid : Prop := fnExactSizeOfUptoRow.holds Try.pinned (OpenSpec.upto fnExactSizeOfSpec)

/-- 'laws.FnExactMagnitudeOf', WHERE WHAT IT READS IS OF BULK AT MOST 1048576: true; the input reads as it did. -/
def fnExactMagnitudeOfUptoRow : OpenClaim := { program := "ytdiedfpfhbdamaa", sum := "f1f6f05e107ede8caaaab338e7e1d64f90bf7923a35dcebed3418081cfbe4910", func := "loop.example/g01017/laws.FnExactMagnitudeOf", spec := "fnExactMagnitudeOf", apart := false, narrowed := true }
def FnExactMagnitudeOfUptoSaid : Prop := fnExactMagnitudeOfUptoRow.holds Try.pinned (OpenSpec.upto fnExactMagnitudeOfSpec)

/-- 'laws.FnExactMedianMagnitude', WHERE WHAT IT READS IS OF BULK AT MOST 1048576: true; the input reads as it did. -/
def fnExactMedianMagnitudeUptoRow : OpenClaim := { program := "ytdiedfpfhbdamaa", sum := "f1f6f05e107ede8caaaab338e7e1d64f90bf7923a35dcebed3418081cfbe4910", func := "loop.example/g01017/laws.FnExactMedianMagnitude", spec := "fnExactMedianMagnitude", unfollowed := true, recurses := true, apart := false, narrowed := true }
def FnExactMedianMagnitudeUptoSaid : Prop := fnExactMedianMagnitudeUptoRow.holds Try.pinned (OpenSpec.upto fnExactMedianMagnitudeSpec)

/-- 'laws.FnExactResiduals', WHERE WHAT IT READS IS OF BULK AT MOST 1048576: true; the input reads as it did. -/
def fnExactResidualsUptoRow : OpenClaim := { program := "ytdiedfpfhbdamaa", sum := "f1f6f05e107ede8caaaab338e7e1d64f90bf7923a35dcebed3418081cfbe4910", func := "loop.example/g01017/laws.FnExactResiduals", spec := "fnExactResiduals", unfollowed := true, recurses := true, apart := false, narrowed := true }
def FnExactResidualsUptoSaid : Prop := fnExactResidualsUptoRow.holds Try.pinned (OpenSpec.upto fnExactResidualsSpec)

/-- 'laws.FnExactLeastWidth', WHERE WHAT IT READS IS OF BULK AT MOST 1048576: true; the input reads as it did. -/
def fnExactLeastWidthUptoRow : OpenClaim := { program := "ytdiedfpfhbdamaa", sum := "f1f6f05e107ede8caaaab338e7e1d64f90bf7923a35dcebed3418081cfbe4910", func := "loop.example/g01017/laws.FnExactLeastWidth", spec := "fnExactLeastWidth", unfollowed := true, recurses := true, apart := false, narrowed := true }
def FnExactLeastWidthUptoSaid : Prop := fnExactLeastWidthUptoRow.holds Try.pinned (OpenSpec.upto fnExactLeastWidthSpec)

/-- 'laws.FnExactNewTerms', WHERE WHAT IT READS IS OF BULK AT MOST 1048576: true; the input reads as it did. -/
def fnExactNewTermsUptoRow : OpenClaim := { program := "ytdiedfpfhbdamaa", sum := "f1f6f05e107ede8caaaab338e7e1d64f90bf7923a35dcebed3418081cfbe4910", func := "loop.example/g01017/laws.FnExactNewTerms", spec := "fnExactNewTerms", unfollowed := true, recurses := true, apart := false, narrowed := true }
def FnExactNewTermsUptoSaid : Prop := fnExactNewTermsUptoRow.holds Try.pinned (OpenSpec.upto fnExactNewTermsSpec)

end Rows
end Go.Proofs.Ytdiedfpfhbdamaa
