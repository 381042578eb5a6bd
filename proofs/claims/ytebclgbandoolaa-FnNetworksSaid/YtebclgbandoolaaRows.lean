/-
  No cell of these rows narrows 'for every input' (looked for: loops, veiled, ifaces, maps, wideKeys, modest, calm, conditions, laid).
  DERIVED. THE GIVEN ROWS OF THIS SEAT. 4 by the template 'for every input the law returns true; each argument reads behind the call as it read before'; 0 by the template 'total and deterministic' (their statements: YtebclgbandoolaaTotals.lean).
  GIVEN WITH THE SEED: the statements are not yours to turn. If you find one false, say at which input.
  Laid BY PROGRAM, IN A SANDBOX (cutbox-rows.mjs): the forced cells as the released guide's own fill.sh prints them over the translation 40fdedd02c3f9ae9… (all of the seat's roots in one cut). By AI agents, Wed Nov 11 2026. No macro, syntax, notation, axiom, sorry.
-/
import Derived.Test.YtebclgbandoolaaChecked
import GoSem.Claim
import GoSem.ClaimJoined
import GoSem.ClaimMapViews
import Derived.JoinedTies
import Derived.KernelRfl
namespace Go.Proofs.Ytebclgbandoolaa
/- THE CELL 'sum', in the pinned program and in every row, IS THE sha256 OF THE DUMP (.gsa) THAT YtebclgbandoolaaProg.lean LOADS. Nothing in Lean hashes anything: it is a label: what it is worth is what the hold of that sum in a sandbox is worth. -/
noncomputable def Try.pinned : Pinned := { name := "ytebclgbandoolaa", sum := "40fdedd02c3f9ae99a4539e4e3a97f21869f038c677e3de294ee2d16a6b2feba", checked := Try.checked }
namespace Rows
def none {H : Type} : Left H := { results := [], args := [] }

/-- 'laws.FnSamples': WHATEVER THE INPUT: true; the input reads as it did. -/
def fnSamplesSpec : ChangeSpec := { name := "fnSamples", fn := fun _ => fun
  | [d] => { results := [.lit (.bool true)], args := [d] }
  | _ => none }
def fnSamplesRow : OpenClaim := { program := "ytebclgbandoolaa", sum := "40fdedd02c3f9ae99a4539e4e3a97f21869f038c677e3de294ee2d16a6b2feba", func := "loop.example/g01017/laws.FnSamples", spec := "fnSamples", apart := false }
def FnSamplesSaid : Prop := fnSamplesRow.holds Try.pinned (OpenSpec.ofChange fnSamplesSpec)

/-- ITS FALSE NEIGHBOUR: 'it returns false'. Refute it at one input. -/
def fnSamplesWrong : ChangeSpec := { name := "fnSamples", fn := fun _ => fun
  | [d] => { results := [.lit (.bool false)], args := [d] }
  | _ => none }
def FnSamplesWrongFalsely : Prop := fnSamplesRow.holds Try.pinned (OpenSpec.ofChange fnSamplesWrong)

/-- 'laws.FnStations': WHATEVER THE INPUT: true; the input reads as it did. -/
def fnStationsSpec : ChangeSpec := { name := "fnStations", fn := fun _ => fun
  | [d] => { results := [.lit (.bool true)], args := [d] }
  | _ => none }
def fnStationsRow : OpenClaim := { program := "ytebclgbandoolaa", sum := "40fdedd02c3f9ae99a4539e4e3a97f21869f038c677e3de294ee2d16a6b2feba", func := "loop.example/g01017/laws.FnStations", spec := "fnStations", unfollowed := true, recurses := true, apart := false }
def FnStationsSaid : Prop := fnStationsRow.holds Try.pinned (OpenSpec.ofChange fnStationsSpec)

/-- ITS FALSE NEIGHBOUR: 'it returns false'. Refute it at one input. -/
def fnStationsWrong : ChangeSpec := { name := "fnStations", fn := fun _ => fun
  | [d] => { results := [.lit (.bool false)], args := [d] }
  | _ => none }
def FnStationsWrongFalsely : Prop := fnStationsRow.holds Try.pinned (OpenSpec.ofChange fnStationsWrong)

/-- 'laws.FnNetworks': WHATEVER THE INPUT: true; the input reads as it did. -/
def fnNetworksSpec : ChangeSpec := { name := "fnNetworks", fn := fun _ => fun
  | [d] => { results := [.lit (.bool true)], args := [d] }
  | _ => none }
def fnNetworksRow : OpenClaim := { program := "ytebclgbandoolaa", sum := "40fdedd02c3f9ae99a4539e4e3a97f21869f038c677e3de294ee2d16a6b2feba", func := "loop.example/g01017/laws.FnNetworks", spec := "fnNetworks", unfollowed := true, recurses := true, apart := false }
def FnNetworksSaid : Prop := fnNetworksRow.holds Try.pinned (OpenSpec.ofChange fnNetworksSpec)

/-- ITS FALSE NEIGHBOUR: 'it returns false'. Refute it at one input. -/
def fnNetworksWrong : ChangeSpec := { name := "fnNetworks", fn := fun _ => fun
  | [d] => { results := [.lit (.bool false)], args := [d] }
  | _ => none }
def FnNetworksWrongFalsely : Prop := fnNetworksRow.holds Try.pinned (OpenSpec.ofChange fnNetworksWrong)

/-- 'laws.FnExactPairDistances': WHATEVER THE INPUT: true; the input reads as it did. -/
def fnExactPairDistancesSpec : ChangeSpec := { name := "fnExactPairDistances", fn := fun _ => fun
  | [d] => { results := [.lit (.bool true)], args := [d] }
  | _ => none }
def fnExactPairDistancesRow : OpenClaim := { program := "ytebclgbandoolaa", sum := "40fdedd02c3f9ae99a4539e4e3a97f21869f038c677e3de294ee2d16a6b2feba", func := "loop.example/g01017/laws.FnExactPairDistances", spec := "fnExactPairDistances", unfollowed := true, recurses := true, apart := false }
def FnExactPairDistancesSaid : Prop := fnExactPairDistancesRow.holds Try.pinned (OpenSpec.ofChange fnExactPairDistancesSpec)

/-- ITS FALSE NEIGHBOUR: 'it returns false'. Refute it at one input. -/
def fnExactPairDistancesWrong : ChangeSpec := { name := "fnExactPairDistances", fn := fun _ => fun
  | [d] => { results := [.lit (.bool false)], args := [d] }
  | _ => none }
def FnExactPairDistancesWrongFalsely : Prop := fnExactPairDistancesRow.holds Try.pinned (OpenSpec.ofChange fnExactPairDistancesWrong)

/- THE SECOND FORM. 'bulk': how many values and letters a reading holds, each counted each time it is reached (what is shared counts as often as it is met; a slice's spare places count too). A statement '..UptoSaid' is the law's where the arguments, and the package variables that the reading takes, are together of bulk at most 1048576: NARROWER than '..Said'. Prove '..Said' where nothing that the law and all that it calls make is longer than what came in: it says more and counts as full. Else prove '..UptoSaid'. A law counts once. -/
mutual
def uptoBulk {H : Type} : DataW H → Nat
  | .lit (.string bytes) => bytes.length + 1
  | .lit _ => 1
  | .nil => 1
  | .ptr d => uptoBulk d + 1
  | .slice elems spare => uptoBulkAll elems + uptoBulkAll spare + 1
  | .agg parts => uptoBulkAll parts + 1
  | .iface _ d => uptoBulk d + 1
  | .map entries => uptoBulkEntries entries + 1
  | .held _ => 1
def uptoBulkAll {H : Type} : List (DataW H) → Nat
  | [] => 0
  | d :: r => uptoBulk d + uptoBulkAll r
def uptoBulkEntries {H : Type} : List (Lit × DataW H) → Nat
  | [] => 0
  | x :: r => uptoBulkEntry x + uptoBulkEntries r
def uptoBulkEntry {H : Type} : Lit × DataW H → Nat
  | (.string bytes, d) => bytes.length + uptoBulk d + 1
  | (_, d) => uptoBulk d + 1
 end
def uptoSmall : (H : Type) → List (DataW H) → Bool := fun _ ds => decide (uptoBulkAll ds ≤ 1048576)
def OpenSpec.upto (s : _root_.Go.ChangeSpec) : _root_.Go.OpenSpec := { _root_.Go.OpenSpec.ofChange s with cond := some uptoSmall }

/-- 'laws.FnSamples', WHERE WHAT IT READS IS OF BULK AT MOST 1048576: true; the input reads as it did. -/
def fnSamplesUptoRow : OpenClaim := { program := "ytebclgbandoolaa", sum := "40fdedd02c3f9ae99a4539e4e3a97f21869f038c677e3de294ee2d16a6b2feba", func := "loop.example/g01017/laws.FnSamples", spec := "fnSamples", apart := false, narrowed := true }
def FnSamplesUptoSaid : Prop := fnSamplesUptoRow.holds Try.pinned (OpenSpec.upto fnSamplesSpec)

/-- 'laws.FnStations', WHERE WHAT IT READS IS OF BULK AT MOST 1048576: true; the input reads as it did. -/
def fnStationsUptoRow : OpenClaim := { program := "ytebclgbandoolaa", sum := "40fdedd02c3f9ae99a4539e4e3a97f21869f038c677e3de294ee2d16a6b2feba", func := "loop.example/g01017/laws.FnStations", spec := "fnStations", unfollowed := true, recurses := true, apart := false, narrowed := true }
def FnStationsUptoSaid : Prop := fnStationsUptoRow.holds Try.pinned (OpenSpec.upto fnStationsSpec)

/-- 'laws.FnNetworks', WHERE WHAT IT READS IS OF BULK AT MOST 1048576: true; the input reads as it did. -/
def fnNetworksUptoRow : OpenClaim := { program := "ytebclgbandoolaa", sum := "40fdedd02c3f9ae99a4539e4e3a97f21869f038c677e3de294ee2d16a6b2feba", func := "loop.example/g01017/laws.FnNetworks", spec := "fnNetworks", unfollowed := true, recurses := true, apart := false, narrowed := true }
def FnNetworksUptoSaid : Prop := fnNetworksUptoRow.holds Try.pinned (OpenSpec.upto fnNetworksSpec)

/-- 'laws.FnExactPairDistances', WHERE WHAT IT READS IS OF BULK AT MOST 1048576: true; the input reads as it did. -/
def fnExactPairDistancesUptoRow : OpenClaim := { program := "ytebclgbandoolaa", sum := "40fdedd02c3f9ae99a4539e4e3a97f21869f038c677e3de294ee2d16a6b2feba", func := "loop.example/g01017/laws.FnExactPairDistances", spec := "fnExactPairDistances", unfollowed := true, recurses := true, apart := false, narrowed := true }
def FnExactPairDistancesUptoSaid : Prop := fnExactPairDistancesUptoRow.holds Try.pinned (OpenSpec.upto fnExactPairDistancesSpec)

end Rows
end Go.Proofs.Ytebclgbandoolaa
