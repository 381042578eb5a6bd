/-
  DERIVED. GIVEN WITH THE SEED: THE CARDS: each row of YtchledcmkjepiaaDoorRows.lean that lists a variable, with what it lists TIED to the program's text (the seventh form; the later family's looks); each row that meets fmt, with fmt's text TOLD by the authors' own Lean function (tested against real Go, not proved from fmt's source: count such statements apart). THE CARD IS WHAT COUNTS. Prove the row's statement (the work); the ties are given (YtchledcmkjepiaaDoorTie.lean); close each card by the builder's one call (the guide's Derived/Test/ToyasCard.lean, 'card_holds'). Laid BY PROGRAM, IN A SANDBOX (cutbox-door.mjs). By AI agents, Wed Nov 11 2026. No macro, syntax, notation, axiom, sorry.
-/
import Derived.Test.YtchledcmkjepiaaDoorRows
import GoSem.ClaimSeven
namespace Go.Proofs.YtchledcmkjepiaaDoor
namespace Rows

/-- THE TIED CARD OF 'laws.FnExactParseTrace'. -/
def fnExactParseTraceCard : Claim7 := { stood := { row := fnExactParseTraceRow, standIns := [], harness := (true, "ce1397f2d5694a3da372feb0ccd7e727c92215a433ec5b62f822cbe89b50702f"), looks := true }, kinds := [], alts := [], laidByText := true, laidKinds := [.data, .data, .data, .sentinel, .sentinel], laidTests := true, laidLooks := .later }
def FnExactParseTraceCardSaid : Prop := Claim7.holds Tryd.pinned (.plain (OpenSpec.ofChange fnExactParseTraceSpec)) fnExactParseTraceCard

/-- THE TIED CARD OF 'laws.FnTraces'. -/
def fnTracesCard : Claim7 := { stood := { row := fnTracesRow, standIns := [], harness := (true, "ce1397f2d5694a3da372feb0ccd7e727c92215a433ec5b62f822cbe89b50702f"), looks := true }, kinds := [], alts := [], laidByText := true, laidKinds := [.data, .data, .data, .sentinel, .sentinel], laidTests := true, laidLooks := .later }
def FnTracesCardSaid : Prop := Claim7.holds Tryd.pinned (.plain (OpenSpec.ofChange fnTracesSpec)) fnTracesCard

/-- THE SECOND FORM's CARD OF 'laws.FnExactParseTrace'. -/
def fnExactParseTraceUptoCard : Claim7 := { stood := { row := fnExactParseTraceUptoRow, standIns := [], harness := (true, "ce1397f2d5694a3da372feb0ccd7e727c92215a433ec5b62f822cbe89b50702f"), looks := true }, kinds := [], alts := [], laidByText := true, laidKinds := [.data, .data, .data, .sentinel, .sentinel], laidTests := true, laidLooks := .later }
def FnExactParseTraceUptoCardSaid : Prop := Claim7.holds Tryd.pinned (.plain (OpenSpec.upto fnExactParseTraceSpec)) fnExactParseTraceUptoCard

/-- THE SECOND FORM's CARD OF 'laws.FnTraces'. -/
def fnTracesUptoCard : Claim7 := { stood := { row := fnTracesUptoRow, standIns := [], harness := (true, "ce1397f2d5694a3da372feb0ccd7e727c92215a433ec5b62f822cbe89b50702f"), looks := true }, kinds := [], alts := [], laidByText := true, laidKinds := [.data, .data, .data, .sentinel, .sentinel], laidTests := true, laidLooks := .later }
def FnTracesUptoCardSaid : Prop := Claim7.holds Tryd.pinned (.plain (OpenSpec.upto fnTracesSpec)) fnTracesUptoCard
end Rows
end Go.Proofs.YtchledcmkjepiaaDoor
