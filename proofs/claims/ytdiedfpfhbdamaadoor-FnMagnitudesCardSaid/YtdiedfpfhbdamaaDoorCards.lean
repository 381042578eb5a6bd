/-
  DERIVED. GIVEN WITH THE SEED: THE CARDS: each row of YtdiedfpfhbdamaaDoorRows.lean that lists a variable, with what it lists TIED to the program's text (the seventh form; the later family's looks); each row that meets fmt, with fmt's text TOLD by the authors' own Lean function (tested against real Go, not proved from fmt's source: count such statements apart). THE CARD IS WHAT COUNTS. Prove the row's statement (the work); the ties are given (YtdiedfpfhbdamaaDoorTie.lean); close each card by the builder's one call (the guide's Derived/Test/ToyasCard.lean, 'card_holds'). Laid BY PROGRAM, IN A SANDBOX (cutbox-door.mjs). By AI agents, Wed Nov 11 2026. No macro, syntax, notation, axiom, sorry.
-/
import Derived.Test.YtdiedfpfhbdamaaDoorRows
import GoSem.ClaimSeven
namespace Go.Proofs.YtdiedfpfhbdamaaDoor
namespace Rows

/-- THE TIED CARD OF 'laws.FnMagnitudes'. -/
def fnMagnitudesCard : Claim7 := { stood := { row := fnMagnitudesRow, standIns := [], harness := (true, "6b65c5952bd623ec7f31bc2c3a10350880dd78ac4b92780091c05084def6a129"), looks := false }, kinds := [], alts := [], laidByText := true, laidKinds := [.data, .data, .data], laidTests := true, laidLooks := .later }
def FnMagnitudesCardSaid : Prop := Claim7.holds Tryd.pinned (.plain (OpenSpec.ofChange fnMagnitudesSpec)) fnMagnitudesCard

/-- THE TIED CARD OF 'laws.FnExactMagnitudeText'. -/
def fnExactMagnitudeTextCard : Claim7 := { stood := { row := fnExactMagnitudeTextRow, standIns := [], harness := (true, "6b65c5952bd623ec7f31bc2c3a10350880dd78ac4b92780091c05084def6a129"), looks := false }, kinds := [], alts := [], laidByText := true, laidKinds := [.data, .data, .data], laidTests := true, laidLooks := .later }
def FnExactMagnitudeTextCardSaid : Prop := Claim7.holds Tryd.pinned (.plain (OpenSpec.ofChange fnExactMagnitudeTextSpec)) fnExactMagnitudeTextCard

/-- THE SECOND FORM's CARD OF 'laws.FnMagnitudes'. -/
def fnMagnitudesUptoCard : Claim7 := { stood := { row := fnMagnitudesUptoRow, standIns := [], harness := (true, "6b65c5952bd623ec7f31bc2c3a10350880dd78ac4b92780091c05084def6a129"), looks := false }, kinds := [], alts := [], laidByText := true, laidKinds := [.data, .data, .data], laidTests := true, laidLooks := .later }
def FnMagnitudesUptoCardSaid : Prop := Claim7.holds Tryd.pinned (.plain (OpenSpec.upto fnMagnitudesSpec)) fnMagnitudesUptoCard

/-- THE SECOND FORM's CARD OF 'laws.FnExactMagnitudeText'. -/
def fnExactMagnitudeTextUptoCard : Claim7 := { stood := { row := fnExactMagnitudeTextUptoRow, standIns := [], harness := (true, "6b65c5952bd623ec7f31bc2c3a10350880dd78ac4b92780091c05084def6a129"), looks := false }, kinds := [], alts := [], laidByText := true, laidKinds := [.data, .data, .data], laidTests := true, laidLooks := .later }
def FnExactMagnitudeTextUptoCardSaid : Prop := Claim7.holds Tryd.pinned (.plain (OpenSpec.upto fnExactMagnitudeTextSpec)) fnExactMagnitudeTextUptoCard
end Rows
end Go.Proofs.YtdiedfpfhbdamaaDoor
