/-
  DERIVED. GIVEN WITH THE SEED: THE CARDS: each row of YtlaejmehgaeobabGreatDoorRows.lean that lists a variable, with what it lists TIED to the program's text (the seventh form; the later family's looks); each row that meets fmt, with fmt's text TOLD by the authors' own Lean function (tested against real Go, not proved from fmt's source: count such statements apart). THE CARD IS WHAT COUNTS. Prove the row's statement (the work); the ties are given (YtlaejmehgaeobabGreatDoorTie.lean); close each card by the builder's one call (the guide's Derived/Test/ToyasCard.lean, 'card_holds'). Laid BY PROGRAM, IN A SANDBOX (cutbox-door.mjs). By AI agents, Wed Nov 11 2026. No macro, syntax, notation, axiom, sorry.
-/
import Derived.Test.YtlaejmehgaeobabGreatDoorRows
import GoSem.ClaimSeven
namespace Go.Proofs.YtlaejmehgaeobabGreatDoor
namespace Rows

/-- THE TIED CARD OF 'laws.FnExactSheetParse'. -/
def fnExactSheetParseCard : Claim7 := { stood := { row := fnExactSheetParseRow, standIns := [], harness := (true, "e544df302cd4d995078a4f00b8581d68142ade90abaebe883c0b411996e14096"), looks := true }, kinds := [], alts := [], laidByText := true, laidKinds := [.data, .data, .data, .data, .handle, .sentinel, .sentinel, .pinned], laidTests := true, laidLooks := .later }
def FnExactSheetParseCardSaid : Prop := Claim7.holds Tryz.pinned (.plain (OpenSpec.ofChange fnExactSheetParseSpec)) fnExactSheetParseCard

/-- THE TIED CARD OF 'laws.FnExactSheetPrint'. -/
def fnExactSheetPrintCard : Claim7 := { stood := { row := fnExactSheetPrintRow, standIns := [], harness := (true, "e544df302cd4d995078a4f00b8581d68142ade90abaebe883c0b411996e14096"), looks := true }, kinds := [], alts := [], laidByText := true, laidKinds := [.data, .data, .data, .sentinel, .sentinel], laidTests := true, laidLooks := .later }
def FnExactSheetPrintCardSaid : Prop := Claim7.holds Tryz.pinned (.plain (OpenSpec.ofChange fnExactSheetPrintSpec)) fnExactSheetPrintCard

/-- THE SECOND FORM's CARD OF 'laws.FnExactSheetParse'. -/
def fnExactSheetParseUptoCard : Claim7 := { stood := { row := fnExactSheetParseUptoRow, standIns := [], harness := (true, "e544df302cd4d995078a4f00b8581d68142ade90abaebe883c0b411996e14096"), looks := true }, kinds := [], alts := [], laidByText := true, laidKinds := [.data, .data, .data, .data, .handle, .sentinel, .sentinel, .pinned], laidTests := true, laidLooks := .later }
def FnExactSheetParseUptoCardSaid : Prop := Claim7.holds Tryz.pinned (.plain (OpenSpec.upto fnExactSheetParseSpec)) fnExactSheetParseUptoCard

/-- THE SECOND FORM's CARD OF 'laws.FnExactSheetPrint'. -/
def fnExactSheetPrintUptoCard : Claim7 := { stood := { row := fnExactSheetPrintUptoRow, standIns := [], harness := (true, "e544df302cd4d995078a4f00b8581d68142ade90abaebe883c0b411996e14096"), looks := true }, kinds := [], alts := [], laidByText := true, laidKinds := [.data, .data, .data, .sentinel, .sentinel], laidTests := true, laidLooks := .later }
def FnExactSheetPrintUptoCardSaid : Prop := Claim7.holds Tryz.pinned (.plain (OpenSpec.upto fnExactSheetPrintSpec)) fnExactSheetPrintUptoCard
end Rows
end Go.Proofs.YtlaejmehgaeobabGreatDoor
