/-
  DERIVED. GIVEN WITH THE SEED: THE CARDS: each row of YtdcnfbhfpfikjabDoorRows.lean that lists a variable, with what it lists TIED to the program's text (the seventh form; the later family's looks); each row that meets fmt, with fmt's text TOLD by the authors' own Lean function (tested against real Go, not proved from fmt's source: count such statements apart). THE CARD IS WHAT COUNTS. Prove the row's statement (the work); the ties are given (YtdcnfbhfpfikjabDoorTie.lean); close each card by the builder's one call (the guide's Derived/Test/ToyasCard.lean, 'card_holds'). Laid BY PROGRAM, IN A SANDBOX (cutbox-door.mjs). By AI agents, Wed Nov 11 2026. No macro, syntax, notation, axiom, sorry.
-/
import Derived.Test.YtdcnfbhfpfikjabDoorRows
import GoSem.ClaimSeven
namespace Go.Proofs.YtdcnfbhfpfikjabDoor
namespace Rows

/-- THE TIED CARD OF 'laws.FnExactSheetFits'. -/
def fnExactSheetFitsCard : Claim7 := { stood := { row := fnExactSheetFitsRow, standIns := [], harness := (true, "1a164b5ffc09623a007b59883741aa069cb2d54a1ac63bf0f075c311bbd942b7"), looks := true }, kinds := [], alts := [], laidByText := true, laidKinds := [.data, .data, .data, .sentinel, .sentinel], laidTests := true, laidLooks := .later }
def FnExactSheetFitsCardSaid : Prop := Claim7.holds Tryd.pinned (.plain (OpenSpec.ofChange fnExactSheetFitsSpec)) fnExactSheetFitsCard

/-- THE SECOND FORM's CARD OF 'laws.FnExactSheetFits'. -/
def fnExactSheetFitsUptoCard : Claim7 := { stood := { row := fnExactSheetFitsUptoRow, standIns := [], harness := (true, "1a164b5ffc09623a007b59883741aa069cb2d54a1ac63bf0f075c311bbd942b7"), looks := true }, kinds := [], alts := [], laidByText := true, laidKinds := [.data, .data, .data, .sentinel, .sentinel], laidTests := true, laidLooks := .later }
def FnExactSheetFitsUptoCardSaid : Prop := Claim7.holds Tryd.pinned (.plain (OpenSpec.upto fnExactSheetFitsSpec)) fnExactSheetFitsUptoCard
end Rows
end Go.Proofs.YtdcnfbhfpfikjabDoor
