/-
  DERIVED. GIVEN WITH THE SEED: THE CARDS: each row of YtlaejmehgaeobabDoorRows.lean that lists a variable, with what it lists TIED to the program's text (the seventh form; the later family's looks); each row that meets fmt, with fmt's text TOLD by the authors' own Lean function (tested against real Go, not proved from fmt's source: count such statements apart). THE CARD IS WHAT COUNTS. Prove the row's statement (the work); the ties are given (YtlaejmehgaeobabDoorTie.lean); close each card by the builder's one call (the guide's Derived/Test/ToyasCard.lean, 'card_holds'). Laid BY PROGRAM, IN A SANDBOX (cutbox-door.mjs). By AI agents, Wed Nov 11 2026. No macro, syntax, notation, axiom, sorry.
-/
import Derived.Test.YtlaejmehgaeobabDoorRows
import GoSem.ClaimSeven
namespace Go.Proofs.YtlaejmehgaeobabDoor
namespace Rows

/-- THE TIED CARD OF 'laws.FnExactSheetFits'. -/
def fnExactSheetFitsCard : Claim7 := { stood := { row := fnExactSheetFitsRow, standIns := [], harness := (true, "ed42cb67eb31ae8562a3a905f0cda1c7e568a60866c677250306626399a7f85e"), looks := true }, kinds := [], alts := [], laidByText := true, laidKinds := [.data, .data, .data, .sentinel, .sentinel], laidTests := true, laidLooks := .later }
def FnExactSheetFitsCardSaid : Prop := Claim7.holds Tryd.pinned (.plain (OpenSpec.ofChange fnExactSheetFitsSpec)) fnExactSheetFitsCard

/-- THE TIED CARD OF 'laws.FnExactSheetValid'. -/
def fnExactSheetValidCard : Claim7 := { stood := { row := fnExactSheetValidRow, standIns := [], harness := (true, "ed42cb67eb31ae8562a3a905f0cda1c7e568a60866c677250306626399a7f85e"), looks := true }, kinds := [], alts := [], laidByText := true, laidKinds := [.data, .data, .data, .sentinel, .sentinel], laidTests := true, laidLooks := .later }
def FnExactSheetValidCardSaid : Prop := Claim7.holds Tryd.pinned (.plain (OpenSpec.ofChange fnExactSheetValidSpec)) fnExactSheetValidCard

/-- THE SECOND FORM's CARD OF 'laws.FnExactSheetFits'. -/
def fnExactSheetFitsUptoCard : Claim7 := { stood := { row := fnExactSheetFitsUptoRow, standIns := [], harness := (true, "ed42cb67eb31ae8562a3a905f0cda1c7e568a60866c677250306626399a7f85e"), looks := true }, kinds := [], alts := [], laidByText := true, laidKinds := [.data, .data, .data, .sentinel, .sentinel], laidTests := true, laidLooks := .later }
def FnExactSheetFitsUptoCardSaid : Prop := Claim7.holds Tryd.pinned (.plain (OpenSpec.upto fnExactSheetFitsSpec)) fnExactSheetFitsUptoCard

/-- THE SECOND FORM's CARD OF 'laws.FnExactSheetValid'. -/
def fnExactSheetValidUptoCard : Claim7 := { stood := { row := fnExactSheetValidUptoRow, standIns := [], harness := (true, "ed42cb67eb31ae8562a3a905f0cda1c7e568a60866c677250306626399a7f85e"), looks := true }, kinds := [], alts := [], laidByText := true, laidKinds := [.data, .data, .data, .sentinel, .sentinel], laidTests := true, laidLooks := .later }
def FnExactSheetValidUptoCardSaid : Prop := Claim7.holds Tryd.pinned (.plain (OpenSpec.upto fnExactSheetValidSpec)) fnExactSheetValidUptoCard
end Rows
end Go.Proofs.YtlaejmehgaeobabDoor
