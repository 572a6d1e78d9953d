/-
  DERIVED. GIVEN WITH THE SEED: THE CARDS: each row of YtpdahhnjhggocabGreatDoorRows.lean that lists a variable, with what it lists TIED to the program's text (the seventh form; the later family's looks); each row that meets fmt, with fmt's text TOLD by the authors' own Lean function (tested against real Go, not proved from fmt's source: count such statements apart). THE CARD IS WHAT COUNTS. Prove the row's statement (the work); the ties are given (YtpdahhnjhggocabGreatDoorTie.lean); close each card by the builder's one call (the guide's Derived/Test/ToyasCard.lean, 'card_holds'). Laid BY PROGRAM, IN A SANDBOX (cutbox-door.mjs). By AI agents, Wed Nov 11 2026. No macro, syntax, notation, axiom, sorry.
-/
import Derived.Test.YtpdahhnjhggocabGreatDoorRows
import GoSem.ClaimSeven
namespace Go.Proofs.YtpdahhnjhggocabGreatDoor
namespace Rows

/-- THE TIED CARD OF 'laws.FnExactSheetParse'. -/
def fnExactSheetParseCard : Claim7 := { stood := { row := fnExactSheetParseRow, standIns := [], harness := (true, "7da5eef742b91daee4ddbbdb1332038362b9ce29e6b5fc7a8febde26f05da54b"), looks := true }, kinds := [], alts := [], laidByText := true, laidKinds := [.data, .data, .data, .data, .handle, .sentinel, .sentinel, .pinned], laidTests := true, laidLooks := .later }
def FnExactSheetParseCardSaid : Prop := Claim7.holds Tryz.pinned (.plain (OpenSpec.ofChange fnExactSheetParseSpec)) fnExactSheetParseCard

/-- THE TIED CARD OF 'laws.FnExactSheetPrint'. -/
def fnExactSheetPrintCard : Claim7 := { stood := { row := fnExactSheetPrintRow, standIns := [], harness := (true, "7da5eef742b91daee4ddbbdb1332038362b9ce29e6b5fc7a8febde26f05da54b"), looks := true }, kinds := [], alts := [], laidByText := true, laidKinds := [.data, .data, .data, .sentinel, .sentinel], laidTests := true, laidLooks := .later }
def FnExactSheetPrintCardSaid : Prop := Claim7.holds Tryz.pinned (.plain (OpenSpec.ofChange fnExactSheetPrintSpec)) fnExactSheetPrintCard

/-- THE TIED CARD OF 'laws.FnExactSheetFill'. -/
def fnExactSheetFillCard : Claim7 := { stood := { row := fnExactSheetFillRow, standIns := [], harness := (true, "7da5eef742b91daee4ddbbdb1332038362b9ce29e6b5fc7a8febde26f05da54b"), looks := true }, kinds := [], alts := [], laidByText := true, laidKinds := [.data, .data, .data, .sentinel, .sentinel], laidTests := true, laidLooks := .later }
def FnExactSheetFillCardSaid : Prop := Claim7.holds Tryz.pinned (.plain (OpenSpec.ofChange fnExactSheetFillSpec)) fnExactSheetFillCard

/-- THE TIED CARD OF 'laws.FnExactSheetTrim'. -/
def fnExactSheetTrimCard : Claim7 := { stood := { row := fnExactSheetTrimRow, standIns := [], harness := (true, "7da5eef742b91daee4ddbbdb1332038362b9ce29e6b5fc7a8febde26f05da54b"), looks := true }, kinds := [], alts := [], laidByText := true, laidKinds := [.data, .data, .data, .sentinel, .sentinel], laidTests := true, laidLooks := .later }
def FnExactSheetTrimCardSaid : Prop := Claim7.holds Tryz.pinned (.plain (OpenSpec.ofChange fnExactSheetTrimSpec)) fnExactSheetTrimCard

/-- THE TIED CARD OF 'laws.FnExactSheetGet'. -/
def fnExactSheetGetCard : Claim7 := { stood := { row := fnExactSheetGetRow, standIns := [], harness := (true, "7da5eef742b91daee4ddbbdb1332038362b9ce29e6b5fc7a8febde26f05da54b"), looks := true }, kinds := [], alts := [], laidByText := true, laidKinds := [.data, .data, .data, .sentinel, .sentinel], laidTests := true, laidLooks := .later }
def FnExactSheetGetCardSaid : Prop := Claim7.holds Tryz.pinned (.plain (OpenSpec.ofChange fnExactSheetGetSpec)) fnExactSheetGetCard

/-- THE TIED CARD OF 'laws.FnExactSheetOver'. -/
def fnExactSheetOverCard : Claim7 := { stood := { row := fnExactSheetOverRow, standIns := [], harness := (true, "7da5eef742b91daee4ddbbdb1332038362b9ce29e6b5fc7a8febde26f05da54b"), looks := true }, kinds := [], alts := [], laidByText := true, laidKinds := [.data, .data, .data, .sentinel, .sentinel], laidTests := true, laidLooks := .later }
def FnExactSheetOverCardSaid : Prop := Claim7.holds Tryz.pinned (.plain (OpenSpec.ofChange fnExactSheetOverSpec)) fnExactSheetOverCard

/-- THE TIED CARD OF 'laws.FnExactSheetDiff'. -/
def fnExactSheetDiffCard : Claim7 := { stood := { row := fnExactSheetDiffRow, standIns := [], harness := (true, "7da5eef742b91daee4ddbbdb1332038362b9ce29e6b5fc7a8febde26f05da54b"), looks := true }, kinds := [], alts := [], laidByText := true, laidKinds := [.data, .data, .data, .sentinel, .sentinel], laidTests := true, laidLooks := .later }
def FnExactSheetDiffCardSaid : Prop := Claim7.holds Tryz.pinned (.plain (OpenSpec.ofChange fnExactSheetDiffSpec)) fnExactSheetDiffCard

/-- THE TIED CARD OF 'laws.FnExactSheetApply'. -/
def fnExactSheetApplyCard : Claim7 := { stood := { row := fnExactSheetApplyRow, standIns := [], harness := (true, "7da5eef742b91daee4ddbbdb1332038362b9ce29e6b5fc7a8febde26f05da54b"), looks := true }, kinds := [], alts := [], laidByText := true, laidKinds := [.data, .data, .data, .sentinel, .sentinel], laidTests := true, laidLooks := .later }
def FnExactSheetApplyCardSaid : Prop := Claim7.holds Tryz.pinned (.plain (OpenSpec.ofChange fnExactSheetApplySpec)) fnExactSheetApplyCard

/-- THE TIED CARD OF 'laws.FnExactSheetReport'. -/
def fnExactSheetReportCard : Claim7 := { stood := { row := fnExactSheetReportRow, standIns := [], harness := (true, "7da5eef742b91daee4ddbbdb1332038362b9ce29e6b5fc7a8febde26f05da54b"), looks := true }, kinds := [], alts := [], laidByText := true, laidKinds := [.data, .data, .data, .data, .handle, .sentinel, .sentinel, .data, .pinned], laidTests := true, laidLooks := .later }
def FnExactSheetReportCardSaid : Prop := Claim7.holds Tryz.pinned (.plain (OpenSpec.ofChange fnExactSheetReportSpec)) fnExactSheetReportCard

/-- THE SECOND FORM's CARD OF 'laws.FnExactSheetParse'. -/
def fnExactSheetParseUptoCard : Claim7 := { stood := { row := fnExactSheetParseUptoRow, standIns := [], harness := (true, "7da5eef742b91daee4ddbbdb1332038362b9ce29e6b5fc7a8febde26f05da54b"), looks := true }, kinds := [], alts := [], laidByText := true, laidKinds := [.data, .data, .data, .data, .handle, .sentinel, .sentinel, .pinned], laidTests := true, laidLooks := .later }
def FnExactSheetParseUptoCardSaid : Prop := Claim7.holds Tryz.pinned (.plain (OpenSpec.upto fnExactSheetParseSpec)) fnExactSheetParseUptoCard

/-- THE SECOND FORM's CARD OF 'laws.FnExactSheetPrint'. -/
def fnExactSheetPrintUptoCard : Claim7 := { stood := { row := fnExactSheetPrintUptoRow, standIns := [], harness := (true, "7da5eef742b91daee4ddbbdb1332038362b9ce29e6b5fc7a8febde26f05da54b"), looks := true }, kinds := [], alts := [], laidByText := true, laidKinds := [.data, .data, .data, .sentinel, .sentinel], laidTests := true, laidLooks := .later }
def FnExactSheetPrintUptoCardSaid : Prop := Claim7.holds Tryz.pinned (.plain (OpenSpec.upto fnExactSheetPrintSpec)) fnExactSheetPrintUptoCard

/-- THE SECOND FORM's CARD OF 'laws.FnExactSheetFill'. -/
def fnExactSheetFillUptoCard : Claim7 := { stood := { row := fnExactSheetFillUptoRow, standIns := [], harness := (true, "7da5eef742b91daee4ddbbdb1332038362b9ce29e6b5fc7a8febde26f05da54b"), looks := true }, kinds := [], alts := [], laidByText := true, laidKinds := [.data, .data, .data, .sentinel, .sentinel], laidTests := true, laidLooks := .later }
def FnExactSheetFillUptoCardSaid : Prop := Claim7.holds Tryz.pinned (.plain (OpenSpec.upto fnExactSheetFillSpec)) fnExactSheetFillUptoCard

/-- THE SECOND FORM's CARD OF 'laws.FnExactSheetTrim'. -/
def fnExactSheetTrimUptoCard : Claim7 := { stood := { row := fnExactSheetTrimUptoRow, standIns := [], harness := (true, "7da5eef742b91daee4ddbbdb1332038362b9ce29e6b5fc7a8febde26f05da54b"), looks := true }, kinds := [], alts := [], laidByText := true, laidKinds := [.data, .data, .data, .sentinel, .sentinel], laidTests := true, laidLooks := .later }
def FnExactSheetTrimUptoCardSaid : Prop := Claim7.holds Tryz.pinned (.plain (OpenSpec.upto fnExactSheetTrimSpec)) fnExactSheetTrimUptoCard

/-- THE SECOND FORM's CARD OF 'laws.FnExactSheetGet'. -/
def fnExactSheetGetUptoCard : Claim7 := { stood := { row := fnExactSheetGetUptoRow, standIns := [], harness := (true, "7da5eef742b91daee4ddbbdb1332038362b9ce29e6b5fc7a8febde26f05da54b"), looks := true }, kinds := [], alts := [], laidByText := true, laidKinds := [.data, .data, .data, .sentinel, .sentinel], laidTests := true, laidLooks := .later }
def FnExactSheetGetUptoCardSaid : Prop := Claim7.holds Tryz.pinned (.plain (OpenSpec.upto fnExactSheetGetSpec)) fnExactSheetGetUptoCard

/-- THE SECOND FORM's CARD OF 'laws.FnExactSheetOver'. -/
def fnExactSheetOverUptoCard : Claim7 := { stood := { row := fnExactSheetOverUptoRow, standIns := [], harness := (true, "7da5eef742b91daee4ddbbdb1332038362b9ce29e6b5fc7a8febde26f05da54b"), looks := true }, kinds := [], alts := [], laidByText := true, laidKinds := [.data, .data, .data, .sentinel, .sentinel], laidTests := true, laidLooks := .later }
def FnExactSheetOverUptoCardSaid : Prop := Claim7.holds Tryz.pinned (.plain (OpenSpec.upto fnExactSheetOverSpec)) fnExactSheetOverUptoCard

/-- THE SECOND FORM's CARD OF 'laws.FnExactSheetDiff'. -/
def fnExactSheetDiffUptoCard : Claim7 := { stood := { row := fnExactSheetDiffUptoRow, standIns := [], harness := (true, "7da5eef742b91daee4ddbbdb1332038362b9ce29e6b5fc7a8febde26f05da54b"), looks := true }, kinds := [], alts := [], laidByText := true, laidKinds := [.data, .data, .data, .sentinel, .sentinel], laidTests := true, laidLooks := .later }
def FnExactSheetDiffUptoCardSaid : Prop := Claim7.holds Tryz.pinned (.plain (OpenSpec.upto fnExactSheetDiffSpec)) fnExactSheetDiffUptoCard

/-- THE SECOND FORM's CARD OF 'laws.FnExactSheetApply'. -/
def fnExactSheetApplyUptoCard : Claim7 := { stood := { row := fnExactSheetApplyUptoRow, standIns := [], harness := (true, "7da5eef742b91daee4ddbbdb1332038362b9ce29e6b5fc7a8febde26f05da54b"), looks := true }, kinds := [], alts := [], laidByText := true, laidKinds := [.data, .data, .data, .sentinel, .sentinel], laidTests := true, laidLooks := .later }
def FnExactSheetApplyUptoCardSaid : Prop := Claim7.holds Tryz.pinned (.plain (OpenSpec.upto fnExactSheetApplySpec)) fnExactSheetApplyUptoCard

/-- THE SECOND FORM's CARD OF 'laws.FnExactSheetReport'. -/
def fnExactSheetReportUptoCard : Claim7 := { stood := { row := fnExactSheetReportUptoRow, standIns := [], harness := (true, "7da5eef742b91daee4ddbbdb1332038362b9ce29e6b5fc7a8febde26f05da54b"), looks := true }, kinds := [], alts := [], laidByText := true, laidKinds := [.data, .data, .data, .data, .handle, .sentinel, .sentinel, .data, .pinned], laidTests := true, laidLooks := .later }
def FnExactSheetReportUptoCardSaid : Prop := Claim7.holds Tryz.pinned (.plain (OpenSpec.upto fnExactSheetReportSpec)) fnExactSheetReportUptoCard
end Rows
end Go.Proofs.YtpdahhnjhggocabGreatDoor
