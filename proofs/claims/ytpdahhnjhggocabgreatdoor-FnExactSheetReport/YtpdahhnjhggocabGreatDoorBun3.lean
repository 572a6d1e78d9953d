import Derived.Test.YtpdahhnjhggocabGreatDoorCards
namespace Go.Proofs.YtpdahhnjhggocabGreatDoor
theorem q_looks : true = Tryz.pinned.checked.prog.looks [] := by kernel_rfl
theorem q_goes : false = Rows.fnExactSheetReportRow.goesBy Tryz.pinned.checked.prog := by kernel_rfl
theorem q_wf : Rows.fnExactSheetReportRow.wfByText (OpenSpec.ofChange Rows.fnExactSheetReportSpec) = true := by kernel_rfl
theorem q_main : Tryz.pinned.checked.prog.mainIs = some (Rows.fnExactSheetReportCard.stood.harness.1, Rows.fnExactSheetReportCard.stood.harness.2.toList) := by kernel_rfl
end Go.Proofs.YtpdahhnjhggocabGreatDoor
