import Derived.Test.YtpdahhnjhggocabGreatDoorCards
namespace Go.Proofs.YtpdahhnjhggocabGreatDoor
theorem q_looks : true = Tryz.pinned.checked.prog.looks [] := by kernel_rfl
theorem q_goes : false = Rows.fnExactSheetApplyRow.goesBy Tryz.pinned.checked.prog := by kernel_rfl
theorem q_wf : Rows.fnExactSheetApplyRow.wfByText (OpenSpec.ofChange Rows.fnExactSheetApplySpec) = true := by kernel_rfl
theorem q_main : Tryz.pinned.checked.prog.mainIs = some (Rows.fnExactSheetApplyCard.stood.harness.1, Rows.fnExactSheetApplyCard.stood.harness.2.toList) := by kernel_rfl
end Go.Proofs.YtpdahhnjhggocabGreatDoor
