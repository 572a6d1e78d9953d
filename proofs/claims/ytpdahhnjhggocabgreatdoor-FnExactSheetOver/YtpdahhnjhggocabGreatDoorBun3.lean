import Derived.Test.YtpdahhnjhggocabGreatDoorCards
namespace Go.Proofs.YtpdahhnjhggocabGreatDoor
theorem q_looks : true = Tryz.pinned.checked.prog.looks [] := by kernel_rfl
theorem q_goes : false = Rows.fnExactSheetOverRow.goesBy Tryz.pinned.checked.prog := by kernel_rfl
theorem q_wf : Rows.fnExactSheetOverRow.wfByText (OpenSpec.ofChange Rows.fnExactSheetOverSpec) = true := by kernel_rfl
theorem q_main : Tryz.pinned.checked.prog.mainIs = some (Rows.fnExactSheetOverCard.stood.harness.1, Rows.fnExactSheetOverCard.stood.harness.2.toList) := by kernel_rfl
end Go.Proofs.YtpdahhnjhggocabGreatDoor
