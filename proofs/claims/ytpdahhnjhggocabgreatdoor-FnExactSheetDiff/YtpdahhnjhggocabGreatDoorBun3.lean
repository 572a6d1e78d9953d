import Derived.Test.YtpdahhnjhggocabGreatDoorCards
namespace Go.Proofs.YtpdahhnjhggocabGreatDoor
theorem q_looks : true = Tryz.pinned.checked.prog.looks [] := by kernel_rfl
theorem q_goes : false = Rows.fnExactSheetDiffRow.goesBy Tryz.pinned.checked.prog := by kernel_rfl
theorem q_wf : Rows.fnExactSheetDiffRow.wfByText (OpenSpec.ofChange Rows.fnExactSheetDiffSpec) = true := by kernel_rfl
theorem q_main : Tryz.pinned.checked.prog.mainIs = some (Rows.fnExactSheetDiffCard.stood.harness.1, Rows.fnExactSheetDiffCard.stood.harness.2.toList) := by kernel_rfl
end Go.Proofs.YtpdahhnjhggocabGreatDoor
