import Derived.Test.YtpdahhnjhggocaaGreatDoorCards
namespace Go.Proofs.YtpdahhnjhggocaaGreatDoor
theorem q_looks : true = Tryz.pinned.checked.prog.looks [] := by kernel_rfl
theorem q_goes : false = Rows.fnPrintRow.goesBy Tryz.pinned.checked.prog := by kernel_rfl
theorem q_wf : Rows.fnPrintRow.wfByText (OpenSpec.ofChange Rows.fnPrintSpec) = true := by kernel_rfl
theorem q_main : Tryz.pinned.checked.prog.mainIs = some (Rows.fnPrintCard.stood.harness.1, Rows.fnPrintCard.stood.harness.2.toList) := by kernel_rfl
end Go.Proofs.YtpdahhnjhggocaaGreatDoor
