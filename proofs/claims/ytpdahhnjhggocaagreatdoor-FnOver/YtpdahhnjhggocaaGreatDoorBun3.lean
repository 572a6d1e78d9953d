import Derived.Test.YtpdahhnjhggocaaGreatDoorCards
namespace Go.Proofs.YtpdahhnjhggocaaGreatDoor
theorem q_looks : true = Tryz.pinned.checked.prog.looks [] := by kernel_rfl
theorem q_goes : false = Rows.fnOverRow.goesBy Tryz.pinned.checked.prog := by kernel_rfl
theorem q_wf : Rows.fnOverRow.wfByText (OpenSpec.ofChange Rows.fnOverSpec) = true := by kernel_rfl
theorem q_main : Tryz.pinned.checked.prog.mainIs = some (Rows.fnOverCard.stood.harness.1, Rows.fnOverCard.stood.harness.2.toList) := by kernel_rfl
end Go.Proofs.YtpdahhnjhggocaaGreatDoor
