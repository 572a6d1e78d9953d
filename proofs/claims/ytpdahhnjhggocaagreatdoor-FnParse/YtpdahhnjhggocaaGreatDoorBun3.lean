import Derived.Test.YtpdahhnjhggocaaGreatDoorCards
namespace Go.Proofs.YtpdahhnjhggocaaGreatDoor
theorem q_looks : true = Tryz.pinned.checked.prog.looks [] := by kernel_rfl
theorem q_goes : false = Rows.fnParseRow.goesBy Tryz.pinned.checked.prog := by kernel_rfl
theorem q_wf : Rows.fnParseRow.wfByText (OpenSpec.ofChange Rows.fnParseSpec) = true := by kernel_rfl
theorem q_main : Tryz.pinned.checked.prog.mainIs = some (Rows.fnParseCard.stood.harness.1, Rows.fnParseCard.stood.harness.2.toList) := by kernel_rfl
end Go.Proofs.YtpdahhnjhggocaaGreatDoor
