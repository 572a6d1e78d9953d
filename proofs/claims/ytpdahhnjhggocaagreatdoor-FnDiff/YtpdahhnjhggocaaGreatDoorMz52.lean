import Derived.Test.YtpdahhnjhggocaaGreatDoorCards
namespace Go.Proofs.YtpdahhnjhggocaaGreatDoor
theorem Ag4 : true = Tryz.pinned.checked.prog.looks [] := by kernel_rfl
theorem Ah4 : false = Rows.fnDiffRow.goesBy Tryz.pinned.checked.prog := by kernel_rfl
theorem Aja : Rows.fnDiffRow.wfByText (OpenSpec.ofChange Rows.fnDiffSpec) = true := by kernel_rfl
theorem Ah5 : Tryz.pinned.checked.prog.mainIs = some (Rows.fnDiffCard.stood.harness.1, Rows.fnDiffCard.stood.harness.2.toList) := by kernel_rfl
end Go.Proofs.YtpdahhnjhggocaaGreatDoor
