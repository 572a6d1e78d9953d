import Derived.Test.YtpdahhnjhggocaaGreatDoorCards
namespace Go.Proofs.YtpdahhnjhggocaaGreatDoor
theorem Ad7 : true = Tryz.pinned.checked.prog.looks [] := by kernel_rfl
theorem Afk : false = Rows.fnTopRow.goesBy Tryz.pinned.checked.prog := by kernel_rfl
theorem Ahd : Rows.fnTopRow.wfByText (OpenSpec.ofChange Rows.fnTopSpec) = true := by kernel_rfl
theorem Afl : Tryz.pinned.checked.prog.mainIs = some (Rows.fnTopCard.stood.harness.1, Rows.fnTopCard.stood.harness.2.toList) := by kernel_rfl
end Go.Proofs.YtpdahhnjhggocaaGreatDoor
