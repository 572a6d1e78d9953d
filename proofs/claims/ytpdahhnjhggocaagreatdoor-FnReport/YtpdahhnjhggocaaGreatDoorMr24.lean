import Derived.Test.YtpdahhnjhggocaaGreatDoorCards
namespace Go.Proofs.YtpdahhnjhggocaaGreatDoor
theorem Ac1 : true = Tryz.pinned.checked.prog.looks [] := by kernel_rfl
theorem Aeo : false = Rows.fnReportRow.goesBy Tryz.pinned.checked.prog := by kernel_rfl
theorem Agj : Rows.fnReportRow.wfByText (OpenSpec.ofChange Rows.fnReportSpec) = true := by kernel_rfl
theorem Aep : Tryz.pinned.checked.prog.mainIs = some (Rows.fnReportCard.stood.harness.1, Rows.fnReportCard.stood.harness.2.toList) := by kernel_rfl
end Go.Proofs.YtpdahhnjhggocaaGreatDoor
