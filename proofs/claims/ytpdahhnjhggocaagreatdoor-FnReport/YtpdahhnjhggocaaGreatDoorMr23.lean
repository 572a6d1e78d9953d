import Derived.Test.YtpdahhnjhggocaaGreatDoorCards
namespace Go.Proofs.YtpdahhnjhggocaaGreatDoor
theorem Yd : (Rows.fnReportRow.inPlace == Tryz.pinned.checked.prog.inPlace 9) = true := by kernel_rfl
theorem RK : (Rows.fnReportRow.unfollowed == Tryz.pinned.checked.prog.unfollowed 9) = true := by kernel_rfl
theorem VH : (Rows.fnReportRow.recurses == Tryz.pinned.checked.prog.recurses 9) = true := by kernel_rfl
theorem Acz : (Rows.fnReportRow.named == Tryz.pinned.checked.prog.varsNamed 9) = true := by kernel_rfl
end Go.Proofs.YtpdahhnjhggocaaGreatDoor
