import Derived.Test.YtpdahhnjhggocabGreatDoorCards
namespace Go.Proofs.YtpdahhnjhggocabGreatDoor
theorem r_inPlace : (Rows.fnExactSheetReportRow.inPlace == Tryz.pinned.checked.prog.inPlace 11) = true := by kernel_rfl
theorem r_unfollowed : (Rows.fnExactSheetReportRow.unfollowed == Tryz.pinned.checked.prog.unfollowed 11) = true := by kernel_rfl
theorem r_recurses : (Rows.fnExactSheetReportRow.recurses == Tryz.pinned.checked.prog.recurses 11) = true := by kernel_rfl
theorem r_named : (Rows.fnExactSheetReportRow.named == Tryz.pinned.checked.prog.varsNamed 11) = true := by kernel_rfl
end Go.Proofs.YtpdahhnjhggocabGreatDoor
