import Derived.Test.YtpdahhnjhggocabGreatDoorCards
namespace Go.Proofs.YtpdahhnjhggocabGreatDoor
theorem r_inPlace : (Rows.fnExactSheetApplyRow.inPlace == Tryz.pinned.checked.prog.inPlace 10) = true := by kernel_rfl
theorem r_unfollowed : (Rows.fnExactSheetApplyRow.unfollowed == Tryz.pinned.checked.prog.unfollowed 10) = true := by kernel_rfl
theorem r_recurses : (Rows.fnExactSheetApplyRow.recurses == Tryz.pinned.checked.prog.recurses 10) = true := by kernel_rfl
theorem r_named : (Rows.fnExactSheetApplyRow.named == Tryz.pinned.checked.prog.varsNamed 10) = true := by kernel_rfl
end Go.Proofs.YtpdahhnjhggocabGreatDoor
