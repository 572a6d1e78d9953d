import Derived.Test.YtpdahhnjhggocabGreatDoorCards
namespace Go.Proofs.YtpdahhnjhggocabGreatDoor
theorem r_inPlace : (Rows.fnExactSheetFillRow.inPlace == Tryz.pinned.checked.prog.inPlace 5) = true := by kernel_rfl
theorem r_unfollowed : (Rows.fnExactSheetFillRow.unfollowed == Tryz.pinned.checked.prog.unfollowed 5) = true := by kernel_rfl
theorem r_recurses : (Rows.fnExactSheetFillRow.recurses == Tryz.pinned.checked.prog.recurses 5) = true := by kernel_rfl
theorem r_named : (Rows.fnExactSheetFillRow.named == Tryz.pinned.checked.prog.varsNamed 5) = true := by kernel_rfl
end Go.Proofs.YtpdahhnjhggocabGreatDoor
