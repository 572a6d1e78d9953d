import Derived.Test.YtpdahhnjhggocabGreatDoorCards
namespace Go.Proofs.YtpdahhnjhggocabGreatDoor
theorem r_inPlace : (Rows.fnExactSheetOverRow.inPlace == Tryz.pinned.checked.prog.inPlace 8) = true := by kernel_rfl
theorem r_unfollowed : (Rows.fnExactSheetOverRow.unfollowed == Tryz.pinned.checked.prog.unfollowed 8) = true := by kernel_rfl
theorem r_recurses : (Rows.fnExactSheetOverRow.recurses == Tryz.pinned.checked.prog.recurses 8) = true := by kernel_rfl
theorem r_named : (Rows.fnExactSheetOverRow.named == Tryz.pinned.checked.prog.varsNamed 8) = true := by kernel_rfl
end Go.Proofs.YtpdahhnjhggocabGreatDoor
