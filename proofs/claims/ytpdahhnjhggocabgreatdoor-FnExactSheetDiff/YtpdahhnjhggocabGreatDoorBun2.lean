import Derived.Test.YtpdahhnjhggocabGreatDoorCards
namespace Go.Proofs.YtpdahhnjhggocabGreatDoor
theorem r_inPlace : (Rows.fnExactSheetDiffRow.inPlace == Tryz.pinned.checked.prog.inPlace 9) = true := by kernel_rfl
theorem r_unfollowed : (Rows.fnExactSheetDiffRow.unfollowed == Tryz.pinned.checked.prog.unfollowed 9) = true := by kernel_rfl
theorem r_recurses : (Rows.fnExactSheetDiffRow.recurses == Tryz.pinned.checked.prog.recurses 9) = true := by kernel_rfl
theorem r_named : (Rows.fnExactSheetDiffRow.named == Tryz.pinned.checked.prog.varsNamed 9) = true := by kernel_rfl
end Go.Proofs.YtpdahhnjhggocabGreatDoor
