import Derived.Test.YtpdahhnjhggocabGreatDoorCards
namespace Go.Proofs.YtpdahhnjhggocabGreatDoor
theorem r_inPlace : (Rows.fnExactSheetGetRow.inPlace == Tryz.pinned.checked.prog.inPlace 7) = true := by kernel_rfl
theorem r_unfollowed : (Rows.fnExactSheetGetRow.unfollowed == Tryz.pinned.checked.prog.unfollowed 7) = true := by kernel_rfl
theorem r_recurses : (Rows.fnExactSheetGetRow.recurses == Tryz.pinned.checked.prog.recurses 7) = true := by kernel_rfl
theorem r_named : (Rows.fnExactSheetGetRow.named == Tryz.pinned.checked.prog.varsNamed 7) = true := by kernel_rfl
end Go.Proofs.YtpdahhnjhggocabGreatDoor
