import Derived.Test.YtpdahhnjhggocabGreatDoorCards
namespace Go.Proofs.YtpdahhnjhggocabGreatDoor
theorem r_inPlace : (Rows.fnExactSheetParseRow.inPlace == Tryz.pinned.checked.prog.inPlace 3) = true := by kernel_rfl
theorem r_unfollowed : (Rows.fnExactSheetParseRow.unfollowed == Tryz.pinned.checked.prog.unfollowed 3) = true := by kernel_rfl
theorem r_recurses : (Rows.fnExactSheetParseRow.recurses == Tryz.pinned.checked.prog.recurses 3) = true := by kernel_rfl
theorem r_named : (Rows.fnExactSheetParseRow.named == Tryz.pinned.checked.prog.varsNamed 3) = true := by kernel_rfl
end Go.Proofs.YtpdahhnjhggocabGreatDoor
