import Derived.Test.YtpdahhnjhggocaaGreatDoorCards
namespace Go.Proofs.YtpdahhnjhggocaaGreatDoor
theorem r_inPlace : (Rows.fnParseRow.inPlace == Tryz.pinned.checked.prog.inPlace 4) = true := by kernel_rfl
theorem r_unfollowed : (Rows.fnParseRow.unfollowed == Tryz.pinned.checked.prog.unfollowed 4) = true := by kernel_rfl
theorem r_recurses : (Rows.fnParseRow.recurses == Tryz.pinned.checked.prog.recurses 4) = true := by kernel_rfl
theorem r_named : (Rows.fnParseRow.named == Tryz.pinned.checked.prog.varsNamed 4) = true := by kernel_rfl
end Go.Proofs.YtpdahhnjhggocaaGreatDoor
