import Derived.Test.YtpdahhnjhggocaaGreatDoorCards
namespace Go.Proofs.YtpdahhnjhggocaaGreatDoor
theorem r_inPlace : (Rows.fnFillRow.inPlace == Tryz.pinned.checked.prog.inPlace 6) = true := by kernel_rfl
theorem r_unfollowed : (Rows.fnFillRow.unfollowed == Tryz.pinned.checked.prog.unfollowed 6) = true := by kernel_rfl
theorem r_recurses : (Rows.fnFillRow.recurses == Tryz.pinned.checked.prog.recurses 6) = true := by kernel_rfl
theorem r_named : (Rows.fnFillRow.named == Tryz.pinned.checked.prog.varsNamed 6) = true := by kernel_rfl
end Go.Proofs.YtpdahhnjhggocaaGreatDoor
