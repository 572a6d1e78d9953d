import Derived.Test.YtpdahhnjhggocaaGreatDoorCards
namespace Go.Proofs.YtpdahhnjhggocaaGreatDoor
theorem r_inPlace : (Rows.fnOverRow.inPlace == Tryz.pinned.checked.prog.inPlace 7) = true := by kernel_rfl
theorem r_unfollowed : (Rows.fnOverRow.unfollowed == Tryz.pinned.checked.prog.unfollowed 7) = true := by kernel_rfl
theorem r_recurses : (Rows.fnOverRow.recurses == Tryz.pinned.checked.prog.recurses 7) = true := by kernel_rfl
theorem r_named : (Rows.fnOverRow.named == Tryz.pinned.checked.prog.varsNamed 7) = true := by kernel_rfl
end Go.Proofs.YtpdahhnjhggocaaGreatDoor
