import Derived.Test.YtpdahhnjhggocaaGreatDoorCards
namespace Go.Proofs.YtpdahhnjhggocaaGreatDoor
theorem YY : (Rows.fnTopRow.inPlace == Tryz.pinned.checked.prog.inPlace 3) = true := by kernel_rfl
theorem Sq : (Rows.fnTopRow.unfollowed == Tryz.pinned.checked.prog.unfollowed 3) = true := by kernel_rfl
theorem WL : (Rows.fnTopRow.recurses == Tryz.pinned.checked.prog.recurses 3) = true := by kernel_rfl
theorem Ad5 : (Rows.fnTopRow.named == Tryz.pinned.checked.prog.varsNamed 3) = true := by kernel_rfl
end Go.Proofs.YtpdahhnjhggocaaGreatDoor
