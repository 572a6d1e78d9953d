import Derived.Test.YtpdahhnjhggocaaGreatDoorCards
namespace Go.Proofs.YtpdahhnjhggocaaGreatDoor
theorem Acx : (Rows.fnDiffRow.inPlace == Tryz.pinned.checked.prog.inPlace 8) = true := by kernel_rfl
theorem V4 : (Rows.fnDiffRow.unfollowed == Tryz.pinned.checked.prog.unfollowed 8) = true := by kernel_rfl
theorem Aas : (Rows.fnDiffRow.recurses == Tryz.pinned.checked.prog.recurses 8) = true := by kernel_rfl
theorem Ag2 : (Rows.fnDiffRow.named == Tryz.pinned.checked.prog.varsNamed 8) = true := by kernel_rfl
end Go.Proofs.YtpdahhnjhggocaaGreatDoor
