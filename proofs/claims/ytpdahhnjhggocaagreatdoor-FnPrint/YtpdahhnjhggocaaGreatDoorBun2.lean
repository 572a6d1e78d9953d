import Derived.Test.YtpdahhnjhggocaaGreatDoorCards
namespace Go.Proofs.YtpdahhnjhggocaaGreatDoor
theorem r_inPlace : (Rows.fnPrintRow.inPlace == Tryz.pinned.checked.prog.inPlace 5) = true := by kernel_rfl
theorem r_unfollowed : (Rows.fnPrintRow.unfollowed == Tryz.pinned.checked.prog.unfollowed 5) = true := by kernel_rfl
theorem r_recurses : (Rows.fnPrintRow.recurses == Tryz.pinned.checked.prog.recurses 5) = true := by kernel_rfl
theorem r_named : (Rows.fnPrintRow.named == Tryz.pinned.checked.prog.varsNamed 5) = true := by kernel_rfl
end Go.Proofs.YtpdahhnjhggocaaGreatDoor
