import Derived.Test.YtpdahhnjhggocaaGreatDoorMz51
import Derived.Test.YtpdahhnjhggocaaGreatDoorMz53
namespace Go.Proofs.YtpdahhnjhggocaaGreatDoor
open Go.ChangeShapes Go.WideShapes Go.ChangeAt Go.RowKit
open Go.ChangeMaps (open_string shut_string)
set_option linter.unusedVariables false

theorem Afo : joinedFacts Tryz.pinned.checked.prog 8 Tryz.f8 Rows.fnDiffSpec Rows.fnDiffRow = true := by
  unfold joinedFacts
  simp only [Bool.and_eq_true]
  repeat' (refine And.intro ?_ ?_)
  all_goals first | with_reducible exact Acx | with_reducible exact V4 | with_reducible exact Aas | with_reducible exact Ag2 | kernel_rfl
theorem Ag3 : Rows.FnDiffSaid :=
  OpenClaim.holds_of_wide 8 Tryz.f8 rfl rfl rfl rfl rfl rfl rfl ⟨rfl, rfl, rfl, rfl, rfl⟩ rfl rfl rfl rfl rfl (by kernel_rfl) Tryz.func8 Afo
    (of_decide_eq_true (by kernel_rfl)) (by unfold Func.isWrapper; first | (rw [if_pos (by decide +kernel)]; kernel_rfl) | (rw [if_neg (by decide +kernel)]; exact ⟨rfl, rfl⟩))
    (fun os started H enc _ => Aar os started H enc)

end Go.Proofs.YtpdahhnjhggocaaGreatDoor
