import Derived.Test.YtpdahhnjhggocabGreatDoorBun51
import Derived.Test.YtpdahhnjhggocabGreatDoorBun2
namespace Go.Proofs.YtpdahhnjhggocabGreatDoor
open Go.ChangeShapes Go.WideShapes Go.ChangeAt Go.RowKit
open Go.ChangeMaps (open_string shut_string)
set_option linter.unusedVariables false

theorem r_closed : joinedFacts Tryz.pinned.checked.prog 10 Tryz.f10 Rows.fnExactSheetApplySpec Rows.fnExactSheetApplyRow = true := by
 unfold joinedFacts
 simp only [Bool.and_eq_true]
 repeat' (refine And.intro ?_ ?_)
 all_goals first | with_reducible exact r_inPlace | with_reducible exact r_unfollowed | with_reducible exact r_recurses | with_reducible exact r_named | kernel_rfl
theorem law_row : Rows.FnExactSheetApplySaid :=
 OpenClaim.holds_of_wide 10 Tryz.f10 rfl rfl rfl rfl rfl rfl rfl ⟨rfl, rfl, rfl, rfl, rfl⟩ rfl rfl rfl rfl rfl (by kernel_rfl) Tryz.func10 r_closed
  (of_decide_eq_true (by kernel_rfl)) (by unfold Func.isWrapper; first | (rw [if_pos (by decide +kernel)]; kernel_rfl) | (rw [if_neg (by decide +kernel)]; exact ⟨rfl, rfl⟩))
  (fun os started H enc _ => law_lifted os started H enc)

end Go.Proofs.YtpdahhnjhggocabGreatDoor
