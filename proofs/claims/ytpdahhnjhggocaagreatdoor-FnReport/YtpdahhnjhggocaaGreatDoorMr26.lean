import Derived.Test.YtpdahhnjhggocaaGreatDoorMr23
import Derived.Test.YtpdahhnjhggocaaGreatDoorMr25
namespace Go.Proofs.YtpdahhnjhggocaaGreatDoor
open Go.ChangeShapes Go.WideShapes Go.ChangeAt Go.RowKit
open Go.ChangeMaps (open_string shut_string)
set_option linter.unusedVariables false

theorem Aap : joinedFacts Tryz.pinned.checked.prog 9 Tryz.f9 Rows.fnReportSpec Rows.fnReportRow = true := by
  unfold joinedFacts
  simp only [Bool.and_eq_true]
  repeat' (refine And.intro ?_ ?_)
  all_goals first | with_reducible exact Yd | with_reducible exact RK | with_reducible exact VH | with_reducible exact Acz | kernel_rfl
theorem Ac0 : Rows.FnReportSaid :=
  OpenClaim.holds_of_wide 9 Tryz.f9 rfl rfl rfl rfl rfl rfl rfl ⟨rfl, rfl, rfl, rfl, rfl⟩ rfl rfl rfl rfl rfl (by kernel_rfl) Tryz.func9 Aap
    (of_decide_eq_true (by kernel_rfl)) (by unfold Func.isWrapper; first | (rw [if_pos (by decide +kernel)]; kernel_rfl) | (rw [if_neg (by decide +kernel)]; exact ⟨rfl, rfl⟩))
    (fun os started H enc _ => VG os started H enc)

end Go.Proofs.YtpdahhnjhggocaaGreatDoor
