import Derived.Test.YtpdahhnjhggocabGreatDoorBun52
import Derived.Test.YtpdahhnjhggocabGreatDoorBun3
namespace Go.Proofs.YtpdahhnjhggocabGreatDoor
open Go.ChangeShapes Go.WideShapes Go.ChangeAt Go.RowKit
open Go.ChangeMaps (open_string shut_string)
set_option linter.unusedVariables false

theorem fnExactSheetApply_card : Rows.FnExactSheetApplyCardSaid :=
 Claim7.holds_tied_plain_at .later [] [.data, .data, .data, .sentinel, .sentinel] true Rows.fnExactSheetApplyCard.stood.harness true
  law_row (fun _ h => by cases h) q_wf (fun _ h => by cases h) fnExactSheetApply_row_tie rfl ⟨rfl, rfl⟩ q_main rfl
  (fun f fn hf hfn => by
    obtain rfl : f = 10 := Option.some.inj ((show Tryz.prog.funcNamed Rows.fnExactSheetApplyRow.func = some 10 by kernel_rfl).symm.trans hf) |>.symm
    obtain rfl : fn = Tryz.f10 := (Option.some.inj (Tryz.func10.symm.trans hfn)).symm
    exact ⟨q_looks, fun j t ht => by
     rw [Tryz.params10] at ht
     have hm : t ∈ [35, 53] := by simpa using Array.mem_of_getElem? ht
     have hall : ([35, 53].all fun u => !Tryz.prog.wantsStandIn u) = true := by kernel_rfl
     exact (show Tryz.prog.wantsStandIn t = false by simpa using List.all_eq_true.1 hall t hm)⟩)
  q_goes
#print axioms fnExactSheetApply_card
end Go.Proofs.YtpdahhnjhggocabGreatDoor
