import Derived.Test.YtpdahhnjhggocabGreatDoorBun28
import Derived.Test.YtpdahhnjhggocabGreatDoorBun3
namespace Go.Proofs.YtpdahhnjhggocabGreatDoor
open Go.ChangeShapes Go.WideShapes Go.ChangeAt Go.RowKit
open Go.ChangeMaps (open_string shut_string)
set_option linter.unusedVariables false

theorem fnExactSheetGet_card : Rows.FnExactSheetGetCardSaid :=
  Claim7.holds_tied_plain_at .later [] [.data, .data, .data, .sentinel, .sentinel] true Rows.fnExactSheetGetCard.stood.harness true
    law_row (fun _ h => by cases h) q_wf (fun _ h => by cases h) fnExactSheetGet_row_tie rfl ⟨rfl, rfl⟩ q_main rfl
    (fun f fn hf hfn => by
      obtain rfl : f = 7 := Option.some.inj ((show Tryz.prog.funcNamed Rows.fnExactSheetGetRow.func = some 7 by kernel_rfl).symm.trans hf) |>.symm
      obtain rfl : fn = Tryz.f7 := (Option.some.inj (Tryz.func7.symm.trans hfn)).symm
      exact ⟨q_looks, fun j t ht => by
        rw [Tryz.params7] at ht
        have hm : t ∈ [35, 9, 9, 9] := by simpa using Array.mem_of_getElem? ht
        have hall : ([35, 9, 9, 9].all fun u => !Tryz.prog.wantsStandIn u) = true := by kernel_rfl
        exact (show Tryz.prog.wantsStandIn t = false by simpa using List.all_eq_true.1 hall t hm)⟩)
    q_goes
#print axioms fnExactSheetGet_card
end Go.Proofs.YtpdahhnjhggocabGreatDoor
