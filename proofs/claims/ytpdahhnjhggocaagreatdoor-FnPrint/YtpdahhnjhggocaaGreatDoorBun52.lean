import Derived.Test.YtpdahhnjhggocaaGreatDoorBun51
import Derived.Test.YtpdahhnjhggocaaGreatDoorBun3
namespace Go.Proofs.YtpdahhnjhggocaaGreatDoor
open Go.ChangeShapes Go.WideShapes Go.ChangeAt Go.RowKit
open Go.ChangeMaps (open_string shut_string)
set_option linter.unusedVariables false

theorem fnPrint_card : Rows.FnPrintCardSaid :=
  Claim7.holds_tied_plain_at .later [] [.data, .data, .data, .data, .handle, .sentinel, .sentinel, .pinned] true Rows.fnPrintCard.stood.harness true
    law_row (fun _ h => by cases h) q_wf (fun _ h => by cases h) fnPrint_row_tie rfl ⟨rfl, rfl⟩ q_main rfl
    (fun f fn hf hfn => by
      obtain rfl : f = 5 := Option.some.inj ((show Tryz.prog.funcNamed Rows.fnPrintRow.func = some 5 by kernel_rfl).symm.trans hf) |>.symm
      obtain rfl : fn = Tryz.f5 := (Option.some.inj (Tryz.func5.symm.trans hfn)).symm
      exact ⟨q_looks, fun j t ht => by
        rw [Tryz.params5] at ht
        have hm : t ∈ [22] := by simpa using Array.mem_of_getElem? ht
        have hall : ([22].all fun u => !Tryz.prog.wantsStandIn u) = true := by kernel_rfl
        exact (show Tryz.prog.wantsStandIn t = false by simpa using List.all_eq_true.1 hall t hm)⟩)
    q_goes
#print axioms fnPrint_card
end Go.Proofs.YtpdahhnjhggocaaGreatDoor
