import Derived.Test.YtpdahhnjhggocabGreatDoorBun51
import Derived.Test.YtpdahhnjhggocabGreatDoorBun3
namespace Go.Proofs.YtpdahhnjhggocabGreatDoor
open Go.ChangeShapes Go.WideShapes Go.ChangeAt Go.RowKit
open Go.ChangeMaps (open_string shut_string)
set_option linter.unusedVariables false

theorem fnExactSheetReport_card : Rows.FnExactSheetReportCardSaid :=
 Claim7.holds_tied_plain_at .later [] [.data, .data, .data, .data, .handle, .sentinel, .sentinel, .data, .pinned] true Rows.fnExactSheetReportCard.stood.harness true
  law_row (fun _ h => by cases h) q_wf (fun _ h => by cases h) fnExactSheetReport_row_tie rfl ⟨rfl, rfl⟩ q_main rfl
  (fun f fn hf hfn => by
    obtain rfl : f = 11 := Option.some.inj ((show Tryz.prog.funcNamed Rows.fnExactSheetReportRow.func = some 11 by kernel_rfl).symm.trans hf) |>.symm
    obtain rfl : fn = Tryz.f11 := (Option.some.inj (Tryz.func11.symm.trans hfn)).symm
    exact ⟨q_looks, fun j t ht => by
     rw [Tryz.params11] at ht
     have hm : t ∈ [9, 9] := by simpa using Array.mem_of_getElem? ht
     have hall : ([9, 9].all fun u => !Tryz.prog.wantsStandIn u) = true := by kernel_rfl
     exact (show Tryz.prog.wantsStandIn t = false by simpa using List.all_eq_true.1 hall t hm)⟩)
  q_goes
#print axioms fnExactSheetReport_card
end Go.Proofs.YtpdahhnjhggocabGreatDoor
