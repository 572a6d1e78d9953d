import Derived.Test.YtpdahhnjhggocaaGreatDoorMz52
import Derived.Test.YtpdahhnjhggocaaGreatDoorMz54
namespace Go.Proofs.YtpdahhnjhggocaaGreatDoor
open Go.ChangeShapes Go.WideShapes Go.ChangeAt Go.RowKit
open Go.ChangeMaps (open_string shut_string)
set_option linter.unusedVariables false

theorem fnDiff_card : Rows.FnDiffCardSaid :=
  Claim7.holds_tied_plain_at .later [] [.data, .data, .data, .sentinel, .sentinel] true Rows.fnDiffCard.stood.harness true
    Ag3 (fun _ h => by cases h) Aja (fun _ h => by cases h) fnDiff_row_tie rfl ⟨rfl, rfl⟩ Ah5 rfl
    (fun f fn hf hfn => by
      obtain rfl : f = 8 := Option.some.inj ((show Tryz.prog.funcNamed Rows.fnDiffRow.func = some 8 by kernel_rfl).symm.trans hf) |>.symm
      obtain rfl : fn = Tryz.f8 := (Option.some.inj (Tryz.func8.symm.trans hfn)).symm
      exact ⟨Ag4, fun j t ht => by
        rw [Tryz.params8] at ht
        have hm : t ∈ [22] := by simpa using Array.mem_of_getElem? ht
        have hall : ([22].all fun u => !Tryz.prog.wantsStandIn u) = true := by kernel_rfl
        exact (show Tryz.prog.wantsStandIn t = false by simpa using List.all_eq_true.1 hall t hm)⟩)
    Ah4
#print axioms fnDiff_card
end Go.Proofs.YtpdahhnjhggocaaGreatDoor
