/- For every sign and any two types of layer 1 the law RuleResult returns true, and its arguments read as they did: Result and Assignable of package rule answer as the document's specification does, a result is valid, and + and * may be turned round. Conditions: those of the given row alone. -/
import Derived.Test.YtcekphfmpjdbmaaGreatDoorResHolds
namespace Go.Proofs.YtcekphfmpjdbmaaGreatDoor
open Go.ChangeMaps (open_string)

set_option maxHeartbeats 8000000 in
theorem res_card : Rows.RuleResultCardSaid :=
  Claim7.holds_tied_plain_at .later [] [.data, .data, .data, .data, .pinned] true Rows.ruleResultCard.stood.harness true res_holds (fun _ h => by cases h) (by as_aux_lemma => kernel_rfl) (fun _ h => by cases h) ruleResult_row_tie rfl ⟨rfl, rfl⟩ (by as_aux_lemma => kernel_rfl) rfl
    (fun f fn hf hfn => by
      obtain rfl : f = 4 := Option.some.inj ((show Tryz.prog.funcNamed "ironbark/ironbarklaw02.RuleResult" = some 4 by as_aux_lemma => kernel_rfl).symm.trans hf) |>.symm
      obtain rfl : fn = Tryz.f4 := (Option.some.inj (Tryz.func4.symm.trans hfn)).symm
      exact ⟨by as_aux_lemma => kernel_rfl, fun j t ht => by
        rw [Tryz.params4] at ht
        have hm : t ∈ [9, 23, 23] := by simpa using Array.mem_of_getElem? ht
        have hall : ([9, 23, 23].all fun u => !Tryz.prog.wantsStandIn u) = true := by as_aux_lemma => kernel_rfl
        exact (show Tryz.prog.wantsStandIn t = false by simpa using List.all_eq_true.1 hall t hm)⟩)
    (by as_aux_lemma => kernel_rfl)
end Go.Proofs.YtcekphfmpjdbmaaGreatDoor
