/- For every type of layer 1 and every text the law RuleTexts returns true, and its arguments read as they did: Text and Read of package rule answer as the document's specification does, and a valid type comes back from its text. Conditions: those of the given row alone (the library's variables hold what their initialisers say). -/
import Derived.Test.YtcekphfmpjdbmaaGreatDoorTextsHolds
namespace Go.Proofs.YtcekphfmpjdbmaaGreatDoor
open Go.ChangeMaps (open_string)

set_option maxHeartbeats 8000000 in
theorem texts_card : Rows.RuleTextsCardSaid :=
  Claim7.holds_tied_plain_at .later [] [.data, .data, .data, .data, .sentinel, .sentinel, .pinned] true Rows.ruleTextsCard.stood.harness true texts_holds (fun _ h => by cases h) (by as_aux_lemma => kernel_rfl) (fun _ h => by cases h) ruleTexts_row_tie rfl ⟨rfl, rfl⟩ (by as_aux_lemma => kernel_rfl) rfl
    (fun f fn hf hfn => by
      obtain rfl : f = 7 := Option.some.inj ((show Tryz.prog.funcNamed "ironbark/ironbarklaw02.RuleTexts" = some 7 by as_aux_lemma => kernel_rfl).symm.trans hf) |>.symm
      obtain rfl : fn = Tryz.f7 := (Option.some.inj (Tryz.func7.symm.trans hfn)).symm
      exact ⟨by as_aux_lemma => kernel_rfl, fun j t ht => by
        rw [Tryz.params7] at ht
        have hm : t ∈ [23, 9] := by simpa using Array.mem_of_getElem? ht
        have hall : ([23, 9].all fun u => !Tryz.prog.wantsStandIn u) = true := by as_aux_lemma => kernel_rfl
        exact (show Tryz.prog.wantsStandIn t = false by simpa using List.all_eq_true.1 hall t hm)⟩)
    (by as_aux_lemma => kernel_rfl)
end Go.Proofs.YtcekphfmpjdbmaaGreatDoor
