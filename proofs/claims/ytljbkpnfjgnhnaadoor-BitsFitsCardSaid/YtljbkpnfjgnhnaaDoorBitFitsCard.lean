/- For every value and type of layer 5 the law BitsFits returns true, and its arguments read as they did: Valid, ValidType, Fit, Reverse and Trim of package bits answer as the document says, fitted twice is fitted once, and turned round twice is what it was. Conditions: those of the given row alone. -/
import Derived.Test.YtljbkpnfjgnhnaaDoorBitFitsHolds
namespace Go.Proofs.YtljbkpnfjgnhnaaDoor
open Go.Joins Go.ChangeShapes Go.WideShapes Go.ChangeAt Go.RowKit Go.Deep

set_option maxHeartbeats 8000000 in
theorem fits_card : Rows.BitsFitsCardSaid :=
  Claim7.holds_tied_plain_at .later [] [.data, .pinned] true Rows.bitsFitsCard.stood.harness true fits_holds (fun _ h => by cases h) (by as_aux_lemma => kernel_rfl) (fun _ h => by cases h) bitsFits_row_tie rfl ⟨rfl, rfl⟩ (by as_aux_lemma => kernel_rfl) rfl
    (fun f fn hf hfn => by
      obtain rfl : f = 3 := Option.some.inj ((show Tryd.prog.funcNamed "ironbark/ironbarklaw05.BitsFits" = some 3 by as_aux_lemma => kernel_rfl).symm.trans hf) |>.symm
      obtain rfl : fn = Tryd.f3 := (Option.some.inj (Tryd.func3.symm.trans hfn)).symm
      exact ⟨by as_aux_lemma => kernel_rfl, fun j t ht => by
        rw [Tryd.params3] at ht
        have hm : t ∈ [23, 25] := by simpa using Array.mem_of_getElem? ht
        have hall : ([23, 25].all fun u => !Tryd.prog.wantsStandIn u) = true := by as_aux_lemma => kernel_rfl
        exact (show Tryd.prog.wantsStandIn t = false by simpa using List.all_eq_true.1 hall t hm)⟩)
    (by as_aux_lemma => kernel_rfl)
end Go.Proofs.YtljbkpnfjgnhnaaDoor
