/- For every type of layer 1 and every text the law RuleTexts returns true, and its arguments read as they did: Text and Read of package rule answer as the document's specification does, and a valid type comes back from its text. Conditions: those of the given row alone (the library's variables hold what their initialisers say). -/
import Derived.Test.YtcekphfmpjdbmaaGreatDoorTextsLift
namespace Go.Proofs.YtcekphfmpjdbmaaGreatDoor
open Go.Joins Go.ChangeShapes Go.WideShapes Go.ChangeAt Go.RowKit Go.Deep

theorem and_t {a b : Bool} (ha : a = true) (hb : b = true) : (a && b) = true := by rw [ha, hb]; rfl

set_option maxHeartbeats 8000000 in
theorem texts_facts : joinedFacts Tryz.prog 7 Tryz.f7 Rows.ruleTextsSpec Rows.ruleTextsRow = true := by
  unfold joinedFacts
  repeat' (with_reducible refine and_t ?_ ?_)
  all_goals (as_aux_lemma => kernel_rfl)

set_option maxHeartbeats 8000000 in
theorem texts_holds : Rows.RuleTextsSaid :=
  OpenClaim.holds_of_wide 7 Tryz.f7 rfl rfl rfl rfl rfl rfl rfl ⟨rfl, rfl, rfl, rfl, rfl⟩ rfl rfl rfl rfl rfl (by as_aux_lemma => kernel_rfl) Tryz.func7 texts_facts
    (of_decide_eq_true (by as_aux_lemma => kernel_rfl)) (by as_aux_lemma => (unfold Func.isWrapper; first | (rw [if_pos (by decide +kernel)]; kernel_rfl) | (rw [if_neg (by decide +kernel)]; exact ⟨rfl, rfl⟩)))
    (fun os started H enc _ => texts_lifted os started H enc)

end Go.Proofs.YtcekphfmpjdbmaaGreatDoor
