/- For every two values of layer 5 and every string the law BitsBools returns true, and its arguments read as they did: Bool, And, Or, Xor, Not, Some and Every of package bits answer as the document says, and Not of And is Or of the Nots for strings of one length. Conditions: those of the given row alone. -/
import Derived.Test.YtgoghblfficfpaaBitLawBools
import Derived.Test.YtgoghblfficfpaaBitOpen
import Derived.Test.YtgoghblfficfpaaRows
namespace Go.Proofs.Ytgoghblfficfpaa
open Go.ChangeMaps (open_string)
open Go.Joins Go.ChangeShapes Go.WideShapes Go.ChangeAt Go.RowKit Go.Deep

set_option maxRecDepth 100000 in
theorem bitsBools_lifted (os : Os) (started : os.Started) (H : Type) (enc : TypeId × Value → H) :
    ReturnsInHanded {} Try.checked os 6 .any (Rows.bitsBoolsSpec.pre6 enc Try.prog Try.f6 Rows.bitsBoolsRow.domain false) (Rows.bitsBoolsSpec.post enc Try.prog Try.f6 false true false false) := by
  refine returnsInHanded_of_change (C := Try.checked) bOwn started (by kernel_rfl) Try.func6
    (ChangeSpec.witness6 (enc := enc) (C := Try.checked) false ⟨#[], #[.agg #[.int .i64 0, .int .i64 0, .int .i64 0, .string ⟨#[]⟩], .agg #[.int .i64 0, .int .i64 0, .int .i64 0, .string ⟨#[]⟩], .string ⟨#[]⟩], []⟩ 8 (by kernel_rfl) (by kernel_rfl) (by kernel_rfl) (by kernel_rfl)) ?_
  intro W base args ds gs before hval0 hW _ _
  have hval : ∀ (j : Nat) t v, Try.f6.params[j]? = some t → args[j]? = some v → Value.okWide Try.prog W .any base t v := hval0
  have hW' := hW
  obtain ⟨p, q, hA0, hV, rfl, _, _⟩ := hW
  have hA : DataW.TrodAll enc Try.prog W 0 (fun _ => true) true Try.f6.params.toList args.toList ds p := hA0
  rw [Try.params6] at hA hval
  obtain ⟨v0, v1, v2, d0, d1, d2, p0, p1, p2, rfl, rfl, rfl, h0, h1, h2⟩ := trodAll_three hA
  obtain ⟨rfl, rfl⟩ := trodVars_none hV
  simp only [List.append_nil] at hW'
  have hlt : ∀ x ∈ p0 ++ p1 ++ p2, x.block < W.heap.size := fun x hx => hW'.lt x (by simpa using hx)
  obtain ⟨k0, n0, q0, s0, rfl, z0⟩ := bOpen_val (hval 0 23 v0 rfl rfl) h0
  obtain ⟨k1, n1, q1, s1, rfl, z1⟩ := bOpen_val (hval 1 23 v1 rfl rfl) h1
  obtain ⟨s2, rfl, _, _, z2⟩ := open_string (by kernel_rfl) (hval 2 9 v2 rfl rfl) h2
  refine (bools_any ⟨k0, n0, q0, s0⟩ ⟨k1, n1, q1, s1⟩ s2 W z0 z1 z2).mono fun e W' ⟨he, hb⟩ => ?_
  subst he
  have T0 := Below.trod bLaidOut (by kernel_rfl) (of_decide_eq_true (by kernel_rfl)) h0 hb (fun x hx => hlt x (by simp [hx]))
  have T1 := Below.trod bLaidOut (by kernel_rfl) (of_decide_eq_true (by kernel_rfl)) h1 hb (fun x hx => hlt x (by simp [hx]))
  have T2 := Below.trod bLaidOut (by kernel_rfl) (of_decide_eq_true (by kernel_rfl)) h2 hb (fun x hx => hlt x (by simp [hx]))
  have hargs : DataW.TrodAll enc Try.prog W' 0 (fun b => decide (b < W.heap.size)) true [23, 23, 9] [vlV k0 n0 q0 s0, vlV k1 n1 q1 s1, .string s2] [d0, d1, d2] (p0 ++ p1 ++ p2) := by
    rw [List.append_assoc]; exact trodAll_mk3 T0 T1 T2
  exact ⟨_, rfl, _, _, _, [], p0 ++ p1 ++ p2, [], hW', trodAll_mk1 (shut_bool (by kernel_rfl) _), hargs, rfl, hb.frame _, fun h => by cases h⟩

set_option maxHeartbeats 8000000 in
theorem bitsBools_facts : joinedFacts Try.prog 6 Try.f6 Rows.bitsBoolsSpec Rows.bitsBoolsRow = true := by
  unfold joinedFacts
  repeat' (with_reducible refine band_t ?_ ?_)
  all_goals (as_aux_lemma => kernel_rfl)

set_option maxHeartbeats 8000000 in
theorem bitsBools_holds : Rows.BitsBoolsSaid :=
  OpenClaim.holds_of_wide 6 Try.f6 rfl rfl rfl rfl rfl rfl rfl ⟨rfl, rfl, rfl, rfl, rfl⟩ rfl rfl rfl rfl rfl (by as_aux_lemma => kernel_rfl) Try.func6 bitsBools_facts
    (of_decide_eq_true (by as_aux_lemma => kernel_rfl)) (by as_aux_lemma => (unfold Func.isWrapper; first | (rw [if_pos (by decide +kernel)]; kernel_rfl) | (rw [if_neg (by decide +kernel)]; exact ⟨rfl, rfl⟩)))
    (fun os started H enc _ => bitsBools_lifted os started H enc)
end Go.Proofs.Ytgoghblfficfpaa
