/- For every two values of layer 5 the law BitsFinds returns true, and its arguments read as they did: Index, Tally, Verify and Search of package bits answer as the document says, and what is found stands there, and at no lesser place. Conditions: those of the given row alone. -/
import Derived.Test.YtmbmcelgfgelfaaBitLawFinds
import Derived.Test.YtmbmcelgfgelfaaBitOpen
import Derived.Test.YtmbmcelgfgelfaaRows
namespace Go.Proofs.Ytmbmcelgfgelfaa
open Go.ChangeMaps (open_string)
open Go.Joins Go.ChangeShapes Go.WideShapes Go.ChangeAt Go.RowKit Go.Deep

set_option maxRecDepth 100000 in
theorem bitsFinds_lifted (os : Os) (started : os.Started) (H : Type) (enc : TypeId × Value → H) :
    ReturnsInHanded {} Try.checked os 4 .any (Rows.bitsFindsSpec.pre6 enc Try.prog Try.f4 Rows.bitsFindsRow.domain false) (Rows.bitsFindsSpec.post enc Try.prog Try.f4 false true false false) := by
  refine returnsInHanded_of_change (C := Try.checked) bOwn started (by kernel_rfl) Try.func4
    (ChangeSpec.witness6 (enc := enc) (C := Try.checked) false ⟨#[], #[.agg #[.int .i64 0, .int .i64 0, .int .i64 0, .string ⟨#[]⟩], .agg #[.int .i64 0, .int .i64 0, .int .i64 0, .string ⟨#[]⟩]], []⟩ 8 (by kernel_rfl) (by kernel_rfl) (by kernel_rfl) (by kernel_rfl)) ?_
  intro W base args ds gs before hval0 hW _ _
  have hval : ∀ (j : Nat) t v, Try.f4.params[j]? = some t → args[j]? = some v → Value.okWide Try.prog W .any base t v := hval0
  have hW' := hW
  obtain ⟨p, q, hA0, hV, rfl, _, _⟩ := hW
  have hA : DataW.TrodAll enc Try.prog W 0 (fun _ => true) true Try.f4.params.toList args.toList ds p := hA0
  rw [Try.params4] at hA hval
  obtain ⟨v0, v1, d0, d1, p0, p1, rfl, rfl, rfl, h0, h1⟩ := trodAll_two hA
  obtain ⟨rfl, rfl⟩ := trodVars_none hV
  simp only [List.append_nil] at hW'
  have hlt : ∀ x ∈ p0 ++ p1, x.block < W.heap.size := fun x hx => hW'.lt x (by simpa using hx)
  obtain ⟨k0, n0, q0, s0, rfl, z0⟩ := bOpen_val (hval 0 23 v0 rfl rfl) h0
  obtain ⟨k1, n1, q1, s1, rfl, z1⟩ := bOpen_val (hval 1 23 v1 rfl rfl) h1
  refine (finds_any ⟨k0, n0, q0, s0⟩ ⟨k1, n1, q1, s1⟩ W z0 z1).mono fun e W' ⟨he, hb⟩ => ?_
  subst he
  have T0 := Below.trod bLaidOut (by kernel_rfl) (of_decide_eq_true (by kernel_rfl)) h0 hb (fun x hx => hlt x (by simp [hx]))
  have T1 := Below.trod bLaidOut (by kernel_rfl) (of_decide_eq_true (by kernel_rfl)) h1 hb (fun x hx => hlt x (by simp [hx]))
  have hargs : DataW.TrodAll enc Try.prog W' 0 (fun b => decide (b < W.heap.size)) true [23, 23] [vlV k0 n0 q0 s0, vlV k1 n1 q1 s1] [d0, d1] (p0 ++ p1) := by
    exact trodAll_mk2 T0 T1
  exact ⟨_, rfl, _, _, _, [], p0 ++ p1, [], hW', trodAll_mk1 (shut_bool (by kernel_rfl) _), hargs, rfl, hb.frame _, fun h => by cases h⟩

set_option maxHeartbeats 8000000 in
theorem bitsFinds_facts : joinedFacts Try.prog 4 Try.f4 Rows.bitsFindsSpec Rows.bitsFindsRow = true := by
  unfold joinedFacts
  repeat' (with_reducible refine band_t ?_ ?_)
  all_goals (as_aux_lemma => kernel_rfl)

set_option maxHeartbeats 8000000 in
theorem bitsFinds_holds : Rows.BitsFindsSaid :=
  OpenClaim.holds_of_wide 4 Try.f4 rfl rfl rfl rfl rfl rfl rfl ⟨rfl, rfl, rfl, rfl, rfl⟩ rfl rfl rfl rfl rfl (by as_aux_lemma => kernel_rfl) Try.func4 bitsFinds_facts
    (of_decide_eq_true (by as_aux_lemma => kernel_rfl)) (by as_aux_lemma => (unfold Func.isWrapper; first | (rw [if_pos (by decide +kernel)]; kernel_rfl) | (rw [if_neg (by decide +kernel)]; exact ⟨rfl, rfl⟩)))
    (fun os started H enc _ => bitsFinds_lifted os started H enc)
end Go.Proofs.Ytmbmcelgfgelfaa
