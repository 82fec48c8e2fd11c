/- For every three values of layer 5 and every int the law BitsMakes returns true, and its arguments read as they did: Translate, Repeat, Copy, Low, High and Join of package bits answer as the document says, the parts of a join are its sides, and Reverse of it is the join of the Reverses in turn. Conditions: those of the given row alone. -/
import Derived.Test.YtgoghblfficfpaaBitLawMakes
import Derived.Test.YtgoghblfficfpaaBitOpen
import Derived.Test.YtgoghblfficfpaaRows
namespace Go.Proofs.Ytgoghblfficfpaa
open Go.ChangeMaps (open_string)
open Go.Joins Go.ChangeShapes Go.WideShapes Go.ChangeAt Go.RowKit Go.Deep

set_option maxRecDepth 100000 in
theorem bitsMakes_lifted (os : Os) (started : os.Started) (H : Type) (enc : TypeId × Value → H) :
    ReturnsInHanded {} Try.checked os 5 .any (Rows.bitsMakesSpec.pre6 enc Try.prog Try.f5 Rows.bitsMakesRow.domain false) (Rows.bitsMakesSpec.post enc Try.prog Try.f5 false true false false) := by
  refine returnsInHanded_of_change (C := Try.checked) bOwn started (by kernel_rfl) Try.func5
    (ChangeSpec.witness6 (enc := enc) (C := Try.checked) false ⟨#[], #[.agg #[.int .i64 0, .int .i64 0, .int .i64 0, .string ⟨#[]⟩], .agg #[.int .i64 0, .int .i64 0, .int .i64 0, .string ⟨#[]⟩], .agg #[.int .i64 0, .int .i64 0, .int .i64 0, .string ⟨#[]⟩], .int .i64 0], []⟩ 8 (by kernel_rfl) (by kernel_rfl) (by kernel_rfl) (by kernel_rfl)) ?_
  intro W base args ds gs before hval0 hW _ _
  have hval : ∀ (j : Nat) t v, Try.f5.params[j]? = some t → args[j]? = some v → Value.okWide Try.prog W .any base t v := hval0
  have hW' := hW
  obtain ⟨p, q, hA0, hV, rfl, _, _⟩ := hW
  have hA : DataW.TrodAll enc Try.prog W 0 (fun _ => true) true Try.f5.params.toList args.toList ds p := hA0
  rw [Try.params5] at hA hval
  obtain ⟨v0, v1, v2, v3, d0, d1, d2, d3, p0, p1, p2, p3, rfl, rfl, rfl, h0, h1, h2, h3⟩ := trodAll_four hA
  obtain ⟨rfl, rfl⟩ := trodVars_none hV
  simp only [List.append_nil] at hW'
  have hlt : ∀ x ∈ p0 ++ p1 ++ p2 ++ p3, x.block < W.heap.size := fun x hx => hW'.lt x (by simpa using hx)
  obtain ⟨k0, n0, q0, s0, rfl, z0⟩ := bOpen_val (hval 0 23 v0 rfl rfl) h0
  obtain ⟨k1, n1, q1, s1, rfl, z1⟩ := bOpen_val (hval 1 23 v1 rfl rfl) h1
  obtain ⟨k2, n2, q2, s2, rfl, z2⟩ := bOpen_val (hval 2 23 v2 rfl rfl) h2
  obtain ⟨i3, rfl, _⟩ := open_int (k := .i64) (by kernel_rfl) (hval 3 3 v3 rfl rfl) h3
  refine (makes_any ⟨k0, n0, q0, s0⟩ ⟨k1, n1, q1, s1⟩ ⟨k2, n2, q2, s2⟩ i3 W z0 z1 z2).mono fun e W' ⟨he, hb⟩ => ?_
  subst he
  have T0 := Below.trod bLaidOut (by kernel_rfl) (of_decide_eq_true (by kernel_rfl)) h0 hb (fun x hx => hlt x (by simp [hx]))
  have T1 := Below.trod bLaidOut (by kernel_rfl) (of_decide_eq_true (by kernel_rfl)) h1 hb (fun x hx => hlt x (by simp [hx]))
  have T2 := Below.trod bLaidOut (by kernel_rfl) (of_decide_eq_true (by kernel_rfl)) h2 hb (fun x hx => hlt x (by simp [hx]))
  have T3 := Below.trod bLaidOut (by kernel_rfl) (of_decide_eq_true (by kernel_rfl)) h3 hb (fun x hx => hlt x (by simp [hx]))
  have hargs : DataW.TrodAll enc Try.prog W' 0 (fun b => decide (b < W.heap.size)) true [23, 23, 23, 3] [vlV k0 n0 q0 s0, vlV k1 n1 q1 s1, vlV k2 n2 q2 s2, .int .i64 i3] [d0, d1, d2, d3] (p0 ++ p1 ++ p2 ++ p3) := by
    rw [List.append_assoc, List.append_assoc]; exact trodAll_mk4 T0 T1 T2 T3
  exact ⟨_, rfl, _, _, _, [], p0 ++ p1 ++ p2 ++ p3, [], hW', trodAll_mk1 (shut_bool (by kernel_rfl) _), hargs, rfl, hb.frame _, fun h => by cases h⟩

set_option maxHeartbeats 8000000 in
theorem bitsMakes_facts : joinedFacts Try.prog 5 Try.f5 Rows.bitsMakesSpec Rows.bitsMakesRow = true := by
  unfold joinedFacts
  repeat' (with_reducible refine band_t ?_ ?_)
  all_goals (as_aux_lemma => kernel_rfl)

set_option maxHeartbeats 8000000 in
theorem bitsMakes_holds : Rows.BitsMakesSaid :=
  OpenClaim.holds_of_wide 5 Try.f5 rfl rfl rfl rfl rfl rfl rfl ⟨rfl, rfl, rfl, rfl, rfl⟩ rfl rfl rfl rfl rfl (by as_aux_lemma => kernel_rfl) Try.func5 bitsMakes_facts
    (of_decide_eq_true (by as_aux_lemma => kernel_rfl)) (by as_aux_lemma => (unfold Func.isWrapper; first | (rw [if_pos (by decide +kernel)]; kernel_rfl) | (rw [if_neg (by decide +kernel)]; exact ⟨rfl, rfl⟩)))
    (fun os started H enc _ => bitsMakes_lifted os started H enc)
end Go.Proofs.Ytgoghblfficfpaa
