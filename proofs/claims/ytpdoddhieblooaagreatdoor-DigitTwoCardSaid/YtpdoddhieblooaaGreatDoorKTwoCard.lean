/- The law DigitTwo: Compare, Add, Subtract, Multiply, Divide and Modulo of the program and of the document give the same for any two values and any type, and Compare turned round has the other sign: proved for every two values and every type whose texts have at most maxLen bytes (all that a machine holds). -/
import Derived.Test.YtpdoddhieblooaaGreatDoorKTwoCmp
import Derived.Test.YtpdoddhieblooaaGreatDoorKTwoLaw
import Derived.Test.YtpdoddhieblooaaGreatDoorKWrdAwake
import Derived.Test.YtpdoddhieblooaaGreatDoorCards
import Derived.Test.YtpdoddhieblooaaGreatDoorTie
import Derived.ProofKit
import Derived.LaidMore
import Derived.OpenShut
import Derived.Lay
import Derived.Carry
import Derived.ChangeMaps5
import Derived.SevenTiedAt
import Derived.Stop.Joined
import Derived.Lib.SmallJoins
import Derived.Deep.Fields
namespace Go.Proofs.YtpdoddhieblooaaGreatDoor
open Go.ChangeMaps (open_string)
open Go.Joins Go.ChangeShapes Go.WideShapes Go.ChangeAt Go.RowKit Go.Deep

theorem got {f : Nat} {args : Array Value} {k N Q c er : Int} (h : ∀ w, Calls Tryz.prog f args w (Gives3 (Ex5 k N Q c er) w)) :
   Hid (∀ W, Calls Tryz.prog f args W fun e w' => e = .returned (.tuple #[vaV k N Q emp, .int .i64 c, .int .i64 er]) ∧ Below W.heap.size W w') :=
 Lib.hid fun W => (h W).mono fun _ _ ⟨_, _, _, _, _, ⟨he, hb⟩, e1, e2, e3, e4, e5⟩ => by
   subst e1 e2 e3 e4 e5
   exact ⟨he, hb⟩
theorem two_va (ka na qa : Int) (sa : ByteArray) (kb nb qb : Int) (sb : ByteArray) (k p q n : Int) (vy : Bool) (pic : ByteArray) (w : World) (hsa : sa.size ≤ maxLen) (hsb : sb.size ≤ maxLen) (hp : pic.size ≤ maxLen) :
   Calls Tryz.prog 3 #[vaV ka na qa sa, vaV kb nb qb sb, tyV k p q n vy pic] w fun e w' => e = .returned (.bool true) ∧ Below w.heap.size w w' := by
 have hL := Lib.hid fun W => light2 ka na qa sa k p q n vy pic W hsa hp
 have hA := Lib.hid awake_1
 by_cases h6 : (sb.size : Int) ≤ 600
 · obtain ⟨o, er, o2, er2, hP, hR, hQ, hO⟩ := all_compare2 ⟨ka, na, qa, sa⟩ ⟨kb, nb, qb, sb⟩ hsa hsb
   obtain ⟨k0, n0, q0, c0, e0, p0, r0⟩ := all_add ⟨ka, na, qa, sa⟩ ⟨kb, nb, qb, sb⟩ k p q n vy pic hp hsa hsb
   obtain ⟨k1, n1, q1, c1, e1, p1, r1⟩ := all_subtract ⟨ka, na, qa, sa⟩ ⟨kb, nb, qb, sb⟩ k p q n vy pic hp hsa hsb
   obtain ⟨k2, n2, q2, c2, e2, p2, r2⟩ := all_multiply ⟨ka, na, qa, sa⟩ ⟨kb, nb, qb, sb⟩ k p q n vy pic hp hsa hsb
   obtain ⟨k3, n3, q3, c3, e3, p3, r3⟩ := all_divide ⟨ka, na, qa, sa⟩ ⟨kb, nb, qb, sb⟩ k p q n vy pic hp hsa hsb
   obtain ⟨k4, n4, q4, c4, e4, p4, r4⟩ := all_modulo ⟨ka, na, qa, sa⟩ ⟨kb, nb, qb, sb⟩ k p q n vy pic hp hsa hsb
   by_cases he : er = 0
   · obtain ⟨h1, h2, h3, h4⟩ := hO he
     exact two_near ka na qa sa kb nb qb sb k p q n vy pic w hsb o er o2 er2 k0 n0 q0 c0 e0 k1 n1 q1 c1 e1 k2 n2 q2 c2 e2 k3 n3 q3 c3 e3 k4 n4 q4 c4 e4 hA hL (Lib.hid hP) (Lib.hid hR) (Lib.hid hQ) (got p0) (got r0) (got p1) (got r1) (got p2) (got r2) (got p3) (got r3) (got p4) (got r4) h6 (.inl ⟨he, h1, h2, h3, h4⟩)
   · exact two_near ka na qa sa kb nb qb sb k p q n vy pic w hsb o er o2 er2 k0 n0 q0 c0 e0 k1 n1 q1 c1 e1 k2 n2 q2 c2 e2 k3 n3 q3 c3 e3 k4 n4 q4 c4 e4 hA hL (Lib.hid hP) (Lib.hid hR) (Lib.hid hQ) (got p0) (got r0) (got p1) (got r1) (got p2) (got r2) (got p3) (got r3) (got p4) (got r4) h6 (.inr (by simpa using he))
 · exact two_far ka na qa sa kb nb qb sb k p q n vy pic w hsb hA hL h6
set_option maxRecDepth 100000 in
theorem open_val {H : Type} {enc : TypeId × Value → H} {w : World} {base : Nat} {spare : Nat → Bool} {held : Bool} {v : Value} {d : DataW H} {p : List MemPlace} {r : Reach} {b0 : Nat} (hv : Value.okWide Tryz.prog w r b0 23 v) (h : DataW.Trod enc Tryz.prog w base spare held 23 v d p) :
   ∃ (k n q : Int) (s : ByteArray), v = vaV k n q s ∧ s.size ≤ maxLen := by
 have hs := Tryz.underlying23
 obtain ⟨v0, v1, v2, v3, y0, y1, y2, y3, n, rfl, _, _, h0, h1, h2, h3⟩ := open_agg4 hs (by kernel_rfl) (by kernel_rfl) hv h
 obtain ⟨a0, e0, _, _⟩ := DataW.trod_int (k := .i64) (by kernel_rfl) h0
 obtain ⟨a1, e1, _, _⟩ := DataW.trod_int (k := .i64) (by kernel_rfl) h1
 obtain ⟨a2, e2, _, _⟩ := DataW.trod_int (k := .i64) (by kernel_rfl) h2
 obtain ⟨a3, e3, _, e4⟩ := DataW.trod_string (by kernel_rfl) h3
 cases e0; cases e1; cases e2; cases e3
 exact ⟨a0, a1, a2, a3, rfl, e4⟩
section
variable {H : Type} {enc : TypeId × Value → H} {P : Program} {w : World} {base : Nat} {spare : Nat → Bool} {held : Bool}
theorem open_agg6 {r : Reach} {b0 : Nat} {t : TypeId} {f0 f1 f2 f3 f4 f5 : Field} {v : Value} {d : DataW H} {p : List MemPlace} (hs : P.underlying t = some (.struct #[f0, f1, f2, f3, f4, f5])) (hone : oneCellFields P #[f0, f1, f2, f3, f4, f5] = true) (hC : P.cellsOf t = 6)
   (hv : Value.okWide P w r b0 t v) (h : DataW.Trod enc P w base spare held t v d p) :
   ∃ (v0 v1 v2 v3 v4 v5 : Value) (y0 y1 y2 y3 y4 y5 : DataW H × List MemPlace) (n : Nat), v = .agg #[v0, v1, v2, v3, v4, v5] ∧ d = .agg [y0.1, y1.1, y2.1, y3.1, y4.1, y5.1] ∧ p = y0.2 ++ (y1.2 ++ (y2.2 ++ (y3.2 ++ (y4.2 ++ y5.2)))) ∧
     DataW.trod enc P w base spare held n f0.type [v0] = some y0 ∧ DataW.trod enc P w base spare held n f1.type [v1] = some y1 ∧ DataW.trod enc P w base spare held n f2.type [v2] = some y2 ∧ DataW.trod enc P w base spare held n f3.type [v3] = some y3 ∧ DataW.trod enc P w base spare held n f4.type [v4] = some y4 ∧ DataW.trod enc P w base spare held n f5.type [v5] = some y5 := by
 obtain ⟨cs, rfl, hsz⟩ := okWide_struct hs hv
 obtain ⟨l⟩ := cs
 match l, hsz.trans hC with
 | [c0, c1, c2, c3, c4, c5], _ =>
   obtain ⟨fuel, hf⟩ := h
   obtain ⟨xs, n, _, hx, _, hlen, hg⟩ := DataW.trod_struct hs hf
   obtain ⟨o0, k0⟩ := hone_of hone 0 f0 rfl
   obtain ⟨o1, k1⟩ := hone_of hone 1 f1 rfl
   obtain ⟨o2, k2⟩ := hone_of hone 2 f2 rfl
   obtain ⟨o3, k3⟩ := hone_of hone 3 f3 rfl
   obtain ⟨o4, k4⟩ := hone_of hone 4 f4 rfl
   obtain ⟨o5, k5⟩ := hone_of hone 5 f5 rfl
   match xs, hlen with
   | [y0, y1, y2, y3, y4, y5], _ =>
     simp only [Prod.mk.injEq] at hx
     exact ⟨c0, c1, c2, c3, c4, c5, y0, y1, y2, y3, y4, y5, n, rfl, by simpa using hx.1, by simpa using hx.2, by simpa [Value.cells, o0, k0] using hg 0 f0 rfl, by simpa [Value.cells, o1, k1] using hg 1 f1 rfl, by simpa [Value.cells, o2, k2] using hg 2 f2 rfl, by simpa [Value.cells, o3, k3] using hg 3 f3 rfl, by simpa [Value.cells, o4, k4] using hg 4 f4 rfl, by simpa [Value.cells, o5, k5] using hg 5 f5 rfl⟩
set_option maxRecDepth 100000 in
theorem open_ty {v : Value} {d : DataW H} {p : List MemPlace} {r : Reach} {b0 : Nat} (hv : Value.okWide Tryz.prog w r b0 25 v) (h : DataW.Trod enc Tryz.prog w base spare held 25 v d p) :
   ∃ (k p' q n : Int) (vy : Bool) (pic : ByteArray), v = tyV k p' q n vy pic ∧ pic.size ≤ maxLen := by
 have hs := Tryz.underlying25
 obtain ⟨v0, v1, v2, v3, v4, v5, y0, y1, y2, y3, y4, y5, n, rfl, _, _, h0, h1, h2, h3, h4, h5⟩ := open_agg6 hs (by kernel_rfl) (by kernel_rfl) hv h
 obtain ⟨a0, e0, _, _⟩ := DataW.trod_int (k := .i64) (by kernel_rfl) h0
 obtain ⟨a1, e1, _, _⟩ := DataW.trod_int (k := .i64) (by kernel_rfl) h1
 obtain ⟨a2, e2, _, _⟩ := DataW.trod_int (k := .i64) (by kernel_rfl) h2
 obtain ⟨a3, e3, _, _⟩ := DataW.trod_int (k := .i64) (by kernel_rfl) h3
 obtain ⟨a4, e4, _⟩ := DataW.trod_bool (by kernel_rfl) h4
 obtain ⟨a5, e5, _, e6⟩ := DataW.trod_string (by kernel_rfl) h5
 cases e0; cases e1; cases e2; cases e3; cases e4; cases e5
 exact ⟨a0, a1, a2, a3, a4, a5, rfl, e6⟩
end

theorem own : ownKnob Tryz.prog.godebug = none := by kernel_rfl
theorem laidOut : laidOutB Tryz.prog = true := by kernel_rfl
set_option maxRecDepth 100000 in
theorem twoLaw_lifted (os : Os) (started : os.Started) (H : Type) (enc : TypeId × Value → H) :
   ReturnsInHanded {} Tryz.checked os 3 .any (fun w args => (Rows.digitTwoSpec.pre enc Tryz.prog Tryz.f3 [] false w args ∧ laidMetH Tryz.prog Rows.digitTwoRow.laid w) ∧ sizedMet enc Tryz.prog Tryz.f3 (OpenSpec.ofChange Rows.digitTwoSpec) false w args)
     (Rows.digitTwoSpec.post enc Tryz.prog Tryz.f3 false true false false) := by
 refine returnsInHanded_of_change_and (C := Tryz.checked) (X := fun w _ => laidMetH Tryz.prog Rows.digitTwoRow.laid w) (fun _ _ _ hh h => h.of_heap hh) own started (by kernel_rfl) Tryz.func3
   (ChangeSpec.witness_shaped (enc := enc) (C := Tryz.checked) (os := os) (X := fun w _ => laidMetH Tryz.prog Rows.digitTwoRow.laid w) false (World.laidAll Tryz.prog os Rows.digitTwoRow.laid) #[.agg #[.int .i64 0, .int .i64 0, .int .i64 0, .string ⟨#[]⟩], .agg #[.int .i64 0, .int .i64 0, .int .i64 0, .string ⟨#[]⟩], .agg #[.int .i64 0, .int .i64 0, .int .i64 0, .int .i64 0, .bool false, .string ⟨#[]⟩]] 8 (World.laidAll_os _ _ _)
     (World.shaped_of_ZipB (by kernel_rfl) (by kernel_rfl)) (by kernel_rfl) (by kernel_rfl) (by kernel_rfl)
     (by rw [MakeChecks.laidMetH_plain _ _ _ (by kernel_rfl)]; exact laidMet_laidAll _ (by kernel_rfl) (by kernel_rfl))) ?_
 intro W base args ds gs before hval0 hW _ _ _ _
 have hval : ∀ (j : Nat) t v, Tryz.f3.params[j]? = some t → args[j]? = some v → Value.okWide Tryz.prog W .any base t v := hval0
 have hW' := hW
 obtain ⟨p, q, hA0, hV, rfl, _, _⟩ := hW
 have hA : DataW.TrodAll enc Tryz.prog W 0 (fun _ => true) true Tryz.f3.params.toList args.toList ds p := hA0
 rw [Tryz.params3] at hA hval
 obtain ⟨v0, v1, v2, d0, d1, d2, p0, p1, p2, rfl, rfl, rfl, h0, h1, h2⟩ := trodAll_three hA
 obtain ⟨rfl, rfl⟩ := trodVars_none hV
 simp only [List.append_nil] at hW'
 have hlt : ∀ x ∈ p0 ++ p1 ++ p2, x.block < W.heap.size := fun x hx => hW'.lt x (by simpa using hx)
 obtain ⟨ka, na, qa, sa, rfl, hsa⟩ := open_val (hval 0 23 v0 rfl rfl) h0
 obtain ⟨kb, nb, qb, sb, rfl, hsb⟩ := open_val (hval 1 23 v1 rfl rfl) h1
 obtain ⟨k, p', q, n, vy, pic, rfl, hp⟩ := open_ty (hval 2 25 v2 rfl rfl) h2
 refine (two_va ka na qa sa kb nb qb sb k p' q n vy pic W hsa hsb hp).mono fun e W' ⟨he, hb⟩ => ?_
 subst he
 have T0 := Below.trod laidOut (by kernel_rfl) (of_decide_eq_true (by kernel_rfl)) h0 hb (fun x hx => hlt x (by simp [hx]))
 have T1 := Below.trod laidOut (by kernel_rfl) (of_decide_eq_true (by kernel_rfl)) h1 hb (fun x hx => hlt x (by simp [hx]))
 have T2 := Below.trod laidOut (by kernel_rfl) (of_decide_eq_true (by kernel_rfl)) h2 hb (fun x hx => hlt x (by simp [hx]))
 have hargs : DataW.TrodAll enc Tryz.prog W' 0 (fun b => decide (b < W.heap.size)) true [23, 23, 25] [vaV ka na qa sa, vaV kb nb qb sb, tyV k p' q n vy pic] [d0, d1, d2] (p0 ++ p1 ++ p2) := by
   rw [List.append_assoc]
   exact trodAll_mk3 T0 T1 T2
 exact ⟨_, rfl, _, _, _, [], p0 ++ p1 ++ p2, [], hW', trodAll_mk1 (shut_bool (by kernel_rfl) _), hargs, rfl, hb.frame _, fun h => by cases h⟩
theorem and_t {a b : Bool} (ha : a = true) (hb : b = true) : (a && b) = true := by rw [ha, hb]; rfl
set_option maxHeartbeats 8000000 in
theorem twoLaw_facts : joinedFacts Tryz.prog 3 Tryz.f3 Rows.digitTwoSpec Rows.digitTwoRow = true := by
 unfold joinedFacts
 repeat' (with_reducible refine and_t ?_ ?_)
 all_goals (as_aux_lemma => kernel_rfl)
set_option maxHeartbeats 8000000 in
theorem twoLaw_holds : Rows.DigitTwoSaid :=
 OpenClaim.holds_of_wide 3 Tryz.f3 rfl rfl rfl rfl rfl rfl rfl ⟨rfl, rfl, rfl, rfl, rfl⟩ rfl rfl rfl rfl rfl (by as_aux_lemma => kernel_rfl) Tryz.func3 twoLaw_facts
   (of_decide_eq_true (by as_aux_lemma => kernel_rfl)) (by as_aux_lemma => (unfold Func.isWrapper; first | (rw [if_pos (by decide +kernel)]; kernel_rfl) | (rw [if_neg (by decide +kernel)]; exact ⟨rfl, rfl⟩)))
   (fun os started H enc _ => twoLaw_lifted os started H enc)
set_option maxHeartbeats 8000000 in
theorem twoLaw_card : Rows.DigitTwoCardSaid :=
 Claim7.holds_tied_plain_at .later [] [.data, .data, .data, .data, .pinned] true Rows.digitTwoCard.stood.harness true twoLaw_holds (fun _ h => by cases h) (by as_aux_lemma => kernel_rfl) (fun _ h => by cases h) digitTwo_row_tie rfl ⟨rfl, rfl⟩ (by as_aux_lemma => kernel_rfl) rfl
   (fun f fn hf hfn => by
     obtain rfl : f = 3 := Option.some.inj ((show Tryz.prog.funcNamed "ironbark/ironbarklaw01.DigitTwo" = some 3 by as_aux_lemma => kernel_rfl).symm.trans hf) |>.symm
     obtain rfl : fn = Tryz.f3 := (Option.some.inj (Tryz.func3.symm.trans hfn)).symm
     exact ⟨by as_aux_lemma => kernel_rfl, fun j t ht => by
       rw [Tryz.params3] at ht
       have hm : t ∈ [23, 23, 25] := by simpa using Array.mem_of_getElem? ht
       have hall : ([23, 23, 25].all fun u => !Tryz.prog.wantsStandIn u) = true := by as_aux_lemma => kernel_rfl
       exact (show Tryz.prog.wantsStandIn t = false by simpa using List.all_eq_true.1 hall t hm)⟩)
   (by as_aux_lemma => kernel_rfl)
end Go.Proofs.YtpdoddhieblooaaGreatDoor
