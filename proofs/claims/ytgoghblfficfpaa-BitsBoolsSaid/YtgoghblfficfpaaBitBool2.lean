/- Package bits: Bool. -/
import Derived.Test.YtgoghblfficfpaaBitOps2
import Derived.Test.YtgoghblfficfpaaBitBool1
import Derived.Test.YtgoghblfficfpaaBitRBool
namespace Go.Proofs.Ytgoghblfficfpaa
open Go.RowKit

set_option maxRecDepth 100000 in
set_option maxHeartbeats 4000000 in
theorem cBool_any (a b : Vl) (t : ByteArray) (bs bt bu : Nat) (w : World) (hS : Row w bs (vlC a.k a.n a.q a.s) 23) (hT : Row w bt (vlC b.k b.n b.q b.s) 23) (hU : Row w bu #[.string t] 9) (hs : a.s.size ≤ maxLen) (hs' : b.s.size ≤ maxLen) (ht : t.size ≤ maxLen) :
    Calls Try.prog 102 #[ptr bs, ptr bt, ptr bu] w fun e w' => e = outE (boolE a b t.data.toList) (vlV 5 0 0 (bsz (boolL a.s.data.toList b.s.data.toList t.data.toList))) ∧ Below w.heap.size w w' := by
  obtain ⟨x0, x1, x2, x3⟩ := hS.four
  obtain ⟨y0, y1, y2, y3⟩ := hT.four
  have u0 := hU.one
  have ls := hS.lt
  have lt := hT.lt
  have lu := hU.lt
  have RZ := Row.new w (vlC 0 0 0 ⟨#[]⟩) 23
  have RS := hS.alloc (.cells (vlC 0 0 0 ⟨#[]⟩) 23)
  have RT := hT.alloc (.cells (vlC 0 0 0 ⟨#[]⟩) 23)
  have RU := hU.alloc (.cells (vlC 0 0 0 ⟨#[]⟩) 23)
  have H1 := Lib.hid hs
  have H2 := Lib.hid hs'
  clear hs hs'
  have n1 : ¬ bs = w.heap.size := by omega
  have n2 : ¬ w.heap.size = bs := by omega
  have n3 : ¬ bt = w.heap.size := by omega
  have n4 : ¬ w.heap.size = bt := by omega
  have n5 : ¬ bu = w.heap.size := by omega
  have n6 : ¬ w.heap.size = bu := by omega
  have HT := Lib.hid ht
  clear ht
  by_cases h0 : kindE2 5 a b = 0
  · obtain ⟨oa, ob, ka, kb⟩ := kindE2_ok h0
    have la := vl_room2 a oa
    have lb := vl_room2 b ob
    have la' : a.s.size ≤ 1000 := by omega
    have lb' : b.s.size ≤ 1000 := by omega
    have KA := Lib.hid ka
    have KB := Lib.hid kb
    have OA : Hid (∀ c ∈ a.s.data.toList, okC 5 c = true) := Lib.hid (by have := okT_all (okV_eq oa).2.2; rwa [ka] at this)
    have OB : Hid (∀ c ∈ b.s.data.toList, okC 5 c = true) := Lib.hid (by have := okT_all (okV_eq ob).2.2; rwa [kb] at this)
    have HE := Lib.hid h0
    cases h1 : okTab t.data.toList with
    | true =>
      have e : boolE a b t.data.toList = 0 := by rw [boolE, if_pos h0, h1]; rfl
      have h4 := okTab_len h1
      have H3 := Lib.hid h1
      have H4 := Lib.hid h4
      rw [e]
      clear e h1 h4 h0 oa ob ka kb
      show Calls _ _ _ _ fun e w' => e = .returned (vlV 5 0 0 (bsz (boolL a.s.data.toList b.s.data.toList t.data.toList))) ∧ Below w.heap.size w w'
      go_enter Try.func102, Try.ntmps102
      go_wp2_with (first
        | (go_at_call 103; refine (demKind2_any a b (w.heap.size + 1) 2 _ H1.out H2.out (VlsAt.two (Row.new2 _ _ _ _)) (by simp)).mono ?_; rw [HE.out, outE_ok]; rintro e w1 ⟨rfl, hb1⟩; have B1 := Lib.hid (bl_box2 (Below.refl _ w) hb1); have S1 := (RS.alloc _).keep hb1; have T1 := (RT.alloc _).keep hb1; have U1 := (RU.alloc _).keep hb1; have Z1 := (RZ.alloc _).keep hb1; obtain ⟨x0, x1, x2, x3⟩ := S1.four; obtain ⟨y0, y1, y2, y3⟩ := T1.four; have u0 := U1.one; have ls := S1.lt; have lt := T1.lt; have lu := U1.lt; clear hb1)
        | (go_at_call 104; refine (table_yes t _ H3.out).mono ?_; rintro e w2 ⟨rfl, hb2⟩; have B2 := Lib.hid (bl_then B1.out hb2); have S2 := S1.keep hb2; have T2 := T1.keep hb2; have U2 := U1.keep hb2; have Z2 := Z1.keep hb2; obtain ⟨x0, x1, x2, x3⟩ := S2.four; obtain ⟨y0, y1, y2, y3⟩ := T2.four; have u0 := U2.one; have ls := S2.lt; have lt := T2.lt; have lu := U2.lt; clear hb2))
      go_region_held3 (fun w' => (w'.cell? ⟨bs, 0, none⟩ = some (.int .i64 a.k) ∧ w'.cell? ⟨bs, 1, none⟩ = some (.int .i64 a.n) ∧ w'.cell? ⟨bs, 2, none⟩ = some (.int .i64 a.q) ∧ w'.cell? ⟨bs, 3, none⟩ = some (.string a.s)) ∧ (w'.cell? ⟨bt, 0, none⟩ = some (.int .i64 b.k) ∧ w'.cell? ⟨bt, 1, none⟩ = some (.int .i64 b.n) ∧ w'.cell? ⟨bt, 2, none⟩ = some (.int .i64 b.q) ∧ w'.cell? ⟨bt, 3, none⟩ = some (.string b.s)) ∧ w'.cell? ⟨bu, 0, none⟩ = some (.string t))
        (first | go_keep | exact ⟨S3.four, T3.four, U3.one⟩ | exact ⟨S2.four, T2.four, U2.one⟩)
        (first
          | (go_at_call 106; refine (byTable_any t _ H4.out).mono ?_; rintro e w3 ⟨cap, rfl, HD, hb3⟩; have S2 := S2.keep (bl_drew hb3); have T2 := T2.keep (bl_drew hb3); have U2 := U2.keep (bl_drew hb3); have Z2 := Z2.keep (bl_drew hb3))
          | (go_at_call 105; refine (combined_any a b t.data.toList _ _ _ la' lb' KA.out KB.out OA.out OB.out HD).mono ?_; rintro e w4 ⟨rfl, hb4⟩; have S3 := S2.keep hb4; have T3 := T2.keep hb4; have U3 := U2.keep hb4; have Z4 := Z2.keep hb4; obtain ⟨z0, z1, z2, z3⟩ := Z4.four; have f0 := Z4.free 0; have f1 := Z4.free 1; have f2 := Z4.free 2; have f3 := Z4.free 3))
      go_wp2
      refine bodyPost_ret (v := vlV 5 0 0 (bsz (boolL a.s.data.toList b.s.data.toList t.data.toList))) (by simp [results, Try.results102, go_sem, z0, z1, z2, z3]) rfl ⟨rfl, ?_⟩
      (repeat refine Below.setCell ?_ (by simp <;> omega) _)
      exact bl_then B2.out (bl_then (bl_drew hb3) hb4)
    | false =>
      have e : boolE a b t.data.toList = 7 := by rw [boolE, if_pos h0, h1]; rfl
      have H3 := Lib.hid h1
      rw [e]
      clear e h1 h0 oa ob ka kb
      show Calls _ _ _ _ fun e w' => e = bRef 7 ∧ Below w.heap.size w w'
      go_enter Try.func102, Try.ntmps102
      go_wp2_with (first
        | (go_at_call 103; refine (demKind2_any a b (w.heap.size + 1) 2 _ H1.out H2.out (VlsAt.two (Row.new2 _ _ _ _)) (by simp)).mono ?_; rw [HE.out, outE_ok]; rintro e w1 ⟨rfl, hb1⟩; have B1 := Lib.hid (bl_box2 (Below.refl _ w) hb1); have S1 := (RS.alloc _).keep hb1; have T1 := (RT.alloc _).keep hb1; have U1 := (RU.alloc _).keep hb1; have Z1 := (RZ.alloc _).keep hb1; obtain ⟨x0, x1, x2, x3⟩ := S1.four; obtain ⟨y0, y1, y2, y3⟩ := T1.four; have u0 := U1.one; have ls := S1.lt; have lt := T1.lt; have lu := U1.lt; clear hb1)
        | (go_at_call 104; refine (table_no t _ HT.out H3.out).mono ?_; rintro e w2 ⟨rfl, hb2⟩; have B2 := Lib.hid (bl_then B1.out hb2)))
      exact ⟨rfl, rfl, B2.out⟩
  · have HE := Lib.hid (outE_no (.tuple #[]) h0)
    rw [show boolE a b t.data.toList = kindE2 5 a b from if_neg h0, outE_no _ h0]
    clear h0
    go_enter Try.func102, Try.ntmps102
    go_wp2_with (go_at_call 103; refine (demKind2_any a b (w.heap.size + 1) 2 _ H1.out H2.out (VlsAt.two (Row.new2 _ _ _ _)) (by simp)).mono ?_; rw [HE.out]; rintro e w1 ⟨rfl, hb1⟩; have B1 := Lib.hid (bl_box2 (Below.refl _ w) hb1))
    exact ⟨rfl, rfl, B1.out⟩

set_option maxRecDepth 100000 in
set_option maxHeartbeats 2000000 in
theorem bBool_any (a b : Vl) (t : ByteArray) (w : World) (hs : a.s.size ≤ maxLen) (hs' : b.s.size ≤ maxLen) (ht : t.size ≤ maxLen) :
    Calls Try.prog 38 #[a.v, b.v, .string t] w fun e w' => e = .returned (.tuple #[orV (boolE a b t.data.toList) 5 (boolL a.s.data.toList b.s.data.toList t.data.toList), .int .i64 (boolE a b t.data.toList)]) ∧ Below w.heap.size w w' := by
  have hmf : ∀ (fn : Fn) (first cap : Array Value) (w : World), (Instr.makeFunc fn first cap).run Try.prog w = .ok (.func fn first cap) w := fun _ _ _ _ => rfl
  have H1 := Lib.hid hs
  have H2 := Lib.hid hs'
  have HT := Lib.hid ht
  clear ht
  clear hs hs'
  have HC : Hid (∀ W, Below ((((w.alloc (.cells (vlC a.k a.n a.q a.s) 23)).alloc (.cells (vlC b.k b.n b.q b.s) 23)).alloc (.cells #[.string t] 9)).alloc (.cells (vlC 0 0 0 ⟨#[]⟩) 23)).heap.size ((((w.alloc (.cells (vlC a.k a.n a.q a.s) 23)).alloc (.cells (vlC b.k b.n b.q b.s) 23)).alloc (.cells #[.string t] 9)).alloc (.cells (vlC 0 0 0 ⟨#[]⟩) 23)) W → Calls Try.prog 102 #[ptr w.heap.size, ptr (w.heap.size + 1), ptr (w.heap.size + 1 + 1)] W fun e w' => e = outE (boolE a b t.data.toList) (vlV 5 0 0 (bsz (boolL a.s.data.toList b.s.data.toList t.data.toList))) ∧ Below W.heap.size W w') := by
    show ∀ _, _
    intro W hW
    exact cBool_any a b t _ _ _ W (((((Row.new _ _ _).alloc _).alloc _).alloc _).keep hW) ((((Row.new2 _ _ _ _).alloc _).alloc _).keep hW) (((Row.new3 _ _ _ _ _).alloc _).keep hW) H1.out H2.out HT.out
  have RZ := row_new4 w (.cells (vlC a.k a.n a.q a.s) 23) (.cells (vlC b.k b.n b.q b.s) 23) (.cells #[.string t] 9) (vlC 0 0 0 ⟨#[]⟩) 23
  generalize boolE a b t.data.toList = E at HC ⊢
  generalize boolL a.s.data.toList b.s.data.toList t.data.toList = J at HC ⊢
  have HR : Hid ((if E = 0 then vlV 5 0 0 (bsz J) else vlV 0 0 0 ⟨#[]⟩) = vlV (if E = 0 then 5 else 0) 0 0 (if E = 0 then bsz J else ⟨#[]⟩)) := by
    show _ = _
    split <;> rfl
  unfold orV
  generalize (if E = 0 then (5 : Int) else 0) = K at HR ⊢
  generalize (if E = 0 then bsz J else ⟨#[]⟩) = L at HR ⊢
  go_enter Try.func38, Try.ntmps38
  go_wp2_with (go_at_call 85; refine (bAnsV_any 102 _ E 5 0 0 _ _ (fun W => by kernel_rfl) HC.out).mono ?_; rw [HR.out]; rintro e w1 ⟨rfl, hb1⟩; have Z1 := RZ.keep hb1; obtain ⟨z0, z1, z2, z3⟩ := Z1.four; have f0 := Z1.free 0; have f1 := Z1.free 1; have f2 := Z1.free 2; have f3 := Z1.free 3; have lz := Z1.lt)
  refine bodyPost_ret (v := .tuple #[vlV K 0 0 L, .int .i64 E]) (by simp [results, Try.results38, go_sem, z0, z1, z2, z3]) rfl ⟨rfl, ?_⟩
  (repeat refine Below.setCell ?_ (by simp <;> omega) _)
  exact below_then (by go_grown) hb1 (by simp <;> omega)
end Go.Proofs.Ytgoghblfficfpaa
