/- Package bits: And, Or, Xor. -/
import Derived.Test.YtgoghblfficfpaaBitBool2
namespace Go.Proofs.Ytgoghblfficfpaa
open Go.RowKit

set_option maxRecDepth 100000 in
set_option maxHeartbeats 4000000 in
theorem cNamed0 (a b : Vl) (bs bt bu : Nat) (w : World) (hS : Row w bs (vlC a.k a.n a.q a.s) 23) (hT : Row w bt (vlC b.k b.n b.q b.s) 23) (hU : Row w bu #[.int .i64 0] 3) (hs : a.s.size ≤ maxLen) (hs' : b.s.size ≤ maxLen) :
    Calls Try.prog 143 #[ptr bs, ptr bt, ptr bu] w fun e w' => e = outE (kindE2 5 a b) (vlV 5 0 0 (bsz (boolL a.s.data.toList b.s.data.toList tabAnd))) ∧ Below w.heap.size w w' := by
  have ix0 := ops_ix0
  have ix1 := ops_ix1
  have ix2 := ops_ix2
  obtain ⟨x0, x1, x2, x3⟩ := hS.four
  obtain ⟨y0, y1, y2, y3⟩ := hT.four
  have u0 := hU.one
  have ls := hS.lt
  have lt := hT.lt
  have lu := hU.lt
  have RZ := Row.new w (vlC 0 0 0 ⟨#[]⟩) 23
  have RS := hS.alloc (.cells (vlC 0 0 0 ⟨#[]⟩) 23)
  have RT := hT.alloc (.cells (vlC 0 0 0 ⟨#[]⟩) 23)
  have RU := hU.alloc (.cells (vlC 0 0 0 ⟨#[]⟩) 23)
  have H1 := Lib.hid hs
  have H2 := Lib.hid hs'
  clear hs hs'
  have n1 : ¬ bs = w.heap.size := by omega
  have n2 : ¬ w.heap.size = bs := by omega
  have n3 : ¬ bt = w.heap.size := by omega
  have n4 : ¬ w.heap.size = bt := by omega
  have n5 : ¬ bu = w.heap.size := by omega
  have n6 : ¬ w.heap.size = bu := by omega
  by_cases h0 : kindE2 5 a b = 0
  · obtain ⟨oa, ob, ka, kb⟩ := kindE2_ok h0
    have la := vl_room2 a oa
    have lb := vl_room2 b ob
    have la' : a.s.size ≤ 1000 := by omega
    have lb' : b.s.size ≤ 1000 := by omega
    have KA := Lib.hid ka
    have KB := Lib.hid kb
    have OA : Hid (∀ c ∈ a.s.data.toList, okC 5 c = true) := Lib.hid (by have := okT_all (okV_eq oa).2.2; rwa [ka] at this)
    have OB : Hid (∀ c ∈ b.s.data.toList, okC 5 c = true) := Lib.hid (by have := okT_all (okV_eq ob).2.2; rwa [kb] at this)
    have HE := Lib.hid h0
    rw [h0]
    clear h0 oa ob ka kb
    show Calls _ _ _ _ fun e w' => e = .returned (vlV 5 0 0 (bsz (boolL a.s.data.toList b.s.data.toList tabAnd))) ∧ Below w.heap.size w w'
    go_enter Try.func143, Try.ntmps143
    go_wp2_with (go_at_call 103; refine (demKind2_any a b (w.heap.size + 1) 2 _ H1.out H2.out (VlsAt.two (Row.new2 _ _ _ _)) (by simp)).mono ?_; rw [HE.out, outE_ok]; rintro e w1 ⟨rfl, hb1⟩; have B1 := Lib.hid (bl_box2 (Below.refl _ w) hb1); have S1 := (RS.alloc _).keep hb1; have T1 := (RT.alloc _).keep hb1; have U1 := (RU.alloc _).keep hb1; have Z1 := (RZ.alloc _).keep hb1; obtain ⟨x0, x1, x2, x3⟩ := S1.four; obtain ⟨y0, y1, y2, y3⟩ := T1.four; have u0 := U1.one; have ls := S1.lt; have lt := T1.lt; have lu := U1.lt; clear hb1)
    go_region_held3 (fun w' => (w'.cell? ⟨bs, 0, none⟩ = some (.int .i64 a.k) ∧ w'.cell? ⟨bs, 1, none⟩ = some (.int .i64 a.n) ∧ w'.cell? ⟨bs, 2, none⟩ = some (.int .i64 a.q) ∧ w'.cell? ⟨bs, 3, none⟩ = some (.string a.s)) ∧ (w'.cell? ⟨bt, 0, none⟩ = some (.int .i64 b.k) ∧ w'.cell? ⟨bt, 1, none⟩ = some (.int .i64 b.n) ∧ w'.cell? ⟨bt, 2, none⟩ = some (.int .i64 b.q) ∧ w'.cell? ⟨bt, 3, none⟩ = some (.string b.s)) ∧ w'.cell? ⟨bu, 0, none⟩ = some (.int .i64 0))
      (first | go_keep | exact ⟨S3.four, T3.four, U3.one⟩ | exact ⟨S2.four, T2.four, U2.one⟩)
      (first
        | (go_at_call 144; refine (operations_any _).mono ?_; rintro e w3 ⟨c0, c1, c2, rfl, D0, D1, D2, hb3⟩; have HD := D0; have S2 := S1.keep (bl_drew hb3); have T2 := T1.keep (bl_drew hb3); have U2 := U1.keep (bl_drew hb3); have Z2 := Z1.keep (bl_drew hb3))
        | (go_at_call 105; refine (combined_any a b tabAnd _ _ _ la' lb' KA.out KB.out OA.out OB.out HD).mono ?_; rintro e w4 ⟨rfl, hb4⟩; have S3 := S2.keep hb4; have T3 := T2.keep hb4; have U3 := U2.keep hb4; have Z4 := Z2.keep hb4; obtain ⟨z0, z1, z2, z3⟩ := Z4.four; have f0 := Z4.free 0; have f1 := Z4.free 1; have f2 := Z4.free 2; have f3 := Z4.free 3))
    go_wp2
    refine bodyPost_ret (v := vlV 5 0 0 (bsz (boolL a.s.data.toList b.s.data.toList tabAnd))) (by simp [results, Try.results143, go_sem, z0, z1, z2, z3]) rfl ⟨rfl, ?_⟩
    (repeat refine Below.setCell ?_ (by simp <;> omega) _)
    exact bl_then B1.out (bl_then (bl_drew hb3) hb4)
  · have HE := Lib.hid (outE_no (.tuple #[]) h0)
    rw [outE_no _ h0]
    clear h0
    go_enter Try.func143, Try.ntmps143
    go_wp2_with (go_at_call 103; refine (demKind2_any a b (w.heap.size + 1) 2 _ H1.out H2.out (VlsAt.two (Row.new2 _ _ _ _)) (by simp)).mono ?_; rw [HE.out]; rintro e w1 ⟨rfl, hb1⟩; have B1 := Lib.hid (bl_box2 (Below.refl _ w) hb1))
    exact ⟨rfl, rfl, B1.out⟩

set_option maxRecDepth 100000 in
set_option maxHeartbeats 2000000 in
theorem bNamed0 (a b : Vl) (w : World) (hs : a.s.size ≤ maxLen) (hs' : b.s.size ≤ maxLen) :
    Calls Try.prog 109 #[.int .i64 0, a.v, b.v] w fun e w' => e = .returned (.tuple #[orV (kindE2 5 a b) 5 (boolL a.s.data.toList b.s.data.toList tabAnd), .int .i64 (kindE2 5 a b)]) ∧ Below w.heap.size w w' := by
  have hmf : ∀ (fn : Fn) (first cap : Array Value) (w : World), (Instr.makeFunc fn first cap).run Try.prog w = .ok (.func fn first cap) w := fun _ _ _ _ => rfl
  have H1 := Lib.hid hs
  have H2 := Lib.hid hs'
  clear hs hs'
  have HC : Hid (∀ W, Below ((((w.alloc (.cells #[.int .i64 0] 3)).alloc (.cells (vlC a.k a.n a.q a.s) 23)).alloc (.cells (vlC b.k b.n b.q b.s) 23)).alloc (.cells (vlC 0 0 0 ⟨#[]⟩) 23)).heap.size ((((w.alloc (.cells #[.int .i64 0] 3)).alloc (.cells (vlC a.k a.n a.q a.s) 23)).alloc (.cells (vlC b.k b.n b.q b.s) 23)).alloc (.cells (vlC 0 0 0 ⟨#[]⟩) 23)) W → Calls Try.prog 143 #[ptr (w.heap.size + 1), ptr (w.heap.size + 1 + 1), ptr w.heap.size] W fun e w' => e = outE (kindE2 5 a b) (vlV 5 0 0 (bsz (boolL a.s.data.toList b.s.data.toList tabAnd))) ∧ Below W.heap.size W w') := by
    show ∀ _, _
    intro W hW
    exact cNamed0 a b _ _ _ W ((((Row.new2 _ _ _ _).alloc _).alloc _).keep hW) (((Row.new3 _ _ _ _ _).alloc _).keep hW) (((((Row.new _ _ _).alloc _).alloc _).alloc _).keep hW) H1.out H2.out
  have RZ := row_new4 w (.cells #[.int .i64 0] 3) (.cells (vlC a.k a.n a.q a.s) 23) (.cells (vlC b.k b.n b.q b.s) 23) (vlC 0 0 0 ⟨#[]⟩) 23
  generalize kindE2 5 a b = E at HC ⊢
  generalize boolL a.s.data.toList b.s.data.toList tabAnd = J at HC ⊢
  have HR : Hid ((if E = 0 then vlV 5 0 0 (bsz J) else vlV 0 0 0 ⟨#[]⟩) = vlV (if E = 0 then 5 else 0) 0 0 (if E = 0 then bsz J else ⟨#[]⟩)) := by
    show _ = _
    split <;> rfl
  unfold orV
  generalize (if E = 0 then (5 : Int) else 0) = K at HR ⊢
  generalize (if E = 0 then bsz J else ⟨#[]⟩) = L at HR ⊢
  go_enter Try.func109, Try.ntmps109
  go_wp2_with (go_at_call 85; refine (bAnsV_any 143 _ E 5 0 0 _ _ (fun W => by kernel_rfl) HC.out).mono ?_; rw [HR.out]; rintro e w1 ⟨rfl, hb1⟩; have Z1 := RZ.keep hb1; obtain ⟨z0, z1, z2, z3⟩ := Z1.four; have f0 := Z1.free 0; have f1 := Z1.free 1; have f2 := Z1.free 2; have f3 := Z1.free 3; have lz := Z1.lt)
  refine bodyPost_ret (v := .tuple #[vlV K 0 0 L, .int .i64 E]) (by simp [results, Try.results109, go_sem, z0, z1, z2, z3]) rfl ⟨rfl, ?_⟩
  (repeat refine Below.setCell ?_ (by simp <;> omega) _)
  exact below_then (by go_grown) hb1 (by simp <;> omega)

set_option maxRecDepth 100000 in
set_option maxHeartbeats 1000000 in
theorem bAnd_any (a b : Vl) (w : World) (hs : a.s.size ≤ maxLen) (hs' : b.s.size ≤ maxLen) :
    Calls Try.prog 50 #[a.v, b.v] w fun e w' => e = .returned (.tuple #[orV (kindE2 5 a b) 5 (boolL a.s.data.toList b.s.data.toList tabAnd), .int .i64 (kindE2 5 a b)]) ∧ Below w.heap.size w w' := by
  have HC : Hid (∀ W, Calls Try.prog 109 #[.int .i64 0, a.v, b.v] W fun e w' => e = .returned (.tuple #[orV (kindE2 5 a b) 5 (boolL a.s.data.toList b.s.data.toList tabAnd), .int .i64 (kindE2 5 a b)]) ∧ Below W.heap.size W w') := Lib.hid fun W => bNamed0 a b W hs hs'
  have RZ := Row.new3 w (.cells (vlC a.k a.n a.q a.s) 23) (.cells (vlC b.k b.n b.q b.s) 23) (vlC 0 0 0 ⟨#[]⟩) 23
  unfold orV at HC ⊢
  generalize kindE2 5 a b = E at HC ⊢
  generalize (if E = 0 then (5 : Int) else 0) = K at HC ⊢
  generalize (if E = 0 then bsz (boolL a.s.data.toList b.s.data.toList tabAnd) else ⟨#[]⟩) = L at HC ⊢
  clear hs hs'
  go_enter Try.func50, Try.ntmps50
  go_wp2_with (go_at_call 109; refine (HC.out _).mono ?_; rintro e w1 ⟨rfl, hb1⟩; have Z1 := RZ.keep hb1; obtain ⟨z0, z1, z2, z3⟩ := Z1.four; have f0 := Z1.free 0; have f1 := Z1.free 1; have f2 := Z1.free 2; have f3 := Z1.free 3; have lz := Z1.lt)
  refine bodyPost_ret (v := .tuple #[vlV K 0 0 L, .int .i64 E]) (by simp [results, Try.results50, go_sem, z0, z1, z2, z3]) rfl ⟨rfl, ?_⟩
  (repeat refine Below.setCell ?_ (by simp <;> omega) _)
  exact below_then (by go_grown) hb1 (by simp <;> omega)

set_option maxRecDepth 100000 in
set_option maxHeartbeats 4000000 in
theorem cNamed1 (a b : Vl) (bs bt bu : Nat) (w : World) (hS : Row w bs (vlC a.k a.n a.q a.s) 23) (hT : Row w bt (vlC b.k b.n b.q b.s) 23) (hU : Row w bu #[.int .i64 1] 3) (hs : a.s.size ≤ maxLen) (hs' : b.s.size ≤ maxLen) :
    Calls Try.prog 143 #[ptr bs, ptr bt, ptr bu] w fun e w' => e = outE (kindE2 5 a b) (vlV 5 0 0 (bsz (boolL a.s.data.toList b.s.data.toList tabOr))) ∧ Below w.heap.size w w' := by
  have ix0 := ops_ix0
  have ix1 := ops_ix1
  have ix2 := ops_ix2
  obtain ⟨x0, x1, x2, x3⟩ := hS.four
  obtain ⟨y0, y1, y2, y3⟩ := hT.four
  have u0 := hU.one
  have ls := hS.lt
  have lt := hT.lt
  have lu := hU.lt
  have RZ := Row.new w (vlC 0 0 0 ⟨#[]⟩) 23
  have RS := hS.alloc (.cells (vlC 0 0 0 ⟨#[]⟩) 23)
  have RT := hT.alloc (.cells (vlC 0 0 0 ⟨#[]⟩) 23)
  have RU := hU.alloc (.cells (vlC 0 0 0 ⟨#[]⟩) 23)
  have H1 := Lib.hid hs
  have H2 := Lib.hid hs'
  clear hs hs'
  have n1 : ¬ bs = w.heap.size := by omega
  have n2 : ¬ w.heap.size = bs := by omega
  have n3 : ¬ bt = w.heap.size := by omega
  have n4 : ¬ w.heap.size = bt := by omega
  have n5 : ¬ bu = w.heap.size := by omega
  have n6 : ¬ w.heap.size = bu := by omega
  by_cases h0 : kindE2 5 a b = 0
  · obtain ⟨oa, ob, ka, kb⟩ := kindE2_ok h0
    have la := vl_room2 a oa
    have lb := vl_room2 b ob
    have la' : a.s.size ≤ 1000 := by omega
    have lb' : b.s.size ≤ 1000 := by omega
    have KA := Lib.hid ka
    have KB := Lib.hid kb
    have OA : Hid (∀ c ∈ a.s.data.toList, okC 5 c = true) := Lib.hid (by have := okT_all (okV_eq oa).2.2; rwa [ka] at this)
    have OB : Hid (∀ c ∈ b.s.data.toList, okC 5 c = true) := Lib.hid (by have := okT_all (okV_eq ob).2.2; rwa [kb] at this)
    have HE := Lib.hid h0
    rw [h0]
    clear h0 oa ob ka kb
    show Calls _ _ _ _ fun e w' => e = .returned (vlV 5 0 0 (bsz (boolL a.s.data.toList b.s.data.toList tabOr))) ∧ Below w.heap.size w w'
    go_enter Try.func143, Try.ntmps143
    go_wp2_with (go_at_call 103; refine (demKind2_any a b (w.heap.size + 1) 2 _ H1.out H2.out (VlsAt.two (Row.new2 _ _ _ _)) (by simp)).mono ?_; rw [HE.out, outE_ok]; rintro e w1 ⟨rfl, hb1⟩; have B1 := Lib.hid (bl_box2 (Below.refl _ w) hb1); have S1 := (RS.alloc _).keep hb1; have T1 := (RT.alloc _).keep hb1; have U1 := (RU.alloc _).keep hb1; have Z1 := (RZ.alloc _).keep hb1; obtain ⟨x0, x1, x2, x3⟩ := S1.four; obtain ⟨y0, y1, y2, y3⟩ := T1.four; have u0 := U1.one; have ls := S1.lt; have lt := T1.lt; have lu := U1.lt; clear hb1)
    go_region_held3 (fun w' => (w'.cell? ⟨bs, 0, none⟩ = some (.int .i64 a.k) ∧ w'.cell? ⟨bs, 1, none⟩ = some (.int .i64 a.n) ∧ w'.cell? ⟨bs, 2, none⟩ = some (.int .i64 a.q) ∧ w'.cell? ⟨bs, 3, none⟩ = some (.string a.s)) ∧ (w'.cell? ⟨bt, 0, none⟩ = some (.int .i64 b.k) ∧ w'.cell? ⟨bt, 1, none⟩ = some (.int .i64 b.n) ∧ w'.cell? ⟨bt, 2, none⟩ = some (.int .i64 b.q) ∧ w'.cell? ⟨bt, 3, none⟩ = some (.string b.s)) ∧ w'.cell? ⟨bu, 0, none⟩ = some (.int .i64 1))
      (first | go_keep | exact ⟨S3.four, T3.four, U3.one⟩ | exact ⟨S2.four, T2.four, U2.one⟩)
      (first
        | (go_at_call 144; refine (operations_any _).mono ?_; rintro e w3 ⟨c0, c1, c2, rfl, D0, D1, D2, hb3⟩; have HD := D1; have S2 := S1.keep (bl_drew hb3); have T2 := T1.keep (bl_drew hb3); have U2 := U1.keep (bl_drew hb3); have Z2 := Z1.keep (bl_drew hb3))
        | (go_at_call 105; refine (combined_any a b tabOr _ _ _ la' lb' KA.out KB.out OA.out OB.out HD).mono ?_; rintro e w4 ⟨rfl, hb4⟩; have S3 := S2.keep hb4; have T3 := T2.keep hb4; have U3 := U2.keep hb4; have Z4 := Z2.keep hb4; obtain ⟨z0, z1, z2, z3⟩ := Z4.four; have f0 := Z4.free 0; have f1 := Z4.free 1; have f2 := Z4.free 2; have f3 := Z4.free 3))
    go_wp2
    refine bodyPost_ret (v := vlV 5 0 0 (bsz (boolL a.s.data.toList b.s.data.toList tabOr))) (by simp [results, Try.results143, go_sem, z0, z1, z2, z3]) rfl ⟨rfl, ?_⟩
    (repeat refine Below.setCell ?_ (by simp <;> omega) _)
    exact bl_then B1.out (bl_then (bl_drew hb3) hb4)
  · have HE := Lib.hid (outE_no (.tuple #[]) h0)
    rw [outE_no _ h0]
    clear h0
    go_enter Try.func143, Try.ntmps143
    go_wp2_with (go_at_call 103; refine (demKind2_any a b (w.heap.size + 1) 2 _ H1.out H2.out (VlsAt.two (Row.new2 _ _ _ _)) (by simp)).mono ?_; rw [HE.out]; rintro e w1 ⟨rfl, hb1⟩; have B1 := Lib.hid (bl_box2 (Below.refl _ w) hb1))
    exact ⟨rfl, rfl, B1.out⟩

set_option maxRecDepth 100000 in
set_option maxHeartbeats 2000000 in
theorem bNamed1 (a b : Vl) (w : World) (hs : a.s.size ≤ maxLen) (hs' : b.s.size ≤ maxLen) :
    Calls Try.prog 109 #[.int .i64 1, a.v, b.v] w fun e w' => e = .returned (.tuple #[orV (kindE2 5 a b) 5 (boolL a.s.data.toList b.s.data.toList tabOr), .int .i64 (kindE2 5 a b)]) ∧ Below w.heap.size w w' := by
  have hmf : ∀ (fn : Fn) (first cap : Array Value) (w : World), (Instr.makeFunc fn first cap).run Try.prog w = .ok (.func fn first cap) w := fun _ _ _ _ => rfl
  have H1 := Lib.hid hs
  have H2 := Lib.hid hs'
  clear hs hs'
  have HC : Hid (∀ W, Below ((((w.alloc (.cells #[.int .i64 1] 3)).alloc (.cells (vlC a.k a.n a.q a.s) 23)).alloc (.cells (vlC b.k b.n b.q b.s) 23)).alloc (.cells (vlC 0 0 0 ⟨#[]⟩) 23)).heap.size ((((w.alloc (.cells #[.int .i64 1] 3)).alloc (.cells (vlC a.k a.n a.q a.s) 23)).alloc (.cells (vlC b.k b.n b.q b.s) 23)).alloc (.cells (vlC 0 0 0 ⟨#[]⟩) 23)) W → Calls Try.prog 143 #[ptr (w.heap.size + 1), ptr (w.heap.size + 1 + 1), ptr w.heap.size] W fun e w' => e = outE (kindE2 5 a b) (vlV 5 0 0 (bsz (boolL a.s.data.toList b.s.data.toList tabOr))) ∧ Below W.heap.size W w') := by
    show ∀ _, _
    intro W hW
    exact cNamed1 a b _ _ _ W ((((Row.new2 _ _ _ _).alloc _).alloc _).keep hW) (((Row.new3 _ _ _ _ _).alloc _).keep hW) (((((Row.new _ _ _).alloc _).alloc _).alloc _).keep hW) H1.out H2.out
  have RZ := row_new4 w (.cells #[.int .i64 1] 3) (.cells (vlC a.k a.n a.q a.s) 23) (.cells (vlC b.k b.n b.q b.s) 23) (vlC 0 0 0 ⟨#[]⟩) 23
  generalize kindE2 5 a b = E at HC ⊢
  generalize boolL a.s.data.toList b.s.data.toList tabOr = J at HC ⊢
  have HR : Hid ((if E = 0 then vlV 5 0 0 (bsz J) else vlV 0 0 0 ⟨#[]⟩) = vlV (if E = 0 then 5 else 0) 0 0 (if E = 0 then bsz J else ⟨#[]⟩)) := by
    show _ = _
    split <;> rfl
  unfold orV
  generalize (if E = 0 then (5 : Int) else 0) = K at HR ⊢
  generalize (if E = 0 then bsz J else ⟨#[]⟩) = L at HR ⊢
  go_enter Try.func109, Try.ntmps109
  go_wp2_with (go_at_call 85; refine (bAnsV_any 143 _ E 5 0 0 _ _ (fun W => by kernel_rfl) HC.out).mono ?_; rw [HR.out]; rintro e w1 ⟨rfl, hb1⟩; have Z1 := RZ.keep hb1; obtain ⟨z0, z1, z2, z3⟩ := Z1.four; have f0 := Z1.free 0; have f1 := Z1.free 1; have f2 := Z1.free 2; have f3 := Z1.free 3; have lz := Z1.lt)
  refine bodyPost_ret (v := .tuple #[vlV K 0 0 L, .int .i64 E]) (by simp [results, Try.results109, go_sem, z0, z1, z2, z3]) rfl ⟨rfl, ?_⟩
  (repeat refine Below.setCell ?_ (by simp <;> omega) _)
  exact below_then (by go_grown) hb1 (by simp <;> omega)

set_option maxRecDepth 100000 in
set_option maxHeartbeats 1000000 in
theorem bOr_any (a b : Vl) (w : World) (hs : a.s.size ≤ maxLen) (hs' : b.s.size ≤ maxLen) :
    Calls Try.prog 40 #[a.v, b.v] w fun e w' => e = .returned (.tuple #[orV (kindE2 5 a b) 5 (boolL a.s.data.toList b.s.data.toList tabOr), .int .i64 (kindE2 5 a b)]) ∧ Below w.heap.size w w' := by
  have HC : Hid (∀ W, Calls Try.prog 109 #[.int .i64 1, a.v, b.v] W fun e w' => e = .returned (.tuple #[orV (kindE2 5 a b) 5 (boolL a.s.data.toList b.s.data.toList tabOr), .int .i64 (kindE2 5 a b)]) ∧ Below W.heap.size W w') := Lib.hid fun W => bNamed1 a b W hs hs'
  have RZ := Row.new3 w (.cells (vlC a.k a.n a.q a.s) 23) (.cells (vlC b.k b.n b.q b.s) 23) (vlC 0 0 0 ⟨#[]⟩) 23
  unfold orV at HC ⊢
  generalize kindE2 5 a b = E at HC ⊢
  generalize (if E = 0 then (5 : Int) else 0) = K at HC ⊢
  generalize (if E = 0 then bsz (boolL a.s.data.toList b.s.data.toList tabOr) else ⟨#[]⟩) = L at HC ⊢
  clear hs hs'
  go_enter Try.func40, Try.ntmps40
  go_wp2_with (go_at_call 109; refine (HC.out _).mono ?_; rintro e w1 ⟨rfl, hb1⟩; have Z1 := RZ.keep hb1; obtain ⟨z0, z1, z2, z3⟩ := Z1.four; have f0 := Z1.free 0; have f1 := Z1.free 1; have f2 := Z1.free 2; have f3 := Z1.free 3; have lz := Z1.lt)
  refine bodyPost_ret (v := .tuple #[vlV K 0 0 L, .int .i64 E]) (by simp [results, Try.results40, go_sem, z0, z1, z2, z3]) rfl ⟨rfl, ?_⟩
  (repeat refine Below.setCell ?_ (by simp <;> omega) _)
  exact below_then (by go_grown) hb1 (by simp <;> omega)

set_option maxRecDepth 100000 in
set_option maxHeartbeats 4000000 in
theorem cNamed2 (a b : Vl) (bs bt bu : Nat) (w : World) (hS : Row w bs (vlC a.k a.n a.q a.s) 23) (hT : Row w bt (vlC b.k b.n b.q b.s) 23) (hU : Row w bu #[.int .i64 2] 3) (hs : a.s.size ≤ maxLen) (hs' : b.s.size ≤ maxLen) :
    Calls Try.prog 143 #[ptr bs, ptr bt, ptr bu] w fun e w' => e = outE (kindE2 5 a b) (vlV 5 0 0 (bsz (boolL a.s.data.toList b.s.data.toList tabXor))) ∧ Below w.heap.size w w' := by
  have ix0 := ops_ix0
  have ix1 := ops_ix1
  have ix2 := ops_ix2
  obtain ⟨x0, x1, x2, x3⟩ := hS.four
  obtain ⟨y0, y1, y2, y3⟩ := hT.four
  have u0 := hU.one
  have ls := hS.lt
  have lt := hT.lt
  have lu := hU.lt
  have RZ := Row.new w (vlC 0 0 0 ⟨#[]⟩) 23
  have RS := hS.alloc (.cells (vlC 0 0 0 ⟨#[]⟩) 23)
  have RT := hT.alloc (.cells (vlC 0 0 0 ⟨#[]⟩) 23)
  have RU := hU.alloc (.cells (vlC 0 0 0 ⟨#[]⟩) 23)
  have H1 := Lib.hid hs
  have H2 := Lib.hid hs'
  clear hs hs'
  have n1 : ¬ bs = w.heap.size := by omega
  have n2 : ¬ w.heap.size = bs := by omega
  have n3 : ¬ bt = w.heap.size := by omega
  have n4 : ¬ w.heap.size = bt := by omega
  have n5 : ¬ bu = w.heap.size := by omega
  have n6 : ¬ w.heap.size = bu := by omega
  by_cases h0 : kindE2 5 a b = 0
  · obtain ⟨oa, ob, ka, kb⟩ := kindE2_ok h0
    have la := vl_room2 a oa
    have lb := vl_room2 b ob
    have la' : a.s.size ≤ 1000 := by omega
    have lb' : b.s.size ≤ 1000 := by omega
    have KA := Lib.hid ka
    have KB := Lib.hid kb
    have OA : Hid (∀ c ∈ a.s.data.toList, okC 5 c = true) := Lib.hid (by have := okT_all (okV_eq oa).2.2; rwa [ka] at this)
    have OB : Hid (∀ c ∈ b.s.data.toList, okC 5 c = true) := Lib.hid (by have := okT_all (okV_eq ob).2.2; rwa [kb] at this)
    have HE := Lib.hid h0
    rw [h0]
    clear h0 oa ob ka kb
    show Calls _ _ _ _ fun e w' => e = .returned (vlV 5 0 0 (bsz (boolL a.s.data.toList b.s.data.toList tabXor))) ∧ Below w.heap.size w w'
    go_enter Try.func143, Try.ntmps143
    go_wp2_with (go_at_call 103; refine (demKind2_any a b (w.heap.size + 1) 2 _ H1.out H2.out (VlsAt.two (Row.new2 _ _ _ _)) (by simp)).mono ?_; rw [HE.out, outE_ok]; rintro e w1 ⟨rfl, hb1⟩; have B1 := Lib.hid (bl_box2 (Below.refl _ w) hb1); have S1 := (RS.alloc _).keep hb1; have T1 := (RT.alloc _).keep hb1; have U1 := (RU.alloc _).keep hb1; have Z1 := (RZ.alloc _).keep hb1; obtain ⟨x0, x1, x2, x3⟩ := S1.four; obtain ⟨y0, y1, y2, y3⟩ := T1.four; have u0 := U1.one; have ls := S1.lt; have lt := T1.lt; have lu := U1.lt; clear hb1)
    go_region_held3 (fun w' => (w'.cell? ⟨bs, 0, none⟩ = some (.int .i64 a.k) ∧ w'.cell? ⟨bs, 1, none⟩ = some (.int .i64 a.n) ∧ w'.cell? ⟨bs, 2, none⟩ = some (.int .i64 a.q) ∧ w'.cell? ⟨bs, 3, none⟩ = some (.string a.s)) ∧ (w'.cell? ⟨bt, 0, none⟩ = some (.int .i64 b.k) ∧ w'.cell? ⟨bt, 1, none⟩ = some (.int .i64 b.n) ∧ w'.cell? ⟨bt, 2, none⟩ = some (.int .i64 b.q) ∧ w'.cell? ⟨bt, 3, none⟩ = some (.string b.s)) ∧ w'.cell? ⟨bu, 0, none⟩ = some (.int .i64 2))
      (first | go_keep | exact ⟨S3.four, T3.four, U3.one⟩ | exact ⟨S2.four, T2.four, U2.one⟩)
      (first
        | (go_at_call 144; refine (operations_any _).mono ?_; rintro e w3 ⟨c0, c1, c2, rfl, D0, D1, D2, hb3⟩; have HD := D2; have S2 := S1.keep (bl_drew hb3); have T2 := T1.keep (bl_drew hb3); have U2 := U1.keep (bl_drew hb3); have Z2 := Z1.keep (bl_drew hb3))
        | (go_at_call 105; refine (combined_any a b tabXor _ _ _ la' lb' KA.out KB.out OA.out OB.out HD).mono ?_; rintro e w4 ⟨rfl, hb4⟩; have S3 := S2.keep hb4; have T3 := T2.keep hb4; have U3 := U2.keep hb4; have Z4 := Z2.keep hb4; obtain ⟨z0, z1, z2, z3⟩ := Z4.four; have f0 := Z4.free 0; have f1 := Z4.free 1; have f2 := Z4.free 2; have f3 := Z4.free 3))
    go_wp2
    refine bodyPost_ret (v := vlV 5 0 0 (bsz (boolL a.s.data.toList b.s.data.toList tabXor))) (by simp [results, Try.results143, go_sem, z0, z1, z2, z3]) rfl ⟨rfl, ?_⟩
    (repeat refine Below.setCell ?_ (by simp <;> omega) _)
    exact bl_then B1.out (bl_then (bl_drew hb3) hb4)
  · have HE := Lib.hid (outE_no (.tuple #[]) h0)
    rw [outE_no _ h0]
    clear h0
    go_enter Try.func143, Try.ntmps143
    go_wp2_with (go_at_call 103; refine (demKind2_any a b (w.heap.size + 1) 2 _ H1.out H2.out (VlsAt.two (Row.new2 _ _ _ _)) (by simp)).mono ?_; rw [HE.out]; rintro e w1 ⟨rfl, hb1⟩; have B1 := Lib.hid (bl_box2 (Below.refl _ w) hb1))
    exact ⟨rfl, rfl, B1.out⟩

set_option maxRecDepth 100000 in
set_option maxHeartbeats 2000000 in
theorem bNamed2 (a b : Vl) (w : World) (hs : a.s.size ≤ maxLen) (hs' : b.s.size ≤ maxLen) :
    Calls Try.prog 109 #[.int .i64 2, a.v, b.v] w fun e w' => e = .returned (.tuple #[orV (kindE2 5 a b) 5 (boolL a.s.data.toList b.s.data.toList tabXor), .int .i64 (kindE2 5 a b)]) ∧ Below w.heap.size w w' := by
  have hmf : ∀ (fn : Fn) (first cap : Array Value) (w : World), (Instr.makeFunc fn first cap).run Try.prog w = .ok (.func fn first cap) w := fun _ _ _ _ => rfl
  have H1 := Lib.hid hs
  have H2 := Lib.hid hs'
  clear hs hs'
  have HC : Hid (∀ W, Below ((((w.alloc (.cells #[.int .i64 2] 3)).alloc (.cells (vlC a.k a.n a.q a.s) 23)).alloc (.cells (vlC b.k b.n b.q b.s) 23)).alloc (.cells (vlC 0 0 0 ⟨#[]⟩) 23)).heap.size ((((w.alloc (.cells #[.int .i64 2] 3)).alloc (.cells (vlC a.k a.n a.q a.s) 23)).alloc (.cells (vlC b.k b.n b.q b.s) 23)).alloc (.cells (vlC 0 0 0 ⟨#[]⟩) 23)) W → Calls Try.prog 143 #[ptr (w.heap.size + 1), ptr (w.heap.size + 1 + 1), ptr w.heap.size] W fun e w' => e = outE (kindE2 5 a b) (vlV 5 0 0 (bsz (boolL a.s.data.toList b.s.data.toList tabXor))) ∧ Below W.heap.size W w') := by
    show ∀ _, _
    intro W hW
    exact cNamed2 a b _ _ _ W ((((Row.new2 _ _ _ _).alloc _).alloc _).keep hW) (((Row.new3 _ _ _ _ _).alloc _).keep hW) (((((Row.new _ _ _).alloc _).alloc _).alloc _).keep hW) H1.out H2.out
  have RZ := row_new4 w (.cells #[.int .i64 2] 3) (.cells (vlC a.k a.n a.q a.s) 23) (.cells (vlC b.k b.n b.q b.s) 23) (vlC 0 0 0 ⟨#[]⟩) 23
  generalize kindE2 5 a b = E at HC ⊢
  generalize boolL a.s.data.toList b.s.data.toList tabXor = J at HC ⊢
  have HR : Hid ((if E = 0 then vlV 5 0 0 (bsz J) else vlV 0 0 0 ⟨#[]⟩) = vlV (if E = 0 then 5 else 0) 0 0 (if E = 0 then bsz J else ⟨#[]⟩)) := by
    show _ = _
    split <;> rfl
  unfold orV
  generalize (if E = 0 then (5 : Int) else 0) = K at HR ⊢
  generalize (if E = 0 then bsz J else ⟨#[]⟩) = L at HR ⊢
  go_enter Try.func109, Try.ntmps109
  go_wp2_with (go_at_call 85; refine (bAnsV_any 143 _ E 5 0 0 _ _ (fun W => by kernel_rfl) HC.out).mono ?_; rw [HR.out]; rintro e w1 ⟨rfl, hb1⟩; have Z1 := RZ.keep hb1; obtain ⟨z0, z1, z2, z3⟩ := Z1.four; have f0 := Z1.free 0; have f1 := Z1.free 1; have f2 := Z1.free 2; have f3 := Z1.free 3; have lz := Z1.lt)
  refine bodyPost_ret (v := .tuple #[vlV K 0 0 L, .int .i64 E]) (by simp [results, Try.results109, go_sem, z0, z1, z2, z3]) rfl ⟨rfl, ?_⟩
  (repeat refine Below.setCell ?_ (by simp <;> omega) _)
  exact below_then (by go_grown) hb1 (by simp <;> omega)

set_option maxRecDepth 100000 in
set_option maxHeartbeats 1000000 in
theorem bXor_any (a b : Vl) (w : World) (hs : a.s.size ≤ maxLen) (hs' : b.s.size ≤ maxLen) :
    Calls Try.prog 42 #[a.v, b.v] w fun e w' => e = .returned (.tuple #[orV (kindE2 5 a b) 5 (boolL a.s.data.toList b.s.data.toList tabXor), .int .i64 (kindE2 5 a b)]) ∧ Below w.heap.size w w' := by
  have HC : Hid (∀ W, Calls Try.prog 109 #[.int .i64 2, a.v, b.v] W fun e w' => e = .returned (.tuple #[orV (kindE2 5 a b) 5 (boolL a.s.data.toList b.s.data.toList tabXor), .int .i64 (kindE2 5 a b)]) ∧ Below W.heap.size W w') := Lib.hid fun W => bNamed2 a b W hs hs'
  have RZ := Row.new3 w (.cells (vlC a.k a.n a.q a.s) 23) (.cells (vlC b.k b.n b.q b.s) 23) (vlC 0 0 0 ⟨#[]⟩) 23
  unfold orV at HC ⊢
  generalize kindE2 5 a b = E at HC ⊢
  generalize (if E = 0 then (5 : Int) else 0) = K at HC ⊢
  generalize (if E = 0 then bsz (boolL a.s.data.toList b.s.data.toList tabXor) else ⟨#[]⟩) = L at HC ⊢
  clear hs hs'
  go_enter Try.func42, Try.ntmps42
  go_wp2_with (go_at_call 109; refine (HC.out _).mono ?_; rintro e w1 ⟨rfl, hb1⟩; have Z1 := RZ.keep hb1; obtain ⟨z0, z1, z2, z3⟩ := Z1.four; have f0 := Z1.free 0; have f1 := Z1.free 1; have f2 := Z1.free 2; have f3 := Z1.free 3; have lz := Z1.lt)
  refine bodyPost_ret (v := .tuple #[vlV K 0 0 L, .int .i64 E]) (by simp [results, Try.results42, go_sem, z0, z1, z2, z3]) rfl ⟨rfl, ?_⟩
  (repeat refine Below.setCell ?_ (by simp <;> omega) _)
  exact below_then (by go_grown) hb1 (by simp <;> omega)
end Go.Proofs.Ytgoghblfficfpaa
