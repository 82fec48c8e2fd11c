/- Package bits: Repeat, row, Low, High. -/
import Derived.Test.YtgoghblfficfpaaBitMake2
namespace Go.Proofs.Ytgoghblfficfpaa
open Go.RowKit

def repN (n : Int) : Nat := (max n 0).toNat + 1
def repeatE (a : Vl) (n : Int) : Int := if strE a = 0 then (if plainI n then timesE a (repN n) else 7) else strE a
theorem ret_V {a b : Value} (h : a = b) : Ending.returned a = .returned b := by rw [h]

set_option maxRecDepth 100000 in
set_option maxHeartbeats 4000000 in
theorem cRepeat_any (a : Vl) (n : Int) (bs bn : Nat) (w : World) (hS : Row w bs (vlC a.k a.n a.q a.s) 23) (hN : Row w bn #[.int .i64 n] 3) (hs : a.s.size ≤ maxLen) :
    Calls Try.prog 89 #[ptr bs, ptr bn] w fun e w' => e = outE (repeatE a n) (vlV a.k 0 0 (bsz (timesL a.s.data.toList (repN n)))) ∧ Below w.heap.size w w' := by
  obtain ⟨x0, x1, x2, x3⟩ := hS.four
  have y0 := hN.one
  have ls := hS.lt
  have ln := hN.lt
  have RZ := Row.new w (vlC 0 0 0 ⟨#[]⟩) 23
  have RS := hS.alloc (.cells (vlC 0 0 0 ⟨#[]⟩) 23)
  have RN := hN.alloc (.cells (vlC 0 0 0 ⟨#[]⟩) 23)
  have n1 : ¬ bs = w.heap.size := by omega
  have n2 : ¬ w.heap.size = bs := by omega
  have n3 : ¬ bn = w.heap.size := by omega
  have n4 : ¬ w.heap.size = bn := by omega
  have H1 := Lib.hid hs
  clear hs
  by_cases h0 : strE a = 0
  · have oa := strE_ok h0
    have la : Hid (a.s.size ≤ 100000) := Lib.hid (by have := okT_len (okV_eq oa).2.2; rw [lsz] at this; omega)
    have HE := Lib.hid h0
    have hcE : repeatE a n = if plainI n then timesE a (repN n) else 7 := if_pos h0
    cases hp : plainI n with
    | true =>
      have HP := Lib.hid hp
      have hpp := plainI_yes hp
      have hN4 : Hid (repN n ≤ 4000000000) := Lib.hid (by unfold repN; omega)
      rw [hcE, hp, if_pos rfl]
      by_cases hneg : n < 0
      · have hm1 : Hid (repN n = 1) := Lib.hid (by unfold repN; omega)
        have hmx : max n 0 = 0 := by omega
        have hcs : Hid ((1 : Int) = ((repN n : Nat) : Int)) := Lib.hid (by rw [hm1.out]; rfl)
        by_cases ht : timesE a (repN n) = 0
        · have HT := Lib.hid ht
          rw [ht]
          clear oa h0 hcE ht hp
          show Calls _ _ _ _ fun e w' => e = .returned (vlV a.k 0 0 (bsz (timesL a.s.data.toList (repN n)))) ∧ Below w.heap.size w w'
          go_enter Try.func89, Try.ntmps89
          go_wp2_with (first
            | (go_at_call 57; refine (demStr1_any a (w.heap.size + 1) 1 _ H1.out (VlsAt.one (Row.new2 _ _ _ _)) (by simp)).mono ?_; rw [HE.out, outE_ok]; rintro e w1 ⟨rfl, hb1⟩; have B1 := Lib.hid (bl_box2 (Below.refl _ w) hb1); have S1 := (RS.alloc _).keep hb1; have N1 := (RN.alloc _).keep hb1; have Z1 := (RZ.alloc _).keep hb1; obtain ⟨x0, x1, x2, x3⟩ := S1.four; have y0 := N1.one; have ls := S1.lt; have ln := N1.lt; clear hb1)
            | (go_at_call 58; refine (counts1_ok _ w1.heap.size 1 _ (Row.new _ _ _).one HP.out).mono ?_; rintro e w2 ⟨rfl, rfl⟩; have Z2 := Z1.alloc (.cells #[.int .i64 n] 3))
            | (go_at_call 90; (try rw [hcs.out]); refine (times_any a (repN n) _ la.out hN4.out).mono ?_; rw [HT.out, outE_ok]; rintro e w3 ⟨rfl, hb3⟩; have B3 := Lib.hid (bl_box B1.out hb3); have Z3 := Z2.keep hb3; obtain ⟨z0, z1, z2, z3⟩ := Z3.four; have f0 := Z3.free 0; have f1 := Z3.free 1; have f2 := Z3.free 2; have f3 := Z3.free 3))
          refine bodyPost_ret (v := vlV a.k 0 0 (bsz (timesL a.s.data.toList (repN n)))) (by simp [results, Try.results89, go_sem, z0, z1, z2, z3]) rfl ⟨rfl, ?_⟩
          (repeat refine Below.setCell ?_ (by simp <;> omega) _)
          exact B3.out
        · have HT := Lib.hid (outE_no (vlV a.k 0 0 (bsz (timesL a.s.data.toList (repN n)))) ht)
          rw [outE_no _ ht]
          clear oa h0 hcE ht hp
          go_enter Try.func89, Try.ntmps89
          go_wp2_with (first
            | (go_at_call 57; refine (demStr1_any a (w.heap.size + 1) 1 _ H1.out (VlsAt.one (Row.new2 _ _ _ _)) (by simp)).mono ?_; rw [HE.out, outE_ok]; rintro e w1 ⟨rfl, hb1⟩; have B1 := Lib.hid (bl_box2 (Below.refl _ w) hb1); have S1 := (RS.alloc _).keep hb1; have N1 := (RN.alloc _).keep hb1; have Z1 := (RZ.alloc _).keep hb1; obtain ⟨x0, x1, x2, x3⟩ := S1.four; have y0 := N1.one; have ls := S1.lt; have ln := N1.lt; clear hb1)
            | (go_at_call 58; refine (counts1_ok _ w1.heap.size 1 _ (Row.new _ _ _).one HP.out).mono ?_; rintro e w2 ⟨rfl, rfl⟩; have Z2 := Z1.alloc (.cells #[.int .i64 n] 3))
            | (go_at_call 90; (try rw [hcs.out]); refine (times_any a (repN n) _ la.out hN4.out).mono ?_; rw [HT.out]; rintro e w3 ⟨rfl, hb3⟩; have B3 := Lib.hid (bl_box B1.out hb3)))
          exact ⟨rfl, rfl, B3.out⟩
      · have hmx : max n 0 = n := by omega
        have hge : 0 ≤ n := by omega
        have hcs : Hid (n + 1 = ((repN n : Nat) : Int)) := Lib.hid (by unfold repN; omega)
        have hw : IntKind.i64.wrap (n + 1) = n + 1 := IntWalk.i64_in _ (by omega)
        by_cases ht : timesE a (repN n) = 0
        · have HT := Lib.hid ht
          rw [ht]
          clear oa h0 hcE ht hp
          show Calls _ _ _ _ fun e w' => e = .returned (vlV a.k 0 0 (bsz (timesL a.s.data.toList (repN n)))) ∧ Below w.heap.size w w'
          go_enter Try.func89, Try.ntmps89
          go_wp2_with (first
            | (go_at_call 57; refine (demStr1_any a (w.heap.size + 1) 1 _ H1.out (VlsAt.one (Row.new2 _ _ _ _)) (by simp)).mono ?_; rw [HE.out, outE_ok]; rintro e w1 ⟨rfl, hb1⟩; have B1 := Lib.hid (bl_box2 (Below.refl _ w) hb1); have S1 := (RS.alloc _).keep hb1; have N1 := (RN.alloc _).keep hb1; have Z1 := (RZ.alloc _).keep hb1; obtain ⟨x0, x1, x2, x3⟩ := S1.four; have y0 := N1.one; have ls := S1.lt; have ln := N1.lt; clear hb1)
            | (go_at_call 58; refine (counts1_ok _ w1.heap.size 1 _ (Row.new _ _ _).one HP.out).mono ?_; rintro e w2 ⟨rfl, rfl⟩; have Z2 := Z1.alloc (.cells #[.int .i64 n] 3))
            | (go_at_call 90; (try rw [hcs.out]); refine (times_any a (repN n) _ la.out hN4.out).mono ?_; rw [HT.out, outE_ok]; rintro e w3 ⟨rfl, hb3⟩; have B3 := Lib.hid (bl_box B1.out hb3); have Z3 := Z2.keep hb3; obtain ⟨z0, z1, z2, z3⟩ := Z3.four; have f0 := Z3.free 0; have f1 := Z3.free 1; have f2 := Z3.free 2; have f3 := Z3.free 3))
          refine bodyPost_ret (v := vlV a.k 0 0 (bsz (timesL a.s.data.toList (repN n)))) (by simp [results, Try.results89, go_sem, z0, z1, z2, z3]) rfl ⟨rfl, ?_⟩
          (repeat refine Below.setCell ?_ (by simp <;> omega) _)
          exact B3.out
        · have HT := Lib.hid (outE_no (vlV a.k 0 0 (bsz (timesL a.s.data.toList (repN n)))) ht)
          rw [outE_no _ ht]
          clear oa h0 hcE ht hp
          go_enter Try.func89, Try.ntmps89
          go_wp2_with (first
            | (go_at_call 57; refine (demStr1_any a (w.heap.size + 1) 1 _ H1.out (VlsAt.one (Row.new2 _ _ _ _)) (by simp)).mono ?_; rw [HE.out, outE_ok]; rintro e w1 ⟨rfl, hb1⟩; have B1 := Lib.hid (bl_box2 (Below.refl _ w) hb1); have S1 := (RS.alloc _).keep hb1; have N1 := (RN.alloc _).keep hb1; have Z1 := (RZ.alloc _).keep hb1; obtain ⟨x0, x1, x2, x3⟩ := S1.four; have y0 := N1.one; have ls := S1.lt; have ln := N1.lt; clear hb1)
            | (go_at_call 58; refine (counts1_ok _ w1.heap.size 1 _ (Row.new _ _ _).one HP.out).mono ?_; rintro e w2 ⟨rfl, rfl⟩; have Z2 := Z1.alloc (.cells #[.int .i64 n] 3))
            | (go_at_call 90; (try rw [hcs.out]); refine (times_any a (repN n) _ la.out hN4.out).mono ?_; rw [HT.out]; rintro e w3 ⟨rfl, hb3⟩; have B3 := Lib.hid (bl_box B1.out hb3)))
          exact ⟨rfl, rfl, B3.out⟩
    | false =>
      have HP := Lib.hid hp
      rw [hcE, hp]
      clear oa h0 hcE hp
      show Calls _ _ _ _ fun e w' => e = bRef 7 ∧ Below w.heap.size w w'
      go_enter Try.func89, Try.ntmps89
      go_wp2_with (first
        | (go_at_call 57; refine (demStr1_any a (w.heap.size + 1) 1 _ H1.out (VlsAt.one (Row.new2 _ _ _ _)) (by simp)).mono ?_; rw [HE.out, outE_ok]; rintro e w1 ⟨rfl, hb1⟩; have B1 := Lib.hid (bl_box2 (Below.refl _ w) hb1); have S1 := (RS.alloc _).keep hb1; have N1 := (RN.alloc _).keep hb1; have Z1 := (RZ.alloc _).keep hb1; obtain ⟨x0, x1, x2, x3⟩ := S1.four; have y0 := N1.one; have ls := S1.lt; have ln := N1.lt; clear hb1)
        | (go_at_call 58; refine (counts1_no _ w1.heap.size 1 _ (Row.new _ _ _).one HP.out).mono ?_; rintro e w2 ⟨rfl, rfl⟩))
      exact ⟨rfl, rfl, B1.out.alloc B1.out.size _⟩
  · have HE := Lib.hid (outE_no (.tuple #[]) h0)
    rw [show repeatE a n = strE a from if_neg h0, outE_no _ h0]
    clear h0
    go_enter Try.func89, Try.ntmps89
    go_wp2_with (go_at_call 57; refine (demStr1_any a (w.heap.size + 1) 1 _ H1.out (VlsAt.one (Row.new2 _ _ _ _)) (by simp)).mono ?_; rw [HE.out]; rintro e w1 ⟨rfl, hb1⟩; have B1 := Lib.hid (bl_box2 (Below.refl _ w) hb1))
    exact ⟨rfl, rfl, B1.out⟩

set_option maxRecDepth 100000 in
set_option maxHeartbeats 2000000 in
theorem bRepeat_any (a : Vl) (n : Int) (w : World) (hs : a.s.size ≤ maxLen) :
    Calls Try.prog 27 #[a.v, .int .i64 n] w fun e w' => e = .returned (.tuple #[orV (repeatE a n) a.k (timesL a.s.data.toList (repN n)), .int .i64 (repeatE a n)]) ∧ Below w.heap.size w w' := by
  have hmf : ∀ (fn : Fn) (first cap : Array Value) (w : World), (Instr.makeFunc fn first cap).run Try.prog w = .ok (.func fn first cap) w := fun _ _ _ _ => rfl
  have H1 := Lib.hid hs
  clear hs
  have HC : Hid (∀ W, Below (((w.alloc (.cells (vlC a.k a.n a.q a.s) 23)).alloc (.cells #[.int .i64 n] 3)).alloc (.cells (vlC 0 0 0 ⟨#[]⟩) 23)).heap.size (((w.alloc (.cells (vlC a.k a.n a.q a.s) 23)).alloc (.cells #[.int .i64 n] 3)).alloc (.cells (vlC 0 0 0 ⟨#[]⟩) 23)) W → Calls Try.prog 89 #[ptr w.heap.size, ptr (w.heap.size + 1)] W fun e w' => e = outE (repeatE a n) (vlV a.k 0 0 (bsz (timesL a.s.data.toList (repN n)))) ∧ Below W.heap.size W w') := by
    show ∀ _, _
    intro W hW
    exact cRepeat_any a n _ _ W ((((Row.new _ _ _).alloc _).alloc _).keep hW) (((Row.new2 _ _ _ _).alloc _).keep hW) H1.out
  have RZ := Row.new3 w (.cells (vlC a.k a.n a.q a.s) 23) (.cells #[.int .i64 n] 3) (vlC 0 0 0 ⟨#[]⟩) 23
  generalize repeatE a n = E at HC ⊢
  generalize timesL a.s.data.toList (repN n) = J at HC ⊢
  have HR : Hid ((if E = 0 then vlV a.k 0 0 (bsz J) else vlV 0 0 0 ⟨#[]⟩) = vlV (if E = 0 then a.k else 0) 0 0 (if E = 0 then bsz J else ⟨#[]⟩)) := by
    show _ = _
    split <;> rfl
  unfold orV
  generalize (if E = 0 then a.k else 0) = K at HR ⊢
  generalize (if E = 0 then bsz J else ⟨#[]⟩) = L at HR ⊢
  go_enter Try.func27, Try.ntmps27
  go_wp2_with (go_at_call 85; refine (bAnsV_any 89 _ E a.k 0 0 _ _ (fun W => by kernel_rfl) HC.out).mono ?_; rw [HR.out]; rintro e w1 ⟨rfl, hb1⟩; have Z1 := RZ.keep hb1; obtain ⟨z0, z1, z2, z3⟩ := Z1.four; have f0 := Z1.free 0; have f1 := Z1.free 1; have f2 := Z1.free 2; have f3 := Z1.free 3; have lz := Z1.lt)
  refine bodyPost_ret (v := .tuple #[vlV K 0 0 L, .int .i64 E]) (by simp [results, Try.results27, go_sem, z0, z1, z2, z3]) rfl ⟨rfl, ?_⟩
  (repeat refine Below.setCell ?_ (by simp <;> omega) _)
  exact below_then (by go_grown) hb1 (by simp <;> omega)

def rowE (n : Int) : Int := if 0 ≤ n ∧ n ≤ 250 then 0 else 7
set_option maxRecDepth 100000 in
set_option maxHeartbeats 4000000 in
theorem cRow_any (n : Int) (c : UInt8) (bn bc : Nat) (w : World) (hN : Row w bn #[.int .i64 n] 3) (hC : Row w bc #[.int .u8 c.toNat] 5) :
    Calls Try.prog 136 #[ptr bn, ptr bc] w fun e w' => e = outE (rowE n) (vlV 4 0 0 (bsz (tellL n.toNat (fun _ => c)))) ∧ Below w.heap.size w w' := by
  have y0 := hN.one
  have x0 := hC.one
  have ln := hN.lt
  have lc := hC.lt
  have RZ := Row.new w (vlC 0 0 0 ⟨#[]⟩) 23
  have RN := hN.alloc (.cells (vlC 0 0 0 ⟨#[]⟩) 23)
  have RC := hC.alloc (.cells (vlC 0 0 0 ⟨#[]⟩) 23)
  have n1 : ¬ bc = w.heap.size := by omega
  have n2 : ¬ w.heap.size = bc := by omega
  have n3 : ¬ bn = w.heap.size := by omega
  have n4 : ¬ w.heap.size = bn := by omega
  by_cases hn : 0 ≤ n ∧ n ≤ 250
  · rw [show rowE n = 0 from if_pos hn]
    obtain ⟨N, rfl⟩ := Int.eq_ofNat_of_zero_le hn.1
    rw [show ((N : Int)).toNat = N from rfl]
    obtain ⟨q0, q1⟩ := hn
    have hL : N ≤ 100000 := by omega
    show Calls _ _ _ _ fun e w' => e = .returned (vlV 4 0 0 (bsz (tellL N (fun _ => c)))) ∧ Below w.heap.size w w'
    go_enter Try.func136, Try.ntmps136
    go_wp2_with (go_at_call 93; refine (within1_ok 0 250 _ (w.heap.size + 1) 1 _ (Row.new2 _ _ _ _).one q0 q1).mono ?_; rintro e w2 ⟨rfl, rfl⟩)
    have N1 := RN.alloc (.cells #[.int .i64 N] 3)
    have C1 := RC.alloc (.cells #[.int .i64 N] 3)
    have Z1 := RZ.alloc (.cells #[.int .i64 N] 3)
    generalize hw : (w.alloc (.cells (vlC 0 0 0 ⟨#[]⟩) 23)).alloc (.cells #[.int .i64 N] 3) = W at *
    have B0 : Hid (Below w.heap.size w W) := by show Below _ _ _; rw [← hw]; go_grown
    clear hw
    have y1 := N1.one
    have x1 := C1.one
    have ln' := N1.lt
    have lc' := C1.lt
    go_region_held3 (fun w' => w'.cell? ⟨bn, 0, none⟩ = some (.int .i64 N) ∧ w'.cell? ⟨bc, 0, none⟩ = some (.int .u8 c.toNat))
      (first | go_keep | exact ⟨N3.one, C3.one⟩ | exact ⟨N2.one, C2.one⟩)
      (first
        | (go_at_call 137; refine (always_any c N _).mono ?_; rintro e w3 ⟨fn, cap, rfl, HT, hb3⟩; have N2 := N1.keep (bl_drew hb3); have C2 := C1.keep (bl_drew hb3); have Z2 := Z1.keep (bl_drew hb3))
        | (go_at_call 87; refine (like_any 4 0 0 _ N fn cap _ _ hL HT).mono ?_; rintro e w4 ⟨rfl, hb4⟩; have N3 := N2.keep hb4; have C3 := C2.keep hb4; have Z3 := Z2.keep hb4; obtain ⟨z0, z1, z2, z3⟩ := Z3.four; have f0 := Z3.free 0; have f1 := Z3.free 1; have f2 := Z3.free 2; have f3 := Z3.free 3))
    go_wp2
    refine bodyPost_ret (v := vlV 4 0 0 (bsz (tellL N (fun _ => c)))) (by simp [results, Try.results136, go_sem, z0, z1, z2, z3]) rfl ⟨rfl, ?_⟩
    (repeat refine Below.setCell ?_ (by simp <;> omega) _)
    exact bl_then B0.out (bl_then (bl_drew hb3) hb4)
  · rw [show rowE n = 7 from if_neg hn]
    have hn' : Hid (n < 0 ∨ (0 ≤ n ∧ 250 < n)) := Lib.hid (by omega)
    clear hn
    show Calls _ _ _ _ fun e w' => e = bRef 7 ∧ Below w.heap.size w w'
    go_enter Try.func136, Try.ntmps136
    go_wp2_with (go_at_call 93; refine (within1_no 0 250 _ (w.heap.size + 1) 1 _ (Row.new2 _ _ _ _).one hn'.out).mono ?_; rintro e w2 ⟨rfl, rfl⟩)
    exact ⟨rfl, rfl, by go_grown⟩

set_option maxRecDepth 100000 in
set_option maxHeartbeats 2000000 in
theorem bRow_any (n : Int) (c : UInt8) (w : World) :
    Calls Try.prog 95 #[.int .i64 n, .int .u8 c.toNat] w fun e w' => e = .returned (.tuple #[orV (rowE n) 4 (tellL n.toNat (fun _ => c)), .int .i64 (rowE n)]) ∧ Below w.heap.size w w' := by
  have hmf : ∀ (fn : Fn) (first cap : Array Value) (w : World), (Instr.makeFunc fn first cap).run Try.prog w = .ok (.func fn first cap) w := fun _ _ _ _ => rfl
  have HC : Hid (∀ W, Below (((w.alloc (.cells #[.int .i64 n] 3)).alloc (.cells #[.int .u8 c.toNat] 5)).alloc (.cells (vlC 0 0 0 ⟨#[]⟩) 23)).heap.size (((w.alloc (.cells #[.int .i64 n] 3)).alloc (.cells #[.int .u8 c.toNat] 5)).alloc (.cells (vlC 0 0 0 ⟨#[]⟩) 23)) W → Calls Try.prog 136 #[ptr w.heap.size, ptr (w.heap.size + 1)] W fun e w' => e = outE (rowE n) (vlV 4 0 0 (bsz (tellL n.toNat (fun _ => c)))) ∧ Below W.heap.size W w') := by
    show ∀ _, _
    intro W hW
    exact cRow_any n c _ _ W ((((Row.new _ _ _).alloc _).alloc _).keep hW) (((Row.new2 _ _ _ _).alloc _).keep hW)
  have RZ := Row.new3 w (.cells #[.int .i64 n] 3) (.cells #[.int .u8 c.toNat] 5) (vlC 0 0 0 ⟨#[]⟩) 23
  generalize rowE n = E at HC ⊢
  generalize tellL n.toNat (fun _ => c) = J at HC ⊢
  have HR : Hid ((if E = 0 then vlV 4 0 0 (bsz J) else vlV 0 0 0 ⟨#[]⟩) = vlV (if E = 0 then (4 : Int) else 0) 0 0 (if E = 0 then bsz J else ⟨#[]⟩)) := by
    show _ = _
    split <;> rfl
  unfold orV
  generalize (if E = 0 then (4 : Int) else 0) = K at HR ⊢
  generalize (if E = 0 then bsz J else ⟨#[]⟩) = L at HR ⊢
  go_enter Try.func95, Try.ntmps95
  go_wp2_with (go_at_call 85; refine (bAnsV_any 136 _ E 4 0 0 _ _ (fun W => by kernel_rfl) HC.out).mono ?_; rw [HR.out]; rintro e w1 ⟨rfl, hb1⟩; have Z1 := RZ.keep hb1; obtain ⟨z0, z1, z2, z3⟩ := Z1.four; have f0 := Z1.free 0; have f1 := Z1.free 1; have f2 := Z1.free 2; have f3 := Z1.free 3; have lz := Z1.lt)
  refine bodyPost_ret (v := .tuple #[vlV K 0 0 L, .int .i64 E]) (by simp [results, Try.results95, go_sem, z0, z1, z2, z3]) rfl ⟨rfl, ?_⟩
  (repeat refine Below.setCell ?_ (by simp <;> omega) _)
  exact below_then (by go_grown) hb1 (by simp <;> omega)
end Go.Proofs.Ytgoghblfficfpaa
