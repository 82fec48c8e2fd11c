/- Package bits: times, Copy, Repeat, row, Low, High. -/
import Derived.Test.YtgoghblfficfpaaBitMake1
namespace Go.Proofs.Ytgoghblfficfpaa
open Go.RowKit

def timesE (a : Vl) (m : Nat) : Int := if roomB a.s.size m then 0 else 3
theorem times_room {l m : Nat} (h : roomB l m = true) : l * m ≤ 250 := by
  unfold roomB at h
  rcases Nat.eq_zero_or_pos l with rfl | hp
  · omega
  · have h1 : (l == 0) = false := by simp; omega
    rw [h1, Bool.false_or, decide_eq_true_eq] at h
    have h2 : (m : Int) * l ≤ 250 := (Int.le_ediv_iff_mul_le (by omega)).1 h
    have h3 : ((m * l : Nat) : Int) ≤ 250 := by rw [Int.natCast_mul]; exact h2
    rw [Nat.mul_comm]; omega
set_option maxRecDepth 100000 in
set_option maxHeartbeats 4000000 in
theorem times_any (a : Vl) (m : Nat) (w : World) (la : a.s.size ≤ 100000) (_hm : m ≤ 4000000000) :
    Calls Try.prog 90 #[a.v, .int .i64 m] w fun e w' => e = outE (timesE a m) (vlV a.k 0 0 (bsz (timesL a.s.data.toList m))) ∧ Below w.heap.size w w' := by
  have RA := (Row.new w (vlC a.k a.n a.q a.s) 23).alloc (.cells (vlC 0 0 0 ⟨#[]⟩) 23)
  have RZ := Row.new2 w (.cells (vlC a.k a.n a.q a.s) 23) (vlC 0 0 0 ⟨#[]⟩) 23
  have n1 : ¬ w.heap.size = w.heap.size + 1 := by omega
  have n2 : ¬ w.heap.size + 1 = w.heap.size := by omega
  have la2 : a.s.size ≤ 1000000 := by omega
  cases hr : roomB a.s.size m with
  | true =>
    have hM := times_room hr
    have HM := Lib.hid hr
    have hL : a.s.size * m ≤ 100000 := by omega
    have hL2 : a.s.size * m ≤ 1000000 := by omega
    have hcast : Hid ((a.s.size : Int) * (m : Int) = ((a.s.size * m : Nat) : Int)) := Lib.hid (Int.natCast_mul _ _).symm
    have hw : IntKind.i64.wrap ((a.s.size : Int) * (m : Int)) = (a.s.size : Int) * (m : Int) := IntWalk.i64_in _ (by rw [hcast.out]; omega)
    have h0 : 0 < a.s.size * m → 0 < a.s.size := fun h => Nat.pos_of_mul_pos_right h
    have hTL : Hid (timesL a.s.data.toList m = tellL (a.s.size * m) (fun i => a.s.data.toList.getD (i % a.s.data.toList.length) 0)) := by show _ = _; unfold timesL; rw [lsz]
    rw [show timesE a m = 0 by rw [timesE, if_pos hr], hTL.out]
    show Calls _ _ _ _ fun e w' => e = .returned (vlV a.k 0 0 (bsz (tellL (a.s.size * m) (fun i => a.s.data.toList.getD (i % a.s.data.toList.length) 0)))) ∧ Below w.heap.size w w'
    obtain ⟨f, hf⟩ : ∃ f : Nat → UInt8, f = fun i => a.s.data.toList.getD (i % a.s.data.toList.length) 0 := ⟨_, rfl⟩
    rw [← hf]
    have HF := Lib.hid hf
    clear hr hM hf
    go_enter Try.func90, Try.ntmps90
    go_wp2_with (go_at_call 98; refine (room_yes _ m _ la2 HM.out).mono ?_; rintro e w1 ⟨rfl, rfl⟩)
    generalize hw0 : (w.alloc (.cells (vlC a.k a.n a.q a.s) 23)).alloc (.cells (vlC 0 0 0 ⟨#[]⟩) 23) = W at *
    have B0 : Hid (Below w.heap.size w W) := by show Below _ _ _; rw [← hw0]; go_grown
    clear hw0
    obtain ⟨x0, x1, x2, x3⟩ := RA.four
    go_region_held3 (fun w' => w'.cell? ⟨w.heap.size, 0, none⟩ = some (.int .i64 a.k) ∧ w'.cell? ⟨w.heap.size, 1, none⟩ = some (.int .i64 a.n) ∧ w'.cell? ⟨w.heap.size, 2, none⟩ = some (.int .i64 a.q) ∧ w'.cell? ⟨w.heap.size, 3, none⟩ = some (.string a.s))
      (first | go_keep | exact S3.four | exact S2.four)
      (first
        | (go_at_call 135; refine (again_any _ _ _ _ (a.s.size * m) _ la hL2 h0).mono ?_; rw [← HF.out]; rintro e w3 ⟨fn, cap, rfl, HT, hb3⟩; have S2 := RA.keep (bl_drew hb3); have Z2 := RZ.keep (bl_drew hb3))
        | (go_at_call 87; (try rw [hcast.out]); refine (like_any _ _ _ _ (a.s.size * m) fn cap f _ hL HT).mono ?_; rintro e w4 ⟨rfl, hb4⟩; have S3 := S2.keep hb4; have Z3 := Z2.keep hb4; obtain ⟨z0, z1, z2, z3⟩ := Z3.four; have f0 := Z3.free 0; have f1 := Z3.free 1; have f2 := Z3.free 2; have f3 := Z3.free 3))
    go_wp2
    refine bodyPost_ret (v := vlV a.k 0 0 (bsz (tellL (a.s.size * m) f))) (by simp [results, Try.results90, go_sem, z0, z1, z2, z3]) rfl ⟨rfl, ?_⟩
    (repeat refine Below.setCell ?_ (by simp <;> omega) _)
    exact bl_then B0.out (bl_then (bl_drew hb3) hb4)
  | false =>
    have HM := Lib.hid hr
    rw [show timesE a m = 3 by rw [timesE, hr]; rfl]
    clear hr
    show Calls _ _ _ _ fun e w' => e = bRef 3 ∧ Below w.heap.size w w'
    go_enter Try.func90, Try.ntmps90
    go_wp2_with (go_at_call 98; refine (room_no _ m _ la2 HM.out).mono ?_; rintro e w1 ⟨rfl, rfl⟩)
    exact ⟨rfl, rfl, by go_grown⟩

def copyE (a : Vl) (n : Int) : Int := if strE a = 0 then (if 0 ≤ n ∧ n ≤ 1000000000 then timesE a n.toNat else 7) else strE a
set_option maxRecDepth 100000 in
set_option maxHeartbeats 4000000 in
theorem cCopy_any (a : Vl) (n : Int) (bs bn : Nat) (w : World) (hS : Row w bs (vlC a.k a.n a.q a.s) 23) (hN : Row w bn #[.int .i64 n] 3) (hs : a.s.size ≤ maxLen) :
    Calls Try.prog 92 #[ptr bs, ptr bn] w fun e w' => e = outE (copyE a n) (vlV a.k 0 0 (bsz (timesL a.s.data.toList n.toNat))) ∧ Below w.heap.size w w' := by
  obtain ⟨x0, x1, x2, x3⟩ := hS.four
  have y0 := hN.one
  have ls := hS.lt
  have ln := hN.lt
  have RZ := Row.new w (vlC 0 0 0 ⟨#[]⟩) 23
  have RS := hS.alloc (.cells (vlC 0 0 0 ⟨#[]⟩) 23)
  have RN := hN.alloc (.cells (vlC 0 0 0 ⟨#[]⟩) 23)
  have n1 : ¬ bs = w.heap.size := by omega
  have n2 : ¬ w.heap.size = bs := by omega
  have n3 : ¬ bn = w.heap.size := by omega
  have n4 : ¬ w.heap.size = bn := by omega
  have H1 := Lib.hid hs
  clear hs
  by_cases h0 : strE a = 0
  · have oa := strE_ok h0
    have la : Hid (a.s.size ≤ 100000) := Lib.hid (by have := okT_len (okV_eq oa).2.2; rw [lsz] at this; omega)
    have HE := Lib.hid h0
    have hcE : copyE a n = if 0 ≤ n ∧ n ≤ 1000000000 then timesE a n.toNat else 7 := if_pos h0
    by_cases hn : 0 ≤ n ∧ n ≤ 1000000000
    · rw [hcE, if_pos hn]
      obtain ⟨N, rfl⟩ := Int.eq_ofNat_of_zero_le hn.1
      rw [show ((N : Int)).toNat = N from rfl]
      obtain ⟨q0, q1⟩ := hn
      have hN4 : Hid (N ≤ 4000000000) := Lib.hid (by omega)
      by_cases ht : timesE a N = 0
      · have HT := Lib.hid ht
        rw [ht]
        clear oa h0 hcE ht
        show Calls _ _ _ _ fun e w' => e = .returned (vlV a.k 0 0 (bsz (timesL a.s.data.toList N))) ∧ Below w.heap.size w w'
        go_enter Try.func92, Try.ntmps92
        go_wp2_with (first
          | (go_at_call 57; refine (demStr1_any a (w.heap.size + 1) 1 _ H1.out (VlsAt.one (Row.new2 _ _ _ _)) (by simp)).mono ?_; rw [HE.out, outE_ok]; rintro e w1 ⟨rfl, hb1⟩; have B1 := Lib.hid (bl_box2 (Below.refl _ w) hb1); have S1 := (RS.alloc _).keep hb1; have N1 := (RN.alloc _).keep hb1; have Z1 := (RZ.alloc _).keep hb1; obtain ⟨x0, x1, x2, x3⟩ := S1.four; have y0 := N1.one; have ls := S1.lt; have ln := N1.lt; clear hb1)
          | (go_at_call 93; refine (within1_ok 0 1000000000 _ w1.heap.size 1 _ (Row.new _ _ _).one q0 q1).mono ?_; rintro e w2 ⟨rfl, rfl⟩; have Z2 := Z1.alloc (.cells #[.int .i64 N] 3))
          | (go_at_call 90; refine (times_any a N _ la.out hN4.out).mono ?_; rw [HT.out, outE_ok]; rintro e w3 ⟨rfl, hb3⟩; have B3 := Lib.hid (bl_box B1.out hb3); have Z3 := Z2.keep hb3; obtain ⟨z0, z1, z2, z3⟩ := Z3.four; have f0 := Z3.free 0; have f1 := Z3.free 1; have f2 := Z3.free 2; have f3 := Z3.free 3))
        refine bodyPost_ret (v := vlV a.k 0 0 (bsz (timesL a.s.data.toList N))) (by simp [results, Try.results92, go_sem, z0, z1, z2, z3]) rfl ⟨rfl, ?_⟩
        (repeat refine Below.setCell ?_ (by simp <;> omega) _)
        exact B3.out
      · have HT := Lib.hid (outE_no (vlV a.k 0 0 (bsz (timesL a.s.data.toList N))) ht)
        rw [outE_no _ ht]
        clear oa h0 hcE ht
        go_enter Try.func92, Try.ntmps92
        go_wp2_with (first
          | (go_at_call 57; refine (demStr1_any a (w.heap.size + 1) 1 _ H1.out (VlsAt.one (Row.new2 _ _ _ _)) (by simp)).mono ?_; rw [HE.out, outE_ok]; rintro e w1 ⟨rfl, hb1⟩; have B1 := Lib.hid (bl_box2 (Below.refl _ w) hb1); have S1 := (RS.alloc _).keep hb1; have N1 := (RN.alloc _).keep hb1; have Z1 := (RZ.alloc _).keep hb1; obtain ⟨x0, x1, x2, x3⟩ := S1.four; have y0 := N1.one; have ls := S1.lt; have ln := N1.lt; clear hb1)
          | (go_at_call 93; refine (within1_ok 0 1000000000 _ w1.heap.size 1 _ (Row.new _ _ _).one q0 q1).mono ?_; rintro e w2 ⟨rfl, rfl⟩; have Z2 := Z1.alloc (.cells #[.int .i64 N] 3))
          | (go_at_call 90; refine (times_any a N _ la.out hN4.out).mono ?_; rw [HT.out]; rintro e w3 ⟨rfl, hb3⟩; have B3 := Lib.hid (bl_box B1.out hb3)))
        exact ⟨rfl, rfl, B3.out⟩
    · rw [hcE, if_neg hn]
      have hn' : Hid (n < 0 ∨ (0 ≤ n ∧ 1000000000 < n)) := Lib.hid (by omega)
      clear oa h0 hcE hn
      show Calls _ _ _ _ fun e w' => e = bRef 7 ∧ Below w.heap.size w w'
      go_enter Try.func92, Try.ntmps92
      go_wp2_with (first
        | (go_at_call 57; refine (demStr1_any a (w.heap.size + 1) 1 _ H1.out (VlsAt.one (Row.new2 _ _ _ _)) (by simp)).mono ?_; rw [HE.out, outE_ok]; rintro e w1 ⟨rfl, hb1⟩; have B1 := Lib.hid (bl_box2 (Below.refl _ w) hb1); have S1 := (RS.alloc _).keep hb1; have N1 := (RN.alloc _).keep hb1; have Z1 := (RZ.alloc _).keep hb1; obtain ⟨x0, x1, x2, x3⟩ := S1.four; have y0 := N1.one; have ls := S1.lt; have ln := N1.lt; clear hb1)
        | (go_at_call 93; refine (within1_no 0 1000000000 _ w1.heap.size 1 _ (Row.new _ _ _).one hn'.out).mono ?_; rintro e w2 ⟨rfl, rfl⟩))
      exact ⟨rfl, rfl, B1.out.alloc B1.out.size _⟩
  · have HE := Lib.hid (outE_no (.tuple #[]) h0)
    rw [show copyE a n = strE a from if_neg h0, outE_no _ h0]
    clear h0
    go_enter Try.func92, Try.ntmps92
    go_wp2_with (go_at_call 57; refine (demStr1_any a (w.heap.size + 1) 1 _ H1.out (VlsAt.one (Row.new2 _ _ _ _)) (by simp)).mono ?_; rw [HE.out]; rintro e w1 ⟨rfl, hb1⟩; have B1 := Lib.hid (bl_box2 (Below.refl _ w) hb1))
    exact ⟨rfl, rfl, B1.out⟩

set_option maxRecDepth 100000 in
set_option maxHeartbeats 2000000 in
theorem bCopy_any (a : Vl) (n : Int) (w : World) (hs : a.s.size ≤ maxLen) :
    Calls Try.prog 29 #[a.v, .int .i64 n] w fun e w' => e = .returned (.tuple #[orV (copyE a n) a.k (timesL a.s.data.toList n.toNat), .int .i64 (copyE a n)]) ∧ Below w.heap.size w w' := by
  have hmf : ∀ (fn : Fn) (first cap : Array Value) (w : World), (Instr.makeFunc fn first cap).run Try.prog w = .ok (.func fn first cap) w := fun _ _ _ _ => rfl
  have H1 := Lib.hid hs
  clear hs
  have HC : Hid (∀ W, Below (((w.alloc (.cells (vlC a.k a.n a.q a.s) 23)).alloc (.cells #[.int .i64 n] 3)).alloc (.cells (vlC 0 0 0 ⟨#[]⟩) 23)).heap.size (((w.alloc (.cells (vlC a.k a.n a.q a.s) 23)).alloc (.cells #[.int .i64 n] 3)).alloc (.cells (vlC 0 0 0 ⟨#[]⟩) 23)) W → Calls Try.prog 92 #[ptr w.heap.size, ptr (w.heap.size + 1)] W fun e w' => e = outE (copyE a n) (vlV a.k 0 0 (bsz (timesL a.s.data.toList n.toNat))) ∧ Below W.heap.size W w') := by
    show ∀ _, _
    intro W hW
    exact cCopy_any a n _ _ W ((((Row.new _ _ _).alloc _).alloc _).keep hW) (((Row.new2 _ _ _ _).alloc _).keep hW) H1.out
  have RZ := Row.new3 w (.cells (vlC a.k a.n a.q a.s) 23) (.cells #[.int .i64 n] 3) (vlC 0 0 0 ⟨#[]⟩) 23
  generalize copyE a n = E at HC ⊢
  generalize timesL a.s.data.toList n.toNat = J at HC ⊢
  have HR : Hid ((if E = 0 then vlV a.k 0 0 (bsz J) else vlV 0 0 0 ⟨#[]⟩) = vlV (if E = 0 then a.k else 0) 0 0 (if E = 0 then bsz J else ⟨#[]⟩)) := by
    show _ = _
    split <;> rfl
  unfold orV
  generalize (if E = 0 then a.k else 0) = K at HR ⊢
  generalize (if E = 0 then bsz J else ⟨#[]⟩) = L at HR ⊢
  go_enter Try.func29, Try.ntmps29
  go_wp2_with (go_at_call 85; refine (bAnsV_any 92 _ E a.k 0 0 _ _ (fun W => by kernel_rfl) HC.out).mono ?_; rw [HR.out]; rintro e w1 ⟨rfl, hb1⟩; have Z1 := RZ.keep hb1; obtain ⟨z0, z1, z2, z3⟩ := Z1.four; have f0 := Z1.free 0; have f1 := Z1.free 1; have f2 := Z1.free 2; have f3 := Z1.free 3; have lz := Z1.lt)
  refine bodyPost_ret (v := .tuple #[vlV K 0 0 L, .int .i64 E]) (by simp [results, Try.results29, go_sem, z0, z1, z2, z3]) rfl ⟨rfl, ?_⟩
  (repeat refine Below.setCell ?_ (by simp <;> omega) _)
  exact below_then (by go_grown) hb1 (by simp <;> omega)
end Go.Proofs.Ytgoghblfficfpaa
