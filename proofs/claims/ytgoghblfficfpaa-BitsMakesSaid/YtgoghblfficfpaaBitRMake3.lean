/- The document's Repeat. -/
import Derived.Test.YtgoghblfficfpaaBitRMake2
namespace Go.Proofs.Ytgoghblfficfpaa
open Go.RowKit

set_option maxRecDepth 100000 in
set_option maxHeartbeats 4000000 in
theorem rRepeat_any (a : Vl) (n : Int) (w : World) (hs : a.s.size ≤ maxLen) :
    Calls Try.prog 28 #[a.v, .int .i64 n] w fun e w' => e = .returned (.tuple #[orV (repeatE a n) a.k (timesL a.s.data.toList (repN n)), .int .i64 (repeatE a n)]) ∧ Below w.heap.size w w' := by
  have RA := (Row.new w (vlC a.k a.n a.q a.s) 23).alloc (.cells (vlC 0 0 0 ⟨#[]⟩) 23)
  have RZ := Row.new2 w (.cells (vlC a.k a.n a.q a.s) 23) (vlC 0 0 0 ⟨#[]⟩) 23
  have n1 : ¬ w.heap.size = w.heap.size + 1 := by omega
  have n2 : ¬ w.heap.size + 1 = w.heap.size := by omega
  have HS := Lib.hid hs
  clear hs
  cases ho : a.ok with
  | false =>
    have e0 : strE a = 1 := by rw [strE, ho]; rfl
    have e : repeatE a n = 1 := by rw [repeatE, e0]; rfl
    have HO : Hid (okV a.k a.n a.q a.s.data.toList = false) := Lib.hid ho
    rw [e]
    clear e e0 ho
    show Calls _ _ _ _ fun e w' => e = .returned (.tuple #[vlV 0 0 0 ⟨#[]⟩, .int .i64 1]) ∧ Below w.heap.size w w'
    go_enter Try.func28, Try.ntmps28
    go_wp2_with (go_at_call 60; refine (rValid_b false _ _ _ _ _ HS.out HO.out).mono ?_; rintro e w1 ⟨rfl, hb1⟩; have B1 := Lib.hid (bl_box2 (Below.refl _ w) hb1); have Z1 := RZ.keep hb1; obtain ⟨z0, z1, z2, z3⟩ := Z1.four; have f0 := Z1.free 0; have f1 := Z1.free 1; have f2 := Z1.free 2; have f3 := Z1.free 3)
    refine bodyPost_ret (v := .tuple #[vlV 0 0 0 ⟨#[]⟩, .int .i64 1]) (by simp [results, Try.results28, go_sem, z0, z1, z2, z3]) rfl ⟨rfl, ?_⟩
    (repeat refine Below.setCell ?_ (by simp <;> omega) _)
    exact B1.out
  | true =>
    have e0 : strE a = 0 := by rw [strE, ho]; rfl
    have la : Hid (a.s.size ≤ 100000) := Lib.hid (by have := okT_len (okV_eq ho).2.2; rw [lsz] at this; omega)
    have HO : Hid (okV a.k a.n a.q a.s.data.toList = true) := Lib.hid ho
    cases hp : plainI n with
    | false =>
      have e : repeatE a n = 7 := by rw [repeatE, if_pos e0, hp]; rfl
      have HP := Lib.hid hp
      rw [e]
      clear e e0 ho hp
      show Calls _ _ _ _ fun e w' => e = .returned (.tuple #[vlV 0 0 0 ⟨#[]⟩, .int .i64 7]) ∧ Below w.heap.size w w'
      go_enter Try.func28, Try.ntmps28
      go_wp2_with (first
        | (go_at_call 60; refine (rValid_b true _ _ _ _ _ HS.out HO.out).mono ?_; rintro e w1 ⟨rfl, hb1⟩; have B1 := Lib.hid (bl_box2 (Below.refl _ w) hb1); have Z1 := RZ.keep hb1)
        | (go_at_call 61; refine (plain1_any n w1.heap.size 1 _ (Row.new _ _ _).one).mono ?_; rw [HP.out]; rintro e w2 ⟨rfl, rfl⟩; have lz := Z1.lt; obtain ⟨z0, z1, z2, z3⟩ := Z1.four; have f0 := Z1.free 0; have f1 := Z1.free 1; have f2 := Z1.free 2; have f3 := Z1.free 3; have n3 : ¬ w.heap.size + 1 = w1.heap.size := (by omega); have n4 : ¬ w1.heap.size = w.heap.size + 1 := (by omega)))
      refine bodyPost_ret (v := .tuple #[vlV 0 0 0 ⟨#[]⟩, .int .i64 7]) (by simp [results, Try.results28, go_sem, z0, z1, z2, z3, lz]) rfl ⟨rfl, ?_⟩
      refine Below.alloc ?_ (by have := B1.out.size; simp; omega) _
      (repeat refine Below.setCell ?_ (by simp) _)
      exact B1.out
    | true =>
      have hpp := plainI_yes hp
      have HP := Lib.hid hp
      have e : repeatE a n = timesE a (repN n) := by rw [repeatE, if_pos e0, if_pos hp]
      rw [e]
      clear e
      by_cases hneg : n < 0
      · have hmx : max 0 n = 0 := by omega
        have hcs : Hid ((1 : Int) = ((repN n : Nat) : Int)) := Lib.hid (by unfold repN; omega)
        have hN4 : Hid ((repN n) ≤ 4000000000) := Lib.hid (by unfold repN; omega)
        have HC : Hid (∀ W, Calls Try.prog 91 #[a.v, .int .i64 ((repN n : Nat) : Int)] W fun e w' => e = .returned (.tuple #[orV (timesE a (repN n)) a.k (timesL a.s.data.toList (repN n)), .int .i64 (timesE a (repN n))]) ∧ Below W.heap.size W w') := by
          show ∀ _, _
          intro W
          exact rTimes_any a (repN n) W la.out hN4.out
        unfold orV at HC ⊢
        generalize timesE a (repN n) = E at HC ⊢
        generalize (if E = 0 then a.k else 0) = K at HC ⊢
        generalize (if E = 0 then bsz (timesL a.s.data.toList (repN n)) else ⟨#[]⟩) = L at HC ⊢
        clear ho hp hpp e0
        go_enter Try.func28, Try.ntmps28
        go_wp2_with (first
          | (go_at_call 60; refine (rValid_b true _ _ _ _ _ HS.out HO.out).mono ?_; rintro e w1 ⟨rfl, hb1⟩; have B1 := Lib.hid (bl_box2 (Below.refl _ w) hb1); have Z1 := RZ.keep hb1; have A1 := RA.keep hb1; have la1 := A1.lt; obtain ⟨x0, x1, x2, x3⟩ := A1.four)
          | (go_at_call 61; refine (plain1_any _ w1.heap.size 1 _ (Row.new _ _ _).one).mono ?_; rw [HP.out]; rintro e w2 ⟨rfl, rfl⟩; have Z2 := Z1.alloc (.cells #[.int .i64 n] 3))
          | (go_at_call 91; (try rw [hcs.out]); refine (HC.out _).mono ?_; rintro e w3 ⟨rfl, hb3⟩; have B3 := Lib.hid (bl_box B1.out hb3); have Z3 := Z2.keep hb3; obtain ⟨z0, z1, z2, z3⟩ := Z3.four; have f0 := Z3.free 0; have f1 := Z3.free 1; have f2 := Z3.free 2; have f3 := Z3.free 3))
        refine bodyPost_ret (v := .tuple #[vlV K 0 0 L, .int .i64 E]) (by simp [results, Try.results28, go_sem, z0, z1, z2, z3]) rfl ⟨rfl, ?_⟩
        (repeat refine Below.setCell ?_ (by simp <;> omega) _)
        exact B3.out
      · obtain ⟨N, rfl⟩ := Int.eq_ofNat_of_zero_le (by omega : 0 ≤ n)
        have hmx : max 0 (N : Int) = N := by omega
        have hge : (0 : Int) ≤ N := by omega
        have hcs : Hid ((N : Int) + 1 = ((repN (N : Int) : Nat) : Int)) := Lib.hid (by unfold repN; omega)
        have hw : IntKind.i64.wrap ((N : Int) + 1) = (N : Int) + 1 := IntWalk.i64_in _ (by omega)
        have hif : Hid ((if 0 < N then (N : Int) else 0) = N) := Lib.hid (by split <;> omega)
        have HW : Hid (wrap64 ((N : Int) + 1) = ((repN (N : Int) : Nat) : Int)) := Lib.hid ((IntWalk.wrap64_in _ (by omega)).trans hcs.out)
        have hN4 : Hid ((repN (N : Int)) ≤ 4000000000) := Lib.hid (by unfold repN; omega)
        have HC : Hid (∀ W, Calls Try.prog 91 #[a.v, .int .i64 ((repN (N : Int) : Nat) : Int)] W fun e w' => e = .returned (.tuple #[orV (timesE a (repN (N : Int))) a.k (timesL a.s.data.toList (repN (N : Int))), .int .i64 (timesE a (repN (N : Int)))]) ∧ Below W.heap.size W w') := by
          show ∀ _, _
          intro W
          exact rTimes_any a (repN (N : Int)) W la.out hN4.out
        unfold orV at HC ⊢
        generalize timesE a (repN (N : Int)) = E at HC ⊢
        generalize (if E = 0 then a.k else 0) = K at HC ⊢
        generalize (if E = 0 then bsz (timesL a.s.data.toList (repN (N : Int))) else ⟨#[]⟩) = L at HC ⊢
        clear ho hp hpp e0
        go_enter Try.func28, Try.ntmps28
        go_wp2_with (first
          | (go_at_call 60; refine (rValid_b true _ _ _ _ _ HS.out HO.out).mono ?_; rintro e w1 ⟨rfl, hb1⟩; have B1 := Lib.hid (bl_box2 (Below.refl _ w) hb1); have Z1 := RZ.keep hb1; have A1 := RA.keep hb1; have la1 := A1.lt; obtain ⟨x0, x1, x2, x3⟩ := A1.four)
          | (go_at_call 61; refine (plain1_any _ w1.heap.size 1 _ (Row.new _ _ _).one).mono ?_; rw [HP.out]; rintro e w2 ⟨rfl, rfl⟩; have Z2 := Z1.alloc (.cells #[.int .i64 N] 3))
          | (go_at_call 91; rw [hif.out, HW.out]; refine (HC.out _).mono ?_; rintro e w3 ⟨rfl, hb3⟩; have B3 := Lib.hid (bl_box B1.out hb3); have Z3 := Z2.keep hb3; obtain ⟨z0, z1, z2, z3⟩ := Z3.four; have f0 := Z3.free 0; have f1 := Z3.free 1; have f2 := Z3.free 2; have f3 := Z3.free 3))
        refine bodyPost_ret (v := .tuple #[vlV K 0 0 L, .int .i64 E]) (by simp [results, Try.results28, go_sem, z0, z1, z2, z3]) rfl ⟨rfl, ?_⟩
        (repeat refine Below.setCell ?_ (by simp <;> omega) _)
        exact B3.out
end Go.Proofs.Ytgoghblfficfpaa
