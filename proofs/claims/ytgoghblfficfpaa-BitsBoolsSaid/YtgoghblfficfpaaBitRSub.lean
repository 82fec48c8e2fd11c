/- The document's Sub. -/
import Derived.Test.YtgoghblfficfpaaBitRefE
import Derived.Test.YtgoghblfficfpaaBitSub
import Derived.Test.YtgoghblfficfpaaBitCmp2
namespace Go.Proofs.Ytgoghblfficfpaa
open Go.RowKit

theorem vl_room2 (a : Vl) (h : a.ok = true) : a.s.size ≤ 250 := by
  have := okT_len (okV_eq h).2.2; rwa [lsz] at this
theorem ext_one (s : ByteArray) (k : Nat) (h : k < s.size) : s.extract k (k + 1) = bsz [s[k]] := by
  have e : (s.extract k (k + 1)).data.toList = [s[k]] := by
    rw [Lib.extract_data, show k + 1 - k = 1 by omega, List.drop_eq_getElem_cons (by rw [lsz]; exact h)]
    rfl
  rw [← e]
theorem subTo_len (l : List UInt8) (i n : Int) (k : Nat) : (subTo l i n k).length ≤ l.length := by
  unfold subTo; simp; omega

set_option maxRecDepth 100000 in
set_option maxHeartbeats 4000000 in
theorem rSub_any (a : Vl) (i m : Int) (w : World) (hs : a.s.size ≤ maxLen) :
    Calls Try.prog 11 #[a.v, .int .i64 i, .int .i64 m] w fun e w' => e = .returned (.tuple #[orV (subE a i m) a.k (subL a.s.data.toList i m), .int .i64 (orI (subE a i m) (partC a.s.data.toList i m)), .int .i64 (subE a i m)]) ∧ Below w.heap.size w w' := by
  have RA := (Row.new w (vlC a.k a.n a.q a.s) 23).alloc (.cells (vlC 0 0 0 ⟨#[]⟩) 23)
  have RZ := Row.new2 w (.cells (vlC a.k a.n a.q a.s) 23) (vlC 0 0 0 ⟨#[]⟩) 23
  have HS := Lib.hid hs
  cases ho : a.ok with
  | false =>
    have e : subE a i m = 1 := by rw [subE, ho]; rfl
    have HO : Hid (okV a.k a.n a.q a.s.data.toList = false) := Lib.hid ho
    rw [e]
    clear e ho hs
    show Calls _ _ _ _ fun e w' => e = .returned (.tuple #[vlV 0 0 0 ⟨#[]⟩, .int .i64 0, .int .i64 1]) ∧ Below w.heap.size w w'
    go_enter Try.func11, Try.ntmps11
    go_wp2_with (go_at_call 60; refine (rValid_b false _ _ _ _ _ HS.out HO.out).mono ?_; rintro e w1 ⟨rfl, hb1⟩; have B1 := bl_box2 (Below.refl _ w) hb1; have Z1 := RZ.keep hb1; obtain ⟨z0, z1, z2, z3⟩ := Z1.four; have f0 := Z1.free 0; have f1 := Z1.free 1; have f2 := Z1.free 2; have f3 := Z1.free 3)
    refine bodyPost_ret (v := .tuple #[vlV 0 0 0 ⟨#[]⟩, .int .i64 0, .int .i64 1]) (by simp [results, Try.results11, go_sem, z0, z1, z2, z3]) rfl ⟨rfl, ?_⟩
    (repeat refine Below.setCell ?_ (by simp) _)
    exact B1
  | true =>
    have HO : Hid (okV a.k a.n a.q a.s.data.toList = true) := Lib.hid ho
    have la := vl_room2 a ho
    cases hp : (plainI i && plainI m) with
    | false =>
      have e : subE a i m = 7 := by rw [subE, ho, hp]; rfl
      have HP := Lib.hid hp
      rw [e]
      clear e ho hs hp
      show Calls _ _ _ _ fun e w' => e = .returned (.tuple #[vlV 0 0 0 ⟨#[]⟩, .int .i64 0, .int .i64 7]) ∧ Below w.heap.size w w'
      go_enter Try.func11, Try.ntmps11
      go_wp2_with (first
        | (go_at_call 60; refine (rValid_b true _ _ _ _ _ HS.out HO.out).mono ?_; rintro e w1 ⟨rfl, hb1⟩; have B1 := bl_box2 (Below.refl _ w) hb1; have Z1 := RZ.keep hb1)
        | (go_at_call 61; refine (plain2_any i m w1.heap.size 2 _ (Row.new _ _ _).two.1 (Row.new _ _ _).two.2).mono ?_; rw [HP.out]; rintro e w2 ⟨rfl, rfl⟩; have Z2 := Z1.alloc (.cells #[.int .i64 i, .int .i64 m] 3); have lz := Z1.lt; obtain ⟨z0, z1, z2, z3⟩ := Z1.four; have f0 := Z1.free 0; have f1 := Z1.free 1; have f2 := Z1.free 2; have f3 := Z1.free 3; have n1 : ¬ w.heap.size + 1 = w1.heap.size := (by omega); have n2 : ¬ w1.heap.size = w.heap.size + 1 := (by omega)))
      refine bodyPost_ret (v := .tuple #[vlV 0 0 0 ⟨#[]⟩, .int .i64 0, .int .i64 7]) (by simp [results, Try.results11, go_sem, z0, z1, z2, z3, lz]) rfl ⟨rfl, ?_⟩
      refine Below.alloc ?_ (by have := B1.size; simp; omega) _
      (repeat refine Below.setCell ?_ (by simp) _)
      exact B1
    | true =>
      have hpp : plainI i = true ∧ plainI m = true := by simpa using hp
      have e : subE a i m = 0 := by rw [subE, ho, hp]; rfl
      have HP := Lib.hid hp
      obtain ⟨i1, i2⟩ := plain_in hpp.1
      obtain ⟨m1, m2⟩ := plain_in hpp.2
      rw [e]
      clear e ho hs hp hpp
      show Calls _ _ _ _ fun e w' => e = .returned (.tuple #[vlV a.k 0 0 (bsz (subL a.s.data.toList i m)), .int .i64 (partC a.s.data.toList i m), .int .i64 0]) ∧ Below w.heap.size w w'
      have HA : Hid (subTo a.s.data.toList i m a.s.size = subL a.s.data.toList i m) := by show _ = _; have := subTo_all a.s.data.toList i m; rwa [lsz] at this
      have HZ0 := Lib.hid (subTo_zero a.s.data.toList i m)
      go_enter Try.func11, Try.ntmps11
      go_wp2_with (first
        | (go_at_call 60; refine (rValid_b true _ _ _ _ _ HS.out HO.out).mono ?_; rintro e w1 ⟨rfl, hb1⟩; have B1 := bl_box2 (Below.refl _ w) hb1; have Z1 := RZ.keep hb1; have A1 := RA.keep hb1)
        | (go_at_call 61; refine (plain2_any i m w1.heap.size 2 _ (Row.new _ _ _).two.1 (Row.new _ _ _).two.2).mono ?_; rw [HP.out]; rintro e w2 ⟨rfl, rfl⟩))
      have B2 := Lib.hid (B1.alloc B1.size (.cells #[.int .i64 i, .int .i64 m] 3))
      have Z2 := Z1.alloc (.cells #[.int .i64 i, .int .i64 m] 3)
      have A2 := A1.alloc (.cells #[.int .i64 i, .int .i64 m] 3)
      generalize w1.alloc (.cells #[.int .i64 i, .int .i64 m] 3) = W at *
      clear hb1 B1 Z1 A1 RA RZ
      obtain ⟨x0, x1, x2, x3⟩ := A2.four
      go_wp2
      go_loop [9, 10] (fun o v => ∃ k : Nat, k ≤ a.s.size ∧ v = .int .i64 ((k : Int) + 1) ∧ o = .string (bsz (subTo a.s.data.toList i m k))) (fun _ v => a.s.size + 1 - (intOf v).toNat)
      case atStart => exact ⟨0, Nat.zero_le _, rfl, by rw [HZ0.out]⟩
      case round =>
        obtain ⟨k, hk, rfl, rfl⟩ := hrel
        by_cases hlt : k < a.s.size
        · have hx := ext_one a.s k hlt
          have hl1 := subTo_len a.s.data.toList i m k
          rw [lsz] at hl1
          have hl2 : k < a.s.data.toList.length := by rw [lsz]; exact hlt
          by_cases hc : i ≤ k + 1 ∧ (k : Int) + 1 ≤ i + m - 1
          · have s1 : ∀ W, (Op.stringOp .add (bsz (subTo a.s.data.toList i m k)) (a.s.extract k (k + 1))).run Try.prog W = .ok (.string (bsz (subTo a.s.data.toList i m (k + 1)))) W := fun W => by
              rw [hx]; exact bsadd _ [a.s[k]] _ (subTo_in a.s.data.toList i m k hl2 hc.1 hc.2).symm (by omega) (by simp) W
            obtain ⟨c1, c2⟩ := hc
            have d1 : decide (i ≤ (k : Int) + 1) = true := decide_eq_true c1
            have d2 : decide ((k : Int) + 1 ≤ i + m - 1) = true := decide_eq_true c2
            clear hx hl1 hl2
            go_wp2
            go_round
            case rel => exact ⟨k + 1, by omega, by go_num, rfl⟩
            case measure => simp [intOf]; omega
          · have HN := Lib.hid (subTo_out a.s.data.toList i m k hl2 hc)
            by_cases c1 : i ≤ (k : Int) + 1
            · have c2 : ¬ (k : Int) + 1 ≤ i + m - 1 := fun e => hc ⟨c1, e⟩
              have d1 : decide (i ≤ (k : Int) + 1) = true := decide_eq_true c1
              have d2 : decide ((k : Int) + 1 ≤ i + m - 1) = false := decide_eq_false c2
              have c3 : i + m - 1 < (k : Int) + 1 := by omega
              clear hx hl1 hl2 hc c2
              go_wp2
              go_round
              case rel => exact ⟨k + 1, by omega, by go_num, by rw [HN.out]⟩
              case measure => simp [intOf]; omega
            · have d1 : decide (i ≤ (k : Int) + 1) = false := decide_eq_false c1
              have c3 : (k : Int) + 1 < i := by omega
              clear hx hl1 hl2 hc c1
              go_wp2
              go_round
              case rel => exact ⟨k + 1, by omega, by go_num, by rw [HN.out]⟩
              case measure => simp [intOf]; omega
        · obtain rfl : k = a.s.size := by omega
          clear hk hlt
          by_cases g1 : 1 ≤ i
          · have d1 : decide (i < 1) = false := by simp only [decide_eq_false_iff_not]; omega
            by_cases g2 : 0 ≤ m
            · have d2 : decide (m < 0) = false := by simp only [decide_eq_false_iff_not]; omega
              by_cases g3 : i + m - 1 ≤ (a.s.size : Int)
              · have d3 : decide ((a.s.size : Int) < i + m - 1) = false := by simp only [decide_eq_false_iff_not]; omega
                have HC : Hid (partC a.s.data.toList i m = 0) := Lib.hid (partC_of (by rw [lsz]; exact ⟨g1, g2, g3⟩))
                go_wp2_with (go_at_call 62; refine (made_any _ _ _).mono ?_; rintro e w3 ⟨rfl, hb3⟩; have Z3 := Z2.keep hb3; obtain ⟨z0, z1, z2, z3⟩ := Z3.four; have f0 := Z3.free 0; have f1 := Z3.free 1; have f2 := Z3.free 2; have f3 := Z3.free 3)
                refine bodyPost_ret (v := .tuple #[vlV a.k 0 0 (bsz (subTo a.s.data.toList i m a.s.size)), .int .i64 0, .int .i64 0]) (by simp [results, Try.results11, go_sem, z0, z1, z2, z3]) rfl ⟨by rw [HA.out, HC.out], ?_⟩
                (repeat refine Below.setCell ?_ (by simp) _)
                exact bl_then B2.out hb3
              · have d3 : decide ((a.s.size : Int) < i + m - 1) = true := by simp only [decide_eq_true_eq]; omega
                have HC : Hid (partC a.s.data.toList i m = 5) := Lib.hid (if_neg (by rw [lsz]; omega))
                have g4 : (a.s.size : Int) < i + m - 1 := by omega
                clear g3
                go_wp2_with (go_at_call 62; refine (made_any _ _ _).mono ?_; rintro e w3 ⟨rfl, hb3⟩; have Z3 := Z2.keep hb3; obtain ⟨z0, z1, z2, z3⟩ := Z3.four; have f0 := Z3.free 0; have f1 := Z3.free 1; have f2 := Z3.free 2; have f3 := Z3.free 3)
                refine bodyPost_ret (v := .tuple #[vlV a.k 0 0 (bsz (subTo a.s.data.toList i m a.s.size)), .int .i64 5, .int .i64 0]) (by simp [results, Try.results11, go_sem, z0, z1, z2, z3]) rfl ⟨by rw [HA.out, HC.out], ?_⟩
                (repeat refine Below.setCell ?_ (by simp) _)
                exact bl_then B2.out hb3
            · have d2 : decide (m < 0) = true := by simp only [decide_eq_true_eq]; omega
              have HC : Hid (partC a.s.data.toList i m = 5) := Lib.hid (if_neg (by omega))
              have g4 : m < 0 := by omega
              clear g2
              go_wp2_with (go_at_call 62; refine (made_any _ _ _).mono ?_; rintro e w3 ⟨rfl, hb3⟩; have Z3 := Z2.keep hb3; obtain ⟨z0, z1, z2, z3⟩ := Z3.four; have f0 := Z3.free 0; have f1 := Z3.free 1; have f2 := Z3.free 2; have f3 := Z3.free 3)
              refine bodyPost_ret (v := .tuple #[vlV a.k 0 0 (bsz (subTo a.s.data.toList i m a.s.size)), .int .i64 5, .int .i64 0]) (by simp [results, Try.results11, go_sem, z0, z1, z2, z3]) rfl ⟨by rw [HA.out, HC.out], ?_⟩
              (repeat refine Below.setCell ?_ (by simp) _)
              exact bl_then B2.out hb3
          · have d1 : decide (i < 1) = true := by simp only [decide_eq_true_eq]; omega
            have HC : Hid (partC a.s.data.toList i m = 5) := Lib.hid (if_neg (by omega))
            have g4 : i < 1 := by omega
            clear g1
            go_wp2_with (go_at_call 62; refine (made_any _ _ _).mono ?_; rintro e w3 ⟨rfl, hb3⟩; have Z3 := Z2.keep hb3; obtain ⟨z0, z1, z2, z3⟩ := Z3.four; have f0 := Z3.free 0; have f1 := Z3.free 1; have f2 := Z3.free 2; have f3 := Z3.free 3)
            refine bodyPost_ret (v := .tuple #[vlV a.k 0 0 (bsz (subTo a.s.data.toList i m a.s.size)), .int .i64 5, .int .i64 0]) (by simp [results, Try.results11, go_sem, z0, z1, z2, z3]) rfl ⟨by rw [HA.out, HC.out], ?_⟩
            (repeat refine Below.setCell ?_ (by simp) _)
            exact bl_then B2.out hb3
end Go.Proofs.Ytgoghblfficfpaa
