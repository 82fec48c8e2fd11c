/- The document's SetSub. -/
import Derived.Test.YtgoghblfficfpaaBitRSub
import Derived.Test.YtgoghblfficfpaaBitSetSub
namespace Go.Proofs.Ytgoghblfficfpaa
open Go.RowKit

theorem setF_out {k : Int} {l : List UInt8} {i m : Int} {v : List UInt8} {j : Nat} (h : ¬ (0 ≤ (j : Int) - (i - 1) ∧ (j : Int) - (i - 1) < m)) : setF k l i m v j = getF k l j := if_neg h
theorem setF_in {k : Int} {l : List UInt8} {i m : Int} {v : List UInt8} {j : Nat} (h : 0 ≤ (j : Int) - (i - 1) ∧ (j : Int) - (i - 1) < m) : setF k l i m v j = getF k v ((j : Int) - (i - 1)).toNat := if_pos h

set_option maxRecDepth 100000 in
set_option maxHeartbeats 8000000 in
theorem rSetSub_any (a : Vl) (i m : Int) (v : Vl) (w : World) (hs : a.s.size ≤ maxLen) (hs' : v.s.size ≤ maxLen) :
    Calls Try.prog 15 #[a.v, .int .i64 i, .int .i64 m, v.v] w fun e w' => e = .returned (.tuple #[orV (setE a v i m) a.k (setL a.k a.s.data.toList i m v.s.data.toList), .int .i64 (orI (setE a v i m) (partC a.s.data.toList i m)), .int .i64 (setE a v i m)]) ∧ Below w.heap.size w w' := by
  have RA := ((Row.new w (vlC a.k a.n a.q a.s) 23).alloc (.cells (vlC v.k v.n v.q v.s) 23)).alloc (.cells (vlC 0 0 0 ⟨#[]⟩) 23)
  have RV := (Row.new2 w (.cells (vlC a.k a.n a.q a.s) 23) (vlC v.k v.n v.q v.s) 23).alloc (.cells (vlC 0 0 0 ⟨#[]⟩) 23)
  have RZ := Row.new3 w (.cells (vlC a.k a.n a.q a.s) 23) (.cells (vlC v.k v.n v.q v.s) 23) (vlC 0 0 0 ⟨#[]⟩) 23
  have H1 := Lib.hid hs
  have H2 := Lib.hid hs'
  clear hs hs'
  by_cases h0 : alikeE a v = 0
  · obtain ⟨oa, ob, ok⟩ := alikeE_ok h0
    have la := vl_room2 a oa
    have lv := vl_room2 v ob
    have HO := Lib.hid ok
    have HE := Lib.hid h0
    cases hp : (plainI i && plainI m) with
    | false =>
      have e : setE a v i m = 7 := by rw [setE, if_pos h0, hp]; rfl
      have HP := Lib.hid hp
      rw [e]
      clear e hp h0 oa ob ok
      show Calls _ _ _ _ fun e w' => e = .returned (.tuple #[vlV 0 0 0 ⟨#[]⟩, .int .i64 0, .int .i64 7]) ∧ Below w.heap.size w w'
      go_enter Try.func15, Try.ntmps15
      go_wp2_with (first
        | (go_at_call 68; refine (rStr2_any a v (w.heap.size + 1 + 1 + 1) 2 _ H1.out H2.out (VlsAt.two (Row.new4 _ _ _ _ _ _)) (by simp)).mono ?_; rw [HE.out]; rintro e w1 ⟨rfl, hb1⟩; have B1 : Below w.heap.size w w1 := below_then (by go_grown) hb1 (by simp <;> omega); have Z1 := (RZ.alloc _).keep hb1)
        | (go_at_call 61; refine (plain2_any i m w1.heap.size 2 _ (Row.new _ _ _).two.1 (Row.new _ _ _).two.2).mono ?_; rw [HP.out]; rintro e w2 ⟨rfl, rfl⟩; have lz := Z1.lt; obtain ⟨z0, z1, z2, z3⟩ := Z1.four; have f0 := Z1.free 0; have f1 := Z1.free 1; have f2 := Z1.free 2; have f3 := Z1.free 3; have n1 : ¬ w.heap.size + 1 + 1 = w1.heap.size := (by omega); have n2 : ¬ w1.heap.size = w.heap.size + 1 + 1 := (by omega)))
      refine bodyPost_ret (v := .tuple #[vlV 0 0 0 ⟨#[]⟩, .int .i64 0, .int .i64 7]) (by simp [results, Try.results15, go_sem, z0, z1, z2, z3, lz]) rfl ⟨rfl, ?_⟩
      refine Below.alloc ?_ (by have := B1.size; simp; omega) _
      (repeat refine Below.setCell ?_ (by simp <;> omega) _)
      exact B1
    | true =>
      have hpp : plainI i = true ∧ plainI m = true := by simpa using hp
      have e : setE a v i m = 0 := by rw [setE, if_pos h0, hp]; rfl
      have HP := Lib.hid hp
      obtain ⟨i1, i2⟩ := plain_in hpp.1
      obtain ⟨m1, m2⟩ := plain_in hpp.2
      rw [e]
      clear e hp h0 oa ob ok hpp
      show Calls _ _ _ _ fun e w' => e = .returned (.tuple #[vlV a.k 0 0 (bsz (setL a.k a.s.data.toList i m v.s.data.toList)), .int .i64 (partC a.s.data.toList i m), .int .i64 0]) ∧ Below w.heap.size w w'
      have HA : Hid (tellL a.s.size (setF a.k a.s.data.toList i m v.s.data.toList) = setL a.k a.s.data.toList i m v.s.data.toList) := by show _ = _; unfold setL; rw [lsz]
      go_enter Try.func15, Try.ntmps15
      go_wp2_with (first
        | (go_at_call 68; refine (rStr2_any a v (w.heap.size + 1 + 1 + 1) 2 _ H1.out H2.out (VlsAt.two (Row.new4 _ _ _ _ _ _)) (by simp)).mono ?_; rw [HE.out]; rintro e w1 ⟨rfl, hb1⟩; have B1 : Below w.heap.size w w1 := below_then (by go_grown) hb1 (by simp <;> omega); have Z1 := (RZ.alloc _).keep hb1; have A1 := (RA.alloc _).keep hb1; have V1 := (RV.alloc _).keep hb1)
        | (go_at_call 61; refine (plain2_any i m w1.heap.size 2 _ (Row.new _ _ _).two.1 (Row.new _ _ _).two.2).mono ?_; rw [HP.out]; rintro e w2 ⟨rfl, rfl⟩))
      have B2 := Lib.hid (B1.alloc B1.size (.cells #[.int .i64 i, .int .i64 m] 3))
      have Z2 := Z1.alloc (.cells #[.int .i64 i, .int .i64 m] 3)
      have A2 := A1.alloc (.cells #[.int .i64 i, .int .i64 m] 3)
      have V2 := V1.alloc (.cells #[.int .i64 i, .int .i64 m] 3)
      generalize w1.alloc (.cells #[.int .i64 i, .int .i64 m] 3) = W at *
      clear hb1 B1 Z1 A1 V1 RA RV RZ
      obtain ⟨x0, x1, x2, x3⟩ := A2.four
      obtain ⟨y0, y1, y2, y3⟩ := V2.four
      go_wp2
      go_loop [12, 13] (fun o x => ∃ k : Nat, k ≤ a.s.size ∧ x = .int .i64 ((k : Int) + 1) ∧ o = .string (bsz (tellL k (setF a.k a.s.data.toList i m v.s.data.toList)))) (fun _ x => a.s.size + 1 - (intOf x).toNat)
      case atStart => exact ⟨0, Nat.zero_le _, rfl, rfl⟩
      case round =>
        obtain ⟨k, hk, rfl, rfl⟩ := hrel
        by_cases hlt : k < a.s.size
        · have hx := ext_one a.s k hlt
          have hl1 : (tellL k (setF a.k a.s.data.toList i m v.s.data.toList)).length ≤ 250 := by rw [tellL_len]; omega
          have hsc := tellL_succ k (setF a.k a.s.data.toList i m v.s.data.toList)
          by_cases hin : 0 ≤ (k : Int) - (i - 1) ∧ (k : Int) - (i - 1) < m
          · have he := setF_in (k := a.k) (l := a.s.data.toList) (v := v.s.data.toList) hin
            obtain ⟨N, hN0⟩ := Int.eq_ofNat_of_zero_le hin.1
            rw [show ((k : Int) - (i - 1)).toNat = N by omega] at he
            have hN : (k : Int) + 1 - i = N := by omega
            have hNm : (N : Int) < m := by omega
            have d2 : decide ((N : Int) < m) = true := decide_eq_true hNm
            by_cases c3 : N < v.s.size
            · have hy := ext_one v.s N c3
              have c3' : (N : Int) < v.s.size := by omega
              have s1 : ∀ W, (Op.stringOp .add (bsz (tellL k (setF a.k a.s.data.toList i m v.s.data.toList))) (v.s.extract N (N + 1))).run Try.prog W = .ok (.string (bsz (tellL (k + 1) (setF a.k a.s.data.toList i m v.s.data.toList)))) W := fun W => by
                rw [hy]; exact bsadd _ [v.s[N]] _ (by rw [hsc, he, getF_b a.k v.s N c3]) (by omega) (by simp) W
              have d3 : decide ((N : Int) < v.s.size) = true := decide_eq_true c3'
              have d3' : decide (N < v.s.size) = true := decide_eq_true c3
              clear hx hl1 hsc he hy hin hN0
              go_wp2_with (go_at_call 69; refine (filler_any _ _).mono ?_; rintro e w2 ⟨rfl, rfl⟩)
              go_round
              case rel => exact ⟨k + 1, by omega, by go_num, rfl⟩
              case measure => simp [intOf]; omega
            · have c3' : (v.s.size : Int) ≤ N := by omega
              have s1 : ∀ W, (Op.stringOp .add (bsz (tellL k (setF a.k a.s.data.toList i m v.s.data.toList))) (bsz [fillC a.k])).run Try.prog W = .ok (.string (bsz (tellL (k + 1) (setF a.k a.s.data.toList i m v.s.data.toList)))) W := fun W => 
                bsadd _ [fillC a.k] _ (by rw [hsc, he, getF_ge (by rw [lsz]; omega)]) (by omega) (by simp) W
              have d3 : decide ((N : Int) < v.s.size) = false := by simp only [decide_eq_false_iff_not]; omega
              have d3' : decide (N < v.s.size) = false := by simp only [decide_eq_false_iff_not]; omega
              clear hx hl1 hsc he hin hN0 c3
              go_wp2_with (go_at_call 69; refine (filler_any _ _).mono ?_; rintro e w2 ⟨rfl, rfl⟩)
              go_round
              case rel => exact ⟨k + 1, by omega, by go_num, rfl⟩
              case measure => simp [intOf]; omega
          · have he := setF_out (k := a.k) (l := a.s.data.toList) (v := v.s.data.toList) hin
            have s1 : ∀ W, (Op.stringOp .add (bsz (tellL k (setF a.k a.s.data.toList i m v.s.data.toList))) (a.s.extract k (k + 1))).run Try.prog W = .ok (.string (bsz (tellL (k + 1) (setF a.k a.s.data.toList i m v.s.data.toList)))) W := fun W => by
              rw [hx]; exact bsadd _ [a.s[k]] _ (by rw [hsc, he, getF_b a.k a.s k hlt]) (by omega) (by simp) W
            by_cases c1 : (0 : Int) ≤ (k : Int) + 1 - i
            · have c2 : m ≤ (k : Int) + 1 - i := by omega
              have d1 : decide ((0 : Int) ≤ (k : Int) + 1 - i) = true := decide_eq_true c1
              have d2 : decide ((k : Int) + 1 - i < m) = false := by simp only [decide_eq_false_iff_not]; omega
              have c1' : i ≤ (k : Int) + 1 := by omega
              have d1' : decide (i ≤ (k : Int) + 1) = true := decide_eq_true c1'
              clear hx hl1 hsc he hin
              go_wp2
              go_round
              case rel => exact ⟨k + 1, by omega, by go_num, rfl⟩
              case measure => simp [intOf]; omega
            · have c2 : (k : Int) + 1 - i < 0 := by omega
              have d1 : decide ((0 : Int) ≤ (k : Int) + 1 - i) = false := decide_eq_false c1
              clear hx hl1 hsc he hin c1
              go_wp2
              go_round
              case rel => exact ⟨k + 1, by omega, by go_num, rfl⟩
              case measure => simp [intOf]; omega
        · obtain rfl : k = a.s.size := by omega
          clear hk hlt
          by_cases g1 : 1 ≤ i
          · have d1 : decide (i < 1) = false := by simp only [decide_eq_false_iff_not]; omega
            by_cases g2 : 0 ≤ m
            · have d2 : decide (m < 0) = false := by simp only [decide_eq_false_iff_not]; omega
              by_cases g3 : i + m - 1 ≤ (a.s.size : Int)
              · have d3 : decide ((a.s.size : Int) < i + m - 1) = false := by simp only [decide_eq_false_iff_not]; omega
                have HC : Hid (partC a.s.data.toList i m = 0) := Lib.hid (partC_of (by rw [lsz]; exact ⟨g1, g2, g3⟩))
                go_wp2_with (go_at_call 62; refine (made_any _ _ _).mono ?_; rintro e w3 ⟨rfl, hb3⟩; have Z3 := Z2.keep hb3; obtain ⟨z0, z1, z2, z3⟩ := Z3.four; have f0 := Z3.free 0; have f1 := Z3.free 1; have f2 := Z3.free 2; have f3 := Z3.free 3)
                refine bodyPost_ret (v := .tuple #[vlV a.k 0 0 (bsz (tellL a.s.size (setF a.k a.s.data.toList i m v.s.data.toList))), .int .i64 0, .int .i64 0]) (by simp [results, Try.results15, go_sem, z0, z1, z2, z3]) rfl ⟨by rw [HA.out, HC.out], ?_⟩
                (repeat refine Below.setCell ?_ (by simp <;> omega) _)
                exact bl_then B2.out hb3
              · have d3 : decide ((a.s.size : Int) < i + m - 1) = true := by simp only [decide_eq_true_eq]; omega
                have HC : Hid (partC a.s.data.toList i m = 5) := Lib.hid (if_neg (by rw [lsz]; omega))
                have g4 : (a.s.size : Int) < i + m - 1 := by omega
                clear g3
                go_wp2_with (go_at_call 62; refine (made_any _ _ _).mono ?_; rintro e w3 ⟨rfl, hb3⟩; have Z3 := Z2.keep hb3; obtain ⟨z0, z1, z2, z3⟩ := Z3.four; have f0 := Z3.free 0; have f1 := Z3.free 1; have f2 := Z3.free 2; have f3 := Z3.free 3)
                refine bodyPost_ret (v := .tuple #[vlV a.k 0 0 (bsz (tellL a.s.size (setF a.k a.s.data.toList i m v.s.data.toList))), .int .i64 5, .int .i64 0]) (by simp [results, Try.results15, go_sem, z0, z1, z2, z3]) rfl ⟨by rw [HA.out, HC.out], ?_⟩
                (repeat refine Below.setCell ?_ (by simp <;> omega) _)
                exact bl_then B2.out hb3
            · have d2 : decide (m < 0) = true := by simp only [decide_eq_true_eq]; omega
              have HC : Hid (partC a.s.data.toList i m = 5) := Lib.hid (if_neg (by omega))
              have g4 : m < 0 := by omega
              clear g2
              go_wp2_with (go_at_call 62; refine (made_any _ _ _).mono ?_; rintro e w3 ⟨rfl, hb3⟩; have Z3 := Z2.keep hb3; obtain ⟨z0, z1, z2, z3⟩ := Z3.four; have f0 := Z3.free 0; have f1 := Z3.free 1; have f2 := Z3.free 2; have f3 := Z3.free 3)
              refine bodyPost_ret (v := .tuple #[vlV a.k 0 0 (bsz (tellL a.s.size (setF a.k a.s.data.toList i m v.s.data.toList))), .int .i64 5, .int .i64 0]) (by simp [results, Try.results15, go_sem, z0, z1, z2, z3]) rfl ⟨by rw [HA.out, HC.out], ?_⟩
              (repeat refine Below.setCell ?_ (by simp <;> omega) _)
              exact bl_then B2.out hb3
          · have d1 : decide (i < 1) = true := by simp only [decide_eq_true_eq]; omega
            have HC : Hid (partC a.s.data.toList i m = 5) := Lib.hid (if_neg (by omega))
            have g4 : i < 1 := by omega
            clear g1
            go_wp2_with (go_at_call 62; refine (made_any _ _ _).mono ?_; rintro e w3 ⟨rfl, hb3⟩; have Z3 := Z2.keep hb3; obtain ⟨z0, z1, z2, z3⟩ := Z3.four; have f0 := Z3.free 0; have f1 := Z3.free 1; have f2 := Z3.free 2; have f3 := Z3.free 3)
            refine bodyPost_ret (v := .tuple #[vlV a.k 0 0 (bsz (tellL a.s.size (setF a.k a.s.data.toList i m v.s.data.toList))), .int .i64 5, .int .i64 0]) (by simp [results, Try.results15, go_sem, z0, z1, z2, z3]) rfl ⟨by rw [HA.out, HC.out], ?_⟩
            (repeat refine Below.setCell ?_ (by simp <;> omega) _)
            exact bl_then B2.out hb3
  · have e : setE a v i m = alikeE a v := if_neg h0
    have e1 : (alikeE a v != 0) = true := by simpa using h0
    have e2 : (alikeE a v == 0) = false := by simpa using h0
    rw [e, orV, orI, if_neg h0, if_neg h0, if_neg h0]
    generalize hE : alikeE a v = E at e1 e2 ⊢
    have HE := Lib.hid hE
    clear h0 hE e
    go_enter Try.func15, Try.ntmps15
    go_wp2_with (go_at_call 68; refine (rStr2_any a v (w.heap.size + 1 + 1 + 1) 2 _ H1.out H2.out (VlsAt.two (Row.new4 _ _ _ _ _ _)) (by simp)).mono ?_; rw [HE.out]; rintro e w1 ⟨rfl, hb1⟩; have B1 : Below w.heap.size w w1 := below_then (by go_grown) hb1 (by simp <;> omega); have Z1 := (RZ.alloc _).keep hb1; obtain ⟨z0, z1, z2, z3⟩ := Z1.four; have f0 := Z1.free 0; have f1 := Z1.free 1; have f2 := Z1.free 2; have f3 := Z1.free 3)
    refine bodyPost_ret (v := .tuple #[vlV 0 0 0 ⟨#[]⟩, .int .i64 0, .int .i64 E]) (by simp [results, Try.results15, go_sem, z0, z1, z2, z3]) rfl ⟨rfl, ?_⟩
    (repeat refine Below.setCell ?_ (by simp <;> omega) _)
    exact B1
end Go.Proofs.Ytgoghblfficfpaa
