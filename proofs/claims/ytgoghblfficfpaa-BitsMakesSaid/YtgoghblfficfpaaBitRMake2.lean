/- The document's times, Copy, Repeat. -/
import Derived.Test.YtgoghblfficfpaaBitRMake1
namespace Go.Proofs.Ytgoghblfficfpaa
open Go.RowKit

theorem room_of {l m : Nat} (hl : 0 < l) (h : l * m ≤ 250) : roomB l m = true := by
  unfold roomB
  have h1 : (l == 0) = false := by simp; omega
  have h2 : (m : Int) * l ≤ 250 := by
    have h3 : m * l ≤ 250 := by rw [Nat.mul_comm]; exact h
    have : ((m * l : Nat) : Int) ≤ 250 := Int.ofNat_le.2 h3
    rwa [Int.natCast_mul] at this
  rw [h1, Bool.false_or, decide_eq_true_eq]
  exact (Int.le_ediv_iff_mul_le (by omega)).2 h2
theorem room_zero (l : Nat) : roomB l 0 = true := by
  rcases Nat.eq_zero_or_pos l with rfl | h
  · rfl
  · exact room_of h (by simp)
theorem timesL_len (l : List UInt8) (m : Nat) : (timesL l m).length = l.length * m := tellL_len _ _
set_option maxRecDepth 100000 in
set_option maxHeartbeats 4000000 in
theorem rTimes_any (a : Vl) (m : Nat) (w : World) (la : a.s.size ≤ 100000) (hm : m ≤ 4000000000) :
    Calls Try.prog 91 #[a.v, .int .i64 m] w fun e w' => e = .returned (.tuple #[orV (timesE a m) a.k (timesL a.s.data.toList m), .int .i64 (timesE a m)]) ∧ Below w.heap.size w w' := by
  have RZ := Row.new2 w (.cells (vlC a.k a.n a.q a.s) 23) (vlC 0 0 0 ⟨#[]⟩) 23
  have n1 : ¬ w.heap.size = w.heap.size + 1 := by omega
  have n2 : ¬ w.heap.size + 1 = w.heap.size := by omega
  rcases Nat.eq_zero_or_pos m with rfl | hmp
  · rw [show timesE a 0 = 0 by rw [timesE, show roomB a.s.size ((0 : Nat) : Int) = true from room_zero _]; rfl, timesL_zero]
    show Calls _ _ _ _ fun e w' => e = .returned (.tuple #[vlV a.k 0 0 ⟨#[]⟩, .int .i64 0]) ∧ Below w.heap.size w w'
    go_enter Try.func91, Try.ntmps91
    go_wp2
    go_loop [6, 7] (fun o v => v = .int .i64 0 ∧ o = .string ⟨#[]⟩) (fun _ _ => 0)
    case atStart => exact ⟨rfl, rfl⟩
    case round =>
      obtain ⟨rfl, rfl⟩ := hrel
      go_wp2_with (go_at_call 62; refine (made_any _ _ _).mono ?_; rintro e w2 ⟨rfl, hb2⟩; have B2 := Lib.hid (bl_box2 (Below.refl _ w) hb2); have Z2 := RZ.keep hb2; obtain ⟨z0, z1, z2, z3⟩ := Z2.four; have f0 := Z2.free 0; have f1 := Z2.free 1; have f2 := Z2.free 2; have f3 := Z2.free 3)
      refine bodyPost_ret (v := .tuple #[vlV a.k 0 0 ⟨#[]⟩, .int .i64 0]) (by simp [results, Try.results91, go_sem, z0, z1, z2, z3]) rfl ⟨rfl, ?_⟩
      (repeat refine Below.setCell ?_ (by simp <;> omega) _)
      exact B2.out
  · have dm : decide (0 < (m : Int)) = true := by simp only [decide_eq_true_eq]; omega
    have dm' : decide (0 < m) = true := by simp only [decide_eq_true_eq]; omega
    rcases Nat.eq_zero_or_pos a.s.size with hz | hsp
    · have e2 : a.s.toList = [] := by rw [ByteArray.toList_eq]; exact List.eq_nil_of_length_eq_zero (by rw [lsz]; exact hz)
      have e1 : (a.s.toList == []) = true := beq_iff_eq.2 e2
      have hl : a.s.data.toList = [] := List.eq_nil_of_length_eq_zero (by rw [lsz]; exact hz)
      have ds : decide (0 < (a.s.size : Int)) = false := by simp only [decide_eq_false_iff_not]; omega
      have ds' : decide (0 < a.s.size) = false := by simp only [decide_eq_false_iff_not]; omega
      rw [show timesE a m = 0 by rw [timesE, hz]; rfl, hl, timesL_nil]
      clear hl
      show Calls _ _ _ _ fun e w' => e = .returned (.tuple #[vlV a.k 0 0 ⟨#[]⟩, .int .i64 0]) ∧ Below w.heap.size w w'
      go_enter Try.func91, Try.ntmps91
      go_wp2
      go_loop [6, 7] (fun o v => v = .int .i64 0 ∧ o = .string ⟨#[]⟩) (fun _ _ => 0)
      case atStart => exact ⟨rfl, rfl⟩
      case round =>
        obtain ⟨rfl, rfl⟩ := hrel
        go_wp2_with (go_at_call 62; refine (made_any _ _ _).mono ?_; rintro e w2 ⟨rfl, hb2⟩; have B2 := Lib.hid (bl_box2 (Below.refl _ w) hb2); have Z2 := RZ.keep hb2; obtain ⟨z0, z1, z2, z3⟩ := Z2.four; have f0 := Z2.free 0; have f1 := Z2.free 1; have f2 := Z2.free 2; have f3 := Z2.free 3)
        refine bodyPost_ret (v := .tuple #[vlV a.k 0 0 ⟨#[]⟩, .int .i64 0]) (by simp [results, Try.results91, go_sem, z0, z1, z2, z3]) rfl ⟨rfl, ?_⟩
        (repeat refine Below.setCell ?_ (by simp <;> omega) _)
        exact B2.out
    · have e2 : ¬ a.s.toList = [] := fun e => by rw [ByteArray.toList_eq] at e; have := lsz a.s; rw [e] at this; simp at this; omega
      have e1 : (a.s.toList == []) = false := by simpa using e2
      have e3 : (!a.s.toList.isEmpty) = true := by simpa using e2
      have ds : decide (0 < (a.s.size : Int)) = true := by simp only [decide_eq_true_eq]; omega
      have ds' : decide (0 < a.s.size) = true := by simp only [decide_eq_true_eq]; omega
      by_cases hm2 : m ≤ 250
      · have dm2 : decide (250 < (m : Int)) = false := by simp only [decide_eq_false_iff_not]; omega
        have dm2' : decide (250 < m) = false := by simp only [decide_eq_false_iff_not]; omega
        have hb0 : a.s.size * m ≤ 100000 * 250 := Nat.mul_le_mul la hm2
        have hcast : ((m : Int) * (a.s.size : Int)) = ((a.s.size * m : Nat) : Int) := by rw [Int.natCast_mul, Int.mul_comm]
        have hw : IntKind.i64.wrap ((m : Int) * (a.s.size : Int)) = (m : Int) * (a.s.size : Int) := IntWalk.i64_in _ (by rw [hcast]; omega)
        by_cases hr : a.s.size * m ≤ 250
        · have d4 : decide (250 < (m : Int) * (a.s.size : Int)) = false := by rw [hcast]; simp only [decide_eq_false_iff_not]; omega
          rw [show timesE a m = 0 by rw [timesE, room_of hsp hr]; rfl]
          have hle : ∀ j, j ≤ m → a.s.size * j ≤ 250 := fun j hj => Nat.le_trans (Nat.mul_le_mul_left _ hj) hr
          have HLE := Lib.hid hle
          clear hcast hb0 hr hle
          show Calls _ _ _ _ fun e w' => e = .returned (.tuple #[vlV a.k 0 0 (bsz (timesL a.s.data.toList m)), .int .i64 0]) ∧ Below w.heap.size w w'
          go_enter Try.func91, Try.ntmps91
          go_wp2
          clear d4 hw
          go_loop [6, 7] (fun o v => ∃ j : Nat, j ≤ m ∧ v = .int .i64 j ∧ o = .string (bsz (timesL a.s.data.toList j))) (fun _ v => m - (intOf v).toNat)
          case atStart => exact ⟨0, Nat.zero_le _, rfl, by rw [timesL_zero]⟩
          case round =>
            obtain ⟨j, hj, rfl, rfl⟩ := hrel
            by_cases hlt : j < m
            · have s1 : ∀ W, (Op.stringOp .add (bsz (timesL a.s.data.toList j)) a.s).run Try.prog W = .ok (.string (bsz (timesL a.s.data.toList (j + 1)))) W := fun W =>
                bsadd (timesL a.s.data.toList j) a.s.data.toList _ (timesL_succ _ _).symm (by rw [timesL_len, lsz]; have := HLE.out j hj; omega) (by rw [lsz]; omega) W
              go_wp2
              go_round
              case rel => exact ⟨j + 1, by omega, by go_num, rfl⟩
              case measure => simp [intOf]; omega
            · obtain rfl : j = m := by omega
              go_wp2_with (go_at_call 62; refine (made_any _ _ _).mono ?_; rintro e w2 ⟨rfl, hb2⟩; have B2 := Lib.hid (bl_box2 (Below.refl _ w) hb2); have Z2 := RZ.keep hb2; obtain ⟨z0, z1, z2, z3⟩ := Z2.four; have f0 := Z2.free 0; have f1 := Z2.free 1; have f2 := Z2.free 2; have f3 := Z2.free 3)
              refine bodyPost_ret (v := .tuple #[vlV a.k 0 0 (bsz (timesL a.s.data.toList j)), .int .i64 0]) (by simp [results, Try.results91, go_sem, z0, z1, z2, z3]) rfl ⟨rfl, ?_⟩
              (repeat refine Below.setCell ?_ (by simp <;> omega) _)
              exact B2.out
        · have d4 : decide (250 < (m : Int) * (a.s.size : Int)) = true := by rw [hcast]; simp only [decide_eq_true_eq]; omega
          rw [show timesE a m = 3 by rw [timesE, if_neg (fun h => hr (times_room h))]]
          have d5 : 250 < (m : Int) * (a.s.size : Int) := of_decide_eq_true d4
          clear hcast hb0 hr
          show Calls _ _ _ _ fun e w' => e = .returned (.tuple #[vlV 0 0 0 ⟨#[]⟩, .int .i64 3]) ∧ Below w.heap.size w w'
          go_enter Try.func91, Try.ntmps91
          go_wp2
          exact bodyPost_ret (v := .tuple #[vlV 0 0 0 ⟨#[]⟩, .int .i64 3]) (by simp [results, Try.results91, go_sem]) rfl ⟨rfl, by go_grown⟩
      · have dm2 : decide (250 < (m : Int)) = true := by simp only [decide_eq_true_eq]; omega
        have dm2' : decide (250 < m) = true := by simp only [decide_eq_true_eq]; omega
        rw [show timesE a m = 3 by rw [timesE, if_neg (fun h => hm2 (Nat.le_trans (Nat.le_mul_of_pos_left m hsp) (times_room h)))]]
        show Calls _ _ _ _ fun e w' => e = .returned (.tuple #[vlV 0 0 0 ⟨#[]⟩, .int .i64 3]) ∧ Below w.heap.size w w'
        go_enter Try.func91, Try.ntmps91
        go_wp2
        exact bodyPost_ret (v := .tuple #[vlV 0 0 0 ⟨#[]⟩, .int .i64 3]) (by simp [results, Try.results91, go_sem]) rfl ⟨rfl, by go_grown⟩

set_option maxRecDepth 100000 in
set_option maxHeartbeats 4000000 in
theorem rCopy_any (a : Vl) (n : Int) (w : World) (hs : a.s.size ≤ maxLen) :
    Calls Try.prog 30 #[a.v, .int .i64 n] w fun e w' => e = .returned (.tuple #[orV (copyE a n) a.k (timesL a.s.data.toList n.toNat), .int .i64 (copyE a n)]) ∧ Below w.heap.size w w' := by
  have RA := (Row.new w (vlC a.k a.n a.q a.s) 23).alloc (.cells (vlC 0 0 0 ⟨#[]⟩) 23)
  have RZ := Row.new2 w (.cells (vlC a.k a.n a.q a.s) 23) (vlC 0 0 0 ⟨#[]⟩) 23
  have n1 : ¬ w.heap.size = w.heap.size + 1 := by omega
  have n2 : ¬ w.heap.size + 1 = w.heap.size := by omega
  have HS := Lib.hid hs
  clear hs
  cases ho : a.ok with
  | false =>
    have e0 : strE a = 1 := by rw [strE, ho]; rfl
    have e : copyE a n = 1 := by rw [copyE, e0]; rfl
    have HO : Hid (okV a.k a.n a.q a.s.data.toList = false) := Lib.hid ho
    rw [e]
    clear e e0 ho
    show Calls _ _ _ _ fun e w' => e = .returned (.tuple #[vlV 0 0 0 ⟨#[]⟩, .int .i64 1]) ∧ Below w.heap.size w w'
    go_enter Try.func30, Try.ntmps30
    go_wp2_with (go_at_call 60; refine (rValid_b false _ _ _ _ _ HS.out HO.out).mono ?_; rintro e w1 ⟨rfl, hb1⟩; have B1 := Lib.hid (bl_box2 (Below.refl _ w) hb1); have Z1 := RZ.keep hb1; obtain ⟨z0, z1, z2, z3⟩ := Z1.four; have f0 := Z1.free 0; have f1 := Z1.free 1; have f2 := Z1.free 2; have f3 := Z1.free 3)
    refine bodyPost_ret (v := .tuple #[vlV 0 0 0 ⟨#[]⟩, .int .i64 1]) (by simp [results, Try.results30, go_sem, z0, z1, z2, z3]) rfl ⟨rfl, ?_⟩
    (repeat refine Below.setCell ?_ (by simp <;> omega) _)
    exact B1.out
  | true =>
    have e0 : strE a = 0 := by rw [strE, ho]; rfl
    have la : Hid (a.s.size ≤ 100000) := Lib.hid (by have := okT_len (okV_eq ho).2.2; rw [lsz] at this; omega)
    have HO : Hid (okV a.k a.n a.q a.s.data.toList = true) := Lib.hid ho
    cases hp : plainI n with
    | false =>
      have e : copyE a n = 7 := by rw [copyE, if_pos e0, if_neg (fun h => by
        have : plainI n = true := by simp only [plainI, Bool.and_eq_true, decide_eq_true_eq]; omega
        rw [hp] at this; cases this)]
      have HP := Lib.hid hp
      rw [e]
      clear e e0 ho hp
      show Calls _ _ _ _ fun e w' => e = .returned (.tuple #[vlV 0 0 0 ⟨#[]⟩, .int .i64 7]) ∧ Below w.heap.size w w'
      go_enter Try.func30, Try.ntmps30
      go_wp2_with (first
        | (go_at_call 60; refine (rValid_b true _ _ _ _ _ HS.out HO.out).mono ?_; rintro e w1 ⟨rfl, hb1⟩; have B1 := Lib.hid (bl_box2 (Below.refl _ w) hb1); have Z1 := RZ.keep hb1)
        | (go_at_call 61; refine (plain1_any n w1.heap.size 1 _ (Row.new _ _ _).one).mono ?_; rw [HP.out]; rintro e w2 ⟨rfl, rfl⟩; have lz := Z1.lt; obtain ⟨z0, z1, z2, z3⟩ := Z1.four; have f0 := Z1.free 0; have f1 := Z1.free 1; have f2 := Z1.free 2; have f3 := Z1.free 3; have n3 : ¬ w.heap.size + 1 = w1.heap.size := (by omega); have n4 : ¬ w1.heap.size = w.heap.size + 1 := (by omega)))
      refine bodyPost_ret (v := .tuple #[vlV 0 0 0 ⟨#[]⟩, .int .i64 7]) (by simp [results, Try.results30, go_sem, z0, z1, z2, z3, lz]) rfl ⟨rfl, ?_⟩
      refine Below.alloc ?_ (by have := B1.out.size; simp; omega) _
      (repeat refine Below.setCell ?_ (by simp) _)
      exact B1.out
    | true =>
      have hpp := plainI_yes hp
      have HP := Lib.hid hp
      by_cases hng : n < 0
      · have e : copyE a n = 7 := by rw [copyE, if_pos e0, if_neg (by omega)]
        have d1 : decide (n < 0) = true := decide_eq_true hng
        rw [e]
        clear e e0 ho hp
        show Calls _ _ _ _ fun e w' => e = .returned (.tuple #[vlV 0 0 0 ⟨#[]⟩, .int .i64 7]) ∧ Below w.heap.size w w'
        go_enter Try.func30, Try.ntmps30
        go_wp2_with (first
          | (go_at_call 60; refine (rValid_b true _ _ _ _ _ HS.out HO.out).mono ?_; rintro e w1 ⟨rfl, hb1⟩; have B1 := Lib.hid (bl_box2 (Below.refl _ w) hb1); have Z1 := RZ.keep hb1)
          | (go_at_call 61; refine (plain1_any n w1.heap.size 1 _ (Row.new _ _ _).one).mono ?_; rw [HP.out]; rintro e w2 ⟨rfl, rfl⟩; have lz := Z1.lt; obtain ⟨z0, z1, z2, z3⟩ := Z1.four; have f0 := Z1.free 0; have f1 := Z1.free 1; have f2 := Z1.free 2; have f3 := Z1.free 3; have n3 : ¬ w.heap.size + 1 = w1.heap.size := (by omega); have n4 : ¬ w1.heap.size = w.heap.size + 1 := (by omega)))
        refine bodyPost_ret (v := .tuple #[vlV 0 0 0 ⟨#[]⟩, .int .i64 7]) (by simp [results, Try.results30, go_sem, z0, z1, z2, z3, lz]) rfl ⟨rfl, ?_⟩
        refine Below.alloc ?_ (by have := B1.out.size; simp; omega) _
        (repeat refine Below.setCell ?_ (by simp) _)
        exact B1.out
      · have e : copyE a n = timesE a n.toNat := by rw [copyE, if_pos e0, if_pos (by omega)]
        rw [e]
        clear e
        obtain ⟨N, rfl⟩ := Int.eq_ofNat_of_zero_le (by omega : 0 ≤ n)
        have d1 : decide ((N : Int) < 0) = false := by simp only [decide_eq_false_iff_not]; omega
        rw [show ((N : Int)).toNat = N from rfl]
        have hN4 : Hid (N ≤ 4000000000) := Lib.hid (by omega)
        have HC : Hid (∀ W, Calls Try.prog 91 #[a.v, .int .i64 (N : Nat)] W fun e w' => e = .returned (.tuple #[orV (timesE a N) a.k (timesL a.s.data.toList N), .int .i64 (timesE a N)]) ∧ Below W.heap.size W w') := by
          show ∀ _, _
          intro W
          exact rTimes_any a N W la.out hN4.out
        unfold orV at HC ⊢
        generalize timesE a N = E at HC ⊢
        generalize (if E = 0 then a.k else 0) = K at HC ⊢
        generalize (if E = 0 then bsz (timesL a.s.data.toList N) else ⟨#[]⟩) = L at HC ⊢
        clear ho hp hpp e0
        go_enter Try.func30, Try.ntmps30
        go_wp2_with (first
          | (go_at_call 60; refine (rValid_b true _ _ _ _ _ HS.out HO.out).mono ?_; rintro e w1 ⟨rfl, hb1⟩; have B1 := Lib.hid (bl_box2 (Below.refl _ w) hb1); have Z1 := RZ.keep hb1; have A1 := RA.keep hb1; have la1 := A1.lt; obtain ⟨x0, x1, x2, x3⟩ := A1.four)
          | (go_at_call 61; refine (plain1_any _ w1.heap.size 1 _ (Row.new _ _ _).one).mono ?_; rw [HP.out]; rintro e w2 ⟨rfl, rfl⟩; have Z2 := Z1.alloc (.cells #[.int .i64 N] 3))
          | (go_at_call 91; refine (HC.out _).mono ?_; rintro e w3 ⟨rfl, hb3⟩; have B3 := Lib.hid (bl_box B1.out hb3); have Z3 := Z2.keep hb3; obtain ⟨z0, z1, z2, z3⟩ := Z3.four; have f0 := Z3.free 0; have f1 := Z3.free 1; have f2 := Z3.free 2; have f3 := Z3.free 3))
        refine bodyPost_ret (v := .tuple #[vlV K 0 0 L, .int .i64 E]) (by simp [results, Try.results30, go_sem, z0, z1, z2, z3]) rfl ⟨rfl, ?_⟩
        (repeat refine Below.setCell ?_ (by simp <;> omega) _)
        exact B3.out
end Go.Proofs.Ytgoghblfficfpaa
