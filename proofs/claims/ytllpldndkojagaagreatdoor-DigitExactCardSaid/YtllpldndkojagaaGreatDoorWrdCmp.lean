/- digit.compare: the order of two numbers by their words; cmp.Compare of ints and of words. -/
import Derived.Test.YtllpldndkojagaaGreatDoorWrdRow
import Derived.WalkSmall
namespace Go.Proofs.YtllpldndkojagaaGreatDoor
open Go.RowKit

def cmpZ (x y : Int) : Int := if x < y then -1 else if y < x then 1 else 0
theorem cmpZ_lt {x y : Int} (h : x < y) : cmpZ x y = -1 := if_pos h
theorem cmpZ_gt {x y : Int} (h : y < x) : cmpZ x y = 1 := by unfold cmpZ; rw [if_neg (by omega), if_pos h]
theorem cmpZ_eq {x y : Int} (h : x = y) : cmpZ x y = 0 := by unfold cmpZ; rw [if_neg (by omega), if_neg (by omega)]

theorem notnan_i (x : Int) (w : World) : Calls Tryz.prog 100 #[.int .i64 x] w fun e w' => e = .returned (.bool false) ∧ w = w' := by
  go_enter Tryz.func100, Tryz.ntmps100
  go_wp2
  go_ret
  exact ⟨by simp, rfl⟩
theorem notnan_w (x : Int) (w : World) : Calls Tryz.prog 101 #[.int .u32 x] w fun e w' => e = .returned (.bool false) ∧ w = w' := by
  go_enter Tryz.func101, Tryz.ntmps101
  go_wp2
  go_ret
  exact ⟨by simp, rfl⟩
set_option maxHeartbeats 1000000 in
theorem cmp_i (x y : Int) (w : World) : Calls Tryz.prog 71 #[.int .i64 x, .int .i64 y] w fun e w' => e = .returned (.int .i64 (cmpZ x y)) ∧ w = w' := by
  by_cases h1 : x < y
  · rw [cmpZ_lt h1]
    have d : decide (x < y) = true := decide_eq_true h1
    go_enter Tryz.func71, Tryz.ntmps71
    go_wp2_with (go_at_call 100; refine (notnan_i _ _).mono ?_; rintro e w' ⟨rfl, rfl⟩)
    go_ret
    exact ⟨rfl, rfl⟩
  · by_cases h2 : y < x
    · rw [cmpZ_gt h2]
      have d : decide (x < y) = false := decide_eq_false h1
      have d2 : decide (y < x) = true := decide_eq_true h2
      clear h1
      go_enter Tryz.func71, Tryz.ntmps71
      go_wp2_with (go_at_call 100; refine (notnan_i _ _).mono ?_; rintro e w' ⟨rfl, rfl⟩)
      go_ret
      exact ⟨rfl, rfl⟩
    · rw [cmpZ_eq (by omega)]
      have d : decide (x < y) = false := decide_eq_false h1
      have d2 : decide (y < x) = false := decide_eq_false h2
      clear h1 h2
      go_enter Tryz.func71, Tryz.ntmps71
      go_wp2_with (go_at_call 100; refine (notnan_i _ _).mono ?_; rintro e w' ⟨rfl, rfl⟩)
      go_ret
      exact ⟨rfl, rfl⟩
set_option maxHeartbeats 1000000 in
theorem cmp_w (x y : Int) (w : World) : Calls Tryz.prog 72 #[.int .u32 x, .int .u32 y] w fun e w' => e = .returned (.int .i64 (cmpZ x y)) ∧ w = w' := by
  by_cases h1 : x < y
  · rw [cmpZ_lt h1]
    have d : decide (x < y) = true := decide_eq_true h1
    go_enter Tryz.func72, Tryz.ntmps72
    go_wp2_with (go_at_call 101; refine (notnan_w _ _).mono ?_; rintro e w' ⟨rfl, rfl⟩)
    go_ret
    exact ⟨rfl, rfl⟩
  · by_cases h2 : y < x
    · rw [cmpZ_gt h2]
      have d : decide (x < y) = false := decide_eq_false h1
      have d2 : decide (y < x) = true := decide_eq_true h2
      clear h1
      go_enter Tryz.func72, Tryz.ntmps72
      go_wp2_with (go_at_call 101; refine (notnan_w _ _).mono ?_; rintro e w' ⟨rfl, rfl⟩)
      go_ret
      exact ⟨rfl, rfl⟩
    · rw [cmpZ_eq (by omega)]
      have d : decide (x < y) = false := decide_eq_false h1
      have d2 : decide (y < x) = false := decide_eq_false h2
      clear h1 h2
      go_enter Tryz.func72, Tryz.ntmps72
      go_wp2_with (go_at_call 101; refine (notnan_w _ _).mono ?_; rintro e w' ⟨rfl, rfl⟩)
      go_ret
      exact ⟨rfl, rfl⟩

theorem wrds_lt {a b : Nat} (h : (wrds a).length < (wrds b).length) : a < b := by
  have := wval_lt_of_length (wrds_digs a) (wrds_neat b) h
  rwa [wval_digs, wval_digs] at this
theorem wrds_lt_at {a b k : Nat} (ha : k < (wrds a).length) (hb : k < (wrds b).length) (ht : (wrds a).drop (k + 1) = (wrds b).drop (k + 1)) (h : (wrds a)[k] < (wrds b)[k]) : a < b := by
  have := wval_lt_of_place k (wrds_digs a) ha hb ht h
  rwa [wval_digs, wval_digs] at this

set_option maxRecDepth 100000 in
set_option maxHeartbeats 2000000 in
theorem compare_d {B C a b : Nat} {va vb : Value} {w : World} (hA : WArg B w va a) (hB : WArg C w vb b) (la : (wrds a).length ≤ 1000000) (lb : (wrds b).length ≤ 1000000) :
    Calls Tryz.prog 27 #[va, vb] w fun e w' => e = .returned (.int .i64 (cmpZ a b)) ∧ Below w.heap.size w w' := by
  obtain ⟨pa, ba, ka, rfl, a1, a2, a3, a4⟩ := hA.parts
  obtain ⟨pb, bb, kb, rfl, b1, b2, b3, b4⟩ := hB.parts
  clear hA hB
  by_cases hl : (wrds a).length = (wrds b).length
  · have d0 : (((wrds a).length : Int) != ((wrds b).length : Int)) = false := by rw [hl]; simp
    have d0' : (((wrds a).length : Int) == ((wrds b).length : Int)) = true := by rw [hl]; simp
    have H3 := Lib.hid a3; have G3 := Lib.hid b3; have HL := Lib.hid hl
    have A1 := Lib.hid a1; have B1 := Lib.hid b1; have A4 := Lib.hid a4; have B4 := Lib.hid b4
    clear a3 b3 hl a1 b1 a4 b4
    go_enter Tryz.func27, Tryz.ntmps27
    go_wp2
    go_loopw [5] (fun v wr => ∃ k : Nat, k ≤ (wrds a).length ∧ v = .int .i64 ((k : Int) - 1) ∧ Hid ((wrds a).drop k = (wrds b).drop k) ∧ Below w.heap.size w wr) (fun v _ => (intOf v + 1).toNat)
    case atStart => exact ⟨(wrds a).length, Nat.le_refl _, by rw [HL.out], by show _ = _; rw [List.drop_length, HL.out, List.drop_length], Below.refl _ _⟩
    case round =>
      obtain ⟨k, hk, rfl, HD, hB⟩ := hrel
      have HB := Lib.hid hB
      by_cases h0 : k = 0
      · subst h0
        have HR : Hid (cmpZ a b = 0) := by
          show _ = _
          have e : wrds a = wrds b := by simpa using HD.out
          have : a = b := by rw [← wval_digs a, ← wval_digs b, e]
          exact cmpZ_eq (by omega)
        go_wp2
        go_ret
        exact ⟨by rw [HR.out]; rfl, HB.out⟩
      · obtain ⟨m, rfl⟩ : ∃ m, k = m + 1 := ⟨k - 1, by omega⟩
        have e1 := A1.out (by omega)
        have e2 := B1.out (by have := HL.out; omega)
        subst e1
        subst e2
        have hma : m < (wrds a).length := by omega
        have hmb : m < (wrds b).length := by have := HL.out; omega
        have c1 := (hB.cell (p := ⟨ba, m, none⟩) (show ba < w.heap.size from A4.out (by omega))).trans (H3.out m hma)
        have c2 := (hB.cell (p := ⟨bb, m, none⟩) (show bb < w.heap.size from B4.out (by omega))).trans (G3.out m hmb)
        clear hB
        have i1 : ((m + 1 : Nat) : Int) - 1 = m := by omega
        have i2 : (m : Int) < ((wrds a).length : Int) := by omega
        have i3 : (m : Int) < ((wrds b).length : Int) := by omega
        by_cases hc : (wrds a)[m] = (wrds b)[m]
        · have f1 : (((wrds a)[m] : Int) != ((wrds b)[m] : Int)) = false := by rw [hc]; simp
          have f2 : (((wrds a)[m] : Int) == ((wrds b)[m] : Int)) = true := by rw [hc]; simp
          have HD2 : Hid ((wrds a).drop m = (wrds b).drop m) := by
            show _ = _
            rw [List.drop_eq_getElem_cons hma, List.drop_eq_getElem_cons hmb, hc, HD.out]
          clear hc
          go_wp2
          go_quiet (fail)
          go_wp2
          go_roundw
          case rel => exact ⟨m, by omega, by go_num, HD2, below_drewN HB.out _⟩
          case measure => simp [intOf]
        · have f1 : (((wrds a)[m] : Int) != ((wrds b)[m] : Int)) = true := by rw [bne_iff_ne]; omega
          have f2 : (((wrds a)[m] : Int) == ((wrds b)[m] : Int)) = false := by rw [beq_eq_false_iff_ne]; omega
          have HR : Hid (cmpZ (wrds a)[m] (wrds b)[m] = cmpZ a b) := by
            show _ = _
            rcases Nat.lt_or_gt_of_ne hc with h | h
            · have := wrds_lt_at hma hmb HD.out h
              rw [cmpZ_lt (by omega), cmpZ_lt (by omega)]
            · have := wrds_lt_at hmb hma HD.out.symm h
              rw [cmpZ_gt (by omega), cmpZ_gt (by omega)]
          have HC : Hid (∀ W, Calls Tryz.prog 72 #[.int .u32 ((wrds a)[m] : Int), .int .u32 ((wrds b)[m] : Int)] W fun e w' => e = .returned (.int .i64 (cmpZ (wrds a)[m] (wrds b)[m])) ∧ w' = W) := Lib.hid fun W => (cmp_w _ _ W).mono fun _ _ ⟨h1, h2⟩ => ⟨h1, h2.symm⟩
          clear hc
          go_wp2
          go_quiet (fail)
          go_wp2
          have BW := Lib.hid (below_drewN HB.out nq)
          have c1d : (wr.drewN nq).cell? ⟨ba, m, none⟩ = some (.int .u32 ((wrds a)[m] : Int)) := c1
          have c2d : (wr.drewN nq).cell? ⟨bb, m, none⟩ = some (.int .u32 ((wrds b)[m] : Int)) := c2
          generalize wr.drewN nq = W2 at *
          go_quiet ((go_at_call 72; exact Calls.quiet_of_same (HC.out _)))
          go_wp2
          go_ret
          exact ⟨by rw [HR.out]; rfl, below_drewN BW.out _⟩
  · have d0 : (((wrds a).length : Int) != ((wrds b).length : Int)) = true := by rw [bne_iff_ne]; omega
    have d0' : (((wrds a).length : Int) == ((wrds b).length : Int)) = false := by rw [beq_eq_false_iff_ne]; omega
    have HR : Hid (cmpZ (wrds a).length (wrds b).length = cmpZ a b) := by
      show _ = _
      rcases Nat.lt_or_gt_of_ne hl with h | h
      · have := wrds_lt h
        rw [cmpZ_lt (by omega), cmpZ_lt (by omega)]
      · have := wrds_lt h
        rw [cmpZ_gt (by omega), cmpZ_gt (by omega)]
    clear hl
    go_enter Tryz.func27, Tryz.ntmps27
    go_wp2_with (go_at_call 71; refine (cmp_i _ _ _).mono ?_; rintro e w' ⟨rfl, rfl⟩)
    go_ret
    exact ⟨by rw [HR.out]; rfl, Below.refl _ _⟩
end Go.Proofs.YtllpldndkojagaaGreatDoor
