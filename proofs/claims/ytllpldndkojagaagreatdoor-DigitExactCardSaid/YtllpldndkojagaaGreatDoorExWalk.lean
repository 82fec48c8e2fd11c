/- The law DigitExact, for any two values. The law DigitExact: its walk. -/
import Derived.Test.YtllpldndkojagaaGreatDoorExAdd
namespace Go.Proofs.YtllpldndkojagaaGreatDoor
open Go.RowKit

theorem natAbs_lt {z : Int} {m : Nat} (h1 : -(m : Int) < z) (h2 : z < m) : z.natAbs < m := by omega

theorem ok_1 : KindOK 1 2 31 := (.inl ⟨rfl, rfl, rfl⟩)
theorem add_fit_1 {na nb q : Int} {sa sb : ByteArray} (ha : FixedR 2147483648 na q sa) (hb : FixedR 2147483648 nb q sb) (h1 : -2147483648 < na + nb) (h2 : na + nb < 2147483648) (W : World) :
    Calls Tryz.prog 6 #[vaV 1 na q sa, vaV 1 nb q sb, .agg #[.int .i64 1, .int .i64 31, .int .i64 q, .int .i64 0, .bool false, .string emp]] W fun e w' => e = .returned (.tuple #[vaV 1 (na + nb) q emp, .int .i64 0, .int .i64 0]) ∧ Below W.heap.size W w' := by
  obtain ⟨q0, q1, a1, a2, rfl⟩ := ha
  obtain ⟨_, _, b1, b2, rfl⟩ := hb
  obtain ⟨q, rfl⟩ := Int.eq_ofNat_of_zero_le q0
  have e : ((2 ^ 31 : Nat) : Int) = 2147483648 := by decide
  refine add_w W fun W => rec_same ok_1 (by omega) (by rw [e]; omega) (by rw [e]; omega) (by rw [e]; omega) (by rw [e]; omega) W plus_hcf (plus_same ok_1 (by omega) (by omega) (by omega)) ?_
  intro W cap vx hF hX
  have hp : (2 ^ 31 : Nat) = 2147483648 := by decide
  have hz : (na + nb).natAbs < 2 ^ 31 := by rw [hp]; omega
  exact fits_same ok_1 (by omega) hz hF hX
theorem add_big_1 {na nb q : Int} {sa sb : ByteArray} (ha : FixedR 2147483648 na q sa) (hb : FixedR 2147483648 nb q sb) (h1 : ¬ (-2147483648 < na + nb ∧ na + nb < 2147483648)) (W : World) :
    Calls Tryz.prog 6 #[vaV 1 na q sa, vaV 1 nb q sb, .agg #[.int .i64 1, .int .i64 31, .int .i64 q, .int .i64 0, .bool false, .string emp]] W fun e w' => ∃ N, e = .returned (.tuple #[vaV 1 N q emp, .int .i64 2, .int .i64 0]) ∧ Below W.heap.size W w' := by
  obtain ⟨q0, q1, a1, a2, rfl⟩ := ha
  obtain ⟨_, _, b1, b2, rfl⟩ := hb
  obtain ⟨q, rfl⟩ := Int.eq_ofNat_of_zero_le q0
  have e : ((2 ^ 31 : Nat) : Int) = 2147483648 := by decide
  refine (add_w W fun W => rec_same ok_1 (z := na + nb) (N := fixN (na + nb) ((na + nb).natAbs % 2 ^ 31)) (c := 2) (by omega) (by rw [e]; omega) (by rw [e]; omega) (by rw [e]; omega) (by rw [e]; omega) W plus_hcf (plus_same ok_1 (by omega) (by omega) (by omega)) ?_).mono fun _ _ ⟨he, hb⟩ => ⟨_, he, hb⟩
  intro W cap vx hF hX
  have hp : (2 ^ 31 : Nat) = 2147483648 := by decide
  have hz : 2 ^ 31 ≤ (na + nb).natAbs := by rw [hp]; omega
  exact fits_not ok_1 (by omega) hz (by omega) hF hX
theorem sub_self_1 {na q : Int} {sa : ByteArray} (ha : FixedR 2147483648 na q sa) (W : World) :
    Calls Tryz.prog 7 #[vaV 1 na q sa, vaV 1 na q sa, .agg #[.int .i64 1, .int .i64 31, .int .i64 q, .int .i64 0, .bool false, .string emp]] W fun e w' => e = .returned (.tuple #[vaV 1 0 q emp, .int .i64 0, .int .i64 0]) ∧ Below W.heap.size W w' := by
  obtain ⟨q0, q1, a1, a2, rfl⟩ := ha
  obtain ⟨q, rfl⟩ := Int.eq_ofNat_of_zero_le q0
  have e : ((2 ^ 31 : Nat) : Int) = 2147483648 := by decide
  refine sub_w W fun W => rec_same ok_1 (z := na - na) (by omega) (by rw [e]; omega) (by rw [e]; omega) (by rw [e]; omega) (by rw [e]; omega) W minus_hcf (minus_same ok_1 (by omega) (by omega) (by omega)) ?_
  intro W cap vx hF hX
  rw [Int.sub_self] at hX
  exact fits_same ok_1 (by omega) (by decide) hF hX
theorem ref_sum_1 {z q : Int} (h1 : -2147483648 < z) (h2 : z < 2147483648) (h3 : 0 ≤ q) (h4 : q ≤ 31) (W : World) : Calls Tryz.prog 4 #[vaV 1 z q emp] W fun e w' => e = .returned (.bool true) ∧ Below W.heap.size W w' := refRight_1 z q W ⟨h1, h2⟩ ⟨h3, h4⟩
theorem ref_not_1 {z q : Int} (h1 : ¬ (-2147483648 < z ∧ z < 2147483648)) (W : World) : Calls Tryz.prog 4 #[vaV 1 z q emp] W fun e w' => e = .returned (.bool false) ∧ Below W.heap.size W w' :=
  (right_1 z q emp W).mono fun _ _ ⟨r, he, hr, hb⟩ => by
    cases r with
    | false => exact ⟨he, hb⟩
    | true =>
      obtain ⟨_, _, g1, g2, _⟩ := hr rfl
      exact absurd ⟨g1, g2⟩ h1

theorem ok_2 : KindOK 2 10 15 := (.inr ⟨rfl, rfl, rfl⟩)
theorem add_fit_2 {na nb q : Int} {sa sb : ByteArray} (ha : FixedR 1000000000000000 na q sa) (hb : FixedR 1000000000000000 nb q sb) (h1 : -1000000000000000 < na + nb) (h2 : na + nb < 1000000000000000) (W : World) :
    Calls Tryz.prog 6 #[vaV 2 na q sa, vaV 2 nb q sb, .agg #[.int .i64 2, .int .i64 15, .int .i64 q, .int .i64 0, .bool false, .string emp]] W fun e w' => e = .returned (.tuple #[vaV 2 (na + nb) q emp, .int .i64 0, .int .i64 0]) ∧ Below W.heap.size W w' := by
  obtain ⟨q0, q1, a1, a2, rfl⟩ := ha
  obtain ⟨_, _, b1, b2, rfl⟩ := hb
  obtain ⟨q, rfl⟩ := Int.eq_ofNat_of_zero_le q0
  have e : ((10 ^ 15 : Nat) : Int) = 1000000000000000 := by decide
  refine add_w W fun W => rec_same ok_2 (by omega) (by rw [e]; omega) (by rw [e]; omega) (by rw [e]; omega) (by rw [e]; omega) W plus_hcf (plus_same ok_2 (by omega) (by omega) (by omega)) ?_
  intro W cap vx hF hX
  have hp : (10 ^ 15 : Nat) = 1000000000000000 := by decide
  have hz : (na + nb).natAbs < 10 ^ 15 := by rw [hp]; omega
  exact fits_same ok_2 (by omega) hz hF hX
theorem add_big_2 {na nb q : Int} {sa sb : ByteArray} (ha : FixedR 1000000000000000 na q sa) (hb : FixedR 1000000000000000 nb q sb) (h1 : ¬ (-1000000000000000 < na + nb ∧ na + nb < 1000000000000000)) (W : World) :
    Calls Tryz.prog 6 #[vaV 2 na q sa, vaV 2 nb q sb, .agg #[.int .i64 2, .int .i64 15, .int .i64 q, .int .i64 0, .bool false, .string emp]] W fun e w' => ∃ N, e = .returned (.tuple #[vaV 2 N q emp, .int .i64 2, .int .i64 0]) ∧ Below W.heap.size W w' := by
  obtain ⟨q0, q1, a1, a2, rfl⟩ := ha
  obtain ⟨_, _, b1, b2, rfl⟩ := hb
  obtain ⟨q, rfl⟩ := Int.eq_ofNat_of_zero_le q0
  have e : ((10 ^ 15 : Nat) : Int) = 1000000000000000 := by decide
  refine (add_w W fun W => rec_same ok_2 (z := na + nb) (N := fixN (na + nb) ((na + nb).natAbs % 10 ^ 15)) (c := 2) (by omega) (by rw [e]; omega) (by rw [e]; omega) (by rw [e]; omega) (by rw [e]; omega) W plus_hcf (plus_same ok_2 (by omega) (by omega) (by omega)) ?_).mono fun _ _ ⟨he, hb⟩ => ⟨_, he, hb⟩
  intro W cap vx hF hX
  have hp : (10 ^ 15 : Nat) = 1000000000000000 := by decide
  have hz : 10 ^ 15 ≤ (na + nb).natAbs := by rw [hp]; omega
  exact fits_not ok_2 (by omega) hz (by omega) hF hX
theorem sub_self_2 {na q : Int} {sa : ByteArray} (ha : FixedR 1000000000000000 na q sa) (W : World) :
    Calls Tryz.prog 7 #[vaV 2 na q sa, vaV 2 na q sa, .agg #[.int .i64 2, .int .i64 15, .int .i64 q, .int .i64 0, .bool false, .string emp]] W fun e w' => e = .returned (.tuple #[vaV 2 0 q emp, .int .i64 0, .int .i64 0]) ∧ Below W.heap.size W w' := by
  obtain ⟨q0, q1, a1, a2, rfl⟩ := ha
  obtain ⟨q, rfl⟩ := Int.eq_ofNat_of_zero_le q0
  have e : ((10 ^ 15 : Nat) : Int) = 1000000000000000 := by decide
  refine sub_w W fun W => rec_same ok_2 (z := na - na) (by omega) (by rw [e]; omega) (by rw [e]; omega) (by rw [e]; omega) (by rw [e]; omega) W minus_hcf (minus_same ok_2 (by omega) (by omega) (by omega)) ?_
  intro W cap vx hF hX
  rw [Int.sub_self] at hX
  exact fits_same ok_2 (by omega) (by decide) hF hX
theorem ref_sum_2 {z q : Int} (h1 : -1000000000000000 < z) (h2 : z < 1000000000000000) (h3 : 0 ≤ q) (h4 : q ≤ 31) (W : World) : Calls Tryz.prog 4 #[vaV 2 z q emp] W fun e w' => e = .returned (.bool true) ∧ Below W.heap.size W w' := refRight_2 z q W ⟨h1, h2⟩ ⟨h3, h4⟩
theorem ref_not_2 {z q : Int} (h1 : ¬ (-1000000000000000 < z ∧ z < 1000000000000000)) (W : World) : Calls Tryz.prog 4 #[vaV 2 z q emp] W fun e w' => e = .returned (.bool false) ∧ Below W.heap.size W w' :=
  (right_2 z q emp W).mono fun _ _ ⟨r, he, hr, hb⟩ => by
    cases r with
    | false => exact ⟨he, hb⟩
    | true =>
      obtain ⟨_, _, g1, g2, _⟩ := hr rfl
      exact absurd ⟨g1, g2⟩ h1
end Go.Proofs.YtllpldndkojagaaGreatDoor
namespace Go.Proofs.YtllpldndkojagaaGreatDoor
open Go.RowKit

set_option maxRecDepth 100000 in
set_option maxHeartbeats 4000000 in
/-- Two values that are no numbers of one fixed kind and scale. -/
theorem ex_out {ka na qa kb nb qb : Int} {sa sb : ByteArray} (w : World) (hsa : sa.size ≤ maxLen) (hsb : sb.size ≤ maxLen) (hG : ka ≠ kb ∨ (ka = kb ∧ qa ≠ qb) ∨ (ka = kb ∧ qa = qb ∧ ka ≠ 1 ∧ ka ≠ 2)) :
    Calls Tryz.prog 3 #[vaV ka na qa sa, vaV kb nb qb sb] w fun e w' => e = .returned (.bool true) ∧ Below w.heap.size w w' := by
  have HRA : Hid (∀ W, Calls Tryz.prog 4 #[vaV ka na qa sa] W (SomeB True W)) := Lib.hid fun W => (right_any ka na qa sa W hsa).mono fun _ _ h => h.weak fun _ => trivial
  have HRB : Hid (∀ W, Calls Tryz.prog 4 #[vaV kb nb qb sb] W (SomeB True W)) := Lib.hid fun W => (right_any kb nb qb sb W hsb).mono fun _ _ h => h.weak fun _ => trivial
  have HAW : Hid (∀ W, Calls Tryz.prog 5 #[] W fun e w' => e = .returned (.bool true) ∧ Below W.heap.size W w') := Lib.hid awake_1
  have RA := (Row.new w (vaC ka na qa sa) 23).alloc (.cells (vaC kb nb qb sb) 23)
  have RB := Row.new2 w (.cells (vaC ka na qa sa) 23) (vaC kb nb qb sb) 23
  clear hsa hsb
  go_enter Tryz.func3, Tryz.ntmps3
  go_wp2_with fail
  generalize hw : (w.alloc (.cells (vaC ka na qa sa) 23)).alloc (.cells (vaC kb nb qb sb) 23) = W0 at *
  have B0 : Hid (Below w.heap.size w W0) := by show Below _ _ _; rw [← hw]; go_grown
  clear hw
  obtain ⟨a0, a1, a2, a3⟩ := RA.four
  obtain ⟨b0, b1, b2, b3⟩ := RB.four
  rcases hG with h | ⟨rfl, h⟩ | ⟨rfl, rfl, h, h2⟩
  all_goals
    have e1 := bne_iff_ne.2 h
    have e2 := beq_eq_false_iff_ne.2 h
    try have e3 := bne_iff_ne.2 h2
    try have e4 := beq_eq_false_iff_ne.2 h2
    go_wp2_with (first
      | (go_at_call 4; (with_reducible refine (HRA.out _).mono ?_); rintro e w1 ⟨r, rfl, _, hb⟩; have RA := RA.keep hb; have RB := RB.keep hb; have B0 := Lib.hid (bl_then B0.out hb); clear hb; obtain ⟨a0, a1, a2, a3⟩ := RA.four; obtain ⟨b0, b1, b2, b3⟩ := RB.four; cases r)
      | (go_at_call 4; (with_reducible refine (HRB.out _).mono ?_); rintro e w1 ⟨r, rfl, _, hb⟩; have RA := RA.keep hb; have RB := RB.keep hb; have B0 := Lib.hid (bl_then B0.out hb); clear hb; obtain ⟨a0, a1, a2, a3⟩ := RA.four; obtain ⟨b0, b1, b2, b3⟩ := RB.four; cases r)
      | (go_at_call 5; (with_reducible refine (HAW.out _).mono ?_); rintro e w1 ⟨rfl, hb⟩; have B0 := Lib.hid (bl_then B0.out hb); clear hb))
  all_goals (go_ret; exact ⟨rfl, B0.out⟩)
/-- What Right tells of a number of a fixed kind. -/
def FixD (m n q : Int) (s : ByteArray) (w : World) (e : Ending) (w' : World) : Prop := (e = .returned (.bool false) ∨ (e = .returned (.bool true) ∧ (0 ≤ q ∧ q ≤ 31 ∧ -m < n ∧ n < m) ∧ Hid (FixedR m n q s))) ∧ Below w.heap.size w w'
theorem fixD_of {m n q : Int} {s : ByteArray} {w w' : World} {e : Ending} (h : SomeB (FixedR m n q s) w e w') : FixD m n q s w e w' := by
  obtain ⟨r, rfl, hr, hb⟩ := h
  cases r with
  | false => exact ⟨.inl rfl, hb⟩
  | true =>
    have h := hr rfl
    obtain ⟨h1, h2, h3, h4, h5⟩ := hr rfl
    exact ⟨.inr ⟨rfl, ⟨h1, h2, h3, h4⟩, h⟩, hb⟩

set_option maxRecDepth 100000 in
set_option maxHeartbeats 8000000 in
theorem ex_in_1_fit {na nb q : Int} {sa sb : ByteArray} (w : World) (hz : -2147483648 < na + nb ∧ na + nb < 2147483648) :
    Calls Tryz.prog 3 #[vaV 1 na q sa, vaV 1 nb q sb] w fun e w' => e = .returned (.bool true) ∧ Below w.heap.size w w' := by
  have HRA : Hid (∀ W, Calls Tryz.prog 4 #[vaV 1 na q sa] W (FixD 2147483648 na q sa W)) := Lib.hid fun W => (right_1 na q sa W).mono fun _ _ h => fixD_of h
  have HRB : Hid (∀ W, Calls Tryz.prog 4 #[vaV 1 nb q sb] W (FixD 2147483648 nb q sb W)) := Lib.hid fun W => (right_1 nb q sb W).mono fun _ _ h => fixD_of h
  have HAW : Hid (∀ W, Calls Tryz.prog 5 #[] W fun e w' => e = .returned (.bool true) ∧ Below W.heap.size W w') := Lib.hid awake_1
  have HAD : Hid (∀ W, FixedR 2147483648 na q sa → FixedR 2147483648 nb q sb → Calls Tryz.prog 6 #[vaV 1 na q sa, vaV 1 nb q sb, .agg #[.int .i64 1, .int .i64 31, .int .i64 q, .int .i64 0, .bool false, .string emp]] W fun e w' => e = .returned (.tuple #[vaV 1 (na + nb) q emp, .int .i64 0, .int .i64 0]) ∧ Below W.heap.size W w') := Lib.hid fun W h1 h2 => add_fit_1 h1 h2 hz.1 hz.2 W
  have HSU : Hid (∀ W, FixedR 2147483648 na q sa → Calls Tryz.prog 7 #[vaV 1 na q sa, vaV 1 na q sa, .agg #[.int .i64 1, .int .i64 31, .int .i64 q, .int .i64 0, .bool false, .string emp]] W fun e w' => e = .returned (.tuple #[vaV 1 0 q emp, .int .i64 0, .int .i64 0]) ∧ Below W.heap.size W w') := Lib.hid fun W h1 => sub_self_1 h1 W
  have HRS : Hid (∀ W, 0 ≤ q → q ≤ 31 → Calls Tryz.prog 4 #[vaV 1 (na + nb) q emp] W fun e w' => e = .returned (.bool true) ∧ Below W.heap.size W w') := Lib.hid fun W h1 h2 => ref_sum_1 hz.1 hz.2 h1 h2 W
  have RA := (Row.new w (vaC 1 na q sa) 23).alloc (.cells (vaC 1 nb q sb) 23)
  have RB := Row.new2 w (.cells (vaC 1 na q sa) 23) (vaC 1 nb q sb) 23
  clear hz
  go_enter Tryz.func3, Tryz.ntmps3
  go_wp2_with fail
  generalize hw : (w.alloc (.cells (vaC 1 na q sa) 23)).alloc (.cells (vaC 1 nb q sb) 23) = W0 at *
  have B0 : Hid (Below w.heap.size w W0) := by show Below _ _ _; rw [← hw]; go_grown
  clear hw
  obtain ⟨a0, a1, a2, a3⟩ := RA.four
  obtain ⟨b0, b1, b2, b3⟩ := RB.four
  go_wp2_with (first
    | (go_at_call 4; (with_reducible refine (HRA.out _).mono ?_); rintro e w1 ⟨hr, hb⟩; have RA := RA.keep hb; have RB := RB.keep hb; have l1 := RA.lt; have l2 := RB.lt; have B0 := Lib.hid (bl_then B0.out hb); clear hb; obtain ⟨a0, a1, a2, a3⟩ := RA.four; obtain ⟨b0, b1, b2, b3⟩ := RB.four; rcases hr with rfl | ⟨rfl, ⟨q0, q1, x1, x2⟩, HFA⟩)
    | (go_at_call 4; (with_reducible refine (HRB.out _).mono ?_); rintro e w1 ⟨hr, hb⟩; have RA := RA.keep hb; have RB := RB.keep hb; have l1 := RA.lt; have l2 := RB.lt; have B0 := Lib.hid (bl_then B0.out hb); clear hb; obtain ⟨a0, a1, a2, a3⟩ := RA.four; obtain ⟨b0, b1, b2, b3⟩ := RB.four; rcases hr with rfl | ⟨rfl, ⟨_, _, y1, y2⟩, HFB⟩)
    | (go_at_call 5; (with_reducible refine (HAW.out _).mono ?_); rintro e w1 ⟨rfl, hb⟩; have B0 := Lib.hid (bl_then B0.out hb); clear hb))
  all_goals first
    | (go_ret; exact ⟨rfl, B0.out⟩)
    | skip
  have RT := (Row.new w1 #[.int .i64 1, .int .i64 31, .int .i64 q, .int .i64 0, .bool false, .string emp] 27).alloc (.cells (vaC 1 (na + nb) q emp) 23)
  have RS := Row.new2 w1 (.cells #[.int .i64 1, .int .i64 31, .int .i64 q, .int .i64 0, .bool false, .string emp] 27) (vaC 1 (na + nb) q emp) 23
  have RA := (RA.alloc (.cells #[.int .i64 1, .int .i64 31, .int .i64 q, .int .i64 0, .bool false, .string emp] 27)).alloc (.cells (vaC 1 (na + nb) q emp) 23)
  have RB := (RB.alloc (.cells #[.int .i64 1, .int .i64 31, .int .i64 q, .int .i64 0, .bool false, .string emp] 27)).alloc (.cells (vaC 1 (na + nb) q emp) 23)
  have B0 : Hid (Below w.heap.size w ((w1.alloc (.cells #[.int .i64 1, .int .i64 31, .int .i64 q, .int .i64 0, .bool false, .string emp] 27)).alloc (.cells (vaC 1 (na + nb) q emp) 23))) := Lib.hid ((B0.out.alloc B0.out.size _).alloc (by have := B0.out.size; simp; omega) _)
  generalize hw : (w1.alloc (.cells #[.int .i64 1, .int .i64 31, .int .i64 q, .int .i64 0, .bool false, .string emp] 27)).alloc (.cells (vaC 1 (na + nb) q emp) 23) = W2 at *
  clear hw a0 a1 a2 a3 b0 b1 b2 b3
  have qn : ∀ W : World, (binOp .neq 23 (vaV 1 (na + nb) q emp) (vaV 1 (na + nb) q emp)).run Tryz.prog W = .ok (.bool false) W := fun W => by simp [go_sem]
  go_wp2_with (go_at_call 6; (with_reducible refine (HAD.out _ HFA.out HFB.out).mono ?_); rintro e w3 ⟨rfl, hb⟩; have RA : Row w3 w.heap.size (vaC 1 na q sa) 23 := (by first | exact RA.keep hb | exact (RA.alloc _).keep hb); have RB : Row w3 (w.heap.size + 1) (vaC 1 nb q sb) 23 := (by first | exact RB.keep hb | exact (RB.alloc _).keep hb); have RT : Row w3 w1.heap.size #[.int .i64 1, .int .i64 31, .int .i64 q, .int .i64 0, .bool false, .string emp] 27 := (by first | exact RT.keep hb | exact (RT.alloc _).keep hb); have RS : Row w3 (w1.heap.size + 1) (vaC 1 (na + nb) q emp) 23 := (by first | exact RS.keep hb | exact (RS.alloc _).keep hb); have B0 := Lib.hid (bl_then B0.out hb); have l1 := RA.lt; have l2 := RB.lt; have l3 := RT.lt; have l4 := RS.lt; clear hb; obtain ⟨a0, a1, a2, a3⟩ := RA.four; obtain ⟨b0, b1, b2, b3⟩ := RB.four; obtain ⟨s0, s1, s2, s3⟩ := RS.four; obtain ⟨t0, t1, t2, t3, t4, t5⟩ := row_six RT)
  go_wp2_with (go_at_call 4; (with_reducible refine (HRS.out _ q0 q1).mono ?_); rintro e w4 ⟨rfl, hb⟩; have RA : Row w4 w.heap.size (vaC 1 na q sa) 23 := (by first | exact RA.keep hb | exact (RA.alloc _).keep hb); have RB : Row w4 (w.heap.size + 1) (vaC 1 nb q sb) 23 := (by first | exact RB.keep hb | exact (RB.alloc _).keep hb); have RT : Row w4 w1.heap.size #[.int .i64 1, .int .i64 31, .int .i64 q, .int .i64 0, .bool false, .string emp] 27 := (by first | exact RT.keep hb | exact (RT.alloc _).keep hb); have RS : Row w4 (w1.heap.size + 1) (vaC 1 (na + nb) q emp) 23 := (by first | exact RS.keep hb | exact (RS.alloc _).keep hb); have RV : Row w4 w3.heap.size (vaC 1 (na + nb) q emp) 23 := (by first | exact RV.keep hb | exact (Row.new w3 _ _).keep hb); have B0 : Hid (Below w.heap.size w w4) := Lib.hid (by first | exact bl_then B0.out hb | exact bl_then (B0.out.alloc B0.out.size _) hb); have l5 := RV.lt; have l1 := RA.lt; have l2 := RB.lt; have l3 := RT.lt; have l4 := RS.lt; clear hb; obtain ⟨a0, a1, a2, a3⟩ := RA.four; obtain ⟨b0, b1, b2, b3⟩ := RB.four; obtain ⟨s0, s1, s2, s3⟩ := RS.four; obtain ⟨t0, t1, t2, t3, t4, t5⟩ := row_six RT; obtain ⟨v0, v1, v2, v3⟩ := RV.four)
  go_wp2_with (first
    | (go_at_call 7; (with_reducible refine (HSU.out _ HFA.out).mono ?_); rintro e w5 ⟨rfl, hb⟩; have RA : Row w5 w.heap.size (vaC 1 na q sa) 23 := (by first | exact RA.keep hb | exact (RA.alloc _).keep hb); have RB : Row w5 (w.heap.size + 1) (vaC 1 nb q sb) 23 := (by first | exact RB.keep hb | exact (RB.alloc _).keep hb); have RT : Row w5 w1.heap.size #[.int .i64 1, .int .i64 31, .int .i64 q, .int .i64 0, .bool false, .string emp] 27 := (by first | exact RT.keep hb | exact (RT.alloc _).keep hb); have RS : Row w5 (w1.heap.size + 1) (vaC 1 (na + nb) q emp) 23 := (by first | exact RS.keep hb | exact (RS.alloc _).keep hb); have RV : Row w5 w3.heap.size (vaC 1 (na + nb) q emp) 23 := (by first | exact RV.keep hb | exact (Row.new w3 _ _).keep hb); have B0 : Hid (Below w.heap.size w w5) := Lib.hid (by first | exact bl_then B0.out hb | exact bl_then (B0.out.alloc B0.out.size _) hb); have l5 := RV.lt; have l1 := RA.lt; have l2 := RB.lt; have l3 := RT.lt; have l4 := RS.lt; clear hb; obtain ⟨a0, a1, a2, a3⟩ := RA.four; obtain ⟨b0, b1, b2, b3⟩ := RB.four; obtain ⟨s0, s1, s2, s3⟩ := RS.four; obtain ⟨t0, t1, t2, t3, t4, t5⟩ := row_six RT; obtain ⟨v0, v1, v2, v3⟩ := RV.four; have f0 := RV.free 0; have f1 := RV.free 1; have f2 := RV.free 2; have f3 := RV.free 3)
    | (go_at_call 5; (with_reducible refine (HAW.out _).mono ?_); rintro e w6 ⟨rfl, hb⟩; have B6 := Lib.hid (bl_then (show Below w.heap.size w _ by (repeat refine Below.setCell ?_ (by simp <;> omega) _); exact B0.out) hb)))
  go_ret
  exact ⟨rfl, B6.out⟩

set_option maxRecDepth 100000 in
set_option maxHeartbeats 8000000 in
theorem ex_in_1_big {na nb q : Int} {sa sb : ByteArray} (w : World) (hz : ¬ (-2147483648 < na + nb ∧ na + nb < 2147483648)) :
    Calls Tryz.prog 3 #[vaV 1 na q sa, vaV 1 nb q sb] w fun e w' => e = .returned (.bool true) ∧ Below w.heap.size w w' := by
  have HRA : Hid (∀ W, Calls Tryz.prog 4 #[vaV 1 na q sa] W (FixD 2147483648 na q sa W)) := Lib.hid fun W => (right_1 na q sa W).mono fun _ _ h => fixD_of h
  have HRB : Hid (∀ W, Calls Tryz.prog 4 #[vaV 1 nb q sb] W (FixD 2147483648 nb q sb W)) := Lib.hid fun W => (right_1 nb q sb W).mono fun _ _ h => fixD_of h
  have HAW : Hid (∀ W, Calls Tryz.prog 5 #[] W fun e w' => e = .returned (.bool true) ∧ Below W.heap.size W w') := Lib.hid awake_1
  have HAD : Hid (∀ W, FixedR 2147483648 na q sa → FixedR 2147483648 nb q sb → Calls Tryz.prog 6 #[vaV 1 na q sa, vaV 1 nb q sb, .agg #[.int .i64 1, .int .i64 31, .int .i64 q, .int .i64 0, .bool false, .string emp]] W fun e w' => ∃ N, e = .returned (.tuple #[vaV 1 N q emp, .int .i64 2, .int .i64 0]) ∧ Below W.heap.size W w') := Lib.hid fun W h1 h2 => add_big_1 h1 h2 hz W
  have HSU : Hid (∀ W, FixedR 2147483648 na q sa → Calls Tryz.prog 7 #[vaV 1 na q sa, vaV 1 na q sa, .agg #[.int .i64 1, .int .i64 31, .int .i64 q, .int .i64 0, .bool false, .string emp]] W fun e w' => e = .returned (.tuple #[vaV 1 0 q emp, .int .i64 0, .int .i64 0]) ∧ Below W.heap.size W w') := Lib.hid fun W h1 => sub_self_1 h1 W
  have HRS : Hid (∀ W, 0 ≤ q → q ≤ 31 → Calls Tryz.prog 4 #[vaV 1 (na + nb) q emp] W fun e w' => e = .returned (.bool false) ∧ Below W.heap.size W w') := Lib.hid fun W _ _ => ref_not_1 hz W
  have RA := (Row.new w (vaC 1 na q sa) 23).alloc (.cells (vaC 1 nb q sb) 23)
  have RB := Row.new2 w (.cells (vaC 1 na q sa) 23) (vaC 1 nb q sb) 23
  clear hz
  go_enter Tryz.func3, Tryz.ntmps3
  go_wp2_with fail
  generalize hw : (w.alloc (.cells (vaC 1 na q sa) 23)).alloc (.cells (vaC 1 nb q sb) 23) = W0 at *
  have B0 : Hid (Below w.heap.size w W0) := by show Below _ _ _; rw [← hw]; go_grown
  clear hw
  obtain ⟨a0, a1, a2, a3⟩ := RA.four
  obtain ⟨b0, b1, b2, b3⟩ := RB.four
  go_wp2_with (first
    | (go_at_call 4; (with_reducible refine (HRA.out _).mono ?_); rintro e w1 ⟨hr, hb⟩; have RA := RA.keep hb; have RB := RB.keep hb; have l1 := RA.lt; have l2 := RB.lt; have B0 := Lib.hid (bl_then B0.out hb); clear hb; obtain ⟨a0, a1, a2, a3⟩ := RA.four; obtain ⟨b0, b1, b2, b3⟩ := RB.four; rcases hr with rfl | ⟨rfl, ⟨q0, q1, x1, x2⟩, HFA⟩)
    | (go_at_call 4; (with_reducible refine (HRB.out _).mono ?_); rintro e w1 ⟨hr, hb⟩; have RA := RA.keep hb; have RB := RB.keep hb; have l1 := RA.lt; have l2 := RB.lt; have B0 := Lib.hid (bl_then B0.out hb); clear hb; obtain ⟨a0, a1, a2, a3⟩ := RA.four; obtain ⟨b0, b1, b2, b3⟩ := RB.four; rcases hr with rfl | ⟨rfl, ⟨_, _, y1, y2⟩, HFB⟩)
    | (go_at_call 5; (with_reducible refine (HAW.out _).mono ?_); rintro e w1 ⟨rfl, hb⟩; have B0 := Lib.hid (bl_then B0.out hb); clear hb))
  all_goals first
    | (go_ret; exact ⟨rfl, B0.out⟩)
    | skip
  have RT := (Row.new w1 #[.int .i64 1, .int .i64 31, .int .i64 q, .int .i64 0, .bool false, .string emp] 27).alloc (.cells (vaC 1 (na + nb) q emp) 23)
  have RS := Row.new2 w1 (.cells #[.int .i64 1, .int .i64 31, .int .i64 q, .int .i64 0, .bool false, .string emp] 27) (vaC 1 (na + nb) q emp) 23
  have RA := (RA.alloc (.cells #[.int .i64 1, .int .i64 31, .int .i64 q, .int .i64 0, .bool false, .string emp] 27)).alloc (.cells (vaC 1 (na + nb) q emp) 23)
  have RB := (RB.alloc (.cells #[.int .i64 1, .int .i64 31, .int .i64 q, .int .i64 0, .bool false, .string emp] 27)).alloc (.cells (vaC 1 (na + nb) q emp) 23)
  have B0 : Hid (Below w.heap.size w ((w1.alloc (.cells #[.int .i64 1, .int .i64 31, .int .i64 q, .int .i64 0, .bool false, .string emp] 27)).alloc (.cells (vaC 1 (na + nb) q emp) 23))) := Lib.hid ((B0.out.alloc B0.out.size _).alloc (by have := B0.out.size; simp; omega) _)
  generalize hw : (w1.alloc (.cells #[.int .i64 1, .int .i64 31, .int .i64 q, .int .i64 0, .bool false, .string emp] 27)).alloc (.cells (vaC 1 (na + nb) q emp) 23) = W2 at *
  clear hw a0 a1 a2 a3 b0 b1 b2 b3
  go_wp2_with (go_at_call 6; (with_reducible refine (HAD.out _ HFA.out HFB.out).mono ?_); rintro e w3 ⟨N, rfl, hb⟩; have RA : Row w3 w.heap.size (vaC 1 na q sa) 23 := (by first | exact RA.keep hb | exact (RA.alloc _).keep hb); have RB : Row w3 (w.heap.size + 1) (vaC 1 nb q sb) 23 := (by first | exact RB.keep hb | exact (RB.alloc _).keep hb); have RT : Row w3 w1.heap.size #[.int .i64 1, .int .i64 31, .int .i64 q, .int .i64 0, .bool false, .string emp] 27 := (by first | exact RT.keep hb | exact (RT.alloc _).keep hb); have RS : Row w3 (w1.heap.size + 1) (vaC 1 (na + nb) q emp) 23 := (by first | exact RS.keep hb | exact (RS.alloc _).keep hb); have B0 := Lib.hid (bl_then B0.out hb); have l1 := RA.lt; have l2 := RB.lt; have l3 := RT.lt; have l4 := RS.lt; clear hb; obtain ⟨a0, a1, a2, a3⟩ := RA.four; obtain ⟨b0, b1, b2, b3⟩ := RB.four; obtain ⟨s0, s1, s2, s3⟩ := RS.four; obtain ⟨t0, t1, t2, t3, t4, t5⟩ := row_six RT)
  go_wp2_with (go_at_call 4; (with_reducible refine (HRS.out _ q0 q1).mono ?_); rintro e w4 ⟨rfl, hb⟩; have RA : Row w4 w.heap.size (vaC 1 na q sa) 23 := (by first | exact RA.keep hb | exact (RA.alloc _).keep hb); have RB : Row w4 (w.heap.size + 1) (vaC 1 nb q sb) 23 := (by first | exact RB.keep hb | exact (RB.alloc _).keep hb); have RT : Row w4 w1.heap.size #[.int .i64 1, .int .i64 31, .int .i64 q, .int .i64 0, .bool false, .string emp] 27 := (by first | exact RT.keep hb | exact (RT.alloc _).keep hb); have RS : Row w4 (w1.heap.size + 1) (vaC 1 (na + nb) q emp) 23 := (by first | exact RS.keep hb | exact (RS.alloc _).keep hb); have RV : Row w4 w3.heap.size (vaC 1 N q emp) 23 := (by first | exact RV.keep hb | exact (Row.new w3 _ _).keep hb); have B0 : Hid (Below w.heap.size w w4) := Lib.hid (by first | exact bl_then B0.out hb | exact bl_then (B0.out.alloc B0.out.size _) hb); have l5 := RV.lt; have l1 := RA.lt; have l2 := RB.lt; have l3 := RT.lt; have l4 := RS.lt; clear hb; obtain ⟨a0, a1, a2, a3⟩ := RA.four; obtain ⟨b0, b1, b2, b3⟩ := RB.four; obtain ⟨s0, s1, s2, s3⟩ := RS.four; obtain ⟨t0, t1, t2, t3, t4, t5⟩ := row_six RT; obtain ⟨v0, v1, v2, v3⟩ := RV.four)
  go_wp2_with (first
    | (go_at_call 7; (with_reducible refine (HSU.out _ HFA.out).mono ?_); rintro e w5 ⟨rfl, hb⟩; have RA : Row w5 w.heap.size (vaC 1 na q sa) 23 := (by first | exact RA.keep hb | exact (RA.alloc _).keep hb); have RB : Row w5 (w.heap.size + 1) (vaC 1 nb q sb) 23 := (by first | exact RB.keep hb | exact (RB.alloc _).keep hb); have RT : Row w5 w1.heap.size #[.int .i64 1, .int .i64 31, .int .i64 q, .int .i64 0, .bool false, .string emp] 27 := (by first | exact RT.keep hb | exact (RT.alloc _).keep hb); have RS : Row w5 (w1.heap.size + 1) (vaC 1 (na + nb) q emp) 23 := (by first | exact RS.keep hb | exact (RS.alloc _).keep hb); have RV : Row w5 w3.heap.size (vaC 1 N q emp) 23 := (by first | exact RV.keep hb | exact (Row.new w3 _ _).keep hb); have B0 : Hid (Below w.heap.size w w5) := Lib.hid (by first | exact bl_then B0.out hb | exact bl_then (B0.out.alloc B0.out.size _) hb); have l5 := RV.lt; have l1 := RA.lt; have l2 := RB.lt; have l3 := RT.lt; have l4 := RS.lt; clear hb; obtain ⟨a0, a1, a2, a3⟩ := RA.four; obtain ⟨b0, b1, b2, b3⟩ := RB.four; obtain ⟨s0, s1, s2, s3⟩ := RS.four; obtain ⟨t0, t1, t2, t3, t4, t5⟩ := row_six RT; obtain ⟨v0, v1, v2, v3⟩ := RV.four; have f0 := RV.free 0; have f1 := RV.free 1; have f2 := RV.free 2; have f3 := RV.free 3)
    | (go_at_call 5; (with_reducible refine (HAW.out _).mono ?_); rintro e w6 ⟨rfl, hb⟩; have B6 := Lib.hid (bl_then (show Below w.heap.size w _ by (repeat refine Below.setCell ?_ (by simp <;> omega) _); exact B0.out) hb)))
  go_ret
  exact ⟨rfl, B6.out⟩

set_option maxRecDepth 100000 in
set_option maxHeartbeats 8000000 in
theorem ex_in_2_fit {na nb q : Int} {sa sb : ByteArray} (w : World) (hz : -1000000000000000 < na + nb ∧ na + nb < 1000000000000000) :
    Calls Tryz.prog 3 #[vaV 2 na q sa, vaV 2 nb q sb] w fun e w' => e = .returned (.bool true) ∧ Below w.heap.size w w' := by
  have HRA : Hid (∀ W, Calls Tryz.prog 4 #[vaV 2 na q sa] W (FixD 1000000000000000 na q sa W)) := Lib.hid fun W => (right_2 na q sa W).mono fun _ _ h => fixD_of h
  have HRB : Hid (∀ W, Calls Tryz.prog 4 #[vaV 2 nb q sb] W (FixD 1000000000000000 nb q sb W)) := Lib.hid fun W => (right_2 nb q sb W).mono fun _ _ h => fixD_of h
  have HAW : Hid (∀ W, Calls Tryz.prog 5 #[] W fun e w' => e = .returned (.bool true) ∧ Below W.heap.size W w') := Lib.hid awake_1
  have HAD : Hid (∀ W, FixedR 1000000000000000 na q sa → FixedR 1000000000000000 nb q sb → Calls Tryz.prog 6 #[vaV 2 na q sa, vaV 2 nb q sb, .agg #[.int .i64 2, .int .i64 15, .int .i64 q, .int .i64 0, .bool false, .string emp]] W fun e w' => e = .returned (.tuple #[vaV 2 (na + nb) q emp, .int .i64 0, .int .i64 0]) ∧ Below W.heap.size W w') := Lib.hid fun W h1 h2 => add_fit_2 h1 h2 hz.1 hz.2 W
  have HSU : Hid (∀ W, FixedR 1000000000000000 na q sa → Calls Tryz.prog 7 #[vaV 2 na q sa, vaV 2 na q sa, .agg #[.int .i64 2, .int .i64 15, .int .i64 q, .int .i64 0, .bool false, .string emp]] W fun e w' => e = .returned (.tuple #[vaV 2 0 q emp, .int .i64 0, .int .i64 0]) ∧ Below W.heap.size W w') := Lib.hid fun W h1 => sub_self_2 h1 W
  have HRS : Hid (∀ W, 0 ≤ q → q ≤ 31 → Calls Tryz.prog 4 #[vaV 2 (na + nb) q emp] W fun e w' => e = .returned (.bool true) ∧ Below W.heap.size W w') := Lib.hid fun W h1 h2 => ref_sum_2 hz.1 hz.2 h1 h2 W
  have RA := (Row.new w (vaC 2 na q sa) 23).alloc (.cells (vaC 2 nb q sb) 23)
  have RB := Row.new2 w (.cells (vaC 2 na q sa) 23) (vaC 2 nb q sb) 23
  clear hz
  go_enter Tryz.func3, Tryz.ntmps3
  go_wp2_with fail
  generalize hw : (w.alloc (.cells (vaC 2 na q sa) 23)).alloc (.cells (vaC 2 nb q sb) 23) = W0 at *
  have B0 : Hid (Below w.heap.size w W0) := by show Below _ _ _; rw [← hw]; go_grown
  clear hw
  obtain ⟨a0, a1, a2, a3⟩ := RA.four
  obtain ⟨b0, b1, b2, b3⟩ := RB.four
  go_wp2_with (first
    | (go_at_call 4; (with_reducible refine (HRA.out _).mono ?_); rintro e w1 ⟨hr, hb⟩; have RA := RA.keep hb; have RB := RB.keep hb; have l1 := RA.lt; have l2 := RB.lt; have B0 := Lib.hid (bl_then B0.out hb); clear hb; obtain ⟨a0, a1, a2, a3⟩ := RA.four; obtain ⟨b0, b1, b2, b3⟩ := RB.four; rcases hr with rfl | ⟨rfl, ⟨q0, q1, x1, x2⟩, HFA⟩)
    | (go_at_call 4; (with_reducible refine (HRB.out _).mono ?_); rintro e w1 ⟨hr, hb⟩; have RA := RA.keep hb; have RB := RB.keep hb; have l1 := RA.lt; have l2 := RB.lt; have B0 := Lib.hid (bl_then B0.out hb); clear hb; obtain ⟨a0, a1, a2, a3⟩ := RA.four; obtain ⟨b0, b1, b2, b3⟩ := RB.four; rcases hr with rfl | ⟨rfl, ⟨_, _, y1, y2⟩, HFB⟩)
    | (go_at_call 5; (with_reducible refine (HAW.out _).mono ?_); rintro e w1 ⟨rfl, hb⟩; have B0 := Lib.hid (bl_then B0.out hb); clear hb))
  all_goals first
    | (go_ret; exact ⟨rfl, B0.out⟩)
    | skip
  have RT := (Row.new w1 #[.int .i64 2, .int .i64 15, .int .i64 q, .int .i64 0, .bool false, .string emp] 27).alloc (.cells (vaC 2 (na + nb) q emp) 23)
  have RS := Row.new2 w1 (.cells #[.int .i64 2, .int .i64 15, .int .i64 q, .int .i64 0, .bool false, .string emp] 27) (vaC 2 (na + nb) q emp) 23
  have RA := (RA.alloc (.cells #[.int .i64 2, .int .i64 15, .int .i64 q, .int .i64 0, .bool false, .string emp] 27)).alloc (.cells (vaC 2 (na + nb) q emp) 23)
  have RB := (RB.alloc (.cells #[.int .i64 2, .int .i64 15, .int .i64 q, .int .i64 0, .bool false, .string emp] 27)).alloc (.cells (vaC 2 (na + nb) q emp) 23)
  have B0 : Hid (Below w.heap.size w ((w1.alloc (.cells #[.int .i64 2, .int .i64 15, .int .i64 q, .int .i64 0, .bool false, .string emp] 27)).alloc (.cells (vaC 2 (na + nb) q emp) 23))) := Lib.hid ((B0.out.alloc B0.out.size _).alloc (by have := B0.out.size; simp; omega) _)
  generalize hw : (w1.alloc (.cells #[.int .i64 2, .int .i64 15, .int .i64 q, .int .i64 0, .bool false, .string emp] 27)).alloc (.cells (vaC 2 (na + nb) q emp) 23) = W2 at *
  clear hw a0 a1 a2 a3 b0 b1 b2 b3
  have qn : ∀ W : World, (binOp .neq 23 (vaV 2 (na + nb) q emp) (vaV 2 (na + nb) q emp)).run Tryz.prog W = .ok (.bool false) W := fun W => by simp [go_sem]
  go_wp2_with (go_at_call 6; (with_reducible refine (HAD.out _ HFA.out HFB.out).mono ?_); rintro e w3 ⟨rfl, hb⟩; have RA : Row w3 w.heap.size (vaC 2 na q sa) 23 := (by first | exact RA.keep hb | exact (RA.alloc _).keep hb); have RB : Row w3 (w.heap.size + 1) (vaC 2 nb q sb) 23 := (by first | exact RB.keep hb | exact (RB.alloc _).keep hb); have RT : Row w3 w1.heap.size #[.int .i64 2, .int .i64 15, .int .i64 q, .int .i64 0, .bool false, .string emp] 27 := (by first | exact RT.keep hb | exact (RT.alloc _).keep hb); have RS : Row w3 (w1.heap.size + 1) (vaC 2 (na + nb) q emp) 23 := (by first | exact RS.keep hb | exact (RS.alloc _).keep hb); have B0 := Lib.hid (bl_then B0.out hb); have l1 := RA.lt; have l2 := RB.lt; have l3 := RT.lt; have l4 := RS.lt; clear hb; obtain ⟨a0, a1, a2, a3⟩ := RA.four; obtain ⟨b0, b1, b2, b3⟩ := RB.four; obtain ⟨s0, s1, s2, s3⟩ := RS.four; obtain ⟨t0, t1, t2, t3, t4, t5⟩ := row_six RT)
  go_wp2_with (go_at_call 4; (with_reducible refine (HRS.out _ q0 q1).mono ?_); rintro e w4 ⟨rfl, hb⟩; have RA : Row w4 w.heap.size (vaC 2 na q sa) 23 := (by first | exact RA.keep hb | exact (RA.alloc _).keep hb); have RB : Row w4 (w.heap.size + 1) (vaC 2 nb q sb) 23 := (by first | exact RB.keep hb | exact (RB.alloc _).keep hb); have RT : Row w4 w1.heap.size #[.int .i64 2, .int .i64 15, .int .i64 q, .int .i64 0, .bool false, .string emp] 27 := (by first | exact RT.keep hb | exact (RT.alloc _).keep hb); have RS : Row w4 (w1.heap.size + 1) (vaC 2 (na + nb) q emp) 23 := (by first | exact RS.keep hb | exact (RS.alloc _).keep hb); have RV : Row w4 w3.heap.size (vaC 2 (na + nb) q emp) 23 := (by first | exact RV.keep hb | exact (Row.new w3 _ _).keep hb); have B0 : Hid (Below w.heap.size w w4) := Lib.hid (by first | exact bl_then B0.out hb | exact bl_then (B0.out.alloc B0.out.size _) hb); have l5 := RV.lt; have l1 := RA.lt; have l2 := RB.lt; have l3 := RT.lt; have l4 := RS.lt; clear hb; obtain ⟨a0, a1, a2, a3⟩ := RA.four; obtain ⟨b0, b1, b2, b3⟩ := RB.four; obtain ⟨s0, s1, s2, s3⟩ := RS.four; obtain ⟨t0, t1, t2, t3, t4, t5⟩ := row_six RT; obtain ⟨v0, v1, v2, v3⟩ := RV.four)
  go_wp2_with (first
    | (go_at_call 7; (with_reducible refine (HSU.out _ HFA.out).mono ?_); rintro e w5 ⟨rfl, hb⟩; have RA : Row w5 w.heap.size (vaC 2 na q sa) 23 := (by first | exact RA.keep hb | exact (RA.alloc _).keep hb); have RB : Row w5 (w.heap.size + 1) (vaC 2 nb q sb) 23 := (by first | exact RB.keep hb | exact (RB.alloc _).keep hb); have RT : Row w5 w1.heap.size #[.int .i64 2, .int .i64 15, .int .i64 q, .int .i64 0, .bool false, .string emp] 27 := (by first | exact RT.keep hb | exact (RT.alloc _).keep hb); have RS : Row w5 (w1.heap.size + 1) (vaC 2 (na + nb) q emp) 23 := (by first | exact RS.keep hb | exact (RS.alloc _).keep hb); have RV : Row w5 w3.heap.size (vaC 2 (na + nb) q emp) 23 := (by first | exact RV.keep hb | exact (Row.new w3 _ _).keep hb); have B0 : Hid (Below w.heap.size w w5) := Lib.hid (by first | exact bl_then B0.out hb | exact bl_then (B0.out.alloc B0.out.size _) hb); have l5 := RV.lt; have l1 := RA.lt; have l2 := RB.lt; have l3 := RT.lt; have l4 := RS.lt; clear hb; obtain ⟨a0, a1, a2, a3⟩ := RA.four; obtain ⟨b0, b1, b2, b3⟩ := RB.four; obtain ⟨s0, s1, s2, s3⟩ := RS.four; obtain ⟨t0, t1, t2, t3, t4, t5⟩ := row_six RT; obtain ⟨v0, v1, v2, v3⟩ := RV.four; have f0 := RV.free 0; have f1 := RV.free 1; have f2 := RV.free 2; have f3 := RV.free 3)
    | (go_at_call 5; (with_reducible refine (HAW.out _).mono ?_); rintro e w6 ⟨rfl, hb⟩; have B6 := Lib.hid (bl_then (show Below w.heap.size w _ by (repeat refine Below.setCell ?_ (by simp <;> omega) _); exact B0.out) hb)))
  go_ret
  exact ⟨rfl, B6.out⟩

set_option maxRecDepth 100000 in
set_option maxHeartbeats 8000000 in
theorem ex_in_2_big {na nb q : Int} {sa sb : ByteArray} (w : World) (hz : ¬ (-1000000000000000 < na + nb ∧ na + nb < 1000000000000000)) :
    Calls Tryz.prog 3 #[vaV 2 na q sa, vaV 2 nb q sb] w fun e w' => e = .returned (.bool true) ∧ Below w.heap.size w w' := by
  have HRA : Hid (∀ W, Calls Tryz.prog 4 #[vaV 2 na q sa] W (FixD 1000000000000000 na q sa W)) := Lib.hid fun W => (right_2 na q sa W).mono fun _ _ h => fixD_of h
  have HRB : Hid (∀ W, Calls Tryz.prog 4 #[vaV 2 nb q sb] W (FixD 1000000000000000 nb q sb W)) := Lib.hid fun W => (right_2 nb q sb W).mono fun _ _ h => fixD_of h
  have HAW : Hid (∀ W, Calls Tryz.prog 5 #[] W fun e w' => e = .returned (.bool true) ∧ Below W.heap.size W w') := Lib.hid awake_1
  have HAD : Hid (∀ W, FixedR 1000000000000000 na q sa → FixedR 1000000000000000 nb q sb → Calls Tryz.prog 6 #[vaV 2 na q sa, vaV 2 nb q sb, .agg #[.int .i64 2, .int .i64 15, .int .i64 q, .int .i64 0, .bool false, .string emp]] W fun e w' => ∃ N, e = .returned (.tuple #[vaV 2 N q emp, .int .i64 2, .int .i64 0]) ∧ Below W.heap.size W w') := Lib.hid fun W h1 h2 => add_big_2 h1 h2 hz W
  have HSU : Hid (∀ W, FixedR 1000000000000000 na q sa → Calls Tryz.prog 7 #[vaV 2 na q sa, vaV 2 na q sa, .agg #[.int .i64 2, .int .i64 15, .int .i64 q, .int .i64 0, .bool false, .string emp]] W fun e w' => e = .returned (.tuple #[vaV 2 0 q emp, .int .i64 0, .int .i64 0]) ∧ Below W.heap.size W w') := Lib.hid fun W h1 => sub_self_2 h1 W
  have HRS : Hid (∀ W, 0 ≤ q → q ≤ 31 → Calls Tryz.prog 4 #[vaV 2 (na + nb) q emp] W fun e w' => e = .returned (.bool false) ∧ Below W.heap.size W w') := Lib.hid fun W _ _ => ref_not_2 hz W
  have RA := (Row.new w (vaC 2 na q sa) 23).alloc (.cells (vaC 2 nb q sb) 23)
  have RB := Row.new2 w (.cells (vaC 2 na q sa) 23) (vaC 2 nb q sb) 23
  clear hz
  go_enter Tryz.func3, Tryz.ntmps3
  go_wp2_with fail
  generalize hw : (w.alloc (.cells (vaC 2 na q sa) 23)).alloc (.cells (vaC 2 nb q sb) 23) = W0 at *
  have B0 : Hid (Below w.heap.size w W0) := by show Below _ _ _; rw [← hw]; go_grown
  clear hw
  obtain ⟨a0, a1, a2, a3⟩ := RA.four
  obtain ⟨b0, b1, b2, b3⟩ := RB.four
  go_wp2_with (first
    | (go_at_call 4; (with_reducible refine (HRA.out _).mono ?_); rintro e w1 ⟨hr, hb⟩; have RA := RA.keep hb; have RB := RB.keep hb; have l1 := RA.lt; have l2 := RB.lt; have B0 := Lib.hid (bl_then B0.out hb); clear hb; obtain ⟨a0, a1, a2, a3⟩ := RA.four; obtain ⟨b0, b1, b2, b3⟩ := RB.four; rcases hr with rfl | ⟨rfl, ⟨q0, q1, x1, x2⟩, HFA⟩)
    | (go_at_call 4; (with_reducible refine (HRB.out _).mono ?_); rintro e w1 ⟨hr, hb⟩; have RA := RA.keep hb; have RB := RB.keep hb; have l1 := RA.lt; have l2 := RB.lt; have B0 := Lib.hid (bl_then B0.out hb); clear hb; obtain ⟨a0, a1, a2, a3⟩ := RA.four; obtain ⟨b0, b1, b2, b3⟩ := RB.four; rcases hr with rfl | ⟨rfl, ⟨_, _, y1, y2⟩, HFB⟩)
    | (go_at_call 5; (with_reducible refine (HAW.out _).mono ?_); rintro e w1 ⟨rfl, hb⟩; have B0 := Lib.hid (bl_then B0.out hb); clear hb))
  all_goals first
    | (go_ret; exact ⟨rfl, B0.out⟩)
    | skip
  have RT := (Row.new w1 #[.int .i64 2, .int .i64 15, .int .i64 q, .int .i64 0, .bool false, .string emp] 27).alloc (.cells (vaC 2 (na + nb) q emp) 23)
  have RS := Row.new2 w1 (.cells #[.int .i64 2, .int .i64 15, .int .i64 q, .int .i64 0, .bool false, .string emp] 27) (vaC 2 (na + nb) q emp) 23
  have RA := (RA.alloc (.cells #[.int .i64 2, .int .i64 15, .int .i64 q, .int .i64 0, .bool false, .string emp] 27)).alloc (.cells (vaC 2 (na + nb) q emp) 23)
  have RB := (RB.alloc (.cells #[.int .i64 2, .int .i64 15, .int .i64 q, .int .i64 0, .bool false, .string emp] 27)).alloc (.cells (vaC 2 (na + nb) q emp) 23)
  have B0 : Hid (Below w.heap.size w ((w1.alloc (.cells #[.int .i64 2, .int .i64 15, .int .i64 q, .int .i64 0, .bool false, .string emp] 27)).alloc (.cells (vaC 2 (na + nb) q emp) 23))) := Lib.hid ((B0.out.alloc B0.out.size _).alloc (by have := B0.out.size; simp; omega) _)
  generalize hw : (w1.alloc (.cells #[.int .i64 2, .int .i64 15, .int .i64 q, .int .i64 0, .bool false, .string emp] 27)).alloc (.cells (vaC 2 (na + nb) q emp) 23) = W2 at *
  clear hw a0 a1 a2 a3 b0 b1 b2 b3
  go_wp2_with (go_at_call 6; (with_reducible refine (HAD.out _ HFA.out HFB.out).mono ?_); rintro e w3 ⟨N, rfl, hb⟩; have RA : Row w3 w.heap.size (vaC 2 na q sa) 23 := (by first | exact RA.keep hb | exact (RA.alloc _).keep hb); have RB : Row w3 (w.heap.size + 1) (vaC 2 nb q sb) 23 := (by first | exact RB.keep hb | exact (RB.alloc _).keep hb); have RT : Row w3 w1.heap.size #[.int .i64 2, .int .i64 15, .int .i64 q, .int .i64 0, .bool false, .string emp] 27 := (by first | exact RT.keep hb | exact (RT.alloc _).keep hb); have RS : Row w3 (w1.heap.size + 1) (vaC 2 (na + nb) q emp) 23 := (by first | exact RS.keep hb | exact (RS.alloc _).keep hb); have B0 := Lib.hid (bl_then B0.out hb); have l1 := RA.lt; have l2 := RB.lt; have l3 := RT.lt; have l4 := RS.lt; clear hb; obtain ⟨a0, a1, a2, a3⟩ := RA.four; obtain ⟨b0, b1, b2, b3⟩ := RB.four; obtain ⟨s0, s1, s2, s3⟩ := RS.four; obtain ⟨t0, t1, t2, t3, t4, t5⟩ := row_six RT)
  go_wp2_with (go_at_call 4; (with_reducible refine (HRS.out _ q0 q1).mono ?_); rintro e w4 ⟨rfl, hb⟩; have RA : Row w4 w.heap.size (vaC 2 na q sa) 23 := (by first | exact RA.keep hb | exact (RA.alloc _).keep hb); have RB : Row w4 (w.heap.size + 1) (vaC 2 nb q sb) 23 := (by first | exact RB.keep hb | exact (RB.alloc _).keep hb); have RT : Row w4 w1.heap.size #[.int .i64 2, .int .i64 15, .int .i64 q, .int .i64 0, .bool false, .string emp] 27 := (by first | exact RT.keep hb | exact (RT.alloc _).keep hb); have RS : Row w4 (w1.heap.size + 1) (vaC 2 (na + nb) q emp) 23 := (by first | exact RS.keep hb | exact (RS.alloc _).keep hb); have RV : Row w4 w3.heap.size (vaC 2 N q emp) 23 := (by first | exact RV.keep hb | exact (Row.new w3 _ _).keep hb); have B0 : Hid (Below w.heap.size w w4) := Lib.hid (by first | exact bl_then B0.out hb | exact bl_then (B0.out.alloc B0.out.size _) hb); have l5 := RV.lt; have l1 := RA.lt; have l2 := RB.lt; have l3 := RT.lt; have l4 := RS.lt; clear hb; obtain ⟨a0, a1, a2, a3⟩ := RA.four; obtain ⟨b0, b1, b2, b3⟩ := RB.four; obtain ⟨s0, s1, s2, s3⟩ := RS.four; obtain ⟨t0, t1, t2, t3, t4, t5⟩ := row_six RT; obtain ⟨v0, v1, v2, v3⟩ := RV.four)
  go_wp2_with (first
    | (go_at_call 7; (with_reducible refine (HSU.out _ HFA.out).mono ?_); rintro e w5 ⟨rfl, hb⟩; have RA : Row w5 w.heap.size (vaC 2 na q sa) 23 := (by first | exact RA.keep hb | exact (RA.alloc _).keep hb); have RB : Row w5 (w.heap.size + 1) (vaC 2 nb q sb) 23 := (by first | exact RB.keep hb | exact (RB.alloc _).keep hb); have RT : Row w5 w1.heap.size #[.int .i64 2, .int .i64 15, .int .i64 q, .int .i64 0, .bool false, .string emp] 27 := (by first | exact RT.keep hb | exact (RT.alloc _).keep hb); have RS : Row w5 (w1.heap.size + 1) (vaC 2 (na + nb) q emp) 23 := (by first | exact RS.keep hb | exact (RS.alloc _).keep hb); have RV : Row w5 w3.heap.size (vaC 2 N q emp) 23 := (by first | exact RV.keep hb | exact (Row.new w3 _ _).keep hb); have B0 : Hid (Below w.heap.size w w5) := Lib.hid (by first | exact bl_then B0.out hb | exact bl_then (B0.out.alloc B0.out.size _) hb); have l5 := RV.lt; have l1 := RA.lt; have l2 := RB.lt; have l3 := RT.lt; have l4 := RS.lt; clear hb; obtain ⟨a0, a1, a2, a3⟩ := RA.four; obtain ⟨b0, b1, b2, b3⟩ := RB.four; obtain ⟨s0, s1, s2, s3⟩ := RS.four; obtain ⟨t0, t1, t2, t3, t4, t5⟩ := row_six RT; obtain ⟨v0, v1, v2, v3⟩ := RV.four; have f0 := RV.free 0; have f1 := RV.free 1; have f2 := RV.free 2; have f3 := RV.free 3)
    | (go_at_call 5; (with_reducible refine (HAW.out _).mono ?_); rintro e w6 ⟨rfl, hb⟩; have B6 := Lib.hid (bl_then (show Below w.heap.size w _ by (repeat refine Below.setCell ?_ (by simp <;> omega) _); exact B0.out) hb)))
  go_ret
  exact ⟨rfl, B6.out⟩
end Go.Proofs.YtllpldndkojagaaGreatDoor
