/- digit.magnitude, power: the words of powers. -/
import Derived.Test.YtllpldndkojagaaGreatDoorWrdMul
import Derived.Lib.RabinKarpLaws
namespace Go.Proofs.YtllpldndkojagaaGreatDoor
open Go.RowKit

theorem wpow_le (a b : Nat) (h : a ≤ b) : 4294967296 ^ a ≤ 4294967296 ^ b := Nat.pow_le_pow_right (by decide) h
theorem wrds_len {n k : Nat} (h : n < 4294967296 ^ k) : (wrds n).length ≤ k := wrds_length n k h
set_option maxHeartbeats 1000000 in
theorem magnitude_d (x : Int) (w : World) (h1 : -9223372036854775807 ≤ x) (h2 : x ≤ 9223372036854775807) :
    Calls Tryz.prog 85 #[.int .i64 x] w (GivesW w x.natAbs) := by
  by_cases h : x < 0
  · obtain ⟨n, hn⟩ := Int.eq_ofNat_of_zero_le (show 0 ≤ -x by omega)
    have hx : x = -(n : Int) := by omega
    subst hx
    have e : (-(n : Int)).natAbs = n := by omega
    rw [e]
    have hw : IntKind.i64.wrap (- -(n : Int)) = n := by rw [Int.neg_neg]; exact IntWalk.i64_in _ (by omega)
    have hm : max (-(n : Int)) (n : Int) = n := by omega
    have hl : -(n : Int) < (n : Int) := by omega
    have HN : Hid (∀ W, Calls Tryz.prog 87 #[.int .i64 (n : Int)] W (GivesW W n)) := Lib.hid fun W => natural_d n W (by omega)
    clear e hn
    go_enter Tryz.func85, Tryz.ntmps85
    go_wp2_with (go_at_call 87; refine (HN.out _).mono ?_; rintro e w2 ⟨v2, rfl, W2, hb2⟩)
    go_ret
    exact ⟨_, rfl, W2, hb2⟩
  · obtain ⟨n, rfl⟩ := Int.eq_ofNat_of_zero_le (show 0 ≤ x by omega)
    have e : ((n : Int)).natAbs = n := by omega
    rw [e]
    have hw : IntKind.i64.wrap (-(n : Int)) = -(n : Int) := IntWalk.i64_in _ (by omega)
    have hm : max (n : Int) (-(n : Int)) = n := by omega
    have hl : ¬ (n : Int) < -(n : Int) := by omega
    have hl2 : -(n : Int) ≤ (n : Int) := by omega
    have HN : Hid (∀ W, Calls Tryz.prog 87 #[.int .i64 (n : Int)] W (GivesW W n)) := Lib.hid fun W => natural_d n W (by omega)
    clear e
    go_enter Tryz.func85, Tryz.ntmps85
    go_wp2_with (go_at_call 87; refine (HN.out _).mono ?_; rintro e w2 ⟨v2, rfl, W2, hb2⟩)
    go_ret
    exact ⟨_, rfl, W2, hb2⟩
theorem odd_of {m : Nat} (hm : m < 9223372036854775808) {b : Bool} (h : (bits BinOp.and IntKind.i64 (m : Int) 1 == 1) = b) : (m % 2 = 1) ↔ b = true := by
  rw [Go.Proofs.and_one m hm] at h
  rw [← h, beq_iff_eq]; omega
theorem pow_half (y m : Nat) : y ^ m = (y * y) ^ (m / 2) * y ^ (m % 2) := by
  rw [← Nat.pow_two, ← Nat.pow_mul, ← Nat.pow_add, Nat.div_add_mod]
theorem pow_odd {x y m T : Nat} (h : x * y ^ m = T) (ho : m % 2 = 1) : x * y * (y * y) ^ (m / 2) = T := by
  rw [← h, pow_half y m, ho, Nat.pow_one, Nat.mul_comm ((y * y) ^ (m / 2)), Nat.mul_assoc]
theorem pow_even {x y m T : Nat} (h : x * y ^ m = T) (ho : ¬ m % 2 = 1) : x * (y * y) ^ (m / 2) = T := by
  rw [← h, pow_half y m, show m % 2 = 0 by omega, Nat.pow_zero, Nat.mul_one]
theorem pow_le {x z k T : Nat} (h : x * z ^ k = T) (hx : 1 ≤ x) (hz : 1 ≤ z) (hk : 1 ≤ k) : z ≤ T := by
  have h1 : z ^ 1 ≤ z ^ k := Nat.pow_le_pow_right hz hk
  rw [Nat.pow_one] at h1
  have h2 : 1 * z ^ k ≤ x * z ^ k := Nat.mul_le_mul_right _ hx
  omega
theorem pow_fst {x z k T : Nat} (h : x * z ^ k = T) (hz : 1 ≤ z) : x ≤ T := by
  have h1 : x * 1 ≤ x * z ^ k := Nat.mul_le_mul_left _ (Nat.one_le_pow _ _ hz)
  omega
/-- What stands in power's loop. -/
def PowR (w : World) (T Lim : Nat) (m x y : Nat) (v u : Value) (wr : World) : Prop :=
  x * y ^ m = T ∧ 1 ≤ x ∧ 1 ≤ y ∧ x ≤ Lim ∧ y ≤ Lim ∧ WArg w.heap.size wr v x ∧ WArg w.heap.size wr u y ∧ Below w.heap.size w wr
set_option maxHeartbeats 1000000 in
set_option maxRecDepth 100000 in
theorem power_d (base n : Nat) (w : World) (hb0 : 1 ≤ base) (hb : base < 9223372036854775808) (hn : n < 9223372036854775808) (hT : base ^ n < 4294967296 ^ 10000) :
    Calls Tryz.prog 80 #[.int .i64 (base : Int), .int .i64 (n : Int)] w (GivesW w (base ^ n)) := by
  have H1 : Hid (∀ W, Calls Tryz.prog 87 #[.int .i64 1] W (GivesW W 1)) := Lib.hid fun W => natural_d 1 W (by decide)
  have H2 : Hid (∀ W, Calls Tryz.prog 87 #[.int .i64 (base : Int)] W (GivesW W base)) := Lib.hid fun W => natural_d base W hb
  go_enter Tryz.func80, Tryz.ntmps80
  go_wp2_with (go_at_call 87; first
    | ((with_reducible refine (H1.out _).mono ?_); rintro e w1 ⟨v1, rfl, W1, hb1⟩; obtain ⟨p1, k1, rfl⟩ := W1.slice)
    | ((with_reducible refine (H2.out _).mono ?_); rintro e w2 ⟨v2, rfl, W2, hb2⟩; obtain ⟨p2, k2, rfl⟩ := W2.slice))
  have B2 := bl_then hb1 hb2
  have HR0 : Hid (PowR w (base ^ n) (max (base ^ n) base) n 1 base (.slice p1 (wrds 1).length k1) (.slice p2 (wrds base).length k2) w2) := Lib.hid ⟨by rw [Nat.one_mul], Nat.le_refl _, hb0, Nat.le_trans hb0 (Nat.le_max_right _ _), Nat.le_max_right _ _, W1.keep hb2 (Nat.le_refl _), W2.base hb1.size, B2⟩
  have HL : Hid (∀ z, z ≤ max (base ^ n) base → (wrds z).length ≤ 10000) := by
    show ∀ _, _
    intro z hz
    apply wrds_len
    have h2 := wpow_le 2 10000 (by decide)
    have h3 : base < 4294967296 ^ 2 := Nat.lt_trans hb (by decide)
    rcases Nat.le_total (base ^ n) base with h | h
    · rw [Nat.max_eq_right h] at hz; exact Nat.lt_of_le_of_lt hz (Nat.lt_of_lt_of_le h3 h2)
    · rw [Nat.max_eq_left h] at hz; exact Nat.lt_of_le_of_lt hz hT
  have HTL : Hid (base ^ n ≤ max (base ^ n) base) := Lib.hid (Nat.le_max_left _ _)
  clear hT hb hb0 H1 H2
  generalize base ^ n = T at *
  generalize max T base = Lim at *
  clear hb1 hb2 W1 W2 B2
  go_loopw [1, 5, 6] (fun i v u wr => ∃ (m x y : Nat), i = .int .i64 (m : Int) ∧ m ≤ n ∧ PowR w T Lim m x y v u wr) (fun i _ _ _ => (intOf i).toNat)
  case atStart => exact ⟨n, 1, base, rfl, Nat.le_refl _, HR0.out⟩
  case round =>
    obtain ⟨m, x, y, rfl, hm, hR⟩ := hrel
    by_cases h0 : 0 < m
    · have i1 : (0 : Int) < m := by omega
      obtain ⟨e1, e2, e3, e4, e5, e6, e7, e8⟩ := hR
      have E6 := Lib.hid e6; have E7 := Lib.hid e7; have E8 := Lib.hid e8
      clear e6 e7 e8
      go_wp2_with (go_at_call 30; first
        | ((with_reducible refine (product_d E6.out E7.out (HL.out _ e4) (HL.out _ e5)).mono ?_); rintro e w3 ⟨v3, rfl, W3, hb3⟩)
        | ((with_reducible refine (product_d (E7.out.keep hb3 (Nat.le_refl _)) (E7.out.keep hb3 (Nat.le_refl _)) (HL.out _ e5) (HL.out _ e5)).mono ?_); rintro e w4 ⟨v4, rfl, W4, hb4⟩)
        | ((with_reducible refine (product_d E7.out E7.out (HL.out _ e5) (HL.out _ e5)).mono ?_); rintro e w4 ⟨v4, rfl, W4, hb4⟩))
      · have ho := (odd_of (by omega) (by assumption : (bits BinOp.and IntKind.i64 (m : Int) 1 == 1) = true)).2 rfl
        have hp := pow_odd e1 ho
        have hxy : 1 ≤ x * y := Nat.mul_le_mul e2 e3
        have hyy : 1 ≤ y * y := Nat.mul_le_mul e3 e3
        have hm2 : 1 < m := by omega
        exact ⟨⟨m / 2, x * y, y * y, by rw [show ((m / 2 : Nat) : Int) = (m : Int) / 2 by omega], by omega, hp, hxy, hyy, Nat.le_trans (pow_fst hp hyy) HTL.out, Nat.le_trans (pow_le hp hxy hyy (by omega)) HTL.out, (W3.base E8.out.size).keep hb4 (Nat.le_refl _), W4.base (Nat.le_trans E8.out.size hb3.size), bl_then (bl_then E8.out hb3) hb4⟩, by simp [intOf]; omega⟩
      · have ho := (odd_of (by omega) (by assumption : (bits BinOp.and IntKind.i64 (m : Int) 1 == 1) = true)).2 rfl
        have hp := pow_odd e1 ho
        have hxy : 1 ≤ x * y := Nat.mul_le_mul e2 e3
        have hm1 : m = 1 := by omega
        subst hm1
        exact ⟨⟨0, x * y, y, rfl, by omega, by simpa using hp, hxy, e3, by rw [show x * y = T by simpa using hp]; exact HTL.out, e5, W3.base E8.out.size, E7.out.keep hb3 (Nat.le_refl _), bl_then E8.out hb3⟩, by simp [intOf]⟩
      · have ho : ¬ m % 2 = 1 := fun h => by have := (odd_of (by omega) (by assumption : (bits BinOp.and IntKind.i64 (m : Int) 1 == 1) = false)).1 h; cases this
        have hp := pow_even e1 ho
        have hyy : 1 ≤ y * y := Nat.mul_le_mul e3 e3
        have hm2 : 1 < m := by omega
        exact ⟨⟨m / 2, x, y * y, by rw [show ((m / 2 : Nat) : Int) = (m : Int) / 2 by omega], by omega, hp, e2, hyy, e4, Nat.le_trans (pow_le hp e2 hyy (by omega)) HTL.out, E6.out.keep hb4 (Nat.le_refl _), W4.base E8.out.size, bl_then E8.out hb4⟩, by simp [intOf]; omega⟩
      · exfalso
        have ho : ¬ m % 2 = 1 := fun h => by have := (odd_of (by omega) (by assumption : (bits BinOp.and IntKind.i64 (m : Int) 1 == 1) = false)).1 h; cases this
        omega
    · obtain rfl : m = 0 := by omega
      obtain ⟨e1, e2, e3, e4, e5, e6, e7, e8⟩ := hR
      obtain rfl : x = T := by simpa using e1
      have E6 := Lib.hid e6; have E8 := Lib.hid e8
      clear e6 e7 e8 e1
      go_wp2
      go_ret
      exact ⟨_, rfl, E6.out, E8.out⟩
end Go.Proofs.YtllpldndkojagaaGreatDoor
