/- digit: the sign of a difference is an order: plain numbers. digit: a right number's exact value: numerator, unit, and how long they are; exactly of any value. -/
import Derived.Test.YtafhboppojeafaaGreatDoorWrdXs
import Derived.Test.YtafhboppojeafaaGreatDoorWrdExs
import Derived.Test.YtafhboppojeafaaGreatDoorWrdYes
namespace Go.Proofs.YtafhboppojeafaaGreatDoor

theorem sgnZ_le (z : Int) : sgnZ z ≤ 0 ↔ z ≤ 0 := by
  unfold sgnZ
  split
  · omega
  · split <;> omega
theorem sgnZ_ge (z : Int) : 0 ≤ sgnZ z ↔ 0 ≤ z := by
  unfold sgnZ
  split
  · omega
  · split <;> omega
theorem plN_le (a b : Int) (u t : Nat) (hu : 0 < u) : plN a u (-b) t ≤ 0 ↔ a * t ≤ b * u := by
  unfold plN
  split
  · rename_i h
    subst h
    have hp : (0 : Int) < (u : Int) := by omega
    constructor
    · intro h; exact Int.mul_le_mul_of_nonneg_right (by omega) (by omega)
    · intro h
      have := Int.le_of_mul_le_mul_right h hp
      omega
  · rw [Int.neg_mul]; omega
theorem plN_ge (a b : Int) (u t : Nat) (hu : 0 < u) : 0 ≤ plN a u (-b) t ↔ b * u ≤ a * t := by
  unfold plN
  split
  · rename_i h
    subst h
    have hp : (0 : Int) < (u : Int) := by omega
    constructor
    · intro h; exact Int.mul_le_mul_of_nonneg_right (by omega) (by omega)
    · intro h
      have := Int.le_of_mul_le_mul_right h hp
      omega
  · rw [Int.neg_mul]; omega
/-- a/u ≤ b/t and b/t ≤ c/r: a/u ≤ c/r. -/
theorem frac_trans {a b c : Int} {u t r : Nat} (ht : 0 < t) (h1 : a * t ≤ b * u) (h2 : b * r ≤ c * t) : a * r ≤ c * u := by
  have hp : (0 : Int) < (t : Int) := by omega
  suffices h : a * r * (t : Int) ≤ c * u * (t : Int) from Int.le_of_mul_le_mul_right h hp
  have k1 : a * t * r ≤ b * u * r := Int.mul_le_mul_of_nonneg_right h1 (by omega)
  have k2 : b * r * u ≤ c * t * u := Int.mul_le_mul_of_nonneg_right h2 (by omega)
  have e1 : a * r * t = a * t * r := by rw [Int.mul_assoc, Int.mul_comm (r : Int), ← Int.mul_assoc]
  have e2 : b * u * r = b * r * u := by rw [Int.mul_assoc, Int.mul_comm (u : Int), ← Int.mul_assoc]
  have e3 : c * t * u = c * u * t := by rw [Int.mul_assoc, Int.mul_comm (t : Int), ← Int.mul_assoc]
  rw [e1]
  exact Int.le_trans k1 (by rw [e2, ← e3]; exact k2)
/-- The signs of the differences of three numbers are those of an order. -/
theorem signs_order {a b c : Int} {u t r : Nat} (hu : 0 < u) (ht : 0 < t) (_hr : 0 < r) :
    (sgnZ (plN a u (-b) t) ≤ 0 → sgnZ (plN b t (-c) r) ≤ 0 → sgnZ (plN a u (-c) r) ≤ 0) ∧ (0 ≤ sgnZ (plN a u (-b) t) → 0 ≤ sgnZ (plN b t (-c) r) → 0 ≤ sgnZ (plN a u (-c) r)) := by
  simp only [sgnZ_le, sgnZ_ge]
  rw [plN_le _ _ _ _ hu, plN_le _ _ _ _ ht, plN_le _ _ _ _ hu, plN_ge _ _ _ _ hu, plN_ge _ _ _ _ ht, plN_ge _ _ _ _ hu]
  exact ⟨fun h1 h2 => frac_trans ht h1 h2, fun h1 h2 => frac_trans ht h2 h1⟩
end Go.Proofs.YtafhboppojeafaaGreatDoor
namespace Go.Proofs.YtafhboppojeafaaGreatDoor
open Go.RowKit

/-- What Right tells of a value's fields. -/
def Va.right (t : Va) : Prop :=
  (t.k = 1 → -2147483648 < t.n ∧ t.n < 2147483648 ∧ 0 ≤ t.q ∧ t.q ≤ 31) ∧
  (t.k = 2 → -1000000000000000 < t.n ∧ t.n < 1000000000000000 ∧ 0 ≤ t.q ∧ t.q ≤ 31) ∧
  (t.k = 3 → -1000000000000000 < t.n ∧ t.n < 1000000000000000 ∧ -1000 ≤ t.q ∧ t.q ≤ 1000)
def Va.number (t : Va) : Prop := t.k = 1 ∨ t.k = 2 ∨ t.k = 3
/-- The numerator. -/
def Va.num (t : Va) : Int := if t.k = 3 then shN t.n t.q else t.n
/-- The unit. -/
def Va.den (t : Va) : Nat := if t.k = 3 then shU 1 t.q else if t.k = 2 then 10 ^ t.q.toNat else 2 ^ t.q.toNat

theorem Va.den_pos (t : Va) : 0 < t.den := by
  unfold Va.den shU
  split
  · split
    · rw [Nat.one_mul]; exact Nat.pow_pos (by decide)
    · decide
  · split <;> exact Nat.pow_pos (by decide)
theorem len_small {n : Int} (h1 : -9223372036854775807 ≤ n) (h2 : n ≤ 9223372036854775807) : (wrds n.natAbs).length ≤ 2 := wrds_length n.natAbs 2 (by omega)
theorem Va.num_len (t : Va) (h : t.right) (hk : t.number) : (wrds t.num.natAbs).length ≤ 4000 := by
  obtain ⟨r1, r2, r3⟩ := h
  unfold Va.num
  rcases hk with hk | hk | hk
  · rw [if_neg (by omega)]
    have := r1 hk
    exact Nat.le_trans (len_small (by omega) (by omega)) (by decide)
  · rw [if_neg (by omega)]
    have := r2 hk
    exact Nat.le_trans (len_small (by omega) (by omega)) (by decide)
  · rw [if_pos hk]
    have := r3 hk
    unfold shN
    split
    · exact Nat.le_trans (len_small (by omega) (by omega)) (by decide)
    · rw [Int.natAbs_mul, Int.natAbs_natCast]
      have h1 := wrds_mul_len t.n.natAbs (10 ^ t.q.toNat)
      have h2 := len_small (n := t.n) (by omega) (by omega)
      have h3 := wrds_ten (q := t.q.toNat) (by omega)
      omega
theorem Va.den_len (t : Va) (h : t.right) (hk : t.number) : (wrds t.den).length ≤ 4000 := by
  obtain ⟨r1, r2, r3⟩ := h
  unfold Va.den
  rcases hk with hk | hk | hk
  · rw [if_neg (by omega), if_neg (by omega)]
    have := r1 hk
    refine Nat.le_trans (wrds_length _ 1 ?_) (by decide)
    refine Nat.lt_of_le_of_lt (Nat.pow_le_pow_right (by decide) (show t.q.toNat ≤ 31 by omega)) (by decide)
  · rw [if_neg (by omega), if_pos hk]
    have := r2 hk
    exact Nat.le_trans (wrds_ten (by omega)) (by decide)
  · rw [if_pos hk]
    have := r3 hk
    unfold shU
    split
    · rw [Nat.one_mul]
      exact Nat.le_trans (wrds_ten (by omega)) (by decide)
    · exact Nat.le_trans (wrds_length 1 1 (by decide)) (by decide)
/-- exactly of a number that is right. -/
theorem exactly_num {P : Nat → Prop} (t : Va) (w : World) (hP : ∀ c, w.heap.size ≤ c → P c) (h : t.right) (hk : t.number) :
    Calls Tryz.prog 33 #[t.v] w fun e w' => ∃ y, e = .returned y ∧ XArgP P w' y t.num t.den ∧ Below w.heap.size w w' := by
  obtain ⟨k, n, q, s⟩ := t
  obtain ⟨r1, r2, r3⟩ := h
  rcases hk with hk | hk | hk
  · obtain rfl : k = 1 := hk
    obtain ⟨b1, b2, b3, b4⟩ := r1 rfl
    obtain ⟨m, hm⟩ := Int.eq_ofNat_of_zero_le b3
    have hm' : q = (m : Int) := hm
    subst hm'
    exact exactly_1 n m s w hP (by show _ ≤ n; have : -2147483648 < n := b1; omega) (by have : n < 2147483648 := b2; omega) (by have : (m : Int) ≤ 31 := b4; omega)
  · obtain rfl : k = 2 := hk
    obtain ⟨b1, b2, b3, b4⟩ := r2 rfl
    obtain ⟨m, hm⟩ := Int.eq_ofNat_of_zero_le b3
    have hm' : q = (m : Int) := hm
    subst hm'
    exact exactly_2 n m s w hP (by have : -1000000000000000 < n := b1; omega) (by have : n < 1000000000000000 := b2; omega) (by have : (m : Int) ≤ 31 := b4; omega)
  · obtain rfl : k = 3 := hk
    obtain ⟨b1, b2, b3, b4⟩ := r3 rfl
    exact exactly_3 n q s w hP (by have : -1000000000000000 < n := b1; omega) (by have : n < 1000000000000000 := b2; omega) (by have : -1000 ≤ q := b3; omega) (by have : q ≤ 1000 := b4; omega)
/-- exactly of a value that is no number. -/
theorem exactly_none (t : Va) (w : World) (hk : ¬ t.number) :
    Calls Tryz.prog 33 #[t.v] w fun e w' => e = dRef 10 ∧ Below w.heap.size w w' := exactly_no t.k t.n t.q t.s w hk
end Go.Proofs.YtafhboppojeafaaGreatDoor
