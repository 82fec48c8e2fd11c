/- digit: the sign of a difference is an order: plain numbers. -/
import Derived.Test.YtllpldndkojagaaGreatDoorWrdXs
namespace Go.Proofs.YtllpldndkojagaaGreatDoor

theorem sgnZ_le (z : Int) : sgnZ z ≤ 0 ↔ z ≤ 0 := by
  unfold sgnZ
  split
  · omega
  · split <;> omega
theorem sgnZ_ge (z : Int) : 0 ≤ sgnZ z ↔ 0 ≤ z := by
  unfold sgnZ
  split
  · omega
  · split <;> omega
theorem plN_le (a b : Int) (u t : Nat) (hu : 0 < u) : plN a u (-b) t ≤ 0 ↔ a * t ≤ b * u := by
  unfold plN
  split
  · rename_i h
    subst h
    have hp : (0 : Int) < (u : Int) := by omega
    constructor
    · intro h; exact Int.mul_le_mul_of_nonneg_right (by omega) (by omega)
    · intro h
      have := Int.le_of_mul_le_mul_right h hp
      omega
  · rw [Int.neg_mul]; omega
theorem plN_ge (a b : Int) (u t : Nat) (hu : 0 < u) : 0 ≤ plN a u (-b) t ↔ b * u ≤ a * t := by
  unfold plN
  split
  · rename_i h
    subst h
    have hp : (0 : Int) < (u : Int) := by omega
    constructor
    · intro h; exact Int.mul_le_mul_of_nonneg_right (by omega) (by omega)
    · intro h
      have := Int.le_of_mul_le_mul_right h hp
      omega
  · rw [Int.neg_mul]; omega
/-- a/u ≤ b/t and b/t ≤ c/r: a/u ≤ c/r. -/
theorem frac_trans {a b c : Int} {u t r : Nat} (ht : 0 < t) (h1 : a * t ≤ b * u) (h2 : b * r ≤ c * t) : a * r ≤ c * u := by
  have hp : (0 : Int) < (t : Int) := by omega
  suffices h : a * r * (t : Int) ≤ c * u * (t : Int) from Int.le_of_mul_le_mul_right h hp
  have k1 : a * t * r ≤ b * u * r := Int.mul_le_mul_of_nonneg_right h1 (by omega)
  have k2 : b * r * u ≤ c * t * u := Int.mul_le_mul_of_nonneg_right h2 (by omega)
  have e1 : a * r * t = a * t * r := by rw [Int.mul_assoc, Int.mul_comm (r : Int), ← Int.mul_assoc]
  have e2 : b * u * r = b * r * u := by rw [Int.mul_assoc, Int.mul_comm (u : Int), ← Int.mul_assoc]
  have e3 : c * t * u = c * u * t := by rw [Int.mul_assoc, Int.mul_comm (t : Int), ← Int.mul_assoc]
  rw [e1]
  exact Int.le_trans k1 (by rw [e2, ← e3]; exact k2)
/-- The signs of the differences of three numbers are those of an order. -/
theorem signs_order {a b c : Int} {u t r : Nat} (hu : 0 < u) (ht : 0 < t) (_hr : 0 < r) :
    (sgnZ (plN a u (-b) t) ≤ 0 → sgnZ (plN b t (-c) r) ≤ 0 → sgnZ (plN a u (-c) r) ≤ 0) ∧ (0 ≤ sgnZ (plN a u (-b) t) → 0 ≤ sgnZ (plN b t (-c) r) → 0 ≤ sgnZ (plN a u (-c) r)) := by
  simp only [sgnZ_le, sgnZ_ge]
  rw [plN_le _ _ _ _ hu, plN_le _ _ _ _ ht, plN_le _ _ _ _ hu, plN_ge _ _ _ _ hu, plN_ge _ _ _ _ ht, plN_ge _ _ _ _ hu]
  exact ⟨fun h1 h2 => frac_trans ht h1 h2, fun h1 h2 => frac_trans ht h2 h1⟩
end Go.Proofs.YtllpldndkojagaaGreatDoor
