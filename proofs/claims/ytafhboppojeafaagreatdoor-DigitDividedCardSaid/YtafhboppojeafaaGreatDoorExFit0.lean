/- What RuleRoom says of plain numbers: sums and products of numbers of two fixed types stay below the bound of the result's type: no program in this text. ironbarkref01.Both: a sum of two exact numbers: what it is. ironbarkref01: Base, signed, and what FitTo of a fixed type makes of a number. -/
import Derived.Below
import Derived.Test.YtafhboppojeafaaGreatDoorExact
import Derived.BigGuardPart
import Derived.Deep.RegionHeld3
import Derived.Test.YtafhboppojeafaaGreatDoorRefRight
namespace Go.Proofs.YtafhboppojeafaaGreatDoor

/-- The whole number in a fixed type's place of a fraction. -/
def cutN (B num den Q : Nat) : Nat := num * B ^ Q / den

theorem pow_le_of {B m n : Nat} (hB : 2 ≤ B) (h : m ≤ n) : B ^ m ≤ B ^ n := Nat.pow_le_pow_right (by omega) h

theorem mul_lt_pow {B x p q : Nat} (hB : 2 ≤ B) (h : x < B ^ p) : x * B ^ q < B ^ (p + q) := by
  rw [Nat.pow_add]
  exact Nat.mul_lt_mul_of_pos_right h (Nat.pow_pos (by omega))

/-- A sum has room: E is the greater of the two sizes ahead of the point, with the places behind it. -/
theorem sum_room {B na pa qa nb pb qb E num : Nat} (hB : 2 ≤ B) (ha : na < B ^ pa) (hb : nb < B ^ pb) (hnum : num ≤ na * B ^ qb + nb * B ^ qa)
    (hE1 : pa + qb + max qa qb ≤ E + (qa + qb)) (hE2 : pb + qa + max qa qb ≤ E + (qa + qb)) :
    cutN B num (B ^ qa * B ^ qb) (max qa qb) < B ^ (E + 1) := by
  unfold cutN
  have hpos : 0 < B ^ qa * B ^ qb := Nat.mul_pos (Nat.pow_pos (by omega)) (Nat.pow_pos (by omega))
  rw [Nat.div_lt_iff_lt_mul hpos]
  have h1 : na * B ^ qb * B ^ max qa qb < B ^ (E + (qa + qb)) := by
    have := mul_lt_pow (q := qb) hB ha
    have := mul_lt_pow (q := max qa qb) hB this
    exact Nat.lt_of_lt_of_le this (pow_le_of hB (by omega))
  have h2 : nb * B ^ qa * B ^ max qa qb < B ^ (E + (qa + qb)) := by
    have := mul_lt_pow (q := qa) hB hb
    have := mul_lt_pow (q := max qa qb) hB this
    exact Nat.lt_of_lt_of_le this (pow_le_of hB (by omega))
  have h3 : num * B ^ max qa qb ≤ (na * B ^ qb + nb * B ^ qa) * B ^ max qa qb := Nat.mul_le_mul_right _ hnum
  rw [Nat.add_mul] at h3
  have h4 : B ^ (E + 1) * (B ^ qa * B ^ qb) = B * B ^ (E + (qa + qb)) := by
    rw [← Nat.pow_add, ← Nat.pow_add, Nat.mul_comm, ← Nat.pow_succ]
    congr 1; omega
  have h5 : 2 * B ^ (E + (qa + qb)) ≤ B * B ^ (E + (qa + qb)) := Nat.mul_le_mul_right _ hB
  omega

/-- A product is exact, and has room. -/
theorem times_cut {B na nb qa qb : Nat} (hB : 2 ≤ B) : cutN B (na * nb) (B ^ qa * B ^ qb) (qa + qb) = na * nb := by
  unfold cutN
  rw [Nat.pow_add]
  exact Nat.mul_div_cancel _ (Nat.mul_pos (Nat.pow_pos (by omega)) (Nat.pow_pos (by omega)))

theorem times_room {B na pa nb pb : Nat} (hB : 2 ≤ B) (ha : na < B ^ pa) (hb : nb < B ^ pb) : na * nb < B ^ (pa + pb + 1) := by
  have h1 : na * nb < B ^ pa * B ^ pb := Nat.mul_lt_mul'' ha hb
  rw [← Nat.pow_add] at h1
  exact Nat.lt_of_lt_of_le h1 (pow_le_of hB (by omega))

end Go.Proofs.YtafhboppojeafaaGreatDoor
namespace Go.Proofs.YtafhboppojeafaaGreatDoor
open Go.RowKit

theorem undrew {W w1 : World} (h : Below W.drew.heap.size W.drew w1) : Below W.heap.size W w1 := ((Below.refl _ W).drew).trans h

/-- The sign and the size of a sum; A and C are the two parts. -/
def bothNeg (na nb : Bool) (A C : Nat) : Bool := if na = nb then na && decide (0 < A + C) else if C ≤ A then na && decide (0 < A - C) else nb
def bothNum (na nb : Bool) (A C : Nat) : Nat := if na = nb then A + C else if C ≤ A then A - C else C - A
end Go.Proofs.YtafhboppojeafaaGreatDoor
namespace Go.Proofs.YtafhboppojeafaaGreatDoor
open Go.RowKit

theorem tcells {w2 : World} {b : Nat} {c0 c1 c2 c3 c4 c5 : Value} (h2 : w2.heap[b]? = some (.cells #[c0, c1, c2, c3, c4, c5] 25)) :
    w2.cell? ⟨b, 0, none⟩ = some c0 ∧ w2.cell? ⟨b, 1, none⟩ = some c1 ∧ w2.cell? ⟨b, 2, none⟩ = some c2 ∧ w2.cell? ⟨b, 3, none⟩ = some c3 ∧ w2.cell? ⟨b, 4, none⟩ = some c4 ∧ w2.cell? ⟨b, 5, none⟩ = some c5 ∧ ∀ j, w2.frozen? ⟨b, j, none⟩ = false :=
  ⟨cell_of_row w2 b 0 _ _ _ h2, cell_of_row w2 b 1 _ _ _ h2, cell_of_row w2 b 2 _ _ _ h2, cell_of_row w2 b 3 _ _ _ h2, cell_of_row w2 b 4 _ _ _ h2, cell_of_row w2 b 5 _ _ _ h2, fun j => by simp [World.frozen?, h2]⟩

theorem vcells' {w2 : World} {b : Nat} {c0 c1 c2 c3 : Value} (h2 : w2.heap[b]? = some (.cells #[c0, c1, c2, c3] 23)) :
    w2.cell? ⟨b, 0, none⟩ = some c0 ∧ w2.cell? ⟨b, 1, none⟩ = some c1 ∧ w2.cell? ⟨b, 2, none⟩ = some c2 ∧ w2.cell? ⟨b, 3, none⟩ = some c3 ∧ ∀ j, w2.frozen? ⟨b, j, none⟩ = false :=
  ⟨cell_of_row w2 b 0 _ _ _ h2, cell_of_row w2 b 1 _ _ _ h2, cell_of_row w2 b 2 _ _ _ h2, cell_of_row w2 b 3 _ _ _ h2, fun j => by simp [World.frozen?, h2]⟩

/-- A number with a sign. -/
def sgn (neg : Bool) (n : Nat) : Int := if neg then -(n : Int) else n

theorem boxed3 {w : World} {A B C : Obj} : (((w.alloc A).alloc B).alloc C).heap[w.heap.size]? = some A ∧ (((w.alloc A).alloc B).alloc C).heap[w.heap.size + 1]? = some B ∧ (((w.alloc A).alloc B).alloc C).heap[w.heap.size + 1 + 1]? = some C ∧
    w.heap.size + 1 + 1 < (((w.alloc A).alloc B).alloc C).heap.size ∧ Below w.heap.size w (((w.alloc A).alloc B).alloc C) := three (Below.refl _ _)

/-- What a fixed type keeps of a number, and whether it holds it. -/
def fitN (B num den Q P : Nat) : Nat := cutN B num den Q % B ^ P
end Go.Proofs.YtafhboppojeafaaGreatDoor
