/- digit.Compare: its closure, where both values are numbers. -/
import Derived.Test.YtjdgefgdekanjaaGreatDoorWrdNum
import Derived.Test.YtjdgefgdekanjaaGreatDoorWrdGuard
namespace Go.Proofs.YtjdgefgdekanjaaGreatDoor
open Go.RowKit

/-- How Compare's closure ends: with an error, or with the order laid into the caller's result. -/
def CmpD (a b : Va) (po : Nat) (w : World) (e : Ending) (w' : World) : Prop :=
  ∃ w1, Below w.heap.size w w1 ∧ ((∃ n, n ≠ 0 ∧ e = dRef n ∧ w' = w1) ∨ (e = .returned (.tuple #[]) ∧ a.right ∧ b.right ∧ a.number ∧ b.number ∧ w' = w1.setCell ⟨po, 0, none⟩ (.int .i64 (sgnZ (plN a.num a.den (-b.num) b.den)))))
abbrev TT : Nat → Prop := fun _ => True
theorem plN_len {a b : Int} {u t : Nat} (la : (wrds a.natAbs).length ≤ 4000) (lb : (wrds b.natAbs).length ≤ 4000) (lu : (wrds u).length ≤ 4000) (lt : (wrds t).length ≤ 4000) : (wrds (plN a u (-b) t).natAbs).length ≤ 1000000 := by
  unfold plN
  split
  · have h0 := wrds_le_len (Int.natAbs_add_le a (-b))
    have h := wrds_add_len a.natAbs (-b).natAbs
    rw [Int.natAbs_neg] at h h0
    omega
  · have h0 := wrds_le_len (Int.natAbs_add_le (a * t) (-b * u))
    have h := wrds_add_len (a * t).natAbs (-b * u).natAbs
    rw [Int.natAbs_mul, Int.natAbs_mul, Int.natAbs_neg, Int.natAbs_natCast, Int.natAbs_natCast] at h h0
    have h1 := wrds_mul_len a.natAbs t
    have h2 := wrds_mul_len b.natAbs u
    omega
abbrev Va.row (t : Va) : Array Value := #[.int .i64 t.k, .int .i64 t.n, .int .i64 t.q, .string t.s]
theorem VasAt.two {w : World} {c : Nat} {a b : Va} {t : TypeId} (h : Row w c #[.int .i64 a.k, .int .i64 a.n, .int .i64 a.q, .string a.s, .int .i64 b.k, .int .i64 b.n, .int .i64 b.q, .string b.s] t) : VasAt w c 0 [a, b] := by
  intro i hi j v hv
  have hi2 : i = 0 ∨ i = 1 := by simp at hi; omega
  rcases hi2 with rfl | rfl
  · rcases j with _ | _ | _ | _ | j
    · exact (h.at 0).trans hv
    · exact (h.at 1).trans hv
    · exact (h.at 2).trans hv
    · exact (h.at 3).trans hv
    · simp at hv
  · rcases j with _ | _ | _ | _ | j
    · exact (h.at 4).trans hv
    · exact (h.at 5).trans hv
    · exact (h.at 6).trans hv
    · exact (h.at 7).trans hv
    · simp at hv

end Go.Proofs.YtjdgefgdekanjaaGreatDoor
