/- digit.Divide of any two numbers into a fixed type. digit.Divide of any two right numbers into a fixed type, and the numbers of the law DigitDivided. -/
import Derived.Test.YtpdoddhieblooaaGreatDoorKFtErrT
import Derived.Test.YtpdoddhieblooaaGreatDoorKWrdDivd
import Derived.Test.YtpdoddhieblooaaGreatDoorKTwoLaw
import Derived.Test.YtpdoddhieblooaaGreatDoorKFtOrder
import Derived.Test.YtpdoddhieblooaaGreatDoorKExOfAny
namespace Go.Proofs.YtpdoddhieblooaaGreatDoor
open Go.RowKit

def KindP (k : Int) (β P : Nat) : Prop := (k = 1 ∧ β = 2 ∧ 1 ≤ P ∧ P ≤ 31) ∨ (k = 2 ∧ β = 10 ∧ 1 ≤ P ∧ P ≤ 15)
theorem KindP.bound {k : Int} {β P : Nat} (h : KindP k β P) : 0 < β ^ P ∧ β ^ P ≤ 1000000000000000 := by
 rcases h with ⟨_, rfl, _, h⟩ | ⟨_, rfl, _, h⟩
 · exact ⟨Nat.pow_pos (by decide), Nat.le_trans (Nat.pow_le_pow_right (by decide) h) (by decide)⟩
 · exact ⟨Nat.pow_pos (by decide), Nat.le_trans (Nat.pow_le_pow_right (by decide) h) (by decide)⟩
theorem KindP.scale {k : Int} {β P : Nat} (h : KindP k β P) {q : Nat} (hq : q ≤ 31) : 0 < β ^ q ∧ (wrds (β ^ q)).length ≤ 4 := by
 have hb : 0 < β ∧ β ≤ 10 := by rcases h with ⟨_, rfl, _⟩ | ⟨_, rfl, _⟩ <;> decide
 refine ⟨Nat.pow_pos hb.1, wrds_length _ 4 ?_⟩
 exact Nat.lt_of_le_of_lt (Nat.le_trans (Nat.pow_le_pow_left hb.2 q) (Nat.pow_le_pow_right (by decide) hq)) (by decide)
end Go.Proofs.YtpdoddhieblooaaGreatDoor
namespace Go.Proofs.YtpdoddhieblooaaGreatDoor
open Go.RowKit

end Go.Proofs.YtpdoddhieblooaaGreatDoor
