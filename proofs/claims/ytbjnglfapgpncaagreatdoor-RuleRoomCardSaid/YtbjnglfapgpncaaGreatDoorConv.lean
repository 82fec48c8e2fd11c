/- Two types of numbers, brought to one base: the conversions. -/
import Derived.Test.YtbjnglfapgpncaaGreatDoorRule2
import Derived.Deep.RegionWith
namespace Go.Proofs.YtbjnglfapgpncaaGreatDoor
open Go.RowKit
def flP (k p : Int) : Int := if k = 1 then fP p else p
def biP (k p : Int) : Int := if k = 2 then bP p else p
def biQ (k q : Int) : Int := if k = 2 then bQ q else q

theorem asFloat_any (k p q : Int) (w : World) (h1 : 1 ≤ k) (h3 : k ≤ 3) (hp : 1 ≤ p) (hp' : p ≤ 31) :
    Calls Tryz.prog 52 #[numV k p q] w fun e w' => e = .returned (numV 3 (flP k p) 0) ∧ Below w.heap.size w w' := by
  obtain rfl | rfl | rfl : k = 1 ∨ k = 2 ∨ k = 3 := by omega
  · exact asFloat_1 p q w hp hp'
  · exact asFloat_2 p q w
  · exact asFloat_3 p q w
theorem asBinary_any (k p q : Int) (w : World) (h1 : 1 ≤ k) (h3 : k ≤ 2) (hp : 1 ≤ p) (hp' : p ≤ 31) (hq : 0 ≤ q) (hq' : q ≤ 31) :
    Calls Tryz.prog 84 #[numV k p q] w fun e w' => e = .returned (numV 1 (biP k p) (biQ k q)) ∧ Below w.heap.size w w' := by
  obtain rfl | rfl : k = 1 ∨ k = 2 := by omega
  · exact asBinary_1 p q w
  · exact asBinary_2 p q w hp hp' hq hq'
def base (ka kb : Int) : Int := if ka = 3 ∨ kb = 3 then 3 else if ka = 1 ∨ kb = 1 then 1 else 2
def cP (B k p : Int) : Int := if B = 3 then flP k p else if B = 1 then biP k p else p
def cQ (B k q : Int) : Int := if B = 3 then 0 else if B = 1 then biQ k q else q
theorem flP_bd (k p : Int) (h : 1 ≤ p) (h' : p ≤ 31) : 1 ≤ flP k p ∧ flP k p ≤ 31 := by unfold flP fP; split <;> omega
theorem biP_bd (k p : Int) (h : 1 ≤ p) (h' : p ≤ 31) : 1 ≤ biP k p ∧ biP k p ≤ 31 := by unfold biP bP; split <;> omega
theorem biQ_bd (k q : Int) (h : 0 ≤ q) (h' : q ≤ 31) : 0 ≤ biQ k q ∧ biQ k q ≤ 31 := by unfold biQ bQ; split <;> omega
theorem cP_bd (B k p : Int) (h : 1 ≤ p) (h' : p ≤ 31) : 1 ≤ cP B k p ∧ cP B k p ≤ 31 := by
  unfold cP; have := flP_bd k p h h'; have := biP_bd k p h h'; split <;> (try split) <;> omega
theorem cQ_bd (B k q : Int) (h : 0 ≤ q) (h' : q ≤ 31) : 0 ≤ cQ B k q ∧ cQ B k q ≤ 31 := by
  unfold cQ; have := biQ_bd k q h h'; split <;> (try split) <;> omega
end Go.Proofs.YtbjnglfapgpncaaGreatDoor
