/- Package bits, what asks of places: begins, isIn, not; least, many. -/
import Derived.Test.YtljbkpnfjgnhnaaDoorBitTell2
namespace Go.Proofs.YtljbkpnfjgnhnaaDoor
open Go.RowKit

/-- A function of the program that answers of a place, for the places below n, in any world behind w. -/
def Asks (w : World) (fn : Nat) (cap : Array Value) (n : Nat) (p : Nat → Bool) : Prop :=
  (∀ (args : Array Value) (W : World), (callFunc fn args).run Tryd.prog W = .ok (.enter fn args) W) ∧
  ∀ (i : Nat) (W : World), i < n → Below w.heap.size w W → Calls Tryd.prog fn (#[.int .i64 i] ++ cap) W fun e w' => e = .returned (.bool (p i)) ∧ Below W.heap.size W w'
theorem Asks.later {w w' : World} {fn : Nat} {cap : Array Value} {n : Nat} {p : Nat → Bool} (h : Asks w fn cap n p) (hB : Below w.heap.size w w') : Asks w' fn cap n p :=
  ⟨h.1, fun i W hi hW => h.2 i W hi (bl_then hB hW)⟩
def GivesA (w : World) (n : Nat) (p : Nat → Bool) (e : Ending) (w' : World) : Prop := ∃ fn cap, e = .returned (fnC fn cap) ∧ Asks w' fn cap n p ∧ Below w.heap.size w w'

/- placeOf, isIn, not -/
theorem inP_b (s : ByteArray) (set : List UInt8) (i : Nat) (h : i < s.size) : inP s.data.toList set i = decide (0 ≤ Lib.indexByte set s[i]) := by
  rw [inP, getD_b s i h, has_eq]
/- begins -/
theorem begsP_b (s p : ByteArray) (i : Nat) (hp : p.size ≠ 0) : begsP s.data.toList p.data.toList i = Lib.hasPrefix (s.data.toList.drop i) p.data.toList := by
  have : p.data.toList.isEmpty = false := by
    rw [Bool.eq_false_iff]; intro e; apply hp; rw [← lsz, List.isEmpty_iff.1 e]; rfl
  simp [begsP, this]
theorem begsP_e (s p : ByteArray) (i : Nat) (hp : p.size = 0) : begsP s.data.toList p.data.toList i = false := by
  have : p.data.toList = [] := List.eq_nil_of_length_eq_zero (by rw [lsz]; exact hp)
  simp [begsP, this]
theorem ext_drop (s : ByteArray) (a : Nat) (_h : a ≤ s.size) : s.extract a s.size = bsz (s.data.toList.drop a) := by
  have e : (s.extract a s.size).data.toList = s.data.toList.drop a := by
    rw [Lib.extract_data, List.take_of_length_le (by rw [List.length_drop, lsz]; omega)]
  rw [← e]
end Go.Proofs.YtljbkpnfjgnhnaaDoor
