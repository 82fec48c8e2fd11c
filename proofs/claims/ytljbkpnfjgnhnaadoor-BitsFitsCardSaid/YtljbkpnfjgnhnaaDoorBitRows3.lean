/- What laws of layer 5 hold in their boxes; what two functions of a string and an error answer alike. -/
import Derived.Test.YtljbkpnfjgnhnaaDoorBitFitP
namespace Go.Proofs.YtljbkpnfjgnhnaaDoor
open Go.RowKit

/-- What two functions of a string and an error answer alike. -/
def Pair (F G : Nat) (args : Array Value) (K : Int) (L : ByteArray) (E : Int) : Prop :=
  (∀ W, Calls Tryd.prog F args W fun e w' => e = .returned (.tuple #[vlV K 0 0 L, .int .i64 E]) ∧ Below W.heap.size W w') ∧
  ∀ W, Calls Tryd.prog G args W fun e w' => e = .returned (.tuple #[vlV K 0 0 L, .int .i64 E]) ∧ Below W.heap.size W w'
theorem Row.put4 {w : World} {b : Nat} {a0 a1 a2 a3 : Value} {t : TypeId} (h : Row w b #[a0, a1, a2, a3] t) (y0 y1 y2 y3 : Value) :
    Row ((((w.setCell ⟨b, 0, none⟩ y0).setCell ⟨b, 1, none⟩ y1).setCell ⟨b, 2, none⟩ y2).setCell ⟨b, 3, none⟩ y3) b #[y0, y1, y2, y3] t := (((h.put 0 y0).put 1 y1).put 2 y2).put 3 y3
theorem Row.by4 {w : World} {b c : Nat} {cs : Array Value} {t : TypeId} (h : Row w c cs t) (hne : b ≠ c) (y0 y1 y2 y3 : Value) :
    Row ((((w.setCell ⟨b, 0, none⟩ y0).setCell ⟨b, 1, none⟩ y1).setCell ⟨b, 2, none⟩ y2).setCell ⟨b, 3, none⟩ y3) c cs t := (((h.set hne).set hne).set hne).set hne
theorem below4 {B : Nat} {w0 w : World} {b : Nat} (h : Below B w0 w) (hb : B ≤ b) (y0 y1 y2 y3 : Value) :
    Below B w0 ((((w.setCell ⟨b, 0, none⟩ y0).setCell ⟨b, 1, none⟩ y1).setCell ⟨b, 2, none⟩ y2).setCell ⟨b, 3, none⟩ y3) := (((h.setCell hb y0).setCell hb y1).setCell hb y2).setCell hb y3
/-- What two functions of a string, a condition and an error answer alike; what two functions of a truth answer alike. -/
def TripF (F G : Nat) (args : Array Value) (K : Int) (L : ByteArray) (C E : Int) : Prop :=
  (∀ W, Calls Tryd.prog F args W fun e w' => e = .returned (.tuple #[vlV K 0 0 L, .int .i64 C, .int .i64 E]) ∧ Below W.heap.size W w') ∧
  ∀ W, Calls Tryd.prog G args W fun e w' => e = .returned (.tuple #[vlV K 0 0 L, .int .i64 C, .int .i64 E]) ∧ Below W.heap.size W w'
def Same (F G : Nat) (args : Array Value) (b : Bool) : Prop :=
  (∀ W, Calls Tryd.prog F args W fun e w' => e = .returned (.bool b) ∧ Below W.heap.size W w') ∧
  ∀ W, Calls Tryd.prog G args W fun e w' => e = .returned (.bool b) ∧ Below W.heap.size W w'
end Go.Proofs.YtljbkpnfjgnhnaaDoor
