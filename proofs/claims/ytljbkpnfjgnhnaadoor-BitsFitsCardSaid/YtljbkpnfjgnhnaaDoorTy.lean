/- Types of layer 1: which types are valid, as package digit and as the document say. -/
import Derived.Test.YtljbkpnfjgnhnaaDoorProg
import Derived.WalkKit
import Derived.WalkSpells
import Derived.WalkLawsBesides
import Derived.Handy
import Derived.Lib.Hide
namespace Go.Proofs.YtljbkpnfjgnhnaaDoor
open Go.RowKit

/-- A struct api.Type as a value. -/
abbrev tyV (k p q n : Int) (vy : Bool) (pic : ByteArray) : Value := .agg #[.int .i64 k, .int .i64 p, .int .i64 q, .int .i64 n, .bool vy, .string pic]

theorem tyEq (k p q n k' p' q' n' : Int) (vy vy' : Bool) (pic pic' : ByteArray) (w : World) :
    (Op.equalIn 10000 25 (tyV k p q n vy pic) (tyV k' p' q' n' vy' pic')).run Tryd.prog w = .ok (k == k' && p == p' && q == q' && n == n' && vy == vy' && pic.toList == pic'.toList) w := by
  have hS : Tryd.prog.underlying 25 = some (.struct (Tryd.prog.fieldsOf 25)) := by kernel_rfl
  have hp : Tryd.prog.stoodInHeld 25 = false := by kernel_rfl
  rw [show (10000 : Nat) = 9999 + 1 from rfl, run_equalIn_agg w 9999 25 _ _ hS hp]
  simp only [Program.fieldsOf, Tryd.underlying25]
  go_simp
  by_cases h1 : k = k' <;> by_cases h2 : p = p' <;> by_cases h3 : q = q' <;> by_cases h4 : n = n' <;> by_cases h5 : vy = vy' <;> by_cases h6 : pic.toList = pic'.toList <;> simp [h1, h2, h3, h4, h5, h6]

theorem ret_bool {a b : Bool} (h : a = b) : Ending.returned (.bool a) = .returned (.bool b) := by rw [h]

theorem bcell {W w1 : World} (hb : Below W.heap.size W w1) : (∀ b o, b < W.heap.size → w1.cell? ⟨b, o, none⟩ = W.cell? ⟨b, o, none⟩) ∧ (∀ b o, b < W.heap.size → w1.frozen? ⟨b, o, none⟩ = W.frozen? ⟨b, o, none⟩) :=
  ⟨fun b o h => hb.cell (p := ⟨b, o, none⟩) h, fun b o h => hb.frozen (p := ⟨b, o, none⟩) h⟩

theorem below_then {w w1 w2 : World} {B : Nat} (h1 : Below B w w1) (h2 : Below w1.heap.size w1 w2) (hB : B ≤ w1.heap.size) : Below B w w2 := h1.trans (h2.mono hB)

def validPlainS (_k p q n : Int) (vy : Bool) (pic : ByteArray) : Bool := p == 0 && q == 0 && n == 0 && vy == false && pic.toList == []

def validStringS (_k p q n : Int) (_vy : Bool) (pic : ByteArray) : Bool := decide (0 ≤ n) && decide (n ≤ 250) && (p == 0 && q == 0 && pic.toList == [])

def validFloatS (_k p q n : Int) (vy : Bool) (pic : ByteArray) : Bool := decide (1 ≤ p) && decide (p ≤ 15) && (q == 0 && n == 0 && vy == false && pic.toList == [])

def validPictureS (_k p q n : Int) (vy : Bool) (pic : ByteArray) : Bool := decide (1 ≤ (pic.size : Int)) && decide ((pic.size : Int) ≤ 80) && (p == 0 && q == 0 && n == 0 && vy == false)

def validFixedS (m : Int) (_k p q n : Int) (vy : Bool) (pic : ByteArray) : Bool := decide (1 ≤ p) && decide (p ≤ m) && (decide (0 ≤ q) && decide (q ≤ 31)) && (n == 0 && vy == false && pic.toList == [])

end Go.Proofs.YtljbkpnfjgnhnaaDoor
