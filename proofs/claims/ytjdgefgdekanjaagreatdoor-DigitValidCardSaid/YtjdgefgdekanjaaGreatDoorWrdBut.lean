/- All but two blocks stay as they were. -/
import Derived.Test.YtjdgefgdekanjaaGreatDoorBit0
namespace Go.Proofs.YtjdgefgdekanjaaGreatDoor
open Go.RowKit

/-- All but two blocks that were there stay as they were. -/
structure But (b1 b2 : Nat) (w w' : World) : Prop where
  os : w'.os = w.os
  tape : w'.tape = w.tape
  output : w'.output = w.output
  size : w.heap.size ≤ w'.heap.size
  block : ∀ k, k < w.heap.size → k ≠ b1 → k ≠ b2 → w'.heap[k]? = w.heap[k]?
theorem But.of {b1 b2 : Nat} {w w' : World} (h : Below w.heap.size w w') : But b1 b2 w w' := ⟨h.os, h.tape, h.output, h.size, fun k hk _ _ => h.block k hk⟩
theorem But.setCell {b1 b2 : Nat} {w w' : World} (h : But b1 b2 w w') {a : Addr} (ha : a.block = b1 ∨ a.block = b2) (v : Value) : But b1 b2 w (w'.setCell a v) :=
  ⟨h.os, h.tape, h.output, by simpa using h.size, fun k hk k1 k2 => (Below.heap_setCell w' a v k (by rintro rfl; rcases ha with h | h <;> contradiction)).trans (h.block k hk k1 k2)⟩
theorem But.setV {b1 b2 : Nat} {w w' : World} (h : But b1 b2 w w') (j : Nat) (v : Value) : But b1 b2 w (w'.setCell ⟨b1, j, none⟩ v) := h.setCell (a := ⟨b1, j, none⟩) (Or.inl rfl) v
theorem But.setC {b1 b2 : Nat} {w w' : World} (h : But b1 b2 w w') (j : Nat) (v : Value) : But b1 b2 w (w'.setCell ⟨b2, j, none⟩ v) := h.setCell (a := ⟨b2, j, none⟩) (Or.inr rfl) v
theorem But.row {b1 b2 b : Nat} {w w' : World} {cs : Array Value} {t : TypeId} (h : But b1 b2 w w') (hR : Row w b cs t) (h1 : b ≠ b1) (h2 : b ≠ b2) : Row w' b cs t := (h.block b hR.lt h1 h2).trans hR
theorem But.below {b1 b2 B : Nat} {w0 w w' : World} (h : But b1 b2 w w') (hb : Below B w0 w) (h1 : B ≤ b1) (h2 : B ≤ b2) (hB : B ≤ w.heap.size) : Below B w0 w' :=
  ⟨h.os.trans hb.os, h.tape.trans hb.tape, h.output.trans hb.output, Nat.le_trans hb.size h.size, fun k hk => (h.block k (by omega) (by omega) (by omega)).trans (hb.block k hk)⟩
end Go.Proofs.YtjdgefgdekanjaaGreatDoor
