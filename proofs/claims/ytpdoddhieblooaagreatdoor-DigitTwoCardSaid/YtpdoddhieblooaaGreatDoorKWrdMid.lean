/- All but two blocks stay as they were. Blocks between two bounds stay; boxes made in a region of any order. -/
import Derived.Test.YtpdoddhieblooaaGreatDoorKBit0
import Derived.Test.YtpdoddhieblooaaGreatDoorKWrdXs
import Derived.Deep.DeepCutAuto
namespace Go.Proofs.YtpdoddhieblooaaGreatDoor
open Go.RowKit

structure But (b1 b2 : Nat) (w w' : World) : Prop where
 os : w'.os = w.os
 tape : w'.tape = w.tape
 output : w'.output = w.output
 size : w.heap.size ≤ w'.heap.size
 block : ∀ k, k < w.heap.size → k ≠ b1 → k ≠ b2 → w'.heap[k]? = w.heap[k]?
theorem But.of {b1 b2 : Nat} {w w' : World} (h : Below w.heap.size w w') : But b1 b2 w w' := ⟨h.os, h.tape, h.output, h.size, fun k hk _ _ => h.block k hk⟩
theorem But.setCell {b1 b2 : Nat} {w w' : World} (h : But b1 b2 w w') {a : Addr} (ha : a.block = b1 ∨ a.block = b2) (v : Value) : But b1 b2 w (w'.setCell a v) :=
 ⟨h.os, h.tape, h.output, by simpa using h.size, fun k hk k1 k2 => (Below.heap_setCell w' a v k (by rintro rfl; rcases ha with h | h <;> contradiction)).trans (h.block k hk k1 k2)⟩
theorem But.setV {b1 b2 : Nat} {w w' : World} (h : But b1 b2 w w') (j : Nat) (v : Value) : But b1 b2 w (w'.setCell ⟨b1, j, none⟩ v) := h.setCell (a := ⟨b1, j, none⟩) (Or.inl rfl) v
theorem But.setC {b1 b2 : Nat} {w w' : World} (h : But b1 b2 w w') (j : Nat) (v : Value) : But b1 b2 w (w'.setCell ⟨b2, j, none⟩ v) := h.setCell (a := ⟨b2, j, none⟩) (Or.inr rfl) v
theorem But.row {b1 b2 b : Nat} {w w' : World} {cs : Array Value} {t : TypeId} (h : But b1 b2 w w') (hR : Row w b cs t) (h1 : b ≠ b1) (h2 : b ≠ b2) : Row w' b cs t := (h.block b hR.lt h1 h2).trans hR
theorem But.below {b1 b2 B : Nat} {w0 w w' : World} (h : But b1 b2 w w') (hb : Below B w0 w) (h1 : B ≤ b1) (h2 : B ≤ b2) (hB : B ≤ w.heap.size) : Below B w0 w' :=
 ⟨h.os.trans hb.os, h.tape.trans hb.tape, h.output.trans hb.output, Nat.le_trans hb.size h.size, fun k hk => (h.block k (by omega) (by omega) (by omega)).trans (hb.block k hk)⟩
end Go.Proofs.YtpdoddhieblooaaGreatDoor
namespace Go.Proofs.YtpdoddhieblooaaGreatDoor
open Go.RowKit

def Mid (B : Nat) (w w' : World) : Prop := w.heap.size ≤ w'.heap.size ∧ ∀ k, B ≤ k → k < w.heap.size → w'.heap[k]? = w.heap[k]?
theorem Mid.refl (B : Nat) (w : World) : Mid B w w := ⟨Nat.le_refl _, fun _ _ _ => rfl⟩
theorem Mid.drew {B : Nat} {w w' : World} (h : Mid B w w') : Mid B w w'.drew := h
theorem Mid.alloc {B : Nat} {w w' : World} (h : Mid B w w') (o : Obj) : Mid B w (w'.alloc o) :=
 ⟨by have := h.1; simp; omega, fun k hk hl => (Below.heap_alloc w' o k (Nat.lt_of_lt_of_le hl h.1)).trans (h.2 k hk hl)⟩
theorem Mid.setCell {B : Nat} {w w' : World} (h : Mid B w w') {a : Addr} (ha : a.block < B ∨ w.heap.size ≤ a.block) (v : Value) : Mid B w (w'.setCell a v) :=
 ⟨by have := h.1; simpa using this, fun k hk hl => (Below.heap_setCell w' a v k (by omega)).trans (h.2 k hk hl)⟩
theorem Mid.call {B : Nat} {w w1 w2 : World} (h : Mid B w w1) (hb : Below w1.heap.size w1 w2) : Mid B w w2 :=
 ⟨Nat.le_trans h.1 hb.size, fun k hk hl => (hb.block k (Nat.lt_of_lt_of_le hl h.1)).trans (h.2 k hk hl)⟩
theorem WArg.mid {B : Nat} {w w' : World} {v : Value} {n : Nat} (h : WArg B w v n) (hm : Mid B w w') : WArg B w' v n := by
 rcases h with h | ⟨b, cap, rfl, h1, h2, h3, h4⟩
 · exact .inl h
 · exact .inr ⟨b, cap, rfl, h1, h2, Nat.lt_of_lt_of_le h3 hm.1, fun j hj => (World.cell?_of_block (hm.2 b h2 h3)).trans (h4 j hj)⟩
theorem row_newc (w : World) (a : Addr) (v : Value) (cs : Array Value) (t : TypeId) : Row ((w.setCell a v).alloc (.cells cs t)) w.heap.size cs t := by
 have h := Row.new (w.setCell a v) cs t
 have e : (w.setCell a v).heap.size = w.heap.size := by simp [World.setCell]
 rwa [e] at h
theorem row_put0 {w : World} {b : Nat} {v : Value} {t : TypeId} (h : Row w b #[.slice none 0 0] t) : Row (w.setCell ⟨b, 0, none⟩ v) b #[v] t := heap_setCell_same w b 0 _ t v h
theorem Row.putv {w : World} {b : Nat} {cs : Array Value} {t : TypeId} (h : Row w b cs t) (k : Nat) (v : Value) : Row (w.setCell ⟨b, k, none⟩ v) b (cs.setIfInBounds k v) t := heap_setCell_same w b k cs t v h
abbrev ptD (b : Nat) : Value := .pointer (some ⟨b, 0, none⟩)
end Go.Proofs.YtpdoddhieblooaaGreatDoor
