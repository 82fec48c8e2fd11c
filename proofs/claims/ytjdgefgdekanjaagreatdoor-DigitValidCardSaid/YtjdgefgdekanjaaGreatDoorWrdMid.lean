/- Blocks between two bounds stay; boxes made in a region of any order. -/
import Derived.Test.YtjdgefgdekanjaaGreatDoorWrdXs
import Derived.Deep.DeepCutAuto
namespace Go.Proofs.YtjdgefgdekanjaaGreatDoor
open Go.RowKit

/-- The blocks from B on that were there stay as they were. -/
def Mid (B : Nat) (w w' : World) : Prop := w.heap.size ≤ w'.heap.size ∧ ∀ k, B ≤ k → k < w.heap.size → w'.heap[k]? = w.heap[k]?
theorem Mid.refl (B : Nat) (w : World) : Mid B w w := ⟨Nat.le_refl _, fun _ _ _ => rfl⟩
theorem Mid.drew {B : Nat} {w w' : World} (h : Mid B w w') : Mid B w w'.drew := h
theorem Mid.alloc {B : Nat} {w w' : World} (h : Mid B w w') (o : Obj) : Mid B w (w'.alloc o) :=
  ⟨by have := h.1; simp; omega, fun k hk hl => (Below.heap_alloc w' o k (Nat.lt_of_lt_of_le hl h.1)).trans (h.2 k hk hl)⟩
theorem Mid.setCell {B : Nat} {w w' : World} (h : Mid B w w') {a : Addr} (ha : a.block < B ∨ w.heap.size ≤ a.block) (v : Value) : Mid B w (w'.setCell a v) :=
  ⟨by have := h.1; simpa using this, fun k hk hl => (Below.heap_setCell w' a v k (by omega)).trans (h.2 k hk hl)⟩
theorem Mid.call {B : Nat} {w w1 w2 : World} (h : Mid B w w1) (hb : Below w1.heap.size w1 w2) : Mid B w w2 :=
  ⟨Nat.le_trans h.1 hb.size, fun k hk hl => (hb.block k (Nat.lt_of_lt_of_le hl h.1)).trans (h.2 k hk hl)⟩
theorem WArg.mid {B : Nat} {w w' : World} {v : Value} {n : Nat} (h : WArg B w v n) (hm : Mid B w w') : WArg B w' v n := by
  rcases h with h | ⟨b, cap, rfl, h1, h2, h3, h4⟩
  · exact .inl h
  · exact .inr ⟨b, cap, rfl, h1, h2, Nat.lt_of_lt_of_le h3 hm.1, fun j hj => (World.cell?_of_block (hm.2 b h2 h3)).trans (h4 j hj)⟩
theorem row_newc (w : World) (a : Addr) (v : Value) (cs : Array Value) (t : TypeId) : Row ((w.setCell a v).alloc (.cells cs t)) w.heap.size cs t := by
  have h := Row.new (w.setCell a v) cs t
  have e : (w.setCell a v).heap.size = w.heap.size := by simp [World.setCell]
  rwa [e] at h
theorem row_put0 {w : World} {b : Nat} {v : Value} {t : TypeId} (h : Row w b #[.slice none 0 0] t) : Row (w.setCell ⟨b, 0, none⟩ v) b #[v] t := heap_setCell_same w b 0 _ t v h
theorem Row.putv {w : World} {b : Nat} {cs : Array Value} {t : TypeId} (h : Row w b cs t) (k : Nat) (v : Value) : Row (w.setCell ⟨b, k, none⟩ v) b (cs.setIfInBounds k v) t := heap_setCell_same w b k cs t v h
abbrev ptD (b : Nat) : Value := .pointer (some ⟨b, 0, none⟩)
end Go.Proofs.YtjdgefgdekanjaaGreatDoor
