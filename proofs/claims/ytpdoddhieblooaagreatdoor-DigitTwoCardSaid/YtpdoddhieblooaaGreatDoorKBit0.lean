/- Strings of characters and of bits as lists of bytes, and what layer 5 makes of them: no program in this text. Layer 5's promises about lists of bytes: no program in this text. Strings of bytes in a walk; blocks of cells; what stays as it was. What stays as it was behind a draw. -/
import Derived.Test.YtpdoddhieblooaaGreatDoorKTy
import Derived.Lib.Strings
import Derived.BigGuardPart
import Derived.Deep.WholeRow
import Derived.Deep.RegionHeld3
import Derived.Deep.QuietTactic
import Derived.BigQuiet
import Derived.StillTailTactics
import Derived.Outline
import Derived.WalkSmall
namespace Go.Proofs.YtpdoddhieblooaaGreatDoor

/-! ### Fit -/

/-! ### Parts -/

/-! ### What is found -/

/-! ### Items that are replaced, repeated, turned round -/

/-! ### Logic -/

/-! ### Order -/

end Go.Proofs.YtpdoddhieblooaaGreatDoor
namespace Go.Proofs.YtpdoddhieblooaaGreatDoor

/-! ### P5.6: fitted twice, turned round twice -/

/-! ### P5.2: parts -/

/-! ### P5.3: what is found -/

/-! ### Joined, turned -/

/-! ### P5.4: logic -/

/-! ### P5.5: an order -/

end Go.Proofs.YtpdoddhieblooaaGreatDoor
namespace Go.Proofs.YtpdoddhieblooaaGreatDoor
open Go.RowKit

abbrev bsz (l : List UInt8) : ByteArray := ⟨l.toArray⟩
theorem lsz (s : ByteArray) : s.data.toList.length = s.size := by rw [Lib.size_eq]
theorem take_snoc (s : ByteArray) (k : Nat) (h : k < s.size) : s.data.toList.take (k + 1) = s.data.toList.take k ++ [s[k]] := by
 rw [List.take_succ_eq_append_getElem (by simpa using h)]; rfl
theorem get_mem (s : ByteArray) (k : Nat) (h : k < s.size) : s[k] ∈ s.data.toList := by
 have := take_snoc s k h
 exact List.mem_of_mem_take (i := k + 1) (by rw [this]; simp)
theorem all_snoc {l l' : List UInt8} {c : UInt8} {f : UInt8 → Bool} (e : l' = l ++ [c]) (h : l.all f = true) (hc : f c = true) : l'.all f = true := by
 rw [e, List.all_append, h]; simp [hc]
theorem bl_then {w w1 w2 : World} (h1 : Below w.heap.size w w1) (h2 : Below w1.heap.size w1 w2) : Below w.heap.size w w2 := h1.trans (h2.mono h1.size)
theorem bl_box {w w1 w2 : World} {o : Obj} (h1 : Below w.heap.size w w1) (h2 : Below (w1.alloc o).heap.size (w1.alloc o) w2) : Below w.heap.size w w2 := bl_then (h1.alloc h1.size o) h2
theorem bl_box2 {w w1 w2 : World} {o o' : Obj} (h1 : Below w.heap.size w w1) (h2 : Below ((w1.alloc o).alloc o').heap.size ((w1.alloc o).alloc o') w2) : Below w.heap.size w w2 := bl_box (h1.alloc h1.size o) h2
theorem bl_box3 {w w1 w2 : World} {o o' o'' : Obj} (h1 : Below w.heap.size w w1) (h2 : Below (((w1.alloc o).alloc o').alloc o'').heap.size (((w1.alloc o).alloc o').alloc o'') w2) : Below w.heap.size w w2 := bl_box2 (h1.alloc h1.size o) h2
def Row (w : World) (b : Nat) (cs : Array Value) (t : TypeId) : Prop := w.heap[b]? = some (.cells cs t (0, 0))
theorem Row.at {w : World} {b : Nat} {cs : Array Value} {t : TypeId} (h : Row w b cs t) (j : Nat) : w.cell? ⟨b, j, none⟩ = cs[j]? := cell_of_row w b j _ _ _ h
theorem Row.free {w : World} {b : Nat} {cs : Array Value} {t : TypeId} (h : Row w b cs t) (j : Nat) : w.frozen? ⟨b, j, none⟩ = false := by
 have h' : w.heap[b]? = _ := h
 simp [World.frozen?, h']
theorem Row.lt {w : World} {b : Nat} {cs : Array Value} {t : TypeId} (h : Row w b cs t) : b < w.heap.size := (Array.getElem?_eq_some_iff.1 h).1
theorem Row.keep {w w' : World} {b : Nat} {cs : Array Value} {t : TypeId} (h : Row w b cs t) (hB : Below w.heap.size w w') : Row w' b cs t := (hB.block b h.lt).trans h
theorem Row.new (w : World) (cs : Array Value) (t : TypeId) : Row (w.alloc (.cells cs t)) w.heap.size cs t := heap_alloc_last w _
theorem Row.alloc {w : World} {b : Nat} {cs : Array Value} {t : TypeId} (h : Row w b cs t) (o : Obj) : Row (w.alloc o) b cs t := by
 unfold Row; rw [Go.heap_alloc_old _ _ h.lt]; exact h
theorem Row.drewN {w : World} {b : Nat} {cs : Array Value} {t : TypeId} (h : Row w b cs t) (n : Nat) : Row (w.drewN n) b cs t := h
theorem Row.set {w : World} {b : Nat} {cs : Array Value} {t : TypeId} {a : Addr} {v : Value} (h : Row w b cs t) (hne : a.block ≠ b) : Row (w.setCell a v) b cs t := by
 have h' : w.heap[b]? = _ := h
 unfold Row World.setCell
 simp [Array.getElem?_modify, h', hne]
theorem Row.new2 (w : World) (o : Obj) (cs : Array Value) (t : TypeId) : Row ((w.alloc o).alloc (.cells cs t)) (w.heap.size + 1) cs t := by
 have := Row.new (w.alloc o) cs t
 rwa [World.size_alloc] at this
theorem Row.new3 (w : World) (o o' : Obj) (cs : Array Value) (t : TypeId) : Row (((w.alloc o).alloc o').alloc (.cells cs t)) (w.heap.size + 1 + 1) cs t := by
 have := Row.new ((w.alloc o).alloc o') cs t
 rwa [World.size_alloc, World.size_alloc] at this
theorem Row.one {w : World} {b : Nat} {a0 : Value} {t : TypeId} (h : Row w b #[a0] t) : w.cell? ⟨b, 0, none⟩ = some a0 := h.at 0
theorem Row.four {w : World} {b : Nat} {a0 a1 a2 a3 : Value} {t : TypeId} (h : Row w b #[a0, a1, a2, a3] t) :
   w.cell? ⟨b, 0, none⟩ = some a0 ∧ w.cell? ⟨b, 1, none⟩ = some a1 ∧ w.cell? ⟨b, 2, none⟩ = some a2 ∧ w.cell? ⟨b, 3, none⟩ = some a3 := ⟨h.at 0, h.at 1, h.at 2, h.at 3⟩
theorem Row.six {w : World} {b : Nat} {a0 a1 a2 a3 a4 a5 : Value} {t : TypeId} (h : Row w b #[a0, a1, a2, a3, a4, a5] t) :
   w.cell? ⟨b, 0, none⟩ = some a0 ∧ w.cell? ⟨b, 1, none⟩ = some a1 ∧ w.cell? ⟨b, 2, none⟩ = some a2 ∧ w.cell? ⟨b, 3, none⟩ = some a3 ∧ w.cell? ⟨b, 4, none⟩ = some a4 ∧ w.cell? ⟨b, 5, none⟩ = some a5 := ⟨h.at 0, h.at 1, h.at 2, h.at 3, h.at 4, h.at 5⟩
end Go.Proofs.YtpdoddhieblooaaGreatDoor
namespace Go.Proofs.YtpdoddhieblooaaGreatDoor
open Go.RowKit

theorem bl_drew {w w' : World} (h : Below w.drew.heap.size w.drew w') : Below w.heap.size w w' := below_then ((Below.refl _ _).drew) h (by simp)
theorem Row.drew {w : World} {b : Nat} {cs : Array Value} {t : TypeId} (h : Row w b cs t) : Row w.drew b cs t := h
theorem Row.newd (w : World) (cs : Array Value) (t : TypeId) : Row (w.alloc (.cells cs t)).drew w.heap.size cs t := heap_alloc_last w _
theorem bl_dN {B : Nat} {w w' : World} (h : Below B w w') (n : Nat) : Below B w (w'.drewN n) := below_drewN h n
end Go.Proofs.YtpdoddhieblooaaGreatDoor
