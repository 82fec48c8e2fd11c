/- What stays as it was behind a draw. -/
import Derived.Test.YtllpldndkojagaaGreatDoorBit0
import Derived.WalkSmall
namespace Go.Proofs.YtllpldndkojagaaGreatDoor
open Go.RowKit

theorem bl_drew {w w' : World} (h : Below w.drew.heap.size w.drew w') : Below w.heap.size w w' := below_then ((Below.refl _ _).drew) h (by simp)
theorem bl_dbox {w w' : World} {o : Obj} (h : Below (w.alloc o).drew.heap.size (w.alloc o).drew w') : Below (w.alloc o).heap.size (w.alloc o) w' := bl_drew h
theorem Row.drew {w : World} {b : Nat} {cs : Array Value} {t : TypeId} (h : Row w b cs t) : Row w.drew b cs t := h
theorem Row.newd (w : World) (cs : Array Value) (t : TypeId) : Row (w.alloc (.cells cs t)).drew w.heap.size cs t := heap_alloc_last w _
theorem bl_dN {B : Nat} {w w' : World} (h : Below B w w') (n : Nat) : Below B w (w'.drewN n) := below_drewN h n
end Go.Proofs.YtllpldndkojagaaGreatDoor
