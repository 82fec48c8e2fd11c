/- Strings of bytes in a walk; blocks of cells; what stays as it was. -/
import Derived.Test.YtllpldndkojagaaGreatDoorTy
import Derived.Test.YtllpldndkojagaaGreatDoorBitFacts
import Derived.BigGuardPart
import Derived.Deep.WholeRow
import Derived.Deep.RegionHeld3
import Derived.Deep.QuietTactic
import Derived.BigQuiet
import Derived.StillTailTactics
import Derived.Outline
namespace Go.Proofs.YtllpldndkojagaaGreatDoor
open Go.RowKit

/-- A struct of type api.Value; a part; a string that is told with its condition. -/
abbrev vlV (k n q : Int) (s : ByteArray) : Value := .agg #[.int .i64 k, .int .i64 n, .int .i64 q, .string s]
abbrev bsz (l : List UInt8) : ByteArray := ⟨l.toArray⟩
theorem bsz_size (l : List UInt8) : (bsz l).size = l.length := rfl
theorem lsz (s : ByteArray) : s.data.toList.length = s.size := by rw [Lib.size_eq]
theorem take_snoc (s : ByteArray) (k : Nat) (h : k < s.size) : s.data.toList.take (k + 1) = s.data.toList.take k ++ [s[k]] := by
  rw [List.take_succ_eq_append_getElem (by simpa using h)]; rfl
theorem get_mem (s : ByteArray) (k : Nat) (h : k < s.size) : s[k] ∈ s.data.toList := by
  have := take_snoc s k h
  exact List.mem_of_mem_take (i := k + 1) (by rw [this]; simp)
theorem below_boxed {w w1 : World} {o : Obj} (h : Below (w.heap.size + 1) (w.alloc o) w1) : Below w.heap.size w w1 :=
  ((Below.refl _ w).alloc (Nat.le_refl _) o).trans (h.mono (by simp))
theorem all_snoc {l l' : List UInt8} {c : UInt8} {f : UInt8 → Bool} (e : l' = l ++ [c]) (h : l.all f = true) (hc : f c = true) : l'.all f = true := by
  rw [e, List.all_append, h]; simp [hc]
theorem bsz_list (s : ByteArray) : bsz s.data.toList = s := rfl

/-- What is below stays so, call by call. -/
theorem bl_then {w w1 w2 : World} (h1 : Below w.heap.size w w1) (h2 : Below w1.heap.size w1 w2) : Below w.heap.size w w2 := h1.trans (h2.mono h1.size)
theorem bl_box {w w1 w2 : World} {o : Obj} (h1 : Below w.heap.size w w1) (h2 : Below (w1.alloc o).heap.size (w1.alloc o) w2) : Below w.heap.size w w2 := bl_then (h1.alloc h1.size o) h2
theorem bl_box2 {w w1 w2 : World} {o o' : Obj} (h1 : Below w.heap.size w w1) (h2 : Below ((w1.alloc o).alloc o').heap.size ((w1.alloc o).alloc o') w2) : Below w.heap.size w w2 := bl_box (h1.alloc h1.size o) h2
theorem bl_box3 {w w1 w2 : World} {o o' o'' : Obj} (h1 : Below w.heap.size w w1) (h2 : Below (((w1.alloc o).alloc o').alloc o'').heap.size (((w1.alloc o).alloc o').alloc o'') w2) : Below w.heap.size w w2 := bl_box2 (h1.alloc h1.size o) h2

/-- A block of cells, whole. -/
def Row (w : World) (b : Nat) (cs : Array Value) (t : TypeId) : Prop := w.heap[b]? = some (.cells cs t (0, 0))
theorem Row.at {w : World} {b : Nat} {cs : Array Value} {t : TypeId} (h : Row w b cs t) (j : Nat) : w.cell? ⟨b, j, none⟩ = cs[j]? := cell_of_row w b j _ _ _ h
theorem Row.free {w : World} {b : Nat} {cs : Array Value} {t : TypeId} (h : Row w b cs t) (j : Nat) : w.frozen? ⟨b, j, none⟩ = false := by
  have h' : w.heap[b]? = _ := h
  simp [World.frozen?, h']
theorem Row.lt {w : World} {b : Nat} {cs : Array Value} {t : TypeId} (h : Row w b cs t) : b < w.heap.size := (Array.getElem?_eq_some_iff.1 h).1
theorem Row.keep {w w' : World} {b : Nat} {cs : Array Value} {t : TypeId} (h : Row w b cs t) (hB : Below w.heap.size w w') : Row w' b cs t := (hB.block b h.lt).trans h
theorem Row.new (w : World) (cs : Array Value) (t : TypeId) : Row (w.alloc (.cells cs t)) w.heap.size cs t := heap_alloc_last w _
theorem Row.alloc {w : World} {b : Nat} {cs : Array Value} {t : TypeId} (h : Row w b cs t) (o : Obj) : Row (w.alloc o) b cs t := by
  unfold Row; rw [Go.heap_alloc_old _ _ h.lt]; exact h
theorem Row.drewN {w : World} {b : Nat} {cs : Array Value} {t : TypeId} (h : Row w b cs t) (n : Nat) : Row (w.drewN n) b cs t := h
theorem Row.set {w : World} {b : Nat} {cs : Array Value} {t : TypeId} {a : Addr} {v : Value} (h : Row w b cs t) (hne : a.block ≠ b) : Row (w.setCell a v) b cs t := by
  have h' : w.heap[b]? = _ := h
  unfold Row World.setCell
  simp [Array.getElem?_modify, h', hne]
theorem Row.new2 (w : World) (o : Obj) (cs : Array Value) (t : TypeId) : Row ((w.alloc o).alloc (.cells cs t)) (w.heap.size + 1) cs t := by
  have := Row.new (w.alloc o) cs t
  rwa [World.size_alloc] at this
theorem Row.new3 (w : World) (o o' : Obj) (cs : Array Value) (t : TypeId) : Row (((w.alloc o).alloc o').alloc (.cells cs t)) (w.heap.size + 1 + 1) cs t := by
  have := Row.new ((w.alloc o).alloc o') cs t
  rwa [World.size_alloc, World.size_alloc] at this
theorem Row.one {w : World} {b : Nat} {a0 : Value} {t : TypeId} (h : Row w b #[a0] t) : w.cell? ⟨b, 0, none⟩ = some a0 := h.at 0
theorem Row.two {w : World} {b : Nat} {a0 a1 : Value} {t : TypeId} (h : Row w b #[a0, a1] t) : w.cell? ⟨b, 0, none⟩ = some a0 ∧ w.cell? ⟨b, 1, none⟩ = some a1 := ⟨h.at 0, h.at 1⟩
theorem Row.four {w : World} {b : Nat} {a0 a1 a2 a3 : Value} {t : TypeId} (h : Row w b #[a0, a1, a2, a3] t) :
    w.cell? ⟨b, 0, none⟩ = some a0 ∧ w.cell? ⟨b, 1, none⟩ = some a1 ∧ w.cell? ⟨b, 2, none⟩ = some a2 ∧ w.cell? ⟨b, 3, none⟩ = some a3 := ⟨h.at 0, h.at 1, h.at 2, h.at 3⟩
theorem Row.five {w : World} {b : Nat} {a0 a1 a2 a3 a4 : Value} {t : TypeId} (h : Row w b #[a0, a1, a2, a3, a4] t) :
    w.cell? ⟨b, 0, none⟩ = some a0 ∧ w.cell? ⟨b, 1, none⟩ = some a1 ∧ w.cell? ⟨b, 2, none⟩ = some a2 ∧ w.cell? ⟨b, 3, none⟩ = some a3 ∧ w.cell? ⟨b, 4, none⟩ = some a4 := ⟨h.at 0, h.at 1, h.at 2, h.at 3, h.at 4⟩
theorem Row.six {w : World} {b : Nat} {a0 a1 a2 a3 a4 a5 : Value} {t : TypeId} (h : Row w b #[a0, a1, a2, a3, a4, a5] t) :
    w.cell? ⟨b, 0, none⟩ = some a0 ∧ w.cell? ⟨b, 1, none⟩ = some a1 ∧ w.cell? ⟨b, 2, none⟩ = some a2 ∧ w.cell? ⟨b, 3, none⟩ = some a3 ∧ w.cell? ⟨b, 4, none⟩ = some a4 ∧ w.cell? ⟨b, 5, none⟩ = some a5 := ⟨h.at 0, h.at 1, h.at 2, h.at 3, h.at 4, h.at 5⟩

end Go.Proofs.YtllpldndkojagaaGreatDoor
