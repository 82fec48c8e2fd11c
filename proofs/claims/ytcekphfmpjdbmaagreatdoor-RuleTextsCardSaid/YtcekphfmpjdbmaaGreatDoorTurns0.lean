/- The law RuleTurns, walked: in seven cases of the type. -/
import Derived.Test.YtcekphfmpjdbmaaGreatDoorRule3
import Derived.Test.YtcekphfmpjdbmaaGreatDoorBased
namespace Go.Proofs.YtcekphfmpjdbmaaGreatDoor
open Go.RowKit

abbrev tyObj (t : Ty) : Obj := .cells #[.int .i64 t.k, .int .i64 t.p, .int .i64 t.q, .int .i64 t.n, .bool t.vy, .string t.pic] 23 (0, 0)
abbrev nTy (k p q : Int) : Ty := ⟨k, p, q, 0, false, ⟨#[]⟩⟩
theorem BoxAt.past {w w' : World} {b : Nat} {t : Ty} {o : Obj} (h : BoxAt w b t) (hB : Below (w.alloc o).heap.size (w.alloc o) w') : BoxAt w' b t := by
  have hl := h.lt
  refine (hB.block b (by simp; omega)).trans ?_
  rw [Go.heap_alloc_old _ _ hl]
  exact h
theorem BoxAt.fresh {w w' : World} {t : Ty} (hB : Below (w.alloc (tyObj t)).heap.size (w.alloc (tyObj t)) w') : BoxAt w' w.heap.size t :=
  (hB.block w.heap.size (by simp)).trans (heap_alloc_last _ _)
theorem BoxAt.past2 {w w' : World} {t : Ty} {o : Obj} (hB : Below ((w.alloc (tyObj t)).alloc o).heap.size ((w.alloc (tyObj t)).alloc o) w') : BoxAt w' w.heap.size t :=
  (hB.block w.heap.size (by simp <;> omega)).trans (heap_alloc2_old _ _ _)
theorem BoxAt.free {w : World} {b : Nat} {t : Ty} (h : BoxAt w b t) (j : Nat) : w.frozen? ⟨b, j, none⟩ = false := by
  simp [World.frozen?, show w.heap[b]? = _ from h]
theorem neqSame (k p q n : Int) (vy : Bool) (pic : ByteArray) (w : World) :
    (binOp .neq 23 (tyV k p q n vy pic) (tyV k p q n vy pic)).run Tryz.prog w = .ok (.bool false) w := by
  have hE : (Op.equalIn Op.maxDepth 23 (tyV k p q n vy pic) (tyV k p q n vy pic)).run Tryz.prog w = _ := tyEq k p q n k p q n vy vy pic pic w
  have hG : Tryz.prog.eqGuardType Tryz.prog.depth 23 = false := by kernel_rfl
  simp only [binOp, Op.equal]
  simp [Sem.run_bind, hE]
theorem light0 {k p q n : Int} {vy : Bool} : (Ty.mk k p q n vy ⟨#[]⟩).light = true := by
  have : (ByteArray.mk #[]).size = 0 := rfl
  simp [Ty.light, this]
theorem modify_at {α : Type} (a : Array α) (i : Nat) (f : α → α) (x : α) (h : a[i]? = some x) : (a.modify i f)[i]? = some (f x) := by
  rw [Array.getElem?_modify]; simp [h]
theorem BoxAt.set {w : World} {b : Nat} {t : Ty} (h : BoxAt w b t) (k p q : Int) : BoxAt (set6 w b k p q) b (nTy k p q) := by
  have h' : w.heap[b]? = _ := h
  unfold BoxAt set6 World.setCell
  simp [Array.getElem?_modify, h']
theorem BoxAt.setOther {w : World} {b b' : Nat} {t : Ty} (h : BoxAt w b' t) (hne : b' ≠ b) (k p q : Int) : BoxAt (set6 w b k p q) b' t := by
  have h' : w.heap[b']? = _ := h
  unfold BoxAt set6 World.setCell
  simp [Array.getElem?_modify, h', Ne.symm hne]

end Go.Proofs.YtcekphfmpjdbmaaGreatDoor
