/- One type or two in a box; demandFixed; the closures of Binary, Decimal, Float, Number, Negated. -/
import Derived.Test.YtbjnglfapgpncaaGreatDoorAnswered
namespace Go.Proofs.YtbjnglfapgpncaaGreatDoor
open Go.RowKit

/-- A struct of type api.Type lies in block b, whole. -/
def BoxAt (w : World) (b : Nat) (t : Ty) : Prop := w.heap[b]? = some (.cells #[.int .i64 t.k, .int .i64 t.p, .int .i64 t.q, .int .i64 t.n, .bool t.vy, .string t.pic] 25 (0, 0))

theorem BoxAt.below {w w' : World} {b : Nat} {t : Ty} (h : BoxAt w b t) (hb : b < w.heap.size) (hB : Below w.heap.size w w') : BoxAt w' b t := (hB.block b hb).trans h
theorem BoxAt.lt {w : World} {b : Nat} {t : Ty} (h : BoxAt w b t) : b < w.heap.size := by
  apply Decidable.byContradiction
  intro hn
  have := Array.getElem?_eq_none (xs := w.heap) (i := b) (by omega)
  rw [BoxAt, this] at h
  cases h
theorem BoxAt.cells {w : World} {b : Nat} {k p q n : Int} {vy : Bool} {pic : ByteArray} (h : BoxAt w b ⟨k, p, q, n, vy, pic⟩) :
    w.cell? ⟨b, 0, none⟩ = some (.int .i64 k) ∧ w.cell? ⟨b, 1, none⟩ = some (.int .i64 p) ∧ w.cell? ⟨b, 2, none⟩ = some (.int .i64 q) ∧
      w.cell? ⟨b, 3, none⟩ = some (.int .i64 n) ∧ w.cell? ⟨b, 4, none⟩ = some (.bool vy) ∧ w.cell? ⟨b, 5, none⟩ = some (.string pic) :=
  ⟨cell_of_row w b 0 _ _ _ h, cell_of_row w b 1 _ _ _ h, cell_of_row w b 2 _ _ _ h, cell_of_row w b 3 _ _ _ h, cell_of_row w b 4 _ _ _ h, cell_of_row w b 5 _ _ _ h⟩

theorem TysAt_one {w : World} {b : Nat} {t : Ty} (h : w.heap[b]? = some (.cells #[.int .i64 t.k, .int .i64 t.p, .int .i64 t.q, .int .i64 t.n, .bool t.vy, .string t.pic] 25 (0, 0))) : TysAt w b 0 [t] := by
  intro i hi j v hv
  obtain rfl : i = 0 := by simp at hi; omega
  rw [cell_of_row w b _ _ _ _ h]
  simpa using hv

theorem TysAt_two {w : World} {b : Nat} {t u : Ty} (h : w.heap[b]? = some (.cells #[.int .i64 t.k, .int .i64 t.p, .int .i64 t.q, .int .i64 t.n, .bool t.vy, .string t.pic, .int .i64 u.k, .int .i64 u.p, .int .i64 u.q, .int .i64 u.n, .bool u.vy, .string u.pic] 25 (0, 0))) : TysAt w b 0 [t, u] := by
  intro i hi j v hv
  have hi' : i = 0 ∨ i = 1 := by simp at hi; omega
  rcases hi' with rfl | rfl
  · rw [cell_of_row w b _ _ _ _ h]
    have hj : j < 6 := by have := (List.getElem?_eq_some_iff.1 hv).1; simpa using this
    obtain rfl | rfl | rfl | rfl | rfl | rfl : j = 0 ∨ j = 1 ∨ j = 2 ∨ j = 3 ∨ j = 4 ∨ j = 5 := by omega
    all_goals simpa using hv
  · rw [cell_of_row w b _ _ _ _ h]
    have hj : j < 6 := by have := (List.getElem?_eq_some_iff.1 hv).1; simpa using this
    obtain rfl | rfl | rfl | rfl | rfl | rfl : j = 0 ∨ j = 1 ∨ j = 2 ∨ j = 3 ∨ j = 4 ∨ j = 5 := by omega
    all_goals simpa using hv

theorem all1 {f : Ty → Bool} {t : Ty} (h : f t = true) : ∀ x ∈ [t], f x = true := by simpa using h
theorem nall1 {f : Ty → Bool} {t : Ty} (h : f t = false) : ¬ ∀ x ∈ [t], f x = true := by simp [h]
theorem pic1 {t : Ty} (h : t.pic.size ≤ maxLen) : ∀ x ∈ [t], x.pic.size ≤ maxLen := by simpa using h

/- demandFixed -/
/- the closures' results -/
theorem pic0 : (ByteArray.mk #[]).size ≤ maxLen := by unfold maxLen; decide
theorem ok_1 {p q : Int} (hp : 1 ≤ p) (hp' : p ≤ 31) (hq : 0 ≤ q) (hq' : q ≤ 31) : (Ty.mk 1 p q 0 false ⟨#[]⟩).ok = true := by
  have : (ByteArray.toList ⟨#[]⟩) = [] := by rw [ByteArray.toList_eq]
  simp [Ty.ok, validS, validFixedS, this]; omega
theorem ok_2 {p q : Int} (hp : 1 ≤ p) (hp' : p ≤ 15) (hq : 0 ≤ q) (hq' : q ≤ 31) : (Ty.mk 2 p q 0 false ⟨#[]⟩).ok = true := by
  have : (ByteArray.toList ⟨#[]⟩) = [] := by rw [ByteArray.toList_eq]
  simp [Ty.ok, validS, validFixedS, this]; omega
theorem ok_3 {p : Int} (hp : 1 ≤ p) (hp' : p ≤ 15) : (Ty.mk 3 p 0 0 false ⟨#[]⟩).ok = true := by
  have : (ByteArray.toList ⟨#[]⟩) = [] := by rw [ByteArray.toList_eq]
  simp [Ty.ok, validS, validFloatS, this]; omega

abbrev zeroTy : Obj := .cells #[.int .i64 0, .int .i64 0, .int .i64 0, .int .i64 0, .bool false, .string ⟨#[]⟩] 25 (0, 0)
/-- The cells of a zero type that lies in a block, behind whatever leaves the block alone. -/
theorem zcells {X w2 : World} {b : Nat} (hX : X.heap[b]? = some zeroTy) (hb : b < X.heap.size) (h : Below X.heap.size X w2) :
    w2.cell? ⟨b, 0, none⟩ = some (.int .i64 0) ∧ w2.cell? ⟨b, 1, none⟩ = some (.int .i64 0) ∧ w2.cell? ⟨b, 2, none⟩ = some (.int .i64 0) ∧
      w2.cell? ⟨b, 3, none⟩ = some (.int .i64 0) ∧ w2.cell? ⟨b, 4, none⟩ = some (.bool false) ∧ w2.cell? ⟨b, 5, none⟩ = some (.string ⟨#[]⟩) ∧ ∀ j, w2.frozen? ⟨b, j, none⟩ = false := by
  have h2 : w2.heap[b]? = some zeroTy := (h.block b hb).trans hX
  exact ⟨cell_of_row w2 b 0 _ _ _ h2, cell_of_row w2 b 1 _ _ _ h2, cell_of_row w2 b 2 _ _ _ h2, cell_of_row w2 b 3 _ _ _ h2, cell_of_row w2 b 4 _ _ _ h2, cell_of_row w2 b 5 _ _ _ h2, fun j => by simp [World.frozen?, h2]⟩

end Go.Proofs.YtbjnglfapgpncaaGreatDoor
