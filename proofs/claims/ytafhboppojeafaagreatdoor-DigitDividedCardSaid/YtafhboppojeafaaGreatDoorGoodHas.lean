/- What a value of a type is, exactly; ironbarkref01.Has, of any type and value. -/
import Derived.Test.YtafhboppojeafaaGreatDoorGood
import Derived.Test.YtafhboppojeafaaGreatDoorExFit0
namespace Go.Proofs.YtafhboppojeafaaGreatDoor
open Go.RowKit

/-- A right value of a valid type's kind has room in it. -/
def HoldG (tk tp tq tn : Int) (vy : Bool) (n q : Int) (s : ByteArray) : Prop :=
  if tk = 1 then q = tq ∧ n.natAbs < 2 ^ tp.toNat else if tk = 2 then q = tq ∧ n.natAbs < 10 ^ tp.toNat
  else if tk = 3 then ((digs n.natAbs).length : Int) ≤ tp else if tk = 4 ∨ tk = 5 then (s.size : Int) = tn ∨ vy = true ∧ (s.size : Int) < tn else True
theorem hold_1 (tp tq tn : Int) (vy : Bool) (n q : Int) (s : ByteArray) : HoldG 1 tp tq tn vy n q s = (q = tq ∧ n.natAbs < 2 ^ tp.toNat) := if_pos rfl
theorem hold_2 (tp tq tn : Int) (vy : Bool) (n q : Int) (s : ByteArray) : HoldG 2 tp tq tn vy n q s = (q = tq ∧ n.natAbs < 10 ^ tp.toNat) := by unfold HoldG; rw [if_neg (by decide), if_pos rfl]
theorem hold_3 (tp tq tn : Int) (vy : Bool) (n q : Int) (s : ByteArray) : HoldG 3 tp tq tn vy n q s = (((digs n.natAbs).length : Int) ≤ tp) := by unfold HoldG; rw [if_neg (by decide), if_neg (by decide), if_pos rfl]
theorem hold_s (tk tp tq tn : Int) (vy : Bool) (n q : Int) (s : ByteArray) (hk : tk = 4 ∨ tk = 5) : HoldG tk tp tq tn vy n q s = ((s.size : Int) = tn ∨ vy = true ∧ (s.size : Int) < tn) := by
  unfold HoldG; rw [if_neg (by omega), if_neg (by omega), if_neg (by omega), if_pos hk]
theorem hold_any (tk tp tq tn : Int) (vy : Bool) (n q : Int) (s : ByteArray) (hk : tk < 1 ∨ 6 ≤ tk) : HoldG tk tp tq tn vy n q s = True := by
  unfold HoldG; rw [if_neg (by omega), if_neg (by omega), if_neg (by omega), if_neg (by omega)]
/-- A value is of a type (1.1). -/
def HasG (tk tp tq tn : Int) (vy : Bool) (pic : ByteArray) (vk n q : Int) (s : ByteArray) : Prop :=
  validS tk tp tq tn vy pic = true ∧ GoodP vk n q s ∧ tk = vk ∧ HoldG tk tp tq tn vy n q s

theorem gvalidB (b : Bool) (k p q n : Int) (vy : Bool) (pic : ByteArray) (w : World) (hs : pic.size ≤ maxLen) (h : validS k p q n vy pic = b) :
    Calls Tryz.prog 5 #[tyV k p q n vy pic] w fun e w' => e = .returned (.bool b) ∧ Below w.heap.size w w' := by subst h; exact refValid_any k p q n vy pic w hs
theorem gtwo {w w1 : World} {A B : Obj} (hb : Below ((w.alloc A).alloc B).heap.size ((w.alloc A).alloc B) w1) :
    w1.heap[w.heap.size]? = some A ∧ w1.heap[w.heap.size + 1]? = some B ∧ w.heap.size + 1 < w1.heap.size ∧ Below w.heap.size w w1 := by
  have hs := hb.size
  exact ⟨hx_keep (hx_old (hx_last w A _ rfl)) hb, hx_keep (hx_last (w.alloc A) B _ (by simp)) hb, by simp at hs; omega,
    (((Below.refl _ w).alloc (Nat.le_refl _) _).alloc (by simp <;> omega) _).trans (hb.mono (by simp <;> omega))⟩
theorem ord_iff (a b : Nat) : ord a b < 0 ↔ a < b := by unfold ord; split <;> (try split) <;> constructor <;> intro h <;> omega
theorem gfld_ex (a b c : Value) (w : World) : (Instr.field 35 (.agg #[a, b, c]) 1).run Tryz.prog w = .ok b w := by kernel_rfl
theorem nil_of {s : ByteArray} (h : s.toList = []) : s = ⟨#[]⟩ := empty_of s h
theorem fixS_of {m k p q n : Int} {vy : Bool} {pic : ByteArray} (h : validFixedS m k p q n vy pic = true) : (1 ≤ p ∧ p ≤ m) ∧ (0 ≤ q ∧ q ≤ 31) ∧ n = 0 ∧ vy = false ∧ pic = ⟨#[]⟩ := by
  simp only [validFixedS, Bool.and_eq_true, decide_eq_true_eq, beq_iff_eq] at h
  exact ⟨h.1.1, h.1.2, h.2.1.1, h.2.1.2, nil_of h.2.2⟩
theorem valid_1_of {p q n : Int} {vy : Bool} {pic : ByteArray} (h : validS 1 p q n vy pic = true) : (1 ≤ p ∧ p ≤ 31) ∧ (0 ≤ q ∧ q ≤ 31) ∧ n = 0 ∧ vy = false ∧ pic = ⟨#[]⟩ :=
  fixS_of (m := 31) (k := 1) h
theorem valid_2_of {p q n : Int} {vy : Bool} {pic : ByteArray} (h : validS 2 p q n vy pic = true) : (1 ≤ p ∧ p ≤ 15) ∧ (0 ≤ q ∧ q ≤ 31) ∧ n = 0 ∧ vy = false ∧ pic = ⟨#[]⟩ :=
  fixS_of (m := 15) (k := 2) (show validFixedS 15 2 p q n vy pic = true from h)

theorem validS_kind {k p q n : Int} {vy : Bool} {pic : ByteArray} (h : validS k p q n vy pic = true) : k = 1 ∨ k = 2 ∨ k = 3 ∨ k = 4 ∨ k = 5 ∨ k = 6 ∨ k = 7 ∨ k = 8 ∨ k = 9 := by
  by_cases hk : k < 1 ∨ 10 ≤ k
  · unfold validS at h
    repeat rw [if_neg (by omega)] at h
    cases h
  · omega
end Go.Proofs.YtafhboppojeafaaGreatDoor
