/- The sanity check of layer 2's laws (ironbarklaw02.awake), and what a valid type of each kind is. -/
import Derived.Test.YtbjnglfapgpncaaGreatDoorResult2
namespace Go.Proofs.YtbjnglfapgpncaaGreatDoor
open Go.RowKit

theorem numB_2 {p q : Int} (hp : 1 ≤ p) (hp' : p ≤ 15) (hq : 0 ≤ q) (hq' : q ≤ 31) : NumB 2 p q := ⟨by omega, by omega, hp, by omega, hq, hq', ok_2 hp hp' hq hq'⟩

theorem awake_result (w : World) : Calls Tryz.prog 6 #[.string ⟨#[43]⟩, numV 2 5 2, numV 2 3 1] w fun e w' => e = .returned (.tuple #[numV 2 6 2, .int .i64 0]) ∧ Below w.heap.size w w' :=
  (Result_plus 2 5 2 2 3 1 w (numB_2 (by omega) (by omega) (by omega) (by omega)) (numB_2 (by omega) (by omega) (by omega) (by omega))).mono fun _ _ ⟨he, hw⟩ => ⟨by
    rw [he]
    have h1 : base 2 2 = 2 := by decide
    have h2 : rP 0 2 2 5 2 2 3 1 = 6 := by decide
    have h3 : rQ 0 2 2 5 2 2 1 = 2 := by decide
    rw [h1, h2, h3], hw⟩

set_option maxHeartbeats 1000000 in
theorem awake_2 (w : World) : Calls Tryz.prog 5 #[] w fun e w' => e = .returned (.bool true) ∧ Below w.heap.size w w' := by
  have hE := tyEq
  have hG : Tryz.prog.eqGuardType Tryz.prog.depth 25 = false := by kernel_rfl
  go_enter Tryz.func5, Tryz.ntmps5
  go_wp2_with fail
  go_at_call 6
  refine (awake_result _).mono ?_
  rintro e w1 ⟨rfl, hb1⟩
  go_wp2
  go_ret
  exact ⟨rfl, (hb1.alloc hb1.size _)⟩

theorem toList_nil (s : ByteArray) (h : (s.toList == []) = true) : s = ⟨#[]⟩ := by
  obtain ⟨⟨l⟩⟩ := s
  rw [ByteArray.toList_eq] at h
  cases l with
  | nil => rfl
  | cons a b => simp at h

theorem ok_1_of {p q n : Int} {vy : Bool} {pic : ByteArray} (h : (Ty.mk 1 p q n vy pic).ok = true) : 1 ≤ p ∧ p ≤ 31 ∧ 0 ≤ q ∧ q ≤ 31 ∧ n = 0 ∧ vy = false ∧ pic = ⟨#[]⟩ := by
  simp only [Ty.ok, validS, validFixedS, if_true, Bool.and_eq_true, decide_eq_true_eq, beq_iff_eq] at h
  obtain ⟨⟨⟨h1, h2⟩, h3, h4⟩, ⟨h5, h6⟩, h7⟩ := h
  exact ⟨h1, h2, h3, h4, h5, h6, toList_nil _ (by rw [h7]; rfl)⟩
theorem ok_2_of {p q n : Int} {vy : Bool} {pic : ByteArray} (h : (Ty.mk 2 p q n vy pic).ok = true) : 1 ≤ p ∧ p ≤ 15 ∧ 0 ≤ q ∧ q ≤ 31 ∧ n = 0 ∧ vy = false ∧ pic = ⟨#[]⟩ := by
  have e : ¬ (2 : Int) = 1 := by decide
  simp only [Ty.ok, validS, validFixedS, if_neg e, if_true, Bool.and_eq_true, decide_eq_true_eq, beq_iff_eq] at h
  obtain ⟨⟨⟨h1, h2⟩, h3, h4⟩, ⟨h5, h6⟩, h7⟩ := h
  exact ⟨h1, h2, h3, h4, h5, h6, toList_nil _ (by rw [h7]; rfl)⟩
theorem ok_3_of {p q n : Int} {vy : Bool} {pic : ByteArray} (h : (Ty.mk 3 p q n vy pic).ok = true) : 1 ≤ p ∧ p ≤ 15 ∧ q = 0 ∧ n = 0 ∧ vy = false ∧ pic = ⟨#[]⟩ := by
  have e : ¬ (3 : Int) = 1 := by decide
  have e' : ¬ (3 : Int) = 2 := by decide
  simp only [Ty.ok, validS, validFloatS, if_neg e, if_neg e', if_true, Bool.and_eq_true, decide_eq_true_eq, beq_iff_eq] at h
  obtain ⟨⟨h1, h2⟩, ⟨⟨h3, h5⟩, h6⟩, h7⟩ := h
  exact ⟨h1, h2, h3, h5, h6, toList_nil _ (by rw [h7]; rfl)⟩
theorem ok_kind {k p q n : Int} {vy : Bool} {pic : ByteArray} (h : (Ty.mk k p q n vy pic).ok = true) : 1 ≤ k ∧ k ≤ 9 := by
  apply Decidable.byContradiction
  intro hn
  unfold Ty.ok validS at h
  simp only at h
  repeat rw [if_neg (by omega)] at h
  cases h
end Go.Proofs.YtbjnglfapgpncaaGreatDoor
