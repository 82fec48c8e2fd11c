/- The law's sanity check (ironbarklaw02.awake), and the law RuleTurns for any type. -/
import Derived.Test.YtcekphfmpjdbmaaGreatDoorResult2
import Derived.Test.YtcekphfmpjdbmaaGreatDoorTurns13
import Derived.Test.YtcekphfmpjdbmaaGreatDoorTurns10n
import Derived.Test.YtcekphfmpjdbmaaGreatDoorTurnss4
import Derived.Test.YtcekphfmpjdbmaaGreatDoorTurnss5
import Derived.Test.YtcekphfmpjdbmaaGreatDoorTurns1
import Derived.Test.YtcekphfmpjdbmaaGreatDoorTurns2
import Derived.Test.YtcekphfmpjdbmaaGreatDoorTurns3
namespace Go.Proofs.YtcekphfmpjdbmaaGreatDoor
open Go.RowKit

theorem numB_2 {p q : Int} (hp : 1 ≤ p) (hp' : p ≤ 15) (hq : 0 ≤ q) (hq' : q ≤ 31) : NumB 2 p q := ⟨by omega, by omega, hp, by omega, hq, hq', ok_2 hp hp' hq hq'⟩

theorem awake_result (w : World) : Calls Tryz.prog 24 #[.string ⟨#[43]⟩, numV 2 5 2, numV 2 3 1] w fun e w' => e = .returned (.tuple #[numV 2 6 2, .int .i64 0]) ∧ Below w.heap.size w w' :=
  (Result_plus 2 5 2 2 3 1 w (numB_2 (by omega) (by omega) (by omega) (by omega)) (numB_2 (by omega) (by omega) (by omega) (by omega))).mono fun _ _ ⟨he, hw⟩ => ⟨by
    rw [he]
    have h1 : base 2 2 = 2 := by decide
    have h2 : rP 0 2 2 5 2 2 3 1 = 6 := by decide
    have h3 : rQ 0 2 2 5 2 2 1 = 2 := by decide
    rw [h1, h2, h3], hw⟩

set_option maxHeartbeats 1000000 in
theorem awake_2 (w : World) : Calls Tryz.prog 12 #[] w fun e w' => e = .returned (.bool true) ∧ Below w.heap.size w w' := by
  have hE := tyEq
  have hG : Tryz.prog.eqGuardType Tryz.prog.depth 23 = false := by kernel_rfl
  go_enter Tryz.func12, Tryz.ntmps12
  go_wp2_with fail
  go_at_call 24
  refine (awake_result _).mono ?_
  rintro e w1 ⟨rfl, hb1⟩
  go_wp2
  go_ret
  exact ⟨rfl, (hb1.alloc hb1.size _)⟩

theorem toList_nil (s : ByteArray) (h : (s.toList == []) = true) : s = ⟨#[]⟩ := by
  obtain ⟨⟨l⟩⟩ := s
  rw [ByteArray.toList_eq] at h
  cases l with
  | nil => rfl
  | cons a b => simp at h

theorem ok_1_of {p q n : Int} {vy : Bool} {pic : ByteArray} (h : (Ty.mk 1 p q n vy pic).ok = true) : 1 ≤ p ∧ p ≤ 31 ∧ 0 ≤ q ∧ q ≤ 31 ∧ n = 0 ∧ vy = false ∧ pic = ⟨#[]⟩ := by
  simp only [Ty.ok, validS, validFixedS, if_true, Bool.and_eq_true, decide_eq_true_eq, beq_iff_eq] at h
  obtain ⟨⟨⟨h1, h2⟩, h3, h4⟩, ⟨h5, h6⟩, h7⟩ := h
  exact ⟨h1, h2, h3, h4, h5, h6, toList_nil _ (by rw [h7]; rfl)⟩
theorem ok_2_of {p q n : Int} {vy : Bool} {pic : ByteArray} (h : (Ty.mk 2 p q n vy pic).ok = true) : 1 ≤ p ∧ p ≤ 15 ∧ 0 ≤ q ∧ q ≤ 31 ∧ n = 0 ∧ vy = false ∧ pic = ⟨#[]⟩ := by
  have e : ¬ (2 : Int) = 1 := by decide
  simp only [Ty.ok, validS, validFixedS, if_neg e, if_true, Bool.and_eq_true, decide_eq_true_eq, beq_iff_eq] at h
  obtain ⟨⟨⟨h1, h2⟩, h3, h4⟩, ⟨h5, h6⟩, h7⟩ := h
  exact ⟨h1, h2, h3, h4, h5, h6, toList_nil _ (by rw [h7]; rfl)⟩
theorem ok_3_of {p q n : Int} {vy : Bool} {pic : ByteArray} (h : (Ty.mk 3 p q n vy pic).ok = true) : 1 ≤ p ∧ p ≤ 15 ∧ q = 0 ∧ n = 0 ∧ vy = false ∧ pic = ⟨#[]⟩ := by
  have e : ¬ (3 : Int) = 1 := by decide
  have e' : ¬ (3 : Int) = 2 := by decide
  simp only [Ty.ok, validS, validFloatS, if_neg e, if_neg e', if_true, Bool.and_eq_true, decide_eq_true_eq, beq_iff_eq] at h
  obtain ⟨⟨h1, h2⟩, ⟨⟨h3, h5⟩, h6⟩, h7⟩ := h
  exact ⟨h1, h2, h3, h5, h6, toList_nil _ (by rw [h7]; rfl)⟩
theorem ok_kind {k p q n : Int} {vy : Bool} {pic : ByteArray} (h : (Ty.mk k p q n vy pic).ok = true) : 1 ≤ k ∧ k ≤ 9 := by
  apply Decidable.byContradiction
  intro hn
  unfold Ty.ok validS at h
  simp only at h
  repeat rw [if_neg (by omega)] at h
  cases h

set_option maxRecDepth 100000 in
set_option maxHeartbeats 2000000 in
theorem turns_heavy (k p q n : Int) (vy : Bool) (pic : ByteArray) (w : World) (hs : pic.size ≤ maxLen) (hl : ¬ (pic.size : Int) ≤ 300) :
    Calls Tryz.prog 3 #[tyV k p q n vy pic] w fun e w' => e = .returned (.bool true) ∧ Below w.heap.size w w' := by
  have HS := Lib.hid hs; have HL := Lib.hid hl
  clear hs hl
  go_enter Tryz.func3, Tryz.ntmps3
  go_wp2_with fail
  go_at_call 11
  refine (light_no [⟨k, p, q, n, vy, pic⟩] (w.heap.size + 1) 0 1 _ (TysAt_one (heap_alloc2_new _ _ _)) (by simp) (by simp) (pic1 HS.out) (nall1 (f := Ty.light) (by simpa [Ty.light] using HL.out))).mono ?_
  rintro e w1 ⟨rfl, rfl⟩
  go_wp2_with fail
  go_at_call 12
  refine (awake_2 _).mono ?_
  rintro e w1 ⟨rfl, hb⟩
  go_wp2
  go_ret
  exact ⟨rfl, below_then (by go_grown) hb (by simp <;> omega)⟩

/-- The law RuleTurns, for any type. -/
theorem turns_any (k p q n : Int) (vy : Bool) (pic : ByteArray) (w : World) (hs : pic.size ≤ maxLen) :
    Calls Tryz.prog 3 #[tyV k p q n vy pic] w fun e w' => e = .returned (.bool true) ∧ Below w.heap.size w w' := by
  by_cases hl : (pic.size : Int) ≤ 300
  · cases hv : (Ty.mk k p q n vy pic).ok
    · exact turns_13 k p q n vy pic w hs hl hv awake_2
    · obtain ⟨k1, k9⟩ := ok_kind hv
      by_cases h6 : 6 ≤ k
      · exact turns_10n k p q n vy pic w hs hl hv (by simp [Ty.num, isNumS]; omega) h6 awake_2
      · obtain rfl | rfl | rfl | rfl | rfl : k = 1 ∨ k = 2 ∨ k = 3 ∨ k = 4 ∨ k = 5 := by omega
        · obtain ⟨h1, h2, h3, h4, rfl, rfl, rfl⟩ := ok_1_of hv
          exact turns_1 p q w h1 h2 h3 h4 awake_2
        · obtain ⟨h1, h2, h3, h4, rfl, rfl, rfl⟩ := ok_2_of hv
          exact turns_2 p q w h1 h2 h3 h4 awake_2
        · obtain ⟨h1, h2, rfl, rfl, rfl, rfl⟩ := ok_3_of hv
          exact turns_3 p w h1 h2 awake_2
        · exact turns_s4 p q n vy pic w hs hl hv awake_2
        · exact turns_s5 p q n vy pic w hs hl hv awake_2
  · exact turns_heavy k p q n vy pic w hs hl
end Go.Proofs.YtcekphfmpjdbmaaGreatDoor
