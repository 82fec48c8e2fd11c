/- ironbarkref01.Valid and Numeric, of any type: the same answers as digit.Valid (validS). -/
import Derived.Test.YtpdoddhieblooaaGreatDoorKRules
import Derived.BigGuardPart
namespace Go.Proofs.YtpdoddhieblooaaGreatDoor
open Go.RowKit

set_option maxHeartbeats 400000 in
theorem numeric_any (k : Int) (w : World) :
   Calls Tryz.prog 51 #[.int .i64 k] w fun e w' => e = .returned (.bool (decide (1 ≤ k) && decide (k ≤ 3))) ∧ w = w' := by
 go_enter Tryz.func51, Tryz.ntmps51
 go_wp2
 all_goals
   go_ret
   exact ⟨ret_bool (by simp; try omega), rfl⟩
theorem numeric_not (k : Int) (w : World) (hk : k < 1 ∨ 10 ≤ k) :
   Calls Tryz.prog 51 #[.int .i64 k] w fun e w' => e = .returned (.bool false) ∧ w = w' :=
 (numeric_any k w).mono fun _ _ ⟨he, hw⟩ => ⟨he.trans (ret_bool (by simp; omega)), hw⟩
set_option maxHeartbeats 800000 in
theorem refValid_1 (p q n : Int) (vy : Bool) (pic : ByteArray) (w : World) :
   Calls Tryz.prog 65 #[tyV 1 p q n vy pic] w fun e w' => e = .returned (.bool (validS 1 p q n vy pic)) ∧ Below w.heap.size w w' := by
 go_enter Tryz.func65, Tryz.ntmps65
 go_wp2
 all_goals
   go_ret
   refine ⟨ret_bool ?_, by go_grown⟩
   simp_all [validS, validFixedS]
   try omega
set_option maxHeartbeats 800000 in
theorem refValid_2 (p q n : Int) (vy : Bool) (pic : ByteArray) (w : World) :
   Calls Tryz.prog 65 #[tyV 2 p q n vy pic] w fun e w' => e = .returned (.bool (validS 2 p q n vy pic)) ∧ Below w.heap.size w w' := by
 go_enter Tryz.func65, Tryz.ntmps65
 go_wp2
 all_goals
   go_ret
   refine ⟨ret_bool ?_, by go_grown⟩
   simp_all [validS, validFixedS]
   try omega
set_option maxHeartbeats 800000 in
theorem refValid_3 (p q n : Int) (vy : Bool) (pic : ByteArray) (w : World) :
   Calls Tryz.prog 65 #[tyV 3 p q n vy pic] w fun e w' => e = .returned (.bool (validS 3 p q n vy pic)) ∧ Below w.heap.size w w' := by
 go_enter Tryz.func65, Tryz.ntmps65
 go_wp2
 all_goals
   go_ret
   refine ⟨ret_bool ?_, by go_grown⟩
   simp_all [validS, validFloatS]
   try omega
set_option maxHeartbeats 800000 in
theorem refValid_4 (p q n : Int) (vy : Bool) (pic : ByteArray) (w : World) :
   Calls Tryz.prog 65 #[tyV 4 p q n vy pic] w fun e w' => e = .returned (.bool (validS 4 p q n vy pic)) ∧ Below w.heap.size w w' := by
 go_enter Tryz.func65, Tryz.ntmps65
 go_wp2
 all_goals
   go_ret
   refine ⟨ret_bool ?_, by go_grown⟩
   simp_all [validS, validStringS]
   try omega
set_option maxHeartbeats 800000 in
theorem refValid_5 (p q n : Int) (vy : Bool) (pic : ByteArray) (w : World) :
   Calls Tryz.prog 65 #[tyV 5 p q n vy pic] w fun e w' => e = .returned (.bool (validS 5 p q n vy pic)) ∧ Below w.heap.size w w' := by
 go_enter Tryz.func65, Tryz.ntmps65
 go_wp2
 all_goals
   go_ret
   refine ⟨ret_bool ?_, by go_grown⟩
   simp_all [validS, validStringS]
   try omega
set_option maxHeartbeats 800000 in
theorem refValid_6 (p q n : Int) (vy : Bool) (pic : ByteArray) (w : World) (hs : pic.size ≤ maxLen) :
   Calls Tryz.prog 65 #[tyV 6 p q n vy pic] w fun e w' => e = .returned (.bool (validS 6 p q n vy pic)) ∧ Below w.heap.size w w' := by
 unfold maxLen at hs
 go_enter Tryz.func65, Tryz.ntmps65
 go_wp2
 all_goals
   go_ret
   refine ⟨ret_bool ?_, by go_grown⟩
   simp_all [validS, validPictureS]
   try omega
set_option maxHeartbeats 800000 in
theorem refValid_7 (p q n : Int) (vy : Bool) (pic : ByteArray) (w : World) :
   Calls Tryz.prog 65 #[tyV 7 p q n vy pic] w fun e w' => e = .returned (.bool (validS 7 p q n vy pic)) ∧ Below w.heap.size w w' := by
 go_enter Tryz.func65, Tryz.ntmps65
 go_wp2
 all_goals
   go_ret
   refine ⟨ret_bool ?_, by go_grown⟩
   simp_all [validS, validPlainS]
   try omega
set_option maxHeartbeats 800000 in
theorem refValid_8 (p q n : Int) (vy : Bool) (pic : ByteArray) (w : World) :
   Calls Tryz.prog 65 #[tyV 8 p q n vy pic] w fun e w' => e = .returned (.bool (validS 8 p q n vy pic)) ∧ Below w.heap.size w w' := by
 go_enter Tryz.func65, Tryz.ntmps65
 go_wp2
 all_goals
   go_ret
   refine ⟨ret_bool ?_, by go_grown⟩
   simp_all [validS, validPlainS]
   try omega
set_option maxHeartbeats 800000 in
theorem refValid_9 (p q n : Int) (vy : Bool) (pic : ByteArray) (w : World) :
   Calls Tryz.prog 65 #[tyV 9 p q n vy pic] w fun e w' => e = .returned (.bool (validS 9 p q n vy pic)) ∧ Below w.heap.size w w' := by
 go_enter Tryz.func65, Tryz.ntmps65
 go_wp2
 all_goals
   go_ret
   refine ⟨ret_bool ?_, by go_grown⟩
   simp_all [validS, validPlainS]
   try omega
set_option maxHeartbeats 800000 in
theorem refValid_0 (k p q n : Int) (vy : Bool) (pic : ByteArray) (w : World) (hk : k < 1 ∨ 10 ≤ k) :
   Calls Tryz.prog 65 #[tyV k p q n vy pic] w fun e w' => e = .returned (.bool false) ∧ Below w.heap.size w w' := by
 have e1 : (k == 1) = false := by rw [beq_eq_false_iff_ne]; omega
 have e2 : (k == 2) = false := by rw [beq_eq_false_iff_ne]; omega
 have e3 : (k == 3) = false := by rw [beq_eq_false_iff_ne]; omega
 have e4 : (k == 4) = false := by rw [beq_eq_false_iff_ne]; omega
 have e5 : (k == 5) = false := by rw [beq_eq_false_iff_ne]; omega
 have e6 : (k == 6) = false := by rw [beq_eq_false_iff_ne]; omega
 have n4 : (k != 4) = true := by rw [bne_iff_ne]; omega
 have n5 : (k != 5) = true := by rw [bne_iff_ne]; omega
 have n6 : (k != 6) = true := by rw [bne_iff_ne]; omega
 have H := Lib.hid hk
 rcases hk with hk | hk
 all_goals
   go_enter Tryz.func65, Tryz.ntmps65
   go_wp2_with (go_at_call 51; refine (numeric_not _ _ H.out).mono ?_; rintro e w' ⟨rfl, rfl⟩)
   all_goals
     go_ret
     refine ⟨ret_bool ?_, by go_grown⟩
     first | rfl | (simp; omega)
theorem refValid_any (k p q n : Int) (vy : Bool) (pic : ByteArray) (w : World) (hs : pic.size ≤ maxLen) :
   Calls Tryz.prog 65 #[tyV k p q n vy pic] w fun e w' => e = .returned (.bool (validS k p q n vy pic)) ∧ Below w.heap.size w w' := by
 by_cases h : k < 1 ∨ 10 ≤ k
 · unfold validS
   repeat rw [if_neg (by omega)]
   exact refValid_0 k p q n vy pic w h
 · obtain rfl | rfl | rfl | rfl | rfl | rfl | rfl | rfl | rfl : k = 1 ∨ k = 2 ∨ k = 3 ∨ k = 4 ∨ k = 5 ∨ k = 6 ∨ k = 7 ∨ k = 8 ∨ k = 9 := by omega
   · exact refValid_1 p q n vy pic w
   · exact refValid_2 p q n vy pic w
   · exact refValid_3 p q n vy pic w
   · exact refValid_4 p q n vy pic w
   · exact refValid_5 p q n vy pic w
   · exact refValid_6 p q n vy pic w hs
   · exact refValid_7 p q n vy pic w
   · exact refValid_8 p q n vy pic w
   · exact refValid_9 p q n vy pic w
end Go.Proofs.YtpdoddhieblooaaGreatDoor
