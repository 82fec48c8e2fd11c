/- Package rule and its specification, the small functions on types: isNumber, isString, isData, mostOf, limit, binary, decimal, float, asBinary, asDecimal, asFloat, bin, dec, float. -/
import Derived.Test.YtbjnglfapgpncaaGreatDoorTy
import Derived.BigGuardPart
namespace Go.Proofs.YtbjnglfapgpncaaGreatDoor
open Go.RowKit
/-- A type of numbers: nothing but kind, P and Q. -/
abbrev numV (k p q : Int) : Value := tyV k p q 0 false ⟨#[]⟩
def bP (p : Int) : Int := min 31 ((10 * p + 2) / 3 + 1)
def bQ (q : Int) : Int := min 31 ((10 * q + 2) / 3)
def dP (p : Int) : Int := min 15 ((3 * p + 9) / 10 + 1)
def dQ (q : Int) : Int := min 31 ((3 * q + 9) / 10)
def fP (p : Int) : Int := min 15 ((3 * p + 9) / 10)
theorem bP_bd (p : Int) (h : 1 ≤ p) : 1 ≤ bP p ∧ bP p ≤ 31 := by unfold bP; omega
theorem bQ_bd (q : Int) (h : 0 ≤ q) : 0 ≤ bQ q ∧ bQ q ≤ 31 := by unfold bQ; omega
theorem dP_bd (p : Int) (h : 1 ≤ p) : 1 ≤ dP p ∧ dP p ≤ 15 := by unfold dP; omega
theorem dQ_bd (q : Int) (h : 0 ≤ q) : 0 ≤ dQ q ∧ dQ q ≤ 31 := by unfold dQ; omega
theorem fP_bd (p : Int) (h : 1 ≤ p) : 1 ≤ fP p ∧ fP p ≤ 15 := by unfold fP; omega

def isNumS (k : Int) : Bool := decide (1 ≤ k) && decide (k ≤ 3)
def isStrS (k : Int) : Bool := k == 4 || k == 5
def isDataS (k : Int) : Bool := decide (1 ≤ k) && decide (k ≤ 6)

set_option maxHeartbeats 400000 in
theorem isNumber_any (k p q n : Int) (vy : Bool) (pic : ByteArray) (w : World) :
    Calls Tryz.prog 35 #[tyV k p q n vy pic] w fun e w' => e = .returned (.bool (isNumS k)) ∧ Below w.heap.size w w' := by
  go_enter Tryz.func35, Tryz.ntmps35
  go_wp2
  all_goals
    go_ret
    refine ⟨ret_bool ?_, by go_grown⟩
    unfold isNumS
    rw [Bool.eq_iff_iff]
    simp
    try omega

theorem isNumber_b (b : Bool) (k p q n : Int) (vy : Bool) (pic : ByteArray) (w : World) (h : isNumS k = b) :
    Calls Tryz.prog 35 #[tyV k p q n vy pic] w fun e w' => e = .returned (.bool b) ∧ Below w.heap.size w w' := by
  subst h; exact isNumber_any k p q n vy pic w
set_option maxHeartbeats 400000 in
theorem mostOf_1 (w : World) : Calls Tryz.prog 49 #[.int .i64 1] w fun e w' => e = .returned (.int .i64 31) ∧ w = w' := by
  go_enter Tryz.func49, Tryz.ntmps49
  go_wp2
  go_ret
  exact ⟨rfl, rfl⟩
set_option maxHeartbeats 400000 in
theorem mostOf_2 (w : World) : Calls Tryz.prog 49 #[.int .i64 2] w fun e w' => e = .returned (.int .i64 15) ∧ w = w' := by
  go_enter Tryz.func49, Tryz.ntmps49
  go_wp2
  go_ret
  exact ⟨rfl, rfl⟩

set_option maxHeartbeats 400000 in
theorem binary_any (p q : Int) (w : World) :
    Calls Tryz.prog 113 #[.int .i64 p, .int .i64 q] w fun e w' => e = .returned (numV 1 p q) ∧ Below w.heap.size w w' := by
  go_enter Tryz.func113, Tryz.ntmps113
  go_wp2
  exact bodyPost_ret (v := numV 1 p q) (by simp [results, Tryz.results113, go_sem]) rfl ⟨rfl, by go_grown⟩

set_option maxHeartbeats 400000 in
theorem float_any (p : Int) (w : World) :
    Calls Tryz.prog 51 #[.int .i64 p] w fun e w' => e = .returned (numV 3 p 0) ∧ Below w.heap.size w w' := by
  go_enter Tryz.func51, Tryz.ntmps51
  go_wp2
  exact bodyPost_ret (v := numV 3 p 0) (by simp [results, Tryz.results51, go_sem]) rfl ⟨rfl, by go_grown⟩

set_option maxHeartbeats 400000 in
theorem asBinary_1 (p q : Int) (w : World) :
    Calls Tryz.prog 84 #[numV 1 p q] w fun e w' => e = .returned (numV 1 p q) ∧ Below w.heap.size w w' := by
  go_enter Tryz.func84, Tryz.ntmps84
  go_wp2
  all_goals
    refine bodyPost_ret (v := numV 1 p q) ?_ rfl ⟨rfl, ?_⟩
    · simp [results, Tryz.results84, go_sem]
      try omega
    · go_grown

set_option maxHeartbeats 400000 in
theorem asBinary_2 (p q : Int) (w : World) (hp : 1 ≤ p) (hp' : p ≤ 31) (hq : 0 ≤ q) (hq' : q ≤ 31) :
    Calls Tryz.prog 84 #[numV 2 p q] w fun e w' => e = .returned (numV 1 (bP p) (bQ q)) ∧ Below w.heap.size w w' := by
  go_enter Tryz.func84, Tryz.ntmps84
  go_wp2
  all_goals
    refine bodyPost_ret (v := numV 1 (bP p) (bQ q)) ?_ rfl ⟨rfl, ?_⟩
    · simp [results, Tryz.results84, go_sem, bP, bQ]
      try omega
    · go_grown

set_option maxHeartbeats 400000 in
theorem asFloat_1 (p q : Int) (w : World) (hp : 1 ≤ p) (hp' : p ≤ 31) :
    Calls Tryz.prog 52 #[numV 1 p q] w fun e w' => e = .returned (numV 3 (fP p) 0) ∧ Below w.heap.size w w' := by
  go_enter Tryz.func52, Tryz.ntmps52
  go_wp2
  all_goals
    refine bodyPost_ret (v := numV 3 (fP p) 0) ?_ rfl ⟨rfl, ?_⟩
    · simp [results, Tryz.results52, go_sem, fP]
      try omega
    · go_grown

set_option maxHeartbeats 400000 in
theorem asFloat_2 (p q : Int) (w : World) :
    Calls Tryz.prog 52 #[numV 2 p q] w fun e w' => e = .returned (numV 3 p 0) ∧ Below w.heap.size w w' := by
  go_enter Tryz.func52, Tryz.ntmps52
  go_wp2
  all_goals
    refine bodyPost_ret (v := numV 3 p 0) ?_ rfl ⟨rfl, ?_⟩
    · simp [results, Tryz.results52, go_sem]
      try omega
    · go_grown

set_option maxHeartbeats 400000 in
theorem asFloat_3 (p q : Int) (w : World) :
    Calls Tryz.prog 52 #[numV 3 p q] w fun e w' => e = .returned (numV 3 p 0) ∧ Below w.heap.size w w' := by
  go_enter Tryz.func52, Tryz.ntmps52
  go_wp2
  all_goals
    refine bodyPost_ret (v := numV 3 p 0) ?_ rfl ⟨rfl, ?_⟩
    · simp [results, Tryz.results52, go_sem]
      try omega
    · go_grown

end Go.Proofs.YtbjnglfapgpncaaGreatDoor
