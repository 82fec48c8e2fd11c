/- Package rule and its specification, the small functions on types: isNumber, isString, isData, mostOf, limit, binary, decimal, float, asBinary, asDecimal, asFloat, bin, dec, float. -/
import Derived.Test.YtcekphfmpjdbmaaGreatDoorTy
import Derived.BigGuardPart
namespace Go.Proofs.YtcekphfmpjdbmaaGreatDoor
open Go.RowKit
/-- A type of numbers: nothing but kind, P and Q. -/
abbrev numV (k p q : Int) : Value := tyV k p q 0 false ⟨#[]⟩
def bP (p : Int) : Int := min 31 ((10 * p + 2) / 3 + 1)
def bQ (q : Int) : Int := min 31 ((10 * q + 2) / 3)
def dP (p : Int) : Int := min 15 ((3 * p + 9) / 10 + 1)
def dQ (q : Int) : Int := min 31 ((3 * q + 9) / 10)
def fP (p : Int) : Int := min 15 ((3 * p + 9) / 10)
theorem bP_bd (p : Int) (h : 1 ≤ p) : 1 ≤ bP p ∧ bP p ≤ 31 := by unfold bP; omega
theorem bQ_bd (q : Int) (h : 0 ≤ q) : 0 ≤ bQ q ∧ bQ q ≤ 31 := by unfold bQ; omega
theorem dP_bd (p : Int) (h : 1 ≤ p) : 1 ≤ dP p ∧ dP p ≤ 15 := by unfold dP; omega
theorem dQ_bd (q : Int) (h : 0 ≤ q) : 0 ≤ dQ q ∧ dQ q ≤ 31 := by unfold dQ; omega
theorem fP_bd (p : Int) (h : 1 ≤ p) : 1 ≤ fP p ∧ fP p ≤ 15 := by unfold fP; omega

def isNumS (k : Int) : Bool := decide (1 ≤ k) && decide (k ≤ 3)
def isStrS (k : Int) : Bool := k == 4 || k == 5
def isDataS (k : Int) : Bool := decide (1 ≤ k) && decide (k ≤ 6)

set_option maxHeartbeats 400000 in
theorem isNumber_any (k p q n : Int) (vy : Bool) (pic : ByteArray) (w : World) :
    Calls Tryz.prog 140 #[tyV k p q n vy pic] w fun e w' => e = .returned (.bool (isNumS k)) ∧ Below w.heap.size w w' := by
  go_enter Tryz.func140, Tryz.ntmps140
  go_wp2
  all_goals
    go_ret
    refine ⟨ret_bool ?_, by go_grown⟩
    unfold isNumS
    rw [Bool.eq_iff_iff]
    simp
    try omega

set_option maxHeartbeats 400000 in
theorem isString_any (k p q n : Int) (vy : Bool) (pic : ByteArray) (w : World) :
    Calls Tryz.prog 145 #[tyV k p q n vy pic] w fun e w' => e = .returned (.bool (isStrS k)) ∧ Below w.heap.size w w' := by
  go_enter Tryz.func145, Tryz.ntmps145
  go_wp2
  all_goals
    go_ret
    refine ⟨ret_bool ?_, by go_grown⟩
    unfold isStrS
    rw [Bool.eq_iff_iff]
    simp
    try omega

theorem isNumber_b (b : Bool) (k p q n : Int) (vy : Bool) (pic : ByteArray) (w : World) (h : isNumS k = b) :
    Calls Tryz.prog 140 #[tyV k p q n vy pic] w fun e w' => e = .returned (.bool b) ∧ Below w.heap.size w w' := by
  subst h; exact isNumber_any k p q n vy pic w
theorem isString_b (b : Bool) (k p q n : Int) (vy : Bool) (pic : ByteArray) (w : World) (h : isStrS k = b) :
    Calls Tryz.prog 145 #[tyV k p q n vy pic] w fun e w' => e = .returned (.bool b) ∧ Below w.heap.size w w' := by
  subst h; exact isString_any k p q n vy pic w

set_option maxHeartbeats 400000 in
theorem mostOf_1 (w : World) : Calls Tryz.prog 149 #[.int .i64 1] w fun e w' => e = .returned (.int .i64 31) ∧ w = w' := by
  go_enter Tryz.func149, Tryz.ntmps149
  go_wp2
  go_ret
  exact ⟨rfl, rfl⟩
set_option maxHeartbeats 400000 in
theorem mostOf_2 (w : World) : Calls Tryz.prog 149 #[.int .i64 2] w fun e w' => e = .returned (.int .i64 15) ∧ w = w' := by
  go_enter Tryz.func149, Tryz.ntmps149
  go_wp2
  go_ret
  exact ⟨rfl, rfl⟩

set_option maxHeartbeats 400000 in
theorem limit_1 (p q : Int) (w : World) :
    Calls Tryz.prog 77 #[numV 1 p q] w fun e w' => e = .returned (.int .i64 31) ∧ Below w.heap.size w w' := by
  go_enter Tryz.func77, Tryz.ntmps77
  go_wp2
  go_ret
  exact ⟨rfl, by go_grown⟩

set_option maxHeartbeats 400000 in
theorem limit_2 (p q : Int) (w : World) :
    Calls Tryz.prog 77 #[numV 2 p q] w fun e w' => e = .returned (.int .i64 15) ∧ Below w.heap.size w w' := by
  go_enter Tryz.func77, Tryz.ntmps77
  go_wp2
  go_ret
  exact ⟨rfl, by go_grown⟩

set_option maxHeartbeats 400000 in
theorem binary_any (p q : Int) (w : World) :
    Calls Tryz.prog 138 #[.int .i64 p, .int .i64 q] w fun e w' => e = .returned (numV 1 p q) ∧ Below w.heap.size w w' := by
  go_enter Tryz.func138, Tryz.ntmps138
  go_wp2
  exact bodyPost_ret (v := numV 1 p q) (by simp [results, Tryz.results138, go_sem]) rfl ⟨rfl, by go_grown⟩

set_option maxHeartbeats 400000 in
theorem decimal_any (p q : Int) (w : World) :
    Calls Tryz.prog 139 #[.int .i64 p, .int .i64 q] w fun e w' => e = .returned (numV 2 p q) ∧ Below w.heap.size w w' := by
  go_enter Tryz.func139, Tryz.ntmps139
  go_wp2
  exact bodyPost_ret (v := numV 2 p q) (by simp [results, Tryz.results139, go_sem]) rfl ⟨rfl, by go_grown⟩

set_option maxHeartbeats 400000 in
theorem float_any (p : Int) (w : World) :
    Calls Tryz.prog 141 #[.int .i64 p] w fun e w' => e = .returned (numV 3 p 0) ∧ Below w.heap.size w w' := by
  go_enter Tryz.func141, Tryz.ntmps141
  go_wp2
  exact bodyPost_ret (v := numV 3 p 0) (by simp [results, Tryz.results141, go_sem]) rfl ⟨rfl, by go_grown⟩

set_option maxHeartbeats 400000 in
theorem asBinary_1 (p q : Int) (w : World) :
    Calls Tryz.prog 58 #[numV 1 p q] w fun e w' => e = .returned (numV 1 p q) ∧ Below w.heap.size w w' := by
  go_enter Tryz.func58, Tryz.ntmps58
  go_wp2
  all_goals
    refine bodyPost_ret (v := numV 1 p q) ?_ rfl ⟨rfl, ?_⟩
    · simp [results, Tryz.results58, go_sem]
      try omega
    · go_grown

set_option maxHeartbeats 400000 in
theorem asBinary_2 (p q : Int) (w : World) (hp : 1 ≤ p) (hp' : p ≤ 31) (hq : 0 ≤ q) (hq' : q ≤ 31) :
    Calls Tryz.prog 58 #[numV 2 p q] w fun e w' => e = .returned (numV 1 (bP p) (bQ q)) ∧ Below w.heap.size w w' := by
  go_enter Tryz.func58, Tryz.ntmps58
  go_wp2
  all_goals
    refine bodyPost_ret (v := numV 1 (bP p) (bQ q)) ?_ rfl ⟨rfl, ?_⟩
    · simp [results, Tryz.results58, go_sem, bP, bQ]
      try omega
    · go_grown

set_option maxHeartbeats 400000 in
theorem bin_1 (p q : Int) (w : World) :
    Calls Tryz.prog 60 #[numV 1 p q] w fun e w' => e = .returned (numV 1 p q) ∧ Below w.heap.size w w' := by
  go_enter Tryz.func60, Tryz.ntmps60
  go_wp2
  all_goals
    refine bodyPost_ret (v := numV 1 p q) ?_ rfl ⟨rfl, ?_⟩
    · simp [results, Tryz.results60, go_sem]
      try omega
    · go_grown

set_option maxHeartbeats 400000 in
theorem bin_2 (p q : Int) (w : World) (hp : 1 ≤ p) (hp' : p ≤ 31) (hq : 0 ≤ q) (hq' : q ≤ 31) :
    Calls Tryz.prog 60 #[numV 2 p q] w fun e w' => e = .returned (numV 1 (bP p) (bQ q)) ∧ Below w.heap.size w w' := by
  go_enter Tryz.func60, Tryz.ntmps60
  go_wp2
  all_goals
    refine bodyPost_ret (v := numV 1 (bP p) (bQ q)) ?_ rfl ⟨rfl, ?_⟩
    · simp [results, Tryz.results60, go_sem, bP, bQ]
      try omega
    · go_grown

set_option maxHeartbeats 400000 in
theorem asDecimal_2 (p q : Int) (w : World) :
    Calls Tryz.prog 62 #[numV 2 p q] w fun e w' => e = .returned (numV 2 p q) ∧ Below w.heap.size w w' := by
  go_enter Tryz.func62, Tryz.ntmps62
  go_wp2
  all_goals
    refine bodyPost_ret (v := numV 2 p q) ?_ rfl ⟨rfl, ?_⟩
    · simp [results, Tryz.results62, go_sem]
      try omega
    · go_grown

set_option maxHeartbeats 400000 in
theorem asDecimal_1 (p q : Int) (w : World) (hp : 1 ≤ p) (hp' : p ≤ 31) (hq : 0 ≤ q) (hq' : q ≤ 31) :
    Calls Tryz.prog 62 #[numV 1 p q] w fun e w' => e = .returned (numV 2 (dP p) (dQ q)) ∧ Below w.heap.size w w' := by
  go_enter Tryz.func62, Tryz.ntmps62
  go_wp2
  all_goals
    refine bodyPost_ret (v := numV 2 (dP p) (dQ q)) ?_ rfl ⟨rfl, ?_⟩
    · simp [results, Tryz.results62, go_sem, dP, dQ]
      try omega
    · go_grown

set_option maxHeartbeats 400000 in
theorem dec_2 (p q : Int) (w : World) :
    Calls Tryz.prog 63 #[numV 2 p q] w fun e w' => e = .returned (numV 2 p q) ∧ Below w.heap.size w w' := by
  go_enter Tryz.func63, Tryz.ntmps63
  go_wp2
  all_goals
    refine bodyPost_ret (v := numV 2 p q) ?_ rfl ⟨rfl, ?_⟩
    · simp [results, Tryz.results63, go_sem]
      try omega
    · go_grown

set_option maxHeartbeats 400000 in
theorem dec_1 (p q : Int) (w : World) (hp : 1 ≤ p) (hp' : p ≤ 31) (hq : 0 ≤ q) (hq' : q ≤ 31) :
    Calls Tryz.prog 63 #[numV 1 p q] w fun e w' => e = .returned (numV 2 (dP p) (dQ q)) ∧ Below w.heap.size w w' := by
  go_enter Tryz.func63, Tryz.ntmps63
  go_wp2
  all_goals
    refine bodyPost_ret (v := numV 2 (dP p) (dQ q)) ?_ rfl ⟨rfl, ?_⟩
    · simp [results, Tryz.results63, go_sem, dP, dQ]
      try omega
    · go_grown

set_option maxHeartbeats 400000 in
theorem asFloat_1 (p q : Int) (w : World) (hp : 1 ≤ p) (hp' : p ≤ 31) :
    Calls Tryz.prog 67 #[numV 1 p q] w fun e w' => e = .returned (numV 3 (fP p) 0) ∧ Below w.heap.size w w' := by
  go_enter Tryz.func67, Tryz.ntmps67
  go_wp2
  all_goals
    refine bodyPost_ret (v := numV 3 (fP p) 0) ?_ rfl ⟨rfl, ?_⟩
    · simp [results, Tryz.results67, go_sem, fP]
      try omega
    · go_grown

set_option maxHeartbeats 400000 in
theorem asFloat_2 (p q : Int) (w : World) :
    Calls Tryz.prog 67 #[numV 2 p q] w fun e w' => e = .returned (numV 3 p 0) ∧ Below w.heap.size w w' := by
  go_enter Tryz.func67, Tryz.ntmps67
  go_wp2
  all_goals
    refine bodyPost_ret (v := numV 3 p 0) ?_ rfl ⟨rfl, ?_⟩
    · simp [results, Tryz.results67, go_sem]
      try omega
    · go_grown

set_option maxHeartbeats 400000 in
theorem asFloat_3 (p q : Int) (w : World) :
    Calls Tryz.prog 67 #[numV 3 p q] w fun e w' => e = .returned (numV 3 p 0) ∧ Below w.heap.size w w' := by
  go_enter Tryz.func67, Tryz.ntmps67
  go_wp2
  all_goals
    refine bodyPost_ret (v := numV 3 p 0) ?_ rfl ⟨rfl, ?_⟩
    · simp [results, Tryz.results67, go_sem]
      try omega
    · go_grown

set_option maxHeartbeats 400000 in
theorem rfloat_1 (p q : Int) (w : World) (hp : 1 ≤ p) (hp' : p ≤ 31) :
    Calls Tryz.prog 68 #[numV 1 p q] w fun e w' => e = .returned (numV 3 (fP p) 0) ∧ Below w.heap.size w w' := by
  go_enter Tryz.func68, Tryz.ntmps68
  go_wp2
  all_goals
    refine bodyPost_ret (v := numV 3 (fP p) 0) ?_ rfl ⟨rfl, ?_⟩
    · simp [results, Tryz.results68, go_sem, fP]
      try omega
    · go_grown

set_option maxHeartbeats 400000 in
theorem rfloat_2 (p q : Int) (w : World) :
    Calls Tryz.prog 68 #[numV 2 p q] w fun e w' => e = .returned (numV 3 p 0) ∧ Below w.heap.size w w' := by
  go_enter Tryz.func68, Tryz.ntmps68
  go_wp2
  all_goals
    refine bodyPost_ret (v := numV 3 p 0) ?_ rfl ⟨rfl, ?_⟩
    · simp [results, Tryz.results68, go_sem]
      try omega
    · go_grown

set_option maxHeartbeats 400000 in
theorem rfloat_3 (p q : Int) (w : World) :
    Calls Tryz.prog 68 #[numV 3 p q] w fun e w' => e = .returned (numV 3 p 0) ∧ Below w.heap.size w w' := by
  go_enter Tryz.func68, Tryz.ntmps68
  go_wp2
  all_goals
    refine bodyPost_ret (v := numV 3 p 0) ?_ rfl ⟨rfl, ?_⟩
    · simp [results, Tryz.results68, go_sem]
      try omega
    · go_grown

end Go.Proofs.YtcekphfmpjdbmaaGreatDoor
