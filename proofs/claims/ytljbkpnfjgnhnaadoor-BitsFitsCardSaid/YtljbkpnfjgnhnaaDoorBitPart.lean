/- Package bits, parts: ends, cond, of. -/
import Derived.Test.YtljbkpnfjgnhnaaDoorBitTell2
import Derived.Test.YtljbkpnfjgnhnaaDoorBitAns
namespace Go.Proofs.YtljbkpnfjgnhnaaDoor
open Go.RowKit

abbrev ptV (i n : Int) : Value := .agg #[.int .i64 i, .int .i64 n]
abbrev ptC (i n : Int) : Array Value := #[.int .i64 i, .int .i64 n]
abbrev tkC (k n q : Int) (s : ByteArray) (c : Int) : Array Value := #[.int .i64 k, .int .i64 n, .int .i64 q, .string s, .int .i64 c]
theorem clampN_int (x : Int) (n : Nat) : ((clampN x n : Nat) : Int) = min (max x 0) n := by unfold clampN; omega
theorem ret_two {a b c d : Int} (h : a = b) (h' : c = d) : Ending.returned (.tuple #[.int .i64 a, .int .i64 c]) = .returned (.tuple #[.int .i64 b, .int .i64 d]) := by rw [h, h']
theorem ret_i64 {a b : Int} (h : a = b) : Ending.returned (.int .i64 a) = .returned (.int .i64 b) := by rw [h]

set_option maxHeartbeats 1000000 in
theorem ends1 (k n q : Int) (s : ByteArray) (x : Int) (bs : Nat) (w : World) (hS : Row w bs (vlC k n q s) 23) (hs : s.size ≤ 100000) :
    Calls Tryd.prog 63 #[.int .i64 x, ptr bs] w fun e w' => e = .returned (.int .i64 (clampN x s.size)) ∧ w = w' := by
  obtain ⟨x0, x1, x2, x3⟩ := hS.four
  go_enter Tryd.func63, Tryd.ntmps63
  go_wp2
  all_goals
    go_ret
    exact ⟨ret_i64 (by unfold clampN; omega), rfl⟩

set_option maxHeartbeats 1000000 in
theorem ends_any (i m k n q : Int) (s : ByteArray) (w : World) (hs : s.size ≤ 100000) (h1 : -2000000000 ≤ i) (h2 : i ≤ 2000000000) (h3 : -4000000000 ≤ m) (h4 : m ≤ 4000000000) :
    Calls Tryd.prog 55 #[ptV i m, vlV k n q s] w fun e w' => e = .returned (.tuple #[.int .i64 (begN s.data.toList i), .int .i64 (endN s.data.toList i m)]) ∧ Below w.heap.size w w' := by
  have hmf : ∀ (fn : Fn) (first cap : Array Value) (w : World), (Instr.makeFunc fn first cap).run Tryd.prog w = .ok (.func fn first cap) w := fun _ _ _ _ => rfl
  have R := Row.new2 w (.cells (ptC i m) 71) (vlC k n q s) 23
  have hb : begN s.data.toList i = clampN (i - 1) s.size := by unfold begN; rw [lsz]
  have he : (endN s.data.toList i m : Int) = max (clampN (i - 1) s.size : Int) (clampN (i - 1 + m) s.size) := by unfold endN; rw [hb, lsz]; omega
  have HB := Lib.hid hb
  have HE := Lib.hid he
  clear hb he
  have b1 : clampN (i - 1) s.size ≤ 100000 := by unfold clampN; omega
  have b2 : clampN (i - 1 + m) s.size ≤ 100000 := by unfold clampN; omega
  go_enter Tryd.func55, Tryd.ntmps55
  go_wp2_with (go_at_call 63; refine (ends1 _ _ _ _ _ _ _ R hs).mono ?_; rintro e w2 ⟨rfl, rfl⟩)
  all_goals
    go_ret2
    exact ⟨ret_two (by rw [HB.out]) (by rw [HE.out]; omega), by go_grown⟩

set_option maxHeartbeats 1000000 in
theorem cond_any (i m k n q : Int) (s : ByteArray) (w : World) (hs : s.size ≤ 100000) (h1 : -2000000000 ≤ i) (h2 : i ≤ 2000000000) (h3 : -4000000000 ≤ m) (h4 : m ≤ 4000000000) :
    Calls Tryd.prog 57 #[ptV i m, vlV k n q s] w fun e w' => e = .returned (.int .i64 (partC s.data.toList i m)) ∧ Below w.heap.size w w' := by
  by_cases g1 : 1 ≤ i
  · have d1 : decide (1 ≤ i) = true := decide_eq_true g1
    by_cases g2 : 0 ≤ m
    · have d2 : decide (0 ≤ m) = true := decide_eq_true g2
      by_cases g3 : i + m - 1 ≤ s.size
      · have d3 : decide (i + m - 1 ≤ (s.size : Int)) = true := decide_eq_true g3
        have HR : Hid (partC s.data.toList i m = 0) := Lib.hid (partC_of (by rw [lsz]; exact ⟨g1, g2, g3⟩))
        go_enter Tryd.func57, Tryd.ntmps57
        go_wp2
        go_ret
        exact ⟨by rw [HR.out]; rfl, by go_grown⟩
      · have d3 : decide (i + m - 1 ≤ (s.size : Int)) = false := decide_eq_false g3
        have HR : Hid (partC s.data.toList i m = 5) := Lib.hid (if_neg (by rw [lsz]; omega))
        have g3' : (s.size : Int) < i + m - 1 := by omega
        clear g3
        go_enter Tryd.func57, Tryd.ntmps57
        go_wp2
        go_ret
        exact ⟨by rw [HR.out]; rfl, by go_grown⟩
    · have d2 : decide (0 ≤ m) = false := decide_eq_false g2
      have HR : Hid (partC s.data.toList i m = 5) := Lib.hid (if_neg (by omega))
      have g2' : m < 0 := by omega
      clear g2
      go_enter Tryd.func57, Tryd.ntmps57
      go_wp2
      go_ret
      exact ⟨by rw [HR.out]; rfl, by go_grown⟩
  · have d1 : decide (1 ≤ i) = false := decide_eq_false g1
    have HR : Hid (partC s.data.toList i m = 5) := Lib.hid (if_neg (by omega))
    have g1' : i < 1 := by omega
    clear g1
    go_enter Tryd.func57, Tryd.ntmps57
    go_wp2
    go_ret
    exact ⟨by rw [HR.out]; rfl, by go_grown⟩

theorem sub_ext (s : ByteArray) (i m : Int) : s.extract (begN s.data.toList i) (endN s.data.toList i m) = bsz (subL s.data.toList i m) := by
  have e : (s.extract (begN s.data.toList i) (endN s.data.toList i m)).data.toList = subL s.data.toList i m := by
    rw [Lib.extract_data, subL, List.drop_take]
  rw [← e]

end Go.Proofs.YtljbkpnfjgnhnaaDoor
