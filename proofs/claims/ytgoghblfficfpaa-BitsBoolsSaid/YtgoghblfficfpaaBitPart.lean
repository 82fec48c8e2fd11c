/- Package bits, parts: ends, cond, of. -/
import Derived.Test.YtgoghblfficfpaaBitTell2
import Derived.Test.YtgoghblfficfpaaBitAns
namespace Go.Proofs.Ytgoghblfficfpaa
open Go.RowKit

abbrev ptV (i n : Int) : Value := .agg #[.int .i64 i, .int .i64 n]
abbrev ptC (i n : Int) : Array Value := #[.int .i64 i, .int .i64 n]
abbrev tkC (k n q : Int) (s : ByteArray) (c : Int) : Array Value := #[.int .i64 k, .int .i64 n, .int .i64 q, .string s, .int .i64 c]
theorem clampN_int (x : Int) (n : Nat) : ((clampN x n : Nat) : Int) = min (max x 0) n := by unfold clampN; omega
theorem ret_two {a b c d : Int} (h : a = b) (h' : c = d) : Ending.returned (.tuple #[.int .i64 a, .int .i64 c]) = .returned (.tuple #[.int .i64 b, .int .i64 d]) := by rw [h, h']
theorem ret_i64 {a b : Int} (h : a = b) : Ending.returned (.int .i64 a) = .returned (.int .i64 b) := by rw [h]

set_option maxHeartbeats 1000000 in
theorem ends1 (k n q : Int) (s : ByteArray) (x : Int) (bs : Nat) (w : World) (hS : Row w bs (vlC k n q s) 23) (hs : s.size ≤ 100000) :
    Calls Try.prog 149 #[.int .i64 x, ptr bs] w fun e w' => e = .returned (.int .i64 (clampN x s.size)) ∧ w = w' := by
  obtain ⟨x0, x1, x2, x3⟩ := hS.four
  go_enter Try.func149, Try.ntmps149
  go_wp2
  all_goals
    go_ret
    exact ⟨ret_i64 (by unfold clampN; omega), rfl⟩

set_option maxHeartbeats 1000000 in
theorem ends_any (i m k n q : Int) (s : ByteArray) (w : World) (hs : s.size ≤ 100000) (h1 : -2000000000 ≤ i) (h2 : i ≤ 2000000000) (h3 : -4000000000 ≤ m) (h4 : m ≤ 4000000000) :
    Calls Try.prog 121 #[ptV i m, vlV k n q s] w fun e w' => e = .returned (.tuple #[.int .i64 (begN s.data.toList i), .int .i64 (endN s.data.toList i m)]) ∧ Below w.heap.size w w' := by
  have hmf : ∀ (fn : Fn) (first cap : Array Value) (w : World), (Instr.makeFunc fn first cap).run Try.prog w = .ok (.func fn first cap) w := fun _ _ _ _ => rfl
  have R := Row.new2 w (.cells (ptC i m) 59) (vlC k n q s) 23
  have hb : begN s.data.toList i = clampN (i - 1) s.size := by unfold begN; rw [lsz]
  have he : (endN s.data.toList i m : Int) = max (clampN (i - 1) s.size : Int) (clampN (i - 1 + m) s.size) := by unfold endN; rw [hb, lsz]; omega
  have HB := Lib.hid hb
  have HE := Lib.hid he
  clear hb he
  have b1 : clampN (i - 1) s.size ≤ 100000 := by unfold clampN; omega
  have b2 : clampN (i - 1 + m) s.size ≤ 100000 := by unfold clampN; omega
  go_enter Try.func121, Try.ntmps121
  go_wp2_with (go_at_call 149; refine (ends1 _ _ _ _ _ _ _ R hs).mono ?_; rintro e w2 ⟨rfl, rfl⟩)
  all_goals
    go_ret2
    exact ⟨ret_two (by rw [HB.out]) (by rw [HE.out]; omega), by go_grown⟩

set_option maxHeartbeats 1000000 in
theorem cond_any (i m k n q : Int) (s : ByteArray) (w : World) (hs : s.size ≤ 100000) (h1 : -2000000000 ≤ i) (h2 : i ≤ 2000000000) (h3 : -4000000000 ≤ m) (h4 : m ≤ 4000000000) :
    Calls Try.prog 122 #[ptV i m, vlV k n q s] w fun e w' => e = .returned (.int .i64 (partC s.data.toList i m)) ∧ Below w.heap.size w w' := by
  by_cases g1 : 1 ≤ i
  · have d1 : decide (1 ≤ i) = true := decide_eq_true g1
    by_cases g2 : 0 ≤ m
    · have d2 : decide (0 ≤ m) = true := decide_eq_true g2
      by_cases g3 : i + m - 1 ≤ s.size
      · have d3 : decide (i + m - 1 ≤ (s.size : Int)) = true := decide_eq_true g3
        have HR : Hid (partC s.data.toList i m = 0) := Lib.hid (partC_of (by rw [lsz]; exact ⟨g1, g2, g3⟩))
        go_enter Try.func122, Try.ntmps122
        go_wp2
        go_ret
        exact ⟨by rw [HR.out]; rfl, by go_grown⟩
      · have d3 : decide (i + m - 1 ≤ (s.size : Int)) = false := decide_eq_false g3
        have HR : Hid (partC s.data.toList i m = 5) := Lib.hid (if_neg (by rw [lsz]; omega))
        have g3' : (s.size : Int) < i + m - 1 := by omega
        clear g3
        go_enter Try.func122, Try.ntmps122
        go_wp2
        go_ret
        exact ⟨by rw [HR.out]; rfl, by go_grown⟩
    · have d2 : decide (0 ≤ m) = false := decide_eq_false g2
      have HR : Hid (partC s.data.toList i m = 5) := Lib.hid (if_neg (by omega))
      have g2' : m < 0 := by omega
      clear g2
      go_enter Try.func122, Try.ntmps122
      go_wp2
      go_ret
      exact ⟨by rw [HR.out]; rfl, by go_grown⟩
  · have d1 : decide (1 ≤ i) = false := decide_eq_false g1
    have HR : Hid (partC s.data.toList i m = 5) := Lib.hid (if_neg (by omega))
    have g1' : i < 1 := by omega
    clear g1
    go_enter Try.func122, Try.ntmps122
    go_wp2
    go_ret
    exact ⟨by rw [HR.out]; rfl, by go_grown⟩

theorem sub_ext (s : ByteArray) (i m : Int) : s.extract (begN s.data.toList i) (endN s.data.toList i m) = bsz (subL s.data.toList i m) := by
  have e : (s.extract (begN s.data.toList i) (endN s.data.toList i m)).data.toList = subL s.data.toList i m := by
    rw [Lib.extract_data, subL, List.drop_take]
  rw [← e]

set_option maxRecDepth 100000 in
set_option maxHeartbeats 2000000 in
theorem of_any (i m k n q : Int) (s : ByteArray) (w : World) (hs : s.size ≤ 100000) (h1 : -2000000000 ≤ i) (h2 : i ≤ 2000000000) (h3 : -4000000000 ≤ m) (h4 : m ≤ 4000000000) :
    Calls Try.prog 59 #[ptV i m, vlV k n q s] w fun e w' => e = .returned (tkV k 0 0 (bsz (subL s.data.toList i m)) (partC s.data.toList i m)) ∧ Below w.heap.size w w' := by
  have RP := ((Row.new w (ptC i m) 59).alloc (.cells (vlC k n q s) 23)).alloc (.cells (tkC 0 0 0 ⟨#[]⟩ 0) 53)
  have RS := (Row.new2 w (.cells (ptC i m) 59) (vlC k n q s) 23).alloc (.cells (tkC 0 0 0 ⟨#[]⟩ 0) 53)
  have RZ := Row.new3 w (.cells (ptC i m) 59) (.cells (vlC k n q s) 23) (tkC 0 0 0 ⟨#[]⟩ 0) 53
  have HX := Lib.hid (sub_ext s i m)
  have b1 : (begN s.data.toList i : Int) ≤ endN s.data.toList i m := by have := beg_endN s.data.toList i m; omega
  have b2 : (endN s.data.toList i m : Int) ≤ s.size := by have := endN_le s.data.toList i m; rw [lsz] at this; omega
  go_enter Try.func59, Try.ntmps59
  go_wp2_with (go_at_call 121; refine (ends_any i m _ _ _ _ _ hs h1 h2 h3 h4).mono ?_; rintro e w2 ⟨rfl, hb2⟩; have P2 := RP.keep hb2; have S2 := RS.keep hb2; have Z2 := RZ.keep hb2; obtain ⟨p0, p1⟩ := P2.two; obtain ⟨x0, x1, x2, x3⟩ := S2.four; have B2 := Lib.hid (bl_box3 (Below.refl _ w) hb2))
  have n1 : ¬ w.heap.size + 1 + 1 = w.heap.size := by omega
  have n2 : ¬ w.heap.size = w.heap.size + 1 + 1 := by omega
  go_region_held3 (fun w' => (w'.cell? ⟨w.heap.size, 0, none⟩ = some (.int .i64 i) ∧ w'.cell? ⟨w.heap.size, 1, none⟩ = some (.int .i64 m)) ∧ (w'.cell? ⟨w.heap.size + 1, 0, none⟩ = some (.int .i64 k) ∧ w'.cell? ⟨w.heap.size + 1, 1, none⟩ = some (.int .i64 n) ∧ w'.cell? ⟨w.heap.size + 1, 2, none⟩ = some (.int .i64 q) ∧ w'.cell? ⟨w.heap.size + 1, 3, none⟩ = some (.string s)))
    (first | go_keep | exact ⟨P3.two, S3.four⟩)
    (first
      | (go_at_call 122; refine (cond_any i m _ _ _ _ _ hs h1 h2 h3 h4).mono ?_; rintro e w3 ⟨rfl, hb3⟩; have P3 := P2.keep (bl_drew hb3); have S3 := S2.keep (bl_drew hb3); have Z3 := Z2.keep (bl_drew hb3); obtain ⟨z0, z1, z2, z3, z4⟩ := Z3.five; have f0 := Z3.free 0; have f1 := Z3.free 1; have f2 := Z3.free 2; have f3 := Z3.free 3; have f4 := Z3.free 4; have B3 := Lib.hid (bl_then B2.out (bl_drew hb3))))
  go_wp2
  rw [HX.out]
  refine bodyPost_ret (v := tkV k 0 0 (bsz (subL s.data.toList i m)) (partC s.data.toList i m)) (by simp [results, Try.results59, go_sem, z0, z1, z2, z3, z4]) rfl ⟨rfl, ?_⟩
  (repeat refine Below.setCell ?_ (by simp <;> omega) _)
  exact B3.out

end Go.Proofs.Ytgoghblfficfpaa
