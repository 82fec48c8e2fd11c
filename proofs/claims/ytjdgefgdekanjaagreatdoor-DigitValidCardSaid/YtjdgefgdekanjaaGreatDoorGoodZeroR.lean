/- ironbarkref01.Zero, of any type, exactly. -/
import Derived.Test.YtjdgefgdekanjaaGreatDoorGoodZero
namespace Go.Proofs.YtjdgefgdekanjaaGreatDoor
open Go.RowKit

theorem bsaddz (x y z : List UInt8) (h : x ++ y = z) (hx : x.length ≤ 8388608) (hy : y.length ≤ 8388608) (w : World) : (Op.stringOp .add (bsz x) (bsz y)).run Tryz.prog w = .ok (.string (bsz z)) w := by
  rw [← h]; exact run_string_add_lists w x y (by omega) (by omega)
theorem zrs_add (b : UInt8) (i : Nat) (hi : i ≤ 1000) (w : World) : (Op.stringOp .add (zrs b i) ⟨#[b]⟩).run Tryz.prog w = .ok (.string (zrs b (i + 1))) w := by
  have h := bsaddz (List.replicate i b) [b] (List.replicate (i + 1) b) (by rw [List.replicate_succ']) (by simp; omega) (by simp) w
  exact h

set_option maxRecDepth 100000 in
set_option maxHeartbeats 2000000 in
theorem zRef_13 (k : Int) (p q n : Int) (vy : Bool) (pic : ByteArray) (w : World) (hp : pic.size ≤ maxLen) (hv : validS k p q n vy pic = false) :
    Calls Tryz.prog 7 #[tyV k p q n vy pic] w fun e w' => e = .returned (.tuple #[vaV 0 0 0 ⟨#[]⟩, .int .i64 13]) ∧ Below w.heap.size w w' := by
  have HV : Hid (∀ W, Calls Tryz.prog 9 #[tyV k p q n vy pic] W fun e w' => e = .returned (.bool false) ∧ Below W.heap.size W w') := Lib.hid fun W => gvalidB false _ _ _ _ _ _ W hp hv
  have RT := (Row.new w #[.int .i64 k, .int .i64 p, .int .i64 q, .int .i64 n, .bool vy, .string pic] 25).alloc (.cells (vaC 0 0 0 ⟨#[]⟩) 23)
  have RV := Row.new2 w (.cells #[.int .i64 k, .int .i64 p, .int .i64 q, .int .i64 n, .bool vy, .string pic] 25) (vaC 0 0 0 ⟨#[]⟩) 23
  have n1 : ¬ w.heap.size = w.heap.size + 1 := by omega
  have n2 : ¬ w.heap.size + 1 = w.heap.size := by omega
  clear hp hv
  go_enter Tryz.func7, Tryz.ntmps7
  go_wp2_with (go_at_call 9; refine (HV.out _).mono ?_; rintro e w1 ⟨rfl, hb1⟩; have B1 := Lib.hid (bl_box2 (Below.refl _ w) hb1); have T1 := RT.keep hb1; have Z1 := RV.keep hb1; have lz := Z1.lt; have lt := T1.lt; have hz0 : w.heap.size ≤ w1.heap.size := (by omega); obtain ⟨t0, t1, t2, t3, t4, t5⟩ := T1.six; obtain ⟨z0, z1, z2, z3⟩ := Z1.four; have f0 := Z1.free 0; have f1 := Z1.free 1; have f2 := Z1.free 2; have f3 := Z1.free 3)
  refine bodyPost_ret (v := .tuple #[vaV 0 0 0 ⟨#[]⟩, .int .i64 13]) (by simp [results, Tryz.results7, go_sem, z0, z1, z2, z3]) rfl ⟨rfl, ?_⟩
  (repeat refine Below.setCell ?_ (by simp <;> omega) _)
  exact B1.out

set_option maxRecDepth 100000 in
set_option maxHeartbeats 2000000 in
theorem zRef_1 (p q n : Int) (vy : Bool) (pic : ByteArray) (w : World) (hp : pic.size ≤ maxLen) (hv : validS 1 p q n vy pic = true) :
    Calls Tryz.prog 7 #[tyV 1 p q n vy pic] w fun e w' => e = .returned (.tuple #[vaV 1 0 q ⟨#[]⟩, .int .i64 0]) ∧ Below w.heap.size w w' := by
  have HV : Hid (∀ W, Calls Tryz.prog 9 #[tyV 1 p q n vy pic] W fun e w' => e = .returned (.bool true) ∧ Below W.heap.size W w') := Lib.hid fun W => gvalidB true _ _ _ _ _ _ W hp hv
  have RT := (Row.new w #[.int .i64 1, .int .i64 p, .int .i64 q, .int .i64 n, .bool vy, .string pic] 25).alloc (.cells (vaC 0 0 0 ⟨#[]⟩) 23)
  have RV := Row.new2 w (.cells #[.int .i64 1, .int .i64 p, .int .i64 q, .int .i64 n, .bool vy, .string pic] 25) (vaC 0 0 0 ⟨#[]⟩) 23
  have n1 : ¬ w.heap.size = w.heap.size + 1 := by omega
  have n2 : ¬ w.heap.size + 1 = w.heap.size := by omega
  clear hp hv
  go_enter Tryz.func7, Tryz.ntmps7
  go_wp2_with (go_at_call 9; refine (HV.out _).mono ?_; rintro e w1 ⟨rfl, hb1⟩; have B1 := Lib.hid (bl_box2 (Below.refl _ w) hb1); have T1 := RT.keep hb1; have Z1 := RV.keep hb1; have lz := Z1.lt; have lt := T1.lt; have hz0 : w.heap.size ≤ w1.heap.size := (by omega); obtain ⟨t0, t1, t2, t3, t4, t5⟩ := T1.six; obtain ⟨z0, z1, z2, z3⟩ := Z1.four; have f0 := Z1.free 0; have f1 := Z1.free 1; have f2 := Z1.free 2; have f3 := Z1.free 3)
  have RP := (Z1.putz4 (.int .i64 1) (.int .i64 0) (.int .i64 q) (.string ⟨#[]⟩)).alloc (.cells (vaC 1 0 q ⟨#[]⟩) 23)
  have HBB : Hid (Below w.heap.size w (((((w1.setCell ⟨w.heap.size + 1, 0, none⟩ (.int .i64 1)).setCell ⟨w.heap.size + 1, 1, none⟩ (.int .i64 0)).setCell ⟨w.heap.size + 1, 2, none⟩ (.int .i64 q)).setCell ⟨w.heap.size + 1, 3, none⟩ (.string ⟨#[]⟩)).alloc (.cells (vaC 1 0 q ⟨#[]⟩) 23))) := Lib.hid (((((B1.out.setCell (by simp) _).setCell (by simp) _).setCell (by simp) _).setCell (by simp) _).alloc (by simp; omega) _)
  clear z0 z1 z2 z3 f0 f1 f2 f3 t0 t1 t2 t3 t4 t5 Z1 T1 B1
  generalize (((((w1.setCell ⟨w.heap.size + 1, 0, none⟩ (.int .i64 1)).setCell ⟨w.heap.size + 1, 1, none⟩ (.int .i64 0)).setCell ⟨w.heap.size + 1, 2, none⟩ (.int .i64 q)).setCell ⟨w.heap.size + 1, 3, none⟩ (.string ⟨#[]⟩)).alloc (.cells (vaC 1 0 q ⟨#[]⟩) 23)) = W7 at *
  obtain ⟨y0, y1, y2, y3⟩ := RP.four
  refine bodyPost_ret (v := .tuple #[vaV 1 0 q ⟨#[]⟩, .int .i64 0]) (by simp [results, Tryz.results7, go_sem, y0, y1, y2, y3]) rfl ⟨rfl, HBB.out⟩

set_option maxRecDepth 100000 in
set_option maxHeartbeats 2000000 in
theorem zRef_2 (p q n : Int) (vy : Bool) (pic : ByteArray) (w : World) (hp : pic.size ≤ maxLen) (hv : validS 2 p q n vy pic = true) :
    Calls Tryz.prog 7 #[tyV 2 p q n vy pic] w fun e w' => e = .returned (.tuple #[vaV 2 0 q ⟨#[]⟩, .int .i64 0]) ∧ Below w.heap.size w w' := by
  have HV : Hid (∀ W, Calls Tryz.prog 9 #[tyV 2 p q n vy pic] W fun e w' => e = .returned (.bool true) ∧ Below W.heap.size W w') := Lib.hid fun W => gvalidB true _ _ _ _ _ _ W hp hv
  have RT := (Row.new w #[.int .i64 2, .int .i64 p, .int .i64 q, .int .i64 n, .bool vy, .string pic] 25).alloc (.cells (vaC 0 0 0 ⟨#[]⟩) 23)
  have RV := Row.new2 w (.cells #[.int .i64 2, .int .i64 p, .int .i64 q, .int .i64 n, .bool vy, .string pic] 25) (vaC 0 0 0 ⟨#[]⟩) 23
  have n1 : ¬ w.heap.size = w.heap.size + 1 := by omega
  have n2 : ¬ w.heap.size + 1 = w.heap.size := by omega
  clear hp hv
  go_enter Tryz.func7, Tryz.ntmps7
  go_wp2_with (go_at_call 9; refine (HV.out _).mono ?_; rintro e w1 ⟨rfl, hb1⟩; have B1 := Lib.hid (bl_box2 (Below.refl _ w) hb1); have T1 := RT.keep hb1; have Z1 := RV.keep hb1; have lz := Z1.lt; have lt := T1.lt; have hz0 : w.heap.size ≤ w1.heap.size := (by omega); obtain ⟨t0, t1, t2, t3, t4, t5⟩ := T1.six; obtain ⟨z0, z1, z2, z3⟩ := Z1.four; have f0 := Z1.free 0; have f1 := Z1.free 1; have f2 := Z1.free 2; have f3 := Z1.free 3)
  have RP := (Z1.putz4 (.int .i64 2) (.int .i64 0) (.int .i64 q) (.string ⟨#[]⟩)).alloc (.cells (vaC 2 0 q ⟨#[]⟩) 23)
  have HBB : Hid (Below w.heap.size w (((((w1.setCell ⟨w.heap.size + 1, 0, none⟩ (.int .i64 2)).setCell ⟨w.heap.size + 1, 1, none⟩ (.int .i64 0)).setCell ⟨w.heap.size + 1, 2, none⟩ (.int .i64 q)).setCell ⟨w.heap.size + 1, 3, none⟩ (.string ⟨#[]⟩)).alloc (.cells (vaC 2 0 q ⟨#[]⟩) 23))) := Lib.hid (((((B1.out.setCell (by simp) _).setCell (by simp) _).setCell (by simp) _).setCell (by simp) _).alloc (by simp; omega) _)
  clear z0 z1 z2 z3 f0 f1 f2 f3 t0 t1 t2 t3 t4 t5 Z1 T1 B1
  generalize (((((w1.setCell ⟨w.heap.size + 1, 0, none⟩ (.int .i64 2)).setCell ⟨w.heap.size + 1, 1, none⟩ (.int .i64 0)).setCell ⟨w.heap.size + 1, 2, none⟩ (.int .i64 q)).setCell ⟨w.heap.size + 1, 3, none⟩ (.string ⟨#[]⟩)).alloc (.cells (vaC 2 0 q ⟨#[]⟩) 23)) = W7 at *
  obtain ⟨y0, y1, y2, y3⟩ := RP.four
  refine bodyPost_ret (v := .tuple #[vaV 2 0 q ⟨#[]⟩, .int .i64 0]) (by simp [results, Tryz.results7, go_sem, y0, y1, y2, y3]) rfl ⟨rfl, HBB.out⟩

set_option maxRecDepth 100000 in
set_option maxHeartbeats 2000000 in
theorem zRef_3 (p q n : Int) (vy : Bool) (pic : ByteArray) (w : World) (hp : pic.size ≤ maxLen) (hv : validS 3 p q n vy pic = true) :
    Calls Tryz.prog 7 #[tyV 3 p q n vy pic] w fun e w' => e = .returned (.tuple #[vaV 3 0 0 ⟨#[]⟩, .int .i64 0]) ∧ Below w.heap.size w w' := by
  have HV : Hid (∀ W, Calls Tryz.prog 9 #[tyV 3 p q n vy pic] W fun e w' => e = .returned (.bool true) ∧ Below W.heap.size W w') := Lib.hid fun W => gvalidB true _ _ _ _ _ _ W hp hv
  have RT := (Row.new w #[.int .i64 3, .int .i64 p, .int .i64 q, .int .i64 n, .bool vy, .string pic] 25).alloc (.cells (vaC 0 0 0 ⟨#[]⟩) 23)
  have RV := Row.new2 w (.cells #[.int .i64 3, .int .i64 p, .int .i64 q, .int .i64 n, .bool vy, .string pic] 25) (vaC 0 0 0 ⟨#[]⟩) 23
  have n1 : ¬ w.heap.size = w.heap.size + 1 := by omega
  have n2 : ¬ w.heap.size + 1 = w.heap.size := by omega
  clear hp hv
  go_enter Tryz.func7, Tryz.ntmps7
  go_wp2_with (go_at_call 9; refine (HV.out _).mono ?_; rintro e w1 ⟨rfl, hb1⟩; have B1 := Lib.hid (bl_box2 (Below.refl _ w) hb1); have T1 := RT.keep hb1; have Z1 := RV.keep hb1; have lz := Z1.lt; have lt := T1.lt; have hz0 : w.heap.size ≤ w1.heap.size := (by omega); obtain ⟨t0, t1, t2, t3, t4, t5⟩ := T1.six; obtain ⟨z0, z1, z2, z3⟩ := Z1.four; have f0 := Z1.free 0; have f1 := Z1.free 1; have f2 := Z1.free 2; have f3 := Z1.free 3)
  have RP := (Z1.putz4 (.int .i64 3) (.int .i64 0) (.int .i64 0) (.string ⟨#[]⟩)).alloc (.cells (vaC 3 0 0 ⟨#[]⟩) 23)
  have HBB : Hid (Below w.heap.size w (((((w1.setCell ⟨w.heap.size + 1, 0, none⟩ (.int .i64 3)).setCell ⟨w.heap.size + 1, 1, none⟩ (.int .i64 0)).setCell ⟨w.heap.size + 1, 2, none⟩ (.int .i64 0)).setCell ⟨w.heap.size + 1, 3, none⟩ (.string ⟨#[]⟩)).alloc (.cells (vaC 3 0 0 ⟨#[]⟩) 23))) := Lib.hid (((((B1.out.setCell (by simp) _).setCell (by simp) _).setCell (by simp) _).setCell (by simp) _).alloc (by simp; omega) _)
  clear z0 z1 z2 z3 f0 f1 f2 f3 t0 t1 t2 t3 t4 t5 Z1 T1 B1
  generalize (((((w1.setCell ⟨w.heap.size + 1, 0, none⟩ (.int .i64 3)).setCell ⟨w.heap.size + 1, 1, none⟩ (.int .i64 0)).setCell ⟨w.heap.size + 1, 2, none⟩ (.int .i64 0)).setCell ⟨w.heap.size + 1, 3, none⟩ (.string ⟨#[]⟩)).alloc (.cells (vaC 3 0 0 ⟨#[]⟩) 23)) = W7 at *
  obtain ⟨y0, y1, y2, y3⟩ := RP.four
  refine bodyPost_ret (v := .tuple #[vaV 3 0 0 ⟨#[]⟩, .int .i64 0]) (by simp [results, Tryz.results7, go_sem, y0, y1, y2, y3]) rfl ⟨rfl, HBB.out⟩

set_option maxRecDepth 100000 in
set_option maxHeartbeats 4000000 in
theorem zRef_4f (p q : Int) (m : Nat) (pic : ByteArray) (w : World) (hp : pic.size ≤ maxLen) (hm : m ≤ 250) (hv : validS 4 p q (m : Int) false pic = true) :
    Calls Tryz.prog 7 #[tyV 4 p q (m : Int) false pic] w fun e w' => e = .returned (.tuple #[vaV 4 0 0 (zrs 32 m), .int .i64 0]) ∧ Below w.heap.size w w' := by
  have HV : Hid (∀ W, Calls Tryz.prog 9 #[tyV 4 p q (m : Int) false pic] W fun e w' => e = .returned (.bool true) ∧ Below W.heap.size W w') := Lib.hid fun W => gvalidB true _ _ _ _ _ _ W hp hv
  have RT := (Row.new w #[.int .i64 4, .int .i64 p, .int .i64 q, .int .i64 (m : Int), .bool false, .string pic] 25).alloc (.cells (vaC 0 0 0 ⟨#[]⟩) 23)
  have RV := Row.new2 w (.cells #[.int .i64 4, .int .i64 p, .int .i64 q, .int .i64 (m : Int), .bool false, .string pic] 25) (vaC 0 0 0 ⟨#[]⟩) 23
  have n1 : ¬ w.heap.size = w.heap.size + 1 := by omega
  have n2 : ¬ w.heap.size + 1 = w.heap.size := by omega
  clear hp hv
  go_enter Tryz.func7, Tryz.ntmps7
  go_wp2_with (go_at_call 9; refine (HV.out _).mono ?_; rintro e w1 ⟨rfl, hb1⟩; have B1 := Lib.hid (bl_box2 (Below.refl _ w) hb1); have T1 := RT.keep hb1; have Z1 := RV.keep hb1; have lz := Z1.lt; have lt := T1.lt; have hz0 : w.heap.size ≤ w1.heap.size := (by omega); obtain ⟨t0, t1, t2, t3, t4, t5⟩ := T1.six; obtain ⟨z0, z1, z2, z3⟩ := Z1.four; have f0 := Z1.free 0; have f1 := Z1.free 1; have f2 := Z1.free 2; have f3 := Z1.free 3)
  have X1 := Row.new w1 (vaC 4 0 0 ⟨#[]⟩) 23
  have lw := Lib.hid hb1
  clear z0 z1 z2 z3 f0 f1 f2 f3 t0 t1 t2 t3 t4 t5
  have T2 := T1.alloc (.cells (vaC 4 0 0 ⟨#[]⟩) 23)
  have Z2 := Z1.alloc (.cells (vaC 4 0 0 ⟨#[]⟩) 23)
  have B2 : Hid (Below w.heap.size w (w1.alloc (.cells (vaC 4 0 0 ⟨#[]⟩) 23))) := Lib.hid (B1.out.alloc (by omega) _)
  have n3 : ¬ w1.heap.size = w.heap.size := by omega
  have n4 : ¬ w1.heap.size = w.heap.size + 1 := by omega
  have n5 : ¬ w.heap.size = w1.heap.size := by omega
  have n6 : ¬ w.heap.size + 1 = w1.heap.size := by omega
  clear T1 Z1 B1 hb1 RT RV
  generalize w1.alloc (.cells (vaC 4 0 0 ⟨#[]⟩) 23) = W2 at *
  have hz1 : w.heap.size ≤ w1.heap.size := hz0
  generalize w1.heap.size = bx at *
  go_loopw [5] (fun i wr => ∃ j : Nat, j ≤ m ∧ i = .int .i64 (j : Int) ∧ Row wr bx (vaC 4 0 0 (zrs 32 j)) 23 ∧ Row wr w.heap.size #[.int .i64 4, .int .i64 p, .int .i64 q, .int .i64 (m : Int), .bool false, .string pic] 25 ∧ Row wr (w.heap.size + 1) (vaC 0 0 0 ⟨#[]⟩) 23 ∧ Hid (Below w.heap.size w wr)) (fun i _ => m - (intOf i).toNat)
  case atStart => exact ⟨0, Nat.zero_le _, rfl, X1, T2, Z2, B2⟩
  case round =>
    obtain ⟨j, hj, rfl, X, T, Z, HB⟩ := hrel
    obtain ⟨x0, x1, x2, x3⟩ := X.four
    obtain ⟨t0, t1, t2, t3, t4, t5⟩ := T.six
    obtain ⟨z0, z1, z2, z3⟩ := Z.four
    have f0 := Z.free 0
    have f1 := Z.free 1
    have f2 := Z.free 2
    have f3 := Z.free 3
    have g3 := X.free 3
    by_cases hlt : j < m
    · have s1 : ∀ W, (Op.stringOp .add (zrs 32 j) ⟨#[32]⟩).run Tryz.prog W = .ok (.string (zrs 32 (j + 1))) W := fun W => zrs_add 32 j (by omega) W
      have X' : Row (wr.setCell ⟨bx, 3, none⟩ (.string (zrs 32 (j + 1)))) bx (vaC 4 0 0 (zrs 32 (j + 1))) 23 := X.putv 3 _
      have T' := T.set (a := ⟨bx, 3, none⟩) (v := .string (zrs 32 (j + 1))) n3
      have Z' := Z.set (a := ⟨bx, 3, none⟩) (v := .string (zrs 32 (j + 1))) n4
      have HB' := Lib.hid (HB.out.setCell (p := ⟨bx, 3, none⟩) (by simp; omega) (.string (zrs 32 (j + 1))))
      go_wp2
      go_roundw
      case rel => exact ⟨j + 1, by omega, by go_num, X', T', Z', HB'⟩
      case measure => simp [intOf]; omega
    · obtain rfl : j = m := by omega
      have RP := Z.putz4 (.int .i64 4) (.int .i64 0) (.int .i64 0) (.string (zrs 32 j))
      have HBB := Lib.hid ((((HB.out.setCell (p := ⟨w.heap.size + 1, 0, none⟩) (by simp) (.int .i64 4)).setCell (p := ⟨w.heap.size + 1, 1, none⟩) (by simp) (.int .i64 0)).setCell (p := ⟨w.heap.size + 1, 2, none⟩) (by simp) (.int .i64 0)).setCell (p := ⟨w.heap.size + 1, 3, none⟩) (by simp) (.string (zrs 32 j)))
      go_wp2
      clear z0 z1 z2 z3 f0 f1 f2 f3 t0 t1 t2 t3 t4 t5 x0 x1 x2 x3 g3 X T Z HB
      obtain ⟨y0, y1, y2, y3⟩ := RP.four
      refine bodyPost_ret (v := .tuple #[vaV 4 0 0 (zrs 32 j), .int .i64 0]) (by simp [results, Tryz.results7, go_sem, y0, y1, y2, y3]) rfl ⟨rfl, HBB.out⟩

set_option maxRecDepth 100000 in
set_option maxHeartbeats 4000000 in
theorem zRef_4t (p q : Int) (m : Nat) (pic : ByteArray) (w : World) (hp : pic.size ≤ maxLen) (_hm : m ≤ 250) (hv : validS 4 p q (m : Int) true pic = true) :
    Calls Tryz.prog 7 #[tyV 4 p q (m : Int) true pic] w fun e w' => e = .returned (.tuple #[vaV 4 0 0 (⟨#[]⟩), .int .i64 0]) ∧ Below w.heap.size w w' := by
  have HV : Hid (∀ W, Calls Tryz.prog 9 #[tyV 4 p q (m : Int) true pic] W fun e w' => e = .returned (.bool true) ∧ Below W.heap.size W w') := Lib.hid fun W => gvalidB true _ _ _ _ _ _ W hp hv
  have RT := (Row.new w #[.int .i64 4, .int .i64 p, .int .i64 q, .int .i64 (m : Int), .bool true, .string pic] 25).alloc (.cells (vaC 0 0 0 ⟨#[]⟩) 23)
  have RV := Row.new2 w (.cells #[.int .i64 4, .int .i64 p, .int .i64 q, .int .i64 (m : Int), .bool true, .string pic] 25) (vaC 0 0 0 ⟨#[]⟩) 23
  have n1 : ¬ w.heap.size = w.heap.size + 1 := by omega
  have n2 : ¬ w.heap.size + 1 = w.heap.size := by omega
  clear hp hv
  go_enter Tryz.func7, Tryz.ntmps7
  go_wp2_with (go_at_call 9; refine (HV.out _).mono ?_; rintro e w1 ⟨rfl, hb1⟩; have B1 := Lib.hid (bl_box2 (Below.refl _ w) hb1); have T1 := RT.keep hb1; have Z1 := RV.keep hb1; have lz := Z1.lt; have lt := T1.lt; have hz0 : w.heap.size ≤ w1.heap.size := (by omega); obtain ⟨t0, t1, t2, t3, t4, t5⟩ := T1.six; obtain ⟨z0, z1, z2, z3⟩ := Z1.four; have f0 := Z1.free 0; have f1 := Z1.free 1; have f2 := Z1.free 2; have f3 := Z1.free 3)
  have X1 := Row.new w1 (vaC 4 0 0 ⟨#[]⟩) 23
  have lw := Lib.hid hb1
  clear z0 z1 z2 z3 f0 f1 f2 f3 t0 t1 t2 t3 t4 t5
  have T2 := T1.alloc (.cells (vaC 4 0 0 ⟨#[]⟩) 23)
  have Z2 := Z1.alloc (.cells (vaC 4 0 0 ⟨#[]⟩) 23)
  have B2 : Hid (Below w.heap.size w (w1.alloc (.cells (vaC 4 0 0 ⟨#[]⟩) 23))) := Lib.hid (B1.out.alloc (by omega) _)
  have n3 : ¬ w1.heap.size = w.heap.size := by omega
  have n4 : ¬ w1.heap.size = w.heap.size + 1 := by omega
  have n5 : ¬ w.heap.size = w1.heap.size := by omega
  have n6 : ¬ w.heap.size + 1 = w1.heap.size := by omega
  clear T1 Z1 B1 hb1 RT RV
  generalize w1.alloc (.cells (vaC 4 0 0 ⟨#[]⟩) 23) = W2 at *
  have hz1 : w.heap.size ≤ w1.heap.size := hz0
  generalize w1.heap.size = bx at *
  go_loopw [5] (fun i wr => ∃ j : Nat, j ≤ m ∧ i = .int .i64 (j : Int) ∧ Row wr bx (vaC 4 0 0 (⟨#[]⟩)) 23 ∧ Row wr w.heap.size #[.int .i64 4, .int .i64 p, .int .i64 q, .int .i64 (m : Int), .bool true, .string pic] 25 ∧ Row wr (w.heap.size + 1) (vaC 0 0 0 ⟨#[]⟩) 23 ∧ Hid (Below w.heap.size w wr)) (fun i _ => m - (intOf i).toNat)
  case atStart => exact ⟨0, Nat.zero_le _, rfl, X1, T2, Z2, B2⟩
  case round =>
    obtain ⟨j, hj, rfl, X, T, Z, HB⟩ := hrel
    obtain ⟨x0, x1, x2, x3⟩ := X.four
    obtain ⟨t0, t1, t2, t3, t4, t5⟩ := T.six
    obtain ⟨z0, z1, z2, z3⟩ := Z.four
    have f0 := Z.free 0
    have f1 := Z.free 1
    have f2 := Z.free 2
    have f3 := Z.free 3
    have g3 := X.free 3
    by_cases hlt : j < m
    · have RP := Z.putz4 (.int .i64 4) (.int .i64 0) (.int .i64 0) (.string (⟨#[]⟩))
      have HBB := Lib.hid ((((HB.out.setCell (p := ⟨w.heap.size + 1, 0, none⟩) (by simp) (.int .i64 4)).setCell (p := ⟨w.heap.size + 1, 1, none⟩) (by simp) (.int .i64 0)).setCell (p := ⟨w.heap.size + 1, 2, none⟩) (by simp) (.int .i64 0)).setCell (p := ⟨w.heap.size + 1, 3, none⟩) (by simp) (.string (⟨#[]⟩)))
      go_wp2
      clear z0 z1 z2 z3 f0 f1 f2 f3 t0 t1 t2 t3 t4 t5 x0 x1 x2 x3 g3 X T Z HB
      obtain ⟨y0, y1, y2, y3⟩ := RP.four
      refine bodyPost_ret (v := .tuple #[vaV 4 0 0 (⟨#[]⟩), .int .i64 0]) (by simp [results, Tryz.results7, go_sem, y0, y1, y2, y3]) rfl ⟨rfl, HBB.out⟩
    · have RP := Z.putz4 (.int .i64 4) (.int .i64 0) (.int .i64 0) (.string (⟨#[]⟩))
      have HBB := Lib.hid ((((HB.out.setCell (p := ⟨w.heap.size + 1, 0, none⟩) (by simp) (.int .i64 4)).setCell (p := ⟨w.heap.size + 1, 1, none⟩) (by simp) (.int .i64 0)).setCell (p := ⟨w.heap.size + 1, 2, none⟩) (by simp) (.int .i64 0)).setCell (p := ⟨w.heap.size + 1, 3, none⟩) (by simp) (.string (⟨#[]⟩)))
      go_wp2
      clear z0 z1 z2 z3 f0 f1 f2 f3 t0 t1 t2 t3 t4 t5 x0 x1 x2 x3 g3 X T Z HB
      obtain ⟨y0, y1, y2, y3⟩ := RP.four
      refine bodyPost_ret (v := .tuple #[vaV 4 0 0 (⟨#[]⟩), .int .i64 0]) (by simp [results, Tryz.results7, go_sem, y0, y1, y2, y3]) rfl ⟨rfl, HBB.out⟩

set_option maxRecDepth 100000 in
set_option maxHeartbeats 4000000 in
theorem zRef_5f (p q : Int) (m : Nat) (pic : ByteArray) (w : World) (hp : pic.size ≤ maxLen) (hm : m ≤ 250) (hv : validS 5 p q (m : Int) false pic = true) :
    Calls Tryz.prog 7 #[tyV 5 p q (m : Int) false pic] w fun e w' => e = .returned (.tuple #[vaV 5 0 0 (zrs 48 m), .int .i64 0]) ∧ Below w.heap.size w w' := by
  have HV : Hid (∀ W, Calls Tryz.prog 9 #[tyV 5 p q (m : Int) false pic] W fun e w' => e = .returned (.bool true) ∧ Below W.heap.size W w') := Lib.hid fun W => gvalidB true _ _ _ _ _ _ W hp hv
  have RT := (Row.new w #[.int .i64 5, .int .i64 p, .int .i64 q, .int .i64 (m : Int), .bool false, .string pic] 25).alloc (.cells (vaC 0 0 0 ⟨#[]⟩) 23)
  have RV := Row.new2 w (.cells #[.int .i64 5, .int .i64 p, .int .i64 q, .int .i64 (m : Int), .bool false, .string pic] 25) (vaC 0 0 0 ⟨#[]⟩) 23
  have n1 : ¬ w.heap.size = w.heap.size + 1 := by omega
  have n2 : ¬ w.heap.size + 1 = w.heap.size := by omega
  clear hp hv
  go_enter Tryz.func7, Tryz.ntmps7
  go_wp2_with (go_at_call 9; refine (HV.out _).mono ?_; rintro e w1 ⟨rfl, hb1⟩; have B1 := Lib.hid (bl_box2 (Below.refl _ w) hb1); have T1 := RT.keep hb1; have Z1 := RV.keep hb1; have lz := Z1.lt; have lt := T1.lt; have hz0 : w.heap.size ≤ w1.heap.size := (by omega); obtain ⟨t0, t1, t2, t3, t4, t5⟩ := T1.six; obtain ⟨z0, z1, z2, z3⟩ := Z1.four; have f0 := Z1.free 0; have f1 := Z1.free 1; have f2 := Z1.free 2; have f3 := Z1.free 3)
  have X1 := Row.new w1 (vaC 5 0 0 ⟨#[]⟩) 23
  have lw := Lib.hid hb1
  clear z0 z1 z2 z3 f0 f1 f2 f3 t0 t1 t2 t3 t4 t5
  have T2 := T1.alloc (.cells (vaC 5 0 0 ⟨#[]⟩) 23)
  have Z2 := Z1.alloc (.cells (vaC 5 0 0 ⟨#[]⟩) 23)
  have B2 : Hid (Below w.heap.size w (w1.alloc (.cells (vaC 5 0 0 ⟨#[]⟩) 23))) := Lib.hid (B1.out.alloc (by omega) _)
  have n3 : ¬ w1.heap.size = w.heap.size := by omega
  have n4 : ¬ w1.heap.size = w.heap.size + 1 := by omega
  have n5 : ¬ w.heap.size = w1.heap.size := by omega
  have n6 : ¬ w.heap.size + 1 = w1.heap.size := by omega
  clear T1 Z1 B1 hb1 RT RV
  generalize w1.alloc (.cells (vaC 5 0 0 ⟨#[]⟩) 23) = W2 at *
  have hz1 : w.heap.size ≤ w1.heap.size := hz0
  generalize w1.heap.size = bx at *
  go_loopw [5] (fun i wr => ∃ j : Nat, j ≤ m ∧ i = .int .i64 (j : Int) ∧ Row wr bx (vaC 5 0 0 (zrs 48 j)) 23 ∧ Row wr w.heap.size #[.int .i64 5, .int .i64 p, .int .i64 q, .int .i64 (m : Int), .bool false, .string pic] 25 ∧ Row wr (w.heap.size + 1) (vaC 0 0 0 ⟨#[]⟩) 23 ∧ Hid (Below w.heap.size w wr)) (fun i _ => m - (intOf i).toNat)
  case atStart => exact ⟨0, Nat.zero_le _, rfl, X1, T2, Z2, B2⟩
  case round =>
    obtain ⟨j, hj, rfl, X, T, Z, HB⟩ := hrel
    obtain ⟨x0, x1, x2, x3⟩ := X.four
    obtain ⟨t0, t1, t2, t3, t4, t5⟩ := T.six
    obtain ⟨z0, z1, z2, z3⟩ := Z.four
    have f0 := Z.free 0
    have f1 := Z.free 1
    have f2 := Z.free 2
    have f3 := Z.free 3
    have g3 := X.free 3
    by_cases hlt : j < m
    · have s1 : ∀ W, (Op.stringOp .add (zrs 48 j) ⟨#[48]⟩).run Tryz.prog W = .ok (.string (zrs 48 (j + 1))) W := fun W => zrs_add 48 j (by omega) W
      have X' : Row (wr.setCell ⟨bx, 3, none⟩ (.string (zrs 48 (j + 1)))) bx (vaC 5 0 0 (zrs 48 (j + 1))) 23 := X.putv 3 _
      have T' := T.set (a := ⟨bx, 3, none⟩) (v := .string (zrs 48 (j + 1))) n3
      have Z' := Z.set (a := ⟨bx, 3, none⟩) (v := .string (zrs 48 (j + 1))) n4
      have HB' := Lib.hid (HB.out.setCell (p := ⟨bx, 3, none⟩) (by simp; omega) (.string (zrs 48 (j + 1))))
      go_wp2
      go_roundw
      case rel => exact ⟨j + 1, by omega, by go_num, X', T', Z', HB'⟩
      case measure => simp [intOf]; omega
    · obtain rfl : j = m := by omega
      have RP := Z.putz4 (.int .i64 5) (.int .i64 0) (.int .i64 0) (.string (zrs 48 j))
      have HBB := Lib.hid ((((HB.out.setCell (p := ⟨w.heap.size + 1, 0, none⟩) (by simp) (.int .i64 5)).setCell (p := ⟨w.heap.size + 1, 1, none⟩) (by simp) (.int .i64 0)).setCell (p := ⟨w.heap.size + 1, 2, none⟩) (by simp) (.int .i64 0)).setCell (p := ⟨w.heap.size + 1, 3, none⟩) (by simp) (.string (zrs 48 j)))
      go_wp2
      clear z0 z1 z2 z3 f0 f1 f2 f3 t0 t1 t2 t3 t4 t5 x0 x1 x2 x3 g3 X T Z HB
      obtain ⟨y0, y1, y2, y3⟩ := RP.four
      refine bodyPost_ret (v := .tuple #[vaV 5 0 0 (zrs 48 j), .int .i64 0]) (by simp [results, Tryz.results7, go_sem, y0, y1, y2, y3]) rfl ⟨rfl, HBB.out⟩

set_option maxRecDepth 100000 in
set_option maxHeartbeats 4000000 in
theorem zRef_5t (p q : Int) (m : Nat) (pic : ByteArray) (w : World) (hp : pic.size ≤ maxLen) (_hm : m ≤ 250) (hv : validS 5 p q (m : Int) true pic = true) :
    Calls Tryz.prog 7 #[tyV 5 p q (m : Int) true pic] w fun e w' => e = .returned (.tuple #[vaV 5 0 0 (⟨#[]⟩), .int .i64 0]) ∧ Below w.heap.size w w' := by
  have HV : Hid (∀ W, Calls Tryz.prog 9 #[tyV 5 p q (m : Int) true pic] W fun e w' => e = .returned (.bool true) ∧ Below W.heap.size W w') := Lib.hid fun W => gvalidB true _ _ _ _ _ _ W hp hv
  have RT := (Row.new w #[.int .i64 5, .int .i64 p, .int .i64 q, .int .i64 (m : Int), .bool true, .string pic] 25).alloc (.cells (vaC 0 0 0 ⟨#[]⟩) 23)
  have RV := Row.new2 w (.cells #[.int .i64 5, .int .i64 p, .int .i64 q, .int .i64 (m : Int), .bool true, .string pic] 25) (vaC 0 0 0 ⟨#[]⟩) 23
  have n1 : ¬ w.heap.size = w.heap.size + 1 := by omega
  have n2 : ¬ w.heap.size + 1 = w.heap.size := by omega
  clear hp hv
  go_enter Tryz.func7, Tryz.ntmps7
  go_wp2_with (go_at_call 9; refine (HV.out _).mono ?_; rintro e w1 ⟨rfl, hb1⟩; have B1 := Lib.hid (bl_box2 (Below.refl _ w) hb1); have T1 := RT.keep hb1; have Z1 := RV.keep hb1; have lz := Z1.lt; have lt := T1.lt; have hz0 : w.heap.size ≤ w1.heap.size := (by omega); obtain ⟨t0, t1, t2, t3, t4, t5⟩ := T1.six; obtain ⟨z0, z1, z2, z3⟩ := Z1.four; have f0 := Z1.free 0; have f1 := Z1.free 1; have f2 := Z1.free 2; have f3 := Z1.free 3)
  have X1 := Row.new w1 (vaC 5 0 0 ⟨#[]⟩) 23
  have lw := Lib.hid hb1
  clear z0 z1 z2 z3 f0 f1 f2 f3 t0 t1 t2 t3 t4 t5
  have T2 := T1.alloc (.cells (vaC 5 0 0 ⟨#[]⟩) 23)
  have Z2 := Z1.alloc (.cells (vaC 5 0 0 ⟨#[]⟩) 23)
  have B2 : Hid (Below w.heap.size w (w1.alloc (.cells (vaC 5 0 0 ⟨#[]⟩) 23))) := Lib.hid (B1.out.alloc (by omega) _)
  have n3 : ¬ w1.heap.size = w.heap.size := by omega
  have n4 : ¬ w1.heap.size = w.heap.size + 1 := by omega
  have n5 : ¬ w.heap.size = w1.heap.size := by omega
  have n6 : ¬ w.heap.size + 1 = w1.heap.size := by omega
  clear T1 Z1 B1 hb1 RT RV
  generalize w1.alloc (.cells (vaC 5 0 0 ⟨#[]⟩) 23) = W2 at *
  have hz1 : w.heap.size ≤ w1.heap.size := hz0
  generalize w1.heap.size = bx at *
  go_loopw [5] (fun i wr => ∃ j : Nat, j ≤ m ∧ i = .int .i64 (j : Int) ∧ Row wr bx (vaC 5 0 0 (⟨#[]⟩)) 23 ∧ Row wr w.heap.size #[.int .i64 5, .int .i64 p, .int .i64 q, .int .i64 (m : Int), .bool true, .string pic] 25 ∧ Row wr (w.heap.size + 1) (vaC 0 0 0 ⟨#[]⟩) 23 ∧ Hid (Below w.heap.size w wr)) (fun i _ => m - (intOf i).toNat)
  case atStart => exact ⟨0, Nat.zero_le _, rfl, X1, T2, Z2, B2⟩
  case round =>
    obtain ⟨j, hj, rfl, X, T, Z, HB⟩ := hrel
    obtain ⟨x0, x1, x2, x3⟩ := X.four
    obtain ⟨t0, t1, t2, t3, t4, t5⟩ := T.six
    obtain ⟨z0, z1, z2, z3⟩ := Z.four
    have f0 := Z.free 0
    have f1 := Z.free 1
    have f2 := Z.free 2
    have f3 := Z.free 3
    have g3 := X.free 3
    by_cases hlt : j < m
    · have RP := Z.putz4 (.int .i64 5) (.int .i64 0) (.int .i64 0) (.string (⟨#[]⟩))
      have HBB := Lib.hid ((((HB.out.setCell (p := ⟨w.heap.size + 1, 0, none⟩) (by simp) (.int .i64 5)).setCell (p := ⟨w.heap.size + 1, 1, none⟩) (by simp) (.int .i64 0)).setCell (p := ⟨w.heap.size + 1, 2, none⟩) (by simp) (.int .i64 0)).setCell (p := ⟨w.heap.size + 1, 3, none⟩) (by simp) (.string (⟨#[]⟩)))
      go_wp2
      clear z0 z1 z2 z3 f0 f1 f2 f3 t0 t1 t2 t3 t4 t5 x0 x1 x2 x3 g3 X T Z HB
      obtain ⟨y0, y1, y2, y3⟩ := RP.four
      refine bodyPost_ret (v := .tuple #[vaV 5 0 0 (⟨#[]⟩), .int .i64 0]) (by simp [results, Tryz.results7, go_sem, y0, y1, y2, y3]) rfl ⟨rfl, HBB.out⟩
    · have RP := Z.putz4 (.int .i64 5) (.int .i64 0) (.int .i64 0) (.string (⟨#[]⟩))
      have HBB := Lib.hid ((((HB.out.setCell (p := ⟨w.heap.size + 1, 0, none⟩) (by simp) (.int .i64 5)).setCell (p := ⟨w.heap.size + 1, 1, none⟩) (by simp) (.int .i64 0)).setCell (p := ⟨w.heap.size + 1, 2, none⟩) (by simp) (.int .i64 0)).setCell (p := ⟨w.heap.size + 1, 3, none⟩) (by simp) (.string (⟨#[]⟩)))
      go_wp2
      clear z0 z1 z2 z3 f0 f1 f2 f3 t0 t1 t2 t3 t4 t5 x0 x1 x2 x3 g3 X T Z HB
      obtain ⟨y0, y1, y2, y3⟩ := RP.four
      refine bodyPost_ret (v := .tuple #[vaV 5 0 0 (⟨#[]⟩), .int .i64 0]) (by simp [results, Tryz.results7, go_sem, y0, y1, y2, y3]) rfl ⟨rfl, HBB.out⟩

set_option maxRecDepth 100000 in
set_option maxHeartbeats 2000000 in
theorem zRef_6 (p q n : Int) (vy : Bool) (pic : ByteArray) (w : World) (hp : pic.size ≤ maxLen) (hv : validS 6 p q n vy pic = true) :
    Calls Tryz.prog 7 #[tyV 6 p q n vy pic] w fun e w' => e = .returned (.tuple #[vaV 0 0 0 ⟨#[]⟩, .int .i64 10]) ∧ Below w.heap.size w w' := by
  have HV : Hid (∀ W, Calls Tryz.prog 9 #[tyV 6 p q n vy pic] W fun e w' => e = .returned (.bool true) ∧ Below W.heap.size W w') := Lib.hid fun W => gvalidB true _ _ _ _ _ _ W hp hv
  have RT := (Row.new w #[.int .i64 6, .int .i64 p, .int .i64 q, .int .i64 n, .bool vy, .string pic] 25).alloc (.cells (vaC 0 0 0 ⟨#[]⟩) 23)
  have RV := Row.new2 w (.cells #[.int .i64 6, .int .i64 p, .int .i64 q, .int .i64 n, .bool vy, .string pic] 25) (vaC 0 0 0 ⟨#[]⟩) 23
  have n1 : ¬ w.heap.size = w.heap.size + 1 := by omega
  have n2 : ¬ w.heap.size + 1 = w.heap.size := by omega
  clear hp hv
  go_enter Tryz.func7, Tryz.ntmps7
  go_wp2_with (go_at_call 9; refine (HV.out _).mono ?_; rintro e w1 ⟨rfl, hb1⟩; have B1 := Lib.hid (bl_box2 (Below.refl _ w) hb1); have T1 := RT.keep hb1; have Z1 := RV.keep hb1; have lz := Z1.lt; have lt := T1.lt; have hz0 : w.heap.size ≤ w1.heap.size := (by omega); obtain ⟨t0, t1, t2, t3, t4, t5⟩ := T1.six; obtain ⟨z0, z1, z2, z3⟩ := Z1.four; have f0 := Z1.free 0; have f1 := Z1.free 1; have f2 := Z1.free 2; have f3 := Z1.free 3)
  have RP := (Z1.putz4 (.int .i64 0) (.int .i64 0) (.int .i64 0) (.string ⟨#[]⟩)).alloc (.cells (vaC 6 0 0 ⟨#[]⟩) 23)
  have HBB : Hid (Below w.heap.size w (((((w1.setCell ⟨w.heap.size + 1, 0, none⟩ (.int .i64 0)).setCell ⟨w.heap.size + 1, 1, none⟩ (.int .i64 0)).setCell ⟨w.heap.size + 1, 2, none⟩ (.int .i64 0)).setCell ⟨w.heap.size + 1, 3, none⟩ (.string ⟨#[]⟩)).alloc (.cells (vaC 6 0 0 ⟨#[]⟩) 23))) := Lib.hid (((((B1.out.setCell (by simp) _).setCell (by simp) _).setCell (by simp) _).setCell (by simp) _).alloc (by simp; omega) _)
  clear z0 z1 z2 z3 f0 f1 f2 f3 t0 t1 t2 t3 t4 t5 Z1 T1 B1
  generalize (((((w1.setCell ⟨w.heap.size + 1, 0, none⟩ (.int .i64 0)).setCell ⟨w.heap.size + 1, 1, none⟩ (.int .i64 0)).setCell ⟨w.heap.size + 1, 2, none⟩ (.int .i64 0)).setCell ⟨w.heap.size + 1, 3, none⟩ (.string ⟨#[]⟩)).alloc (.cells (vaC 6 0 0 ⟨#[]⟩) 23)) = W7 at *
  obtain ⟨y0, y1, y2, y3⟩ := RP.four
  refine bodyPost_ret (v := .tuple #[vaV 0 0 0 ⟨#[]⟩, .int .i64 10]) (by simp [results, Tryz.results7, go_sem, y0, y1, y2, y3]) rfl ⟨rfl, HBB.out⟩

set_option maxRecDepth 100000 in
set_option maxHeartbeats 2000000 in
theorem zRef_7 (p q n : Int) (vy : Bool) (pic : ByteArray) (w : World) (hp : pic.size ≤ maxLen) (hv : validS 7 p q n vy pic = true) :
    Calls Tryz.prog 7 #[tyV 7 p q n vy pic] w fun e w' => e = .returned (.tuple #[vaV 0 0 0 ⟨#[]⟩, .int .i64 10]) ∧ Below w.heap.size w w' := by
  have HV : Hid (∀ W, Calls Tryz.prog 9 #[tyV 7 p q n vy pic] W fun e w' => e = .returned (.bool true) ∧ Below W.heap.size W w') := Lib.hid fun W => gvalidB true _ _ _ _ _ _ W hp hv
  have RT := (Row.new w #[.int .i64 7, .int .i64 p, .int .i64 q, .int .i64 n, .bool vy, .string pic] 25).alloc (.cells (vaC 0 0 0 ⟨#[]⟩) 23)
  have RV := Row.new2 w (.cells #[.int .i64 7, .int .i64 p, .int .i64 q, .int .i64 n, .bool vy, .string pic] 25) (vaC 0 0 0 ⟨#[]⟩) 23
  have n1 : ¬ w.heap.size = w.heap.size + 1 := by omega
  have n2 : ¬ w.heap.size + 1 = w.heap.size := by omega
  clear hp hv
  go_enter Tryz.func7, Tryz.ntmps7
  go_wp2_with (go_at_call 9; refine (HV.out _).mono ?_; rintro e w1 ⟨rfl, hb1⟩; have B1 := Lib.hid (bl_box2 (Below.refl _ w) hb1); have T1 := RT.keep hb1; have Z1 := RV.keep hb1; have lz := Z1.lt; have lt := T1.lt; have hz0 : w.heap.size ≤ w1.heap.size := (by omega); obtain ⟨t0, t1, t2, t3, t4, t5⟩ := T1.six; obtain ⟨z0, z1, z2, z3⟩ := Z1.four; have f0 := Z1.free 0; have f1 := Z1.free 1; have f2 := Z1.free 2; have f3 := Z1.free 3)
  have RP := (Z1.putz4 (.int .i64 0) (.int .i64 0) (.int .i64 0) (.string ⟨#[]⟩)).alloc (.cells (vaC 7 0 0 ⟨#[]⟩) 23)
  have HBB : Hid (Below w.heap.size w (((((w1.setCell ⟨w.heap.size + 1, 0, none⟩ (.int .i64 0)).setCell ⟨w.heap.size + 1, 1, none⟩ (.int .i64 0)).setCell ⟨w.heap.size + 1, 2, none⟩ (.int .i64 0)).setCell ⟨w.heap.size + 1, 3, none⟩ (.string ⟨#[]⟩)).alloc (.cells (vaC 7 0 0 ⟨#[]⟩) 23))) := Lib.hid (((((B1.out.setCell (by simp) _).setCell (by simp) _).setCell (by simp) _).setCell (by simp) _).alloc (by simp; omega) _)
  clear z0 z1 z2 z3 f0 f1 f2 f3 t0 t1 t2 t3 t4 t5 Z1 T1 B1
  generalize (((((w1.setCell ⟨w.heap.size + 1, 0, none⟩ (.int .i64 0)).setCell ⟨w.heap.size + 1, 1, none⟩ (.int .i64 0)).setCell ⟨w.heap.size + 1, 2, none⟩ (.int .i64 0)).setCell ⟨w.heap.size + 1, 3, none⟩ (.string ⟨#[]⟩)).alloc (.cells (vaC 7 0 0 ⟨#[]⟩) 23)) = W7 at *
  obtain ⟨y0, y1, y2, y3⟩ := RP.four
  refine bodyPost_ret (v := .tuple #[vaV 0 0 0 ⟨#[]⟩, .int .i64 10]) (by simp [results, Tryz.results7, go_sem, y0, y1, y2, y3]) rfl ⟨rfl, HBB.out⟩

set_option maxRecDepth 100000 in
set_option maxHeartbeats 2000000 in
theorem zRef_8 (p q n : Int) (vy : Bool) (pic : ByteArray) (w : World) (hp : pic.size ≤ maxLen) (hv : validS 8 p q n vy pic = true) :
    Calls Tryz.prog 7 #[tyV 8 p q n vy pic] w fun e w' => e = .returned (.tuple #[vaV 0 0 0 ⟨#[]⟩, .int .i64 10]) ∧ Below w.heap.size w w' := by
  have HV : Hid (∀ W, Calls Tryz.prog 9 #[tyV 8 p q n vy pic] W fun e w' => e = .returned (.bool true) ∧ Below W.heap.size W w') := Lib.hid fun W => gvalidB true _ _ _ _ _ _ W hp hv
  have RT := (Row.new w #[.int .i64 8, .int .i64 p, .int .i64 q, .int .i64 n, .bool vy, .string pic] 25).alloc (.cells (vaC 0 0 0 ⟨#[]⟩) 23)
  have RV := Row.new2 w (.cells #[.int .i64 8, .int .i64 p, .int .i64 q, .int .i64 n, .bool vy, .string pic] 25) (vaC 0 0 0 ⟨#[]⟩) 23
  have n1 : ¬ w.heap.size = w.heap.size + 1 := by omega
  have n2 : ¬ w.heap.size + 1 = w.heap.size := by omega
  clear hp hv
  go_enter Tryz.func7, Tryz.ntmps7
  go_wp2_with (go_at_call 9; refine (HV.out _).mono ?_; rintro e w1 ⟨rfl, hb1⟩; have B1 := Lib.hid (bl_box2 (Below.refl _ w) hb1); have T1 := RT.keep hb1; have Z1 := RV.keep hb1; have lz := Z1.lt; have lt := T1.lt; have hz0 : w.heap.size ≤ w1.heap.size := (by omega); obtain ⟨t0, t1, t2, t3, t4, t5⟩ := T1.six; obtain ⟨z0, z1, z2, z3⟩ := Z1.four; have f0 := Z1.free 0; have f1 := Z1.free 1; have f2 := Z1.free 2; have f3 := Z1.free 3)
  have RP := (Z1.putz4 (.int .i64 0) (.int .i64 0) (.int .i64 0) (.string ⟨#[]⟩)).alloc (.cells (vaC 8 0 0 ⟨#[]⟩) 23)
  have HBB : Hid (Below w.heap.size w (((((w1.setCell ⟨w.heap.size + 1, 0, none⟩ (.int .i64 0)).setCell ⟨w.heap.size + 1, 1, none⟩ (.int .i64 0)).setCell ⟨w.heap.size + 1, 2, none⟩ (.int .i64 0)).setCell ⟨w.heap.size + 1, 3, none⟩ (.string ⟨#[]⟩)).alloc (.cells (vaC 8 0 0 ⟨#[]⟩) 23))) := Lib.hid (((((B1.out.setCell (by simp) _).setCell (by simp) _).setCell (by simp) _).setCell (by simp) _).alloc (by simp; omega) _)
  clear z0 z1 z2 z3 f0 f1 f2 f3 t0 t1 t2 t3 t4 t5 Z1 T1 B1
  generalize (((((w1.setCell ⟨w.heap.size + 1, 0, none⟩ (.int .i64 0)).setCell ⟨w.heap.size + 1, 1, none⟩ (.int .i64 0)).setCell ⟨w.heap.size + 1, 2, none⟩ (.int .i64 0)).setCell ⟨w.heap.size + 1, 3, none⟩ (.string ⟨#[]⟩)).alloc (.cells (vaC 8 0 0 ⟨#[]⟩) 23)) = W7 at *
  obtain ⟨y0, y1, y2, y3⟩ := RP.four
  refine bodyPost_ret (v := .tuple #[vaV 0 0 0 ⟨#[]⟩, .int .i64 10]) (by simp [results, Tryz.results7, go_sem, y0, y1, y2, y3]) rfl ⟨rfl, HBB.out⟩

set_option maxRecDepth 100000 in
set_option maxHeartbeats 2000000 in
theorem zRef_9 (p q n : Int) (vy : Bool) (pic : ByteArray) (w : World) (hp : pic.size ≤ maxLen) (hv : validS 9 p q n vy pic = true) :
    Calls Tryz.prog 7 #[tyV 9 p q n vy pic] w fun e w' => e = .returned (.tuple #[vaV 0 0 0 ⟨#[]⟩, .int .i64 10]) ∧ Below w.heap.size w w' := by
  have HV : Hid (∀ W, Calls Tryz.prog 9 #[tyV 9 p q n vy pic] W fun e w' => e = .returned (.bool true) ∧ Below W.heap.size W w') := Lib.hid fun W => gvalidB true _ _ _ _ _ _ W hp hv
  have RT := (Row.new w #[.int .i64 9, .int .i64 p, .int .i64 q, .int .i64 n, .bool vy, .string pic] 25).alloc (.cells (vaC 0 0 0 ⟨#[]⟩) 23)
  have RV := Row.new2 w (.cells #[.int .i64 9, .int .i64 p, .int .i64 q, .int .i64 n, .bool vy, .string pic] 25) (vaC 0 0 0 ⟨#[]⟩) 23
  have n1 : ¬ w.heap.size = w.heap.size + 1 := by omega
  have n2 : ¬ w.heap.size + 1 = w.heap.size := by omega
  clear hp hv
  go_enter Tryz.func7, Tryz.ntmps7
  go_wp2_with (go_at_call 9; refine (HV.out _).mono ?_; rintro e w1 ⟨rfl, hb1⟩; have B1 := Lib.hid (bl_box2 (Below.refl _ w) hb1); have T1 := RT.keep hb1; have Z1 := RV.keep hb1; have lz := Z1.lt; have lt := T1.lt; have hz0 : w.heap.size ≤ w1.heap.size := (by omega); obtain ⟨t0, t1, t2, t3, t4, t5⟩ := T1.six; obtain ⟨z0, z1, z2, z3⟩ := Z1.four; have f0 := Z1.free 0; have f1 := Z1.free 1; have f2 := Z1.free 2; have f3 := Z1.free 3)
  have RP := (Z1.putz4 (.int .i64 0) (.int .i64 0) (.int .i64 0) (.string ⟨#[]⟩)).alloc (.cells (vaC 9 0 0 ⟨#[]⟩) 23)
  have HBB : Hid (Below w.heap.size w (((((w1.setCell ⟨w.heap.size + 1, 0, none⟩ (.int .i64 0)).setCell ⟨w.heap.size + 1, 1, none⟩ (.int .i64 0)).setCell ⟨w.heap.size + 1, 2, none⟩ (.int .i64 0)).setCell ⟨w.heap.size + 1, 3, none⟩ (.string ⟨#[]⟩)).alloc (.cells (vaC 9 0 0 ⟨#[]⟩) 23))) := Lib.hid (((((B1.out.setCell (by simp) _).setCell (by simp) _).setCell (by simp) _).setCell (by simp) _).alloc (by simp; omega) _)
  clear z0 z1 z2 z3 f0 f1 f2 f3 t0 t1 t2 t3 t4 t5 Z1 T1 B1
  generalize (((((w1.setCell ⟨w.heap.size + 1, 0, none⟩ (.int .i64 0)).setCell ⟨w.heap.size + 1, 1, none⟩ (.int .i64 0)).setCell ⟨w.heap.size + 1, 2, none⟩ (.int .i64 0)).setCell ⟨w.heap.size + 1, 3, none⟩ (.string ⟨#[]⟩)).alloc (.cells (vaC 9 0 0 ⟨#[]⟩) 23)) = W7 at *
  obtain ⟨y0, y1, y2, y3⟩ := RP.four
  refine bodyPost_ret (v := .tuple #[vaV 0 0 0 ⟨#[]⟩, .int .i64 10]) (by simp [results, Tryz.results7, go_sem, y0, y1, y2, y3]) rfl ⟨rfl, HBB.out⟩

/-- ironbarkref01.Zero, of any type. -/
theorem zeroRef (k p q n : Int) (vy : Bool) (pic : ByteArray) (w : World) (hp : pic.size ≤ maxLen) :
    Calls Tryz.prog 7 #[tyV k p q n vy pic] w fun e w' =>
      e = .returned (.tuple #[vaV (zKind k (validS k p q n vy pic)) 0 (zScale k q (validS k p q n vy pic)) (zText k n vy (validS k p q n vy pic)), .int .i64 (zErr k (validS k p q n vy pic))]) ∧ Below w.heap.size w w' := by
  cases hv : validS k p q n vy pic
  · exact zRef_13 k p q n vy pic w hp hv
  · obtain rfl | rfl | rfl | rfl | rfl | rfl | rfl | rfl | rfl := validS_kind hv
    · exact zRef_1 p q n vy pic w hp hv
    · exact zRef_2 p q n vy pic w hp hv
    · exact zRef_3 p q n vy pic w hp hv
    · obtain ⟨h1, h2⟩ := valid_4_of hv
      obtain ⟨m, rfl⟩ := Int.eq_ofNat_of_zero_le h1
      cases vy
      · exact zRef_4f p q m pic w hp (by omega) hv
      · exact zRef_4t p q m pic w hp (by omega) hv
    · obtain ⟨h1, h2⟩ := valid_5_of hv
      obtain ⟨m, rfl⟩ := Int.eq_ofNat_of_zero_le h1
      cases vy
      · exact zRef_5f p q m pic w hp (by omega) hv
      · exact zRef_5t p q m pic w hp (by omega) hv
    · exact zRef_6 p q n vy pic w hp hv
    · exact zRef_7 p q n vy pic w hp hv
    · exact zRef_8 p q n vy pic w hp hv
    · exact zRef_9 p q n vy pic w hp hv
end Go.Proofs.YtjdgefgdekanjaaGreatDoor
