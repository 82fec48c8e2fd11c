/- digit.zeroOf and digit.Zero, of any type, exactly. -/
import Derived.Test.YtjdgefgdekanjaaGreatDoorGoodZero
namespace Go.Proofs.YtjdgefgdekanjaaGreatDoor
open Go.RowKit

theorem bl_box4 {w w1 w2 : World} {o o' : Obj} (h1 : Below ((w.alloc o).alloc o').heap.size ((w.alloc o).alloc o') w1) (h2 : Below w1.heap.size w1 w2) : Below w.heap.size w w2 := bl_then (bl_box2 (Below.refl _ w) h1) h2

set_option maxRecDepth 100000 in
set_option maxHeartbeats 2000000 in
theorem zeroOf_1 (p q n : Int) (vy : Bool) (pic : ByteArray) (w : World) :
    Calls Tryz.prog 19 #[tyV 1 p q n vy pic] w fun e w' => e = .returned (vaV 1 0 q ⟨#[]⟩) ∧ Below w.heap.size w w' := by
  have hfd := fld_3
  have qe : ∀ (f : Nat) (w : World), (binOp .eql 40 (fnv f) .nilFunc).run Tryz.prog w = .ok (.bool false) w := fun _ _ => by kernel_rfl
  have HZ : Hid (∀ W, Calls Tryz.prog 38 #[tyV 1 p q n vy pic] W fun e w' => e = .returned (vaV 1 0 q ⟨#[]⟩) ∧ Below W.heap.size W w') := Lib.hid fun W => zeroFixed_d 1 p q n vy pic W
  generalize hz : (⟨#[]⟩ : ByteArray) = z at HZ ⊢
  clear hz
  have RV := Row.new2 w (.cells #[.int .i64 1, .int .i64 p, .int .i64 q, .int .i64 n, .bool vy, .string pic] 25) (vaC 0 0 0 ⟨#[]⟩) 23
  have RT := (Row.new w #[.int .i64 1, .int .i64 p, .int .i64 q, .int .i64 n, .bool vy, .string pic] 25).alloc (.cells (vaC 0 0 0 ⟨#[]⟩) 23)
  go_enter Tryz.func19, Tryz.ntmps19
  go_wp2_with (first
    | (go_at_call 20; refine (rules_1 _).mono ?_; rintro e w1 ⟨rfl, hb1⟩; have R1 := RV.keep hb1; have RT1 := RT.keep hb1; obtain ⟨t0, t1, t2, t3, t4, t5⟩ := RT1.six)
    | (go_at_call 38; refine (HZ.out _).mono ?_; rintro e w2 ⟨rfl, hb2⟩; have R2 := R1.keep hb2; obtain ⟨y0, y1, y2, y3⟩ := R2.four; have f0 := R2.free 0; have f1 := R2.free 1; have f2 := R2.free 2; have f3 := R2.free 3; have HBB := Lib.hid (bl_box4 hb1 hb2); have RP := R2.putz4 (.int .i64 1) (.int .i64 0) (.int .i64 q) (.string z)))
  exact bodyPost_ret (v := vaV 1 0 q z) (results_cell_row (p := 2) (ty := 23) rfl _ _ (w.heap.size + 1) 23 #[.int .i64 1, .int .i64 0, .int .i64 q, .string z] (0, 0) _ rfl RP Tryz.underlying23 rfl size_va) rfl ⟨rfl, ((((HBB.out.setCell (by simp) _).setCell (by simp) _).setCell (by simp) _).setCell (by simp) _)⟩

set_option maxRecDepth 100000 in
set_option maxHeartbeats 2000000 in
theorem zeroOf_2 (p q n : Int) (vy : Bool) (pic : ByteArray) (w : World) :
    Calls Tryz.prog 19 #[tyV 2 p q n vy pic] w fun e w' => e = .returned (vaV 2 0 q ⟨#[]⟩) ∧ Below w.heap.size w w' := by
  have hfd := fld_3
  have qe : ∀ (f : Nat) (w : World), (binOp .eql 40 (fnv f) .nilFunc).run Tryz.prog w = .ok (.bool false) w := fun _ _ => by kernel_rfl
  have HZ : Hid (∀ W, Calls Tryz.prog 38 #[tyV 2 p q n vy pic] W fun e w' => e = .returned (vaV 2 0 q ⟨#[]⟩) ∧ Below W.heap.size W w') := Lib.hid fun W => zeroFixed_d 2 p q n vy pic W
  generalize hz : (⟨#[]⟩ : ByteArray) = z at HZ ⊢
  clear hz
  have RV := Row.new2 w (.cells #[.int .i64 2, .int .i64 p, .int .i64 q, .int .i64 n, .bool vy, .string pic] 25) (vaC 0 0 0 ⟨#[]⟩) 23
  have RT := (Row.new w #[.int .i64 2, .int .i64 p, .int .i64 q, .int .i64 n, .bool vy, .string pic] 25).alloc (.cells (vaC 0 0 0 ⟨#[]⟩) 23)
  go_enter Tryz.func19, Tryz.ntmps19
  go_wp2_with (first
    | (go_at_call 20; refine (rules_2 _).mono ?_; rintro e w1 ⟨rfl, hb1⟩; have R1 := RV.keep hb1; have RT1 := RT.keep hb1; obtain ⟨t0, t1, t2, t3, t4, t5⟩ := RT1.six)
    | (go_at_call 38; refine (HZ.out _).mono ?_; rintro e w2 ⟨rfl, hb2⟩; have R2 := R1.keep hb2; obtain ⟨y0, y1, y2, y3⟩ := R2.four; have f0 := R2.free 0; have f1 := R2.free 1; have f2 := R2.free 2; have f3 := R2.free 3; have HBB := Lib.hid (bl_box4 hb1 hb2); have RP := R2.putz4 (.int .i64 2) (.int .i64 0) (.int .i64 q) (.string z)))
  exact bodyPost_ret (v := vaV 2 0 q z) (results_cell_row (p := 2) (ty := 23) rfl _ _ (w.heap.size + 1) 23 #[.int .i64 2, .int .i64 0, .int .i64 q, .string z] (0, 0) _ rfl RP Tryz.underlying23 rfl size_va) rfl ⟨rfl, ((((HBB.out.setCell (by simp) _).setCell (by simp) _).setCell (by simp) _).setCell (by simp) _)⟩

set_option maxRecDepth 100000 in
set_option maxHeartbeats 2000000 in
theorem zeroOf_3 (p q n : Int) (vy : Bool) (pic : ByteArray) (w : World) :
    Calls Tryz.prog 19 #[tyV 3 p q n vy pic] w fun e w' => e = .returned (vaV 3 0 0 ⟨#[]⟩) ∧ Below w.heap.size w w' := by
  have hfd := fld_3
  have qe : ∀ (f : Nat) (w : World), (binOp .eql 40 (fnv f) .nilFunc).run Tryz.prog w = .ok (.bool false) w := fun _ _ => by kernel_rfl
  have HZ : Hid (∀ W, Calls Tryz.prog 51 #[tyV 3 p q n vy pic] W fun e w' => e = .returned (vaV 3 0 0 ⟨#[]⟩) ∧ Below W.heap.size W w') := Lib.hid fun W => zeroFloat_d 3 p q n vy pic W
  generalize hz : (⟨#[]⟩ : ByteArray) = z at HZ ⊢
  clear hz
  have RV := Row.new2 w (.cells #[.int .i64 3, .int .i64 p, .int .i64 q, .int .i64 n, .bool vy, .string pic] 25) (vaC 0 0 0 ⟨#[]⟩) 23
  have RT := (Row.new w #[.int .i64 3, .int .i64 p, .int .i64 q, .int .i64 n, .bool vy, .string pic] 25).alloc (.cells (vaC 0 0 0 ⟨#[]⟩) 23)
  go_enter Tryz.func19, Tryz.ntmps19
  go_wp2_with (first
    | (go_at_call 20; refine (rules_3 _).mono ?_; rintro e w1 ⟨rfl, hb1⟩; have R1 := RV.keep hb1; have RT1 := RT.keep hb1; obtain ⟨t0, t1, t2, t3, t4, t5⟩ := RT1.six)
    | (go_at_call 51; refine (HZ.out _).mono ?_; rintro e w2 ⟨rfl, hb2⟩; have R2 := R1.keep hb2; obtain ⟨y0, y1, y2, y3⟩ := R2.four; have f0 := R2.free 0; have f1 := R2.free 1; have f2 := R2.free 2; have f3 := R2.free 3; have HBB := Lib.hid (bl_box4 hb1 hb2); have RP := R2.putz4 (.int .i64 3) (.int .i64 0) (.int .i64 0) (.string z)))
  exact bodyPost_ret (v := vaV 3 0 0 z) (results_cell_row (p := 2) (ty := 23) rfl _ _ (w.heap.size + 1) 23 #[.int .i64 3, .int .i64 0, .int .i64 0, .string z] (0, 0) _ rfl RP Tryz.underlying23 rfl size_va) rfl ⟨rfl, ((((HBB.out.setCell (by simp) _).setCell (by simp) _).setCell (by simp) _).setCell (by simp) _)⟩

set_option maxRecDepth 100000 in
set_option maxHeartbeats 2000000 in
theorem zeroOf_4 (p q n : Int) (vy : Bool) (pic : ByteArray) (w : World) (hn : 0 ≤ n ∧ n ≤ 250) :
    Calls Tryz.prog 19 #[tyV 4 p q n vy pic] w fun e w' => e = .returned (vaV 4 0 0 (if vy = false then zrs 32 n.toNat else ⟨#[]⟩)) ∧ Below w.heap.size w w' := by
  have hfd := fld_3
  have qe : ∀ (f : Nat) (w : World), (binOp .eql 40 (fnv f) .nilFunc).run Tryz.prog w = .ok (.bool false) w := fun _ _ => by kernel_rfl
  have HZ : Hid (∀ W, Calls Tryz.prog 58 #[tyV 4 p q n vy pic] W fun e w' => e = .returned (vaV 4 0 0 (if vy = false then zrs 32 n.toNat else ⟨#[]⟩)) ∧ Below W.heap.size W w') := Lib.hid fun W => zeroChar_d 4 p q n vy pic W hn
  generalize hz : (if vy = false then zrs 32 n.toNat else ⟨#[]⟩) = z at HZ ⊢
  clear hz hn
  have RV := Row.new2 w (.cells #[.int .i64 4, .int .i64 p, .int .i64 q, .int .i64 n, .bool vy, .string pic] 25) (vaC 0 0 0 ⟨#[]⟩) 23
  have RT := (Row.new w #[.int .i64 4, .int .i64 p, .int .i64 q, .int .i64 n, .bool vy, .string pic] 25).alloc (.cells (vaC 0 0 0 ⟨#[]⟩) 23)
  go_enter Tryz.func19, Tryz.ntmps19
  go_wp2_with (first
    | (go_at_call 20; refine (rules_4 _).mono ?_; rintro e w1 ⟨rfl, hb1⟩; have R1 := RV.keep hb1; have RT1 := RT.keep hb1; obtain ⟨t0, t1, t2, t3, t4, t5⟩ := RT1.six)
    | (go_at_call 58; refine (HZ.out _).mono ?_; rintro e w2 ⟨rfl, hb2⟩; have R2 := R1.keep hb2; obtain ⟨y0, y1, y2, y3⟩ := R2.four; have f0 := R2.free 0; have f1 := R2.free 1; have f2 := R2.free 2; have f3 := R2.free 3; have HBB := Lib.hid (bl_box4 hb1 hb2); have RP := R2.putz4 (.int .i64 4) (.int .i64 0) (.int .i64 0) (.string z)))
  exact bodyPost_ret (v := vaV 4 0 0 z) (results_cell_row (p := 2) (ty := 23) rfl _ _ (w.heap.size + 1) 23 #[.int .i64 4, .int .i64 0, .int .i64 0, .string z] (0, 0) _ rfl RP Tryz.underlying23 rfl size_va) rfl ⟨rfl, ((((HBB.out.setCell (by simp) _).setCell (by simp) _).setCell (by simp) _).setCell (by simp) _)⟩

set_option maxRecDepth 100000 in
set_option maxHeartbeats 2000000 in
theorem zeroOf_5 (p q n : Int) (vy : Bool) (pic : ByteArray) (w : World) (hn : 0 ≤ n ∧ n ≤ 250) :
    Calls Tryz.prog 19 #[tyV 5 p q n vy pic] w fun e w' => e = .returned (vaV 5 0 0 (if vy = false then zrs 48 n.toNat else ⟨#[]⟩)) ∧ Below w.heap.size w w' := by
  have hfd := fld_3
  have qe : ∀ (f : Nat) (w : World), (binOp .eql 40 (fnv f) .nilFunc).run Tryz.prog w = .ok (.bool false) w := fun _ _ => by kernel_rfl
  have HZ : Hid (∀ W, Calls Tryz.prog 60 #[tyV 5 p q n vy pic] W fun e w' => e = .returned (vaV 5 0 0 (if vy = false then zrs 48 n.toNat else ⟨#[]⟩)) ∧ Below W.heap.size W w') := Lib.hid fun W => zeroBit_d 5 p q n vy pic W hn
  generalize hz : (if vy = false then zrs 48 n.toNat else ⟨#[]⟩) = z at HZ ⊢
  clear hz hn
  have RV := Row.new2 w (.cells #[.int .i64 5, .int .i64 p, .int .i64 q, .int .i64 n, .bool vy, .string pic] 25) (vaC 0 0 0 ⟨#[]⟩) 23
  have RT := (Row.new w #[.int .i64 5, .int .i64 p, .int .i64 q, .int .i64 n, .bool vy, .string pic] 25).alloc (.cells (vaC 0 0 0 ⟨#[]⟩) 23)
  go_enter Tryz.func19, Tryz.ntmps19
  go_wp2_with (first
    | (go_at_call 20; refine (rules_5 _).mono ?_; rintro e w1 ⟨rfl, hb1⟩; have R1 := RV.keep hb1; have RT1 := RT.keep hb1; obtain ⟨t0, t1, t2, t3, t4, t5⟩ := RT1.six)
    | (go_at_call 60; refine (HZ.out _).mono ?_; rintro e w2 ⟨rfl, hb2⟩; have R2 := R1.keep hb2; obtain ⟨y0, y1, y2, y3⟩ := R2.four; have f0 := R2.free 0; have f1 := R2.free 1; have f2 := R2.free 2; have f3 := R2.free 3; have HBB := Lib.hid (bl_box4 hb1 hb2); have RP := R2.putz4 (.int .i64 5) (.int .i64 0) (.int .i64 0) (.string z)))
  exact bodyPost_ret (v := vaV 5 0 0 z) (results_cell_row (p := 2) (ty := 23) rfl _ _ (w.heap.size + 1) 23 #[.int .i64 5, .int .i64 0, .int .i64 0, .string z] (0, 0) _ rfl RP Tryz.underlying23 rfl size_va) rfl ⟨rfl, ((((HBB.out.setCell (by simp) _).setCell (by simp) _).setCell (by simp) _).setCell (by simp) _)⟩

set_option maxRecDepth 100000 in
set_option maxHeartbeats 2000000 in
theorem zeroOf_6 (p q n : Int) (vy : Bool) (pic : ByteArray) (w : World) :
    Calls Tryz.prog 19 #[tyV 6 p q n vy pic] w fun e w' => e = dRef 10 ∧ Below w.heap.size w w' := by
  have hfd := fld_3
  have qn : ∀ (w : World), (binOp .eql 40 .nilFunc .nilFunc).run Tryz.prog w = .ok (.bool true) w := fun _ => by kernel_rfl
  go_enter Tryz.func19, Tryz.ntmps19
  go_wp2_with (first
    | (go_at_call 20; refine (rules_6 _).mono ?_; rintro e w1 ⟨rfl, hb1⟩)
    | (go_at_call 34; refine (dRefuse _ _).mono ?_; rintro e w3 ⟨rfl, rfl⟩))
  exact ⟨rfl, rfl, bl_box2 (Below.refl _ w) hb1⟩

set_option maxRecDepth 100000 in
set_option maxHeartbeats 2000000 in
theorem zeroOf_7 (p q n : Int) (vy : Bool) (pic : ByteArray) (w : World) :
    Calls Tryz.prog 19 #[tyV 7 p q n vy pic] w fun e w' => e = dRef 10 ∧ Below w.heap.size w w' := by
  have hfd := fld_3
  have qn : ∀ (w : World), (binOp .eql 40 .nilFunc .nilFunc).run Tryz.prog w = .ok (.bool true) w := fun _ => by kernel_rfl
  go_enter Tryz.func19, Tryz.ntmps19
  go_wp2_with (first
    | (go_at_call 20; refine (rules_7 _).mono ?_; rintro e w1 ⟨rfl, hb1⟩)
    | (go_at_call 34; refine (dRefuse _ _).mono ?_; rintro e w3 ⟨rfl, rfl⟩))
  exact ⟨rfl, rfl, bl_box2 (Below.refl _ w) hb1⟩

set_option maxRecDepth 100000 in
set_option maxHeartbeats 2000000 in
theorem zeroOf_8 (p q n : Int) (vy : Bool) (pic : ByteArray) (w : World) :
    Calls Tryz.prog 19 #[tyV 8 p q n vy pic] w fun e w' => e = dRef 10 ∧ Below w.heap.size w w' := by
  have hfd := fld_3
  have qn : ∀ (w : World), (binOp .eql 40 .nilFunc .nilFunc).run Tryz.prog w = .ok (.bool true) w := fun _ => by kernel_rfl
  go_enter Tryz.func19, Tryz.ntmps19
  go_wp2_with (first
    | (go_at_call 20; refine (rules_8 _).mono ?_; rintro e w1 ⟨rfl, hb1⟩)
    | (go_at_call 34; refine (dRefuse _ _).mono ?_; rintro e w3 ⟨rfl, rfl⟩))
  exact ⟨rfl, rfl, bl_box2 (Below.refl _ w) hb1⟩

set_option maxRecDepth 100000 in
set_option maxHeartbeats 2000000 in
theorem zeroOf_9 (p q n : Int) (vy : Bool) (pic : ByteArray) (w : World) :
    Calls Tryz.prog 19 #[tyV 9 p q n vy pic] w fun e w' => e = dRef 10 ∧ Below w.heap.size w w' := by
  have hfd := fld_3
  have qn : ∀ (w : World), (binOp .eql 40 .nilFunc .nilFunc).run Tryz.prog w = .ok (.bool true) w := fun _ => by kernel_rfl
  go_enter Tryz.func19, Tryz.ntmps19
  go_wp2_with (first
    | (go_at_call 20; refine (rules_9 _).mono ?_; rintro e w1 ⟨rfl, hb1⟩)
    | (go_at_call 34; refine (dRefuse _ _).mono ?_; rintro e w3 ⟨rfl, rfl⟩))
  exact ⟨rfl, rfl, bl_box2 (Below.refl _ w) hb1⟩

theorem zeroOf_yes (k p q n : Int) (vy : Bool) (pic : ByteArray) (w : World) (hv : validS k p q n vy pic = true) (hk : k ≤ 5) :
    Calls Tryz.prog 19 #[tyV k p q n vy pic] w fun e w' => e = .returned (vaV k 0 (zScale k q true) (zText k n vy true)) ∧ Below w.heap.size w w' := by
  have hk' := validS_kind hv
  obtain rfl | rfl | rfl | rfl | rfl : k = 1 ∨ k = 2 ∨ k = 3 ∨ k = 4 ∨ k = 5 := by omega
  · exact zeroOf_1 p q n vy pic w
  · exact zeroOf_2 p q n vy pic w
  · exact zeroOf_3 p q n vy pic w
  · have := zeroOf_4 p q n vy pic w (valid_4_of hv)
    simpa [zScale, zText] using this
  · have := zeroOf_5 p q n vy pic w (valid_5_of hv)
    simpa [zScale, zText] using this
theorem zeroOf_not (k p q n : Int) (vy : Bool) (pic : ByteArray) (w : World) (hv : validS k p q n vy pic = true) (hk : ¬ k ≤ 5) :
    Calls Tryz.prog 19 #[tyV k p q n vy pic] w fun e w' => e = dRef 10 ∧ Below w.heap.size w w' := by
  have hk' := validS_kind hv
  obtain rfl | rfl | rfl | rfl : k = 6 ∨ k = 7 ∨ k = 8 ∨ k = 9 := by omega
  · exact zeroOf_6 p q n vy pic w
  · exact zeroOf_7 p q n vy pic w
  · exact zeroOf_8 p q n vy pic w
  · exact zeroOf_9 p q n vy pic w

set_option maxRecDepth 100000 in
set_option maxHeartbeats 2000000 in
theorem zero1_yes (k p q n : Int) (vy : Bool) (pic : ByteArray) (bt bv : Nat) (w : World) (hp : pic.size ≤ maxLen) (hT : Row w bt #[.int .i64 k, .int .i64 p, .int .i64 q, .int .i64 n, .bool vy, .string pic] 25) (hV : Row w bv (vaC 0 0 0 ⟨#[]⟩) 23) (hv : validS k p q n vy pic = true) (hk : k ≤ 5) :
    Calls Tryz.prog 17 #[ptD bt, ptD bv] w fun e w' => e = .returned (.tuple #[]) ∧ Row w' bv (vaC k 0 (zScale k q true) (zText k n vy true)) 23 ∧ But bv bv w w' := by
  have HD : Hid (∀ W, Calls Tryz.prog 18 #[tyV k p q n vy pic] W fun e w' => e = .returned (.tuple #[]) ∧ Below W.heap.size W w') := Lib.hid fun W => demValid_yes k p q n vy pic W hp hv
  have HZ : Hid (∀ W, Calls Tryz.prog 19 #[tyV k p q n vy pic] W fun e w' => e = .returned (vaV k 0 (zScale k q true) (zText k n vy true)) ∧ Below W.heap.size W w') := Lib.hid fun W => zeroOf_yes k p q n vy pic W hv hk
  generalize zText k n vy true = z at *
  generalize zScale k q true = zq at *
  clear hv hk hp
  obtain ⟨t0, t1, t2, t3, t4, t5⟩ := hT.six
  go_enter Tryz.func17, Tryz.ntmps17
  go_wp2_with (first
    | (go_at_call 18; refine (HD.out _).mono ?_; rintro e w1 ⟨rfl, hb1⟩; have R1 := hV.keep hb1; have RT1 := hT.keep hb1; obtain ⟨s0, s1, s2, s3, s4, s5⟩ := RT1.six)
    | (go_at_call 19; refine (HZ.out _).mono ?_; rintro e w2 ⟨rfl, hb2⟩; have R2 := R1.keep hb2; obtain ⟨y0, y1, y2, y3⟩ := R2.four; have f0 := R2.free 0; have f1 := R2.free 1; have f2 := R2.free 2; have f3 := R2.free 3; have HBB := Lib.hid (But.of (b1 := bv) (b2 := bv) (bl_then hb1 hb2)); have RP := R2.putz4 (.int .i64 k) (.int .i64 0) (.int .i64 zq) (.string z)))
  go_end0
  exact ⟨rfl, RP, (((HBB.out.setV 0 _).setV 1 _).setV 2 _).setV 3 _⟩

set_option maxRecDepth 100000 in
set_option maxHeartbeats 2000000 in
theorem zero1_13 (k p q n : Int) (vy : Bool) (pic : ByteArray) (bt bv : Nat) (w : World) (hp : pic.size ≤ maxLen) (hT : Row w bt #[.int .i64 k, .int .i64 p, .int .i64 q, .int .i64 n, .bool vy, .string pic] 25) (hv : validS k p q n vy pic = false) :
    Calls Tryz.prog 17 #[ptD bt, ptD bv] w fun e w' => e = dRef 13 ∧ Below w.heap.size w w' := by
  have HD : Hid (∀ W, Calls Tryz.prog 18 #[tyV k p q n vy pic] W fun e w' => e = dRef 13 ∧ Below W.heap.size W w') := Lib.hid fun W => demValid_noD k p q n vy pic W hp hv
  clear hv hp
  obtain ⟨t0, t1, t2, t3, t4, t5⟩ := hT.six
  go_enter Tryz.func17, Tryz.ntmps17
  go_wp2_with (go_at_call 18; refine (HD.out _).mono ?_; rintro e w1 ⟨rfl, hb1⟩)
  exact ⟨rfl, rfl, hb1⟩

set_option maxRecDepth 100000 in
set_option maxHeartbeats 2000000 in
theorem zero1_10 (k p q n : Int) (vy : Bool) (pic : ByteArray) (bt bv : Nat) (w : World) (hp : pic.size ≤ maxLen) (hT : Row w bt #[.int .i64 k, .int .i64 p, .int .i64 q, .int .i64 n, .bool vy, .string pic] 25) (hv : validS k p q n vy pic = true) (hk : ¬ k ≤ 5) :
    Calls Tryz.prog 17 #[ptD bt, ptD bv] w fun e w' => e = dRef 10 ∧ Below w.heap.size w w' := by
  have HD : Hid (∀ W, Calls Tryz.prog 18 #[tyV k p q n vy pic] W fun e w' => e = .returned (.tuple #[]) ∧ Below W.heap.size W w') := Lib.hid fun W => demValid_yes k p q n vy pic W hp hv
  have HZ : Hid (∀ W, Calls Tryz.prog 19 #[tyV k p q n vy pic] W fun e w' => e = dRef 10 ∧ Below W.heap.size W w') := Lib.hid fun W => zeroOf_not k p q n vy pic W hv hk
  clear hv hk hp
  obtain ⟨t0, t1, t2, t3, t4, t5⟩ := hT.six
  go_enter Tryz.func17, Tryz.ntmps17
  go_wp2_with (first
    | (go_at_call 18; refine (HD.out _).mono ?_; rintro e w1 ⟨rfl, hb1⟩; have RT1 := hT.keep hb1; obtain ⟨s0, s1, s2, s3, s4, s5⟩ := RT1.six)
    | (go_at_call 19; refine (HZ.out _).mono ?_; rintro e w2 ⟨rfl, hb2⟩))
  exact ⟨rfl, rfl, bl_then hb1 hb2⟩

/-- How guarded ends over Zero's closure: its error, and Zero's value in its cell. -/
theorem zero_guard (k p q n : Int) (vy : Bool) (pic : ByteArray) (w : World) (hp : pic.size ≤ maxLen) :
    Calls Tryz.prog 16 #[.func (.func 17) #[] #[ptD w.heap.size, ptD (w.heap.size + 1)]] ((w.alloc (.cells #[.int .i64 k, .int .i64 p, .int .i64 q, .int .i64 n, .bool vy, .string pic] 25)).alloc (.cells (vaC 0 0 0 ⟨#[]⟩) 23)) fun e w' =>
      e = .returned (.int .i64 (zErr k (validS k p q n vy pic))) ∧ Row w' (w.heap.size + 1) (vaC (zKind k (validS k p q n vy pic)) 0 (zScale k q (validS k p q n vy pic)) (zText k n vy (validS k p q n vy pic))) 23 ∧ Below w.heap.size w w' := by
  have hcr : ∀ W : World, (callFunc 17 #[ptD w.heap.size, ptD (w.heap.size + 1)]).run Tryz.prog W = .ok (.enter 17 #[ptD w.heap.size, ptD (w.heap.size + 1)]) W := fun W => enters_of Tryz.func17 (by kernel_rfl) rfl _ W
  have RT : Row (((w.alloc (.cells #[.int .i64 k, .int .i64 p, .int .i64 q, .int .i64 n, .bool vy, .string pic] 25)).alloc (.cells (vaC 0 0 0 ⟨#[]⟩) 23)).alloc (.cells #[.int .i64 0] 28)) w.heap.size #[.int .i64 k, .int .i64 p, .int .i64 q, .int .i64 n, .bool vy, .string pic] 25 := ((Row.new w #[.int .i64 k, .int .i64 p, .int .i64 q, .int .i64 n, .bool vy, .string pic] 25).alloc _).alloc _
  have RV : Row (((w.alloc (.cells #[.int .i64 k, .int .i64 p, .int .i64 q, .int .i64 n, .bool vy, .string pic] 25)).alloc (.cells (vaC 0 0 0 ⟨#[]⟩) 23)).alloc (.cells #[.int .i64 0] 28)) (w.heap.size + 1) (vaC 0 0 0 ⟨#[]⟩) 23 := (Row.new2 w (.cells #[.int .i64 k, .int .i64 p, .int .i64 q, .int .i64 n, .bool vy, .string pic] 25) (vaC 0 0 0 ⟨#[]⟩) 23).alloc _
  have RE : Row (((w.alloc (.cells #[.int .i64 k, .int .i64 p, .int .i64 q, .int .i64 n, .bool vy, .string pic] 25)).alloc (.cells (vaC 0 0 0 ⟨#[]⟩) 23)).alloc (.cells #[.int .i64 0] 28)) (w.heap.size + 1 + 1) #[.int .i64 0] 28 := Row.new3 w (.cells #[.int .i64 k, .int .i64 p, .int .i64 q, .int .i64 n, .bool vy, .string pic] 25) (.cells (vaC 0 0 0 ⟨#[]⟩) 23) #[.int .i64 0] 28
  have hs : ((w.alloc (.cells #[.int .i64 k, .int .i64 p, .int .i64 q, .int .i64 n, .bool vy, .string pic] 25)).alloc (.cells (vaC 0 0 0 ⟨#[]⟩) 23)).heap.size = w.heap.size + 1 + 1 := by simp
  have hB : Below w.heap.size w (((w.alloc (.cells #[.int .i64 k, .int .i64 p, .int .i64 q, .int .i64 n, .bool vy, .string pic] 25)).alloc (.cells (vaC 0 0 0 ⟨#[]⟩) 23)).alloc (.cells #[.int .i64 0] 28)) := by go_grown
  have hs3 : (((w.alloc (.cells #[.int .i64 k, .int .i64 p, .int .i64 q, .int .i64 n, .bool vy, .string pic] 25)).alloc (.cells (vaC 0 0 0 ⟨#[]⟩) 23)).alloc (.cells #[.int .i64 0] 28)).heap.size = w.heap.size + 1 + 1 + 1 := by simp
  cases hv : validS k p q n vy pic
  · refine (guard_no (n := 13) (R := fun w' => Row w' (w.heap.size + 1) (vaC 0 0 0 ⟨#[]⟩) 23 ∧ Below w.heap.size w w') _ _ _ hcr ?_).mono ?_
    · refine (zero1_13 k p q n vy pic w.heap.size (w.heap.size + 1) _ hp RT hv).mono ?_
      rintro e w' ⟨rfl, hb⟩
      have hg := RE.keep hb
      refine ⟨rfl, ?_, ?_, RV.keep hb, hB.trans (hb.mono (by rw [hs3]; omega))⟩
      · rw [hs]; exact hg.one
      · rw [hs]; exact hg.free 0
    · rintro e w' ⟨rfl, w1, ⟨h5, hb⟩, rfl⟩
      exact ⟨rfl, h5.set (by rw [hs]; simp), hb.setCell (by rw [hs]; simp <;> omega) _⟩
  · by_cases hk : k ≤ 5
    · have e0 : zErr k true = 0 := by unfold zErr; rw [if_neg (by decide), if_pos hk]
      have e1 : zKind k true = k := by unfold zKind; rw [if_pos ⟨rfl, hk⟩]
      rw [e0, e1]
      refine (guard_ok (R := fun w' => Row w' (w.heap.size + 1) (vaC k 0 (zScale k q true) (zText k n vy true)) 23 ∧ Below w.heap.size w w') _ _ _ hcr ?_).mono ?_
      · refine (zero1_yes k p q n vy pic w.heap.size (w.heap.size + 1) _ hp RT RV hv hk).mono ?_
        rintro e w' ⟨rfl, h5, hbut⟩
        have hg := hbut.row RE (by omega) (by omega)
        refine ⟨rfl, ?_, ?_, h5, hbut.below hB (by omega) (by omega) (by rw [hs3]; omega)⟩
        · rw [hs]; exact hg.one
        · rw [hs]; exact hg.free 0
      · rintro e w' ⟨rfl, w1, ⟨h5, hb⟩, rfl⟩
        exact ⟨rfl, h5.set (by rw [hs]; simp), hb.setCell (by rw [hs]; simp <;> omega) _⟩
    · have e0 : zErr k true = 10 := by unfold zErr; rw [if_neg (by decide), if_neg hk]
      have e1 : zKind k true = 0 := by unfold zKind; rw [if_neg (fun h => hk h.2)]
      have e2 : zScale k q true = 0 := by unfold zScale; rw [if_neg (fun h => hk (by omega))]
      have e3 : zText k n vy true = ⟨#[]⟩ := by unfold zText; rw [if_neg (fun h => hk (by omega)), if_neg (fun h => hk (by omega))]
      rw [e0, e1, e2, e3]
      refine (guard_no (n := 10) (R := fun w' => Row w' (w.heap.size + 1) (vaC 0 0 0 ⟨#[]⟩) 23 ∧ Below w.heap.size w w') _ _ _ hcr ?_).mono ?_
      · refine (zero1_10 k p q n vy pic w.heap.size (w.heap.size + 1) _ hp RT hv hk).mono ?_
        rintro e w' ⟨rfl, hb⟩
        have hg := RE.keep hb
        refine ⟨rfl, ?_, ?_, RV.keep hb, hB.trans (hb.mono (by rw [hs3]; omega))⟩
        · rw [hs]; exact hg.one
        · rw [hs]; exact hg.free 0
      · rintro e w' ⟨rfl, w1, ⟨h5, hb⟩, rfl⟩
        exact ⟨rfl, h5.set (by rw [hs]; simp), hb.setCell (by rw [hs]; simp <;> omega) _⟩

set_option maxRecDepth 100000 in
set_option maxHeartbeats 2000000 in
/-- digit.Zero, of any type. -/
theorem zeroDig (k p q n : Int) (vy : Bool) (pic : ByteArray) (w : World) (hp : pic.size ≤ maxLen) :
    Calls Tryz.prog 6 #[tyV k p q n vy pic] w fun e w' =>
      e = .returned (.tuple #[vaV (zKind k (validS k p q n vy pic)) 0 (zScale k q (validS k p q n vy pic)) (zText k n vy (validS k p q n vy pic)), .int .i64 (zErr k (validS k p q n vy pic))]) ∧ Below w.heap.size w w' := by
  have hmf : ∀ (fn : Fn) (first cap : Array Value) (w : World), (Instr.makeFunc fn first cap).run Tryz.prog w = .ok (.func fn first cap) w := fun _ _ _ _ => rfl
  have HG := Lib.hid (zero_guard k p q n vy pic w hp)
  clear hp
  generalize zKind k (validS k p q n vy pic) = zk at *
  generalize zScale k q (validS k p q n vy pic) = zq at *
  generalize zText k n vy (validS k p q n vy pic) = zs at *
  generalize zErr k (validS k p q n vy pic) = ze at *
  go_enter Tryz.func6, Tryz.ntmps6
  go_wp2_with (go_at_call 16; refine HG.out.mono ?_; rintro e w1 ⟨rfl, h5, hb⟩; have HB := Lib.hid hb; clear hb; obtain ⟨v0, v1, v2, v3⟩ := h5.four; have f0 := h5.free 0; have f1 := h5.free 1; have f2 := h5.free 2; have f3 := h5.free 3; have RP := h5.putz4 (.int .i64 zk) (.int .i64 0) (.int .i64 zq) (.string zs))
  have HBB : Hid (Below w.heap.size w ((((w1.setCell ⟨w.heap.size + 1, 0, none⟩ (.int .i64 zk)).setCell ⟨w.heap.size + 1, 1, none⟩ (.int .i64 0)).setCell ⟨w.heap.size + 1, 2, none⟩ (.int .i64 zq)).setCell ⟨w.heap.size + 1, 3, none⟩ (.string zs))) := Lib.hid ((((HB.out.setCell (by simp) _).setCell (by simp) _).setCell (by simp) _).setCell (by simp) _)
  clear HG HB h5 v0 v1 v2 v3 f0 f1 f2 f3
  generalize ((((w1.setCell ⟨w.heap.size + 1, 0, none⟩ (.int .i64 zk)).setCell ⟨w.heap.size + 1, 1, none⟩ (.int .i64 0)).setCell ⟨w.heap.size + 1, 2, none⟩ (.int .i64 zq)).setCell ⟨w.heap.size + 1, 3, none⟩ (.string zs)) = w7 at *
  obtain ⟨z0, z1, z2, z3⟩ := RP.four
  clear RP
  refine bodyPost_ret (v := .tuple #[vaV zk 0 zq zs, .int .i64 ze]) (by simp [results, Tryz.results6, go_sem, z0, z1, z2, z3]) rfl ⟨rfl, HBB.out⟩
end Go.Proofs.YtjdgefgdekanjaaGreatDoor
