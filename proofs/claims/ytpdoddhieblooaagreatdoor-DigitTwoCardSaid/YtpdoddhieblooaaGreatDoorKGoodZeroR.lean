/- digit.Zero, of any type, exactly. digit.zeroOf and digit.Zero, of any type, exactly. ironbarkref01.Zero, of any type, exactly. -/
import Derived.Test.YtpdoddhieblooaaGreatDoorKGoodHas
import Derived.Test.YtpdoddhieblooaaGreatDoorKGoodDig
import Derived.Test.YtpdoddhieblooaaGreatDoorKTwoLaw
import Derived.Test.YtpdoddhieblooaaGreatDoorKWrdCompare
import Derived.Test.YtpdoddhieblooaaGreatDoorKWrdMid
import Derived.Test.YtpdoddhieblooaaGreatDoorKFtErrT
namespace Go.Proofs.YtpdoddhieblooaaGreatDoor
open Go.RowKit

theorem Row.putz4 {w : World} {b : Nat} {a0 a1 a2 a3 : Value} {t : TypeId} (h : Row w b #[a0, a1, a2, a3] t) (y0 y1 y2 y3 : Value) :
   Row ((((w.setCell ⟨b, 0, none⟩ y0).setCell ⟨b, 1, none⟩ y1).setCell ⟨b, 2, none⟩ y2).setCell ⟨b, 3, none⟩ y3) b #[y0, y1, y2, y3] t :=
 (((h.putv 0 y0).putv 1 y1).putv 2 y2).putv 3 y3
theorem demValid_noD (k p q n : Int) (vy : Bool) (pic : ByteArray) (w : World) (hs : pic.size ≤ maxLen) (hv : validS k p q n vy pic = false) :
   Calls Tryz.prog 56 #[tyV k p q n vy pic] w fun e w' => e = dRef 13 ∧ Below w.heap.size w w' := by
 have HV : Hid (∀ W, Calls Tryz.prog 108 #[tyV k p q n vy pic] W fun e w' => e = .returned (.bool false) ∧ Below W.heap.size W w') := Lib.hid fun W => by
   have := valid_any k p q n vy pic W hs
   rwa [hv] at this
 clear hv hs
 go_enter Tryz.func56, Tryz.ntmps56
 go_wp2_with (first
   | (go_at_call 108; refine (HV.out _).mono ?_; rintro e w2 ⟨rfl, hb2⟩)
   | (go_at_call 47; refine (dRefuse _ _).mono ?_; rintro e w3 ⟨rfl, rfl⟩))
 exact ⟨rfl, rfl, bl_box (Below.refl _ w) hb2⟩
set_option maxHeartbeats 1000000 in
theorem zeroFixed_d (k p q n : Int) (vy : Bool) (pic : ByteArray) (w : World) :
   Calls Tryz.prog 76 #[tyV k p q n vy pic] w fun e w' => e = .returned (vaV k 0 q ⟨#[]⟩) ∧ Below w.heap.size w w' := by
 have RP := Row.new2 w (.cells #[.int .i64 k, .int .i64 p, .int .i64 q, .int .i64 n, .bool vy, .string pic] 25) (vaC k 0 q ⟨#[]⟩) 23
 go_enter Tryz.func76, Tryz.ntmps76
 go_wp2
 exact bodyPost_ret (v := vaV k 0 q ⟨#[]⟩) (results_cell_row (p := 2) (ty := 23) rfl _ _ (w.heap.size + 1) 23 #[.int .i64 k, .int .i64 0, .int .i64 q, .string ⟨#[]⟩] (0, 0) _ rfl RP Tryz.underlying23 rfl size_va) rfl ⟨rfl, by go_grown⟩
set_option maxHeartbeats 1000000 in
theorem zeroFloat_d (k p q n : Int) (vy : Bool) (pic : ByteArray) (w : World) :
   Calls Tryz.prog 89 #[tyV k p q n vy pic] w fun e w' => e = .returned (vaV k 0 0 ⟨#[]⟩) ∧ Below w.heap.size w w' := by
 have RP := Row.new2 w (.cells #[.int .i64 k, .int .i64 p, .int .i64 q, .int .i64 n, .bool vy, .string pic] 25) (vaC k 0 0 ⟨#[]⟩) 23
 go_enter Tryz.func89, Tryz.ntmps89
 go_wp2
 exact bodyPost_ret (v := vaV k 0 0 ⟨#[]⟩) (results_cell_row (p := 2) (ty := 23) rfl _ _ (w.heap.size + 1) 23 #[.int .i64 k, .int .i64 0, .int .i64 0, .string ⟨#[]⟩] (0, 0) _ rfl RP Tryz.underlying23 rfl size_va) rfl ⟨rfl, by go_grown⟩
theorem bl_box4 {w w1 w2 : World} {o o' : Obj} (h1 : Below ((w.alloc o).alloc o').heap.size ((w.alloc o).alloc o') w1) (h2 : Below w1.heap.size w1 w2) : Below w.heap.size w w2 := bl_then (bl_box2 (Below.refl _ w) h1) h2
set_option maxRecDepth 100000 in
set_option maxHeartbeats 2000000 in
theorem zeroOf_1 (p q n : Int) (vy : Bool) (pic : ByteArray) (w : World) :
   Calls Tryz.prog 110 #[tyV 1 p q n vy pic] w fun e w' => e = .returned (vaV 1 0 q ⟨#[]⟩) ∧ Below w.heap.size w w' := by
 have hfd := fld_3
 have qe : ∀ (f : Nat) (w : World), (binOp .eql 68 (fnv f) .nilFunc).run Tryz.prog w = .ok (.bool false) w := fun _ _ => by kernel_rfl
 have HZ : Hid (∀ W, Calls Tryz.prog 76 #[tyV 1 p q n vy pic] W fun e w' => e = .returned (vaV 1 0 q ⟨#[]⟩) ∧ Below W.heap.size W w') := Lib.hid fun W => zeroFixed_d 1 p q n vy pic W
 generalize hz : (⟨#[]⟩ : ByteArray) = z at HZ ⊢
 clear hz
 have RV := Row.new2 w (.cells #[.int .i64 1, .int .i64 p, .int .i64 q, .int .i64 n, .bool vy, .string pic] 25) (vaC 0 0 0 ⟨#[]⟩) 23
 have RT := (Row.new w #[.int .i64 1, .int .i64 p, .int .i64 q, .int .i64 n, .bool vy, .string pic] 25).alloc (.cells (vaC 0 0 0 ⟨#[]⟩) 23)
 go_enter Tryz.func110, Tryz.ntmps110
 go_wp2_with (first
   | (go_at_call 44; refine (rules_1 _).mono ?_; rintro e w1 ⟨rfl, hb1⟩; have R1 := RV.keep hb1; have RT1 := RT.keep hb1; obtain ⟨t0, t1, t2, t3, t4, t5⟩ := RT1.six)
   | (go_at_call 76; refine (HZ.out _).mono ?_; rintro e w2 ⟨rfl, hb2⟩; have R2 := R1.keep hb2; obtain ⟨y0, y1, y2, y3⟩ := R2.four; have f0 := R2.free 0; have f1 := R2.free 1; have f2 := R2.free 2; have f3 := R2.free 3; have HBB := Lib.hid (bl_box4 hb1 hb2); have RP := R2.putz4 (.int .i64 1) (.int .i64 0) (.int .i64 q) (.string z)))
 exact bodyPost_ret (v := vaV 1 0 q z) (results_cell_row (p := 2) (ty := 23) rfl _ _ (w.heap.size + 1) 23 #[.int .i64 1, .int .i64 0, .int .i64 q, .string z] (0, 0) _ rfl RP Tryz.underlying23 rfl size_va) rfl ⟨rfl, ((((HBB.out.setCell (by simp) _).setCell (by simp) _).setCell (by simp) _).setCell (by simp) _)⟩
set_option maxRecDepth 100000 in
set_option maxHeartbeats 2000000 in
theorem zeroOf_2 (p q n : Int) (vy : Bool) (pic : ByteArray) (w : World) :
   Calls Tryz.prog 110 #[tyV 2 p q n vy pic] w fun e w' => e = .returned (vaV 2 0 q ⟨#[]⟩) ∧ Below w.heap.size w w' := by
 have hfd := fld_3
 have qe : ∀ (f : Nat) (w : World), (binOp .eql 68 (fnv f) .nilFunc).run Tryz.prog w = .ok (.bool false) w := fun _ _ => by kernel_rfl
 have HZ : Hid (∀ W, Calls Tryz.prog 76 #[tyV 2 p q n vy pic] W fun e w' => e = .returned (vaV 2 0 q ⟨#[]⟩) ∧ Below W.heap.size W w') := Lib.hid fun W => zeroFixed_d 2 p q n vy pic W
 generalize hz : (⟨#[]⟩ : ByteArray) = z at HZ ⊢
 clear hz
 have RV := Row.new2 w (.cells #[.int .i64 2, .int .i64 p, .int .i64 q, .int .i64 n, .bool vy, .string pic] 25) (vaC 0 0 0 ⟨#[]⟩) 23
 have RT := (Row.new w #[.int .i64 2, .int .i64 p, .int .i64 q, .int .i64 n, .bool vy, .string pic] 25).alloc (.cells (vaC 0 0 0 ⟨#[]⟩) 23)
 go_enter Tryz.func110, Tryz.ntmps110
 go_wp2_with (first
   | (go_at_call 44; refine (rules_2 _).mono ?_; rintro e w1 ⟨rfl, hb1⟩; have R1 := RV.keep hb1; have RT1 := RT.keep hb1; obtain ⟨t0, t1, t2, t3, t4, t5⟩ := RT1.six)
   | (go_at_call 76; refine (HZ.out _).mono ?_; rintro e w2 ⟨rfl, hb2⟩; have R2 := R1.keep hb2; obtain ⟨y0, y1, y2, y3⟩ := R2.four; have f0 := R2.free 0; have f1 := R2.free 1; have f2 := R2.free 2; have f3 := R2.free 3; have HBB := Lib.hid (bl_box4 hb1 hb2); have RP := R2.putz4 (.int .i64 2) (.int .i64 0) (.int .i64 q) (.string z)))
 exact bodyPost_ret (v := vaV 2 0 q z) (results_cell_row (p := 2) (ty := 23) rfl _ _ (w.heap.size + 1) 23 #[.int .i64 2, .int .i64 0, .int .i64 q, .string z] (0, 0) _ rfl RP Tryz.underlying23 rfl size_va) rfl ⟨rfl, ((((HBB.out.setCell (by simp) _).setCell (by simp) _).setCell (by simp) _).setCell (by simp) _)⟩
set_option maxRecDepth 100000 in
set_option maxHeartbeats 2000000 in
theorem zeroOf_3 (p q n : Int) (vy : Bool) (pic : ByteArray) (w : World) :
   Calls Tryz.prog 110 #[tyV 3 p q n vy pic] w fun e w' => e = .returned (vaV 3 0 0 ⟨#[]⟩) ∧ Below w.heap.size w w' := by
 have hfd := fld_3
 have qe : ∀ (f : Nat) (w : World), (binOp .eql 68 (fnv f) .nilFunc).run Tryz.prog w = .ok (.bool false) w := fun _ _ => by kernel_rfl
 have HZ : Hid (∀ W, Calls Tryz.prog 89 #[tyV 3 p q n vy pic] W fun e w' => e = .returned (vaV 3 0 0 ⟨#[]⟩) ∧ Below W.heap.size W w') := Lib.hid fun W => zeroFloat_d 3 p q n vy pic W
 generalize hz : (⟨#[]⟩ : ByteArray) = z at HZ ⊢
 clear hz
 have RV := Row.new2 w (.cells #[.int .i64 3, .int .i64 p, .int .i64 q, .int .i64 n, .bool vy, .string pic] 25) (vaC 0 0 0 ⟨#[]⟩) 23
 have RT := (Row.new w #[.int .i64 3, .int .i64 p, .int .i64 q, .int .i64 n, .bool vy, .string pic] 25).alloc (.cells (vaC 0 0 0 ⟨#[]⟩) 23)
 go_enter Tryz.func110, Tryz.ntmps110
 go_wp2_with (first
   | (go_at_call 44; refine (rules_3 _).mono ?_; rintro e w1 ⟨rfl, hb1⟩; have R1 := RV.keep hb1; have RT1 := RT.keep hb1; obtain ⟨t0, t1, t2, t3, t4, t5⟩ := RT1.six)
   | (go_at_call 89; refine (HZ.out _).mono ?_; rintro e w2 ⟨rfl, hb2⟩; have R2 := R1.keep hb2; obtain ⟨y0, y1, y2, y3⟩ := R2.four; have f0 := R2.free 0; have f1 := R2.free 1; have f2 := R2.free 2; have f3 := R2.free 3; have HBB := Lib.hid (bl_box4 hb1 hb2); have RP := R2.putz4 (.int .i64 3) (.int .i64 0) (.int .i64 0) (.string z)))
 exact bodyPost_ret (v := vaV 3 0 0 z) (results_cell_row (p := 2) (ty := 23) rfl _ _ (w.heap.size + 1) 23 #[.int .i64 3, .int .i64 0, .int .i64 0, .string z] (0, 0) _ rfl RP Tryz.underlying23 rfl size_va) rfl ⟨rfl, ((((HBB.out.setCell (by simp) _).setCell (by simp) _).setCell (by simp) _).setCell (by simp) _)⟩
set_option maxRecDepth 100000 in
set_option maxHeartbeats 2000000 in
theorem zRef_13 (k : Int) (p q n : Int) (vy : Bool) (pic : ByteArray) (w : World) (hp : pic.size ≤ maxLen) (hv : validS k p q n vy pic = false) :
   Calls Tryz.prog 35 #[tyV k p q n vy pic] w fun e w' => e = .returned (.tuple #[vaV 0 0 0 ⟨#[]⟩, .int .i64 13]) ∧ Below w.heap.size w w' := by
 have HV : Hid (∀ W, Calls Tryz.prog 65 #[tyV k p q n vy pic] W fun e w' => e = .returned (.bool false) ∧ Below W.heap.size W w') := Lib.hid fun W => gvalidB false _ _ _ _ _ _ W hp hv
 have RT := (Row.new w #[.int .i64 k, .int .i64 p, .int .i64 q, .int .i64 n, .bool vy, .string pic] 25).alloc (.cells (vaC 0 0 0 ⟨#[]⟩) 23)
 have RV := Row.new2 w (.cells #[.int .i64 k, .int .i64 p, .int .i64 q, .int .i64 n, .bool vy, .string pic] 25) (vaC 0 0 0 ⟨#[]⟩) 23
 have n1 : ¬ w.heap.size = w.heap.size + 1 := by omega
 have n2 : ¬ w.heap.size + 1 = w.heap.size := by omega
 clear hp hv
 go_enter Tryz.func35, Tryz.ntmps35
 go_wp2_with (go_at_call 65; refine (HV.out _).mono ?_; rintro e w1 ⟨rfl, hb1⟩; have B1 := Lib.hid (bl_box2 (Below.refl _ w) hb1); have T1 := RT.keep hb1; have Z1 := RV.keep hb1; have lz := Z1.lt; have lt := T1.lt; have hz0 : w.heap.size ≤ w1.heap.size := (by omega); obtain ⟨t0, t1, t2, t3, t4, t5⟩ := T1.six; obtain ⟨z0, z1, z2, z3⟩ := Z1.four; have f0 := Z1.free 0; have f1 := Z1.free 1; have f2 := Z1.free 2; have f3 := Z1.free 3)
 refine bodyPost_ret (v := .tuple #[vaV 0 0 0 ⟨#[]⟩, .int .i64 13]) (by simp [results, Tryz.results35, go_sem, z0, z1, z2, z3]) rfl ⟨rfl, ?_⟩
 (repeat refine Below.setCell ?_ (by simp <;> omega) _)
 exact B1.out
set_option maxRecDepth 100000 in
set_option maxHeartbeats 2000000 in
theorem zRef_1 (p q n : Int) (vy : Bool) (pic : ByteArray) (w : World) (hp : pic.size ≤ maxLen) (hv : validS 1 p q n vy pic = true) :
   Calls Tryz.prog 35 #[tyV 1 p q n vy pic] w fun e w' => e = .returned (.tuple #[vaV 1 0 q ⟨#[]⟩, .int .i64 0]) ∧ Below w.heap.size w w' := by
 have HV : Hid (∀ W, Calls Tryz.prog 65 #[tyV 1 p q n vy pic] W fun e w' => e = .returned (.bool true) ∧ Below W.heap.size W w') := Lib.hid fun W => gvalidB true _ _ _ _ _ _ W hp hv
 have RT := (Row.new w #[.int .i64 1, .int .i64 p, .int .i64 q, .int .i64 n, .bool vy, .string pic] 25).alloc (.cells (vaC 0 0 0 ⟨#[]⟩) 23)
 have RV := Row.new2 w (.cells #[.int .i64 1, .int .i64 p, .int .i64 q, .int .i64 n, .bool vy, .string pic] 25) (vaC 0 0 0 ⟨#[]⟩) 23
 have n1 : ¬ w.heap.size = w.heap.size + 1 := by omega
 have n2 : ¬ w.heap.size + 1 = w.heap.size := by omega
 clear hp hv
 go_enter Tryz.func35, Tryz.ntmps35
 go_wp2_with (go_at_call 65; refine (HV.out _).mono ?_; rintro e w1 ⟨rfl, hb1⟩; have B1 := Lib.hid (bl_box2 (Below.refl _ w) hb1); have T1 := RT.keep hb1; have Z1 := RV.keep hb1; have lz := Z1.lt; have lt := T1.lt; have hz0 : w.heap.size ≤ w1.heap.size := (by omega); obtain ⟨t0, t1, t2, t3, t4, t5⟩ := T1.six; obtain ⟨z0, z1, z2, z3⟩ := Z1.four; have f0 := Z1.free 0; have f1 := Z1.free 1; have f2 := Z1.free 2; have f3 := Z1.free 3)
 have RP := (Z1.putz4 (.int .i64 1) (.int .i64 0) (.int .i64 q) (.string ⟨#[]⟩)).alloc (.cells (vaC 1 0 q ⟨#[]⟩) 23)
 have HBB : Hid (Below w.heap.size w (((((w1.setCell ⟨w.heap.size + 1, 0, none⟩ (.int .i64 1)).setCell ⟨w.heap.size + 1, 1, none⟩ (.int .i64 0)).setCell ⟨w.heap.size + 1, 2, none⟩ (.int .i64 q)).setCell ⟨w.heap.size + 1, 3, none⟩ (.string ⟨#[]⟩)).alloc (.cells (vaC 1 0 q ⟨#[]⟩) 23))) := Lib.hid (((((B1.out.setCell (by simp) _).setCell (by simp) _).setCell (by simp) _).setCell (by simp) _).alloc (by simp; omega) _)
 clear z0 z1 z2 z3 f0 f1 f2 f3 t0 t1 t2 t3 t4 t5 Z1 T1 B1
 generalize (((((w1.setCell ⟨w.heap.size + 1, 0, none⟩ (.int .i64 1)).setCell ⟨w.heap.size + 1, 1, none⟩ (.int .i64 0)).setCell ⟨w.heap.size + 1, 2, none⟩ (.int .i64 q)).setCell ⟨w.heap.size + 1, 3, none⟩ (.string ⟨#[]⟩)).alloc (.cells (vaC 1 0 q ⟨#[]⟩) 23)) = W7 at *
 obtain ⟨y0, y1, y2, y3⟩ := RP.four
 refine bodyPost_ret (v := .tuple #[vaV 1 0 q ⟨#[]⟩, .int .i64 0]) (by simp [results, Tryz.results35, go_sem, y0, y1, y2, y3]) rfl ⟨rfl, HBB.out⟩
set_option maxRecDepth 100000 in
set_option maxHeartbeats 2000000 in
theorem zRef_2 (p q n : Int) (vy : Bool) (pic : ByteArray) (w : World) (hp : pic.size ≤ maxLen) (hv : validS 2 p q n vy pic = true) :
   Calls Tryz.prog 35 #[tyV 2 p q n vy pic] w fun e w' => e = .returned (.tuple #[vaV 2 0 q ⟨#[]⟩, .int .i64 0]) ∧ Below w.heap.size w w' := by
 have HV : Hid (∀ W, Calls Tryz.prog 65 #[tyV 2 p q n vy pic] W fun e w' => e = .returned (.bool true) ∧ Below W.heap.size W w') := Lib.hid fun W => gvalidB true _ _ _ _ _ _ W hp hv
 have RT := (Row.new w #[.int .i64 2, .int .i64 p, .int .i64 q, .int .i64 n, .bool vy, .string pic] 25).alloc (.cells (vaC 0 0 0 ⟨#[]⟩) 23)
 have RV := Row.new2 w (.cells #[.int .i64 2, .int .i64 p, .int .i64 q, .int .i64 n, .bool vy, .string pic] 25) (vaC 0 0 0 ⟨#[]⟩) 23
 have n1 : ¬ w.heap.size = w.heap.size + 1 := by omega
 have n2 : ¬ w.heap.size + 1 = w.heap.size := by omega
 clear hp hv
 go_enter Tryz.func35, Tryz.ntmps35
 go_wp2_with (go_at_call 65; refine (HV.out _).mono ?_; rintro e w1 ⟨rfl, hb1⟩; have B1 := Lib.hid (bl_box2 (Below.refl _ w) hb1); have T1 := RT.keep hb1; have Z1 := RV.keep hb1; have lz := Z1.lt; have lt := T1.lt; have hz0 : w.heap.size ≤ w1.heap.size := (by omega); obtain ⟨t0, t1, t2, t3, t4, t5⟩ := T1.six; obtain ⟨z0, z1, z2, z3⟩ := Z1.four; have f0 := Z1.free 0; have f1 := Z1.free 1; have f2 := Z1.free 2; have f3 := Z1.free 3)
 have RP := (Z1.putz4 (.int .i64 2) (.int .i64 0) (.int .i64 q) (.string ⟨#[]⟩)).alloc (.cells (vaC 2 0 q ⟨#[]⟩) 23)
 have HBB : Hid (Below w.heap.size w (((((w1.setCell ⟨w.heap.size + 1, 0, none⟩ (.int .i64 2)).setCell ⟨w.heap.size + 1, 1, none⟩ (.int .i64 0)).setCell ⟨w.heap.size + 1, 2, none⟩ (.int .i64 q)).setCell ⟨w.heap.size + 1, 3, none⟩ (.string ⟨#[]⟩)).alloc (.cells (vaC 2 0 q ⟨#[]⟩) 23))) := Lib.hid (((((B1.out.setCell (by simp) _).setCell (by simp) _).setCell (by simp) _).setCell (by simp) _).alloc (by simp; omega) _)
 clear z0 z1 z2 z3 f0 f1 f2 f3 t0 t1 t2 t3 t4 t5 Z1 T1 B1
 generalize (((((w1.setCell ⟨w.heap.size + 1, 0, none⟩ (.int .i64 2)).setCell ⟨w.heap.size + 1, 1, none⟩ (.int .i64 0)).setCell ⟨w.heap.size + 1, 2, none⟩ (.int .i64 q)).setCell ⟨w.heap.size + 1, 3, none⟩ (.string ⟨#[]⟩)).alloc (.cells (vaC 2 0 q ⟨#[]⟩) 23)) = W7 at *
 obtain ⟨y0, y1, y2, y3⟩ := RP.four
 refine bodyPost_ret (v := .tuple #[vaV 2 0 q ⟨#[]⟩, .int .i64 0]) (by simp [results, Tryz.results35, go_sem, y0, y1, y2, y3]) rfl ⟨rfl, HBB.out⟩
set_option maxRecDepth 100000 in
set_option maxHeartbeats 2000000 in
theorem zRef_3 (p q n : Int) (vy : Bool) (pic : ByteArray) (w : World) (hp : pic.size ≤ maxLen) (hv : validS 3 p q n vy pic = true) :
   Calls Tryz.prog 35 #[tyV 3 p q n vy pic] w fun e w' => e = .returned (.tuple #[vaV 3 0 0 ⟨#[]⟩, .int .i64 0]) ∧ Below w.heap.size w w' := by
 have HV : Hid (∀ W, Calls Tryz.prog 65 #[tyV 3 p q n vy pic] W fun e w' => e = .returned (.bool true) ∧ Below W.heap.size W w') := Lib.hid fun W => gvalidB true _ _ _ _ _ _ W hp hv
 have RT := (Row.new w #[.int .i64 3, .int .i64 p, .int .i64 q, .int .i64 n, .bool vy, .string pic] 25).alloc (.cells (vaC 0 0 0 ⟨#[]⟩) 23)
 have RV := Row.new2 w (.cells #[.int .i64 3, .int .i64 p, .int .i64 q, .int .i64 n, .bool vy, .string pic] 25) (vaC 0 0 0 ⟨#[]⟩) 23
 have n1 : ¬ w.heap.size = w.heap.size + 1 := by omega
 have n2 : ¬ w.heap.size + 1 = w.heap.size := by omega
 clear hp hv
 go_enter Tryz.func35, Tryz.ntmps35
 go_wp2_with (go_at_call 65; refine (HV.out _).mono ?_; rintro e w1 ⟨rfl, hb1⟩; have B1 := Lib.hid (bl_box2 (Below.refl _ w) hb1); have T1 := RT.keep hb1; have Z1 := RV.keep hb1; have lz := Z1.lt; have lt := T1.lt; have hz0 : w.heap.size ≤ w1.heap.size := (by omega); obtain ⟨t0, t1, t2, t3, t4, t5⟩ := T1.six; obtain ⟨z0, z1, z2, z3⟩ := Z1.four; have f0 := Z1.free 0; have f1 := Z1.free 1; have f2 := Z1.free 2; have f3 := Z1.free 3)
 have RP := (Z1.putz4 (.int .i64 3) (.int .i64 0) (.int .i64 0) (.string ⟨#[]⟩)).alloc (.cells (vaC 3 0 0 ⟨#[]⟩) 23)
 have HBB : Hid (Below w.heap.size w (((((w1.setCell ⟨w.heap.size + 1, 0, none⟩ (.int .i64 3)).setCell ⟨w.heap.size + 1, 1, none⟩ (.int .i64 0)).setCell ⟨w.heap.size + 1, 2, none⟩ (.int .i64 0)).setCell ⟨w.heap.size + 1, 3, none⟩ (.string ⟨#[]⟩)).alloc (.cells (vaC 3 0 0 ⟨#[]⟩) 23))) := Lib.hid (((((B1.out.setCell (by simp) _).setCell (by simp) _).setCell (by simp) _).setCell (by simp) _).alloc (by simp; omega) _)
 clear z0 z1 z2 z3 f0 f1 f2 f3 t0 t1 t2 t3 t4 t5 Z1 T1 B1
 generalize (((((w1.setCell ⟨w.heap.size + 1, 0, none⟩ (.int .i64 3)).setCell ⟨w.heap.size + 1, 1, none⟩ (.int .i64 0)).setCell ⟨w.heap.size + 1, 2, none⟩ (.int .i64 0)).setCell ⟨w.heap.size + 1, 3, none⟩ (.string ⟨#[]⟩)).alloc (.cells (vaC 3 0 0 ⟨#[]⟩) 23)) = W7 at *
 obtain ⟨y0, y1, y2, y3⟩ := RP.four
 refine bodyPost_ret (v := .tuple #[vaV 3 0 0 ⟨#[]⟩, .int .i64 0]) (by simp [results, Tryz.results35, go_sem, y0, y1, y2, y3]) rfl ⟨rfl, HBB.out⟩
end Go.Proofs.YtpdoddhieblooaaGreatDoor
