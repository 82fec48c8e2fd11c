/- digit: refuse, demandNumber, exactly. digit: exactly. digit.Right: what a right number's fields are; some Bool else. digit.demandRight over a slice of values. digit: values and types that are right: what demands let through. digit: the sign of a difference is an order: plain numbers. digit: a right number's exact value: numerator, unit, and how long they are; exactly of any value. The law DigitTwo, walked over the answers of its calls. -/
import Derived.Test.YtpdoddhieblooaaGreatDoorKWrdXs
import Derived.Test.YtpdoddhieblooaaGreatDoorKRules
import Derived.Test.YtpdoddhieblooaaGreatDoorKBit0
namespace Go.Proofs.YtpdoddhieblooaaGreatDoor
open Go.RowKit

abbrev dRef (n : Int) : Ending := .panicked [{ v := .iface 74 (.int .i64 n), recovered := false }]
abbrev vaV (k n q : Int) (s : ByteArray) : Value := .agg #[.int .i64 k, .int .i64 n, .int .i64 q, .string s]
abbrev vaC (k n q : Int) (s : ByteArray) : Array Value := #[.int .i64 k, .int .i64 n, .int .i64 q, .string s]
theorem dRefuse (n : Int) (w : World) : Calls Tryz.prog 47 #[.int .i64 n] w fun e w' => e = dRef n ∧ w = w' := by
 go_enter Tryz.func47, Tryz.ntmps47
 go_wp2
 first | exact ⟨rfl, rfl, rfl⟩ | exact ⟨rfl, rfl⟩
set_option maxRecDepth 100000 in
set_option maxHeartbeats 1000000 in
theorem demNum_1 (n q : Int) (s : ByteArray) (w : World) :
   Calls Tryz.prog 43 #[vaV 1 n q s] w fun e w' => e = .returned (.tuple #[]) ∧ Below w.heap.size w w' := by
 have q4 := fld_4
 have qe : ∀ (f : Nat) (w : World), (binOp .eql 44 (fnv f) .nilFunc).run Tryz.prog w = .ok (.bool false) w := fun _ _ => by kernel_rfl
 have qn : ∀ (w : World), (binOp .eql 44 .nilFunc .nilFunc).run Tryz.prog w = .ok (.bool true) w := fun _ => by kernel_rfl
 go_enter Tryz.func43, Tryz.ntmps43
 go_wp2_with (go_at_call 44; refine (rules_1 _).mono ?_; rintro e w2 ⟨rfl, hb2⟩)
 go_end0
 exact ⟨rfl, bl_box (Below.refl _ w) hb2⟩
set_option maxRecDepth 100000 in
set_option maxHeartbeats 1000000 in
theorem demNum_2 (n q : Int) (s : ByteArray) (w : World) :
   Calls Tryz.prog 43 #[vaV 2 n q s] w fun e w' => e = .returned (.tuple #[]) ∧ Below w.heap.size w w' := by
 have q4 := fld_4
 have qe : ∀ (f : Nat) (w : World), (binOp .eql 44 (fnv f) .nilFunc).run Tryz.prog w = .ok (.bool false) w := fun _ _ => by kernel_rfl
 have qn : ∀ (w : World), (binOp .eql 44 .nilFunc .nilFunc).run Tryz.prog w = .ok (.bool true) w := fun _ => by kernel_rfl
 go_enter Tryz.func43, Tryz.ntmps43
 go_wp2_with (go_at_call 44; refine (rules_2 _).mono ?_; rintro e w2 ⟨rfl, hb2⟩)
 go_end0
 exact ⟨rfl, bl_box (Below.refl _ w) hb2⟩
set_option maxRecDepth 100000 in
set_option maxHeartbeats 1000000 in
theorem demNum_3 (n q : Int) (s : ByteArray) (w : World) :
   Calls Tryz.prog 43 #[vaV 3 n q s] w fun e w' => e = .returned (.tuple #[]) ∧ Below w.heap.size w w' := by
 have q4 := fld_4
 have qe : ∀ (f : Nat) (w : World), (binOp .eql 44 (fnv f) .nilFunc).run Tryz.prog w = .ok (.bool false) w := fun _ _ => by kernel_rfl
 have qn : ∀ (w : World), (binOp .eql 44 .nilFunc .nilFunc).run Tryz.prog w = .ok (.bool true) w := fun _ => by kernel_rfl
 go_enter Tryz.func43, Tryz.ntmps43
 go_wp2_with (go_at_call 44; refine (rules_3 _).mono ?_; rintro e w2 ⟨rfl, hb2⟩)
 go_end0
 exact ⟨rfl, bl_box (Below.refl _ w) hb2⟩
set_option maxRecDepth 100000 in
set_option maxHeartbeats 1000000 in
theorem demNum_no (k n q : Int) (s : ByteArray) (w : World) (hk : k < 1 ∨ 10 ≤ k) :
   Calls Tryz.prog 43 #[vaV k n q s] w fun e w' => e = dRef 10 ∧ Below w.heap.size w w' := by
 have q4 := fld_4
 have qn : ∀ (w : World), (binOp .eql 44 .nilFunc .nilFunc).run Tryz.prog w = .ok (.bool true) w := fun _ => by kernel_rfl
 have HK := Lib.hid hk
 clear hk
 go_enter Tryz.func43, Tryz.ntmps43
 go_wp2_with (first
   | (go_at_call 44; refine (rules_no k _ HK.out).mono ?_; rintro e w2 ⟨rfl, hb2⟩)
   | (go_at_call 47; refine (dRefuse _ _).mono ?_; rintro e w3 ⟨rfl, rfl⟩))
 exact ⟨rfl, rfl, bl_box (Below.refl _ w) hb2⟩
set_option maxRecDepth 100000 in
set_option maxHeartbeats 1000000 in
theorem demNum_4 (n q : Int) (s : ByteArray) (w : World) :
   Calls Tryz.prog 43 #[vaV 4 n q s] w fun e w' => e = dRef 10 ∧ Below w.heap.size w w' := by
 have q4 := fld_4
 have qe : ∀ (f : Nat) (w : World), (binOp .eql 44 (fnv f) .nilFunc).run Tryz.prog w = .ok (.bool false) w := fun _ _ => by kernel_rfl
 have qn : ∀ (w : World), (binOp .eql 44 .nilFunc .nilFunc).run Tryz.prog w = .ok (.bool true) w := fun _ => by kernel_rfl
 go_enter Tryz.func43, Tryz.ntmps43
 go_wp2_with (first
   | (go_at_call 44; refine (rules_4 _).mono ?_; rintro e w2 ⟨rfl, hb2⟩)
   | (go_at_call 47; refine (dRefuse _ _).mono ?_; rintro e w3 ⟨rfl, rfl⟩))
 exact ⟨rfl, rfl, bl_box (Below.refl _ w) hb2⟩
set_option maxRecDepth 100000 in
set_option maxHeartbeats 1000000 in
theorem demNum_5 (n q : Int) (s : ByteArray) (w : World) :
   Calls Tryz.prog 43 #[vaV 5 n q s] w fun e w' => e = dRef 10 ∧ Below w.heap.size w w' := by
 have q4 := fld_4
 have qe : ∀ (f : Nat) (w : World), (binOp .eql 44 (fnv f) .nilFunc).run Tryz.prog w = .ok (.bool false) w := fun _ _ => by kernel_rfl
 have qn : ∀ (w : World), (binOp .eql 44 .nilFunc .nilFunc).run Tryz.prog w = .ok (.bool true) w := fun _ => by kernel_rfl
 go_enter Tryz.func43, Tryz.ntmps43
 go_wp2_with (first
   | (go_at_call 44; refine (rules_5 _).mono ?_; rintro e w2 ⟨rfl, hb2⟩)
   | (go_at_call 47; refine (dRefuse _ _).mono ?_; rintro e w3 ⟨rfl, rfl⟩))
 exact ⟨rfl, rfl, bl_box (Below.refl _ w) hb2⟩
set_option maxRecDepth 100000 in
set_option maxHeartbeats 1000000 in
theorem demNum_6 (n q : Int) (s : ByteArray) (w : World) :
   Calls Tryz.prog 43 #[vaV 6 n q s] w fun e w' => e = dRef 10 ∧ Below w.heap.size w w' := by
 have q4 := fld_4
 have qe : ∀ (f : Nat) (w : World), (binOp .eql 44 (fnv f) .nilFunc).run Tryz.prog w = .ok (.bool false) w := fun _ _ => by kernel_rfl
 have qn : ∀ (w : World), (binOp .eql 44 .nilFunc .nilFunc).run Tryz.prog w = .ok (.bool true) w := fun _ => by kernel_rfl
 go_enter Tryz.func43, Tryz.ntmps43
 go_wp2_with (first
   | (go_at_call 44; refine (rules_6 _).mono ?_; rintro e w2 ⟨rfl, hb2⟩)
   | (go_at_call 47; refine (dRefuse _ _).mono ?_; rintro e w3 ⟨rfl, rfl⟩))
 exact ⟨rfl, rfl, bl_box (Below.refl _ w) hb2⟩
set_option maxRecDepth 100000 in
set_option maxHeartbeats 1000000 in
theorem demNum_7 (n q : Int) (s : ByteArray) (w : World) :
   Calls Tryz.prog 43 #[vaV 7 n q s] w fun e w' => e = dRef 10 ∧ Below w.heap.size w w' := by
 have q4 := fld_4
 have qe : ∀ (f : Nat) (w : World), (binOp .eql 44 (fnv f) .nilFunc).run Tryz.prog w = .ok (.bool false) w := fun _ _ => by kernel_rfl
 have qn : ∀ (w : World), (binOp .eql 44 .nilFunc .nilFunc).run Tryz.prog w = .ok (.bool true) w := fun _ => by kernel_rfl
 go_enter Tryz.func43, Tryz.ntmps43
 go_wp2_with (first
   | (go_at_call 44; refine (rules_7 _).mono ?_; rintro e w2 ⟨rfl, hb2⟩)
   | (go_at_call 47; refine (dRefuse _ _).mono ?_; rintro e w3 ⟨rfl, rfl⟩))
 exact ⟨rfl, rfl, bl_box (Below.refl _ w) hb2⟩
set_option maxRecDepth 100000 in
set_option maxHeartbeats 1000000 in
theorem demNum_8 (n q : Int) (s : ByteArray) (w : World) :
   Calls Tryz.prog 43 #[vaV 8 n q s] w fun e w' => e = dRef 10 ∧ Below w.heap.size w w' := by
 have q4 := fld_4
 have qe : ∀ (f : Nat) (w : World), (binOp .eql 44 (fnv f) .nilFunc).run Tryz.prog w = .ok (.bool false) w := fun _ _ => by kernel_rfl
 have qn : ∀ (w : World), (binOp .eql 44 .nilFunc .nilFunc).run Tryz.prog w = .ok (.bool true) w := fun _ => by kernel_rfl
 go_enter Tryz.func43, Tryz.ntmps43
 go_wp2_with (first
   | (go_at_call 44; refine (rules_8 _).mono ?_; rintro e w2 ⟨rfl, hb2⟩)
   | (go_at_call 47; refine (dRefuse _ _).mono ?_; rintro e w3 ⟨rfl, rfl⟩))
 exact ⟨rfl, rfl, bl_box (Below.refl _ w) hb2⟩
set_option maxRecDepth 100000 in
set_option maxHeartbeats 1000000 in
theorem demNum_9 (n q : Int) (s : ByteArray) (w : World) :
   Calls Tryz.prog 43 #[vaV 9 n q s] w fun e w' => e = dRef 10 ∧ Below w.heap.size w w' := by
 have q4 := fld_4
 have qe : ∀ (f : Nat) (w : World), (binOp .eql 44 (fnv f) .nilFunc).run Tryz.prog w = .ok (.bool false) w := fun _ _ => by kernel_rfl
 have qn : ∀ (w : World), (binOp .eql 44 .nilFunc .nilFunc).run Tryz.prog w = .ok (.bool true) w := fun _ => by kernel_rfl
 go_enter Tryz.func43, Tryz.ntmps43
 go_wp2_with (first
   | (go_at_call 44; refine (rules_9 _).mono ?_; rintro e w2 ⟨rfl, hb2⟩)
   | (go_at_call 47; refine (dRefuse _ _).mono ?_; rintro e w3 ⟨rfl, rfl⟩))
 exact ⟨rfl, rfl, bl_box (Below.refl _ w) hb2⟩
theorem demNum_else (k n q : Int) (s : ByteArray) (w : World) (h : ¬ (k = 1 ∨ k = 2 ∨ k = 3)) :
   Calls Tryz.prog 43 #[vaV k n q s] w fun e w' => e = dRef 10 ∧ Below w.heap.size w w' := by
 by_cases hk : k < 1 ∨ 10 ≤ k
 · exact demNum_no k n q s w hk
 · rcases (by omega : k = 4 ∨ k = 5 ∨ k = 6 ∨ k = 7 ∨ k = 8 ∨ k = 9) with rfl | rfl | rfl | rfl | rfl | rfl
   · exact demNum_4 n q s w
   · exact demNum_5 n q s w
   · exact demNum_6 n q s w
   · exact demNum_7 n q s w
   · exact demNum_8 n q s w
   · exact demNum_9 n q s w
set_option maxRecDepth 100000 in
set_option maxHeartbeats 1000000 in
theorem exactly_no (k n q : Int) (s : ByteArray) (w : World) (h : ¬ (k = 1 ∨ k = 2 ∨ k = 3)) :
   Calls Tryz.prog 22 #[vaV k n q s] w fun e w' => e = dRef 10 ∧ Below w.heap.size w w' := by
 have HK := Lib.hid h
 clear h
 go_enter Tryz.func22, Tryz.ntmps22
 go_wp2_with (go_at_call 43; refine (demNum_else k n q s _ HK.out).mono ?_; rintro e w2 ⟨rfl, hb2⟩)
 exact ⟨rfl, rfl, bl_box2 (Below.refl _ w) hb2⟩
end Go.Proofs.YtpdoddhieblooaaGreatDoor
namespace Go.Proofs.YtpdoddhieblooaaGreatDoor
open Go.RowKit

set_option maxRecDepth 100000 in
set_option maxHeartbeats 4000000 in
theorem exactly_1 {P : Nat → Prop} (n : Int) (q : Nat) (s : ByteArray) (w : World) (hP : ∀ c, w.heap.size ≤ c → P c) (h1 : -9223372036854775807 ≤ n) (h2 : n ≤ 9223372036854775807) (hq : q ≤ 10000) :
   Calls Tryz.prog 22 #[vaV 1 n (q : Int) s] w fun e w' => ∃ y, e = .returned y ∧ XArgP P w' y n (2 ^ q) ∧ Below w.heap.size w w' := by
 have q4 := fld_4
 have hcf : ∀ (args : Array Value) (W : World), (callFunc 77 args).run Tryz.prog W = .ok (.enter 77 args) W := fun _ _ => by kernel_rfl
 obtain ⟨Q, hQ⟩ : ∃ Q : Nat → Prop, Q = fun c => P c ∧ c ≠ w.heap.size + 1 := ⟨_, rfl⟩
 have HQ : Hid (∀ c, w.heap.size + 1 + 1 ≤ c → Q c) := Lib.hid fun c hc => by rw [hQ]; exact ⟨hP c (by omega), by omega⟩
 have HQP : Hid (∀ c, Q c → P c) := Lib.hid fun c hc => by rw [hQ] at hc; exact hc.1
 have HQN : Hid (∀ c, Q c → c ≠ w.heap.size + 1) := Lib.hid fun c hc => by rw [hQ] at hc; exact hc.2
 obtain ⟨U, hU⟩ : ∃ U, (2 ^ q) = U := ⟨_, rfl⟩
 have HEX : Hid (∀ W, (∀ c, W.heap.size ≤ c → Q c) → Calls Tryz.prog 77 #[vaV 1 n (q : Int) s] W fun e w' => ∃ y, e = .returned y ∧ XArgP Q w' y n U ∧ Below W.heap.size W w') := Lib.hid fun W h3 => by
   rw [← hU]; exact exactBin_x 1 n q s W h3 h1 h2 hq
 rw [hU]
 clear hP h1 h2 hq hQ hU
 have RA := (Row.new w (vaC 1 n (q : Int) s) 23).alloc (.cells (exC (.slice none 0 0) false (.slice none 0 0)) 43)
 have RZ := Row.new2 w (.cells (vaC 1 n (q : Int) s) 23) (exC (.slice none 0 0) false (.slice none 0 0)) 43
 go_enter Tryz.func22, Tryz.ntmps22
 go_wp2_with (go_at_call 43; refine (demNum_1 n _ s _).mono ?_; rintro e w1 ⟨rfl, hb1⟩; have A1 := RA.keep hb1; have Z1 := RZ.keep hb1; have B1 := Lib.hid (bl_box2 (Below.refl _ w) hb1); have hs1 := hb1.size; obtain ⟨x0, x1, x2, x3⟩ := A1.four; clear hb1)
 have hsz : w.heap.size + 1 + 1 ≤ w1.heap.size := by simpa using hs1
 clear hs1
 go_region_held3 (fun w' => w'.cell? ⟨w.heap.size, 0, none⟩ = some (.int .i64 1) ∧ w'.cell? ⟨w.heap.size, 1, none⟩ = some (.int .i64 n) ∧ w'.cell? ⟨w.heap.size, 2, none⟩ = some (.int .i64 (q : Int)) ∧ w'.cell? ⟨w.heap.size, 3, none⟩ = some (.string s))
   (first | go_keep | exact A3.four | exact A2.four | ((try dsimp only); (repeat' apply And.intro) <;> go_keep))
   (first
     | (go_at_call 44; refine (rules_1 _).mono ?_; rintro e w2 ⟨rfl, hb2⟩; have A2 := A1.keep (bl_drew hb2); have Z2 := Z1.keep (bl_drew hb2); have hs2 := Nat.le_trans hsz (bl_drew hb2).size)
     | (go_at_call 77; refine (HEX.out _ (fun c hc => HQ.out c (Nat.le_trans hs2 hc))).mono ?_; rintro e w3 ⟨y, rfl, X3, hb3⟩; have A3 := A2.keep hb3; have Z3 := Z2.keep hb3; have X3' := Lib.hid X3; obtain ⟨p3, k3, q3, m3, rfl⟩ := X3.x.open; clear X3; obtain ⟨z0, z1, z2⟩ := Z3.ex; have f0 := Z3.free 0; have f1 := Z3.free 1; have f2 := Z3.free 2))
 go_wp2
 refine bodyPost_ret (v := exV (.slice p3 (wrds n.natAbs).length k3) (decide (n < 0)) (.slice q3 (wrds U).length m3)) (by simp [results, Tryz.results22, go_sem, z0, z1, z2]) rfl ⟨_, rfl, ?_, ?_⟩
 · exact (((X3'.out.put _ _ HQN.out).put _ _ HQN.out).put _ _ HQN.out).weak fun c _ hc => HQP.out c hc
 · (repeat refine Below.setCell ?_ (by simp <;> omega) _)
   exact bl_then B1.out (bl_then (bl_drew hb2) hb3)
set_option maxRecDepth 100000 in
set_option maxHeartbeats 4000000 in
theorem exactly_2 {P : Nat → Prop} (n : Int) (q : Nat) (s : ByteArray) (w : World) (hP : ∀ c, w.heap.size ≤ c → P c) (h1 : -9223372036854775807 ≤ n) (h2 : n ≤ 9223372036854775807) (hq : q ≤ 10000) :
   Calls Tryz.prog 22 #[vaV 2 n (q : Int) s] w fun e w' => ∃ y, e = .returned y ∧ XArgP P w' y n (10 ^ q) ∧ Below w.heap.size w w' := by
 have q4 := fld_4
 have hcf : ∀ (args : Array Value) (W : World), (callFunc 83 args).run Tryz.prog W = .ok (.enter 83 args) W := fun _ _ => by kernel_rfl
 obtain ⟨Q, hQ⟩ : ∃ Q : Nat → Prop, Q = fun c => P c ∧ c ≠ w.heap.size + 1 := ⟨_, rfl⟩
 have HQ : Hid (∀ c, w.heap.size + 1 + 1 ≤ c → Q c) := Lib.hid fun c hc => by rw [hQ]; exact ⟨hP c (by omega), by omega⟩
 have HQP : Hid (∀ c, Q c → P c) := Lib.hid fun c hc => by rw [hQ] at hc; exact hc.1
 have HQN : Hid (∀ c, Q c → c ≠ w.heap.size + 1) := Lib.hid fun c hc => by rw [hQ] at hc; exact hc.2
 obtain ⟨U, hU⟩ : ∃ U, (10 ^ q) = U := ⟨_, rfl⟩
 have HEX : Hid (∀ W, (∀ c, W.heap.size ≤ c → Q c) → Calls Tryz.prog 83 #[vaV 2 n (q : Int) s] W fun e w' => ∃ y, e = .returned y ∧ XArgP Q w' y n U ∧ Below W.heap.size W w') := Lib.hid fun W h3 => by
   rw [← hU]; exact exactDec_x 2 n q s W h3 h1 h2 hq
 rw [hU]
 clear hP h1 h2 hq hQ hU
 have RA := (Row.new w (vaC 2 n (q : Int) s) 23).alloc (.cells (exC (.slice none 0 0) false (.slice none 0 0)) 43)
 have RZ := Row.new2 w (.cells (vaC 2 n (q : Int) s) 23) (exC (.slice none 0 0) false (.slice none 0 0)) 43
 go_enter Tryz.func22, Tryz.ntmps22
 go_wp2_with (go_at_call 43; refine (demNum_2 n _ s _).mono ?_; rintro e w1 ⟨rfl, hb1⟩; have A1 := RA.keep hb1; have Z1 := RZ.keep hb1; have B1 := Lib.hid (bl_box2 (Below.refl _ w) hb1); have hs1 := hb1.size; obtain ⟨x0, x1, x2, x3⟩ := A1.four; clear hb1)
 have hsz : w.heap.size + 1 + 1 ≤ w1.heap.size := by simpa using hs1
 clear hs1
 go_region_held3 (fun w' => w'.cell? ⟨w.heap.size, 0, none⟩ = some (.int .i64 2) ∧ w'.cell? ⟨w.heap.size, 1, none⟩ = some (.int .i64 n) ∧ w'.cell? ⟨w.heap.size, 2, none⟩ = some (.int .i64 (q : Int)) ∧ w'.cell? ⟨w.heap.size, 3, none⟩ = some (.string s))
   (first | go_keep | exact A3.four | exact A2.four | ((try dsimp only); (repeat' apply And.intro) <;> go_keep))
   (first
     | (go_at_call 44; refine (rules_2 _).mono ?_; rintro e w2 ⟨rfl, hb2⟩; have A2 := A1.keep (bl_drew hb2); have Z2 := Z1.keep (bl_drew hb2); have hs2 := Nat.le_trans hsz (bl_drew hb2).size)
     | (go_at_call 83; refine (HEX.out _ (fun c hc => HQ.out c (Nat.le_trans hs2 hc))).mono ?_; rintro e w3 ⟨y, rfl, X3, hb3⟩; have A3 := A2.keep hb3; have Z3 := Z2.keep hb3; have X3' := Lib.hid X3; obtain ⟨p3, k3, q3, m3, rfl⟩ := X3.x.open; clear X3; obtain ⟨z0, z1, z2⟩ := Z3.ex; have f0 := Z3.free 0; have f1 := Z3.free 1; have f2 := Z3.free 2))
 go_wp2
 refine bodyPost_ret (v := exV (.slice p3 (wrds n.natAbs).length k3) (decide (n < 0)) (.slice q3 (wrds U).length m3)) (by simp [results, Tryz.results22, go_sem, z0, z1, z2]) rfl ⟨_, rfl, ?_, ?_⟩
 · exact (((X3'.out.put _ _ HQN.out).put _ _ HQN.out).put _ _ HQN.out).weak fun c _ hc => HQP.out c hc
 · (repeat refine Below.setCell ?_ (by simp <;> omega) _)
   exact bl_then B1.out (bl_then (bl_drew hb2) hb3)
set_option maxRecDepth 100000 in
set_option maxHeartbeats 4000000 in
theorem exactly_3 {P : Nat → Prop} (n : Int) (q : Int) (s : ByteArray) (w : World) (hP : ∀ c, w.heap.size ≤ c → P c) (h1 : -9223372036854775807 ≤ n) (h2 : n ≤ 9223372036854775807) (hq1 : -20000 ≤ q) (hq2 : q ≤ 20000) :
   Calls Tryz.prog 22 #[vaV 3 n q s] w fun e w' => ∃ y, e = .returned y ∧ XArgP P w' y (shN n q) (shU 1 q) ∧ Below w.heap.size w w' := by
 have q4 := fld_4
 have hcf : ∀ (args : Array Value) (W : World), (callFunc 90 args).run Tryz.prog W = .ok (.enter 90 args) W := fun _ _ => by kernel_rfl
 obtain ⟨Q, hQ⟩ : ∃ Q : Nat → Prop, Q = fun c => P c ∧ c ≠ w.heap.size + 1 := ⟨_, rfl⟩
 have HQ : Hid (∀ c, w.heap.size + 1 + 1 ≤ c → Q c) := Lib.hid fun c hc => by rw [hQ]; exact ⟨hP c (by omega), by omega⟩
 have HQP : Hid (∀ c, Q c → P c) := Lib.hid fun c hc => by rw [hQ] at hc; exact hc.1
 have HQN : Hid (∀ c, Q c → c ≠ w.heap.size + 1) := Lib.hid fun c hc => by rw [hQ] at hc; exact hc.2
 obtain ⟨N, hN⟩ : ∃ N : Int, (shN n q) = N := ⟨_, rfl⟩
 obtain ⟨U, hU⟩ : ∃ U, (shU 1 q) = U := ⟨_, rfl⟩
 have HEX : Hid (∀ W, (∀ c, W.heap.size ≤ c → Q c) → Calls Tryz.prog 90 #[vaV 3 n q s] W fun e w' => ∃ y, e = .returned y ∧ XArgP Q w' y N U ∧ Below W.heap.size W w') := Lib.hid fun W h3 => by
   rw [← hN, ← hU]; exact exactFloat_x 3 n q s W h3 h1 h2 hq1 hq2
 rw [hN, hU]
 clear hP h1 h2 hq1 hq2 hQ hN hU
 have RA := (Row.new w (vaC 3 n q s) 23).alloc (.cells (exC (.slice none 0 0) false (.slice none 0 0)) 43)
 have RZ := Row.new2 w (.cells (vaC 3 n q s) 23) (exC (.slice none 0 0) false (.slice none 0 0)) 43
 go_enter Tryz.func22, Tryz.ntmps22
 go_wp2_with (go_at_call 43; refine (demNum_3 n _ s _).mono ?_; rintro e w1 ⟨rfl, hb1⟩; have A1 := RA.keep hb1; have Z1 := RZ.keep hb1; have B1 := Lib.hid (bl_box2 (Below.refl _ w) hb1); have hs1 := hb1.size; obtain ⟨x0, x1, x2, x3⟩ := A1.four; clear hb1)
 have hsz : w.heap.size + 1 + 1 ≤ w1.heap.size := by simpa using hs1
 clear hs1
 go_region_held3 (fun w' => w'.cell? ⟨w.heap.size, 0, none⟩ = some (.int .i64 3) ∧ w'.cell? ⟨w.heap.size, 1, none⟩ = some (.int .i64 n) ∧ w'.cell? ⟨w.heap.size, 2, none⟩ = some (.int .i64 q) ∧ w'.cell? ⟨w.heap.size, 3, none⟩ = some (.string s))
   (first | go_keep | exact A3.four | exact A2.four | ((try dsimp only); (repeat' apply And.intro) <;> go_keep))
   (first
     | (go_at_call 44; refine (rules_3 _).mono ?_; rintro e w2 ⟨rfl, hb2⟩; have A2 := A1.keep (bl_drew hb2); have Z2 := Z1.keep (bl_drew hb2); have hs2 := Nat.le_trans hsz (bl_drew hb2).size)
     | (go_at_call 90; refine (HEX.out _ (fun c hc => HQ.out c (Nat.le_trans hs2 hc))).mono ?_; rintro e w3 ⟨y, rfl, X3, hb3⟩; have A3 := A2.keep hb3; have Z3 := Z2.keep hb3; have X3' := Lib.hid X3; obtain ⟨p3, k3, q3, m3, rfl⟩ := X3.x.open; clear X3; obtain ⟨z0, z1, z2⟩ := Z3.ex; have f0 := Z3.free 0; have f1 := Z3.free 1; have f2 := Z3.free 2))
 go_wp2
 refine bodyPost_ret (v := exV (.slice p3 (wrds N.natAbs).length k3) (decide (N < 0)) (.slice q3 (wrds U).length m3)) (by simp [results, Tryz.results22, go_sem, z0, z1, z2]) rfl ⟨_, rfl, ?_, ?_⟩
 · exact (((X3'.out.put _ _ HQN.out).put _ _ HQN.out).put _ _ HQN.out).weak fun c _ hc => HQP.out c hc
 · (repeat refine Below.setCell ?_ (by simp <;> omega) _)
   exact bl_then B1.out (bl_then (bl_drew hb2) hb3)
end Go.Proofs.YtpdoddhieblooaaGreatDoor
namespace Go.Proofs.YtpdoddhieblooaaGreatDoor
open Go.RowKit

def SomeD (P : Prop) (w : World) (e : Ending) (w' : World) : Prop := ∃ r : Bool, e = .returned (.bool r) ∧ (r = true → P) ∧ Below w.heap.size w w'
theorem SomeD.of {P : Prop} {w w' : World} (r : Bool) (h : r = true → P) (hb : Below w.heap.size w w') : SomeD P w (.returned (.bool r)) w' := ⟨r, rfl, h, hb⟩
theorem below_b (b : Bool) (n m : Int) (w : World) (h1 : -9223372036854775807 ≤ m) (h2 : m ≤ 9223372036854775807) (hb : b = true ↔ -m < n ∧ n < m) :
   Calls Tryz.prog 126 #[.int .i64 n, .int .i64 m] w fun e w' => e = .returned (.bool b) ∧ w = w' :=
 (below_any n m w h1 h2).mono fun _ _ ⟨he, hw⟩ => ⟨he.trans (ret_bool (by rw [Bool.eq_iff_iff, hb]; simp)), hw⟩
set_option maxHeartbeats 400000 in
theorem right_no_d (k n q : Int) (s : ByteArray) (w : World) (hk : k < 1 ∨ 10 ≤ k) :
   Calls Tryz.prog 46 #[vaV k n q s] w (SomeD False w) := by
 have hfd := fld_1
 have hm : ∀ (w : World), (binOp .neq 66 .nilFunc .nilFunc).run Tryz.prog w = .ok (.bool false) w := fun _ => by kernel_rfl
 have HK := Lib.hid hk
 clear hk
 go_enter Tryz.func46, Tryz.ntmps46
 go_wp2_with (go_at_call 44; refine (rules_no k _ HK.out).mono ?_; rintro e w1 ⟨rfl, hb⟩; obtain ⟨hc, hf⟩ := bcell hb)
 go_ret
 exact SomeD.of false (fun h => by cases h) (below_then (by go_grown) hb (by simp))
end Go.Proofs.YtpdoddhieblooaaGreatDoor
namespace Go.Proofs.YtpdoddhieblooaaGreatDoor
open Go.RowKit

structure Va where
 k : Int
 n : Int
 q : Int
 s : ByteArray
abbrev Va.v (t : Va) : Value := vaV t.k t.n t.q t.s
abbrev Va.cells (t : Va) : List Value := [.int .i64 t.k, .int .i64 t.n, .int .i64 t.q, .string t.s]
def VasAt (w : World) (b o : Nat) (ts : List Va) : Prop := ∀ (i : Nat) (h : i < ts.length), w.rangeAt b (o + i * 4) (ts[i]).cells
theorem VasAt.below {w w' : World} {b o : Nat} {ts : List Va} (h : VasAt w b o ts) (hb : b < w.heap.size) (hB : Below w.heap.size w w') : VasAt w' b o ts := by
 intro i hi j v hv
 exact (hB.cell (p := ⟨b, o + i * 4 + j, none⟩) hb).trans (h i hi j v hv)
theorem VasAt.at {w : World} {b o : Nat} {ts : List Va} (h : VasAt w b o ts) (k : Nat) (hk : k < ts.length) :
   ∃ (kd n q : Int) (s : ByteArray), ts[k] = ⟨kd, n, q, s⟩ ∧
     w.cell? ⟨b, o + k * 4, none⟩ = some (.int .i64 kd) ∧ w.cell? ⟨b, o + k * 4 + 1, none⟩ = some (.int .i64 n) ∧ w.cell? ⟨b, o + k * 4 + 2, none⟩ = some (.int .i64 q) ∧
     w.cell? ⟨b, o + k * 4 + 3, none⟩ = some (.string s) :=
 ⟨_, _, _, _, rfl, h k hk 0 _ rfl, h k hk 1 _ rfl, h k hk 2 _ rfl, h k hk 3 _ rfl⟩
theorem size_va : (Tryz.prog.info? 23).map (·.size) = some 4 := by kernel_rfl
def DemD (ts : List Va) (P : Va → Prop) (w : World) (e : Ending) (w' : World) : Prop := (e = .returned (.tuple #[]) ∧ (∀ t ∈ ts, P t) ∨ e = dRef 1) ∧ Below w.heap.size w w'
theorem all_end {ts : List Va} {P : Va → Prop} {k : Nat} (hk : ∀ (j : Nat) (h : j < ts.length), j < k → P (ts[j])) (hn : ¬ k < ts.length) : ∀ t ∈ ts, P t := by
 intro t ht
 obtain ⟨j, hj, rfl⟩ := List.getElem_of_mem ht
 exact hk j hj (by omega)
theorem all_step {ts : List Va} {P : Va → Prop} {k : Nat} (hk : ∀ (j : Nat) (h : j < ts.length), j < k → P (ts[j])) (hlt : k < ts.length) (h : P (ts[k])) : ∀ (j : Nat) (h : j < ts.length), j < k + 1 → P (ts[j]) := by
 intro j hj hjk
 by_cases e : j = k
 · subst e; exact h
 · exact hk j hj (by omega)
set_option maxHeartbeats 1000000 in
theorem demRight (ts : List Va) (P : Va → Prop) (b o cap : Nat) (w : World) (hA : VasAt w b o ts) (hlen : ts.length ≤ 4000000000) (hb : b < w.heap.size) (hR : ∀ t ∈ ts, ∀ W : World, Calls Tryz.prog 46 #[t.v] W (SomeD (P t) W)) :
   Calls Tryz.prog 21 #[.slice (some ⟨b, o, none⟩) ts.length cap] w (DemD ts P w) := by
 have HA := Lib.hid hA
 have HR := Lib.hid hR
 clear hA hR
 go_enter Tryz.func21, Tryz.ntmps21
 go_wp2
 go_loopw [6] (fun i wr => ∃ k : Nat, k ≤ ts.length ∧ i = .int .i64 k ∧ Below w.heap.size w wr ∧ Hid (∀ (j : Nat) (h : j < ts.length), j < k → P (ts[j]))) (fun i _ => ts.length - (intOf i).toNat)
 case atStart => exact ⟨0, Nat.zero_le _, rfl, Below.refl _ _, fun j h hj => absurd hj (Nat.not_lt_zero _)⟩
 case round =>
   obtain ⟨k, hk, rfl, hB, HF⟩ := hrel
   by_cases hlt : k < ts.length
   · obtain ⟨kd, n, q, s, ht, c0, c1, c2, c3⟩ := (HA.out.below hb hB).at k hlt
     have HC : Hid (∀ W : World, Calls Tryz.prog 46 #[vaV kd n q s] W (SomeD (P (ts[k])) W)) := Lib.hid fun W => by
       have := HR.out _ (List.getElem_mem hlt) W
       rw [ht] at this ⊢
       exact this
     have HB := Lib.hid hB
     clear ht hB
     go_wp2_with (first
       | (go_at_call 46; refine (HC.out _).mono ?_; rintro e w2 ⟨r, rfl, hr, hb2⟩; have HRr := Lib.hid hr; clear hr; have HB2 := Lib.hid (below_then (below_then HB.out (by go_grown) HB.out.size) hb2 (by have := HB.out.size; simp; omega)); clear hb2; cases r)
       | (go_at_call 47; refine (dRefuse _ _).mono ?_; rintro e w3 ⟨rfl, rfl⟩))
     all_goals first
       | exact ⟨rfl, Or.inr rfl, HB2.out⟩
       | exact ⟨Or.inr rfl, HB2.out⟩
       | (go_roundw
          case rel => exact ⟨k + 1, by omega, by go_num, HB2.out, all_step HF.out hlt (HRr.out (by first | trivial | rfl))⟩
          case measure => simp [intOf]; omega)
   · have HB := Lib.hid hB
     clear hB
     go_wp2
     go_end0
     exact ⟨Or.inl ⟨rfl, all_end HF.out hlt⟩, HB.out⟩
end Go.Proofs.YtpdoddhieblooaaGreatDoor
namespace Go.Proofs.YtpdoddhieblooaaGreatDoor
open Go.RowKit

def YesD (w : World) (e : Ending) (w' : World) : Prop := e = .returned (.bool true) ∧ Below w.heap.size w w'
abbrev emp : ByteArray := ⟨#[]⟩
set_option maxHeartbeats 400000 in
theorem rFixed_yes (m k n q : Int) (w : World) (h1 : -9223372036854775807 ≤ m) (h2 : m ≤ 9223372036854775807) (h : -m < n ∧ n < m) (h' : 0 ≤ q ∧ q ≤ 31) :
   Calls Tryz.prog 119 #[vaV k n q emp, .int .i64 m] w (YesD w) := by
 have H := Lib.hid h; have H' := Lib.hid h'; clear h h'
 go_enter Tryz.func119, Tryz.ntmps119
 go_wp2_with (first
   | (go_at_call 126; refine (below_b true _ _ _ h1 h2 (by simpa using H.out)).mono ?_; rintro e w' ⟨rfl, rfl⟩)
   | (go_at_call 125; refine (within_b true _ _ _ _ (by simpa using H'.out)).mono ?_; rintro e w' ⟨rfl, rfl⟩))
 go_ret
 exact ⟨rfl, by go_grown⟩
set_option maxHeartbeats 400000 in
theorem rDec_yes (k n q : Int) (w : World) (h : -1000000000000000 < n ∧ n < 1000000000000000) (h' : 0 ≤ q ∧ q ≤ 31) :
   Calls Tryz.prog 81 #[vaV k n q emp] w (YesD w) := by
 go_enter Tryz.func81, Tryz.ntmps81
 go_wp2_with (go_at_call 119; refine (rFixed_yes _ _ _ _ _ (by omega) (by omega) h h').mono ?_; rintro e w' ⟨rfl, hb⟩)
 go_ret
 exact ⟨rfl, below_then (by go_grown) hb (by simp)⟩
set_option maxHeartbeats 400000 in
theorem right_2_yes (n q : Int) (w : World) (h : -1000000000000000 < n ∧ n < 1000000000000000) (h' : 0 ≤ q ∧ q ≤ 31) :
   Calls Tryz.prog 46 #[vaV 2 n q emp] w (YesD w) := by
 have hfd := fld_1
 have hn : ∀ (f : Nat) (w : World), (binOp .neq 66 (fnv f) .nilFunc).run Tryz.prog w = .ok (.bool true) w := fun _ _ => by kernel_rfl
 go_enter Tryz.func46, Tryz.ntmps46
 go_wp2_with (first
   | (go_at_call 44; refine (rules_2 _).mono ?_; rintro e w1 ⟨rfl, hb⟩; obtain ⟨hc, hf⟩ := bcell hb)
   | (go_at_call 81; refine (rDec_yes _ _ _ _ h h').mono ?_; rintro e w2 ⟨rfl, hb2⟩))
 go_ret
 exact ⟨rfl, below_then (below_then (by go_grown) hb (by simp)) hb2 (by have := hb.size; simp at this ⊢; omega)⟩
set_option maxHeartbeats 1000000 in
theorem demRight_yes (ts : List Va) (b o cap : Nat) (w : World) (hA : VasAt w b o ts) (hlen : ts.length ≤ 4000000000) (hb : b < w.heap.size) (hR : ∀ t ∈ ts, ∀ W : World, Calls Tryz.prog 46 #[t.v] W (YesD W)) :
   Calls Tryz.prog 21 #[.slice (some ⟨b, o, none⟩) ts.length cap] w fun e w' => e = .returned (.tuple #[]) ∧ Below w.heap.size w w' := by
 have HA := Lib.hid hA
 have HR := Lib.hid hR
 clear hA hR
 go_enter Tryz.func21, Tryz.ntmps21
 go_wp2
 go_loopw [6] (fun i wr => ∃ k : Nat, k ≤ ts.length ∧ i = .int .i64 k ∧ Below w.heap.size w wr) (fun i _ => ts.length - (intOf i).toNat)
 case atStart => exact ⟨0, Nat.zero_le _, rfl, Below.refl _ _⟩
 case round =>
   obtain ⟨k, hk, rfl, hB⟩ := hrel
   by_cases hlt : k < ts.length
   · obtain ⟨kd, n, q, s, ht, c0, c1, c2, c3⟩ := (HA.out.below hb hB).at k hlt
     have HC : Hid (∀ W : World, Calls Tryz.prog 46 #[vaV kd n q s] W (YesD W)) := Lib.hid fun W => by
       have := HR.out _ (List.getElem_mem hlt) W
       rw [ht] at this
       exact this
     have HB := Lib.hid hB
     clear ht hB
     go_wp2_with (go_at_call 46; refine (HC.out _).mono ?_; rintro e w2 ⟨rfl, hb2⟩; have HB2 := Lib.hid (below_then (below_then HB.out (by go_grown) HB.out.size) hb2 (by have := HB.out.size; simp; omega)); clear hb2)
     go_roundw
     case rel => exact ⟨k + 1, by omega, by go_num, HB2.out⟩
     case measure => simp [intOf]; omega
   · have HB := Lib.hid hB
     clear hB
     go_wp2
     go_end0
     exact ⟨rfl, HB.out⟩
set_option maxHeartbeats 400000 in
theorem demValid_yes (k p q n : Int) (vy : Bool) (pic : ByteArray) (w : World) (hs : pic.size ≤ maxLen) (hv : validS k p q n vy pic = true) :
   Calls Tryz.prog 56 #[tyV k p q n vy pic] w fun e w' => e = .returned (.tuple #[]) ∧ Below w.heap.size w w' := by
 have HV : Hid (∀ W, Calls Tryz.prog 108 #[tyV k p q n vy pic] W fun e w' => e = .returned (.bool true) ∧ Below W.heap.size W w') := Lib.hid fun W => by
   have := valid_any k p q n vy pic W hs
   rwa [hv] at this
 clear hv hs
 go_enter Tryz.func56, Tryz.ntmps56
 go_wp2_with (go_at_call 108; refine (HV.out _).mono ?_; rintro e w2 ⟨rfl, hb2⟩)
 go_end0
 exact ⟨rfl, bl_box (Below.refl _ w) hb2⟩
end Go.Proofs.YtpdoddhieblooaaGreatDoor
namespace Go.Proofs.YtpdoddhieblooaaGreatDoor

end Go.Proofs.YtpdoddhieblooaaGreatDoor
namespace Go.Proofs.YtpdoddhieblooaaGreatDoor
open Go.RowKit

def Va.right (t : Va) : Prop :=
 (t.k = 1 → -2147483648 < t.n ∧ t.n < 2147483648 ∧ 0 ≤ t.q ∧ t.q ≤ 31) ∧
 (t.k = 2 → -1000000000000000 < t.n ∧ t.n < 1000000000000000 ∧ 0 ≤ t.q ∧ t.q ≤ 31) ∧
 (t.k = 3 → -1000000000000000 < t.n ∧ t.n < 1000000000000000 ∧ -1000 ≤ t.q ∧ t.q ≤ 1000)
def Va.number (t : Va) : Prop := t.k = 1 ∨ t.k = 2 ∨ t.k = 3
def Va.num (t : Va) : Int := if t.k = 3 then shN t.n t.q else t.n
def Va.den (t : Va) : Nat := if t.k = 3 then shU 1 t.q else if t.k = 2 then 10 ^ t.q.toNat else 2 ^ t.q.toNat
theorem Va.den_pos (t : Va) : 0 < t.den := by
 unfold Va.den shU
 split
 · split
   · rw [Nat.one_mul]; exact Nat.pow_pos (by decide)
   · decide
 · split <;> exact Nat.pow_pos (by decide)
theorem len_small {n : Int} (h1 : -9223372036854775807 ≤ n) (h2 : n ≤ 9223372036854775807) : (wrds n.natAbs).length ≤ 2 := wrds_length n.natAbs 2 (by omega)
theorem Va.num_len (t : Va) (h : t.right) (hk : t.number) : (wrds t.num.natAbs).length ≤ 4000 := by
 obtain ⟨r1, r2, r3⟩ := h
 unfold Va.num
 rcases hk with hk | hk | hk
 · rw [if_neg (by omega)]
   have := r1 hk
   exact Nat.le_trans (len_small (by omega) (by omega)) (by decide)
 · rw [if_neg (by omega)]
   have := r2 hk
   exact Nat.le_trans (len_small (by omega) (by omega)) (by decide)
 · rw [if_pos hk]
   have := r3 hk
   unfold shN
   split
   · exact Nat.le_trans (len_small (by omega) (by omega)) (by decide)
   · rw [Int.natAbs_mul, Int.natAbs_natCast]
     have h1 := wrds_mul_len t.n.natAbs (10 ^ t.q.toNat)
     have h2 := len_small (n := t.n) (by omega) (by omega)
     have h3 := wrds_ten (q := t.q.toNat) (by omega)
     omega
theorem Va.den_len (t : Va) (h : t.right) (hk : t.number) : (wrds t.den).length ≤ 4000 := by
 obtain ⟨r1, r2, r3⟩ := h
 unfold Va.den
 rcases hk with hk | hk | hk
 · rw [if_neg (by omega), if_neg (by omega)]
   have := r1 hk
   refine Nat.le_trans (wrds_length _ 1 ?_) (by decide)
   refine Nat.lt_of_le_of_lt (Nat.pow_le_pow_right (by decide) (show t.q.toNat ≤ 31 by omega)) (by decide)
 · rw [if_neg (by omega), if_pos hk]
   have := r2 hk
   exact Nat.le_trans (wrds_ten (by omega)) (by decide)
 · rw [if_pos hk]
   have := r3 hk
   unfold shU
   split
   · rw [Nat.one_mul]
     exact Nat.le_trans (wrds_ten (by omega)) (by decide)
   · exact Nat.le_trans (wrds_length 1 1 (by decide)) (by decide)
theorem exactly_num {P : Nat → Prop} (t : Va) (w : World) (hP : ∀ c, w.heap.size ≤ c → P c) (h : t.right) (hk : t.number) :
   Calls Tryz.prog 22 #[t.v] w fun e w' => ∃ y, e = .returned y ∧ XArgP P w' y t.num t.den ∧ Below w.heap.size w w' := by
 obtain ⟨k, n, q, s⟩ := t
 obtain ⟨r1, r2, r3⟩ := h
 rcases hk with hk | hk | hk
 · obtain rfl : k = 1 := hk
   obtain ⟨b1, b2, b3, b4⟩ := r1 rfl
   obtain ⟨m, hm⟩ := Int.eq_ofNat_of_zero_le b3
   have hm' : q = (m : Int) := hm
   subst hm'
   exact exactly_1 n m s w hP (by show _ ≤ n; have : -2147483648 < n := b1; omega) (by have : n < 2147483648 := b2; omega) (by have : (m : Int) ≤ 31 := b4; omega)
 · obtain rfl : k = 2 := hk
   obtain ⟨b1, b2, b3, b4⟩ := r2 rfl
   obtain ⟨m, hm⟩ := Int.eq_ofNat_of_zero_le b3
   have hm' : q = (m : Int) := hm
   subst hm'
   exact exactly_2 n m s w hP (by have : -1000000000000000 < n := b1; omega) (by have : n < 1000000000000000 := b2; omega) (by have : (m : Int) ≤ 31 := b4; omega)
 · obtain rfl : k = 3 := hk
   obtain ⟨b1, b2, b3, b4⟩ := r3 rfl
   exact exactly_3 n q s w hP (by have : -1000000000000000 < n := b1; omega) (by have : n < 1000000000000000 := b2; omega) (by have : -1000 ≤ q := b3; omega) (by have : q ≤ 1000 := b4; omega)
theorem exactly_none (t : Va) (w : World) (hk : ¬ t.number) :
   Calls Tryz.prog 22 #[t.v] w fun e w' => e = dRef 10 ∧ Below w.heap.size w w' := exactly_no t.k t.n t.q t.s w hk
end Go.Proofs.YtpdoddhieblooaaGreatDoor
namespace Go.Proofs.YtpdoddhieblooaaGreatDoor
open Go.RowKit

abbrev put4 (w : World) (b : Nat) (y0 y1 y2 y3 : Value) : World := (((w.setCell ⟨b, 0, none⟩ y0).setCell ⟨b, 1, none⟩ y1).setCell ⟨b, 2, none⟩ y2).setCell ⟨b, 3, none⟩ y3
theorem Row.set4 {w : World} {b n : Nat} {cs : Array Value} {t : TypeId} (h : Row w b cs t) (hne : ¬ n = b) (y0 y1 y2 y3 : Value) : Row (put4 w n y0 y1 y2 y3) b cs t :=
 (((h.set (a := ⟨n, 0, none⟩) hne).set (a := ⟨n, 1, none⟩) hne).set (a := ⟨n, 2, none⟩) hne).set (a := ⟨n, 3, none⟩) hne
theorem Row.put4 {w : World} {b : Nat} {a0 a1 a2 a3 : Value} {t : TypeId} (h : Row w b #[a0, a1, a2, a3] t) (y0 y1 y2 y3 : Value) : Row (Proofs.YtpdoddhieblooaaGreatDoor.put4 w b y0 y1 y2 y3) b #[y0, y1, y2, y3] t := by
 have h0 : Row (w.setCell ⟨b, 0, none⟩ y0) b #[y0, a1, a2, a3] t := heap_setCell_same w b 0 _ t y0 h
 have h1 : Row ((w.setCell ⟨b, 0, none⟩ y0).setCell ⟨b, 1, none⟩ y1) b #[y0, y1, a2, a3] t := heap_setCell_same _ b 1 _ t y1 h0
 have h2 : Row (((w.setCell ⟨b, 0, none⟩ y0).setCell ⟨b, 1, none⟩ y1).setCell ⟨b, 2, none⟩ y2) b #[y0, y1, y2, a3] t := heap_setCell_same _ b 2 _ t y2 h1
 exact heap_setCell_same _ b 3 _ t y3 h2
theorem bl_put4 {w0 w : World} {b : Nat} (h : Below w0.heap.size w0 w) (hb : w0.heap.size ≤ b) (y0 y1 y2 y3 : Value) : Below w0.heap.size w0 (put4 w b y0 y1 y2 y3) :=
 (((h.setCell hb y0).setCell hb y1).setCell hb y2).setCell hb y3
theorem valEq (k n q k' n' q' : Int) (s s' : ByteArray) (w : World) :
   (Op.equalIn 10000 23 (vaV k n q s) (vaV k' n' q' s')).run Tryz.prog w = .ok (k == k' && n == n' && q == q' && s.toList == s'.toList) w := by
 have hS : Tryz.prog.underlying 23 = some (.struct (Tryz.prog.fieldsOf 23)) := by kernel_rfl
 have hp : Tryz.prog.stoodInHeld 23 = false := by kernel_rfl
 rw [show (10000 : Nat) = 9999 + 1 from rfl, run_equalIn_agg w 9999 23 _ _ hS hp]
 simp only [Program.fieldsOf, Tryz.underlying23]
 go_simp
 by_cases h1 : k = k' <;> by_cases h2 : n = n' <;> by_cases h3 : q = q' <;> by_cases h4 : s.toList = s'.toList <;> simp [h1, h2, h3, h4]
set_option maxHeartbeats 1000000 in
theorem light2 (vk vn vq : Int) (s : ByteArray) (k p q n : Int) (vy : Bool) (pic : ByteArray) (w : World) (_hs : s.size ≤ maxLen) (_hp : pic.size ≤ maxLen) :
   Calls Tryz.prog 4 #[vaV vk vn vq s, tyV k p q n vy pic] w (SomeD True w) := by
 unfold maxLen at _hs _hp
 by_cases h : (s.size : Int) ≤ 600
 all_goals
   go_enter Tryz.func4, Tryz.ntmps4
   go_wp2
   all_goals
     go_ret
     exact SomeD.of _ (fun _ => trivial) (by go_grown)
set_option maxRecDepth 100000 in
set_option maxHeartbeats 8000000 in
theorem two_far (ka na qa : Int) (sa : ByteArray) (kb nb qb : Int) (sb : ByteArray) (k p q n : Int) (vy : Bool) (pic : ByteArray) (w : World) (_hsb : sb.size ≤ maxLen)
   (HAW : Hid (∀ W, Calls Tryz.prog 5 #[] W fun e w' => e = .returned (.bool true) ∧ Below W.heap.size W w'))
   (HL : Hid (∀ W, Calls Tryz.prog 4 #[vaV ka na qa sa, tyV k p q n vy pic] W (SomeD True W)))
   (hfar : ¬ (sb.size : Int) ≤ 600) :
   Calls Tryz.prog 3 #[vaV ka na qa sa, vaV kb nb qb sb, tyV k p q n vy pic] w fun e w' => e = .returned (.bool true) ∧ Below w.heap.size w w' := by
 have RA := ((Row.new w (vaC ka na qa sa) 23).alloc (.cells (vaC kb nb qb sb) 23)).alloc (.cells #[.int .i64 k, .int .i64 p, .int .i64 q, .int .i64 n, .bool vy, .string pic] 25)
 have RB := (Row.new2 w (.cells (vaC ka na qa sa) 23) (vaC kb nb qb sb) 23).alloc (.cells #[.int .i64 k, .int .i64 p, .int .i64 q, .int .i64 n, .bool vy, .string pic] 25)
 have RT := Row.new3 w (.cells (vaC ka na qa sa) 23) (.cells (vaC kb nb qb sb) 23) #[.int .i64 k, .int .i64 p, .int .i64 q, .int .i64 n, .bool vy, .string pic] 25
 have BB := Lib.hid (bl_box3 (Below.refl _ w) (Below.refl _ (((w.alloc (.cells (vaC ka na qa sa) 23)).alloc (.cells (vaC kb nb qb sb) 23)).alloc (.cells #[.int .i64 k, .int .i64 p, .int .i64 q, .int .i64 n, .bool vy, .string pic] 25))))
 unfold maxLen at _hsb
 go_enter Tryz.func3, Tryz.ntmps3
 go_wp2_with (first
   | (go_at_call 4; (with_reducible refine (HL.out _).mono ?_); rintro e w1 ⟨bl, rfl, _, hb⟩; replace RA := RA.keep hb; replace RB := RB.keep hb; replace RT := RT.keep hb; replace BB := Lib.hid (bl_then BB.out hb); clear hb; obtain ⟨a0, a1, a2, a3⟩ := RA.four; obtain ⟨b0, b1, b2, b3⟩ := RB.four; obtain ⟨t0, t1, t2, t3, t4, t5⟩ := RT.six; cases bl)
   | (go_at_call 5; (with_reducible refine (HAW.out _).mono ?_); rintro e w1 ⟨rfl, hb⟩; have B9 := Lib.hid (bl_then BB.out hb); clear hb))
 all_goals
   go_ret
   exact ⟨rfl, B9.out⟩
set_option maxRecDepth 100000 in
set_option maxHeartbeats 16000000 in
theorem two_near (ka na qa : Int) (sa : ByteArray) (kb nb qb : Int) (sb : ByteArray) (k p q n : Int) (vy : Bool) (pic : ByteArray) (w : World) (_hsb : sb.size ≤ maxLen)
   (o er o2 er2 k0 n0 q0 c0 e0 k1 n1 q1 c1 e1 k2 n2 q2 c2 e2 k3 n3 q3 c3 e3 k4 n4 q4 c4 e4 : Int)
   (HAW : Hid (∀ W, Calls Tryz.prog 5 #[] W fun e w' => e = .returned (.bool true) ∧ Below W.heap.size W w'))
   (HL : Hid (∀ W, Calls Tryz.prog 4 #[vaV ka na qa sa, tyV k p q n vy pic] W (SomeD True W)))
   (HP : Hid (∀ W, Calls Tryz.prog 6 #[vaV ka na qa sa, vaV kb nb qb sb] W fun e w' => e = .returned (.tuple #[.int .i64 o, .int .i64 er]) ∧ Below W.heap.size W w'))
   (HR : Hid (∀ W, Calls Tryz.prog 7 #[vaV ka na qa sa, vaV kb nb qb sb] W fun e w' => e = .returned (.tuple #[.int .i64 o, .int .i64 er]) ∧ Below W.heap.size W w'))
   (HQ : Hid (∀ W, Calls Tryz.prog 6 #[vaV kb nb qb sb, vaV ka na qa sa] W fun e w' => e = .returned (.tuple #[.int .i64 o2, .int .i64 er2]) ∧ Below W.heap.size W w'))
   (HP0 : Hid (∀ W, Calls Tryz.prog 8 #[vaV ka na qa sa, vaV kb nb qb sb, tyV k p q n vy pic] W fun e w' => e = .returned (.tuple #[vaV k0 n0 q0 emp, .int .i64 c0, .int .i64 e0]) ∧ Below W.heap.size W w'))
   (HR0 : Hid (∀ W, Calls Tryz.prog 9 #[vaV ka na qa sa, vaV kb nb qb sb, tyV k p q n vy pic] W fun e w' => e = .returned (.tuple #[vaV k0 n0 q0 emp, .int .i64 c0, .int .i64 e0]) ∧ Below W.heap.size W w'))
   (HP1 : Hid (∀ W, Calls Tryz.prog 10 #[vaV ka na qa sa, vaV kb nb qb sb, tyV k p q n vy pic] W fun e w' => e = .returned (.tuple #[vaV k1 n1 q1 emp, .int .i64 c1, .int .i64 e1]) ∧ Below W.heap.size W w'))
   (HR1 : Hid (∀ W, Calls Tryz.prog 11 #[vaV ka na qa sa, vaV kb nb qb sb, tyV k p q n vy pic] W fun e w' => e = .returned (.tuple #[vaV k1 n1 q1 emp, .int .i64 c1, .int .i64 e1]) ∧ Below W.heap.size W w'))
   (HP2 : Hid (∀ W, Calls Tryz.prog 12 #[vaV ka na qa sa, vaV kb nb qb sb, tyV k p q n vy pic] W fun e w' => e = .returned (.tuple #[vaV k2 n2 q2 emp, .int .i64 c2, .int .i64 e2]) ∧ Below W.heap.size W w'))
   (HR2 : Hid (∀ W, Calls Tryz.prog 13 #[vaV ka na qa sa, vaV kb nb qb sb, tyV k p q n vy pic] W fun e w' => e = .returned (.tuple #[vaV k2 n2 q2 emp, .int .i64 c2, .int .i64 e2]) ∧ Below W.heap.size W w'))
   (HP3 : Hid (∀ W, Calls Tryz.prog 14 #[vaV ka na qa sa, vaV kb nb qb sb, tyV k p q n vy pic] W fun e w' => e = .returned (.tuple #[vaV k3 n3 q3 emp, .int .i64 c3, .int .i64 e3]) ∧ Below W.heap.size W w'))
   (HR3 : Hid (∀ W, Calls Tryz.prog 15 #[vaV ka na qa sa, vaV kb nb qb sb, tyV k p q n vy pic] W fun e w' => e = .returned (.tuple #[vaV k3 n3 q3 emp, .int .i64 c3, .int .i64 e3]) ∧ Below W.heap.size W w'))
   (HP4 : Hid (∀ W, Calls Tryz.prog 16 #[vaV ka na qa sa, vaV kb nb qb sb, tyV k p q n vy pic] W fun e w' => e = .returned (.tuple #[vaV k4 n4 q4 emp, .int .i64 c4, .int .i64 e4]) ∧ Below W.heap.size W w'))
   (HR4 : Hid (∀ W, Calls Tryz.prog 17 #[vaV ka na qa sa, vaV kb nb qb sb, tyV k p q n vy pic] W fun e w' => e = .returned (.tuple #[vaV k4 n4 q4 emp, .int .i64 c4, .int .i64 e4]) ∧ Below W.heap.size W w'))
   (hnear : (sb.size : Int) ≤ 600) (hO : (er = 0 ∧ er2 = 0 ∧ o2 = -o ∧ -1 ≤ o ∧ o ≤ 1) ∨ (er == 0) = false) :
   Calls Tryz.prog 3 #[vaV ka na qa sa, vaV kb nb qb sb, tyV k p q n vy pic] w fun e w' => e = .returned (.bool true) ∧ Below w.heap.size w w' := by
 have RA := ((Row.new w (vaC ka na qa sa) 23).alloc (.cells (vaC kb nb qb sb) 23)).alloc (.cells #[.int .i64 k, .int .i64 p, .int .i64 q, .int .i64 n, .bool vy, .string pic] 25)
 have RB := (Row.new2 w (.cells (vaC ka na qa sa) 23) (vaC kb nb qb sb) 23).alloc (.cells #[.int .i64 k, .int .i64 p, .int .i64 q, .int .i64 n, .bool vy, .string pic] 25)
 have RT := Row.new3 w (.cells (vaC ka na qa sa) 23) (.cells (vaC kb nb qb sb) 23) #[.int .i64 k, .int .i64 p, .int .i64 q, .int .i64 n, .bool vy, .string pic] 25
 have BB := Lib.hid (bl_box3 (Below.refl _ w) (Below.refl _ (((w.alloc (.cells (vaC ka na qa sa) 23)).alloc (.cells (vaC kb nb qb sb) 23)).alloc (.cells #[.int .i64 k, .int .i64 p, .int .i64 q, .int .i64 n, .bool vy, .string pic] 25))))
 unfold maxLen at _hsb
 have hE := valEq
 have hG : Tryz.prog.eqGuardType Tryz.prog.depth 23 = false := by kernel_rfl
 have hO' : (er = 0 ∧ er2 = 0 ∧ o2 = -o ∧ IntKind.i64.wrap (-o) = -o) ∨ (er == 0) = false := by
   rcases hO with ⟨h1, h2, h3, h4, h5⟩ | h
   · refine .inl ⟨h1, h2, h3, ?_⟩
     obtain rfl | rfl | rfl : o = -1 ∨ o = 0 ∨ o = 1 := by omega
     all_goals rfl
   · exact .inr h
 clear hO
 rcases hO' with ⟨rfl, rfl, rfl, hneg⟩ | her
 all_goals
   go_enter Tryz.func3, Tryz.ntmps3
   go_wp2_with (first
     | (go_at_call 4; (with_reducible refine (HL.out _).mono ?_); rintro e w1 ⟨bl, rfl, _, hb⟩; replace RA := RA.keep hb; replace RB := RB.keep hb; replace RT := RT.keep hb; replace BB := Lib.hid (bl_then BB.out hb); clear hb; obtain ⟨a0, a1, a2, a3⟩ := RA.four; obtain ⟨b0, b1, b2, b3⟩ := RB.four; obtain ⟨t0, t1, t2, t3, t4, t5⟩ := RT.six; cases bl)
     | (go_at_call 5; (with_reducible refine (HAW.out _).mono ?_); rintro e w1 ⟨rfl, hb⟩; have B9 := Lib.hid (bl_then BB.out hb); clear hb)
     | (go_at_call 6; (with_reducible refine (HP.out _).mono ?_); rintro e w1 ⟨rfl, hb⟩; clear a0 a1 a2 a3 b0 b1 b2 b3 t0 t1 t2 t3 t4 t5; replace RA := RA.keep hb; replace RB := RB.keep hb; replace RT := RT.keep hb; replace BB := Lib.hid (bl_then BB.out hb); clear hb; obtain ⟨a0, a1, a2, a3⟩ := RA.four; obtain ⟨b0, b1, b2, b3⟩ := RB.four; obtain ⟨t0, t1, t2, t3, t4, t5⟩ := RT.six)
     | (go_at_call 7; (with_reducible refine (HR.out _).mono ?_); rintro e w1 ⟨rfl, hb⟩; clear a0 a1 a2 a3 b0 b1 b2 b3 t0 t1 t2 t3 t4 t5; replace RA := RA.keep hb; replace RB := RB.keep hb; replace RT := RT.keep hb; replace BB := Lib.hid (bl_then BB.out hb); clear hb; obtain ⟨a0, a1, a2, a3⟩ := RA.four; obtain ⟨b0, b1, b2, b3⟩ := RB.four; obtain ⟨t0, t1, t2, t3, t4, t5⟩ := RT.six)
     | (go_at_call 6; (with_reducible refine (HQ.out _).mono ?_); rintro e w1 ⟨rfl, hb⟩; clear a0 a1 a2 a3 b0 b1 b2 b3 t0 t1 t2 t3 t4 t5; replace RA := RA.keep hb; replace RB := RB.keep hb; replace RT := RT.keep hb; replace BB := Lib.hid (bl_then BB.out hb); clear hb; obtain ⟨a0, a1, a2, a3⟩ := RA.four; obtain ⟨b0, b1, b2, b3⟩ := RB.four; obtain ⟨t0, t1, t2, t3, t4, t5⟩ := RT.six)
     | (go_at_call 8; (with_reducible refine (HP0.out _).mono ?_); rintro e w2 ⟨rfl, hb⟩; clear a0 a1 a2 a3 b0 b1 b2 b3 t0 t1 t2 t3 t4 t5; replace RA := RA.keep hb; replace RB := RB.keep hb; replace RT := RT.keep hb; replace BB := Lib.hid (bl_then BB.out hb); clear hb; have lt2 := RT.lt; have RZ := Row.new w2 (vaC k0 n0 q0 emp) 23; replace RA := RA.alloc (.cells (vaC k0 n0 q0 emp) 23); replace RB := RB.alloc (.cells (vaC k0 n0 q0 emp) 23); replace RT := RT.alloc (.cells (vaC k0 n0 q0 emp) 23); replace BB := Lib.hid (BB.out.alloc BB.out.size (.cells (vaC k0 n0 q0 emp) 23)); obtain ⟨a0, a1, a2, a3⟩ := RA.four; obtain ⟨b0, b1, b2, b3⟩ := RB.four; obtain ⟨t0, t1, t2, t3, t4, t5⟩ := RT.six)
     | (go_at_call 9; (with_reducible refine (HR0.out _).mono ?_); rintro e w4 ⟨rfl, hb⟩; clear a0 a1 a2 a3 b0 b1 b2 b3 t0 t1 t2 t3 t4 t5; replace RA := RA.keep hb; replace RB := RB.keep hb; replace RT := RT.keep hb; replace BB := Lib.hid (bl_then BB.out hb); replace RZ := RZ.keep hb; clear hb; have lt4 := RZ.lt; have RY := Row.new w4 (vaC k0 n0 q0 emp) 23; replace RA := RA.alloc (.cells (vaC k0 n0 q0 emp) 23); replace RB := RB.alloc (.cells (vaC k0 n0 q0 emp) 23); replace RT := RT.alloc (.cells (vaC k0 n0 q0 emp) 23); replace RZ := RZ.alloc (.cells (vaC k0 n0 q0 emp) 23); replace BB := Lib.hid (BB.out.alloc BB.out.size (.cells (vaC k0 n0 q0 emp) 23)); obtain ⟨a0, a1, a2, a3⟩ := RA.four; obtain ⟨b0, b1, b2, b3⟩ := RB.four; obtain ⟨t0, t1, t2, t3, t4, t5⟩ := RT.six; obtain ⟨z0, z1, z2, z3⟩ := RZ.four; obtain ⟨y0, y1, y2, y3⟩ := RY.four; have fz := RZ.free; have fy := RY.free))
   · go_ret
     exact ⟨rfl, B9.out⟩
   generalize w4.alloc (.cells (vaC k0 n0 q0 emp) 23) = W0 at *
   generalize w4.heap.size = by' at *
   generalize w2.heap.size = bz at *
   have hzA : ¬ bz = w.heap.size := by omega
   have hzB : ¬ bz = w.heap.size + 1 := by omega
   have hzT : ¬ bz = w.heap.size + 1 + 1 := by omega
   have hyA : ¬ by' = w.heap.size := by omega
   have hyB : ¬ by' = w.heap.size + 1 := by omega
   have hyT : ¬ by' = w.heap.size + 1 + 1 := by omega
   have hzy : ¬ bz = by' := by omega
   have hyz : ¬ by' = bz := by omega
   have hzA' : ¬ w.heap.size = bz := by omega
   have hzB' : ¬ w.heap.size + 1 = bz := by omega
   have hzT' : ¬ w.heap.size + 1 + 1 = bz := by omega
   have hyA' : ¬ w.heap.size = by' := by omega
   have hyB' : ¬ w.heap.size + 1 = by' := by omega
   have hyT' : ¬ w.heap.size + 1 + 1 = by' := by omega
   have hzw : w.heap.size ≤ bz := by omega
   have hyw : w.heap.size ≤ by' := by omega
   clear lt2 lt4
   go_wp2_with (first
     | (go_at_call 10; (with_reducible refine (HP1.out _).mono ?_); rintro e w1 ⟨rfl, hb⟩; clear a0 a1 a2 a3 b0 b1 b2 b3 t0 t1 t2 t3 t4 t5; clear z0 z1 z2 z3 y0 y1 y2 y3 fz fy; replace RA := RA.keep hb; replace RB := RB.keep hb; replace RT := RT.keep hb; replace BB := Lib.hid (bl_then BB.out hb); replace RZ := RZ.keep hb; replace RY := RY.keep hb; clear hb; obtain ⟨a0, a1, a2, a3⟩ := RA.four; obtain ⟨b0, b1, b2, b3⟩ := RB.four; obtain ⟨t0, t1, t2, t3, t4, t5⟩ := RT.six; obtain ⟨z0, z1, z2, z3⟩ := RZ.four; obtain ⟨y0, y1, y2, y3⟩ := RY.four; have fz := RZ.free; have fy := RY.free)
     | (go_at_call 11; (with_reducible refine (HR1.out _).mono ?_); rintro e w1 ⟨rfl, hb⟩; clear a0 a1 a2 a3 b0 b1 b2 b3 t0 t1 t2 t3 t4 t5; clear z0 z1 z2 z3 y0 y1 y2 y3 fz fy; replace RA := RA.set4 hzA (.int .i64 k1) (.int .i64 n1) (.int .i64 q1) (.string emp); replace RB := RB.set4 hzB (.int .i64 k1) (.int .i64 n1) (.int .i64 q1) (.string emp); replace RT := RT.set4 hzT (.int .i64 k1) (.int .i64 n1) (.int .i64 q1) (.string emp); replace RY := RY.set4 hzy (.int .i64 k1) (.int .i64 n1) (.int .i64 q1) (.string emp); replace RZ := RZ.put4 (.int .i64 k1) (.int .i64 n1) (.int .i64 q1) (.string emp); replace BB := Lib.hid (bl_put4 BB.out hzw (.int .i64 k1) (.int .i64 n1) (.int .i64 q1) (.string emp)); replace RA := RA.keep hb; replace RB := RB.keep hb; replace RT := RT.keep hb; replace BB := Lib.hid (bl_then BB.out hb); replace RZ := RZ.keep hb; replace RY := RY.keep hb; clear hb; obtain ⟨a0, a1, a2, a3⟩ := RA.four; obtain ⟨b0, b1, b2, b3⟩ := RB.four; obtain ⟨t0, t1, t2, t3, t4, t5⟩ := RT.six; obtain ⟨z0, z1, z2, z3⟩ := RZ.four; obtain ⟨y0, y1, y2, y3⟩ := RY.four; have fz := RZ.free; have fy := RY.free)
     | (go_at_call 12; (with_reducible refine (HP2.out _).mono ?_); rintro e w1 ⟨rfl, hb⟩; clear a0 a1 a2 a3 b0 b1 b2 b3 t0 t1 t2 t3 t4 t5; clear z0 z1 z2 z3 y0 y1 y2 y3 fz fy; replace RA := RA.set4 hyA (.int .i64 k1) (.int .i64 n1) (.int .i64 q1) (.string emp); replace RB := RB.set4 hyB (.int .i64 k1) (.int .i64 n1) (.int .i64 q1) (.string emp); replace RT := RT.set4 hyT (.int .i64 k1) (.int .i64 n1) (.int .i64 q1) (.string emp); replace RZ := RZ.set4 hyz (.int .i64 k1) (.int .i64 n1) (.int .i64 q1) (.string emp); replace RY := RY.put4 (.int .i64 k1) (.int .i64 n1) (.int .i64 q1) (.string emp); replace BB := Lib.hid (bl_put4 BB.out hyw (.int .i64 k1) (.int .i64 n1) (.int .i64 q1) (.string emp)); replace RA := RA.keep hb; replace RB := RB.keep hb; replace RT := RT.keep hb; replace BB := Lib.hid (bl_then BB.out hb); replace RZ := RZ.keep hb; replace RY := RY.keep hb; clear hb; obtain ⟨a0, a1, a2, a3⟩ := RA.four; obtain ⟨b0, b1, b2, b3⟩ := RB.four; obtain ⟨t0, t1, t2, t3, t4, t5⟩ := RT.six; obtain ⟨z0, z1, z2, z3⟩ := RZ.four; obtain ⟨y0, y1, y2, y3⟩ := RY.four; have fz := RZ.free; have fy := RY.free)
     | (go_at_call 13; (with_reducible refine (HR2.out _).mono ?_); rintro e w1 ⟨rfl, hb⟩; clear a0 a1 a2 a3 b0 b1 b2 b3 t0 t1 t2 t3 t4 t5; clear z0 z1 z2 z3 y0 y1 y2 y3 fz fy; replace RA := RA.set4 hzA (.int .i64 k2) (.int .i64 n2) (.int .i64 q2) (.string emp); replace RB := RB.set4 hzB (.int .i64 k2) (.int .i64 n2) (.int .i64 q2) (.string emp); replace RT := RT.set4 hzT (.int .i64 k2) (.int .i64 n2) (.int .i64 q2) (.string emp); replace RY := RY.set4 hzy (.int .i64 k2) (.int .i64 n2) (.int .i64 q2) (.string emp); replace RZ := RZ.put4 (.int .i64 k2) (.int .i64 n2) (.int .i64 q2) (.string emp); replace BB := Lib.hid (bl_put4 BB.out hzw (.int .i64 k2) (.int .i64 n2) (.int .i64 q2) (.string emp)); replace RA := RA.keep hb; replace RB := RB.keep hb; replace RT := RT.keep hb; replace BB := Lib.hid (bl_then BB.out hb); replace RZ := RZ.keep hb; replace RY := RY.keep hb; clear hb; obtain ⟨a0, a1, a2, a3⟩ := RA.four; obtain ⟨b0, b1, b2, b3⟩ := RB.four; obtain ⟨t0, t1, t2, t3, t4, t5⟩ := RT.six; obtain ⟨z0, z1, z2, z3⟩ := RZ.four; obtain ⟨y0, y1, y2, y3⟩ := RY.four; have fz := RZ.free; have fy := RY.free)
     | (go_at_call 14; (with_reducible refine (HP3.out _).mono ?_); rintro e w1 ⟨rfl, hb⟩; clear a0 a1 a2 a3 b0 b1 b2 b3 t0 t1 t2 t3 t4 t5; clear z0 z1 z2 z3 y0 y1 y2 y3 fz fy; replace RA := RA.set4 hyA (.int .i64 k2) (.int .i64 n2) (.int .i64 q2) (.string emp); replace RB := RB.set4 hyB (.int .i64 k2) (.int .i64 n2) (.int .i64 q2) (.string emp); replace RT := RT.set4 hyT (.int .i64 k2) (.int .i64 n2) (.int .i64 q2) (.string emp); replace RZ := RZ.set4 hyz (.int .i64 k2) (.int .i64 n2) (.int .i64 q2) (.string emp); replace RY := RY.put4 (.int .i64 k2) (.int .i64 n2) (.int .i64 q2) (.string emp); replace BB := Lib.hid (bl_put4 BB.out hyw (.int .i64 k2) (.int .i64 n2) (.int .i64 q2) (.string emp)); replace RA := RA.keep hb; replace RB := RB.keep hb; replace RT := RT.keep hb; replace BB := Lib.hid (bl_then BB.out hb); replace RZ := RZ.keep hb; replace RY := RY.keep hb; clear hb; obtain ⟨a0, a1, a2, a3⟩ := RA.four; obtain ⟨b0, b1, b2, b3⟩ := RB.four; obtain ⟨t0, t1, t2, t3, t4, t5⟩ := RT.six; obtain ⟨z0, z1, z2, z3⟩ := RZ.four; obtain ⟨y0, y1, y2, y3⟩ := RY.four; have fz := RZ.free; have fy := RY.free)
     | (go_at_call 15; (with_reducible refine (HR3.out _).mono ?_); rintro e w1 ⟨rfl, hb⟩; clear a0 a1 a2 a3 b0 b1 b2 b3 t0 t1 t2 t3 t4 t5; clear z0 z1 z2 z3 y0 y1 y2 y3 fz fy; replace RA := RA.set4 hzA (.int .i64 k3) (.int .i64 n3) (.int .i64 q3) (.string emp); replace RB := RB.set4 hzB (.int .i64 k3) (.int .i64 n3) (.int .i64 q3) (.string emp); replace RT := RT.set4 hzT (.int .i64 k3) (.int .i64 n3) (.int .i64 q3) (.string emp); replace RY := RY.set4 hzy (.int .i64 k3) (.int .i64 n3) (.int .i64 q3) (.string emp); replace RZ := RZ.put4 (.int .i64 k3) (.int .i64 n3) (.int .i64 q3) (.string emp); replace BB := Lib.hid (bl_put4 BB.out hzw (.int .i64 k3) (.int .i64 n3) (.int .i64 q3) (.string emp)); replace RA := RA.keep hb; replace RB := RB.keep hb; replace RT := RT.keep hb; replace BB := Lib.hid (bl_then BB.out hb); replace RZ := RZ.keep hb; replace RY := RY.keep hb; clear hb; obtain ⟨a0, a1, a2, a3⟩ := RA.four; obtain ⟨b0, b1, b2, b3⟩ := RB.four; obtain ⟨t0, t1, t2, t3, t4, t5⟩ := RT.six; obtain ⟨z0, z1, z2, z3⟩ := RZ.four; obtain ⟨y0, y1, y2, y3⟩ := RY.four; have fz := RZ.free; have fy := RY.free)
     | (go_at_call 16; (with_reducible refine (HP4.out _).mono ?_); rintro e w1 ⟨rfl, hb⟩; clear a0 a1 a2 a3 b0 b1 b2 b3 t0 t1 t2 t3 t4 t5; clear z0 z1 z2 z3 y0 y1 y2 y3 fz fy; replace RA := RA.set4 hyA (.int .i64 k3) (.int .i64 n3) (.int .i64 q3) (.string emp); replace RB := RB.set4 hyB (.int .i64 k3) (.int .i64 n3) (.int .i64 q3) (.string emp); replace RT := RT.set4 hyT (.int .i64 k3) (.int .i64 n3) (.int .i64 q3) (.string emp); replace RZ := RZ.set4 hyz (.int .i64 k3) (.int .i64 n3) (.int .i64 q3) (.string emp); replace RY := RY.put4 (.int .i64 k3) (.int .i64 n3) (.int .i64 q3) (.string emp); replace BB := Lib.hid (bl_put4 BB.out hyw (.int .i64 k3) (.int .i64 n3) (.int .i64 q3) (.string emp)); replace RA := RA.keep hb; replace RB := RB.keep hb; replace RT := RT.keep hb; replace BB := Lib.hid (bl_then BB.out hb); replace RZ := RZ.keep hb; replace RY := RY.keep hb; clear hb; obtain ⟨a0, a1, a2, a3⟩ := RA.four; obtain ⟨b0, b1, b2, b3⟩ := RB.four; obtain ⟨t0, t1, t2, t3, t4, t5⟩ := RT.six; obtain ⟨z0, z1, z2, z3⟩ := RZ.four; obtain ⟨y0, y1, y2, y3⟩ := RY.four; have fz := RZ.free; have fy := RY.free)
     | (go_at_call 17; (with_reducible refine (HR4.out _).mono ?_); rintro e w1 ⟨rfl, hb⟩; clear a0 a1 a2 a3 b0 b1 b2 b3 t0 t1 t2 t3 t4 t5; clear z0 z1 z2 z3 y0 y1 y2 y3 fz fy; replace RA := RA.set4 hzA (.int .i64 k4) (.int .i64 n4) (.int .i64 q4) (.string emp); replace RB := RB.set4 hzB (.int .i64 k4) (.int .i64 n4) (.int .i64 q4) (.string emp); replace RT := RT.set4 hzT (.int .i64 k4) (.int .i64 n4) (.int .i64 q4) (.string emp); replace RY := RY.set4 hzy (.int .i64 k4) (.int .i64 n4) (.int .i64 q4) (.string emp); replace RZ := RZ.put4 (.int .i64 k4) (.int .i64 n4) (.int .i64 q4) (.string emp); replace BB := Lib.hid (bl_put4 BB.out hzw (.int .i64 k4) (.int .i64 n4) (.int .i64 q4) (.string emp)); replace RA := RA.keep hb; replace RB := RB.keep hb; replace RT := RT.keep hb; replace BB := Lib.hid (bl_then BB.out hb); replace RZ := RZ.keep hb; replace RY := RY.keep hb; clear hb; obtain ⟨a0, a1, a2, a3⟩ := RA.four; obtain ⟨b0, b1, b2, b3⟩ := RB.four; obtain ⟨t0, t1, t2, t3, t4, t5⟩ := RT.six; obtain ⟨z0, z1, z2, z3⟩ := RZ.four; obtain ⟨y0, y1, y2, y3⟩ := RY.four; have fz := RZ.free; have fy := RY.free)
     | (go_at_call 5; (with_reducible refine (HAW.out _).mono ?_); rintro e w1 ⟨rfl, hb⟩; clear a0 a1 a2 a3 b0 b1 b2 b3 t0 t1 t2 t3 t4 t5; clear z0 z1 z2 z3 y0 y1 y2 y3 fz fy; replace RA := RA.set4 hyA (.int .i64 k4) (.int .i64 n4) (.int .i64 q4) (.string emp); replace RB := RB.set4 hyB (.int .i64 k4) (.int .i64 n4) (.int .i64 q4) (.string emp); replace RT := RT.set4 hyT (.int .i64 k4) (.int .i64 n4) (.int .i64 q4) (.string emp); replace RZ := RZ.set4 hyz (.int .i64 k4) (.int .i64 n4) (.int .i64 q4) (.string emp); replace RY := RY.put4 (.int .i64 k4) (.int .i64 n4) (.int .i64 q4) (.string emp); replace BB := Lib.hid (bl_put4 BB.out hyw (.int .i64 k4) (.int .i64 n4) (.int .i64 q4) (.string emp)); have B9 := Lib.hid (bl_then BB.out hb); clear hb))
   try show bodyPost _ _ _ _ _ _
   go_ret
   exact ⟨rfl, B9.out⟩
end Go.Proofs.YtpdoddhieblooaaGreatDoor
