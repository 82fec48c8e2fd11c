/- digit: refuse, demandNumber, exactly. digit: exactly. -/
import Derived.Test.YtafhboppojeafaaGreatDoorWrdXs
import Derived.Test.YtafhboppojeafaaGreatDoorRules
namespace Go.Proofs.YtafhboppojeafaaGreatDoor
open Go.RowKit

abbrev dRef (n : Int) : Ending := .panicked [{ v := .iface 78 (.int .i64 n), recovered := false }]
abbrev vaV (k n q : Int) (s : ByteArray) : Value := .agg #[.int .i64 k, .int .i64 n, .int .i64 q, .string s]
abbrev vaC (k n q : Int) (s : ByteArray) : Array Value := #[.int .i64 k, .int .i64 n, .int .i64 q, .string s]
theorem dRefuse (n : Int) (w : World) : Calls Tryz.prog 40 #[.int .i64 n] w fun e w' => e = dRef n ∧ w = w' := by
  go_enter Tryz.func40, Tryz.ntmps40
  go_wp2
  first | exact ⟨rfl, rfl, rfl⟩ | exact ⟨rfl, rfl⟩

set_option maxRecDepth 100000 in
set_option maxHeartbeats 1000000 in
theorem demNum_1 (n q : Int) (s : ByteArray) (w : World) :
    Calls Tryz.prog 29 #[vaV 1 n q s] w fun e w' => e = .returned (.tuple #[]) ∧ Below w.heap.size w w' := by
  have q4 := fld_4
  have qe : ∀ (f : Nat) (w : World), (binOp .eql 64 (fnv f) .nilFunc).run Tryz.prog w = .ok (.bool false) w := fun _ _ => by kernel_rfl
  have qn : ∀ (w : World), (binOp .eql 64 .nilFunc .nilFunc).run Tryz.prog w = .ok (.bool true) w := fun _ => by kernel_rfl
  go_enter Tryz.func29, Tryz.ntmps29
  go_wp2_with (go_at_call 30; refine (rules_1 _).mono ?_; rintro e w2 ⟨rfl, hb2⟩)
  go_end0
  exact ⟨rfl, bl_box (Below.refl _ w) hb2⟩

set_option maxRecDepth 100000 in
set_option maxHeartbeats 1000000 in
theorem demNum_2 (n q : Int) (s : ByteArray) (w : World) :
    Calls Tryz.prog 29 #[vaV 2 n q s] w fun e w' => e = .returned (.tuple #[]) ∧ Below w.heap.size w w' := by
  have q4 := fld_4
  have qe : ∀ (f : Nat) (w : World), (binOp .eql 64 (fnv f) .nilFunc).run Tryz.prog w = .ok (.bool false) w := fun _ _ => by kernel_rfl
  have qn : ∀ (w : World), (binOp .eql 64 .nilFunc .nilFunc).run Tryz.prog w = .ok (.bool true) w := fun _ => by kernel_rfl
  go_enter Tryz.func29, Tryz.ntmps29
  go_wp2_with (go_at_call 30; refine (rules_2 _).mono ?_; rintro e w2 ⟨rfl, hb2⟩)
  go_end0
  exact ⟨rfl, bl_box (Below.refl _ w) hb2⟩

set_option maxRecDepth 100000 in
set_option maxHeartbeats 1000000 in
theorem demNum_3 (n q : Int) (s : ByteArray) (w : World) :
    Calls Tryz.prog 29 #[vaV 3 n q s] w fun e w' => e = .returned (.tuple #[]) ∧ Below w.heap.size w w' := by
  have q4 := fld_4
  have qe : ∀ (f : Nat) (w : World), (binOp .eql 64 (fnv f) .nilFunc).run Tryz.prog w = .ok (.bool false) w := fun _ _ => by kernel_rfl
  have qn : ∀ (w : World), (binOp .eql 64 .nilFunc .nilFunc).run Tryz.prog w = .ok (.bool true) w := fun _ => by kernel_rfl
  go_enter Tryz.func29, Tryz.ntmps29
  go_wp2_with (go_at_call 30; refine (rules_3 _).mono ?_; rintro e w2 ⟨rfl, hb2⟩)
  go_end0
  exact ⟨rfl, bl_box (Below.refl _ w) hb2⟩

set_option maxRecDepth 100000 in
set_option maxHeartbeats 1000000 in
theorem demNum_no (k n q : Int) (s : ByteArray) (w : World) (hk : k < 1 ∨ 10 ≤ k) :
    Calls Tryz.prog 29 #[vaV k n q s] w fun e w' => e = dRef 10 ∧ Below w.heap.size w w' := by
  have q4 := fld_4
  have qn : ∀ (w : World), (binOp .eql 64 .nilFunc .nilFunc).run Tryz.prog w = .ok (.bool true) w := fun _ => by kernel_rfl
  have HK := Lib.hid hk
  clear hk
  go_enter Tryz.func29, Tryz.ntmps29
  go_wp2_with (first
    | (go_at_call 30; refine (rules_no k _ HK.out).mono ?_; rintro e w2 ⟨rfl, hb2⟩)
    | (go_at_call 40; refine (dRefuse _ _).mono ?_; rintro e w3 ⟨rfl, rfl⟩))
  exact ⟨rfl, rfl, bl_box (Below.refl _ w) hb2⟩

set_option maxRecDepth 100000 in
set_option maxHeartbeats 1000000 in
theorem demNum_4 (n q : Int) (s : ByteArray) (w : World) :
    Calls Tryz.prog 29 #[vaV 4 n q s] w fun e w' => e = dRef 10 ∧ Below w.heap.size w w' := by
  have q4 := fld_4
  have qe : ∀ (f : Nat) (w : World), (binOp .eql 64 (fnv f) .nilFunc).run Tryz.prog w = .ok (.bool false) w := fun _ _ => by kernel_rfl
  have qn : ∀ (w : World), (binOp .eql 64 .nilFunc .nilFunc).run Tryz.prog w = .ok (.bool true) w := fun _ => by kernel_rfl
  go_enter Tryz.func29, Tryz.ntmps29
  go_wp2_with (first
    | (go_at_call 30; refine (rules_4 _).mono ?_; rintro e w2 ⟨rfl, hb2⟩)
    | (go_at_call 40; refine (dRefuse _ _).mono ?_; rintro e w3 ⟨rfl, rfl⟩))
  exact ⟨rfl, rfl, bl_box (Below.refl _ w) hb2⟩

set_option maxRecDepth 100000 in
set_option maxHeartbeats 1000000 in
theorem demNum_5 (n q : Int) (s : ByteArray) (w : World) :
    Calls Tryz.prog 29 #[vaV 5 n q s] w fun e w' => e = dRef 10 ∧ Below w.heap.size w w' := by
  have q4 := fld_4
  have qe : ∀ (f : Nat) (w : World), (binOp .eql 64 (fnv f) .nilFunc).run Tryz.prog w = .ok (.bool false) w := fun _ _ => by kernel_rfl
  have qn : ∀ (w : World), (binOp .eql 64 .nilFunc .nilFunc).run Tryz.prog w = .ok (.bool true) w := fun _ => by kernel_rfl
  go_enter Tryz.func29, Tryz.ntmps29
  go_wp2_with (first
    | (go_at_call 30; refine (rules_5 _).mono ?_; rintro e w2 ⟨rfl, hb2⟩)
    | (go_at_call 40; refine (dRefuse _ _).mono ?_; rintro e w3 ⟨rfl, rfl⟩))
  exact ⟨rfl, rfl, bl_box (Below.refl _ w) hb2⟩

set_option maxRecDepth 100000 in
set_option maxHeartbeats 1000000 in
theorem demNum_6 (n q : Int) (s : ByteArray) (w : World) :
    Calls Tryz.prog 29 #[vaV 6 n q s] w fun e w' => e = dRef 10 ∧ Below w.heap.size w w' := by
  have q4 := fld_4
  have qe : ∀ (f : Nat) (w : World), (binOp .eql 64 (fnv f) .nilFunc).run Tryz.prog w = .ok (.bool false) w := fun _ _ => by kernel_rfl
  have qn : ∀ (w : World), (binOp .eql 64 .nilFunc .nilFunc).run Tryz.prog w = .ok (.bool true) w := fun _ => by kernel_rfl
  go_enter Tryz.func29, Tryz.ntmps29
  go_wp2_with (first
    | (go_at_call 30; refine (rules_6 _).mono ?_; rintro e w2 ⟨rfl, hb2⟩)
    | (go_at_call 40; refine (dRefuse _ _).mono ?_; rintro e w3 ⟨rfl, rfl⟩))
  exact ⟨rfl, rfl, bl_box (Below.refl _ w) hb2⟩

set_option maxRecDepth 100000 in
set_option maxHeartbeats 1000000 in
theorem demNum_7 (n q : Int) (s : ByteArray) (w : World) :
    Calls Tryz.prog 29 #[vaV 7 n q s] w fun e w' => e = dRef 10 ∧ Below w.heap.size w w' := by
  have q4 := fld_4
  have qe : ∀ (f : Nat) (w : World), (binOp .eql 64 (fnv f) .nilFunc).run Tryz.prog w = .ok (.bool false) w := fun _ _ => by kernel_rfl
  have qn : ∀ (w : World), (binOp .eql 64 .nilFunc .nilFunc).run Tryz.prog w = .ok (.bool true) w := fun _ => by kernel_rfl
  go_enter Tryz.func29, Tryz.ntmps29
  go_wp2_with (first
    | (go_at_call 30; refine (rules_7 _).mono ?_; rintro e w2 ⟨rfl, hb2⟩)
    | (go_at_call 40; refine (dRefuse _ _).mono ?_; rintro e w3 ⟨rfl, rfl⟩))
  exact ⟨rfl, rfl, bl_box (Below.refl _ w) hb2⟩

set_option maxRecDepth 100000 in
set_option maxHeartbeats 1000000 in
theorem demNum_8 (n q : Int) (s : ByteArray) (w : World) :
    Calls Tryz.prog 29 #[vaV 8 n q s] w fun e w' => e = dRef 10 ∧ Below w.heap.size w w' := by
  have q4 := fld_4
  have qe : ∀ (f : Nat) (w : World), (binOp .eql 64 (fnv f) .nilFunc).run Tryz.prog w = .ok (.bool false) w := fun _ _ => by kernel_rfl
  have qn : ∀ (w : World), (binOp .eql 64 .nilFunc .nilFunc).run Tryz.prog w = .ok (.bool true) w := fun _ => by kernel_rfl
  go_enter Tryz.func29, Tryz.ntmps29
  go_wp2_with (first
    | (go_at_call 30; refine (rules_8 _).mono ?_; rintro e w2 ⟨rfl, hb2⟩)
    | (go_at_call 40; refine (dRefuse _ _).mono ?_; rintro e w3 ⟨rfl, rfl⟩))
  exact ⟨rfl, rfl, bl_box (Below.refl _ w) hb2⟩

set_option maxRecDepth 100000 in
set_option maxHeartbeats 1000000 in
theorem demNum_9 (n q : Int) (s : ByteArray) (w : World) :
    Calls Tryz.prog 29 #[vaV 9 n q s] w fun e w' => e = dRef 10 ∧ Below w.heap.size w w' := by
  have q4 := fld_4
  have qe : ∀ (f : Nat) (w : World), (binOp .eql 64 (fnv f) .nilFunc).run Tryz.prog w = .ok (.bool false) w := fun _ _ => by kernel_rfl
  have qn : ∀ (w : World), (binOp .eql 64 .nilFunc .nilFunc).run Tryz.prog w = .ok (.bool true) w := fun _ => by kernel_rfl
  go_enter Tryz.func29, Tryz.ntmps29
  go_wp2_with (first
    | (go_at_call 30; refine (rules_9 _).mono ?_; rintro e w2 ⟨rfl, hb2⟩)
    | (go_at_call 40; refine (dRefuse _ _).mono ?_; rintro e w3 ⟨rfl, rfl⟩))
  exact ⟨rfl, rfl, bl_box (Below.refl _ w) hb2⟩

theorem demNum_else (k n q : Int) (s : ByteArray) (w : World) (h : ¬ (k = 1 ∨ k = 2 ∨ k = 3)) :
    Calls Tryz.prog 29 #[vaV k n q s] w fun e w' => e = dRef 10 ∧ Below w.heap.size w w' := by
  by_cases hk : k < 1 ∨ 10 ≤ k
  · exact demNum_no k n q s w hk
  · rcases (by omega : k = 4 ∨ k = 5 ∨ k = 6 ∨ k = 7 ∨ k = 8 ∨ k = 9) with rfl | rfl | rfl | rfl | rfl | rfl
    · exact demNum_4 n q s w
    · exact demNum_5 n q s w
    · exact demNum_6 n q s w
    · exact demNum_7 n q s w
    · exact demNum_8 n q s w
    · exact demNum_9 n q s w
set_option maxRecDepth 100000 in
set_option maxHeartbeats 1000000 in
theorem exactly_no (k n q : Int) (s : ByteArray) (w : World) (h : ¬ (k = 1 ∨ k = 2 ∨ k = 3)) :
    Calls Tryz.prog 33 #[vaV k n q s] w fun e w' => e = dRef 10 ∧ Below w.heap.size w w' := by
  have HK := Lib.hid h
  clear h
  go_enter Tryz.func33, Tryz.ntmps33
  go_wp2_with (go_at_call 29; refine (demNum_else k n q s _ HK.out).mono ?_; rintro e w2 ⟨rfl, hb2⟩)
  exact ⟨rfl, rfl, bl_box2 (Below.refl _ w) hb2⟩
end Go.Proofs.YtafhboppojeafaaGreatDoor
namespace Go.Proofs.YtafhboppojeafaaGreatDoor
open Go.RowKit

set_option maxRecDepth 100000 in
set_option maxHeartbeats 4000000 in
theorem exactly_1 {P : Nat → Prop} (n : Int) (q : Nat) (s : ByteArray) (w : World) (hP : ∀ c, w.heap.size ≤ c → P c) (h1 : -9223372036854775807 ≤ n) (h2 : n ≤ 9223372036854775807) (hq : q ≤ 10000) :
    Calls Tryz.prog 33 #[vaV 1 n (q : Int) s] w fun e w' => ∃ y, e = .returned y ∧ XArgP P w' y n (2 ^ q) ∧ Below w.heap.size w w' := by
  have q4 := fld_4
  have hcf : ∀ (args : Array Value) (W : World), (callFunc 45 args).run Tryz.prog W = .ok (.enter 45 args) W := fun _ _ => by kernel_rfl
  obtain ⟨Q, hQ⟩ : ∃ Q : Nat → Prop, Q = fun c => P c ∧ c ≠ w.heap.size + 1 := ⟨_, rfl⟩
  have HQ : Hid (∀ c, w.heap.size + 1 + 1 ≤ c → Q c) := Lib.hid fun c hc => by rw [hQ]; exact ⟨hP c (by omega), by omega⟩
  have HQP : Hid (∀ c, Q c → P c) := Lib.hid fun c hc => by rw [hQ] at hc; exact hc.1
  have HQN : Hid (∀ c, Q c → c ≠ w.heap.size + 1) := Lib.hid fun c hc => by rw [hQ] at hc; exact hc.2
  obtain ⟨U, hU⟩ : ∃ U, (2 ^ q) = U := ⟨_, rfl⟩
  have HEX : Hid (∀ W, (∀ c, W.heap.size ≤ c → Q c) → Calls Tryz.prog 45 #[vaV 1 n (q : Int) s] W fun e w' => ∃ y, e = .returned y ∧ XArgP Q w' y n U ∧ Below W.heap.size W w') := Lib.hid fun W h3 => by
    rw [← hU]; exact exactBin_x 1 n q s W h3 h1 h2 hq
  rw [hU]
  clear hP h1 h2 hq hQ hU
  have RA := (Row.new w (vaC 1 n (q : Int) s) 23).alloc (.cells (exC (.slice none 0 0) false (.slice none 0 0)) 52)
  have RZ := Row.new2 w (.cells (vaC 1 n (q : Int) s) 23) (exC (.slice none 0 0) false (.slice none 0 0)) 52
  go_enter Tryz.func33, Tryz.ntmps33
  go_wp2_with (go_at_call 29; refine (demNum_1 n _ s _).mono ?_; rintro e w1 ⟨rfl, hb1⟩; have A1 := RA.keep hb1; have Z1 := RZ.keep hb1; have B1 := Lib.hid (bl_box2 (Below.refl _ w) hb1); have hs1 := hb1.size; obtain ⟨x0, x1, x2, x3⟩ := A1.four; clear hb1)
  have hsz : w.heap.size + 1 + 1 ≤ w1.heap.size := by simpa using hs1
  clear hs1
  go_region_held3 (fun w' => w'.cell? ⟨w.heap.size, 0, none⟩ = some (.int .i64 1) ∧ w'.cell? ⟨w.heap.size, 1, none⟩ = some (.int .i64 n) ∧ w'.cell? ⟨w.heap.size, 2, none⟩ = some (.int .i64 (q : Int)) ∧ w'.cell? ⟨w.heap.size, 3, none⟩ = some (.string s))
    (first | go_keep | exact A3.four | exact A2.four | ((try dsimp only); (repeat' apply And.intro) <;> go_keep))
    (first
      | (go_at_call 30; refine (rules_1 _).mono ?_; rintro e w2 ⟨rfl, hb2⟩; have A2 := A1.keep (bl_drew hb2); have Z2 := Z1.keep (bl_drew hb2); have hs2 := Nat.le_trans hsz (bl_drew hb2).size)
      | (go_at_call 45; refine (HEX.out _ (fun c hc => HQ.out c (Nat.le_trans hs2 hc))).mono ?_; rintro e w3 ⟨y, rfl, X3, hb3⟩; have A3 := A2.keep hb3; have Z3 := Z2.keep hb3; have X3' := Lib.hid X3; obtain ⟨p3, k3, q3, m3, rfl⟩ := X3.x.open; clear X3; obtain ⟨z0, z1, z2⟩ := Z3.ex; have f0 := Z3.free 0; have f1 := Z3.free 1; have f2 := Z3.free 2))
  go_wp2
  refine bodyPost_ret (v := exV (.slice p3 (wrds n.natAbs).length k3) (decide (n < 0)) (.slice q3 (wrds U).length m3)) (by simp [results, Tryz.results33, go_sem, z0, z1, z2]) rfl ⟨_, rfl, ?_, ?_⟩
  · exact (((X3'.out.put _ _ HQN.out).put _ _ HQN.out).put _ _ HQN.out).weak fun c _ hc => HQP.out c hc
  · (repeat refine Below.setCell ?_ (by simp <;> omega) _)
    exact bl_then B1.out (bl_then (bl_drew hb2) hb3)

set_option maxRecDepth 100000 in
set_option maxHeartbeats 4000000 in
theorem exactly_2 {P : Nat → Prop} (n : Int) (q : Nat) (s : ByteArray) (w : World) (hP : ∀ c, w.heap.size ≤ c → P c) (h1 : -9223372036854775807 ≤ n) (h2 : n ≤ 9223372036854775807) (hq : q ≤ 10000) :
    Calls Tryz.prog 33 #[vaV 2 n (q : Int) s] w fun e w' => ∃ y, e = .returned y ∧ XArgP P w' y n (10 ^ q) ∧ Below w.heap.size w w' := by
  have q4 := fld_4
  have hcf : ∀ (args : Array Value) (W : World), (callFunc 51 args).run Tryz.prog W = .ok (.enter 51 args) W := fun _ _ => by kernel_rfl
  obtain ⟨Q, hQ⟩ : ∃ Q : Nat → Prop, Q = fun c => P c ∧ c ≠ w.heap.size + 1 := ⟨_, rfl⟩
  have HQ : Hid (∀ c, w.heap.size + 1 + 1 ≤ c → Q c) := Lib.hid fun c hc => by rw [hQ]; exact ⟨hP c (by omega), by omega⟩
  have HQP : Hid (∀ c, Q c → P c) := Lib.hid fun c hc => by rw [hQ] at hc; exact hc.1
  have HQN : Hid (∀ c, Q c → c ≠ w.heap.size + 1) := Lib.hid fun c hc => by rw [hQ] at hc; exact hc.2
  obtain ⟨U, hU⟩ : ∃ U, (10 ^ q) = U := ⟨_, rfl⟩
  have HEX : Hid (∀ W, (∀ c, W.heap.size ≤ c → Q c) → Calls Tryz.prog 51 #[vaV 2 n (q : Int) s] W fun e w' => ∃ y, e = .returned y ∧ XArgP Q w' y n U ∧ Below W.heap.size W w') := Lib.hid fun W h3 => by
    rw [← hU]; exact exactDec_x 2 n q s W h3 h1 h2 hq
  rw [hU]
  clear hP h1 h2 hq hQ hU
  have RA := (Row.new w (vaC 2 n (q : Int) s) 23).alloc (.cells (exC (.slice none 0 0) false (.slice none 0 0)) 52)
  have RZ := Row.new2 w (.cells (vaC 2 n (q : Int) s) 23) (exC (.slice none 0 0) false (.slice none 0 0)) 52
  go_enter Tryz.func33, Tryz.ntmps33
  go_wp2_with (go_at_call 29; refine (demNum_2 n _ s _).mono ?_; rintro e w1 ⟨rfl, hb1⟩; have A1 := RA.keep hb1; have Z1 := RZ.keep hb1; have B1 := Lib.hid (bl_box2 (Below.refl _ w) hb1); have hs1 := hb1.size; obtain ⟨x0, x1, x2, x3⟩ := A1.four; clear hb1)
  have hsz : w.heap.size + 1 + 1 ≤ w1.heap.size := by simpa using hs1
  clear hs1
  go_region_held3 (fun w' => w'.cell? ⟨w.heap.size, 0, none⟩ = some (.int .i64 2) ∧ w'.cell? ⟨w.heap.size, 1, none⟩ = some (.int .i64 n) ∧ w'.cell? ⟨w.heap.size, 2, none⟩ = some (.int .i64 (q : Int)) ∧ w'.cell? ⟨w.heap.size, 3, none⟩ = some (.string s))
    (first | go_keep | exact A3.four | exact A2.four | ((try dsimp only); (repeat' apply And.intro) <;> go_keep))
    (first
      | (go_at_call 30; refine (rules_2 _).mono ?_; rintro e w2 ⟨rfl, hb2⟩; have A2 := A1.keep (bl_drew hb2); have Z2 := Z1.keep (bl_drew hb2); have hs2 := Nat.le_trans hsz (bl_drew hb2).size)
      | (go_at_call 51; refine (HEX.out _ (fun c hc => HQ.out c (Nat.le_trans hs2 hc))).mono ?_; rintro e w3 ⟨y, rfl, X3, hb3⟩; have A3 := A2.keep hb3; have Z3 := Z2.keep hb3; have X3' := Lib.hid X3; obtain ⟨p3, k3, q3, m3, rfl⟩ := X3.x.open; clear X3; obtain ⟨z0, z1, z2⟩ := Z3.ex; have f0 := Z3.free 0; have f1 := Z3.free 1; have f2 := Z3.free 2))
  go_wp2
  refine bodyPost_ret (v := exV (.slice p3 (wrds n.natAbs).length k3) (decide (n < 0)) (.slice q3 (wrds U).length m3)) (by simp [results, Tryz.results33, go_sem, z0, z1, z2]) rfl ⟨_, rfl, ?_, ?_⟩
  · exact (((X3'.out.put _ _ HQN.out).put _ _ HQN.out).put _ _ HQN.out).weak fun c _ hc => HQP.out c hc
  · (repeat refine Below.setCell ?_ (by simp <;> omega) _)
    exact bl_then B1.out (bl_then (bl_drew hb2) hb3)

set_option maxRecDepth 100000 in
set_option maxHeartbeats 4000000 in
theorem exactly_3 {P : Nat → Prop} (n : Int) (q : Int) (s : ByteArray) (w : World) (hP : ∀ c, w.heap.size ≤ c → P c) (h1 : -9223372036854775807 ≤ n) (h2 : n ≤ 9223372036854775807) (hq1 : -20000 ≤ q) (hq2 : q ≤ 20000) :
    Calls Tryz.prog 33 #[vaV 3 n q s] w fun e w' => ∃ y, e = .returned y ∧ XArgP P w' y (shN n q) (shU 1 q) ∧ Below w.heap.size w w' := by
  have q4 := fld_4
  have hcf : ∀ (args : Array Value) (W : World), (callFunc 58 args).run Tryz.prog W = .ok (.enter 58 args) W := fun _ _ => by kernel_rfl
  obtain ⟨Q, hQ⟩ : ∃ Q : Nat → Prop, Q = fun c => P c ∧ c ≠ w.heap.size + 1 := ⟨_, rfl⟩
  have HQ : Hid (∀ c, w.heap.size + 1 + 1 ≤ c → Q c) := Lib.hid fun c hc => by rw [hQ]; exact ⟨hP c (by omega), by omega⟩
  have HQP : Hid (∀ c, Q c → P c) := Lib.hid fun c hc => by rw [hQ] at hc; exact hc.1
  have HQN : Hid (∀ c, Q c → c ≠ w.heap.size + 1) := Lib.hid fun c hc => by rw [hQ] at hc; exact hc.2
  obtain ⟨N, hN⟩ : ∃ N : Int, (shN n q) = N := ⟨_, rfl⟩
  obtain ⟨U, hU⟩ : ∃ U, (shU 1 q) = U := ⟨_, rfl⟩
  have HEX : Hid (∀ W, (∀ c, W.heap.size ≤ c → Q c) → Calls Tryz.prog 58 #[vaV 3 n q s] W fun e w' => ∃ y, e = .returned y ∧ XArgP Q w' y N U ∧ Below W.heap.size W w') := Lib.hid fun W h3 => by
    rw [← hN, ← hU]; exact exactFloat_x 3 n q s W h3 h1 h2 hq1 hq2
  rw [hN, hU]
  clear hP h1 h2 hq1 hq2 hQ hN hU
  have RA := (Row.new w (vaC 3 n q s) 23).alloc (.cells (exC (.slice none 0 0) false (.slice none 0 0)) 52)
  have RZ := Row.new2 w (.cells (vaC 3 n q s) 23) (exC (.slice none 0 0) false (.slice none 0 0)) 52
  go_enter Tryz.func33, Tryz.ntmps33
  go_wp2_with (go_at_call 29; refine (demNum_3 n _ s _).mono ?_; rintro e w1 ⟨rfl, hb1⟩; have A1 := RA.keep hb1; have Z1 := RZ.keep hb1; have B1 := Lib.hid (bl_box2 (Below.refl _ w) hb1); have hs1 := hb1.size; obtain ⟨x0, x1, x2, x3⟩ := A1.four; clear hb1)
  have hsz : w.heap.size + 1 + 1 ≤ w1.heap.size := by simpa using hs1
  clear hs1
  go_region_held3 (fun w' => w'.cell? ⟨w.heap.size, 0, none⟩ = some (.int .i64 3) ∧ w'.cell? ⟨w.heap.size, 1, none⟩ = some (.int .i64 n) ∧ w'.cell? ⟨w.heap.size, 2, none⟩ = some (.int .i64 q) ∧ w'.cell? ⟨w.heap.size, 3, none⟩ = some (.string s))
    (first | go_keep | exact A3.four | exact A2.four | ((try dsimp only); (repeat' apply And.intro) <;> go_keep))
    (first
      | (go_at_call 30; refine (rules_3 _).mono ?_; rintro e w2 ⟨rfl, hb2⟩; have A2 := A1.keep (bl_drew hb2); have Z2 := Z1.keep (bl_drew hb2); have hs2 := Nat.le_trans hsz (bl_drew hb2).size)
      | (go_at_call 58; refine (HEX.out _ (fun c hc => HQ.out c (Nat.le_trans hs2 hc))).mono ?_; rintro e w3 ⟨y, rfl, X3, hb3⟩; have A3 := A2.keep hb3; have Z3 := Z2.keep hb3; have X3' := Lib.hid X3; obtain ⟨p3, k3, q3, m3, rfl⟩ := X3.x.open; clear X3; obtain ⟨z0, z1, z2⟩ := Z3.ex; have f0 := Z3.free 0; have f1 := Z3.free 1; have f2 := Z3.free 2))
  go_wp2
  refine bodyPost_ret (v := exV (.slice p3 (wrds N.natAbs).length k3) (decide (N < 0)) (.slice q3 (wrds U).length m3)) (by simp [results, Tryz.results33, go_sem, z0, z1, z2]) rfl ⟨_, rfl, ?_, ?_⟩
  · exact (((X3'.out.put _ _ HQN.out).put _ _ HQN.out).put _ _ HQN.out).weak fun c _ hc => HQP.out c hc
  · (repeat refine Below.setCell ?_ (by simp <;> omega) _)
    exact bl_then B1.out (bl_then (bl_drew hb2) hb3)
end Go.Proofs.YtafhboppojeafaaGreatDoor
