/- digit.fitting of fixed types, and its closure. -/
import Derived.Test.YtfoegnddlaemgaaGreatDoorWrdFit2
namespace Go.Proofs.YtfoegnddlaemgaaGreatDoor
open Go.RowKit

theorem row_six {w : World} {b : Nat} {a0 a1 a2 a3 a4 a5 : Value} {t : TypeId} (h : Row w b #[a0, a1, a2, a3, a4, a5] t) :
    w.cell? ⟨b, 0, none⟩ = some a0 ∧ w.cell? ⟨b, 1, none⟩ = some a1 ∧ w.cell? ⟨b, 2, none⟩ = some a2 ∧ w.cell? ⟨b, 3, none⟩ = some a3 ∧ w.cell? ⟨b, 4, none⟩ = some a4 ∧ w.cell? ⟨b, 5, none⟩ = some a5 :=
  ⟨h.at 0, h.at 1, h.at 2, h.at 3, h.at 4, h.at 5⟩

set_option maxRecDepth 100000 in
set_option maxHeartbeats 1000000 in
theorem fitDec_c (k n L : Int) (p q : Nat) (vy : Bool) (pic : ByteArray) (w : World) (hp : p ≤ 10000) (hq : q ≤ 10000) :
    Calls Tryz.prog 27 #[.agg #[.int .i64 k, .int .i64 (p : Int), .int .i64 (q : Int), .int .i64 n, .bool vy, .string pic], .int .i64 0, .int .i64 L] w fun e w' => ∃ cap, e = .returned (.func (.func 89) #[] cap) ∧ FixCap w' cap k n p q vy pic (10 ^ q) (10 ^ p) L ∧ Below w.heap.size w w' := by
  have HF : Hid (∀ W, Calls Tryz.prog 61 #[.agg #[.int .i64 k, .int .i64 (p : Int), .int .i64 (q : Int), .int .i64 n, .bool vy, .string pic], .int .i64 10, .int .i64 0, .int .i64 L] W fun e w' => ∃ cap, e = .returned (.func (.func 89) #[] cap) ∧ FixCap w' cap k n p q vy pic (10 ^ q) (10 ^ p) L ∧ Below W.heap.size W w') := Lib.hid fun W =>
    fitFixed_c k n L p q 10 _ _ vy pic W (fun W => power_d 10 q W (by decide) (by decide) (by omega) (pow_room (by decide) (by omega))) (fun W => power_d 10 p W (by decide) (by decide) (by omega) (pow_room (by decide) (by omega)))
  go_enter Tryz.func27, Tryz.ntmps27
  go_wp2_with (go_at_call 61; (with_reducible refine (HF.out _).mono ?_); rintro e w2 ⟨cap, rfl, HC, hb2⟩)
  go_ret
  exact ⟨_, rfl, HC, by first | exact hb2 | exact bl_box (Below.refl _ w) hb2⟩

set_option maxRecDepth 100000 in
set_option maxHeartbeats 1000000 in
theorem fitBin_c (k n L : Int) (p q : Nat) (vy : Bool) (pic : ByteArray) (w : World) (hp : p ≤ 10000) (hq : q ≤ 10000) :
    Calls Tryz.prog 21 #[.agg #[.int .i64 k, .int .i64 (p : Int), .int .i64 (q : Int), .int .i64 n, .bool vy, .string pic], .int .i64 0, .int .i64 L] w fun e w' => ∃ cap, e = .returned (.func (.func 89) #[] cap) ∧ FixCap w' cap k n p q vy pic (2 ^ q) (2 ^ p) L ∧ Below w.heap.size w w' := by
  have HF : Hid (∀ W, Calls Tryz.prog 61 #[.agg #[.int .i64 k, .int .i64 (p : Int), .int .i64 (q : Int), .int .i64 n, .bool vy, .string pic], .int .i64 2, .int .i64 0, .int .i64 L] W fun e w' => ∃ cap, e = .returned (.func (.func 89) #[] cap) ∧ FixCap w' cap k n p q vy pic (2 ^ q) (2 ^ p) L ∧ Below W.heap.size W w') := Lib.hid fun W =>
    fitFixed_c k n L p q 2 _ _ vy pic W (fun W => power_d 2 q W (by decide) (by decide) (by omega) (pow_room (by decide) (by omega))) (fun W => power_d 2 p W (by decide) (by decide) (by omega) (pow_room (by decide) (by omega)))
  go_enter Tryz.func21, Tryz.ntmps21
  go_wp2_with (go_at_call 61; (with_reducible refine (HF.out _).mono ?_); rintro e w2 ⟨cap, rfl, HC, hb2⟩)
  go_ret
  exact ⟨_, rfl, HC, by first | exact hb2 | exact bl_box (Below.refl _ w) hb2⟩

set_option maxRecDepth 100000 in
set_option maxHeartbeats 1000000 in
theorem fitting_1 (n L : Int) (p q : Nat) (vy : Bool) (pic : ByteArray) (w : World) (hp : p ≤ 10000) (hq : q ≤ 10000) :
    Calls Tryz.prog 85 #[.agg #[.int .i64 1, .int .i64 (p : Int), .int .i64 (q : Int), .int .i64 n, .bool vy, .string pic], .int .i64 0, .int .i64 L] w fun e w' => ∃ bt bf cap, e = .returned (.func (.func 106) #[] #[ptD bt, ptD bf]) ∧ Row w' bt #[.int .i64 1, .int .i64 (p : Int), .int .i64 (q : Int), .int .i64 n, .bool vy, .string pic] 42 ∧ Row w' bf #[.func (.func 89) #[] cap] 70 ∧ FixCap w' cap 1 n p q vy pic (2 ^ q) (2 ^ p) L ∧ Below w.heap.size w w' := by
  have hmf : ∀ (fn : Fn) (first cap : Array Value) (w : World), (Instr.makeFunc fn first cap).run Tryz.prog w = .ok (.func fn first cap) w := fun _ _ _ _ => rfl
  have q5 := fld_5
  have qe : ∀ (f : Nat) (w : World), (binOp .eql 34 (fnv f) .nilFunc).run Tryz.prog w = .ok (.bool false) w := fun _ _ => by kernel_rfl
  have RT := Row.new w #[.int .i64 1, .int .i64 (p : Int), .int .i64 (q : Int), .int .i64 n, .bool vy, .string pic] 42
  have HF : Hid (∀ W, Calls Tryz.prog 21 #[.agg #[.int .i64 1, .int .i64 (p : Int), .int .i64 (q : Int), .int .i64 n, .bool vy, .string pic], .int .i64 0, .int .i64 L] W fun e w' => ∃ cap, e = .returned (.func (.func 89) #[] cap) ∧ FixCap w' cap 1 n p q vy pic (2 ^ q) (2 ^ p) L ∧ Below W.heap.size W w') := Lib.hid fun W => fitBin_c _ n L p q vy pic W hp hq
  clear hp hq
  have t0 := RT.at 0
  have t0 : (w.alloc (.cells #[.int .i64 1, .int .i64 (p : Int), .int .i64 (q : Int), .int .i64 n, .bool vy, .string pic] 42)).cell? ⟨w.heap.size, 0, none⟩ = some (.int .i64 1) := t0
  go_enter Tryz.func85, Tryz.ntmps85
  go_wp2_with (first
    | (go_at_call 7; refine (rules_1 _).mono ?_; rintro e w2 ⟨rfl, hb2⟩; have T2 := RT.keep hb2; have B2 := Lib.hid (bl_box (Below.refl _ w) hb2); obtain ⟨y0, y1, y2, y3, y4, y5⟩ := row_six T2)
    | (go_at_call 21; (with_reducible refine (HF.out _).mono ?_); rintro e w3 ⟨cap, rfl, HC, hb3⟩; have T3 := Lib.hid (T2.keep hb3); have B3 := Lib.hid (bl_then B2.out hb3); have HC3 := Lib.hid HC; clear HC))
  go_ret
  exact ⟨_, _, cap, rfl, T3.out.alloc _, Row.new _ _ _, HC3.out.later ((Below.refl _ _).alloc (Nat.le_refl _) _), B3.out.alloc B3.out.size _⟩

set_option maxRecDepth 100000 in
set_option maxHeartbeats 1000000 in
theorem fitting_2 (n L : Int) (p q : Nat) (vy : Bool) (pic : ByteArray) (w : World) (hp : p ≤ 10000) (hq : q ≤ 10000) :
    Calls Tryz.prog 85 #[.agg #[.int .i64 2, .int .i64 (p : Int), .int .i64 (q : Int), .int .i64 n, .bool vy, .string pic], .int .i64 0, .int .i64 L] w fun e w' => ∃ bt bf cap, e = .returned (.func (.func 106) #[] #[ptD bt, ptD bf]) ∧ Row w' bt #[.int .i64 2, .int .i64 (p : Int), .int .i64 (q : Int), .int .i64 n, .bool vy, .string pic] 42 ∧ Row w' bf #[.func (.func 89) #[] cap] 70 ∧ FixCap w' cap 2 n p q vy pic (10 ^ q) (10 ^ p) L ∧ Below w.heap.size w w' := by
  have hmf : ∀ (fn : Fn) (first cap : Array Value) (w : World), (Instr.makeFunc fn first cap).run Tryz.prog w = .ok (.func fn first cap) w := fun _ _ _ _ => rfl
  have q5 := fld_5
  have qe : ∀ (f : Nat) (w : World), (binOp .eql 34 (fnv f) .nilFunc).run Tryz.prog w = .ok (.bool false) w := fun _ _ => by kernel_rfl
  have RT := Row.new w #[.int .i64 2, .int .i64 (p : Int), .int .i64 (q : Int), .int .i64 n, .bool vy, .string pic] 42
  have HF : Hid (∀ W, Calls Tryz.prog 27 #[.agg #[.int .i64 2, .int .i64 (p : Int), .int .i64 (q : Int), .int .i64 n, .bool vy, .string pic], .int .i64 0, .int .i64 L] W fun e w' => ∃ cap, e = .returned (.func (.func 89) #[] cap) ∧ FixCap w' cap 2 n p q vy pic (10 ^ q) (10 ^ p) L ∧ Below W.heap.size W w') := Lib.hid fun W => fitDec_c _ n L p q vy pic W hp hq
  clear hp hq
  have t0 := RT.at 0
  have t0 : (w.alloc (.cells #[.int .i64 2, .int .i64 (p : Int), .int .i64 (q : Int), .int .i64 n, .bool vy, .string pic] 42)).cell? ⟨w.heap.size, 0, none⟩ = some (.int .i64 2) := t0
  go_enter Tryz.func85, Tryz.ntmps85
  go_wp2_with (first
    | (go_at_call 7; refine (rules_2 _).mono ?_; rintro e w2 ⟨rfl, hb2⟩; have T2 := RT.keep hb2; have B2 := Lib.hid (bl_box (Below.refl _ w) hb2); obtain ⟨y0, y1, y2, y3, y4, y5⟩ := row_six T2)
    | (go_at_call 27; (with_reducible refine (HF.out _).mono ?_); rintro e w3 ⟨cap, rfl, HC, hb3⟩; have T3 := Lib.hid (T2.keep hb3); have B3 := Lib.hid (bl_then B2.out hb3); have HC3 := Lib.hid HC; clear HC))
  go_ret
  exact ⟨_, _, cap, rfl, T3.out.alloc _, Row.new _ _ _, HC3.out.later ((Below.refl _ _).alloc (Nat.le_refl _) _), B3.out.alloc B3.out.size _⟩

set_option maxRecDepth 100000 in
set_option maxHeartbeats 2000000 in
/-- The fitter of a type, over whatever fits numbers to it; the divisor is not 0. -/
theorem fitting1_x {z : Int} {u : Nat} {vx : Value} {w : World} {bt bf fn : Nat} {cap : Array Value} {k N q c : Int} {s : ByteArray} (hcf : ∀ (args : Array Value) (W : World), (callFunc fn args).run Tryz.prog W = .ok (.enter fn args) W) (Rf : Row w bf #[.func (.func fn) #[] cap] 70) (hX : XArg 0 w vx z u) (lu : (wrds u).length ≤ 1000000) (hu : u ≠ 0)
    (hF : ∀ W, Below w.heap.size w W → Calls Tryz.prog fn (#[vx] ++ cap) W fun e w' => e = .returned (.tuple #[vaV k N q s, .int .i64 c]) ∧ Below W.heap.size W w') :
    Calls Tryz.prog 106 #[vx, ptD bt, ptD bf] w fun e w' => e = .returned (.tuple #[vaV k N q s, .int .i64 c]) ∧ Below w.heap.size w w' := by
  obtain ⟨px, kx, qx, mx, rfl⟩ := hX.open
  have HXu := Lib.hid hX.args.2.1
  have HF := Lib.hid hF
  have HZ : Hid (∀ W, Below w.heap.size w W → Calls Tryz.prog 55 #[.slice qx (wrds u).length mx] W fun e w' => e = .returned (.bool false) ∧ W = w') := Lib.hid fun W hW => by
    have := isZero_d (HXu.out.keep hW (Nat.le_refl _)) lu
    rwa [decide_eq_false hu] at this
  clear hX hF hu
  have RX := (Row.new w (exC (.slice px (wrds z.natAbs).length kx) (decide (z < 0)) (.slice qx (wrds u).length mx)) 52).alloc (.cells (vaC 0 0 0 ⟨#[]⟩) 23)
  have RZ := Row.new2 w (.cells (exC (.slice px (wrds z.natAbs).length kx) (decide (z < 0)) (.slice qx (wrds u).length mx)) 52) (vaC 0 0 0 ⟨#[]⟩) 23
  have RF := (Rf.alloc (.cells (exC (.slice px (wrds z.natAbs).length kx) (decide (z < 0)) (.slice qx (wrds u).length mx)) 52)).alloc (.cells (vaC 0 0 0 ⟨#[]⟩) 23)
  go_enter Tryz.func106, Tryz.ntmps106
  go_wp2_with fail
  generalize hw : (w.alloc (.cells (exC (.slice px (wrds z.natAbs).length kx) (decide (z < 0)) (.slice qx (wrds u).length mx)) 52)).alloc (.cells (vaC 0 0 0 ⟨#[]⟩) 23) = W at *
  have B0 : Hid (Below w.heap.size w W) := by show Below _ _ _; rw [← hw]; go_grown
  clear hw
  obtain ⟨x0, x1, x2⟩ := RX.ex
  have c1 := RF.one
  go_wp2_with (first
    | (go_at_call 55; (with_reducible refine (HZ.out _ B0.out).mono ?_); rintro e w1 ⟨rfl, rfl⟩)
    | ((refine (HF.out _ B0.out).mono ?_); rintro e w2 ⟨rfl, hb2⟩; have Z2 := RZ.keep hb2; have B2 := Lib.hid (bl_then B0.out hb2); obtain ⟨z0, z1, z2, z3⟩ := Z2.four; have f0 := Z2.free 0; have f1 := Z2.free 1; have f2 := Z2.free 2; have f3 := Z2.free 3))
  refine bodyPost_ret (v := .tuple #[vaV k N q s, .int .i64 c]) (by simp [results, Tryz.results106, go_sem, z0, z1, z2, z3]) rfl ⟨rfl, ?_⟩
  (repeat refine Below.setCell ?_ (by simp <;> omega) _)
  exact B2.out
end Go.Proofs.YtfoegnddlaemgaaGreatDoor
