/- The law BitsParts, for any two values and numbers. -/
import Derived.Test.YtmbmcelgfgelfaaBitRSet
import Derived.Test.YtmbmcelgfgelfaaBitRest
import Derived.Test.YtmbmcelgfgelfaaBitAwake
namespace Go.Proofs.Ytmbmcelgfgelfaa
open Go.RowKit

/-- What two functions of a string, a condition and an error answer alike. -/
def Trip (F G : Nat) (args : Array Value) (K : Int) (L : ByteArray) (C E : Int) : Prop :=
  (∀ W, Calls Try.prog F args W fun e w' => e = .returned (.tuple #[vlV K 0 0 L, .int .i64 C, .int .i64 E]) ∧ Below W.heap.size W w') ∧
  ∀ W, Calls Try.prog G args W fun e w' => e = .returned (.tuple #[vlV K 0 0 L, .int .i64 C, .int .i64 E]) ∧ Below W.heap.size W w'
theorem Row.put4 {w : World} {b : Nat} {a0 a1 a2 a3 : Value} {t : TypeId} (h : Row w b #[a0, a1, a2, a3] t) (y0 y1 y2 y3 : Value) :
    Row ((((w.setCell ⟨b, 0, none⟩ y0).setCell ⟨b, 1, none⟩ y1).setCell ⟨b, 2, none⟩ y2).setCell ⟨b, 3, none⟩ y3) b #[y0, y1, y2, y3] t := (((h.put 0 y0).put 1 y1).put 2 y2).put 3 y3
theorem Row.by4 {w : World} {b c : Nat} {cs : Array Value} {t : TypeId} (h : Row w c cs t) (hne : b ≠ c) (y0 y1 y2 y3 : Value) :
    Row ((((w.setCell ⟨b, 0, none⟩ y0).setCell ⟨b, 1, none⟩ y1).setCell ⟨b, 2, none⟩ y2).setCell ⟨b, 3, none⟩ y3) c cs t := (((h.set hne).set hne).set hne).set hne
theorem below4 {B : Nat} {w0 w : World} {b : Nat} (h : Below B w0 w) (hb : B ≤ b) (y0 y1 y2 y3 : Value) :
    Below B w0 ((((w.setCell ⟨b, 0, none⟩ y0).setCell ⟨b, 1, none⟩ y1).setCell ⟨b, 2, none⟩ y2).setCell ⟨b, 3, none⟩ y3) := (((h.setCell hb y0).setCell hb y1).setCell hb y2).setCell hb y3

set_option maxRecDepth 100000 in
set_option maxHeartbeats 8000000 in
theorem parts_dark (a : Vl) (i m : Int) (v : Vl) (w : World) (hs : a.s.size ≤ maxLen) (hs' : v.s.size ≤ maxLen) (hl : ¬ ∀ x ∈ [a, v], x.light = true) :
    Calls Try.prog 3 #[a.v, .int .i64 i, .int .i64 m, v.v] w fun e w' => e = .returned (.bool true) ∧ Below w.heap.size w w' := by
  have HP : Hid (∀ x ∈ [a, v], x.s.size ≤ maxLen) := Lib.hid (vl2 hs hs')
  have hG : Try.prog.eqGuardType Try.prog.depth 23 = false := by kernel_rfl
  have hE := vlEq
  clear hs hs'
  have HL := Lib.hid hl
  clear hl
  go_enter Try.func3, Try.ntmps3
  go_wp2_with (first
    | (go_at_call 8; refine (bLight_no [a, v] (w.heap.size + 1 + 1) 0 2 _ (VlsAt.two (Row.new3 _ _ _ _ _)) (by simp) (by simp) HP.out HL.out).mono ?_; rintro e w1 ⟨rfl, rfl⟩)
    | (go_at_call 9; refine (awake_any _).mono ?_; rintro e w2 ⟨rfl, hb⟩))
  go_ret
  exact ⟨rfl, bl_box3 (Below.refl _ w) hb⟩

set_option maxRecDepth 100000 in
set_option maxHeartbeats 8000000 in
theorem parts_err (a : Vl) (i m : Int) (v : Vl) (w : World) (hs : a.s.size ≤ maxLen) (hs' : v.s.size ≤ maxLen) (hl : ∀ x ∈ [a, v], x.light = true) (K1 : Int) (L1 : ByteArray) (C1 E1 K2 : Int) (L2 : ByteArray) (C2 E2 K3 : Int) (L3 : ByteArray) (C3 E3 : Int) (h1 : Trip 10 11 #[a.v, .int .i64 i, .int .i64 m] K1 L1 C1 E1) (h2 : Trip 12 13 #[a.v, .int .i64 i] K2 L2 C2 E2) (h3 : Trip 14 15 #[a.v, .int .i64 i, .int .i64 m, v.v] K3 L3 C3 E3) (hE3 : E3 ≠ 0) :
    Calls Try.prog 3 #[a.v, .int .i64 i, .int .i64 m, v.v] w fun e w' => e = .returned (.bool true) ∧ Below w.heap.size w w' := by
  have HP : Hid (∀ x ∈ [a, v], x.s.size ≤ maxLen) := Lib.hid (vl2 hs hs')
  have hG : Try.prog.eqGuardType Try.prog.depth 23 = false := by kernel_rfl
  have hE := vlEq
  clear hs hs'
  have H1 := Lib.hid h1; have H2 := Lib.hid h2; have H3 := Lib.hid h3; have HL := Lib.hid hl
  clear h1 h2 h3 hl
  have e1 : (E3 != 0) = true := by simpa using hE3
  have e2 : (E3 == 0) = false := by simpa using hE3
  clear hE3
  go_enter Try.func3, Try.ntmps3
  have A0 := Row.new w (vlC a.k a.n a.q a.s) 23
  have P0 := Row.new2 w (.cells (vlC a.k a.n a.q a.s) 23) (vlC v.k v.n v.q v.s) 23
  go_wp2_with fail
  go_at_call 8
  refine (bLight_yes [a, v] (w.heap.size + 1 + 1) 0 2 _ (VlsAt.two (Row.new3 _ _ _ _ _)) (by simp) (by simp) HP.out HL.out).mono ?_
  rintro e wl ⟨rfl, rfl⟩
  go_wp2_with fail
  go_at_call 10
  refine (H1.out.1 _).mono ?_
  rintro e w1 ⟨rfl, hb1⟩
  have B1 := Lib.hid (bl_box3 (Below.refl _ w) hb1)
  have A1 := ((A0.alloc _).alloc _).keep hb1
  have P1 := (P0.alloc _).keep hb1
  obtain ⟨a0, a1, a2, a3⟩ := A1.four
  have la := A1.lt
  obtain ⟨p0, p1, p2, p3⟩ := P1.four
  have lp := P1.lt
  clear hb1 A0 P0
  obtain ⟨bx, hbx⟩ : ∃ b, b = w1.heap.size := ⟨_, rfl⟩
  go_wp2_with fail
  go_at_call 11
  refine (H1.out.2 _).mono ?_
  rintro e w2 ⟨rfl, hb2⟩
  have B2 := Lib.hid (bl_box B1.out hb2)
  have A2 := (A1.alloc _).keep hb2
  have P2 := (P1.alloc _).keep hb2
  have X2 := (Row.new w1 (vlC K1 0 0 L1) 23).keep hb2
  obtain ⟨a0, a1, a2, a3⟩ := A2.four
  have la := A2.lt
  obtain ⟨p0, p1, p2, p3⟩ := P2.four
  have lp := P2.lt
  obtain ⟨x0, x1, x2, x3⟩ := X2.four
  have lx := X2.lt
  have hzx : w.heap.size ≤ w1.heap.size := B1.out.size
  have hax : w.heap.size < w1.heap.size := A1.lt
  have hpx : w.heap.size + 1 < w1.heap.size := P1.lt
  clear hb2 A1 P1
  go_wp2_with fail
  go_at_call 12
  refine (H2.out.1 _).mono ?_
  rintro e w3 ⟨rfl, hb3⟩
  have B3 := Lib.hid (bl_box B2.out hb3)
  have A3 := (A2.alloc _).keep hb3
  have P3 := (P2.alloc _).keep hb3
  have X3 := (X2.alloc _).keep hb3
  have Y3 := (Row.new w2 (vlC K1 0 0 L1) 23).keep hb3
  have hay : w.heap.size < w2.heap.size := A2.lt
  have hpy : w.heap.size + 1 < w2.heap.size := P2.lt
  have hxy : w1.heap.size < w2.heap.size := X2.lt
  obtain ⟨a0, a1, a2, a3⟩ := A3.four
  have la := A3.lt
  obtain ⟨p0, p1, p2, p3⟩ := P3.four
  have lp := P3.lt
  obtain ⟨x0, x1, x2, x3⟩ := X3.four
  have lx := X3.lt
  obtain ⟨y0, y1, y2, y3⟩ := Y3.four
  have ly := Y3.lt
  clear hb3 A2 P2 X2
  generalize w1.heap.size = bx at *
  generalize w2.heap.size = by' at *
  have : ¬ bx = by' := by omega
  have : ¬ by' = bx := by omega
  have : ¬ bx = w.heap.size := by omega
  have : ¬ w.heap.size = bx := by omega
  have : ¬ bx = w.heap.size + 1 := by omega
  have : ¬ w.heap.size + 1 = bx := by omega
  have : ¬ by' = w.heap.size := by omega
  have : ¬ w.heap.size = by' := by omega
  have : ¬ by' = w.heap.size + 1 := by omega
  have : ¬ w.heap.size + 1 = by' := by omega
  have fx0 := X3.free 0
  have fx1 := X3.free 1
  have fx2 := X3.free 2
  have fx3 := X3.free 3
  have fy0 := Y3.free 0
  have fy1 := Y3.free 1
  have fy2 := Y3.free 2
  have fy3 := Y3.free 3
  go_wp2_with fail
  have Xs := X3.put4 (.int .i64 K2) (.int .i64 0) (.int .i64 0) (.string L2)
  have Ys := Y3.by4 (b := bx) (by omega) (.int .i64 K2) (.int .i64 0) (.int .i64 0) (.string L2)
  have As := A3.by4 (b := bx) (by omega) (.int .i64 K2) (.int .i64 0) (.int .i64 0) (.string L2)
  have Ps := P3.by4 (b := bx) (by omega) (.int .i64 K2) (.int .i64 0) (.int .i64 0) (.string L2)
  have Bs := Lib.hid (below4 (b := bx) B3.out (by omega) (.int .i64 K2) (.int .i64 0) (.int .i64 0) (.string L2))
  generalize ((((w3.setCell ⟨bx, 0, none⟩ (.int .i64 K2)).setCell ⟨bx, 1, none⟩ (.int .i64 0)).setCell ⟨bx, 2, none⟩ (.int .i64 0)).setCell ⟨bx, 3, none⟩ (.string L2)) = W3 at *
  go_at_call 13
  refine (H2.out.2 _).mono ?_
  rintro e w4 ⟨rfl, hb4⟩
  have B4 := Lib.hid (bl_then Bs.out hb4)
  clear a0 a1 a2 a3 la p0 p1 p2 p3 lp x0 x1 x2 x3 lx y0 y1 y2 y3 ly fx0 fx1 fx2 fx3 fy0 fy1 fy2 fy3
  have A4 := As.keep hb4
  have P4 := Ps.keep hb4
  have X4 := Xs.keep hb4
  have Y4 := Ys.keep hb4
  obtain ⟨a0, a1, a2, a3⟩ := A4.four
  have la := A4.lt
  obtain ⟨p0, p1, p2, p3⟩ := P4.four
  have lp := P4.lt
  obtain ⟨x0, x1, x2, x3⟩ := X4.four
  have lx := X4.lt
  obtain ⟨y0, y1, y2, y3⟩ := Y4.four
  have ly := Y4.lt
  have fx0 := X4.free 0
  have fx1 := X4.free 1
  have fx2 := X4.free 2
  have fx3 := X4.free 3
  have fy0 := Y4.free 0
  have fy1 := Y4.free 1
  have fy2 := Y4.free 2
  have fy3 := Y4.free 3
  clear hb4 As Ps Xs Ys A3 P3 X3 Y3
  go_wp2_with fail
  have Ys := Y4.put4 (.int .i64 K2) (.int .i64 0) (.int .i64 0) (.string L2)
  have Xs := X4.by4 (b := by') (by omega) (.int .i64 K2) (.int .i64 0) (.int .i64 0) (.string L2)
  have As := A4.by4 (b := by') (by omega) (.int .i64 K2) (.int .i64 0) (.int .i64 0) (.string L2)
  have Ps := P4.by4 (b := by') (by omega) (.int .i64 K2) (.int .i64 0) (.int .i64 0) (.string L2)
  have Bs := Lib.hid (below4 (b := by') B4.out (by omega) (.int .i64 K2) (.int .i64 0) (.int .i64 0) (.string L2))
  generalize ((((w4.setCell ⟨by', 0, none⟩ (.int .i64 K2)).setCell ⟨by', 1, none⟩ (.int .i64 0)).setCell ⟨by', 2, none⟩ (.int .i64 0)).setCell ⟨by', 3, none⟩ (.string L2)) = W4 at *
  go_at_call 14
  refine (H3.out.1 _).mono ?_
  rintro e w5 ⟨rfl, hb5⟩
  have B5 := Lib.hid (bl_then Bs.out hb5)
  clear a0 a1 a2 a3 la p0 p1 p2 p3 lp x0 x1 x2 x3 lx y0 y1 y2 y3 ly fx0 fx1 fx2 fx3 fy0 fy1 fy2 fy3
  have A5 := As.keep hb5
  have P5 := Ps.keep hb5
  have X5 := Xs.keep hb5
  have Y5 := Ys.keep hb5
  obtain ⟨a0, a1, a2, a3⟩ := A5.four
  have la := A5.lt
  obtain ⟨p0, p1, p2, p3⟩ := P5.four
  have lp := P5.lt
  obtain ⟨x0, x1, x2, x3⟩ := X5.four
  have lx := X5.lt
  obtain ⟨y0, y1, y2, y3⟩ := Y5.four
  have ly := Y5.lt
  have fx0 := X5.free 0
  have fx1 := X5.free 1
  have fx2 := X5.free 2
  have fx3 := X5.free 3
  have fy0 := Y5.free 0
  have fy1 := Y5.free 1
  have fy2 := Y5.free 2
  have fy3 := Y5.free 3
  clear hb5 As Ps Xs Ys A4 P4 X4 Y4
  go_wp2_with fail
  have Xs := X5.put4 (.int .i64 K3) (.int .i64 0) (.int .i64 0) (.string L3)
  have Ys := Y5.by4 (b := bx) (by omega) (.int .i64 K3) (.int .i64 0) (.int .i64 0) (.string L3)
  have As := A5.by4 (b := bx) (by omega) (.int .i64 K3) (.int .i64 0) (.int .i64 0) (.string L3)
  have Ps := P5.by4 (b := bx) (by omega) (.int .i64 K3) (.int .i64 0) (.int .i64 0) (.string L3)
  have Bs := Lib.hid (below4 (b := bx) B5.out (by omega) (.int .i64 K3) (.int .i64 0) (.int .i64 0) (.string L3))
  generalize ((((w5.setCell ⟨bx, 0, none⟩ (.int .i64 K3)).setCell ⟨bx, 1, none⟩ (.int .i64 0)).setCell ⟨bx, 2, none⟩ (.int .i64 0)).setCell ⟨bx, 3, none⟩ (.string L3)) = W5 at *
  go_at_call 15
  refine (H3.out.2 _).mono ?_
  rintro e w6 ⟨rfl, hb6⟩
  have B6 := Lib.hid (bl_then Bs.out hb6)
  clear a0 a1 a2 a3 la p0 p1 p2 p3 lp x0 x1 x2 x3 lx y0 y1 y2 y3 ly fx0 fx1 fx2 fx3 fy0 fy1 fy2 fy3
  have A6 := As.keep hb6
  have P6 := Ps.keep hb6
  have X6 := Xs.keep hb6
  have Y6 := Ys.keep hb6
  obtain ⟨a0, a1, a2, a3⟩ := A6.four
  have la := A6.lt
  obtain ⟨p0, p1, p2, p3⟩ := P6.four
  have lp := P6.lt
  obtain ⟨x0, x1, x2, x3⟩ := X6.four
  have lx := X6.lt
  obtain ⟨y0, y1, y2, y3⟩ := Y6.four
  have ly := Y6.lt
  have fx0 := X6.free 0
  have fx1 := X6.free 1
  have fx2 := X6.free 2
  have fx3 := X6.free 3
  have fy0 := Y6.free 0
  have fy1 := Y6.free 1
  have fy2 := Y6.free 2
  have fy3 := Y6.free 3
  clear hb6 As Ps Xs Ys A5 P5 X5 Y5
  go_wp2_with fail
  have Ys := Y6.put4 (.int .i64 K3) (.int .i64 0) (.int .i64 0) (.string L3)
  have Xs := X6.by4 (b := by') (by omega) (.int .i64 K3) (.int .i64 0) (.int .i64 0) (.string L3)
  have As := A6.by4 (b := by') (by omega) (.int .i64 K3) (.int .i64 0) (.int .i64 0) (.string L3)
  have Ps := P6.by4 (b := by') (by omega) (.int .i64 K3) (.int .i64 0) (.int .i64 0) (.string L3)
  have Bs := Lib.hid (below4 (b := by') B6.out (by omega) (.int .i64 K3) (.int .i64 0) (.int .i64 0) (.string L3))
  generalize ((((w6.setCell ⟨by', 0, none⟩ (.int .i64 K3)).setCell ⟨by', 1, none⟩ (.int .i64 0)).setCell ⟨by', 2, none⟩ (.int .i64 0)).setCell ⟨by', 3, none⟩ (.string L3)) = W6 at *
  go_at_call 9
  refine (awake_any _).mono ?_
  rintro e wz ⟨rfl, hbz⟩
  go_wp2
  go_ret
  exact ⟨rfl, bl_then Bs.out hbz⟩

set_option maxRecDepth 100000 in
set_option maxHeartbeats 8000000 in
theorem parts_cond (a : Vl) (i m : Int) (v : Vl) (w : World) (hs : a.s.size ≤ maxLen) (hs' : v.s.size ≤ maxLen) (hl : ∀ x ∈ [a, v], x.light = true) (K1 : Int) (L1 : ByteArray) (C1 E1 K2 : Int) (L2 : ByteArray) (C2 E2 K3 : Int) (L3 : ByteArray) (C3 E3 : Int) (h1 : Trip 10 11 #[a.v, .int .i64 i, .int .i64 m] K1 L1 C1 E1) (h2 : Trip 12 13 #[a.v, .int .i64 i] K2 L2 C2 E2) (h3 : Trip 14 15 #[a.v, .int .i64 i, .int .i64 m, v.v] K3 L3 C3 E3) (hE3 : E3 = 0) (hC3 : C3 ≠ 0) :
    Calls Try.prog 3 #[a.v, .int .i64 i, .int .i64 m, v.v] w fun e w' => e = .returned (.bool true) ∧ Below w.heap.size w w' := by
  subst hE3
  have HP : Hid (∀ x ∈ [a, v], x.s.size ≤ maxLen) := Lib.hid (vl2 hs hs')
  have hG : Try.prog.eqGuardType Try.prog.depth 23 = false := by kernel_rfl
  have hE := vlEq
  clear hs hs'
  have H1 := Lib.hid h1; have H2 := Lib.hid h2; have H3 := Lib.hid h3; have HL := Lib.hid hl
  clear h1 h2 h3 hl
  have e1 : (C3 != 0) = true := by simpa using hC3
  have e2 : (C3 == 0) = false := by simpa using hC3
  clear hC3
  go_enter Try.func3, Try.ntmps3
  have A0 := Row.new w (vlC a.k a.n a.q a.s) 23
  have P0 := Row.new2 w (.cells (vlC a.k a.n a.q a.s) 23) (vlC v.k v.n v.q v.s) 23
  go_wp2_with fail
  go_at_call 8
  refine (bLight_yes [a, v] (w.heap.size + 1 + 1) 0 2 _ (VlsAt.two (Row.new3 _ _ _ _ _)) (by simp) (by simp) HP.out HL.out).mono ?_
  rintro e wl ⟨rfl, rfl⟩
  go_wp2_with fail
  go_at_call 10
  refine (H1.out.1 _).mono ?_
  rintro e w1 ⟨rfl, hb1⟩
  have B1 := Lib.hid (bl_box3 (Below.refl _ w) hb1)
  have A1 := ((A0.alloc _).alloc _).keep hb1
  have P1 := (P0.alloc _).keep hb1
  obtain ⟨a0, a1, a2, a3⟩ := A1.four
  have la := A1.lt
  obtain ⟨p0, p1, p2, p3⟩ := P1.four
  have lp := P1.lt
  clear hb1 A0 P0
  obtain ⟨bx, hbx⟩ : ∃ b, b = w1.heap.size := ⟨_, rfl⟩
  go_wp2_with fail
  go_at_call 11
  refine (H1.out.2 _).mono ?_
  rintro e w2 ⟨rfl, hb2⟩
  have B2 := Lib.hid (bl_box B1.out hb2)
  have A2 := (A1.alloc _).keep hb2
  have P2 := (P1.alloc _).keep hb2
  have X2 := (Row.new w1 (vlC K1 0 0 L1) 23).keep hb2
  obtain ⟨a0, a1, a2, a3⟩ := A2.four
  have la := A2.lt
  obtain ⟨p0, p1, p2, p3⟩ := P2.four
  have lp := P2.lt
  obtain ⟨x0, x1, x2, x3⟩ := X2.four
  have lx := X2.lt
  have hzx : w.heap.size ≤ w1.heap.size := B1.out.size
  have hax : w.heap.size < w1.heap.size := A1.lt
  have hpx : w.heap.size + 1 < w1.heap.size := P1.lt
  clear hb2 A1 P1
  go_wp2_with fail
  go_at_call 12
  refine (H2.out.1 _).mono ?_
  rintro e w3 ⟨rfl, hb3⟩
  have B3 := Lib.hid (bl_box B2.out hb3)
  have A3 := (A2.alloc _).keep hb3
  have P3 := (P2.alloc _).keep hb3
  have X3 := (X2.alloc _).keep hb3
  have Y3 := (Row.new w2 (vlC K1 0 0 L1) 23).keep hb3
  have hay : w.heap.size < w2.heap.size := A2.lt
  have hpy : w.heap.size + 1 < w2.heap.size := P2.lt
  have hxy : w1.heap.size < w2.heap.size := X2.lt
  obtain ⟨a0, a1, a2, a3⟩ := A3.four
  have la := A3.lt
  obtain ⟨p0, p1, p2, p3⟩ := P3.four
  have lp := P3.lt
  obtain ⟨x0, x1, x2, x3⟩ := X3.four
  have lx := X3.lt
  obtain ⟨y0, y1, y2, y3⟩ := Y3.four
  have ly := Y3.lt
  clear hb3 A2 P2 X2
  generalize w1.heap.size = bx at *
  generalize w2.heap.size = by' at *
  have : ¬ bx = by' := by omega
  have : ¬ by' = bx := by omega
  have : ¬ bx = w.heap.size := by omega
  have : ¬ w.heap.size = bx := by omega
  have : ¬ bx = w.heap.size + 1 := by omega
  have : ¬ w.heap.size + 1 = bx := by omega
  have : ¬ by' = w.heap.size := by omega
  have : ¬ w.heap.size = by' := by omega
  have : ¬ by' = w.heap.size + 1 := by omega
  have : ¬ w.heap.size + 1 = by' := by omega
  have fx0 := X3.free 0
  have fx1 := X3.free 1
  have fx2 := X3.free 2
  have fx3 := X3.free 3
  have fy0 := Y3.free 0
  have fy1 := Y3.free 1
  have fy2 := Y3.free 2
  have fy3 := Y3.free 3
  go_wp2_with fail
  have Xs := X3.put4 (.int .i64 K2) (.int .i64 0) (.int .i64 0) (.string L2)
  have Ys := Y3.by4 (b := bx) (by omega) (.int .i64 K2) (.int .i64 0) (.int .i64 0) (.string L2)
  have As := A3.by4 (b := bx) (by omega) (.int .i64 K2) (.int .i64 0) (.int .i64 0) (.string L2)
  have Ps := P3.by4 (b := bx) (by omega) (.int .i64 K2) (.int .i64 0) (.int .i64 0) (.string L2)
  have Bs := Lib.hid (below4 (b := bx) B3.out (by omega) (.int .i64 K2) (.int .i64 0) (.int .i64 0) (.string L2))
  generalize ((((w3.setCell ⟨bx, 0, none⟩ (.int .i64 K2)).setCell ⟨bx, 1, none⟩ (.int .i64 0)).setCell ⟨bx, 2, none⟩ (.int .i64 0)).setCell ⟨bx, 3, none⟩ (.string L2)) = W3 at *
  go_at_call 13
  refine (H2.out.2 _).mono ?_
  rintro e w4 ⟨rfl, hb4⟩
  have B4 := Lib.hid (bl_then Bs.out hb4)
  clear a0 a1 a2 a3 la p0 p1 p2 p3 lp x0 x1 x2 x3 lx y0 y1 y2 y3 ly fx0 fx1 fx2 fx3 fy0 fy1 fy2 fy3
  have A4 := As.keep hb4
  have P4 := Ps.keep hb4
  have X4 := Xs.keep hb4
  have Y4 := Ys.keep hb4
  obtain ⟨a0, a1, a2, a3⟩ := A4.four
  have la := A4.lt
  obtain ⟨p0, p1, p2, p3⟩ := P4.four
  have lp := P4.lt
  obtain ⟨x0, x1, x2, x3⟩ := X4.four
  have lx := X4.lt
  obtain ⟨y0, y1, y2, y3⟩ := Y4.four
  have ly := Y4.lt
  have fx0 := X4.free 0
  have fx1 := X4.free 1
  have fx2 := X4.free 2
  have fx3 := X4.free 3
  have fy0 := Y4.free 0
  have fy1 := Y4.free 1
  have fy2 := Y4.free 2
  have fy3 := Y4.free 3
  clear hb4 As Ps Xs Ys A3 P3 X3 Y3
  go_wp2_with fail
  have Ys := Y4.put4 (.int .i64 K2) (.int .i64 0) (.int .i64 0) (.string L2)
  have Xs := X4.by4 (b := by') (by omega) (.int .i64 K2) (.int .i64 0) (.int .i64 0) (.string L2)
  have As := A4.by4 (b := by') (by omega) (.int .i64 K2) (.int .i64 0) (.int .i64 0) (.string L2)
  have Ps := P4.by4 (b := by') (by omega) (.int .i64 K2) (.int .i64 0) (.int .i64 0) (.string L2)
  have Bs := Lib.hid (below4 (b := by') B4.out (by omega) (.int .i64 K2) (.int .i64 0) (.int .i64 0) (.string L2))
  generalize ((((w4.setCell ⟨by', 0, none⟩ (.int .i64 K2)).setCell ⟨by', 1, none⟩ (.int .i64 0)).setCell ⟨by', 2, none⟩ (.int .i64 0)).setCell ⟨by', 3, none⟩ (.string L2)) = W4 at *
  go_at_call 14
  refine (H3.out.1 _).mono ?_
  rintro e w5 ⟨rfl, hb5⟩
  have B5 := Lib.hid (bl_then Bs.out hb5)
  clear a0 a1 a2 a3 la p0 p1 p2 p3 lp x0 x1 x2 x3 lx y0 y1 y2 y3 ly fx0 fx1 fx2 fx3 fy0 fy1 fy2 fy3
  have A5 := As.keep hb5
  have P5 := Ps.keep hb5
  have X5 := Xs.keep hb5
  have Y5 := Ys.keep hb5
  obtain ⟨a0, a1, a2, a3⟩ := A5.four
  have la := A5.lt
  obtain ⟨p0, p1, p2, p3⟩ := P5.four
  have lp := P5.lt
  obtain ⟨x0, x1, x2, x3⟩ := X5.four
  have lx := X5.lt
  obtain ⟨y0, y1, y2, y3⟩ := Y5.four
  have ly := Y5.lt
  have fx0 := X5.free 0
  have fx1 := X5.free 1
  have fx2 := X5.free 2
  have fx3 := X5.free 3
  have fy0 := Y5.free 0
  have fy1 := Y5.free 1
  have fy2 := Y5.free 2
  have fy3 := Y5.free 3
  clear hb5 As Ps Xs Ys A4 P4 X4 Y4
  go_wp2_with fail
  have Xs := X5.put4 (.int .i64 K3) (.int .i64 0) (.int .i64 0) (.string L3)
  have Ys := Y5.by4 (b := bx) (by omega) (.int .i64 K3) (.int .i64 0) (.int .i64 0) (.string L3)
  have As := A5.by4 (b := bx) (by omega) (.int .i64 K3) (.int .i64 0) (.int .i64 0) (.string L3)
  have Ps := P5.by4 (b := bx) (by omega) (.int .i64 K3) (.int .i64 0) (.int .i64 0) (.string L3)
  have Bs := Lib.hid (below4 (b := bx) B5.out (by omega) (.int .i64 K3) (.int .i64 0) (.int .i64 0) (.string L3))
  generalize ((((w5.setCell ⟨bx, 0, none⟩ (.int .i64 K3)).setCell ⟨bx, 1, none⟩ (.int .i64 0)).setCell ⟨bx, 2, none⟩ (.int .i64 0)).setCell ⟨bx, 3, none⟩ (.string L3)) = W5 at *
  go_at_call 15
  refine (H3.out.2 _).mono ?_
  rintro e w6 ⟨rfl, hb6⟩
  have B6 := Lib.hid (bl_then Bs.out hb6)
  clear a0 a1 a2 a3 la p0 p1 p2 p3 lp x0 x1 x2 x3 lx y0 y1 y2 y3 ly fx0 fx1 fx2 fx3 fy0 fy1 fy2 fy3
  have A6 := As.keep hb6
  have P6 := Ps.keep hb6
  have X6 := Xs.keep hb6
  have Y6 := Ys.keep hb6
  obtain ⟨a0, a1, a2, a3⟩ := A6.four
  have la := A6.lt
  obtain ⟨p0, p1, p2, p3⟩ := P6.four
  have lp := P6.lt
  obtain ⟨x0, x1, x2, x3⟩ := X6.four
  have lx := X6.lt
  obtain ⟨y0, y1, y2, y3⟩ := Y6.four
  have ly := Y6.lt
  have fx0 := X6.free 0
  have fx1 := X6.free 1
  have fx2 := X6.free 2
  have fx3 := X6.free 3
  have fy0 := Y6.free 0
  have fy1 := Y6.free 1
  have fy2 := Y6.free 2
  have fy3 := Y6.free 3
  clear hb6 As Ps Xs Ys A5 P5 X5 Y5
  go_wp2_with fail
  have Ys := Y6.put4 (.int .i64 K3) (.int .i64 0) (.int .i64 0) (.string L3)
  have Xs := X6.by4 (b := by') (by omega) (.int .i64 K3) (.int .i64 0) (.int .i64 0) (.string L3)
  have As := A6.by4 (b := by') (by omega) (.int .i64 K3) (.int .i64 0) (.int .i64 0) (.string L3)
  have Ps := P6.by4 (b := by') (by omega) (.int .i64 K3) (.int .i64 0) (.int .i64 0) (.string L3)
  have Bs := Lib.hid (below4 (b := by') B6.out (by omega) (.int .i64 K3) (.int .i64 0) (.int .i64 0) (.string L3))
  generalize ((((w6.setCell ⟨by', 0, none⟩ (.int .i64 K3)).setCell ⟨by', 1, none⟩ (.int .i64 0)).setCell ⟨by', 2, none⟩ (.int .i64 0)).setCell ⟨by', 3, none⟩ (.string L3)) = W6 at *
  go_at_call 9
  refine (awake_any _).mono ?_
  rintro e wz ⟨rfl, hbz⟩
  go_wp2
  go_ret
  exact ⟨rfl, bl_then Bs.out hbz⟩

set_option maxRecDepth 100000 in
set_option maxHeartbeats 8000000 in
theorem parts_full (a : Vl) (i m : Int) (v : Vl) (w : World) (hs : a.s.size ≤ maxLen) (hs' : v.s.size ≤ maxLen) (hl : ∀ x ∈ [a, v], x.light = true) (K1 : Int) (L1 : ByteArray) (C1 E1 K2 : Int) (L2 : ByteArray) (C2 E2 K3 : Int) (L3 : ByteArray) (C3 E3 : Int) (h1 : Trip 10 11 #[a.v, .int .i64 i, .int .i64 m] K1 L1 C1 E1) (h2 : Trip 12 13 #[a.v, .int .i64 i] K2 L2 C2 E2) (h3 : Trip 14 15 #[a.v, .int .i64 i, .int .i64 m, v.v] K3 L3 C3 E3) (hE3 : E3 = 0) (hC3 : C3 = 0) (K4 : Int) (L4 : ByteArray) (C5 : Int) (N M : Nat)
    (h4 : ∀ W, Calls Try.prog 10 #[vlV K3 0 0 L3, .int .i64 i, .int .i64 m] W fun e w' => e = .returned (.tuple #[vlV K4 0 0 L4, .int .i64 0, .int .i64 0]) ∧ Below W.heap.size W w')
    (h5 : ∀ W, Calls Try.prog 16 #[v.v, tyV v.k 0 0 m false ⟨#[]⟩] W fun e w' => e = .returned (.tuple #[vlV K4 0 0 L4, .int .i64 C5, .int .i64 0]) ∧ Below W.heap.size W w')
    (hi : i - 1 = N) (hm : m = M) (hz3 : N + M ≤ L3.size) (hza : N + M ≤ a.s.size) (hz4 : L3.size ≤ 1000) (_hz5 : a.s.size ≤ 1000)
    (eq1 : (L3.extract 0 N).toList = (a.s.extract 0 N).toList) (eq2 : (L3.extract (N + M) L3.size).toList = (a.s.extract (N + M) a.s.size).toList) :
    Calls Try.prog 3 #[a.v, .int .i64 i, .int .i64 m, v.v] w fun e w' => e = .returned (.bool true) ∧ Below w.heap.size w w' := by
  subst hE3; subst hC3
  have HP : Hid (∀ x ∈ [a, v], x.s.size ≤ maxLen) := Lib.hid (vl2 hs hs')
  have hG : Try.prog.eqGuardType Try.prog.depth 23 = false := by kernel_rfl
  have hE := vlEq
  clear hs hs'
  have H1 := Lib.hid h1; have H2 := Lib.hid h2; have H3 := Lib.hid h3; have HL := Lib.hid hl
  clear h1 h2 h3 hl
  have H4 := Lib.hid h4; have H5 := Lib.hid h5
  have hw2 : (0 : Int) ≤ i - 1 := by omega
  have hw2' : (1 : Int) ≤ i := by omega
  have hw3 : i - 1 ≤ a.s.size := by omega
  have hw3' : i - 1 ≤ L3.size := by omega
  have hw4 : (i - 1).toNat = N := by omega
  have hw1 : IntKind.i64.wrap (i - 1) = i - 1 := IntWalk.i64_in _ (by omega)
  have hu2 : (0 : Int) ≤ i - 1 + m := by omega
  have hu3 : i - 1 + m ≤ a.s.size := by omega
  have hu3' : i - 1 + m ≤ L3.size := by omega
  have hu4 : (i - 1 + m).toNat = N + M := by omega
  have hu1 : IntKind.i64.wrap (i - 1 + m) = i - 1 + m := IntWalk.i64_in _ (by omega)
  have HI := Lib.hid hi; have HM := Lib.hid hm
  have eq1' : ((L3.extract 0 N).toList == (a.s.extract 0 N).toList) = true := beq_iff_eq.2 eq1
  have eq2' : ((L3.extract (N + M) L3.size).toList == (a.s.extract (N + M) a.s.size).toList) = true := beq_iff_eq.2 eq2
  clear h4 h5 hi hm eq1 eq2
  go_enter Try.func3, Try.ntmps3
  have A0 := Row.new w (vlC a.k a.n a.q a.s) 23
  have P0 := Row.new2 w (.cells (vlC a.k a.n a.q a.s) 23) (vlC v.k v.n v.q v.s) 23
  go_wp2_with fail
  go_at_call 8
  refine (bLight_yes [a, v] (w.heap.size + 1 + 1) 0 2 _ (VlsAt.two (Row.new3 _ _ _ _ _)) (by simp) (by simp) HP.out HL.out).mono ?_
  rintro e wl ⟨rfl, rfl⟩
  go_wp2_with fail
  go_at_call 10
  refine (H1.out.1 _).mono ?_
  rintro e w1 ⟨rfl, hb1⟩
  have B1 := Lib.hid (bl_box3 (Below.refl _ w) hb1)
  have A1 := ((A0.alloc _).alloc _).keep hb1
  have P1 := (P0.alloc _).keep hb1
  obtain ⟨a0, a1, a2, a3⟩ := A1.four
  have la := A1.lt
  obtain ⟨p0, p1, p2, p3⟩ := P1.four
  have lp := P1.lt
  clear hb1 A0 P0
  obtain ⟨bx, hbx⟩ : ∃ b, b = w1.heap.size := ⟨_, rfl⟩
  go_wp2_with fail
  go_at_call 11
  refine (H1.out.2 _).mono ?_
  rintro e w2 ⟨rfl, hb2⟩
  have B2 := Lib.hid (bl_box B1.out hb2)
  have A2 := (A1.alloc _).keep hb2
  have P2 := (P1.alloc _).keep hb2
  have X2 := (Row.new w1 (vlC K1 0 0 L1) 23).keep hb2
  obtain ⟨a0, a1, a2, a3⟩ := A2.four
  have la := A2.lt
  obtain ⟨p0, p1, p2, p3⟩ := P2.four
  have lp := P2.lt
  obtain ⟨x0, x1, x2, x3⟩ := X2.four
  have lx := X2.lt
  have hzx : w.heap.size ≤ w1.heap.size := B1.out.size
  have hax : w.heap.size < w1.heap.size := A1.lt
  have hpx : w.heap.size + 1 < w1.heap.size := P1.lt
  clear hb2 A1 P1
  go_wp2_with fail
  go_at_call 12
  refine (H2.out.1 _).mono ?_
  rintro e w3 ⟨rfl, hb3⟩
  have B3 := Lib.hid (bl_box B2.out hb3)
  have A3 := (A2.alloc _).keep hb3
  have P3 := (P2.alloc _).keep hb3
  have X3 := (X2.alloc _).keep hb3
  have Y3 := (Row.new w2 (vlC K1 0 0 L1) 23).keep hb3
  have hay : w.heap.size < w2.heap.size := A2.lt
  have hpy : w.heap.size + 1 < w2.heap.size := P2.lt
  have hxy : w1.heap.size < w2.heap.size := X2.lt
  obtain ⟨a0, a1, a2, a3⟩ := A3.four
  have la := A3.lt
  obtain ⟨p0, p1, p2, p3⟩ := P3.four
  have lp := P3.lt
  obtain ⟨x0, x1, x2, x3⟩ := X3.four
  have lx := X3.lt
  obtain ⟨y0, y1, y2, y3⟩ := Y3.four
  have ly := Y3.lt
  clear hb3 A2 P2 X2
  generalize w1.heap.size = bx at *
  generalize w2.heap.size = by' at *
  have : ¬ bx = by' := by omega
  have : ¬ by' = bx := by omega
  have : ¬ bx = w.heap.size := by omega
  have : ¬ w.heap.size = bx := by omega
  have : ¬ bx = w.heap.size + 1 := by omega
  have : ¬ w.heap.size + 1 = bx := by omega
  have : ¬ by' = w.heap.size := by omega
  have : ¬ w.heap.size = by' := by omega
  have : ¬ by' = w.heap.size + 1 := by omega
  have : ¬ w.heap.size + 1 = by' := by omega
  have fx0 := X3.free 0
  have fx1 := X3.free 1
  have fx2 := X3.free 2
  have fx3 := X3.free 3
  have fy0 := Y3.free 0
  have fy1 := Y3.free 1
  have fy2 := Y3.free 2
  have fy3 := Y3.free 3
  go_wp2_with fail
  have Xs := X3.put4 (.int .i64 K2) (.int .i64 0) (.int .i64 0) (.string L2)
  have Ys := Y3.by4 (b := bx) (by omega) (.int .i64 K2) (.int .i64 0) (.int .i64 0) (.string L2)
  have As := A3.by4 (b := bx) (by omega) (.int .i64 K2) (.int .i64 0) (.int .i64 0) (.string L2)
  have Ps := P3.by4 (b := bx) (by omega) (.int .i64 K2) (.int .i64 0) (.int .i64 0) (.string L2)
  have Bs := Lib.hid (below4 (b := bx) B3.out (by omega) (.int .i64 K2) (.int .i64 0) (.int .i64 0) (.string L2))
  generalize ((((w3.setCell ⟨bx, 0, none⟩ (.int .i64 K2)).setCell ⟨bx, 1, none⟩ (.int .i64 0)).setCell ⟨bx, 2, none⟩ (.int .i64 0)).setCell ⟨bx, 3, none⟩ (.string L2)) = W3 at *
  go_at_call 13
  refine (H2.out.2 _).mono ?_
  rintro e w4 ⟨rfl, hb4⟩
  have B4 := Lib.hid (bl_then Bs.out hb4)
  clear a0 a1 a2 a3 la p0 p1 p2 p3 lp x0 x1 x2 x3 lx y0 y1 y2 y3 ly fx0 fx1 fx2 fx3 fy0 fy1 fy2 fy3
  have A4 := As.keep hb4
  have P4 := Ps.keep hb4
  have X4 := Xs.keep hb4
  have Y4 := Ys.keep hb4
  obtain ⟨a0, a1, a2, a3⟩ := A4.four
  have la := A4.lt
  obtain ⟨p0, p1, p2, p3⟩ := P4.four
  have lp := P4.lt
  obtain ⟨x0, x1, x2, x3⟩ := X4.four
  have lx := X4.lt
  obtain ⟨y0, y1, y2, y3⟩ := Y4.four
  have ly := Y4.lt
  have fx0 := X4.free 0
  have fx1 := X4.free 1
  have fx2 := X4.free 2
  have fx3 := X4.free 3
  have fy0 := Y4.free 0
  have fy1 := Y4.free 1
  have fy2 := Y4.free 2
  have fy3 := Y4.free 3
  clear hb4 As Ps Xs Ys A3 P3 X3 Y3
  go_wp2_with fail
  have Ys := Y4.put4 (.int .i64 K2) (.int .i64 0) (.int .i64 0) (.string L2)
  have Xs := X4.by4 (b := by') (by omega) (.int .i64 K2) (.int .i64 0) (.int .i64 0) (.string L2)
  have As := A4.by4 (b := by') (by omega) (.int .i64 K2) (.int .i64 0) (.int .i64 0) (.string L2)
  have Ps := P4.by4 (b := by') (by omega) (.int .i64 K2) (.int .i64 0) (.int .i64 0) (.string L2)
  have Bs := Lib.hid (below4 (b := by') B4.out (by omega) (.int .i64 K2) (.int .i64 0) (.int .i64 0) (.string L2))
  generalize ((((w4.setCell ⟨by', 0, none⟩ (.int .i64 K2)).setCell ⟨by', 1, none⟩ (.int .i64 0)).setCell ⟨by', 2, none⟩ (.int .i64 0)).setCell ⟨by', 3, none⟩ (.string L2)) = W4 at *
  go_at_call 14
  refine (H3.out.1 _).mono ?_
  rintro e w5 ⟨rfl, hb5⟩
  have B5 := Lib.hid (bl_then Bs.out hb5)
  clear a0 a1 a2 a3 la p0 p1 p2 p3 lp x0 x1 x2 x3 lx y0 y1 y2 y3 ly fx0 fx1 fx2 fx3 fy0 fy1 fy2 fy3
  have A5 := As.keep hb5
  have P5 := Ps.keep hb5
  have X5 := Xs.keep hb5
  have Y5 := Ys.keep hb5
  obtain ⟨a0, a1, a2, a3⟩ := A5.four
  have la := A5.lt
  obtain ⟨p0, p1, p2, p3⟩ := P5.four
  have lp := P5.lt
  obtain ⟨x0, x1, x2, x3⟩ := X5.four
  have lx := X5.lt
  obtain ⟨y0, y1, y2, y3⟩ := Y5.four
  have ly := Y5.lt
  have fx0 := X5.free 0
  have fx1 := X5.free 1
  have fx2 := X5.free 2
  have fx3 := X5.free 3
  have fy0 := Y5.free 0
  have fy1 := Y5.free 1
  have fy2 := Y5.free 2
  have fy3 := Y5.free 3
  clear hb5 As Ps Xs Ys A4 P4 X4 Y4
  go_wp2_with fail
  have Xs := X5.put4 (.int .i64 K3) (.int .i64 0) (.int .i64 0) (.string L3)
  have Ys := Y5.by4 (b := bx) (by omega) (.int .i64 K3) (.int .i64 0) (.int .i64 0) (.string L3)
  have As := A5.by4 (b := bx) (by omega) (.int .i64 K3) (.int .i64 0) (.int .i64 0) (.string L3)
  have Ps := P5.by4 (b := bx) (by omega) (.int .i64 K3) (.int .i64 0) (.int .i64 0) (.string L3)
  have Bs := Lib.hid (below4 (b := bx) B5.out (by omega) (.int .i64 K3) (.int .i64 0) (.int .i64 0) (.string L3))
  generalize ((((w5.setCell ⟨bx, 0, none⟩ (.int .i64 K3)).setCell ⟨bx, 1, none⟩ (.int .i64 0)).setCell ⟨bx, 2, none⟩ (.int .i64 0)).setCell ⟨bx, 3, none⟩ (.string L3)) = W5 at *
  go_at_call 15
  refine (H3.out.2 _).mono ?_
  rintro e w6 ⟨rfl, hb6⟩
  have B6 := Lib.hid (bl_then Bs.out hb6)
  clear a0 a1 a2 a3 la p0 p1 p2 p3 lp x0 x1 x2 x3 lx y0 y1 y2 y3 ly fx0 fx1 fx2 fx3 fy0 fy1 fy2 fy3
  have A6 := As.keep hb6
  have P6 := Ps.keep hb6
  have X6 := Xs.keep hb6
  have Y6 := Ys.keep hb6
  obtain ⟨a0, a1, a2, a3⟩ := A6.four
  have la := A6.lt
  obtain ⟨p0, p1, p2, p3⟩ := P6.four
  have lp := P6.lt
  obtain ⟨x0, x1, x2, x3⟩ := X6.four
  have lx := X6.lt
  obtain ⟨y0, y1, y2, y3⟩ := Y6.four
  have ly := Y6.lt
  have fx0 := X6.free 0
  have fx1 := X6.free 1
  have fx2 := X6.free 2
  have fx3 := X6.free 3
  have fy0 := Y6.free 0
  have fy1 := Y6.free 1
  have fy2 := Y6.free 2
  have fy3 := Y6.free 3
  clear hb6 As Ps Xs Ys A5 P5 X5 Y5
  go_wp2_with fail
  have Ys := Y6.put4 (.int .i64 K3) (.int .i64 0) (.int .i64 0) (.string L3)
  have Xs := X6.by4 (b := by') (by omega) (.int .i64 K3) (.int .i64 0) (.int .i64 0) (.string L3)
  have As := A6.by4 (b := by') (by omega) (.int .i64 K3) (.int .i64 0) (.int .i64 0) (.string L3)
  have Ps := P6.by4 (b := by') (by omega) (.int .i64 K3) (.int .i64 0) (.int .i64 0) (.string L3)
  have Bs := Lib.hid (below4 (b := by') B6.out (by omega) (.int .i64 K3) (.int .i64 0) (.int .i64 0) (.string L3))
  generalize ((((w6.setCell ⟨by', 0, none⟩ (.int .i64 K3)).setCell ⟨by', 1, none⟩ (.int .i64 0)).setCell ⟨by', 2, none⟩ (.int .i64 0)).setCell ⟨by', 3, none⟩ (.string L3)) = W6 at *
  go_at_call 10
  refine (H4.out _).mono ?_
  rintro e w7 ⟨rfl, hb7⟩
  have B7 := Lib.hid (bl_then Bs.out hb7)
  clear a0 a1 a2 a3 la p0 p1 p2 p3 lp x0 x1 x2 x3 lx y0 y1 y2 y3 ly fx0 fx1 fx2 fx3 fy0 fy1 fy2 fy3
  have A7 := As.keep hb7
  have P7 := Ps.keep hb7
  have X7 := Xs.keep hb7
  have Y7 := Ys.keep hb7
  obtain ⟨a0, a1, a2, a3⟩ := A7.four
  have la := A7.lt
  obtain ⟨p0, p1, p2, p3⟩ := P7.four
  have lp := P7.lt
  obtain ⟨x0, x1, x2, x3⟩ := X7.four
  have lx := X7.lt
  obtain ⟨y0, y1, y2, y3⟩ := Y7.four
  have ly := Y7.lt
  have fx0 := X7.free 0
  have fx1 := X7.free 1
  have fx2 := X7.free 2
  have fx3 := X7.free 3
  have fy0 := Y7.free 0
  have fy1 := Y7.free 1
  have fy2 := Y7.free 2
  have fy3 := Y7.free 3
  clear hb7 As Ps Xs Ys A6 P6 X6 Y6
  go_wp2_with fail
  go_at_call 16
  refine (H5.out _).mono ?_
  rintro e w8 ⟨rfl, hb8⟩
  have B8 := Lib.hid (bl_box B7.out hb8)
  have A8 := (A7.alloc _).keep hb8
  have P8 := (P7.alloc _).keep hb8
  have X8 := (X7.alloc _).keep hb8
  have Y8 := (Y7.alloc _).keep hb8
  have Z8 := (Row.new w7 (vlC K4 0 0 L4) 23).keep hb8
  clear a0 a1 a2 a3 la p0 p1 p2 p3 lp x0 x1 x2 x3 lx y0 y1 y2 y3 ly fx0 fx1 fx2 fx3 fy0 fy1 fy2 fy3 hb8
  go_wp2
  have Q := Row.new w8 (vlC K4 0 0 L4) 23
  have A9 := A8.alloc (.cells (vlC K4 0 0 L4) 23)
  have X9 := X8.alloc (.cells (vlC K4 0 0 L4) 23)
  have Z9 := Z8.alloc (.cells (vlC K4 0 0 L4) 23)
  have B9 := Lib.hid (B8.out.alloc B8.out.size (.cells (vlC K4 0 0 L4) 23))
  generalize w8.alloc (.cells (vlC K4 0 0 L4) 23) = W9 at *
  clear A7 P7 X7 Y7 A8 P8 X8 Y8 Z8
  obtain ⟨z0, z1, z2, z3⟩ := Z9.four
  obtain ⟨q0, q1, q2, q3⟩ := Q.four
  have x3 := X9.four.2.2.2
  have a3 := A9.four.2.2.2
  generalize w7.heap.size = bz at *
  generalize w8.heap.size = bq at *
  go_region_held3 (fun w' => (w'.cell? ⟨bz, 0, none⟩ = some (.int .i64 K4) ∧ w'.cell? ⟨bz, 1, none⟩ = some (.int .i64 0) ∧ w'.cell? ⟨bz, 2, none⟩ = some (.int .i64 0) ∧ w'.cell? ⟨bz, 3, none⟩ = some (.string L4)) ∧ (w'.cell? ⟨bq, 0, none⟩ = some (.int .i64 K4) ∧ w'.cell? ⟨bq, 1, none⟩ = some (.int .i64 0) ∧ w'.cell? ⟨bq, 2, none⟩ = some (.int .i64 0) ∧ w'.cell? ⟨bq, 3, none⟩ = some (.string L4)) ∧ w'.cell? ⟨bx, 3, none⟩ = some (.string L3) ∧ w'.cell? ⟨w.heap.size, 3, none⟩ = some (.string a.s))
    (first | go_keep | exact ⟨(Z9.keep (bl_drew hbz)).four, (Q.keep (bl_drew hbz)).four, (X9.keep (bl_drew hbz)).four.2.2.2, (A9.keep (bl_drew hbz)).four.2.2.2⟩)
    (first | (go_at_call 9; refine (awake_any _).mono ?_; rintro e wz ⟨rfl, hbz⟩))
  go_wp2
  go_ret
  exact ⟨ret_bool (by first | rfl | simp), bl_then B9.out (bl_drew hbz)⟩

theorem ext_mid2 (s : ByteArray) (N : Nat) : (s.extract 0 N).toList = s.data.toList.take N := by
  rw [Lib.extract_toList, List.drop_zero, Nat.sub_zero]
theorem ext_end2 (s : ByteArray) (N : Nat) (_h : N ≤ s.size) : (s.extract N s.size).toList = s.data.toList.drop N := by
  rw [Lib.extract_toList, List.take_of_length_le (by rw [List.length_drop, lsz]; omega)]
theorem trip_err {F G : Nat} {args : Array Value} {E k C : Int} {l : List UInt8} (h1 : ∀ W, Calls Try.prog F args W fun e w' => e = .returned (.tuple #[orV E k l, .int .i64 (orI E C), .int .i64 E]) ∧ Below W.heap.size W w')
    (h2 : ∀ W, Calls Try.prog G args W fun e w' => e = .returned (.tuple #[orV E k l, .int .i64 (orI E C), .int .i64 E]) ∧ Below W.heap.size W w') :
    Trip F G args (if E = 0 then k else 0) (if E = 0 then bsz l else ⟨#[]⟩) (orI E C) E := ⟨h1, h2⟩

theorem parts_any (a : Vl) (i m : Int) (v : Vl) (w : World) (hs : a.s.size ≤ maxLen) (hs' : v.s.size ≤ maxLen) :
    Calls Try.prog 3 #[a.v, .int .i64 i, .int .i64 m, v.v] w fun e w' => e = .returned (.bool true) ∧ Below w.heap.size w w' := by
  by_cases hl : ∀ x ∈ [a, v], x.light = true
  · have t1 := trip_err (fun W => bSub_any a i m W hs) (fun W => rSub_any a i m W hs)
    have t2 := trip_err (fun W => bRest_any a i W hs) (fun W => rRest_any a i W hs)
    have t3 := trip_err (fun W => bSetSub_any a i m v W hs hs') (fun W => rSetSub_any a i m v W hs hs')
    by_cases h3 : setE a v i m = 0
    · rw [h3] at t3
      have t3' : Trip 14 15 #[a.v, .int .i64 i, .int .i64 m, v.v] a.k (bsz (setL a.k a.s.data.toList i m v.s.data.toList)) (partC a.s.data.toList i m) 0 := t3
      by_cases hc : partC a.s.data.toList i m = 0
      · obtain ⟨oa, ov, ok, pi, pm⟩ := setE_ok h3
        have hp := partC_zero hc
        have hl1 : a.s.data.toList.length = a.s.size := lsz _
        rw [hl1] at hp
        have la := vl_room2 a oa
        have ta := (okV_eq oa).2.2
        have tv := (okV_eq ov).2.2
        have lv := vl_room2 v ov
        obtain ⟨N, hN⟩ := Int.eq_ofNat_of_zero_le (show 0 ≤ i - 1 by omega)
        obtain ⟨M, hM⟩ := Int.eq_ofNat_of_zero_le hp.2.1
        have hNN : (i - 1).toNat = N := by omega
        have hMM : m.toNat = M := by omega
        have ts : okT a.k (setL a.k a.s.data.toList i m v.s.data.toList) = true := setL_ok ta (by rw [← ok]; exact tv)
        have hsz : (bsz (setL a.k a.s.data.toList i m v.s.data.toList)).size = a.s.size := by rw [bsz_size, setL_len, lsz]
        have e1 : subE ⟨a.k, 0, 0, bsz (setL a.k a.s.data.toList i m v.s.data.toList)⟩ i m = 0 := by rw [subE, show Vl.ok ⟨a.k, 0, 0, bsz (setL a.k a.s.data.toList i m v.s.data.toList)⟩ = true from okV_mk ts, pi, pm]; rfl
        have hc2 : partC (setL a.k a.s.data.toList i m v.s.data.toList) i m = 0 := partC_of (by rw [setL_len, hl1]; exact hp)
        have hsub := sub_set (k := a.k) (v := v.s.data.toList) hc
        have e2 : fitE v v.k 0 0 m [] = 0 := by
          have hy : okY v.k 0 0 m [] = true := by rw [okY_rest (okT_kind tv) hp.2.1 (by omega)]; rfl
          rw [fitE, hy, ov, show v.is v.k = true by simp [Vl.is]]; rfl
        rw [hc] at t3'
        refine parts_full a i m v w hs hs' hl _ _ _ _ _ _ _ _ a.k (bsz (setL a.k a.s.data.toList i m v.s.data.toList)) 0 0 t1 t2 t3' rfl rfl a.k (bsz (fitL a.k v.s.data.toList M false)) (fitC v.s.data.toList M) N M (fun W => (bSub_any ⟨a.k, 0, 0, bsz (setL a.k a.s.data.toList i m v.s.data.toList)⟩ i m W (by show (bsz _).size ≤ _; rw [hsz]; unfold maxLen; omega)).mono fun e w' ⟨he, hb⟩ => ⟨he.trans ?_, hb⟩) (fun W => (bFit_any v v.k 0 0 m false ⟨#[]⟩ W hs').mono fun e w' ⟨he, hb⟩ => ⟨he.trans ?_, hb⟩) hN hM (by rw [hsz]; omega) (by omega) (by rw [hsz]; omega) (by omega) ?_ ?_
        · rw [e1, hMM] at *
          show Ending.returned (.tuple #[vlV a.k 0 0 (bsz (subL (setL a.k a.s.data.toList i m v.s.data.toList) i m)), .int .i64 (partC (setL a.k a.s.data.toList i m v.s.data.toList) i m), .int .i64 0]) = _
          rw [hsub, hc2]
        · rw [show fitE v v.k 0 0 m (ByteArray.mk #[]).data.toList = 0 from e2, hMM]
          show Ending.returned (.tuple #[vlV v.k 0 0 (bsz (fitL v.k v.s.data.toList M false)), .int .i64 (fitC v.s.data.toList M), .int .i64 0]) = _
          rw [ok]
        · rw [ext_mid2, ext_mid2, ← hNN]; exact set_before hc
        · rw [ext_end2 _ _ (by rw [hsz]; omega), ext_end2 _ _ (by omega), ← hNN, ← hMM]; exact set_behind hc
      · exact parts_cond a i m v w hs hs' hl _ _ _ _ _ _ _ _ _ _ _ _ t1 t2 t3' rfl hc
    · exact parts_err a i m v w hs hs' hl _ _ _ _ _ _ _ _ _ _ _ _ t1 t2 t3 h3
  · exact parts_dark a i m v w hs hs' hl
end Go.Proofs.Ytmbmcelgfgelfaa
