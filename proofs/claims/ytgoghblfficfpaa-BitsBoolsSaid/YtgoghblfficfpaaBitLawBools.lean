/- The law BitsBools, for any two values and table. -/
import Derived.Test.YtgoghblfficfpaaBitNamed
import Derived.Test.YtgoghblfficfpaaBitAwake
import Derived.Test.YtgoghblfficfpaaBitRows2
namespace Go.Proofs.Ytgoghblfficfpaa
open Go.RowKit

/-- What two functions of a truth and an error answer alike. -/
def PairB (F G : Nat) (args : Array Value) (b : Bool) (E : Int) : Prop :=
  (∀ W, Calls Try.prog F args W fun e w' => e = .returned (.tuple #[.bool b, .int .i64 E]) ∧ Below W.heap.size W w') ∧
  ∀ W, Calls Try.prog G args W fun e w' => e = .returned (.tuple #[.bool b, .int .i64 E]) ∧ Below W.heap.size W w'

set_option maxRecDepth 100000 in
set_option maxHeartbeats 16000000 in
theorem bools_dark (a b : Vl) (t : ByteArray) (w : World) (hs : a.s.size ≤ maxLen) (hs' : b.s.size ≤ maxLen) (hl : ¬ ∀ x ∈ [a, b], x.light = true) :
    Calls Try.prog 6 #[a.v, b.v, .string t] w fun e w' => e = .returned (.bool true) ∧ Below w.heap.size w w' := by
  have HP : Hid (∀ x ∈ [a, b], x.s.size ≤ maxLen) := Lib.hid (vl2 hs hs')
  have hG : Try.prog.eqGuardType Try.prog.depth 23 = false := by kernel_rfl
  have hE := vlEq
  clear hs hs'
  have HL := Lib.hid hl
  clear hl
  go_enter Try.func6, Try.ntmps6
  go_wp2_with (first
    | (go_at_call 8; refine (bLight_no [a, b] (w.heap.size + 1 + 1) 0 2 _ (VlsAt.two (Row.new3 _ _ _ _ _)) (by simp) (by simp <;> omega) HP.out HL.out).mono ?_; rintro e w1 ⟨rfl, rfl⟩)
    | (go_at_call 9; refine (awake_any _).mono ?_; rintro e w2 ⟨rfl, hb⟩))
  go_ret
  exact ⟨rfl, bl_box3 (Below.refl _ w) hb⟩

set_option maxRecDepth 100000 in
set_option maxHeartbeats 16000000 in
theorem bools_long (a b : Vl) (t : ByteArray) (w : World) (hs : a.s.size ≤ maxLen) (hs' : b.s.size ≤ maxLen) (hl : ∀ x ∈ [a, b], x.light = true) (ht : ¬ t.size ≤ 100) (_hz : t.size ≤ maxLen) :
    Calls Try.prog 6 #[a.v, b.v, .string t] w fun e w' => e = .returned (.bool true) ∧ Below w.heap.size w w' := by
  have HP : Hid (∀ x ∈ [a, b], x.s.size ≤ maxLen) := Lib.hid (vl2 hs hs')
  have hG : Try.prog.eqGuardType Try.prog.depth 23 = false := by kernel_rfl
  have hE := vlEq
  clear hs hs'
  have HL := Lib.hid hl
  have ht1 : decide (100 < (t.size : Int)) = true := by simp only [decide_eq_true_eq]; omega
  have ht2 : decide (100 < t.size) = true := by simp only [decide_eq_true_eq]; omega
  have ht3 : 100 < (t.size : Int) := by omega
  have ht4 : 100 < t.size := by omega
  unfold maxLen at _hz
  clear hl ht
  go_enter Try.func6, Try.ntmps6
  go_wp2_with (first
    | (go_at_call 8; refine (bLight_yes [a, b] (w.heap.size + 1 + 1) 0 2 _ (VlsAt.two (Row.new3 _ _ _ _ _)) (by simp) (by simp <;> omega) HP.out HL.out).mono ?_; rintro e w1 ⟨rfl, rfl⟩)
    | (go_at_call 9; refine (awake_any _).mono ?_; rintro e w2 ⟨rfl, hb⟩))
  go_ret
  exact ⟨rfl, bl_box3 (Below.refl _ w) hb⟩

set_option maxRecDepth 100000 in
set_option maxHeartbeats 16000000 in
theorem bools_err (a b : Vl) (t : ByteArray) (w : World) (hs : a.s.size ≤ maxLen) (hs' : b.s.size ≤ maxLen) (hl : ∀ x ∈ [a, b], x.light = true) (ht : t.size ≤ 100) (K1 : Int) (L1 : ByteArray) (E1 : Int) (K2 : Int) (L2 : ByteArray) (E2 : Int) (K3 : Int) (L3 : ByteArray) (E3 : Int) (K4 : Int) (L4 : ByteArray) (E4 : Int) (K7 : Int) (L7 : ByteArray) (E7 : Int) (b5 b6 : Bool) (E5 E6 : Int)
    (h1 : Pair 38 39 #[a.v, b.v, .string t] K1 L1 E1)
    (h2 : Pair 40 41 #[a.v, b.v] K2 L2 E2)
    (h3 : Pair 42 43 #[a.v, b.v] K3 L3 E3)
    (h4 : Pair 44 45 #[a.v] K4 L4 E4)
    (h7 : Pair 50 51 #[a.v, b.v] K7 L7 E7)
    (h5 : PairB 46 47 #[a.v] b5 E5) (h6 : PairB 48 49 #[a.v] b6 E6) (hE7 : E7 ≠ 0) :
    Calls Try.prog 6 #[a.v, b.v, .string t] w fun e w' => e = .returned (.bool true) ∧ Below w.heap.size w w' := by
  have HP : Hid (∀ x ∈ [a, b], x.s.size ≤ maxLen) := Lib.hid (vl2 hs hs')
  have hG : Try.prog.eqGuardType Try.prog.depth 23 = false := by kernel_rfl
  have hE := vlEq
  clear hs hs'
  have H1 := Lib.hid h1; have H2 := Lib.hid h2; have H3 := Lib.hid h3; have H4 := Lib.hid h4; have H5 := Lib.hid h5; have H6 := Lib.hid h6; have H7 := Lib.hid h7; have HL := Lib.hid hl
  clear h1 h2 h3 h4 h5 h6 h7 hl
  have ht1 : decide (100 < (t.size : Int)) = false := by simp only [decide_eq_false_iff_not]; omega
  have ht2 : decide (100 < t.size) = false := by simp only [decide_eq_false_iff_not]; omega
  clear ht
  have e1 : (E7 != 0) = true := by simpa using hE7
  have e2 : (E7 == 0) = false := by simpa using hE7
  clear hE7
  go_enter Try.func6, Try.ntmps6
  have A0 := Row.new w (vlC a.k a.n a.q a.s) 23
  have P0 := Row.new2 w (.cells (vlC a.k a.n a.q a.s) 23) (vlC b.k b.n b.q b.s) 23
  go_wp2_with fail
  go_at_call 8
  refine (bLight_yes [a, b] (w.heap.size + 1 + 1) 0 2 _ (VlsAt.two (Row.new3 _ _ _ _ _)) (by simp) (by simp <;> omega) HP.out HL.out).mono ?_
  rintro e wl ⟨rfl, rfl⟩
  go_wp2_with fail
  go_at_call 38
  refine (H1.out.1 _).mono ?_
  rintro e w1 ⟨rfl, hb1⟩
  have B1 := Lib.hid (bl_box3 (Below.refl _ w) hb1)
  have A1 := ((A0.alloc _).alloc _).keep hb1
  have P1 := (P0.alloc _).keep hb1
  clear hb1 A0 P0
  obtain ⟨a0, a1, a2, a3⟩ := A1.four
  have la := A1.lt
  obtain ⟨p0, p1, p2, p3⟩ := P1.four
  have lp := P1.lt
  go_wp2_with fail
  go_at_call 39
  refine (H1.out.2 _).mono ?_
  rintro e w2 ⟨rfl, hb2⟩
  clear a0 a1 a2 a3 la p0 p1 p2 p3 lp
  have B2 := Lib.hid (bl_box B1.out hb2)
  have A2 := (A1.alloc _).keep hb2
  have P2 := (P1.alloc _).keep hb2
  have X2 := (Row.new w1 (vlC K1 0 0 L1) 23).keep hb2
  have hz_X : w.heap.size ≤ w1.heap.size := B1.out.size
  have h_AX : w.heap.size < w1.heap.size := A1.lt
  have h_PX : w.heap.size + 1 < w1.heap.size := P1.lt
  clear hb2 A1 P1
  generalize w1.heap.size = bx at *
  have : ¬ bx = w.heap.size := by omega
  have : ¬ w.heap.size = bx := by omega
  have : ¬ bx = w.heap.size + 1 := by omega
  have : ¬ w.heap.size + 1 = bx := by omega
  obtain ⟨a0, a1, a2, a3⟩ := A2.four
  have la := A2.lt
  obtain ⟨p0, p1, p2, p3⟩ := P2.four
  have lp := P2.lt
  obtain ⟨x0, x1, x2, x3⟩ := X2.four
  have lx := X2.lt
  have fx0 := X2.free 0
  have fx1 := X2.free 1
  have fx2 := X2.free 2
  have fx3 := X2.free 3
  go_wp2_with fail
  go_at_call 40
  refine (H2.out.1 _).mono ?_
  rintro e w3 ⟨rfl, hb3⟩
  clear a0 a1 a2 a3 la p0 p1 p2 p3 lp x0 x1 x2 x3 lx fx0 fx1 fx2 fx3
  have B3 := Lib.hid (bl_box B2.out hb3)
  have A3 := (A2.alloc _).keep hb3
  have P3 := (P2.alloc _).keep hb3
  have X3 := (X2.alloc _).keep hb3
  have Y3 := (Row.new w2 (vlC K1 0 0 L1) 23).keep hb3
  have hz_Y : w.heap.size ≤ w2.heap.size := B2.out.size
  have h_AY : w.heap.size < w2.heap.size := A2.lt
  have h_PY : w.heap.size + 1 < w2.heap.size := P2.lt
  have h_XY : bx < w2.heap.size := X2.lt
  clear hb3 A2 P2 X2
  generalize w2.heap.size = by' at *
  have : ¬ by' = w.heap.size := by omega
  have : ¬ w.heap.size = by' := by omega
  have : ¬ by' = w.heap.size + 1 := by omega
  have : ¬ w.heap.size + 1 = by' := by omega
  have : ¬ by' = bx := by omega
  have : ¬ bx = by' := by omega
  obtain ⟨a0, a1, a2, a3⟩ := A3.four
  have la := A3.lt
  obtain ⟨p0, p1, p2, p3⟩ := P3.four
  have lp := P3.lt
  obtain ⟨x0, x1, x2, x3⟩ := X3.four
  have lx := X3.lt
  obtain ⟨y0, y1, y2, y3⟩ := Y3.four
  have ly := Y3.lt
  have fx0 := X3.free 0
  have fx1 := X3.free 1
  have fx2 := X3.free 2
  have fx3 := X3.free 3
  have fy0 := Y3.free 0
  have fy1 := Y3.free 1
  have fy2 := Y3.free 2
  have fy3 := Y3.free 3
  go_wp2_with fail
  have As := A3.by4 (b := bx) (by omega) (.int .i64 K2) (.int .i64 0) (.int .i64 0) (.string L2)
  have Ps := P3.by4 (b := bx) (by omega) (.int .i64 K2) (.int .i64 0) (.int .i64 0) (.string L2)
  have Xs := X3.put4 (.int .i64 K2) (.int .i64 0) (.int .i64 0) (.string L2)
  have Ys := Y3.by4 (b := bx) (by omega) (.int .i64 K2) (.int .i64 0) (.int .i64 0) (.string L2)
  have Bs := Lib.hid (below4 (b := bx) B3.out (by omega) (.int .i64 K2) (.int .i64 0) (.int .i64 0) (.string L2))
  generalize ((((w3.setCell ⟨bx, 0, none⟩ (.int .i64 K2)).setCell ⟨bx, 1, none⟩ (.int .i64 0)).setCell ⟨bx, 2, none⟩ (.int .i64 0)).setCell ⟨bx, 3, none⟩ (.string L2)) = W3 at *
  go_at_call 41
  refine (H2.out.2 _).mono ?_
  rintro e w4 ⟨rfl, hb4⟩
  clear a0 a1 a2 a3 la p0 p1 p2 p3 lp x0 x1 x2 x3 lx fx0 fx1 fx2 fx3 y0 y1 y2 y3 ly fy0 fy1 fy2 fy3
  have B4 := Lib.hid (bl_then Bs.out hb4)
  have A4 := As.keep hb4
  have P4 := Ps.keep hb4
  have X4 := Xs.keep hb4
  have Y4 := Ys.keep hb4
  clear hb4 Bs As Ps Xs Ys A3 P3 X3 Y3
  obtain ⟨a0, a1, a2, a3⟩ := A4.four
  have la := A4.lt
  obtain ⟨p0, p1, p2, p3⟩ := P4.four
  have lp := P4.lt
  obtain ⟨x0, x1, x2, x3⟩ := X4.four
  have lx := X4.lt
  obtain ⟨y0, y1, y2, y3⟩ := Y4.four
  have ly := Y4.lt
  have fx0 := X4.free 0
  have fx1 := X4.free 1
  have fx2 := X4.free 2
  have fx3 := X4.free 3
  have fy0 := Y4.free 0
  have fy1 := Y4.free 1
  have fy2 := Y4.free 2
  have fy3 := Y4.free 3
  go_wp2_with fail
  have As := A4.by4 (b := by') (by omega) (.int .i64 K2) (.int .i64 0) (.int .i64 0) (.string L2)
  have Ps := P4.by4 (b := by') (by omega) (.int .i64 K2) (.int .i64 0) (.int .i64 0) (.string L2)
  have Xs := X4.by4 (b := by') (by omega) (.int .i64 K2) (.int .i64 0) (.int .i64 0) (.string L2)
  have Ys := Y4.put4 (.int .i64 K2) (.int .i64 0) (.int .i64 0) (.string L2)
  have Bs := Lib.hid (below4 (b := by') B4.out (by omega) (.int .i64 K2) (.int .i64 0) (.int .i64 0) (.string L2))
  generalize ((((w4.setCell ⟨by', 0, none⟩ (.int .i64 K2)).setCell ⟨by', 1, none⟩ (.int .i64 0)).setCell ⟨by', 2, none⟩ (.int .i64 0)).setCell ⟨by', 3, none⟩ (.string L2)) = W4 at *
  go_at_call 42
  refine (H3.out.1 _).mono ?_
  rintro e w5 ⟨rfl, hb5⟩
  clear a0 a1 a2 a3 la p0 p1 p2 p3 lp x0 x1 x2 x3 lx fx0 fx1 fx2 fx3 y0 y1 y2 y3 ly fy0 fy1 fy2 fy3
  have B5 := Lib.hid (bl_then Bs.out hb5)
  have A5 := As.keep hb5
  have P5 := Ps.keep hb5
  have X5 := Xs.keep hb5
  have Y5 := Ys.keep hb5
  clear hb5 Bs As Ps Xs Ys A4 P4 X4 Y4
  obtain ⟨a0, a1, a2, a3⟩ := A5.four
  have la := A5.lt
  obtain ⟨p0, p1, p2, p3⟩ := P5.four
  have lp := P5.lt
  obtain ⟨x0, x1, x2, x3⟩ := X5.four
  have lx := X5.lt
  obtain ⟨y0, y1, y2, y3⟩ := Y5.four
  have ly := Y5.lt
  have fx0 := X5.free 0
  have fx1 := X5.free 1
  have fx2 := X5.free 2
  have fx3 := X5.free 3
  have fy0 := Y5.free 0
  have fy1 := Y5.free 1
  have fy2 := Y5.free 2
  have fy3 := Y5.free 3
  go_wp2_with fail
  have As := A5.by4 (b := bx) (by omega) (.int .i64 K3) (.int .i64 0) (.int .i64 0) (.string L3)
  have Ps := P5.by4 (b := bx) (by omega) (.int .i64 K3) (.int .i64 0) (.int .i64 0) (.string L3)
  have Xs := X5.put4 (.int .i64 K3) (.int .i64 0) (.int .i64 0) (.string L3)
  have Ys := Y5.by4 (b := bx) (by omega) (.int .i64 K3) (.int .i64 0) (.int .i64 0) (.string L3)
  have Bs := Lib.hid (below4 (b := bx) B5.out (by omega) (.int .i64 K3) (.int .i64 0) (.int .i64 0) (.string L3))
  generalize ((((w5.setCell ⟨bx, 0, none⟩ (.int .i64 K3)).setCell ⟨bx, 1, none⟩ (.int .i64 0)).setCell ⟨bx, 2, none⟩ (.int .i64 0)).setCell ⟨bx, 3, none⟩ (.string L3)) = W5 at *
  go_at_call 43
  refine (H3.out.2 _).mono ?_
  rintro e w6 ⟨rfl, hb6⟩
  clear a0 a1 a2 a3 la p0 p1 p2 p3 lp x0 x1 x2 x3 lx fx0 fx1 fx2 fx3 y0 y1 y2 y3 ly fy0 fy1 fy2 fy3
  have B6 := Lib.hid (bl_then Bs.out hb6)
  have A6 := As.keep hb6
  have P6 := Ps.keep hb6
  have X6 := Xs.keep hb6
  have Y6 := Ys.keep hb6
  clear hb6 Bs As Ps Xs Ys A5 P5 X5 Y5
  obtain ⟨a0, a1, a2, a3⟩ := A6.four
  have la := A6.lt
  obtain ⟨p0, p1, p2, p3⟩ := P6.four
  have lp := P6.lt
  obtain ⟨x0, x1, x2, x3⟩ := X6.four
  have lx := X6.lt
  obtain ⟨y0, y1, y2, y3⟩ := Y6.four
  have ly := Y6.lt
  have fx0 := X6.free 0
  have fx1 := X6.free 1
  have fx2 := X6.free 2
  have fx3 := X6.free 3
  have fy0 := Y6.free 0
  have fy1 := Y6.free 1
  have fy2 := Y6.free 2
  have fy3 := Y6.free 3
  go_wp2_with fail
  have As := A6.by4 (b := by') (by omega) (.int .i64 K3) (.int .i64 0) (.int .i64 0) (.string L3)
  have Ps := P6.by4 (b := by') (by omega) (.int .i64 K3) (.int .i64 0) (.int .i64 0) (.string L3)
  have Xs := X6.by4 (b := by') (by omega) (.int .i64 K3) (.int .i64 0) (.int .i64 0) (.string L3)
  have Ys := Y6.put4 (.int .i64 K3) (.int .i64 0) (.int .i64 0) (.string L3)
  have Bs := Lib.hid (below4 (b := by') B6.out (by omega) (.int .i64 K3) (.int .i64 0) (.int .i64 0) (.string L3))
  generalize ((((w6.setCell ⟨by', 0, none⟩ (.int .i64 K3)).setCell ⟨by', 1, none⟩ (.int .i64 0)).setCell ⟨by', 2, none⟩ (.int .i64 0)).setCell ⟨by', 3, none⟩ (.string L3)) = W6 at *
  go_at_call 44
  refine (H4.out.1 _).mono ?_
  rintro e w7 ⟨rfl, hb7⟩
  clear a0 a1 a2 a3 la p0 p1 p2 p3 lp x0 x1 x2 x3 lx fx0 fx1 fx2 fx3 y0 y1 y2 y3 ly fy0 fy1 fy2 fy3
  have B7 := Lib.hid (bl_then Bs.out hb7)
  have A7 := As.keep hb7
  have P7 := Ps.keep hb7
  have X7 := Xs.keep hb7
  have Y7 := Ys.keep hb7
  clear hb7 Bs As Ps Xs Ys A6 P6 X6 Y6
  obtain ⟨a0, a1, a2, a3⟩ := A7.four
  have la := A7.lt
  obtain ⟨p0, p1, p2, p3⟩ := P7.four
  have lp := P7.lt
  obtain ⟨x0, x1, x2, x3⟩ := X7.four
  have lx := X7.lt
  obtain ⟨y0, y1, y2, y3⟩ := Y7.four
  have ly := Y7.lt
  have fx0 := X7.free 0
  have fx1 := X7.free 1
  have fx2 := X7.free 2
  have fx3 := X7.free 3
  have fy0 := Y7.free 0
  have fy1 := Y7.free 1
  have fy2 := Y7.free 2
  have fy3 := Y7.free 3
  go_wp2_with fail
  have As := A7.by4 (b := bx) (by omega) (.int .i64 K4) (.int .i64 0) (.int .i64 0) (.string L4)
  have Ps := P7.by4 (b := bx) (by omega) (.int .i64 K4) (.int .i64 0) (.int .i64 0) (.string L4)
  have Xs := X7.put4 (.int .i64 K4) (.int .i64 0) (.int .i64 0) (.string L4)
  have Ys := Y7.by4 (b := bx) (by omega) (.int .i64 K4) (.int .i64 0) (.int .i64 0) (.string L4)
  have Bs := Lib.hid (below4 (b := bx) B7.out (by omega) (.int .i64 K4) (.int .i64 0) (.int .i64 0) (.string L4))
  generalize ((((w7.setCell ⟨bx, 0, none⟩ (.int .i64 K4)).setCell ⟨bx, 1, none⟩ (.int .i64 0)).setCell ⟨bx, 2, none⟩ (.int .i64 0)).setCell ⟨bx, 3, none⟩ (.string L4)) = W7 at *
  go_at_call 45
  refine (H4.out.2 _).mono ?_
  rintro e w8 ⟨rfl, hb8⟩
  clear a0 a1 a2 a3 la p0 p1 p2 p3 lp x0 x1 x2 x3 lx fx0 fx1 fx2 fx3 y0 y1 y2 y3 ly fy0 fy1 fy2 fy3
  have B8 := Lib.hid (bl_then Bs.out hb8)
  have A8 := As.keep hb8
  have P8 := Ps.keep hb8
  have X8 := Xs.keep hb8
  have Y8 := Ys.keep hb8
  clear hb8 Bs As Ps Xs Ys A7 P7 X7 Y7
  obtain ⟨a0, a1, a2, a3⟩ := A8.four
  have la := A8.lt
  obtain ⟨p0, p1, p2, p3⟩ := P8.four
  have lp := P8.lt
  obtain ⟨x0, x1, x2, x3⟩ := X8.four
  have lx := X8.lt
  obtain ⟨y0, y1, y2, y3⟩ := Y8.four
  have ly := Y8.lt
  have fx0 := X8.free 0
  have fx1 := X8.free 1
  have fx2 := X8.free 2
  have fx3 := X8.free 3
  have fy0 := Y8.free 0
  have fy1 := Y8.free 1
  have fy2 := Y8.free 2
  have fy3 := Y8.free 3
  go_wp2_with fail
  have As := A8.by4 (b := by') (by omega) (.int .i64 K4) (.int .i64 0) (.int .i64 0) (.string L4)
  have Ps := P8.by4 (b := by') (by omega) (.int .i64 K4) (.int .i64 0) (.int .i64 0) (.string L4)
  have Xs := X8.by4 (b := by') (by omega) (.int .i64 K4) (.int .i64 0) (.int .i64 0) (.string L4)
  have Ys := Y8.put4 (.int .i64 K4) (.int .i64 0) (.int .i64 0) (.string L4)
  have Bs := Lib.hid (below4 (b := by') B8.out (by omega) (.int .i64 K4) (.int .i64 0) (.int .i64 0) (.string L4))
  generalize ((((w8.setCell ⟨by', 0, none⟩ (.int .i64 K4)).setCell ⟨by', 1, none⟩ (.int .i64 0)).setCell ⟨by', 2, none⟩ (.int .i64 0)).setCell ⟨by', 3, none⟩ (.string L4)) = W8 at *
  go_at_call 46
  refine (H5.out.1 _).mono ?_
  rintro e w9 ⟨rfl, hb9⟩
  clear a0 a1 a2 a3 la p0 p1 p2 p3 lp x0 x1 x2 x3 lx fx0 fx1 fx2 fx3 y0 y1 y2 y3 ly fy0 fy1 fy2 fy3
  have B9 := Lib.hid (bl_then Bs.out hb9)
  have A9 := As.keep hb9
  have P9 := Ps.keep hb9
  have X9 := Xs.keep hb9
  have Y9 := Ys.keep hb9
  clear hb9 Bs As Ps Xs Ys A8 P8 X8 Y8
  obtain ⟨a0, a1, a2, a3⟩ := A9.four
  have la := A9.lt
  obtain ⟨p0, p1, p2, p3⟩ := P9.four
  have lp := P9.lt
  obtain ⟨x0, x1, x2, x3⟩ := X9.four
  have lx := X9.lt
  obtain ⟨y0, y1, y2, y3⟩ := Y9.four
  have ly := Y9.lt
  have fx0 := X9.free 0
  have fx1 := X9.free 1
  have fx2 := X9.free 2
  have fx3 := X9.free 3
  have fy0 := Y9.free 0
  have fy1 := Y9.free 1
  have fy2 := Y9.free 2
  have fy3 := Y9.free 3
  go_wp2_with fail
  go_at_call 47
  refine (H5.out.2 _).mono ?_
  rintro e w10 ⟨rfl, hb10⟩
  clear a0 a1 a2 a3 la p0 p1 p2 p3 lp x0 x1 x2 x3 lx fx0 fx1 fx2 fx3 y0 y1 y2 y3 ly fy0 fy1 fy2 fy3
  have B10 := Lib.hid (bl_then B9.out hb10)
  have A10 := A9.keep hb10
  have P10 := P9.keep hb10
  have X10 := X9.keep hb10
  have Y10 := Y9.keep hb10
  clear hb10 A9 P9 X9 Y9
  obtain ⟨a0, a1, a2, a3⟩ := A10.four
  have la := A10.lt
  obtain ⟨p0, p1, p2, p3⟩ := P10.four
  have lp := P10.lt
  obtain ⟨x0, x1, x2, x3⟩ := X10.four
  have lx := X10.lt
  obtain ⟨y0, y1, y2, y3⟩ := Y10.four
  have ly := Y10.lt
  have fx0 := X10.free 0
  have fx1 := X10.free 1
  have fx2 := X10.free 2
  have fx3 := X10.free 3
  have fy0 := Y10.free 0
  have fy1 := Y10.free 1
  have fy2 := Y10.free 2
  have fy3 := Y10.free 3
  go_wp2_with fail
  go_at_call 48
  refine (H6.out.1 _).mono ?_
  rintro e w11 ⟨rfl, hb11⟩
  clear a0 a1 a2 a3 la p0 p1 p2 p3 lp x0 x1 x2 x3 lx fx0 fx1 fx2 fx3 y0 y1 y2 y3 ly fy0 fy1 fy2 fy3
  have B11 := Lib.hid (bl_then B10.out hb11)
  have A11 := A10.keep hb11
  have P11 := P10.keep hb11
  have X11 := X10.keep hb11
  have Y11 := Y10.keep hb11
  clear hb11 A10 P10 X10 Y10
  obtain ⟨a0, a1, a2, a3⟩ := A11.four
  have la := A11.lt
  obtain ⟨p0, p1, p2, p3⟩ := P11.four
  have lp := P11.lt
  obtain ⟨x0, x1, x2, x3⟩ := X11.four
  have lx := X11.lt
  obtain ⟨y0, y1, y2, y3⟩ := Y11.four
  have ly := Y11.lt
  have fx0 := X11.free 0
  have fx1 := X11.free 1
  have fx2 := X11.free 2
  have fx3 := X11.free 3
  have fy0 := Y11.free 0
  have fy1 := Y11.free 1
  have fy2 := Y11.free 2
  have fy3 := Y11.free 3
  go_wp2_with fail
  go_at_call 49
  refine (H6.out.2 _).mono ?_
  rintro e w12 ⟨rfl, hb12⟩
  clear a0 a1 a2 a3 la p0 p1 p2 p3 lp x0 x1 x2 x3 lx fx0 fx1 fx2 fx3 y0 y1 y2 y3 ly fy0 fy1 fy2 fy3
  have B12 := Lib.hid (bl_then B11.out hb12)
  have A12 := A11.keep hb12
  have P12 := P11.keep hb12
  have X12 := X11.keep hb12
  have Y12 := Y11.keep hb12
  clear hb12 A11 P11 X11 Y11
  obtain ⟨a0, a1, a2, a3⟩ := A12.four
  have la := A12.lt
  obtain ⟨p0, p1, p2, p3⟩ := P12.four
  have lp := P12.lt
  obtain ⟨x0, x1, x2, x3⟩ := X12.four
  have lx := X12.lt
  obtain ⟨y0, y1, y2, y3⟩ := Y12.four
  have ly := Y12.lt
  have fx0 := X12.free 0
  have fx1 := X12.free 1
  have fx2 := X12.free 2
  have fx3 := X12.free 3
  have fy0 := Y12.free 0
  have fy1 := Y12.free 1
  have fy2 := Y12.free 2
  have fy3 := Y12.free 3
  go_wp2_with fail
  go_at_call 50
  refine (H7.out.1 _).mono ?_
  rintro e w13 ⟨rfl, hb13⟩
  clear a0 a1 a2 a3 la p0 p1 p2 p3 lp x0 x1 x2 x3 lx fx0 fx1 fx2 fx3 y0 y1 y2 y3 ly fy0 fy1 fy2 fy3
  have B13 := Lib.hid (bl_then B12.out hb13)
  have A13 := A12.keep hb13
  have P13 := P12.keep hb13
  have X13 := X12.keep hb13
  have Y13 := Y12.keep hb13
  clear hb13 A12 P12 X12 Y12
  obtain ⟨a0, a1, a2, a3⟩ := A13.four
  have la := A13.lt
  obtain ⟨p0, p1, p2, p3⟩ := P13.four
  have lp := P13.lt
  obtain ⟨x0, x1, x2, x3⟩ := X13.four
  have lx := X13.lt
  obtain ⟨y0, y1, y2, y3⟩ := Y13.four
  have ly := Y13.lt
  have fx0 := X13.free 0
  have fx1 := X13.free 1
  have fx2 := X13.free 2
  have fx3 := X13.free 3
  have fy0 := Y13.free 0
  have fy1 := Y13.free 1
  have fy2 := Y13.free 2
  have fy3 := Y13.free 3
  go_wp2_with fail
  have As := A13.by4 (b := bx) (by omega) (.int .i64 K7) (.int .i64 0) (.int .i64 0) (.string L7)
  have Ps := P13.by4 (b := bx) (by omega) (.int .i64 K7) (.int .i64 0) (.int .i64 0) (.string L7)
  have Xs := X13.put4 (.int .i64 K7) (.int .i64 0) (.int .i64 0) (.string L7)
  have Ys := Y13.by4 (b := bx) (by omega) (.int .i64 K7) (.int .i64 0) (.int .i64 0) (.string L7)
  have Bs := Lib.hid (below4 (b := bx) B13.out (by omega) (.int .i64 K7) (.int .i64 0) (.int .i64 0) (.string L7))
  generalize ((((w13.setCell ⟨bx, 0, none⟩ (.int .i64 K7)).setCell ⟨bx, 1, none⟩ (.int .i64 0)).setCell ⟨bx, 2, none⟩ (.int .i64 0)).setCell ⟨bx, 3, none⟩ (.string L7)) = W13 at *
  go_at_call 51
  refine (H7.out.2 _).mono ?_
  rintro e w14 ⟨rfl, hb14⟩
  clear a0 a1 a2 a3 la p0 p1 p2 p3 lp x0 x1 x2 x3 lx fx0 fx1 fx2 fx3 y0 y1 y2 y3 ly fy0 fy1 fy2 fy3
  have B14 := Lib.hid (bl_then Bs.out hb14)
  have A14 := As.keep hb14
  have P14 := Ps.keep hb14
  have X14 := Xs.keep hb14
  have Y14 := Ys.keep hb14
  clear hb14 Bs As Ps Xs Ys A13 P13 X13 Y13
  obtain ⟨a0, a1, a2, a3⟩ := A14.four
  have la := A14.lt
  obtain ⟨p0, p1, p2, p3⟩ := P14.four
  have lp := P14.lt
  obtain ⟨x0, x1, x2, x3⟩ := X14.four
  have lx := X14.lt
  obtain ⟨y0, y1, y2, y3⟩ := Y14.four
  have ly := Y14.lt
  have fx0 := X14.free 0
  have fx1 := X14.free 1
  have fx2 := X14.free 2
  have fx3 := X14.free 3
  have fy0 := Y14.free 0
  have fy1 := Y14.free 1
  have fy2 := Y14.free 2
  have fy3 := Y14.free 3
  go_wp2_with fail
  have Bs := Lib.hid (below4 (b := by') B14.out (by omega) (.int .i64 K7) (.int .i64 0) (.int .i64 0) (.string L7))
  generalize ((((w14.setCell ⟨by', 0, none⟩ (.int .i64 K7)).setCell ⟨by', 1, none⟩ (.int .i64 0)).setCell ⟨by', 2, none⟩ (.int .i64 0)).setCell ⟨by', 3, none⟩ (.string L7)) = W14 at *
  go_at_call 9
  refine (awake_any _).mono ?_
  rintro e w15 ⟨rfl, hb15⟩
  clear a0 a1 a2 a3 la p0 p1 p2 p3 lp x0 x1 x2 x3 lx fx0 fx1 fx2 fx3 y0 y1 y2 y3 ly fy0 fy1 fy2 fy3
  have B15 := Lib.hid (bl_then Bs.out hb15)
  clear hb15 Bs  A14 P14 X14 Y14
  go_wp2
  go_ret
  exact ⟨rfl, B15.out⟩

set_option maxRecDepth 100000 in
set_option maxHeartbeats 16000000 in
theorem bools_len (a b : Vl) (t : ByteArray) (w : World) (hs : a.s.size ≤ maxLen) (hs' : b.s.size ≤ maxLen) (hl : ∀ x ∈ [a, b], x.light = true) (ht : t.size ≤ 100) (K1 : Int) (L1 : ByteArray) (E1 : Int) (K2 : Int) (L2 : ByteArray) (E2 : Int) (K3 : Int) (L3 : ByteArray) (E3 : Int) (K4 : Int) (L4 : ByteArray) (E4 : Int) (K7 : Int) (L7 : ByteArray) (E7 : Int) (b5 b6 : Bool) (E5 E6 : Int)
    (h1 : Pair 38 39 #[a.v, b.v, .string t] K1 L1 E1)
    (h2 : Pair 40 41 #[a.v, b.v] K2 L2 E2)
    (h3 : Pair 42 43 #[a.v, b.v] K3 L3 E3)
    (h4 : Pair 44 45 #[a.v] K4 L4 E4)
    (h7 : Pair 50 51 #[a.v, b.v] K7 L7 E7)
    (h5 : PairB 46 47 #[a.v] b5 E5) (h6 : PairB 48 49 #[a.v] b6 E6) (hE7 : E7 = 0) (_hza : a.s.size ≤ 1000) (_hzb : b.s.size ≤ 1000) (hne : a.s.size ≠ b.s.size) :
    Calls Try.prog 6 #[a.v, b.v, .string t] w fun e w' => e = .returned (.bool true) ∧ Below w.heap.size w w' := by
  subst hE7
  have HP : Hid (∀ x ∈ [a, b], x.s.size ≤ maxLen) := Lib.hid (vl2 hs hs')
  have hG : Try.prog.eqGuardType Try.prog.depth 23 = false := by kernel_rfl
  have hE := vlEq
  clear hs hs'
  have H1 := Lib.hid h1; have H2 := Lib.hid h2; have H3 := Lib.hid h3; have H4 := Lib.hid h4; have H5 := Lib.hid h5; have H6 := Lib.hid h6; have H7 := Lib.hid h7; have HL := Lib.hid hl
  clear h1 h2 h3 h4 h5 h6 h7 hl
  have ht1 : decide (100 < (t.size : Int)) = false := by simp only [decide_eq_false_iff_not]; omega
  have ht2 : decide (100 < t.size) = false := by simp only [decide_eq_false_iff_not]; omega
  clear ht
  have d1 : ((a.s.size : Int) != (b.s.size : Int)) = true := by rw [bne_iff_ne]; omega
  have d2 : ((a.s.size : Int) == (b.s.size : Int)) = false := by rw [beq_eq_false_iff_ne]; omega
  have d3 : (a.s.size != b.s.size) = true := by rw [bne_iff_ne]; omega
  have d4 : (a.s.size == b.s.size) = false := by rw [beq_eq_false_iff_ne]; omega
  go_enter Try.func6, Try.ntmps6
  have A0 := Row.new w (vlC a.k a.n a.q a.s) 23
  have P0 := Row.new2 w (.cells (vlC a.k a.n a.q a.s) 23) (vlC b.k b.n b.q b.s) 23
  go_wp2_with fail
  go_at_call 8
  refine (bLight_yes [a, b] (w.heap.size + 1 + 1) 0 2 _ (VlsAt.two (Row.new3 _ _ _ _ _)) (by simp) (by simp <;> omega) HP.out HL.out).mono ?_
  rintro e wl ⟨rfl, rfl⟩
  go_wp2_with fail
  go_at_call 38
  refine (H1.out.1 _).mono ?_
  rintro e w1 ⟨rfl, hb1⟩
  have B1 := Lib.hid (bl_box3 (Below.refl _ w) hb1)
  have A1 := ((A0.alloc _).alloc _).keep hb1
  have P1 := (P0.alloc _).keep hb1
  clear hb1 A0 P0
  obtain ⟨a0, a1, a2, a3⟩ := A1.four
  have la := A1.lt
  obtain ⟨p0, p1, p2, p3⟩ := P1.four
  have lp := P1.lt
  go_wp2_with fail
  go_at_call 39
  refine (H1.out.2 _).mono ?_
  rintro e w2 ⟨rfl, hb2⟩
  clear a0 a1 a2 a3 la p0 p1 p2 p3 lp
  have B2 := Lib.hid (bl_box B1.out hb2)
  have A2 := (A1.alloc _).keep hb2
  have P2 := (P1.alloc _).keep hb2
  have X2 := (Row.new w1 (vlC K1 0 0 L1) 23).keep hb2
  have hz_X : w.heap.size ≤ w1.heap.size := B1.out.size
  have h_AX : w.heap.size < w1.heap.size := A1.lt
  have h_PX : w.heap.size + 1 < w1.heap.size := P1.lt
  clear hb2 A1 P1
  generalize w1.heap.size = bx at *
  have : ¬ bx = w.heap.size := by omega
  have : ¬ w.heap.size = bx := by omega
  have : ¬ bx = w.heap.size + 1 := by omega
  have : ¬ w.heap.size + 1 = bx := by omega
  obtain ⟨a0, a1, a2, a3⟩ := A2.four
  have la := A2.lt
  obtain ⟨p0, p1, p2, p3⟩ := P2.four
  have lp := P2.lt
  obtain ⟨x0, x1, x2, x3⟩ := X2.four
  have lx := X2.lt
  have fx0 := X2.free 0
  have fx1 := X2.free 1
  have fx2 := X2.free 2
  have fx3 := X2.free 3
  go_wp2_with fail
  go_at_call 40
  refine (H2.out.1 _).mono ?_
  rintro e w3 ⟨rfl, hb3⟩
  clear a0 a1 a2 a3 la p0 p1 p2 p3 lp x0 x1 x2 x3 lx fx0 fx1 fx2 fx3
  have B3 := Lib.hid (bl_box B2.out hb3)
  have A3 := (A2.alloc _).keep hb3
  have P3 := (P2.alloc _).keep hb3
  have X3 := (X2.alloc _).keep hb3
  have Y3 := (Row.new w2 (vlC K1 0 0 L1) 23).keep hb3
  have hz_Y : w.heap.size ≤ w2.heap.size := B2.out.size
  have h_AY : w.heap.size < w2.heap.size := A2.lt
  have h_PY : w.heap.size + 1 < w2.heap.size := P2.lt
  have h_XY : bx < w2.heap.size := X2.lt
  clear hb3 A2 P2 X2
  generalize w2.heap.size = by' at *
  have : ¬ by' = w.heap.size := by omega
  have : ¬ w.heap.size = by' := by omega
  have : ¬ by' = w.heap.size + 1 := by omega
  have : ¬ w.heap.size + 1 = by' := by omega
  have : ¬ by' = bx := by omega
  have : ¬ bx = by' := by omega
  obtain ⟨a0, a1, a2, a3⟩ := A3.four
  have la := A3.lt
  obtain ⟨p0, p1, p2, p3⟩ := P3.four
  have lp := P3.lt
  obtain ⟨x0, x1, x2, x3⟩ := X3.four
  have lx := X3.lt
  obtain ⟨y0, y1, y2, y3⟩ := Y3.four
  have ly := Y3.lt
  have fx0 := X3.free 0
  have fx1 := X3.free 1
  have fx2 := X3.free 2
  have fx3 := X3.free 3
  have fy0 := Y3.free 0
  have fy1 := Y3.free 1
  have fy2 := Y3.free 2
  have fy3 := Y3.free 3
  go_wp2_with fail
  have As := A3.by4 (b := bx) (by omega) (.int .i64 K2) (.int .i64 0) (.int .i64 0) (.string L2)
  have Ps := P3.by4 (b := bx) (by omega) (.int .i64 K2) (.int .i64 0) (.int .i64 0) (.string L2)
  have Xs := X3.put4 (.int .i64 K2) (.int .i64 0) (.int .i64 0) (.string L2)
  have Ys := Y3.by4 (b := bx) (by omega) (.int .i64 K2) (.int .i64 0) (.int .i64 0) (.string L2)
  have Bs := Lib.hid (below4 (b := bx) B3.out (by omega) (.int .i64 K2) (.int .i64 0) (.int .i64 0) (.string L2))
  generalize ((((w3.setCell ⟨bx, 0, none⟩ (.int .i64 K2)).setCell ⟨bx, 1, none⟩ (.int .i64 0)).setCell ⟨bx, 2, none⟩ (.int .i64 0)).setCell ⟨bx, 3, none⟩ (.string L2)) = W3 at *
  go_at_call 41
  refine (H2.out.2 _).mono ?_
  rintro e w4 ⟨rfl, hb4⟩
  clear a0 a1 a2 a3 la p0 p1 p2 p3 lp x0 x1 x2 x3 lx fx0 fx1 fx2 fx3 y0 y1 y2 y3 ly fy0 fy1 fy2 fy3
  have B4 := Lib.hid (bl_then Bs.out hb4)
  have A4 := As.keep hb4
  have P4 := Ps.keep hb4
  have X4 := Xs.keep hb4
  have Y4 := Ys.keep hb4
  clear hb4 Bs As Ps Xs Ys A3 P3 X3 Y3
  obtain ⟨a0, a1, a2, a3⟩ := A4.four
  have la := A4.lt
  obtain ⟨p0, p1, p2, p3⟩ := P4.four
  have lp := P4.lt
  obtain ⟨x0, x1, x2, x3⟩ := X4.four
  have lx := X4.lt
  obtain ⟨y0, y1, y2, y3⟩ := Y4.four
  have ly := Y4.lt
  have fx0 := X4.free 0
  have fx1 := X4.free 1
  have fx2 := X4.free 2
  have fx3 := X4.free 3
  have fy0 := Y4.free 0
  have fy1 := Y4.free 1
  have fy2 := Y4.free 2
  have fy3 := Y4.free 3
  go_wp2_with fail
  have As := A4.by4 (b := by') (by omega) (.int .i64 K2) (.int .i64 0) (.int .i64 0) (.string L2)
  have Ps := P4.by4 (b := by') (by omega) (.int .i64 K2) (.int .i64 0) (.int .i64 0) (.string L2)
  have Xs := X4.by4 (b := by') (by omega) (.int .i64 K2) (.int .i64 0) (.int .i64 0) (.string L2)
  have Ys := Y4.put4 (.int .i64 K2) (.int .i64 0) (.int .i64 0) (.string L2)
  have Bs := Lib.hid (below4 (b := by') B4.out (by omega) (.int .i64 K2) (.int .i64 0) (.int .i64 0) (.string L2))
  generalize ((((w4.setCell ⟨by', 0, none⟩ (.int .i64 K2)).setCell ⟨by', 1, none⟩ (.int .i64 0)).setCell ⟨by', 2, none⟩ (.int .i64 0)).setCell ⟨by', 3, none⟩ (.string L2)) = W4 at *
  go_at_call 42
  refine (H3.out.1 _).mono ?_
  rintro e w5 ⟨rfl, hb5⟩
  clear a0 a1 a2 a3 la p0 p1 p2 p3 lp x0 x1 x2 x3 lx fx0 fx1 fx2 fx3 y0 y1 y2 y3 ly fy0 fy1 fy2 fy3
  have B5 := Lib.hid (bl_then Bs.out hb5)
  have A5 := As.keep hb5
  have P5 := Ps.keep hb5
  have X5 := Xs.keep hb5
  have Y5 := Ys.keep hb5
  clear hb5 Bs As Ps Xs Ys A4 P4 X4 Y4
  obtain ⟨a0, a1, a2, a3⟩ := A5.four
  have la := A5.lt
  obtain ⟨p0, p1, p2, p3⟩ := P5.four
  have lp := P5.lt
  obtain ⟨x0, x1, x2, x3⟩ := X5.four
  have lx := X5.lt
  obtain ⟨y0, y1, y2, y3⟩ := Y5.four
  have ly := Y5.lt
  have fx0 := X5.free 0
  have fx1 := X5.free 1
  have fx2 := X5.free 2
  have fx3 := X5.free 3
  have fy0 := Y5.free 0
  have fy1 := Y5.free 1
  have fy2 := Y5.free 2
  have fy3 := Y5.free 3
  go_wp2_with fail
  have As := A5.by4 (b := bx) (by omega) (.int .i64 K3) (.int .i64 0) (.int .i64 0) (.string L3)
  have Ps := P5.by4 (b := bx) (by omega) (.int .i64 K3) (.int .i64 0) (.int .i64 0) (.string L3)
  have Xs := X5.put4 (.int .i64 K3) (.int .i64 0) (.int .i64 0) (.string L3)
  have Ys := Y5.by4 (b := bx) (by omega) (.int .i64 K3) (.int .i64 0) (.int .i64 0) (.string L3)
  have Bs := Lib.hid (below4 (b := bx) B5.out (by omega) (.int .i64 K3) (.int .i64 0) (.int .i64 0) (.string L3))
  generalize ((((w5.setCell ⟨bx, 0, none⟩ (.int .i64 K3)).setCell ⟨bx, 1, none⟩ (.int .i64 0)).setCell ⟨bx, 2, none⟩ (.int .i64 0)).setCell ⟨bx, 3, none⟩ (.string L3)) = W5 at *
  go_at_call 43
  refine (H3.out.2 _).mono ?_
  rintro e w6 ⟨rfl, hb6⟩
  clear a0 a1 a2 a3 la p0 p1 p2 p3 lp x0 x1 x2 x3 lx fx0 fx1 fx2 fx3 y0 y1 y2 y3 ly fy0 fy1 fy2 fy3
  have B6 := Lib.hid (bl_then Bs.out hb6)
  have A6 := As.keep hb6
  have P6 := Ps.keep hb6
  have X6 := Xs.keep hb6
  have Y6 := Ys.keep hb6
  clear hb6 Bs As Ps Xs Ys A5 P5 X5 Y5
  obtain ⟨a0, a1, a2, a3⟩ := A6.four
  have la := A6.lt
  obtain ⟨p0, p1, p2, p3⟩ := P6.four
  have lp := P6.lt
  obtain ⟨x0, x1, x2, x3⟩ := X6.four
  have lx := X6.lt
  obtain ⟨y0, y1, y2, y3⟩ := Y6.four
  have ly := Y6.lt
  have fx0 := X6.free 0
  have fx1 := X6.free 1
  have fx2 := X6.free 2
  have fx3 := X6.free 3
  have fy0 := Y6.free 0
  have fy1 := Y6.free 1
  have fy2 := Y6.free 2
  have fy3 := Y6.free 3
  go_wp2_with fail
  have As := A6.by4 (b := by') (by omega) (.int .i64 K3) (.int .i64 0) (.int .i64 0) (.string L3)
  have Ps := P6.by4 (b := by') (by omega) (.int .i64 K3) (.int .i64 0) (.int .i64 0) (.string L3)
  have Xs := X6.by4 (b := by') (by omega) (.int .i64 K3) (.int .i64 0) (.int .i64 0) (.string L3)
  have Ys := Y6.put4 (.int .i64 K3) (.int .i64 0) (.int .i64 0) (.string L3)
  have Bs := Lib.hid (below4 (b := by') B6.out (by omega) (.int .i64 K3) (.int .i64 0) (.int .i64 0) (.string L3))
  generalize ((((w6.setCell ⟨by', 0, none⟩ (.int .i64 K3)).setCell ⟨by', 1, none⟩ (.int .i64 0)).setCell ⟨by', 2, none⟩ (.int .i64 0)).setCell ⟨by', 3, none⟩ (.string L3)) = W6 at *
  go_at_call 44
  refine (H4.out.1 _).mono ?_
  rintro e w7 ⟨rfl, hb7⟩
  clear a0 a1 a2 a3 la p0 p1 p2 p3 lp x0 x1 x2 x3 lx fx0 fx1 fx2 fx3 y0 y1 y2 y3 ly fy0 fy1 fy2 fy3
  have B7 := Lib.hid (bl_then Bs.out hb7)
  have A7 := As.keep hb7
  have P7 := Ps.keep hb7
  have X7 := Xs.keep hb7
  have Y7 := Ys.keep hb7
  clear hb7 Bs As Ps Xs Ys A6 P6 X6 Y6
  obtain ⟨a0, a1, a2, a3⟩ := A7.four
  have la := A7.lt
  obtain ⟨p0, p1, p2, p3⟩ := P7.four
  have lp := P7.lt
  obtain ⟨x0, x1, x2, x3⟩ := X7.four
  have lx := X7.lt
  obtain ⟨y0, y1, y2, y3⟩ := Y7.four
  have ly := Y7.lt
  have fx0 := X7.free 0
  have fx1 := X7.free 1
  have fx2 := X7.free 2
  have fx3 := X7.free 3
  have fy0 := Y7.free 0
  have fy1 := Y7.free 1
  have fy2 := Y7.free 2
  have fy3 := Y7.free 3
  go_wp2_with fail
  have As := A7.by4 (b := bx) (by omega) (.int .i64 K4) (.int .i64 0) (.int .i64 0) (.string L4)
  have Ps := P7.by4 (b := bx) (by omega) (.int .i64 K4) (.int .i64 0) (.int .i64 0) (.string L4)
  have Xs := X7.put4 (.int .i64 K4) (.int .i64 0) (.int .i64 0) (.string L4)
  have Ys := Y7.by4 (b := bx) (by omega) (.int .i64 K4) (.int .i64 0) (.int .i64 0) (.string L4)
  have Bs := Lib.hid (below4 (b := bx) B7.out (by omega) (.int .i64 K4) (.int .i64 0) (.int .i64 0) (.string L4))
  generalize ((((w7.setCell ⟨bx, 0, none⟩ (.int .i64 K4)).setCell ⟨bx, 1, none⟩ (.int .i64 0)).setCell ⟨bx, 2, none⟩ (.int .i64 0)).setCell ⟨bx, 3, none⟩ (.string L4)) = W7 at *
  go_at_call 45
  refine (H4.out.2 _).mono ?_
  rintro e w8 ⟨rfl, hb8⟩
  clear a0 a1 a2 a3 la p0 p1 p2 p3 lp x0 x1 x2 x3 lx fx0 fx1 fx2 fx3 y0 y1 y2 y3 ly fy0 fy1 fy2 fy3
  have B8 := Lib.hid (bl_then Bs.out hb8)
  have A8 := As.keep hb8
  have P8 := Ps.keep hb8
  have X8 := Xs.keep hb8
  have Y8 := Ys.keep hb8
  clear hb8 Bs As Ps Xs Ys A7 P7 X7 Y7
  obtain ⟨a0, a1, a2, a3⟩ := A8.four
  have la := A8.lt
  obtain ⟨p0, p1, p2, p3⟩ := P8.four
  have lp := P8.lt
  obtain ⟨x0, x1, x2, x3⟩ := X8.four
  have lx := X8.lt
  obtain ⟨y0, y1, y2, y3⟩ := Y8.four
  have ly := Y8.lt
  have fx0 := X8.free 0
  have fx1 := X8.free 1
  have fx2 := X8.free 2
  have fx3 := X8.free 3
  have fy0 := Y8.free 0
  have fy1 := Y8.free 1
  have fy2 := Y8.free 2
  have fy3 := Y8.free 3
  go_wp2_with fail
  have As := A8.by4 (b := by') (by omega) (.int .i64 K4) (.int .i64 0) (.int .i64 0) (.string L4)
  have Ps := P8.by4 (b := by') (by omega) (.int .i64 K4) (.int .i64 0) (.int .i64 0) (.string L4)
  have Xs := X8.by4 (b := by') (by omega) (.int .i64 K4) (.int .i64 0) (.int .i64 0) (.string L4)
  have Ys := Y8.put4 (.int .i64 K4) (.int .i64 0) (.int .i64 0) (.string L4)
  have Bs := Lib.hid (below4 (b := by') B8.out (by omega) (.int .i64 K4) (.int .i64 0) (.int .i64 0) (.string L4))
  generalize ((((w8.setCell ⟨by', 0, none⟩ (.int .i64 K4)).setCell ⟨by', 1, none⟩ (.int .i64 0)).setCell ⟨by', 2, none⟩ (.int .i64 0)).setCell ⟨by', 3, none⟩ (.string L4)) = W8 at *
  go_at_call 46
  refine (H5.out.1 _).mono ?_
  rintro e w9 ⟨rfl, hb9⟩
  clear a0 a1 a2 a3 la p0 p1 p2 p3 lp x0 x1 x2 x3 lx fx0 fx1 fx2 fx3 y0 y1 y2 y3 ly fy0 fy1 fy2 fy3
  have B9 := Lib.hid (bl_then Bs.out hb9)
  have A9 := As.keep hb9
  have P9 := Ps.keep hb9
  have X9 := Xs.keep hb9
  have Y9 := Ys.keep hb9
  clear hb9 Bs As Ps Xs Ys A8 P8 X8 Y8
  obtain ⟨a0, a1, a2, a3⟩ := A9.four
  have la := A9.lt
  obtain ⟨p0, p1, p2, p3⟩ := P9.four
  have lp := P9.lt
  obtain ⟨x0, x1, x2, x3⟩ := X9.four
  have lx := X9.lt
  obtain ⟨y0, y1, y2, y3⟩ := Y9.four
  have ly := Y9.lt
  have fx0 := X9.free 0
  have fx1 := X9.free 1
  have fx2 := X9.free 2
  have fx3 := X9.free 3
  have fy0 := Y9.free 0
  have fy1 := Y9.free 1
  have fy2 := Y9.free 2
  have fy3 := Y9.free 3
  go_wp2_with fail
  go_at_call 47
  refine (H5.out.2 _).mono ?_
  rintro e w10 ⟨rfl, hb10⟩
  clear a0 a1 a2 a3 la p0 p1 p2 p3 lp x0 x1 x2 x3 lx fx0 fx1 fx2 fx3 y0 y1 y2 y3 ly fy0 fy1 fy2 fy3
  have B10 := Lib.hid (bl_then B9.out hb10)
  have A10 := A9.keep hb10
  have P10 := P9.keep hb10
  have X10 := X9.keep hb10
  have Y10 := Y9.keep hb10
  clear hb10 A9 P9 X9 Y9
  obtain ⟨a0, a1, a2, a3⟩ := A10.four
  have la := A10.lt
  obtain ⟨p0, p1, p2, p3⟩ := P10.four
  have lp := P10.lt
  obtain ⟨x0, x1, x2, x3⟩ := X10.four
  have lx := X10.lt
  obtain ⟨y0, y1, y2, y3⟩ := Y10.four
  have ly := Y10.lt
  have fx0 := X10.free 0
  have fx1 := X10.free 1
  have fx2 := X10.free 2
  have fx3 := X10.free 3
  have fy0 := Y10.free 0
  have fy1 := Y10.free 1
  have fy2 := Y10.free 2
  have fy3 := Y10.free 3
  go_wp2_with fail
  go_at_call 48
  refine (H6.out.1 _).mono ?_
  rintro e w11 ⟨rfl, hb11⟩
  clear a0 a1 a2 a3 la p0 p1 p2 p3 lp x0 x1 x2 x3 lx fx0 fx1 fx2 fx3 y0 y1 y2 y3 ly fy0 fy1 fy2 fy3
  have B11 := Lib.hid (bl_then B10.out hb11)
  have A11 := A10.keep hb11
  have P11 := P10.keep hb11
  have X11 := X10.keep hb11
  have Y11 := Y10.keep hb11
  clear hb11 A10 P10 X10 Y10
  obtain ⟨a0, a1, a2, a3⟩ := A11.four
  have la := A11.lt
  obtain ⟨p0, p1, p2, p3⟩ := P11.four
  have lp := P11.lt
  obtain ⟨x0, x1, x2, x3⟩ := X11.four
  have lx := X11.lt
  obtain ⟨y0, y1, y2, y3⟩ := Y11.four
  have ly := Y11.lt
  have fx0 := X11.free 0
  have fx1 := X11.free 1
  have fx2 := X11.free 2
  have fx3 := X11.free 3
  have fy0 := Y11.free 0
  have fy1 := Y11.free 1
  have fy2 := Y11.free 2
  have fy3 := Y11.free 3
  go_wp2_with fail
  go_at_call 49
  refine (H6.out.2 _).mono ?_
  rintro e w12 ⟨rfl, hb12⟩
  clear a0 a1 a2 a3 la p0 p1 p2 p3 lp x0 x1 x2 x3 lx fx0 fx1 fx2 fx3 y0 y1 y2 y3 ly fy0 fy1 fy2 fy3
  have B12 := Lib.hid (bl_then B11.out hb12)
  have A12 := A11.keep hb12
  have P12 := P11.keep hb12
  have X12 := X11.keep hb12
  have Y12 := Y11.keep hb12
  clear hb12 A11 P11 X11 Y11
  obtain ⟨a0, a1, a2, a3⟩ := A12.four
  have la := A12.lt
  obtain ⟨p0, p1, p2, p3⟩ := P12.four
  have lp := P12.lt
  obtain ⟨x0, x1, x2, x3⟩ := X12.four
  have lx := X12.lt
  obtain ⟨y0, y1, y2, y3⟩ := Y12.four
  have ly := Y12.lt
  have fx0 := X12.free 0
  have fx1 := X12.free 1
  have fx2 := X12.free 2
  have fx3 := X12.free 3
  have fy0 := Y12.free 0
  have fy1 := Y12.free 1
  have fy2 := Y12.free 2
  have fy3 := Y12.free 3
  go_wp2_with fail
  go_at_call 50
  refine (H7.out.1 _).mono ?_
  rintro e w13 ⟨rfl, hb13⟩
  clear a0 a1 a2 a3 la p0 p1 p2 p3 lp x0 x1 x2 x3 lx fx0 fx1 fx2 fx3 y0 y1 y2 y3 ly fy0 fy1 fy2 fy3
  have B13 := Lib.hid (bl_then B12.out hb13)
  have A13 := A12.keep hb13
  have P13 := P12.keep hb13
  have X13 := X12.keep hb13
  have Y13 := Y12.keep hb13
  clear hb13 A12 P12 X12 Y12
  obtain ⟨a0, a1, a2, a3⟩ := A13.four
  have la := A13.lt
  obtain ⟨p0, p1, p2, p3⟩ := P13.four
  have lp := P13.lt
  obtain ⟨x0, x1, x2, x3⟩ := X13.four
  have lx := X13.lt
  obtain ⟨y0, y1, y2, y3⟩ := Y13.four
  have ly := Y13.lt
  have fx0 := X13.free 0
  have fx1 := X13.free 1
  have fx2 := X13.free 2
  have fx3 := X13.free 3
  have fy0 := Y13.free 0
  have fy1 := Y13.free 1
  have fy2 := Y13.free 2
  have fy3 := Y13.free 3
  go_wp2_with fail
  have As := A13.by4 (b := bx) (by omega) (.int .i64 K7) (.int .i64 0) (.int .i64 0) (.string L7)
  have Ps := P13.by4 (b := bx) (by omega) (.int .i64 K7) (.int .i64 0) (.int .i64 0) (.string L7)
  have Xs := X13.put4 (.int .i64 K7) (.int .i64 0) (.int .i64 0) (.string L7)
  have Ys := Y13.by4 (b := bx) (by omega) (.int .i64 K7) (.int .i64 0) (.int .i64 0) (.string L7)
  have Bs := Lib.hid (below4 (b := bx) B13.out (by omega) (.int .i64 K7) (.int .i64 0) (.int .i64 0) (.string L7))
  generalize ((((w13.setCell ⟨bx, 0, none⟩ (.int .i64 K7)).setCell ⟨bx, 1, none⟩ (.int .i64 0)).setCell ⟨bx, 2, none⟩ (.int .i64 0)).setCell ⟨bx, 3, none⟩ (.string L7)) = W13 at *
  go_at_call 51
  refine (H7.out.2 _).mono ?_
  rintro e w14 ⟨rfl, hb14⟩
  clear a0 a1 a2 a3 la p0 p1 p2 p3 lp x0 x1 x2 x3 lx fx0 fx1 fx2 fx3 y0 y1 y2 y3 ly fy0 fy1 fy2 fy3
  have B14 := Lib.hid (bl_then Bs.out hb14)
  have A14 := As.keep hb14
  have P14 := Ps.keep hb14
  have X14 := Xs.keep hb14
  have Y14 := Ys.keep hb14
  clear hb14 Bs As Ps Xs Ys A13 P13 X13 Y13
  obtain ⟨a0, a1, a2, a3⟩ := A14.four
  have la := A14.lt
  obtain ⟨p0, p1, p2, p3⟩ := P14.four
  have lp := P14.lt
  obtain ⟨x0, x1, x2, x3⟩ := X14.four
  have lx := X14.lt
  obtain ⟨y0, y1, y2, y3⟩ := Y14.four
  have ly := Y14.lt
  have fx0 := X14.free 0
  have fx1 := X14.free 1
  have fx2 := X14.free 2
  have fx3 := X14.free 3
  have fy0 := Y14.free 0
  have fy1 := Y14.free 1
  have fy2 := Y14.free 2
  have fy3 := Y14.free 3
  go_wp2_with fail
  have Bs := Lib.hid (below4 (b := by') B14.out (by omega) (.int .i64 K7) (.int .i64 0) (.int .i64 0) (.string L7))
  generalize ((((w14.setCell ⟨by', 0, none⟩ (.int .i64 K7)).setCell ⟨by', 1, none⟩ (.int .i64 0)).setCell ⟨by', 2, none⟩ (.int .i64 0)).setCell ⟨by', 3, none⟩ (.string L7)) = W14 at *
  go_at_call 9
  refine (awake_any _).mono ?_
  rintro e w15 ⟨rfl, hb15⟩
  clear a0 a1 a2 a3 la p0 p1 p2 p3 lp x0 x1 x2 x3 lx fx0 fx1 fx2 fx3 y0 y1 y2 y3 ly fy0 fy1 fy2 fy3
  have B15 := Lib.hid (bl_then Bs.out hb15)
  clear hb15 Bs  A14 P14 X14 Y14
  go_wp2
  go_ret
  exact ⟨rfl, B15.out⟩

set_option maxRecDepth 100000 in
set_option maxHeartbeats 16000000 in
theorem bools_full (a b : Vl) (t : ByteArray) (w : World) (hs : a.s.size ≤ maxLen) (hs' : b.s.size ≤ maxLen) (hl : ∀ x ∈ [a, b], x.light = true) (ht : t.size ≤ 100) (K1 : Int) (L1 : ByteArray) (E1 : Int) (K2 : Int) (L2 : ByteArray) (E2 : Int) (K3 : Int) (L3 : ByteArray) (E3 : Int) (K4 : Int) (L4 : ByteArray) (E4 : Int) (K7 : Int) (L7 : ByteArray) (E7 : Int) (b5 b6 : Bool) (E5 E6 : Int)
    (h1 : Pair 38 39 #[a.v, b.v, .string t] K1 L1 E1)
    (h2 : Pair 40 41 #[a.v, b.v] K2 L2 E2)
    (h3 : Pair 42 43 #[a.v, b.v] K3 L3 E3)
    (h4 : Pair 44 45 #[a.v] K4 L4 E4)
    (h7 : Pair 50 51 #[a.v, b.v] K7 L7 E7)
    (h5 : PairB 46 47 #[a.v] b5 E5) (h6 : PairB 48 49 #[a.v] b6 E6) (hE7 : E7 = 0) (_hza : a.s.size ≤ 1000) (_hzb : b.s.size ≤ 1000) (heq : a.s.size = b.s.size) (L8 L9 L10 : ByteArray)
    (h8 : ∀ W, Calls Try.prog 44 #[vlV K7 0 0 L7] W fun e w' => e = .returned (.tuple #[vlV 5 0 0 L8, .int .i64 0]) ∧ Below W.heap.size W w')
    (h9 : ∀ W, Calls Try.prog 44 #[a.v] W fun e w' => e = .returned (.tuple #[vlV 5 0 0 L9, .int .i64 0]) ∧ Below W.heap.size W w')
    (h10 : ∀ W, Calls Try.prog 44 #[b.v] W fun e w' => e = .returned (.tuple #[vlV 5 0 0 L10, .int .i64 0]) ∧ Below W.heap.size W w')
    (h11 : ∀ W, Calls Try.prog 40 #[vlV 5 0 0 L9, vlV 5 0 0 L10] W fun e w' => e = .returned (.tuple #[vlV 5 0 0 L8, .int .i64 0]) ∧ Below W.heap.size W w') :
    Calls Try.prog 6 #[a.v, b.v, .string t] w fun e w' => e = .returned (.bool true) ∧ Below w.heap.size w w' := by
  subst hE7
  have HP : Hid (∀ x ∈ [a, b], x.s.size ≤ maxLen) := Lib.hid (vl2 hs hs')
  have hG : Try.prog.eqGuardType Try.prog.depth 23 = false := by kernel_rfl
  have hE := vlEq
  clear hs hs'
  have H1 := Lib.hid h1; have H2 := Lib.hid h2; have H3 := Lib.hid h3; have H4 := Lib.hid h4; have H5 := Lib.hid h5; have H6 := Lib.hid h6; have H7 := Lib.hid h7; have HL := Lib.hid hl
  clear h1 h2 h3 h4 h5 h6 h7 hl
  have H8 := Lib.hid h8; have H9 := Lib.hid h9; have H10 := Lib.hid h10; have H11 := Lib.hid h11
  clear h8 h9 h10 h11
  have ht1 : decide (100 < (t.size : Int)) = false := by simp only [decide_eq_false_iff_not]; omega
  have ht2 : decide (100 < t.size) = false := by simp only [decide_eq_false_iff_not]; omega
  clear ht
  have d1 : ((a.s.size : Int) != (b.s.size : Int)) = false := by rw [heq]; simp
  have d2 : ((a.s.size : Int) == (b.s.size : Int)) = true := by rw [heq]; simp
  have d3 : (a.s.size != b.s.size) = false := by rw [heq]; simp
  have d4 : (a.s.size == b.s.size) = true := by rw [heq]; simp
  clear heq
  go_enter Try.func6, Try.ntmps6
  have A0 := Row.new w (vlC a.k a.n a.q a.s) 23
  have P0 := Row.new2 w (.cells (vlC a.k a.n a.q a.s) 23) (vlC b.k b.n b.q b.s) 23
  go_wp2_with fail
  go_at_call 8
  refine (bLight_yes [a, b] (w.heap.size + 1 + 1) 0 2 _ (VlsAt.two (Row.new3 _ _ _ _ _)) (by simp) (by simp <;> omega) HP.out HL.out).mono ?_
  rintro e wl ⟨rfl, rfl⟩
  go_wp2_with fail
  go_at_call 38
  refine (H1.out.1 _).mono ?_
  rintro e w1 ⟨rfl, hb1⟩
  have B1 := Lib.hid (bl_box3 (Below.refl _ w) hb1)
  have A1 := ((A0.alloc _).alloc _).keep hb1
  have P1 := (P0.alloc _).keep hb1
  clear hb1 A0 P0
  obtain ⟨a0, a1, a2, a3⟩ := A1.four
  have la := A1.lt
  obtain ⟨p0, p1, p2, p3⟩ := P1.four
  have lp := P1.lt
  go_wp2_with fail
  go_at_call 39
  refine (H1.out.2 _).mono ?_
  rintro e w2 ⟨rfl, hb2⟩
  clear a0 a1 a2 a3 la p0 p1 p2 p3 lp
  have B2 := Lib.hid (bl_box B1.out hb2)
  have A2 := (A1.alloc _).keep hb2
  have P2 := (P1.alloc _).keep hb2
  have X2 := (Row.new w1 (vlC K1 0 0 L1) 23).keep hb2
  have hz_X : w.heap.size ≤ w1.heap.size := B1.out.size
  have h_AX : w.heap.size < w1.heap.size := A1.lt
  have h_PX : w.heap.size + 1 < w1.heap.size := P1.lt
  clear hb2 A1 P1
  generalize w1.heap.size = bx at *
  have : ¬ bx = w.heap.size := by omega
  have : ¬ w.heap.size = bx := by omega
  have : ¬ bx = w.heap.size + 1 := by omega
  have : ¬ w.heap.size + 1 = bx := by omega
  obtain ⟨a0, a1, a2, a3⟩ := A2.four
  have la := A2.lt
  obtain ⟨p0, p1, p2, p3⟩ := P2.four
  have lp := P2.lt
  obtain ⟨x0, x1, x2, x3⟩ := X2.four
  have lx := X2.lt
  have fx0 := X2.free 0
  have fx1 := X2.free 1
  have fx2 := X2.free 2
  have fx3 := X2.free 3
  go_wp2_with fail
  go_at_call 40
  refine (H2.out.1 _).mono ?_
  rintro e w3 ⟨rfl, hb3⟩
  clear a0 a1 a2 a3 la p0 p1 p2 p3 lp x0 x1 x2 x3 lx fx0 fx1 fx2 fx3
  have B3 := Lib.hid (bl_box B2.out hb3)
  have A3 := (A2.alloc _).keep hb3
  have P3 := (P2.alloc _).keep hb3
  have X3 := (X2.alloc _).keep hb3
  have Y3 := (Row.new w2 (vlC K1 0 0 L1) 23).keep hb3
  have hz_Y : w.heap.size ≤ w2.heap.size := B2.out.size
  have h_AY : w.heap.size < w2.heap.size := A2.lt
  have h_PY : w.heap.size + 1 < w2.heap.size := P2.lt
  have h_XY : bx < w2.heap.size := X2.lt
  clear hb3 A2 P2 X2
  generalize w2.heap.size = by' at *
  have : ¬ by' = w.heap.size := by omega
  have : ¬ w.heap.size = by' := by omega
  have : ¬ by' = w.heap.size + 1 := by omega
  have : ¬ w.heap.size + 1 = by' := by omega
  have : ¬ by' = bx := by omega
  have : ¬ bx = by' := by omega
  obtain ⟨a0, a1, a2, a3⟩ := A3.four
  have la := A3.lt
  obtain ⟨p0, p1, p2, p3⟩ := P3.four
  have lp := P3.lt
  obtain ⟨x0, x1, x2, x3⟩ := X3.four
  have lx := X3.lt
  obtain ⟨y0, y1, y2, y3⟩ := Y3.four
  have ly := Y3.lt
  have fx0 := X3.free 0
  have fx1 := X3.free 1
  have fx2 := X3.free 2
  have fx3 := X3.free 3
  have fy0 := Y3.free 0
  have fy1 := Y3.free 1
  have fy2 := Y3.free 2
  have fy3 := Y3.free 3
  go_wp2_with fail
  have As := A3.by4 (b := bx) (by omega) (.int .i64 K2) (.int .i64 0) (.int .i64 0) (.string L2)
  have Ps := P3.by4 (b := bx) (by omega) (.int .i64 K2) (.int .i64 0) (.int .i64 0) (.string L2)
  have Xs := X3.put4 (.int .i64 K2) (.int .i64 0) (.int .i64 0) (.string L2)
  have Ys := Y3.by4 (b := bx) (by omega) (.int .i64 K2) (.int .i64 0) (.int .i64 0) (.string L2)
  have Bs := Lib.hid (below4 (b := bx) B3.out (by omega) (.int .i64 K2) (.int .i64 0) (.int .i64 0) (.string L2))
  generalize ((((w3.setCell ⟨bx, 0, none⟩ (.int .i64 K2)).setCell ⟨bx, 1, none⟩ (.int .i64 0)).setCell ⟨bx, 2, none⟩ (.int .i64 0)).setCell ⟨bx, 3, none⟩ (.string L2)) = W3 at *
  go_at_call 41
  refine (H2.out.2 _).mono ?_
  rintro e w4 ⟨rfl, hb4⟩
  clear a0 a1 a2 a3 la p0 p1 p2 p3 lp x0 x1 x2 x3 lx fx0 fx1 fx2 fx3 y0 y1 y2 y3 ly fy0 fy1 fy2 fy3
  have B4 := Lib.hid (bl_then Bs.out hb4)
  have A4 := As.keep hb4
  have P4 := Ps.keep hb4
  have X4 := Xs.keep hb4
  have Y4 := Ys.keep hb4
  clear hb4 Bs As Ps Xs Ys A3 P3 X3 Y3
  obtain ⟨a0, a1, a2, a3⟩ := A4.four
  have la := A4.lt
  obtain ⟨p0, p1, p2, p3⟩ := P4.four
  have lp := P4.lt
  obtain ⟨x0, x1, x2, x3⟩ := X4.four
  have lx := X4.lt
  obtain ⟨y0, y1, y2, y3⟩ := Y4.four
  have ly := Y4.lt
  have fx0 := X4.free 0
  have fx1 := X4.free 1
  have fx2 := X4.free 2
  have fx3 := X4.free 3
  have fy0 := Y4.free 0
  have fy1 := Y4.free 1
  have fy2 := Y4.free 2
  have fy3 := Y4.free 3
  go_wp2_with fail
  have As := A4.by4 (b := by') (by omega) (.int .i64 K2) (.int .i64 0) (.int .i64 0) (.string L2)
  have Ps := P4.by4 (b := by') (by omega) (.int .i64 K2) (.int .i64 0) (.int .i64 0) (.string L2)
  have Xs := X4.by4 (b := by') (by omega) (.int .i64 K2) (.int .i64 0) (.int .i64 0) (.string L2)
  have Ys := Y4.put4 (.int .i64 K2) (.int .i64 0) (.int .i64 0) (.string L2)
  have Bs := Lib.hid (below4 (b := by') B4.out (by omega) (.int .i64 K2) (.int .i64 0) (.int .i64 0) (.string L2))
  generalize ((((w4.setCell ⟨by', 0, none⟩ (.int .i64 K2)).setCell ⟨by', 1, none⟩ (.int .i64 0)).setCell ⟨by', 2, none⟩ (.int .i64 0)).setCell ⟨by', 3, none⟩ (.string L2)) = W4 at *
  go_at_call 42
  refine (H3.out.1 _).mono ?_
  rintro e w5 ⟨rfl, hb5⟩
  clear a0 a1 a2 a3 la p0 p1 p2 p3 lp x0 x1 x2 x3 lx fx0 fx1 fx2 fx3 y0 y1 y2 y3 ly fy0 fy1 fy2 fy3
  have B5 := Lib.hid (bl_then Bs.out hb5)
  have A5 := As.keep hb5
  have P5 := Ps.keep hb5
  have X5 := Xs.keep hb5
  have Y5 := Ys.keep hb5
  clear hb5 Bs As Ps Xs Ys A4 P4 X4 Y4
  obtain ⟨a0, a1, a2, a3⟩ := A5.four
  have la := A5.lt
  obtain ⟨p0, p1, p2, p3⟩ := P5.four
  have lp := P5.lt
  obtain ⟨x0, x1, x2, x3⟩ := X5.four
  have lx := X5.lt
  obtain ⟨y0, y1, y2, y3⟩ := Y5.four
  have ly := Y5.lt
  have fx0 := X5.free 0
  have fx1 := X5.free 1
  have fx2 := X5.free 2
  have fx3 := X5.free 3
  have fy0 := Y5.free 0
  have fy1 := Y5.free 1
  have fy2 := Y5.free 2
  have fy3 := Y5.free 3
  go_wp2_with fail
  have As := A5.by4 (b := bx) (by omega) (.int .i64 K3) (.int .i64 0) (.int .i64 0) (.string L3)
  have Ps := P5.by4 (b := bx) (by omega) (.int .i64 K3) (.int .i64 0) (.int .i64 0) (.string L3)
  have Xs := X5.put4 (.int .i64 K3) (.int .i64 0) (.int .i64 0) (.string L3)
  have Ys := Y5.by4 (b := bx) (by omega) (.int .i64 K3) (.int .i64 0) (.int .i64 0) (.string L3)
  have Bs := Lib.hid (below4 (b := bx) B5.out (by omega) (.int .i64 K3) (.int .i64 0) (.int .i64 0) (.string L3))
  generalize ((((w5.setCell ⟨bx, 0, none⟩ (.int .i64 K3)).setCell ⟨bx, 1, none⟩ (.int .i64 0)).setCell ⟨bx, 2, none⟩ (.int .i64 0)).setCell ⟨bx, 3, none⟩ (.string L3)) = W5 at *
  go_at_call 43
  refine (H3.out.2 _).mono ?_
  rintro e w6 ⟨rfl, hb6⟩
  clear a0 a1 a2 a3 la p0 p1 p2 p3 lp x0 x1 x2 x3 lx fx0 fx1 fx2 fx3 y0 y1 y2 y3 ly fy0 fy1 fy2 fy3
  have B6 := Lib.hid (bl_then Bs.out hb6)
  have A6 := As.keep hb6
  have P6 := Ps.keep hb6
  have X6 := Xs.keep hb6
  have Y6 := Ys.keep hb6
  clear hb6 Bs As Ps Xs Ys A5 P5 X5 Y5
  obtain ⟨a0, a1, a2, a3⟩ := A6.four
  have la := A6.lt
  obtain ⟨p0, p1, p2, p3⟩ := P6.four
  have lp := P6.lt
  obtain ⟨x0, x1, x2, x3⟩ := X6.four
  have lx := X6.lt
  obtain ⟨y0, y1, y2, y3⟩ := Y6.four
  have ly := Y6.lt
  have fx0 := X6.free 0
  have fx1 := X6.free 1
  have fx2 := X6.free 2
  have fx3 := X6.free 3
  have fy0 := Y6.free 0
  have fy1 := Y6.free 1
  have fy2 := Y6.free 2
  have fy3 := Y6.free 3
  go_wp2_with fail
  have As := A6.by4 (b := by') (by omega) (.int .i64 K3) (.int .i64 0) (.int .i64 0) (.string L3)
  have Ps := P6.by4 (b := by') (by omega) (.int .i64 K3) (.int .i64 0) (.int .i64 0) (.string L3)
  have Xs := X6.by4 (b := by') (by omega) (.int .i64 K3) (.int .i64 0) (.int .i64 0) (.string L3)
  have Ys := Y6.put4 (.int .i64 K3) (.int .i64 0) (.int .i64 0) (.string L3)
  have Bs := Lib.hid (below4 (b := by') B6.out (by omega) (.int .i64 K3) (.int .i64 0) (.int .i64 0) (.string L3))
  generalize ((((w6.setCell ⟨by', 0, none⟩ (.int .i64 K3)).setCell ⟨by', 1, none⟩ (.int .i64 0)).setCell ⟨by', 2, none⟩ (.int .i64 0)).setCell ⟨by', 3, none⟩ (.string L3)) = W6 at *
  go_at_call 44
  refine (H4.out.1 _).mono ?_
  rintro e w7 ⟨rfl, hb7⟩
  clear a0 a1 a2 a3 la p0 p1 p2 p3 lp x0 x1 x2 x3 lx fx0 fx1 fx2 fx3 y0 y1 y2 y3 ly fy0 fy1 fy2 fy3
  have B7 := Lib.hid (bl_then Bs.out hb7)
  have A7 := As.keep hb7
  have P7 := Ps.keep hb7
  have X7 := Xs.keep hb7
  have Y7 := Ys.keep hb7
  clear hb7 Bs As Ps Xs Ys A6 P6 X6 Y6
  obtain ⟨a0, a1, a2, a3⟩ := A7.four
  have la := A7.lt
  obtain ⟨p0, p1, p2, p3⟩ := P7.four
  have lp := P7.lt
  obtain ⟨x0, x1, x2, x3⟩ := X7.four
  have lx := X7.lt
  obtain ⟨y0, y1, y2, y3⟩ := Y7.four
  have ly := Y7.lt
  have fx0 := X7.free 0
  have fx1 := X7.free 1
  have fx2 := X7.free 2
  have fx3 := X7.free 3
  have fy0 := Y7.free 0
  have fy1 := Y7.free 1
  have fy2 := Y7.free 2
  have fy3 := Y7.free 3
  go_wp2_with fail
  have As := A7.by4 (b := bx) (by omega) (.int .i64 K4) (.int .i64 0) (.int .i64 0) (.string L4)
  have Ps := P7.by4 (b := bx) (by omega) (.int .i64 K4) (.int .i64 0) (.int .i64 0) (.string L4)
  have Xs := X7.put4 (.int .i64 K4) (.int .i64 0) (.int .i64 0) (.string L4)
  have Ys := Y7.by4 (b := bx) (by omega) (.int .i64 K4) (.int .i64 0) (.int .i64 0) (.string L4)
  have Bs := Lib.hid (below4 (b := bx) B7.out (by omega) (.int .i64 K4) (.int .i64 0) (.int .i64 0) (.string L4))
  generalize ((((w7.setCell ⟨bx, 0, none⟩ (.int .i64 K4)).setCell ⟨bx, 1, none⟩ (.int .i64 0)).setCell ⟨bx, 2, none⟩ (.int .i64 0)).setCell ⟨bx, 3, none⟩ (.string L4)) = W7 at *
  go_at_call 45
  refine (H4.out.2 _).mono ?_
  rintro e w8 ⟨rfl, hb8⟩
  clear a0 a1 a2 a3 la p0 p1 p2 p3 lp x0 x1 x2 x3 lx fx0 fx1 fx2 fx3 y0 y1 y2 y3 ly fy0 fy1 fy2 fy3
  have B8 := Lib.hid (bl_then Bs.out hb8)
  have A8 := As.keep hb8
  have P8 := Ps.keep hb8
  have X8 := Xs.keep hb8
  have Y8 := Ys.keep hb8
  clear hb8 Bs As Ps Xs Ys A7 P7 X7 Y7
  obtain ⟨a0, a1, a2, a3⟩ := A8.four
  have la := A8.lt
  obtain ⟨p0, p1, p2, p3⟩ := P8.four
  have lp := P8.lt
  obtain ⟨x0, x1, x2, x3⟩ := X8.four
  have lx := X8.lt
  obtain ⟨y0, y1, y2, y3⟩ := Y8.four
  have ly := Y8.lt
  have fx0 := X8.free 0
  have fx1 := X8.free 1
  have fx2 := X8.free 2
  have fx3 := X8.free 3
  have fy0 := Y8.free 0
  have fy1 := Y8.free 1
  have fy2 := Y8.free 2
  have fy3 := Y8.free 3
  go_wp2_with fail
  have As := A8.by4 (b := by') (by omega) (.int .i64 K4) (.int .i64 0) (.int .i64 0) (.string L4)
  have Ps := P8.by4 (b := by') (by omega) (.int .i64 K4) (.int .i64 0) (.int .i64 0) (.string L4)
  have Xs := X8.by4 (b := by') (by omega) (.int .i64 K4) (.int .i64 0) (.int .i64 0) (.string L4)
  have Ys := Y8.put4 (.int .i64 K4) (.int .i64 0) (.int .i64 0) (.string L4)
  have Bs := Lib.hid (below4 (b := by') B8.out (by omega) (.int .i64 K4) (.int .i64 0) (.int .i64 0) (.string L4))
  generalize ((((w8.setCell ⟨by', 0, none⟩ (.int .i64 K4)).setCell ⟨by', 1, none⟩ (.int .i64 0)).setCell ⟨by', 2, none⟩ (.int .i64 0)).setCell ⟨by', 3, none⟩ (.string L4)) = W8 at *
  go_at_call 46
  refine (H5.out.1 _).mono ?_
  rintro e w9 ⟨rfl, hb9⟩
  clear a0 a1 a2 a3 la p0 p1 p2 p3 lp x0 x1 x2 x3 lx fx0 fx1 fx2 fx3 y0 y1 y2 y3 ly fy0 fy1 fy2 fy3
  have B9 := Lib.hid (bl_then Bs.out hb9)
  have A9 := As.keep hb9
  have P9 := Ps.keep hb9
  have X9 := Xs.keep hb9
  have Y9 := Ys.keep hb9
  clear hb9 Bs As Ps Xs Ys A8 P8 X8 Y8
  obtain ⟨a0, a1, a2, a3⟩ := A9.four
  have la := A9.lt
  obtain ⟨p0, p1, p2, p3⟩ := P9.four
  have lp := P9.lt
  obtain ⟨x0, x1, x2, x3⟩ := X9.four
  have lx := X9.lt
  obtain ⟨y0, y1, y2, y3⟩ := Y9.four
  have ly := Y9.lt
  have fx0 := X9.free 0
  have fx1 := X9.free 1
  have fx2 := X9.free 2
  have fx3 := X9.free 3
  have fy0 := Y9.free 0
  have fy1 := Y9.free 1
  have fy2 := Y9.free 2
  have fy3 := Y9.free 3
  go_wp2_with fail
  go_at_call 47
  refine (H5.out.2 _).mono ?_
  rintro e w10 ⟨rfl, hb10⟩
  clear a0 a1 a2 a3 la p0 p1 p2 p3 lp x0 x1 x2 x3 lx fx0 fx1 fx2 fx3 y0 y1 y2 y3 ly fy0 fy1 fy2 fy3
  have B10 := Lib.hid (bl_then B9.out hb10)
  have A10 := A9.keep hb10
  have P10 := P9.keep hb10
  have X10 := X9.keep hb10
  have Y10 := Y9.keep hb10
  clear hb10 A9 P9 X9 Y9
  obtain ⟨a0, a1, a2, a3⟩ := A10.four
  have la := A10.lt
  obtain ⟨p0, p1, p2, p3⟩ := P10.four
  have lp := P10.lt
  obtain ⟨x0, x1, x2, x3⟩ := X10.four
  have lx := X10.lt
  obtain ⟨y0, y1, y2, y3⟩ := Y10.four
  have ly := Y10.lt
  have fx0 := X10.free 0
  have fx1 := X10.free 1
  have fx2 := X10.free 2
  have fx3 := X10.free 3
  have fy0 := Y10.free 0
  have fy1 := Y10.free 1
  have fy2 := Y10.free 2
  have fy3 := Y10.free 3
  go_wp2_with fail
  go_at_call 48
  refine (H6.out.1 _).mono ?_
  rintro e w11 ⟨rfl, hb11⟩
  clear a0 a1 a2 a3 la p0 p1 p2 p3 lp x0 x1 x2 x3 lx fx0 fx1 fx2 fx3 y0 y1 y2 y3 ly fy0 fy1 fy2 fy3
  have B11 := Lib.hid (bl_then B10.out hb11)
  have A11 := A10.keep hb11
  have P11 := P10.keep hb11
  have X11 := X10.keep hb11
  have Y11 := Y10.keep hb11
  clear hb11 A10 P10 X10 Y10
  obtain ⟨a0, a1, a2, a3⟩ := A11.four
  have la := A11.lt
  obtain ⟨p0, p1, p2, p3⟩ := P11.four
  have lp := P11.lt
  obtain ⟨x0, x1, x2, x3⟩ := X11.four
  have lx := X11.lt
  obtain ⟨y0, y1, y2, y3⟩ := Y11.four
  have ly := Y11.lt
  have fx0 := X11.free 0
  have fx1 := X11.free 1
  have fx2 := X11.free 2
  have fx3 := X11.free 3
  have fy0 := Y11.free 0
  have fy1 := Y11.free 1
  have fy2 := Y11.free 2
  have fy3 := Y11.free 3
  go_wp2_with fail
  go_at_call 49
  refine (H6.out.2 _).mono ?_
  rintro e w12 ⟨rfl, hb12⟩
  clear a0 a1 a2 a3 la p0 p1 p2 p3 lp x0 x1 x2 x3 lx fx0 fx1 fx2 fx3 y0 y1 y2 y3 ly fy0 fy1 fy2 fy3
  have B12 := Lib.hid (bl_then B11.out hb12)
  have A12 := A11.keep hb12
  have P12 := P11.keep hb12
  have X12 := X11.keep hb12
  have Y12 := Y11.keep hb12
  clear hb12 A11 P11 X11 Y11
  obtain ⟨a0, a1, a2, a3⟩ := A12.four
  have la := A12.lt
  obtain ⟨p0, p1, p2, p3⟩ := P12.four
  have lp := P12.lt
  obtain ⟨x0, x1, x2, x3⟩ := X12.four
  have lx := X12.lt
  obtain ⟨y0, y1, y2, y3⟩ := Y12.four
  have ly := Y12.lt
  have fx0 := X12.free 0
  have fx1 := X12.free 1
  have fx2 := X12.free 2
  have fx3 := X12.free 3
  have fy0 := Y12.free 0
  have fy1 := Y12.free 1
  have fy2 := Y12.free 2
  have fy3 := Y12.free 3
  go_wp2_with fail
  go_at_call 50
  refine (H7.out.1 _).mono ?_
  rintro e w13 ⟨rfl, hb13⟩
  clear a0 a1 a2 a3 la p0 p1 p2 p3 lp x0 x1 x2 x3 lx fx0 fx1 fx2 fx3 y0 y1 y2 y3 ly fy0 fy1 fy2 fy3
  have B13 := Lib.hid (bl_then B12.out hb13)
  have A13 := A12.keep hb13
  have P13 := P12.keep hb13
  have X13 := X12.keep hb13
  have Y13 := Y12.keep hb13
  clear hb13 A12 P12 X12 Y12
  obtain ⟨a0, a1, a2, a3⟩ := A13.four
  have la := A13.lt
  obtain ⟨p0, p1, p2, p3⟩ := P13.four
  have lp := P13.lt
  obtain ⟨x0, x1, x2, x3⟩ := X13.four
  have lx := X13.lt
  obtain ⟨y0, y1, y2, y3⟩ := Y13.four
  have ly := Y13.lt
  have fx0 := X13.free 0
  have fx1 := X13.free 1
  have fx2 := X13.free 2
  have fx3 := X13.free 3
  have fy0 := Y13.free 0
  have fy1 := Y13.free 1
  have fy2 := Y13.free 2
  have fy3 := Y13.free 3
  go_wp2_with fail
  have As := A13.by4 (b := bx) (by omega) (.int .i64 K7) (.int .i64 0) (.int .i64 0) (.string L7)
  have Ps := P13.by4 (b := bx) (by omega) (.int .i64 K7) (.int .i64 0) (.int .i64 0) (.string L7)
  have Xs := X13.put4 (.int .i64 K7) (.int .i64 0) (.int .i64 0) (.string L7)
  have Ys := Y13.by4 (b := bx) (by omega) (.int .i64 K7) (.int .i64 0) (.int .i64 0) (.string L7)
  have Bs := Lib.hid (below4 (b := bx) B13.out (by omega) (.int .i64 K7) (.int .i64 0) (.int .i64 0) (.string L7))
  generalize ((((w13.setCell ⟨bx, 0, none⟩ (.int .i64 K7)).setCell ⟨bx, 1, none⟩ (.int .i64 0)).setCell ⟨bx, 2, none⟩ (.int .i64 0)).setCell ⟨bx, 3, none⟩ (.string L7)) = W13 at *
  go_at_call 51
  refine (H7.out.2 _).mono ?_
  rintro e w14 ⟨rfl, hb14⟩
  clear a0 a1 a2 a3 la p0 p1 p2 p3 lp x0 x1 x2 x3 lx fx0 fx1 fx2 fx3 y0 y1 y2 y3 ly fy0 fy1 fy2 fy3
  have B14 := Lib.hid (bl_then Bs.out hb14)
  have A14 := As.keep hb14
  have P14 := Ps.keep hb14
  have X14 := Xs.keep hb14
  have Y14 := Ys.keep hb14
  clear hb14 Bs As Ps Xs Ys A13 P13 X13 Y13
  obtain ⟨a0, a1, a2, a3⟩ := A14.four
  have la := A14.lt
  obtain ⟨p0, p1, p2, p3⟩ := P14.four
  have lp := P14.lt
  obtain ⟨x0, x1, x2, x3⟩ := X14.four
  have lx := X14.lt
  obtain ⟨y0, y1, y2, y3⟩ := Y14.four
  have ly := Y14.lt
  have fx0 := X14.free 0
  have fx1 := X14.free 1
  have fx2 := X14.free 2
  have fx3 := X14.free 3
  have fy0 := Y14.free 0
  have fy1 := Y14.free 1
  have fy2 := Y14.free 2
  have fy3 := Y14.free 3
  go_wp2_with fail
  have As := A14.by4 (b := by') (by omega) (.int .i64 K7) (.int .i64 0) (.int .i64 0) (.string L7)
  have Ps := P14.by4 (b := by') (by omega) (.int .i64 K7) (.int .i64 0) (.int .i64 0) (.string L7)
  have Xs := X14.by4 (b := by') (by omega) (.int .i64 K7) (.int .i64 0) (.int .i64 0) (.string L7)
  have Bs := Lib.hid (below4 (b := by') B14.out (by omega) (.int .i64 K7) (.int .i64 0) (.int .i64 0) (.string L7))
  generalize ((((w14.setCell ⟨by', 0, none⟩ (.int .i64 K7)).setCell ⟨by', 1, none⟩ (.int .i64 0)).setCell ⟨by', 2, none⟩ (.int .i64 0)).setCell ⟨by', 3, none⟩ (.string L7)) = W14 at *
  go_at_call 44
  refine (H8.out _).mono ?_
  rintro e w15 ⟨rfl, hb15⟩
  clear a0 a1 a2 a3 la p0 p1 p2 p3 lp x0 x1 x2 x3 lx fx0 fx1 fx2 fx3 y0 y1 y2 y3 ly fy0 fy1 fy2 fy3
  have B15 := Lib.hid (bl_then Bs.out hb15)
  have A15 := As.keep hb15
  have P15 := Ps.keep hb15
  have X15 := Xs.keep hb15
  clear hb15 Bs As Ps Xs A14 P14 X14 Y14
  obtain ⟨a0, a1, a2, a3⟩ := A15.four
  have la := A15.lt
  obtain ⟨p0, p1, p2, p3⟩ := P15.four
  have lp := P15.lt
  obtain ⟨x0, x1, x2, x3⟩ := X15.four
  have lx := X15.lt
  have fx0 := X15.free 0
  have fx1 := X15.free 1
  have fx2 := X15.free 2
  have fx3 := X15.free 3
  go_wp2_with fail
  go_at_call 44
  refine (H9.out _).mono ?_
  rintro e w16 ⟨rfl, hb16⟩
  clear a0 a1 a2 a3 la p0 p1 p2 p3 lp x0 x1 x2 x3 lx fx0 fx1 fx2 fx3
  have B16 := Lib.hid (bl_box B15.out hb16)
  have A16 := (A15.alloc _).keep hb16
  have P16 := (P15.alloc _).keep hb16
  have U16 := (Row.new w15 (vlC 5 0 0 L8) 23).keep hb16
  have hz_U : w.heap.size ≤ w15.heap.size := B15.out.size
  have h_AU : w.heap.size < w15.heap.size := A15.lt
  have h_PU : w.heap.size + 1 < w15.heap.size := P15.lt
  clear hb16 A15 P15 X15
  generalize w15.heap.size = bu at *
  obtain ⟨a0, a1, a2, a3⟩ := A16.four
  have la := A16.lt
  obtain ⟨p0, p1, p2, p3⟩ := P16.four
  have lp := P16.lt
  obtain ⟨u0, u1, u2, u3⟩ := U16.four
  have lu := U16.lt
  go_wp2_with fail
  go_at_call 44
  refine (H10.out _).mono ?_
  rintro e w17 ⟨rfl, hb17⟩
  clear a0 a1 a2 a3 la p0 p1 p2 p3 lp u0 u1 u2 u3 lu
  have B17 := Lib.hid (bl_box B16.out hb17)
  have P17 := (P16.alloc _).keep hb17
  have U17 := (U16.alloc _).keep hb17
  have V17 := (Row.new w16 (vlC 5 0 0 L9) 23).keep hb17
  have hz_V : w.heap.size ≤ w16.heap.size := B16.out.size
  have h_PV : w.heap.size + 1 < w16.heap.size := P16.lt
  have h_UV : bu < w16.heap.size := U16.lt
  clear hb17 A16 P16 U16
  generalize w16.heap.size = bv at *
  obtain ⟨p0, p1, p2, p3⟩ := P17.four
  have lp := P17.lt
  obtain ⟨u0, u1, u2, u3⟩ := U17.four
  have lu := U17.lt
  obtain ⟨v0, v1, v2, v3⟩ := V17.four
  have lv := V17.lt
  go_wp2_with fail
  go_at_call 40
  refine (H11.out _).mono ?_
  rintro e w18 ⟨rfl, hb18⟩
  clear p0 p1 p2 p3 lp u0 u1 u2 u3 lu v0 v1 v2 v3 lv
  have B18 := Lib.hid (bl_box B17.out hb18)
  have U18 := (U17.alloc _).keep hb18
  have V18 := (V17.alloc _).keep hb18
  have R18 := (Row.new w17 (vlC 5 0 0 L10) 23).keep hb18
  have hz_R : w.heap.size ≤ w17.heap.size := B17.out.size
  have h_UR : bu < w17.heap.size := U17.lt
  have h_VR : bv < w17.heap.size := V17.lt
  clear hb18 P17 U17 V17
  generalize w17.heap.size = br at *
  obtain ⟨u0, u1, u2, u3⟩ := U18.four
  have lu := U18.lt
  obtain ⟨v0, v1, v2, v3⟩ := V18.four
  have lv := V18.lt
  obtain ⟨r0, r1, r2, r3⟩ := R18.four
  have lr := R18.lt
  go_wp2_with fail
  go_at_call 9
  refine (awake_any _).mono ?_
  rintro e w19 ⟨rfl, hb19⟩
  clear u0 u1 u2 u3 lu v0 v1 v2 v3 lv r0 r1 r2 r3 lr
  have B19 := Lib.hid (bl_box B18.out hb19)
  have U19 := (U18.alloc _).keep hb19
  have V19 := (V18.alloc _).keep hb19
  have R19 := (R18.alloc _).keep hb19
  have Q19 := (Row.new w18 (vlC 5 0 0 L8) 23).keep hb19
  have hz_Q : w.heap.size ≤ w18.heap.size := B18.out.size
  have h_UQ : bu < w18.heap.size := U18.lt
  have h_VQ : bv < w18.heap.size := V18.lt
  have h_RQ : br < w18.heap.size := R18.lt
  clear hb19 U18 V18 R18
  generalize w18.heap.size = bq at *
  obtain ⟨u0, u1, u2, u3⟩ := U19.four
  have lu := U19.lt
  obtain ⟨v0, v1, v2, v3⟩ := V19.four
  have lv := V19.lt
  obtain ⟨r0, r1, r2, r3⟩ := R19.four
  have lr := R19.lt
  obtain ⟨q0, q1, q2, q3⟩ := Q19.four
  have lq := Q19.lt
  go_wp2
  go_ret
  exact ⟨ret_bool (by first | rfl | simp), B19.out⟩

theorem pairb_of {F G : Nat} {args : Array Value} {b : Bool} {E : Int} (h1 : ∀ W, Calls Try.prog F args W fun e w' => e = .returned (.tuple #[.bool b, .int .i64 E]) ∧ Below W.heap.size W w')
    (h2 : ∀ W, Calls Try.prog G args W fun e w' => e = .returned (.tuple #[.bool b, .int .i64 E]) ∧ Below W.heap.size W w') : PairB F G args b E := ⟨h1, h2⟩
theorem pair_of {F G : Nat} {args : Array Value} {E k : Int} {l : List UInt8} (h1 : ∀ W, Calls Try.prog F args W fun e w' => e = .returned (.tuple #[orV E k l, .int .i64 E]) ∧ Below W.heap.size W w')
    (h2 : ∀ W, Calls Try.prog G args W fun e w' => e = .returned (.tuple #[orV E k l, .int .i64 E]) ∧ Below W.heap.size W w') :
    Pair F G args (if E = 0 then k else 0) (if E = 0 then bsz l else ⟨#[]⟩) E := ⟨h1, h2⟩
theorem kindE1_of {a : Vl} (h : a.ok = true) (hk : a.k = 5) : kindE1 5 a = 0 := by
  have : a.is 5 = true := by rw [Vl.is, hk]; rfl
  rw [kindE1, h, this]; rfl
theorem kindE2_of {a b : Vl} (h : a.ok = true) (h' : b.ok = true) (hk : a.k = 5) (hk' : b.k = 5) : kindE2 5 a b = 0 := by
  have h1 : a.is 5 = true := by rw [Vl.is, hk]; rfl
  have h2 : b.is 5 = true := by rw [Vl.is, hk']; rfl
  rw [kindE2, h, h', h1, h2]; rfl

theorem bools_any (a b : Vl) (t : ByteArray) (w : World) (hs : a.s.size ≤ maxLen) (hs' : b.s.size ≤ maxLen) (hz : t.size ≤ maxLen) :
    Calls Try.prog 6 #[a.v, b.v, .string t] w fun e w' => e = .returned (.bool true) ∧ Below w.heap.size w w' := by
  by_cases hl : ∀ x ∈ [a, b], x.light = true
  · by_cases ht : t.size ≤ 100
    · have ht5 : t.size ≤ 100000 := by omega
      have t1 := pair_of (fun W => bBool_any a b t W hs hs' hz) (fun W => rBool_any a b t W hs hs' ht5)
      have t2 := pair_of (fun W => bOr_any a b W hs hs') (fun W => rOr_any a b W hs hs')
      have t3 := pair_of (fun W => bXor_any a b W hs hs') (fun W => rXor_any a b W hs hs')
      have t4 := pair_of (fun W => bNot_any a W hs) (fun W => rNot_any a W hs)
      have t5 := pairb_of (fun W => bSome_any a W hs) (fun W => rSome_any a W hs)
      have t6 := pairb_of (fun W => bEvery_any a W hs) (fun W => rEvery_any a W hs)
      have t7 := pair_of (fun W => bAnd_any a b W hs hs') (fun W => rAnd_any a b W hs hs')
      by_cases h7 : kindE2 5 a b = 0
      · obtain ⟨oa, ob, ka, kb⟩ := kindE2_ok h7
        have la := vl_room2 a oa
        have lb := vl_room2 b ob
        have ta : okT 5 a.s.data.toList = true := by have := (okV_eq oa).2.2; rwa [ka] at this
        have tb : okT 5 b.s.data.toList = true := by have := (okV_eq ob).2.2; rwa [kb] at this
        rw [h7] at t7
        by_cases hn : a.s.size = b.s.size
        · have hll : a.s.data.toList.length = b.s.data.toList.length := by rw [lsz, lsz, hn]
          have tj : okT 5 (boolL a.s.data.toList b.s.data.toList tabAnd) = true := boolL_ok ta tb (by decide)
          have tna : okT 5 (notL a.s.data.toList) = true := notL_ok ta
          have tnb : okT 5 (notL b.s.data.toList) = true := notL_ok tb
          have sz : ∀ l : List UInt8, okT 5 l = true → (bsz l).size ≤ maxLen := fun l h => by rw [bsz_size]; have := okT_len h; unfold maxLen; omega
          refine bools_full a b t w hs hs' hl ht _ _ _ _ _ _ _ _ _ _ _ _ _ _ _ _ _ _ _ t1 t2 t3 t4 t7 t5 t6 rfl (by omega) (by omega) hn
            (bsz (notL (boolL a.s.data.toList b.s.data.toList tabAnd))) (bsz (notL a.s.data.toList)) (bsz (notL b.s.data.toList))
            (fun W => (bNot_any ⟨5, 0, 0, bsz (boolL a.s.data.toList b.s.data.toList tabAnd)⟩ W (sz _ tj)).mono fun e w' ⟨he, hb⟩ => ⟨he.trans ?_, hb⟩)
            (fun W => (bNot_any a W hs).mono fun e w' ⟨he, hb⟩ => ⟨he.trans ?_, hb⟩)
            (fun W => (bNot_any b W hs').mono fun e w' ⟨he, hb⟩ => ⟨he.trans ?_, hb⟩)
            (fun W => (bOr_any ⟨5, 0, 0, bsz (notL a.s.data.toList)⟩ ⟨5, 0, 0, bsz (notL b.s.data.toList)⟩ W (sz _ tna) (sz _ tnb)).mono fun e w' ⟨he, hb⟩ => ⟨he.trans ?_, hb⟩)
          · rw [kindE1_of (a := ⟨5, 0, 0, bsz (boolL a.s.data.toList b.s.data.toList tabAnd)⟩) (okV_mk tj) rfl]; rfl
          · rw [kindE1_of oa ka]; rfl
          · rw [kindE1_of ob kb]; rfl
          · rw [kindE2_of (a := ⟨5, 0, 0, bsz (notL a.s.data.toList)⟩) (b := ⟨5, 0, 0, bsz (notL b.s.data.toList)⟩) (okV_mk tna) (okV_mk tnb) rfl rfl]
            show Ending.returned (.tuple #[vlV 5 0 0 (bsz (boolL (notL a.s.data.toList) (notL b.s.data.toList) tabOr)), .int .i64 0]) = _
            rw [← morgan ta tb hll]
        · exact bools_len a b t w hs hs' hl ht _ _ _ _ _ _ _ _ _ _ _ _ _ _ _ _ _ _ _ t1 t2 t3 t4 t7 t5 t6 rfl (by omega) (by omega) hn
      · exact bools_err a b t w hs hs' hl ht _ _ _ _ _ _ _ _ _ _ _ _ _ _ _ _ _ _ _ t1 t2 t3 t4 t7 t5 t6 h7
    · exact bools_long a b t w hs hs' hl ht hz
  · exact bools_dark a b t w hs hs' hl
end Go.Proofs.Ytgoghblfficfpaa
