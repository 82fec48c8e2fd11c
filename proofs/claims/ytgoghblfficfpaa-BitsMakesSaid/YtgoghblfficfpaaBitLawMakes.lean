/- The law BitsMakes, for any three values and number. -/
import Derived.Test.YtgoghblfficfpaaBitRTrans
import Derived.Test.YtgoghblfficfpaaBitTrans
import Derived.Test.YtgoghblfficfpaaBitRMake3
import Derived.Test.YtgoghblfficfpaaBitRest
import Derived.Test.YtgoghblfficfpaaBitAwake
import Derived.Test.YtgoghblfficfpaaBitLawRows
namespace Go.Proofs.Ytgoghblfficfpaa
open Go.RowKit

set_option maxRecDepth 100000 in
set_option maxHeartbeats 16000000 in
theorem makes_dark (a t f : Vl) (n : Int) (w : World) (hs : a.s.size ≤ maxLen) (hs' : t.s.size ≤ maxLen) (hs'' : f.s.size ≤ maxLen) (hl : ¬ ∀ x ∈ [a, t, f], x.light = true) :
    Calls Try.prog 5 #[a.v, t.v, f.v, .int .i64 n] w fun e w' => e = .returned (.bool true) ∧ Below w.heap.size w w' := by
  have HP : Hid (∀ x ∈ [a, t, f], x.s.size ≤ maxLen) := Lib.hid (vl3 hs hs' hs'')
  have hG : Try.prog.eqGuardType Try.prog.depth 23 = false := by kernel_rfl
  have hE := vlEq
  clear hs hs' hs''
  have HL := Lib.hid hl
  clear hl
  go_enter Try.func5, Try.ntmps5
  go_wp2_with (first
    | (go_at_call 8; refine (bLight_no [a, t, f] (w.heap.size + 1 + 1 + 1) 0 3 _ (VlsAt.three (Row.new4 _ _ _ _ _ _)) (by simp) (by simp <;> omega) HP.out HL.out).mono ?_; rintro e w1 ⟨rfl, rfl⟩)
    | (go_at_call 9; refine (awake_any _).mono ?_; rintro e w2 ⟨rfl, hb⟩))
  go_ret
  exact ⟨rfl, bl_four (Below.refl _ w) hb⟩

set_option maxRecDepth 100000 in
set_option maxHeartbeats 16000000 in
theorem makes_err (a t f : Vl) (n : Int) (w : World) (hs : a.s.size ≤ maxLen) (hs' : t.s.size ≤ maxLen) (hs'' : f.s.size ≤ maxLen) (hl : ∀ x ∈ [a, t, f], x.light = true) (K1 : Int) (L1 : ByteArray) (E1 : Int) (K2 : Int) (L2 : ByteArray) (E2 : Int) (K3 : Int) (L3 : ByteArray) (E3 : Int) (K4 : Int) (L4 : ByteArray) (E4 : Int) (K5 : Int) (L5 : ByteArray) (E5 : Int) (K6 : Int) (L6 : ByteArray) (E6 : Int)
    (h1 : Pair 25 26 #[a.v, t.v, f.v] K1 L1 E1)
    (h2 : Pair 27 28 #[a.v, .int .i64 n] K2 L2 E2)
    (h3 : Pair 29 30 #[a.v, .int .i64 n] K3 L3 E3)
    (h4 : Pair 31 32 #[.int .i64 n] K4 L4 E4)
    (h5 : Pair 33 34 #[.int .i64 n] K5 L5 E5)
    (h6 : Pair 35 36 #[a.v, t.v] K6 L6 E6) (hE6 : E6 ≠ 0) :
    Calls Try.prog 5 #[a.v, t.v, f.v, .int .i64 n] w fun e w' => e = .returned (.bool true) ∧ Below w.heap.size w w' := by
  have HP : Hid (∀ x ∈ [a, t, f], x.s.size ≤ maxLen) := Lib.hid (vl3 hs hs' hs'')
  have hG : Try.prog.eqGuardType Try.prog.depth 23 = false := by kernel_rfl
  have hE := vlEq
  clear hs hs' hs''
  have H1 := Lib.hid h1; have H2 := Lib.hid h2; have H3 := Lib.hid h3; have H4 := Lib.hid h4; have H5 := Lib.hid h5; have H6 := Lib.hid h6; have HL := Lib.hid hl
  clear h1 h2 h3 h4 h5 h6 hl
  have e1 : (E6 != 0) = true := by simpa using hE6
  have e2 : (E6 == 0) = false := by simpa using hE6
  clear hE6
  go_enter Try.func5, Try.ntmps5
  have A0 := Row.new w (vlC a.k a.n a.q a.s) 23
  have P0 := Row.new2 w (.cells (vlC a.k a.n a.q a.s) 23) (vlC t.k t.n t.q t.s) 23
  have G0 := Row.new3 w (.cells (vlC a.k a.n a.q a.s) 23) (.cells (vlC t.k t.n t.q t.s) 23) (vlC f.k f.n f.q f.s) 23
  go_wp2_with fail
  go_at_call 8
  refine (bLight_yes [a, t, f] (w.heap.size + 1 + 1 + 1) 0 3 _ (VlsAt.three (Row.new4 _ _ _ _ _ _)) (by simp) (by simp <;> omega) HP.out HL.out).mono ?_
  rintro e wl ⟨rfl, rfl⟩
  go_wp2_with fail
  go_at_call 25
  refine (H1.out.1 _).mono ?_
  rintro e w1 ⟨rfl, hb1⟩
  have B1 := Lib.hid (bl_four (Below.refl _ w) hb1)
  have A1 := (((A0.alloc _).alloc _).alloc _).keep hb1
  have P1 := ((P0.alloc _).alloc _).keep hb1
  have G1 := (G0.alloc _).keep hb1
  clear hb1 A0 P0 G0
  obtain ⟨a0, a1, a2, a3⟩ := A1.four
  have la := A1.lt
  obtain ⟨p0, p1, p2, p3⟩ := P1.four
  have lp := P1.lt
  obtain ⟨g0, g1, g2, g3⟩ := G1.four
  have lg := G1.lt
  go_wp2_with fail
  go_at_call 26
  refine (H1.out.2 _).mono ?_
  rintro e w2 ⟨rfl, hb2⟩
  clear a0 a1 a2 a3 la p0 p1 p2 p3 lp g0 g1 g2 g3 lg
  have B2 := Lib.hid (bl_box B1.out hb2)
  have A2 := (A1.alloc _).keep hb2
  have P2 := (P1.alloc _).keep hb2
  have G2 := (G1.alloc _).keep hb2
  have X2 := (Row.new w1 (vlC K1 0 0 L1) 23).keep hb2
  have hz_X : w.heap.size ≤ w1.heap.size := B1.out.size
  have h_AX : w.heap.size < w1.heap.size := A1.lt
  have h_PX : w.heap.size + 1 < w1.heap.size := P1.lt
  have h_GX : w.heap.size + 1 + 1 < w1.heap.size := G1.lt
  clear hb2 A1 P1 G1
  generalize w1.heap.size = bx at *
  have : ¬ bx = w.heap.size := by omega
  have : ¬ w.heap.size = bx := by omega
  have : ¬ bx = w.heap.size + 1 := by omega
  have : ¬ w.heap.size + 1 = bx := by omega
  have : ¬ bx = w.heap.size + 1 + 1 := by omega
  have : ¬ w.heap.size + 1 + 1 = bx := by omega
  obtain ⟨a0, a1, a2, a3⟩ := A2.four
  have la := A2.lt
  obtain ⟨p0, p1, p2, p3⟩ := P2.four
  have lp := P2.lt
  obtain ⟨g0, g1, g2, g3⟩ := G2.four
  have lg := G2.lt
  obtain ⟨x0, x1, x2, x3⟩ := X2.four
  have lx := X2.lt
  have fx0 := X2.free 0
  have fx1 := X2.free 1
  have fx2 := X2.free 2
  have fx3 := X2.free 3
  go_wp2_with fail
  go_at_call 27
  refine (H2.out.1 _).mono ?_
  rintro e w3 ⟨rfl, hb3⟩
  clear a0 a1 a2 a3 la p0 p1 p2 p3 lp g0 g1 g2 g3 lg x0 x1 x2 x3 lx fx0 fx1 fx2 fx3
  have B3 := Lib.hid (bl_box B2.out hb3)
  have A3 := (A2.alloc _).keep hb3
  have P3 := (P2.alloc _).keep hb3
  have X3 := (X2.alloc _).keep hb3
  have Y3 := (Row.new w2 (vlC K1 0 0 L1) 23).keep hb3
  have hz_Y : w.heap.size ≤ w2.heap.size := B2.out.size
  have h_AY : w.heap.size < w2.heap.size := A2.lt
  have h_PY : w.heap.size + 1 < w2.heap.size := P2.lt
  have h_XY : bx < w2.heap.size := X2.lt
  clear hb3 A2 P2 G2 X2
  generalize w2.heap.size = by' at *
  have : ¬ by' = w.heap.size := by omega
  have : ¬ w.heap.size = by' := by omega
  have : ¬ by' = w.heap.size + 1 := by omega
  have : ¬ w.heap.size + 1 = by' := by omega
  have : ¬ by' = bx := by omega
  have : ¬ bx = by' := by omega
  obtain ⟨a0, a1, a2, a3⟩ := A3.four
  have la := A3.lt
  obtain ⟨p0, p1, p2, p3⟩ := P3.four
  have lp := P3.lt
  obtain ⟨x0, x1, x2, x3⟩ := X3.four
  have lx := X3.lt
  obtain ⟨y0, y1, y2, y3⟩ := Y3.four
  have ly := Y3.lt
  have fx0 := X3.free 0
  have fx1 := X3.free 1
  have fx2 := X3.free 2
  have fx3 := X3.free 3
  have fy0 := Y3.free 0
  have fy1 := Y3.free 1
  have fy2 := Y3.free 2
  have fy3 := Y3.free 3
  go_wp2_with fail
  have As := A3.by4 (b := bx) (by omega) (.int .i64 K2) (.int .i64 0) (.int .i64 0) (.string L2)
  have Ps := P3.by4 (b := bx) (by omega) (.int .i64 K2) (.int .i64 0) (.int .i64 0) (.string L2)
  have Xs := X3.put4 (.int .i64 K2) (.int .i64 0) (.int .i64 0) (.string L2)
  have Ys := Y3.by4 (b := bx) (by omega) (.int .i64 K2) (.int .i64 0) (.int .i64 0) (.string L2)
  have Bs := Lib.hid (below4 (b := bx) B3.out (by omega) (.int .i64 K2) (.int .i64 0) (.int .i64 0) (.string L2))
  generalize ((((w3.setCell ⟨bx, 0, none⟩ (.int .i64 K2)).setCell ⟨bx, 1, none⟩ (.int .i64 0)).setCell ⟨bx, 2, none⟩ (.int .i64 0)).setCell ⟨bx, 3, none⟩ (.string L2)) = W3 at *
  go_at_call 28
  refine (H2.out.2 _).mono ?_
  rintro e w4 ⟨rfl, hb4⟩
  clear a0 a1 a2 a3 la p0 p1 p2 p3 lp x0 x1 x2 x3 lx fx0 fx1 fx2 fx3 y0 y1 y2 y3 ly fy0 fy1 fy2 fy3
  have B4 := Lib.hid (bl_then Bs.out hb4)
  have A4 := As.keep hb4
  have P4 := Ps.keep hb4
  have X4 := Xs.keep hb4
  have Y4 := Ys.keep hb4
  clear hb4 Bs As Ps Xs Ys A3 P3 X3 Y3
  obtain ⟨a0, a1, a2, a3⟩ := A4.four
  have la := A4.lt
  obtain ⟨p0, p1, p2, p3⟩ := P4.four
  have lp := P4.lt
  obtain ⟨x0, x1, x2, x3⟩ := X4.four
  have lx := X4.lt
  obtain ⟨y0, y1, y2, y3⟩ := Y4.four
  have ly := Y4.lt
  have fx0 := X4.free 0
  have fx1 := X4.free 1
  have fx2 := X4.free 2
  have fx3 := X4.free 3
  have fy0 := Y4.free 0
  have fy1 := Y4.free 1
  have fy2 := Y4.free 2
  have fy3 := Y4.free 3
  go_wp2_with fail
  have As := A4.by4 (b := by') (by omega) (.int .i64 K2) (.int .i64 0) (.int .i64 0) (.string L2)
  have Ps := P4.by4 (b := by') (by omega) (.int .i64 K2) (.int .i64 0) (.int .i64 0) (.string L2)
  have Xs := X4.by4 (b := by') (by omega) (.int .i64 K2) (.int .i64 0) (.int .i64 0) (.string L2)
  have Ys := Y4.put4 (.int .i64 K2) (.int .i64 0) (.int .i64 0) (.string L2)
  have Bs := Lib.hid (below4 (b := by') B4.out (by omega) (.int .i64 K2) (.int .i64 0) (.int .i64 0) (.string L2))
  generalize ((((w4.setCell ⟨by', 0, none⟩ (.int .i64 K2)).setCell ⟨by', 1, none⟩ (.int .i64 0)).setCell ⟨by', 2, none⟩ (.int .i64 0)).setCell ⟨by', 3, none⟩ (.string L2)) = W4 at *
  go_at_call 29
  refine (H3.out.1 _).mono ?_
  rintro e w5 ⟨rfl, hb5⟩
  clear a0 a1 a2 a3 la p0 p1 p2 p3 lp x0 x1 x2 x3 lx fx0 fx1 fx2 fx3 y0 y1 y2 y3 ly fy0 fy1 fy2 fy3
  have B5 := Lib.hid (bl_then Bs.out hb5)
  have A5 := As.keep hb5
  have P5 := Ps.keep hb5
  have X5 := Xs.keep hb5
  have Y5 := Ys.keep hb5
  clear hb5 Bs As Ps Xs Ys A4 P4 X4 Y4
  obtain ⟨a0, a1, a2, a3⟩ := A5.four
  have la := A5.lt
  obtain ⟨p0, p1, p2, p3⟩ := P5.four
  have lp := P5.lt
  obtain ⟨x0, x1, x2, x3⟩ := X5.four
  have lx := X5.lt
  obtain ⟨y0, y1, y2, y3⟩ := Y5.four
  have ly := Y5.lt
  have fx0 := X5.free 0
  have fx1 := X5.free 1
  have fx2 := X5.free 2
  have fx3 := X5.free 3
  have fy0 := Y5.free 0
  have fy1 := Y5.free 1
  have fy2 := Y5.free 2
  have fy3 := Y5.free 3
  go_wp2_with fail
  have As := A5.by4 (b := bx) (by omega) (.int .i64 K3) (.int .i64 0) (.int .i64 0) (.string L3)
  have Ps := P5.by4 (b := bx) (by omega) (.int .i64 K3) (.int .i64 0) (.int .i64 0) (.string L3)
  have Xs := X5.put4 (.int .i64 K3) (.int .i64 0) (.int .i64 0) (.string L3)
  have Ys := Y5.by4 (b := bx) (by omega) (.int .i64 K3) (.int .i64 0) (.int .i64 0) (.string L3)
  have Bs := Lib.hid (below4 (b := bx) B5.out (by omega) (.int .i64 K3) (.int .i64 0) (.int .i64 0) (.string L3))
  generalize ((((w5.setCell ⟨bx, 0, none⟩ (.int .i64 K3)).setCell ⟨bx, 1, none⟩ (.int .i64 0)).setCell ⟨bx, 2, none⟩ (.int .i64 0)).setCell ⟨bx, 3, none⟩ (.string L3)) = W5 at *
  go_at_call 30
  refine (H3.out.2 _).mono ?_
  rintro e w6 ⟨rfl, hb6⟩
  clear a0 a1 a2 a3 la p0 p1 p2 p3 lp x0 x1 x2 x3 lx fx0 fx1 fx2 fx3 y0 y1 y2 y3 ly fy0 fy1 fy2 fy3
  have B6 := Lib.hid (bl_then Bs.out hb6)
  have A6 := As.keep hb6
  have P6 := Ps.keep hb6
  have X6 := Xs.keep hb6
  have Y6 := Ys.keep hb6
  clear hb6 Bs As Ps Xs Ys A5 P5 X5 Y5
  obtain ⟨a0, a1, a2, a3⟩ := A6.four
  have la := A6.lt
  obtain ⟨p0, p1, p2, p3⟩ := P6.four
  have lp := P6.lt
  obtain ⟨x0, x1, x2, x3⟩ := X6.four
  have lx := X6.lt
  obtain ⟨y0, y1, y2, y3⟩ := Y6.four
  have ly := Y6.lt
  have fx0 := X6.free 0
  have fx1 := X6.free 1
  have fx2 := X6.free 2
  have fx3 := X6.free 3
  have fy0 := Y6.free 0
  have fy1 := Y6.free 1
  have fy2 := Y6.free 2
  have fy3 := Y6.free 3
  go_wp2_with fail
  have As := A6.by4 (b := by') (by omega) (.int .i64 K3) (.int .i64 0) (.int .i64 0) (.string L3)
  have Ps := P6.by4 (b := by') (by omega) (.int .i64 K3) (.int .i64 0) (.int .i64 0) (.string L3)
  have Xs := X6.by4 (b := by') (by omega) (.int .i64 K3) (.int .i64 0) (.int .i64 0) (.string L3)
  have Ys := Y6.put4 (.int .i64 K3) (.int .i64 0) (.int .i64 0) (.string L3)
  have Bs := Lib.hid (below4 (b := by') B6.out (by omega) (.int .i64 K3) (.int .i64 0) (.int .i64 0) (.string L3))
  generalize ((((w6.setCell ⟨by', 0, none⟩ (.int .i64 K3)).setCell ⟨by', 1, none⟩ (.int .i64 0)).setCell ⟨by', 2, none⟩ (.int .i64 0)).setCell ⟨by', 3, none⟩ (.string L3)) = W6 at *
  go_at_call 31
  refine (H4.out.1 _).mono ?_
  rintro e w7 ⟨rfl, hb7⟩
  clear a0 a1 a2 a3 la p0 p1 p2 p3 lp x0 x1 x2 x3 lx fx0 fx1 fx2 fx3 y0 y1 y2 y3 ly fy0 fy1 fy2 fy3
  have B7 := Lib.hid (bl_then Bs.out hb7)
  have A7 := As.keep hb7
  have P7 := Ps.keep hb7
  have X7 := Xs.keep hb7
  have Y7 := Ys.keep hb7
  clear hb7 Bs As Ps Xs Ys A6 P6 X6 Y6
  obtain ⟨a0, a1, a2, a3⟩ := A7.four
  have la := A7.lt
  obtain ⟨p0, p1, p2, p3⟩ := P7.four
  have lp := P7.lt
  obtain ⟨x0, x1, x2, x3⟩ := X7.four
  have lx := X7.lt
  obtain ⟨y0, y1, y2, y3⟩ := Y7.four
  have ly := Y7.lt
  have fx0 := X7.free 0
  have fx1 := X7.free 1
  have fx2 := X7.free 2
  have fx3 := X7.free 3
  have fy0 := Y7.free 0
  have fy1 := Y7.free 1
  have fy2 := Y7.free 2
  have fy3 := Y7.free 3
  go_wp2_with fail
  have As := A7.by4 (b := bx) (by omega) (.int .i64 K4) (.int .i64 0) (.int .i64 0) (.string L4)
  have Ps := P7.by4 (b := bx) (by omega) (.int .i64 K4) (.int .i64 0) (.int .i64 0) (.string L4)
  have Xs := X7.put4 (.int .i64 K4) (.int .i64 0) (.int .i64 0) (.string L4)
  have Ys := Y7.by4 (b := bx) (by omega) (.int .i64 K4) (.int .i64 0) (.int .i64 0) (.string L4)
  have Bs := Lib.hid (below4 (b := bx) B7.out (by omega) (.int .i64 K4) (.int .i64 0) (.int .i64 0) (.string L4))
  generalize ((((w7.setCell ⟨bx, 0, none⟩ (.int .i64 K4)).setCell ⟨bx, 1, none⟩ (.int .i64 0)).setCell ⟨bx, 2, none⟩ (.int .i64 0)).setCell ⟨bx, 3, none⟩ (.string L4)) = W7 at *
  go_at_call 32
  refine (H4.out.2 _).mono ?_
  rintro e w8 ⟨rfl, hb8⟩
  clear a0 a1 a2 a3 la p0 p1 p2 p3 lp x0 x1 x2 x3 lx fx0 fx1 fx2 fx3 y0 y1 y2 y3 ly fy0 fy1 fy2 fy3
  have B8 := Lib.hid (bl_then Bs.out hb8)
  have A8 := As.keep hb8
  have P8 := Ps.keep hb8
  have X8 := Xs.keep hb8
  have Y8 := Ys.keep hb8
  clear hb8 Bs As Ps Xs Ys A7 P7 X7 Y7
  obtain ⟨a0, a1, a2, a3⟩ := A8.four
  have la := A8.lt
  obtain ⟨p0, p1, p2, p3⟩ := P8.four
  have lp := P8.lt
  obtain ⟨x0, x1, x2, x3⟩ := X8.four
  have lx := X8.lt
  obtain ⟨y0, y1, y2, y3⟩ := Y8.four
  have ly := Y8.lt
  have fx0 := X8.free 0
  have fx1 := X8.free 1
  have fx2 := X8.free 2
  have fx3 := X8.free 3
  have fy0 := Y8.free 0
  have fy1 := Y8.free 1
  have fy2 := Y8.free 2
  have fy3 := Y8.free 3
  go_wp2_with fail
  have As := A8.by4 (b := by') (by omega) (.int .i64 K4) (.int .i64 0) (.int .i64 0) (.string L4)
  have Ps := P8.by4 (b := by') (by omega) (.int .i64 K4) (.int .i64 0) (.int .i64 0) (.string L4)
  have Xs := X8.by4 (b := by') (by omega) (.int .i64 K4) (.int .i64 0) (.int .i64 0) (.string L4)
  have Ys := Y8.put4 (.int .i64 K4) (.int .i64 0) (.int .i64 0) (.string L4)
  have Bs := Lib.hid (below4 (b := by') B8.out (by omega) (.int .i64 K4) (.int .i64 0) (.int .i64 0) (.string L4))
  generalize ((((w8.setCell ⟨by', 0, none⟩ (.int .i64 K4)).setCell ⟨by', 1, none⟩ (.int .i64 0)).setCell ⟨by', 2, none⟩ (.int .i64 0)).setCell ⟨by', 3, none⟩ (.string L4)) = W8 at *
  go_at_call 33
  refine (H5.out.1 _).mono ?_
  rintro e w9 ⟨rfl, hb9⟩
  clear a0 a1 a2 a3 la p0 p1 p2 p3 lp x0 x1 x2 x3 lx fx0 fx1 fx2 fx3 y0 y1 y2 y3 ly fy0 fy1 fy2 fy3
  have B9 := Lib.hid (bl_then Bs.out hb9)
  have A9 := As.keep hb9
  have P9 := Ps.keep hb9
  have X9 := Xs.keep hb9
  have Y9 := Ys.keep hb9
  clear hb9 Bs As Ps Xs Ys A8 P8 X8 Y8
  obtain ⟨a0, a1, a2, a3⟩ := A9.four
  have la := A9.lt
  obtain ⟨p0, p1, p2, p3⟩ := P9.four
  have lp := P9.lt
  obtain ⟨x0, x1, x2, x3⟩ := X9.four
  have lx := X9.lt
  obtain ⟨y0, y1, y2, y3⟩ := Y9.four
  have ly := Y9.lt
  have fx0 := X9.free 0
  have fx1 := X9.free 1
  have fx2 := X9.free 2
  have fx3 := X9.free 3
  have fy0 := Y9.free 0
  have fy1 := Y9.free 1
  have fy2 := Y9.free 2
  have fy3 := Y9.free 3
  go_wp2_with fail
  have As := A9.by4 (b := bx) (by omega) (.int .i64 K5) (.int .i64 0) (.int .i64 0) (.string L5)
  have Ps := P9.by4 (b := bx) (by omega) (.int .i64 K5) (.int .i64 0) (.int .i64 0) (.string L5)
  have Xs := X9.put4 (.int .i64 K5) (.int .i64 0) (.int .i64 0) (.string L5)
  have Ys := Y9.by4 (b := bx) (by omega) (.int .i64 K5) (.int .i64 0) (.int .i64 0) (.string L5)
  have Bs := Lib.hid (below4 (b := bx) B9.out (by omega) (.int .i64 K5) (.int .i64 0) (.int .i64 0) (.string L5))
  generalize ((((w9.setCell ⟨bx, 0, none⟩ (.int .i64 K5)).setCell ⟨bx, 1, none⟩ (.int .i64 0)).setCell ⟨bx, 2, none⟩ (.int .i64 0)).setCell ⟨bx, 3, none⟩ (.string L5)) = W9 at *
  go_at_call 34
  refine (H5.out.2 _).mono ?_
  rintro e w10 ⟨rfl, hb10⟩
  clear a0 a1 a2 a3 la p0 p1 p2 p3 lp x0 x1 x2 x3 lx fx0 fx1 fx2 fx3 y0 y1 y2 y3 ly fy0 fy1 fy2 fy3
  have B10 := Lib.hid (bl_then Bs.out hb10)
  have A10 := As.keep hb10
  have P10 := Ps.keep hb10
  have X10 := Xs.keep hb10
  have Y10 := Ys.keep hb10
  clear hb10 Bs As Ps Xs Ys A9 P9 X9 Y9
  obtain ⟨a0, a1, a2, a3⟩ := A10.four
  have la := A10.lt
  obtain ⟨p0, p1, p2, p3⟩ := P10.four
  have lp := P10.lt
  obtain ⟨x0, x1, x2, x3⟩ := X10.four
  have lx := X10.lt
  obtain ⟨y0, y1, y2, y3⟩ := Y10.four
  have ly := Y10.lt
  have fx0 := X10.free 0
  have fx1 := X10.free 1
  have fx2 := X10.free 2
  have fx3 := X10.free 3
  have fy0 := Y10.free 0
  have fy1 := Y10.free 1
  have fy2 := Y10.free 2
  have fy3 := Y10.free 3
  go_wp2_with fail
  have As := A10.by4 (b := by') (by omega) (.int .i64 K5) (.int .i64 0) (.int .i64 0) (.string L5)
  have Ps := P10.by4 (b := by') (by omega) (.int .i64 K5) (.int .i64 0) (.int .i64 0) (.string L5)
  have Xs := X10.by4 (b := by') (by omega) (.int .i64 K5) (.int .i64 0) (.int .i64 0) (.string L5)
  have Ys := Y10.put4 (.int .i64 K5) (.int .i64 0) (.int .i64 0) (.string L5)
  have Bs := Lib.hid (below4 (b := by') B10.out (by omega) (.int .i64 K5) (.int .i64 0) (.int .i64 0) (.string L5))
  generalize ((((w10.setCell ⟨by', 0, none⟩ (.int .i64 K5)).setCell ⟨by', 1, none⟩ (.int .i64 0)).setCell ⟨by', 2, none⟩ (.int .i64 0)).setCell ⟨by', 3, none⟩ (.string L5)) = W10 at *
  go_at_call 35
  refine (H6.out.1 _).mono ?_
  rintro e w11 ⟨rfl, hb11⟩
  clear a0 a1 a2 a3 la p0 p1 p2 p3 lp x0 x1 x2 x3 lx fx0 fx1 fx2 fx3 y0 y1 y2 y3 ly fy0 fy1 fy2 fy3
  have B11 := Lib.hid (bl_then Bs.out hb11)
  have A11 := As.keep hb11
  have P11 := Ps.keep hb11
  have X11 := Xs.keep hb11
  have Y11 := Ys.keep hb11
  clear hb11 Bs As Ps Xs Ys A10 P10 X10 Y10
  obtain ⟨a0, a1, a2, a3⟩ := A11.four
  have la := A11.lt
  obtain ⟨p0, p1, p2, p3⟩ := P11.four
  have lp := P11.lt
  obtain ⟨x0, x1, x2, x3⟩ := X11.four
  have lx := X11.lt
  obtain ⟨y0, y1, y2, y3⟩ := Y11.four
  have ly := Y11.lt
  have fx0 := X11.free 0
  have fx1 := X11.free 1
  have fx2 := X11.free 2
  have fx3 := X11.free 3
  have fy0 := Y11.free 0
  have fy1 := Y11.free 1
  have fy2 := Y11.free 2
  have fy3 := Y11.free 3
  go_wp2_with fail
  have As := A11.by4 (b := bx) (by omega) (.int .i64 K6) (.int .i64 0) (.int .i64 0) (.string L6)
  have Ps := P11.by4 (b := bx) (by omega) (.int .i64 K6) (.int .i64 0) (.int .i64 0) (.string L6)
  have Xs := X11.put4 (.int .i64 K6) (.int .i64 0) (.int .i64 0) (.string L6)
  have Ys := Y11.by4 (b := bx) (by omega) (.int .i64 K6) (.int .i64 0) (.int .i64 0) (.string L6)
  have Bs := Lib.hid (below4 (b := bx) B11.out (by omega) (.int .i64 K6) (.int .i64 0) (.int .i64 0) (.string L6))
  generalize ((((w11.setCell ⟨bx, 0, none⟩ (.int .i64 K6)).setCell ⟨bx, 1, none⟩ (.int .i64 0)).setCell ⟨bx, 2, none⟩ (.int .i64 0)).setCell ⟨bx, 3, none⟩ (.string L6)) = W11 at *
  go_at_call 36
  refine (H6.out.2 _).mono ?_
  rintro e w12 ⟨rfl, hb12⟩
  clear a0 a1 a2 a3 la p0 p1 p2 p3 lp x0 x1 x2 x3 lx fx0 fx1 fx2 fx3 y0 y1 y2 y3 ly fy0 fy1 fy2 fy3
  have B12 := Lib.hid (bl_then Bs.out hb12)
  have A12 := As.keep hb12
  have P12 := Ps.keep hb12
  have X12 := Xs.keep hb12
  have Y12 := Ys.keep hb12
  clear hb12 Bs As Ps Xs Ys A11 P11 X11 Y11
  obtain ⟨a0, a1, a2, a3⟩ := A12.four
  have la := A12.lt
  obtain ⟨p0, p1, p2, p3⟩ := P12.four
  have lp := P12.lt
  obtain ⟨x0, x1, x2, x3⟩ := X12.four
  have lx := X12.lt
  obtain ⟨y0, y1, y2, y3⟩ := Y12.four
  have ly := Y12.lt
  have fx0 := X12.free 0
  have fx1 := X12.free 1
  have fx2 := X12.free 2
  have fx3 := X12.free 3
  have fy0 := Y12.free 0
  have fy1 := Y12.free 1
  have fy2 := Y12.free 2
  have fy3 := Y12.free 3
  go_wp2_with fail
  have Bs := Lib.hid (below4 (b := by') B12.out (by omega) (.int .i64 K6) (.int .i64 0) (.int .i64 0) (.string L6))
  generalize ((((w12.setCell ⟨by', 0, none⟩ (.int .i64 K6)).setCell ⟨by', 1, none⟩ (.int .i64 0)).setCell ⟨by', 2, none⟩ (.int .i64 0)).setCell ⟨by', 3, none⟩ (.string L6)) = W12 at *
  go_at_call 9
  refine (awake_any _).mono ?_
  rintro e w13 ⟨rfl, hb13⟩
  clear a0 a1 a2 a3 la p0 p1 p2 p3 lp x0 x1 x2 x3 lx fx0 fx1 fx2 fx3 y0 y1 y2 y3 ly fy0 fy1 fy2 fy3
  have B13 := Lib.hid (bl_then Bs.out hb13)
  clear hb13 Bs  A12 P12 X12 Y12
  go_wp2
  go_ret
  exact ⟨rfl, B13.out⟩

set_option maxRecDepth 100000 in
set_option maxHeartbeats 16000000 in
theorem makes_full (K6 : Int) (s t : ByteArray) (f : Vl) (n : Int) (w : World) (hs : s.size ≤ maxLen) (hs' : t.size ≤ maxLen) (hs'' : f.s.size ≤ maxLen) (hl : ∀ x ∈ ([⟨K6, 0, 0, s⟩, ⟨K6, 0, 0, t⟩, f] : List Vl), x.light = true) (K1 : Int) (L1 : ByteArray) (E1 : Int) (K2 : Int) (L2 : ByteArray) (E2 : Int) (K3 : Int) (L3 : ByteArray) (E3 : Int) (K4 : Int) (L4 : ByteArray) (E4 : Int) (K5 : Int) (L5 : ByteArray) (E5 : Int) (L6 : ByteArray) (E6 : Int) (L9 L10 L11 : ByteArray)
    (h1 : Pair 25 26 #[vlV K6 0 0 s, vlV K6 0 0 t, f.v] K1 L1 E1)
    (h2 : Pair 27 28 #[vlV K6 0 0 s, .int .i64 n] K2 L2 E2)
    (h3 : Pair 29 30 #[vlV K6 0 0 s, .int .i64 n] K3 L3 E3)
    (h4 : Pair 31 32 #[.int .i64 n] K4 L4 E4)
    (h5 : Pair 33 34 #[.int .i64 n] K5 L5 E5)
    (h6 : Pair 35 36 #[vlV K6 0 0 s, vlV K6 0 0 t] K6 L6 E6) (hE6 : E6 = 0) (hz : s.size ≤ 1000)
    (h7 : ∀ W, Calls Try.prog 10 #[vlV K6 0 0 L6, .int .i64 1, .int .i64 s.size] W fun e w' => e = .returned (.tuple #[vlV K6 0 0 s, .int .i64 0, .int .i64 0]) ∧ Below W.heap.size W w')
    (h8 : ∀ W, Calls Try.prog 12 #[vlV K6 0 0 L6, .int .i64 ((s.size : Int) + 1)] W fun e w' => e = .returned (.tuple #[vlV K6 0 0 t, .int .i64 0, .int .i64 0]) ∧ Below W.heap.size W w')
    (h9 : ∀ W, Calls Try.prog 37 #[vlV K6 0 0 L6] W fun e w' => e = .returned (.tuple #[vlV K6 0 0 L9, .int .i64 0]) ∧ Below W.heap.size W w')
    (h10 : ∀ W, Calls Try.prog 37 #[vlV K6 0 0 t] W fun e w' => e = .returned (.tuple #[vlV K6 0 0 L10, .int .i64 0]) ∧ Below W.heap.size W w')
    (h11 : ∀ W, Calls Try.prog 37 #[vlV K6 0 0 s] W fun e w' => e = .returned (.tuple #[vlV K6 0 0 L11, .int .i64 0]) ∧ Below W.heap.size W w')
    (h12 : ∀ W, Calls Try.prog 35 #[vlV K6 0 0 L10, vlV K6 0 0 L11] W fun e w' => e = .returned (.tuple #[vlV K6 0 0 L9, .int .i64 0]) ∧ Below W.heap.size W w') :
    Calls Try.prog 5 #[vlV K6 0 0 s, vlV K6 0 0 t, f.v, .int .i64 n] w fun e w' => e = .returned (.bool true) ∧ Below w.heap.size w w' := by
  subst hE6
  have HP : Hid (∀ x ∈ ([⟨K6, 0, 0, s⟩, ⟨K6, 0, 0, t⟩, f] : List Vl), x.s.size ≤ maxLen) := Lib.hid (vl3 (p := fun x : Vl => x.s.size ≤ maxLen) hs hs' hs'')
  have hG : Try.prog.eqGuardType Try.prog.depth 23 = false := by kernel_rfl
  have hE := vlEq
  clear hs hs' hs''
  have H1 := Lib.hid h1; have H2 := Lib.hid h2; have H3 := Lib.hid h3; have H4 := Lib.hid h4; have H5 := Lib.hid h5; have H6 := Lib.hid h6; have H7 := Lib.hid h7; have H8 := Lib.hid h8; have H9 := Lib.hid h9; have H10 := Lib.hid h10; have H11 := Lib.hid h11; have H12 := Lib.hid h12; have HL := Lib.hid hl
  clear h1 h2 h3 h4 h5 h6 h7 h8 h9 h10 h11 h12 hl
  have hw1 : IntKind.i64.wrap ((s.size : Int) + 1) = (s.size : Int) + 1 := IntWalk.i64_in _ (by omega)
  go_enter Try.func5, Try.ntmps5
  have A0 := Row.new w (vlC K6 0 0 s) 23
  have P0 := Row.new2 w (.cells (vlC K6 0 0 s) 23) (vlC K6 0 0 t) 23
  have G0 := Row.new3 w (.cells (vlC K6 0 0 s) 23) (.cells (vlC K6 0 0 t) 23) (vlC f.k f.n f.q f.s) 23
  go_wp2_with fail
  go_at_call 8
  refine (bLight_yes ([⟨K6, 0, 0, s⟩, ⟨K6, 0, 0, t⟩, f] : List Vl) (w.heap.size + 1 + 1 + 1) 0 3 _ (VlsAt.three (Row.new4 _ _ _ _ _ _)) (by simp) (by simp <;> omega) HP.out HL.out).mono ?_
  rintro e wl ⟨rfl, rfl⟩
  go_wp2_with fail
  go_at_call 25
  refine (H1.out.1 _).mono ?_
  rintro e w1 ⟨rfl, hb1⟩
  have B1 := Lib.hid (bl_four (Below.refl _ w) hb1)
  have A1 := (((A0.alloc _).alloc _).alloc _).keep hb1
  have P1 := ((P0.alloc _).alloc _).keep hb1
  have G1 := (G0.alloc _).keep hb1
  clear hb1 A0 P0 G0
  obtain ⟨a0, a1, a2, a3⟩ := A1.four
  have la := A1.lt
  obtain ⟨p0, p1, p2, p3⟩ := P1.four
  have lp := P1.lt
  obtain ⟨g0, g1, g2, g3⟩ := G1.four
  have lg := G1.lt
  go_wp2_with fail
  go_at_call 26
  refine (H1.out.2 _).mono ?_
  rintro e w2 ⟨rfl, hb2⟩
  clear a0 a1 a2 a3 la p0 p1 p2 p3 lp g0 g1 g2 g3 lg
  have B2 := Lib.hid (bl_box B1.out hb2)
  have A2 := (A1.alloc _).keep hb2
  have P2 := (P1.alloc _).keep hb2
  have G2 := (G1.alloc _).keep hb2
  have X2 := (Row.new w1 (vlC K1 0 0 L1) 23).keep hb2
  have hz_X : w.heap.size ≤ w1.heap.size := B1.out.size
  have h_AX : w.heap.size < w1.heap.size := A1.lt
  have h_PX : w.heap.size + 1 < w1.heap.size := P1.lt
  have h_GX : w.heap.size + 1 + 1 < w1.heap.size := G1.lt
  clear hb2 A1 P1 G1
  generalize w1.heap.size = bx at *
  have : ¬ bx = w.heap.size := by omega
  have : ¬ w.heap.size = bx := by omega
  have : ¬ bx = w.heap.size + 1 := by omega
  have : ¬ w.heap.size + 1 = bx := by omega
  have : ¬ bx = w.heap.size + 1 + 1 := by omega
  have : ¬ w.heap.size + 1 + 1 = bx := by omega
  obtain ⟨a0, a1, a2, a3⟩ := A2.four
  have la := A2.lt
  obtain ⟨p0, p1, p2, p3⟩ := P2.four
  have lp := P2.lt
  obtain ⟨g0, g1, g2, g3⟩ := G2.four
  have lg := G2.lt
  obtain ⟨x0, x1, x2, x3⟩ := X2.four
  have lx := X2.lt
  have fx0 := X2.free 0
  have fx1 := X2.free 1
  have fx2 := X2.free 2
  have fx3 := X2.free 3
  go_wp2_with fail
  go_at_call 27
  refine (H2.out.1 _).mono ?_
  rintro e w3 ⟨rfl, hb3⟩
  clear a0 a1 a2 a3 la p0 p1 p2 p3 lp g0 g1 g2 g3 lg x0 x1 x2 x3 lx fx0 fx1 fx2 fx3
  have B3 := Lib.hid (bl_box B2.out hb3)
  have A3 := (A2.alloc _).keep hb3
  have P3 := (P2.alloc _).keep hb3
  have X3 := (X2.alloc _).keep hb3
  have Y3 := (Row.new w2 (vlC K1 0 0 L1) 23).keep hb3
  have hz_Y : w.heap.size ≤ w2.heap.size := B2.out.size
  have h_AY : w.heap.size < w2.heap.size := A2.lt
  have h_PY : w.heap.size + 1 < w2.heap.size := P2.lt
  have h_XY : bx < w2.heap.size := X2.lt
  clear hb3 A2 P2 G2 X2
  generalize w2.heap.size = by' at *
  have : ¬ by' = w.heap.size := by omega
  have : ¬ w.heap.size = by' := by omega
  have : ¬ by' = w.heap.size + 1 := by omega
  have : ¬ w.heap.size + 1 = by' := by omega
  have : ¬ by' = bx := by omega
  have : ¬ bx = by' := by omega
  obtain ⟨a0, a1, a2, a3⟩ := A3.four
  have la := A3.lt
  obtain ⟨p0, p1, p2, p3⟩ := P3.four
  have lp := P3.lt
  obtain ⟨x0, x1, x2, x3⟩ := X3.four
  have lx := X3.lt
  obtain ⟨y0, y1, y2, y3⟩ := Y3.four
  have ly := Y3.lt
  have fx0 := X3.free 0
  have fx1 := X3.free 1
  have fx2 := X3.free 2
  have fx3 := X3.free 3
  have fy0 := Y3.free 0
  have fy1 := Y3.free 1
  have fy2 := Y3.free 2
  have fy3 := Y3.free 3
  go_wp2_with fail
  have As := A3.by4 (b := bx) (by omega) (.int .i64 K2) (.int .i64 0) (.int .i64 0) (.string L2)
  have Ps := P3.by4 (b := bx) (by omega) (.int .i64 K2) (.int .i64 0) (.int .i64 0) (.string L2)
  have Xs := X3.put4 (.int .i64 K2) (.int .i64 0) (.int .i64 0) (.string L2)
  have Ys := Y3.by4 (b := bx) (by omega) (.int .i64 K2) (.int .i64 0) (.int .i64 0) (.string L2)
  have Bs := Lib.hid (below4 (b := bx) B3.out (by omega) (.int .i64 K2) (.int .i64 0) (.int .i64 0) (.string L2))
  generalize ((((w3.setCell ⟨bx, 0, none⟩ (.int .i64 K2)).setCell ⟨bx, 1, none⟩ (.int .i64 0)).setCell ⟨bx, 2, none⟩ (.int .i64 0)).setCell ⟨bx, 3, none⟩ (.string L2)) = W3 at *
  go_at_call 28
  refine (H2.out.2 _).mono ?_
  rintro e w4 ⟨rfl, hb4⟩
  clear a0 a1 a2 a3 la p0 p1 p2 p3 lp x0 x1 x2 x3 lx fx0 fx1 fx2 fx3 y0 y1 y2 y3 ly fy0 fy1 fy2 fy3
  have B4 := Lib.hid (bl_then Bs.out hb4)
  have A4 := As.keep hb4
  have P4 := Ps.keep hb4
  have X4 := Xs.keep hb4
  have Y4 := Ys.keep hb4
  clear hb4 Bs As Ps Xs Ys A3 P3 X3 Y3
  obtain ⟨a0, a1, a2, a3⟩ := A4.four
  have la := A4.lt
  obtain ⟨p0, p1, p2, p3⟩ := P4.four
  have lp := P4.lt
  obtain ⟨x0, x1, x2, x3⟩ := X4.four
  have lx := X4.lt
  obtain ⟨y0, y1, y2, y3⟩ := Y4.four
  have ly := Y4.lt
  have fx0 := X4.free 0
  have fx1 := X4.free 1
  have fx2 := X4.free 2
  have fx3 := X4.free 3
  have fy0 := Y4.free 0
  have fy1 := Y4.free 1
  have fy2 := Y4.free 2
  have fy3 := Y4.free 3
  go_wp2_with fail
  have As := A4.by4 (b := by') (by omega) (.int .i64 K2) (.int .i64 0) (.int .i64 0) (.string L2)
  have Ps := P4.by4 (b := by') (by omega) (.int .i64 K2) (.int .i64 0) (.int .i64 0) (.string L2)
  have Xs := X4.by4 (b := by') (by omega) (.int .i64 K2) (.int .i64 0) (.int .i64 0) (.string L2)
  have Ys := Y4.put4 (.int .i64 K2) (.int .i64 0) (.int .i64 0) (.string L2)
  have Bs := Lib.hid (below4 (b := by') B4.out (by omega) (.int .i64 K2) (.int .i64 0) (.int .i64 0) (.string L2))
  generalize ((((w4.setCell ⟨by', 0, none⟩ (.int .i64 K2)).setCell ⟨by', 1, none⟩ (.int .i64 0)).setCell ⟨by', 2, none⟩ (.int .i64 0)).setCell ⟨by', 3, none⟩ (.string L2)) = W4 at *
  go_at_call 29
  refine (H3.out.1 _).mono ?_
  rintro e w5 ⟨rfl, hb5⟩
  clear a0 a1 a2 a3 la p0 p1 p2 p3 lp x0 x1 x2 x3 lx fx0 fx1 fx2 fx3 y0 y1 y2 y3 ly fy0 fy1 fy2 fy3
  have B5 := Lib.hid (bl_then Bs.out hb5)
  have A5 := As.keep hb5
  have P5 := Ps.keep hb5
  have X5 := Xs.keep hb5
  have Y5 := Ys.keep hb5
  clear hb5 Bs As Ps Xs Ys A4 P4 X4 Y4
  obtain ⟨a0, a1, a2, a3⟩ := A5.four
  have la := A5.lt
  obtain ⟨p0, p1, p2, p3⟩ := P5.four
  have lp := P5.lt
  obtain ⟨x0, x1, x2, x3⟩ := X5.four
  have lx := X5.lt
  obtain ⟨y0, y1, y2, y3⟩ := Y5.four
  have ly := Y5.lt
  have fx0 := X5.free 0
  have fx1 := X5.free 1
  have fx2 := X5.free 2
  have fx3 := X5.free 3
  have fy0 := Y5.free 0
  have fy1 := Y5.free 1
  have fy2 := Y5.free 2
  have fy3 := Y5.free 3
  go_wp2_with fail
  have As := A5.by4 (b := bx) (by omega) (.int .i64 K3) (.int .i64 0) (.int .i64 0) (.string L3)
  have Ps := P5.by4 (b := bx) (by omega) (.int .i64 K3) (.int .i64 0) (.int .i64 0) (.string L3)
  have Xs := X5.put4 (.int .i64 K3) (.int .i64 0) (.int .i64 0) (.string L3)
  have Ys := Y5.by4 (b := bx) (by omega) (.int .i64 K3) (.int .i64 0) (.int .i64 0) (.string L3)
  have Bs := Lib.hid (below4 (b := bx) B5.out (by omega) (.int .i64 K3) (.int .i64 0) (.int .i64 0) (.string L3))
  generalize ((((w5.setCell ⟨bx, 0, none⟩ (.int .i64 K3)).setCell ⟨bx, 1, none⟩ (.int .i64 0)).setCell ⟨bx, 2, none⟩ (.int .i64 0)).setCell ⟨bx, 3, none⟩ (.string L3)) = W5 at *
  go_at_call 30
  refine (H3.out.2 _).mono ?_
  rintro e w6 ⟨rfl, hb6⟩
  clear a0 a1 a2 a3 la p0 p1 p2 p3 lp x0 x1 x2 x3 lx fx0 fx1 fx2 fx3 y0 y1 y2 y3 ly fy0 fy1 fy2 fy3
  have B6 := Lib.hid (bl_then Bs.out hb6)
  have A6 := As.keep hb6
  have P6 := Ps.keep hb6
  have X6 := Xs.keep hb6
  have Y6 := Ys.keep hb6
  clear hb6 Bs As Ps Xs Ys A5 P5 X5 Y5
  obtain ⟨a0, a1, a2, a3⟩ := A6.four
  have la := A6.lt
  obtain ⟨p0, p1, p2, p3⟩ := P6.four
  have lp := P6.lt
  obtain ⟨x0, x1, x2, x3⟩ := X6.four
  have lx := X6.lt
  obtain ⟨y0, y1, y2, y3⟩ := Y6.four
  have ly := Y6.lt
  have fx0 := X6.free 0
  have fx1 := X6.free 1
  have fx2 := X6.free 2
  have fx3 := X6.free 3
  have fy0 := Y6.free 0
  have fy1 := Y6.free 1
  have fy2 := Y6.free 2
  have fy3 := Y6.free 3
  go_wp2_with fail
  have As := A6.by4 (b := by') (by omega) (.int .i64 K3) (.int .i64 0) (.int .i64 0) (.string L3)
  have Ps := P6.by4 (b := by') (by omega) (.int .i64 K3) (.int .i64 0) (.int .i64 0) (.string L3)
  have Xs := X6.by4 (b := by') (by omega) (.int .i64 K3) (.int .i64 0) (.int .i64 0) (.string L3)
  have Ys := Y6.put4 (.int .i64 K3) (.int .i64 0) (.int .i64 0) (.string L3)
  have Bs := Lib.hid (below4 (b := by') B6.out (by omega) (.int .i64 K3) (.int .i64 0) (.int .i64 0) (.string L3))
  generalize ((((w6.setCell ⟨by', 0, none⟩ (.int .i64 K3)).setCell ⟨by', 1, none⟩ (.int .i64 0)).setCell ⟨by', 2, none⟩ (.int .i64 0)).setCell ⟨by', 3, none⟩ (.string L3)) = W6 at *
  go_at_call 31
  refine (H4.out.1 _).mono ?_
  rintro e w7 ⟨rfl, hb7⟩
  clear a0 a1 a2 a3 la p0 p1 p2 p3 lp x0 x1 x2 x3 lx fx0 fx1 fx2 fx3 y0 y1 y2 y3 ly fy0 fy1 fy2 fy3
  have B7 := Lib.hid (bl_then Bs.out hb7)
  have A7 := As.keep hb7
  have P7 := Ps.keep hb7
  have X7 := Xs.keep hb7
  have Y7 := Ys.keep hb7
  clear hb7 Bs As Ps Xs Ys A6 P6 X6 Y6
  obtain ⟨a0, a1, a2, a3⟩ := A7.four
  have la := A7.lt
  obtain ⟨p0, p1, p2, p3⟩ := P7.four
  have lp := P7.lt
  obtain ⟨x0, x1, x2, x3⟩ := X7.four
  have lx := X7.lt
  obtain ⟨y0, y1, y2, y3⟩ := Y7.four
  have ly := Y7.lt
  have fx0 := X7.free 0
  have fx1 := X7.free 1
  have fx2 := X7.free 2
  have fx3 := X7.free 3
  have fy0 := Y7.free 0
  have fy1 := Y7.free 1
  have fy2 := Y7.free 2
  have fy3 := Y7.free 3
  go_wp2_with fail
  have As := A7.by4 (b := bx) (by omega) (.int .i64 K4) (.int .i64 0) (.int .i64 0) (.string L4)
  have Ps := P7.by4 (b := bx) (by omega) (.int .i64 K4) (.int .i64 0) (.int .i64 0) (.string L4)
  have Xs := X7.put4 (.int .i64 K4) (.int .i64 0) (.int .i64 0) (.string L4)
  have Ys := Y7.by4 (b := bx) (by omega) (.int .i64 K4) (.int .i64 0) (.int .i64 0) (.string L4)
  have Bs := Lib.hid (below4 (b := bx) B7.out (by omega) (.int .i64 K4) (.int .i64 0) (.int .i64 0) (.string L4))
  generalize ((((w7.setCell ⟨bx, 0, none⟩ (.int .i64 K4)).setCell ⟨bx, 1, none⟩ (.int .i64 0)).setCell ⟨bx, 2, none⟩ (.int .i64 0)).setCell ⟨bx, 3, none⟩ (.string L4)) = W7 at *
  go_at_call 32
  refine (H4.out.2 _).mono ?_
  rintro e w8 ⟨rfl, hb8⟩
  clear a0 a1 a2 a3 la p0 p1 p2 p3 lp x0 x1 x2 x3 lx fx0 fx1 fx2 fx3 y0 y1 y2 y3 ly fy0 fy1 fy2 fy3
  have B8 := Lib.hid (bl_then Bs.out hb8)
  have A8 := As.keep hb8
  have P8 := Ps.keep hb8
  have X8 := Xs.keep hb8
  have Y8 := Ys.keep hb8
  clear hb8 Bs As Ps Xs Ys A7 P7 X7 Y7
  obtain ⟨a0, a1, a2, a3⟩ := A8.four
  have la := A8.lt
  obtain ⟨p0, p1, p2, p3⟩ := P8.four
  have lp := P8.lt
  obtain ⟨x0, x1, x2, x3⟩ := X8.four
  have lx := X8.lt
  obtain ⟨y0, y1, y2, y3⟩ := Y8.four
  have ly := Y8.lt
  have fx0 := X8.free 0
  have fx1 := X8.free 1
  have fx2 := X8.free 2
  have fx3 := X8.free 3
  have fy0 := Y8.free 0
  have fy1 := Y8.free 1
  have fy2 := Y8.free 2
  have fy3 := Y8.free 3
  go_wp2_with fail
  have As := A8.by4 (b := by') (by omega) (.int .i64 K4) (.int .i64 0) (.int .i64 0) (.string L4)
  have Ps := P8.by4 (b := by') (by omega) (.int .i64 K4) (.int .i64 0) (.int .i64 0) (.string L4)
  have Xs := X8.by4 (b := by') (by omega) (.int .i64 K4) (.int .i64 0) (.int .i64 0) (.string L4)
  have Ys := Y8.put4 (.int .i64 K4) (.int .i64 0) (.int .i64 0) (.string L4)
  have Bs := Lib.hid (below4 (b := by') B8.out (by omega) (.int .i64 K4) (.int .i64 0) (.int .i64 0) (.string L4))
  generalize ((((w8.setCell ⟨by', 0, none⟩ (.int .i64 K4)).setCell ⟨by', 1, none⟩ (.int .i64 0)).setCell ⟨by', 2, none⟩ (.int .i64 0)).setCell ⟨by', 3, none⟩ (.string L4)) = W8 at *
  go_at_call 33
  refine (H5.out.1 _).mono ?_
  rintro e w9 ⟨rfl, hb9⟩
  clear a0 a1 a2 a3 la p0 p1 p2 p3 lp x0 x1 x2 x3 lx fx0 fx1 fx2 fx3 y0 y1 y2 y3 ly fy0 fy1 fy2 fy3
  have B9 := Lib.hid (bl_then Bs.out hb9)
  have A9 := As.keep hb9
  have P9 := Ps.keep hb9
  have X9 := Xs.keep hb9
  have Y9 := Ys.keep hb9
  clear hb9 Bs As Ps Xs Ys A8 P8 X8 Y8
  obtain ⟨a0, a1, a2, a3⟩ := A9.four
  have la := A9.lt
  obtain ⟨p0, p1, p2, p3⟩ := P9.four
  have lp := P9.lt
  obtain ⟨x0, x1, x2, x3⟩ := X9.four
  have lx := X9.lt
  obtain ⟨y0, y1, y2, y3⟩ := Y9.four
  have ly := Y9.lt
  have fx0 := X9.free 0
  have fx1 := X9.free 1
  have fx2 := X9.free 2
  have fx3 := X9.free 3
  have fy0 := Y9.free 0
  have fy1 := Y9.free 1
  have fy2 := Y9.free 2
  have fy3 := Y9.free 3
  go_wp2_with fail
  have As := A9.by4 (b := bx) (by omega) (.int .i64 K5) (.int .i64 0) (.int .i64 0) (.string L5)
  have Ps := P9.by4 (b := bx) (by omega) (.int .i64 K5) (.int .i64 0) (.int .i64 0) (.string L5)
  have Xs := X9.put4 (.int .i64 K5) (.int .i64 0) (.int .i64 0) (.string L5)
  have Ys := Y9.by4 (b := bx) (by omega) (.int .i64 K5) (.int .i64 0) (.int .i64 0) (.string L5)
  have Bs := Lib.hid (below4 (b := bx) B9.out (by omega) (.int .i64 K5) (.int .i64 0) (.int .i64 0) (.string L5))
  generalize ((((w9.setCell ⟨bx, 0, none⟩ (.int .i64 K5)).setCell ⟨bx, 1, none⟩ (.int .i64 0)).setCell ⟨bx, 2, none⟩ (.int .i64 0)).setCell ⟨bx, 3, none⟩ (.string L5)) = W9 at *
  go_at_call 34
  refine (H5.out.2 _).mono ?_
  rintro e w10 ⟨rfl, hb10⟩
  clear a0 a1 a2 a3 la p0 p1 p2 p3 lp x0 x1 x2 x3 lx fx0 fx1 fx2 fx3 y0 y1 y2 y3 ly fy0 fy1 fy2 fy3
  have B10 := Lib.hid (bl_then Bs.out hb10)
  have A10 := As.keep hb10
  have P10 := Ps.keep hb10
  have X10 := Xs.keep hb10
  have Y10 := Ys.keep hb10
  clear hb10 Bs As Ps Xs Ys A9 P9 X9 Y9
  obtain ⟨a0, a1, a2, a3⟩ := A10.four
  have la := A10.lt
  obtain ⟨p0, p1, p2, p3⟩ := P10.four
  have lp := P10.lt
  obtain ⟨x0, x1, x2, x3⟩ := X10.four
  have lx := X10.lt
  obtain ⟨y0, y1, y2, y3⟩ := Y10.four
  have ly := Y10.lt
  have fx0 := X10.free 0
  have fx1 := X10.free 1
  have fx2 := X10.free 2
  have fx3 := X10.free 3
  have fy0 := Y10.free 0
  have fy1 := Y10.free 1
  have fy2 := Y10.free 2
  have fy3 := Y10.free 3
  go_wp2_with fail
  have As := A10.by4 (b := by') (by omega) (.int .i64 K5) (.int .i64 0) (.int .i64 0) (.string L5)
  have Ps := P10.by4 (b := by') (by omega) (.int .i64 K5) (.int .i64 0) (.int .i64 0) (.string L5)
  have Xs := X10.by4 (b := by') (by omega) (.int .i64 K5) (.int .i64 0) (.int .i64 0) (.string L5)
  have Ys := Y10.put4 (.int .i64 K5) (.int .i64 0) (.int .i64 0) (.string L5)
  have Bs := Lib.hid (below4 (b := by') B10.out (by omega) (.int .i64 K5) (.int .i64 0) (.int .i64 0) (.string L5))
  generalize ((((w10.setCell ⟨by', 0, none⟩ (.int .i64 K5)).setCell ⟨by', 1, none⟩ (.int .i64 0)).setCell ⟨by', 2, none⟩ (.int .i64 0)).setCell ⟨by', 3, none⟩ (.string L5)) = W10 at *
  go_at_call 35
  refine (H6.out.1 _).mono ?_
  rintro e w11 ⟨rfl, hb11⟩
  clear a0 a1 a2 a3 la p0 p1 p2 p3 lp x0 x1 x2 x3 lx fx0 fx1 fx2 fx3 y0 y1 y2 y3 ly fy0 fy1 fy2 fy3
  have B11 := Lib.hid (bl_then Bs.out hb11)
  have A11 := As.keep hb11
  have P11 := Ps.keep hb11
  have X11 := Xs.keep hb11
  have Y11 := Ys.keep hb11
  clear hb11 Bs As Ps Xs Ys A10 P10 X10 Y10
  obtain ⟨a0, a1, a2, a3⟩ := A11.four
  have la := A11.lt
  obtain ⟨p0, p1, p2, p3⟩ := P11.four
  have lp := P11.lt
  obtain ⟨x0, x1, x2, x3⟩ := X11.four
  have lx := X11.lt
  obtain ⟨y0, y1, y2, y3⟩ := Y11.four
  have ly := Y11.lt
  have fx0 := X11.free 0
  have fx1 := X11.free 1
  have fx2 := X11.free 2
  have fx3 := X11.free 3
  have fy0 := Y11.free 0
  have fy1 := Y11.free 1
  have fy2 := Y11.free 2
  have fy3 := Y11.free 3
  go_wp2_with fail
  have As := A11.by4 (b := bx) (by omega) (.int .i64 K6) (.int .i64 0) (.int .i64 0) (.string L6)
  have Ps := P11.by4 (b := bx) (by omega) (.int .i64 K6) (.int .i64 0) (.int .i64 0) (.string L6)
  have Xs := X11.put4 (.int .i64 K6) (.int .i64 0) (.int .i64 0) (.string L6)
  have Ys := Y11.by4 (b := bx) (by omega) (.int .i64 K6) (.int .i64 0) (.int .i64 0) (.string L6)
  have Bs := Lib.hid (below4 (b := bx) B11.out (by omega) (.int .i64 K6) (.int .i64 0) (.int .i64 0) (.string L6))
  generalize ((((w11.setCell ⟨bx, 0, none⟩ (.int .i64 K6)).setCell ⟨bx, 1, none⟩ (.int .i64 0)).setCell ⟨bx, 2, none⟩ (.int .i64 0)).setCell ⟨bx, 3, none⟩ (.string L6)) = W11 at *
  go_at_call 36
  refine (H6.out.2 _).mono ?_
  rintro e w12 ⟨rfl, hb12⟩
  clear a0 a1 a2 a3 la p0 p1 p2 p3 lp x0 x1 x2 x3 lx fx0 fx1 fx2 fx3 y0 y1 y2 y3 ly fy0 fy1 fy2 fy3
  have B12 := Lib.hid (bl_then Bs.out hb12)
  have A12 := As.keep hb12
  have P12 := Ps.keep hb12
  have X12 := Xs.keep hb12
  have Y12 := Ys.keep hb12
  clear hb12 Bs As Ps Xs Ys A11 P11 X11 Y11
  obtain ⟨a0, a1, a2, a3⟩ := A12.four
  have la := A12.lt
  obtain ⟨p0, p1, p2, p3⟩ := P12.four
  have lp := P12.lt
  obtain ⟨x0, x1, x2, x3⟩ := X12.four
  have lx := X12.lt
  obtain ⟨y0, y1, y2, y3⟩ := Y12.four
  have ly := Y12.lt
  have fx0 := X12.free 0
  have fx1 := X12.free 1
  have fx2 := X12.free 2
  have fx3 := X12.free 3
  have fy0 := Y12.free 0
  have fy1 := Y12.free 1
  have fy2 := Y12.free 2
  have fy3 := Y12.free 3
  go_wp2_with fail
  have As := A12.by4 (b := by') (by omega) (.int .i64 K6) (.int .i64 0) (.int .i64 0) (.string L6)
  have Ps := P12.by4 (b := by') (by omega) (.int .i64 K6) (.int .i64 0) (.int .i64 0) (.string L6)
  have Xs := X12.by4 (b := by') (by omega) (.int .i64 K6) (.int .i64 0) (.int .i64 0) (.string L6)
  have Bs := Lib.hid (below4 (b := by') B12.out (by omega) (.int .i64 K6) (.int .i64 0) (.int .i64 0) (.string L6))
  generalize ((((w12.setCell ⟨by', 0, none⟩ (.int .i64 K6)).setCell ⟨by', 1, none⟩ (.int .i64 0)).setCell ⟨by', 2, none⟩ (.int .i64 0)).setCell ⟨by', 3, none⟩ (.string L6)) = W12 at *
  go_at_call 10
  refine (H7.out _).mono ?_
  rintro e w13 ⟨rfl, hb13⟩
  clear a0 a1 a2 a3 la p0 p1 p2 p3 lp x0 x1 x2 x3 lx fx0 fx1 fx2 fx3 y0 y1 y2 y3 ly fy0 fy1 fy2 fy3
  have B13 := Lib.hid (bl_then Bs.out hb13)
  have A13 := As.keep hb13
  have P13 := Ps.keep hb13
  have X13 := Xs.keep hb13
  clear hb13 Bs As Ps Xs A12 P12 X12 Y12
  obtain ⟨a0, a1, a2, a3⟩ := A13.four
  have la := A13.lt
  obtain ⟨p0, p1, p2, p3⟩ := P13.four
  have lp := P13.lt
  obtain ⟨x0, x1, x2, x3⟩ := X13.four
  have lx := X13.lt
  have fx0 := X13.free 0
  have fx1 := X13.free 1
  have fx2 := X13.free 2
  have fx3 := X13.free 3
  go_wp2_with fail
  go_at_call 12
  refine (H8.out _).mono ?_
  rintro e w14 ⟨rfl, hb14⟩
  clear a0 a1 a2 a3 la p0 p1 p2 p3 lp x0 x1 x2 x3 lx fx0 fx1 fx2 fx3
  have B14 := Lib.hid (bl_box B13.out hb14)
  have A14 := (A13.alloc _).keep hb14
  have P14 := (P13.alloc _).keep hb14
  have X14 := (X13.alloc _).keep hb14
  have U14 := (Row.new w13 (vlC K6 0 0 s) 23).keep hb14
  have hz_U : w.heap.size ≤ w13.heap.size := B13.out.size
  have h_AU : w.heap.size < w13.heap.size := A13.lt
  have h_PU : w.heap.size + 1 < w13.heap.size := P13.lt
  have h_XU : bx < w13.heap.size := X13.lt
  clear hb14 A13 P13 X13
  generalize w13.heap.size = bu at *
  obtain ⟨a0, a1, a2, a3⟩ := A14.four
  have la := A14.lt
  obtain ⟨p0, p1, p2, p3⟩ := P14.four
  have lp := P14.lt
  obtain ⟨x0, x1, x2, x3⟩ := X14.four
  have lx := X14.lt
  obtain ⟨u0, u1, u2, u3⟩ := U14.four
  have lu := U14.lt
  have fx0 := X14.free 0
  have fx1 := X14.free 1
  have fx2 := X14.free 2
  have fx3 := X14.free 3
  go_wp2_with fail
  go_at_call 37
  refine (H9.out _).mono ?_
  rintro e w15 ⟨rfl, hb15⟩
  clear a0 a1 a2 a3 la p0 p1 p2 p3 lp x0 x1 x2 x3 lx fx0 fx1 fx2 fx3 u0 u1 u2 u3 lu
  have B15 := Lib.hid (bl_box B14.out hb15)
  have A15 := (A14.alloc _).keep hb15
  have P15 := (P14.alloc _).keep hb15
  have X15 := (X14.alloc _).keep hb15
  have V15 := (Row.new w14 (vlC K6 0 0 t) 23).keep hb15
  have hz_V : w.heap.size ≤ w14.heap.size := B14.out.size
  have h_AV : w.heap.size < w14.heap.size := A14.lt
  have h_PV : w.heap.size + 1 < w14.heap.size := P14.lt
  have h_XV : bx < w14.heap.size := X14.lt
  clear hb15 A14 P14 X14 U14
  generalize w14.heap.size = bv at *
  obtain ⟨a0, a1, a2, a3⟩ := A15.four
  have la := A15.lt
  obtain ⟨p0, p1, p2, p3⟩ := P15.four
  have lp := P15.lt
  obtain ⟨x0, x1, x2, x3⟩ := X15.four
  have lx := X15.lt
  obtain ⟨v0, v1, v2, v3⟩ := V15.four
  have lv := V15.lt
  have fx0 := X15.free 0
  have fx1 := X15.free 1
  have fx2 := X15.free 2
  have fx3 := X15.free 3
  go_wp2_with fail
  go_at_call 37
  refine (H10.out _).mono ?_
  rintro e w16 ⟨rfl, hb16⟩
  clear a0 a1 a2 a3 la p0 p1 p2 p3 lp x0 x1 x2 x3 lx fx0 fx1 fx2 fx3
  have B16 := Lib.hid (bl_box B15.out hb16)
  have A16 := (A15.alloc _).keep hb16
  have P16 := (P15.alloc _).keep hb16
  have X16 := (X15.alloc _).keep hb16
  have R16 := (Row.new w15 (vlC K6 0 0 L9) 23).keep hb16
  have hz_R : w.heap.size ≤ w15.heap.size := B15.out.size
  have h_AR : w.heap.size < w15.heap.size := A15.lt
  have h_PR : w.heap.size + 1 < w15.heap.size := P15.lt
  have h_XR : bx < w15.heap.size := X15.lt
  clear hb16 A15 P15 X15
  generalize w15.heap.size = br at *
  obtain ⟨a0, a1, a2, a3⟩ := A16.four
  have la := A16.lt
  obtain ⟨p0, p1, p2, p3⟩ := P16.four
  have lp := P16.lt
  obtain ⟨x0, x1, x2, x3⟩ := X16.four
  have lx := X16.lt
  obtain ⟨r0, r1, r2, r3⟩ := R16.four
  have lr := R16.lt
  have fx0 := X16.free 0
  have fx1 := X16.free 1
  have fx2 := X16.free 2
  have fx3 := X16.free 3
  go_wp2_with fail
  go_at_call 37
  refine (H11.out _).mono ?_
  rintro e w17 ⟨rfl, hb17⟩
  clear a0 a1 a2 a3 la p0 p1 p2 p3 lp x0 x1 x2 x3 lx fx0 fx1 fx2 fx3 r0 r1 r2 r3 lr
  have B17 := Lib.hid (bl_box B16.out hb17)
  have R17 := (R16.alloc _).keep hb17
  have M17 := (Row.new w16 (vlC K6 0 0 L10) 23).keep hb17
  have hz_M : w.heap.size ≤ w16.heap.size := B16.out.size
  have h_RM : br < w16.heap.size := R16.lt
  clear hb17 A16 P16 X16 R16
  generalize w16.heap.size = bm at *
  obtain ⟨r0, r1, r2, r3⟩ := R17.four
  have lr := R17.lt
  obtain ⟨m0, m1, m2, m3⟩ := M17.four
  have lm := M17.lt
  go_wp2_with fail
  go_at_call 35
  refine (H12.out _).mono ?_
  rintro e w18 ⟨rfl, hb18⟩
  clear r0 r1 r2 r3 lr m0 m1 m2 m3 lm
  have B18 := Lib.hid (bl_box B17.out hb18)
  have R18 := (R17.alloc _).keep hb18
  have N18 := (Row.new w17 (vlC K6 0 0 L11) 23).keep hb18
  have hz_N : w.heap.size ≤ w17.heap.size := B17.out.size
  have h_RN : br < w17.heap.size := R17.lt
  clear hb18 R17 M17
  generalize w17.heap.size = bn at *
  obtain ⟨r0, r1, r2, r3⟩ := R18.four
  have lr := R18.lt
  obtain ⟨n0, n1, n2, n3⟩ := N18.four
  have ln := N18.lt
  go_wp2_with fail
  go_at_call 9
  refine (awake_any _).mono ?_
  rintro e w19 ⟨rfl, hb19⟩
  clear r0 r1 r2 r3 lr n0 n1 n2 n3 ln
  have B19 := Lib.hid (bl_box B18.out hb19)
  have R19 := (R18.alloc _).keep hb19
  have N19 := (N18.alloc _).keep hb19
  have Q19 := (Row.new w18 (vlC K6 0 0 L9) 23).keep hb19
  have hz_Q : w.heap.size ≤ w18.heap.size := B18.out.size
  have h_RQ : br < w18.heap.size := R18.lt
  have h_NQ : bn < w18.heap.size := N18.lt
  clear hb19 R18 N18
  generalize w18.heap.size = bq at *
  obtain ⟨r0, r1, r2, r3⟩ := R19.four
  have lr := R19.lt
  obtain ⟨n0, n1, n2, n3⟩ := N19.four
  have ln := N19.lt
  obtain ⟨q0, q1, q2, q3⟩ := Q19.four
  have lq := Q19.lt
  go_wp2
  go_ret
  exact ⟨ret_bool (by first | rfl | simp), B19.out⟩

theorem pair_of {F G : Nat} {args : Array Value} {E k : Int} {l : List UInt8} (h1 : ∀ W, Calls Try.prog F args W fun e w' => e = .returned (.tuple #[orV E k l, .int .i64 E]) ∧ Below W.heap.size W w')
    (h2 : ∀ W, Calls Try.prog G args W fun e w' => e = .returned (.tuple #[orV E k l, .int .i64 E]) ∧ Below W.heap.size W w') :
    Pair F G args (if E = 0 then k else 0) (if E = 0 then bsz l else ⟨#[]⟩) E := ⟨h1, h2⟩
theorem strE_of {a : Vl} (h : a.ok = true) : strE a = 0 := by rw [strE, h]; rfl
theorem bsz_self (s : ByteArray) : bsz s.data.toList = s := rfl

theorem makes_any (a t f : Vl) (n : Int) (w : World) (hs : a.s.size ≤ maxLen) (hs' : t.s.size ≤ maxLen) (hs'' : f.s.size ≤ maxLen) :
    Calls Try.prog 5 #[a.v, t.v, f.v, .int .i64 n] w fun e w' => e = .returned (.bool true) ∧ Below w.heap.size w w' := by
  by_cases hl : ∀ x ∈ [a, t, f], x.light = true
  · have t1 := pair_of (fun W => bTrans_any a t f W hs hs' hs'') (fun W => rTrans_any a t f W hs hs' hs'')
    have t2 := pair_of (fun W => bRepeat_any a n W hs) (fun W => rRepeat_any a n W hs)
    have t3 := pair_of (fun W => bCopy_any a n W hs) (fun W => rCopy_any a n W hs)
    have t4 := pair_of (fun W => bLow_any n W) (fun W => rLow_any n W)
    have t5 := pair_of (fun W => bHigh_any n W) (fun W => rHigh_any n W)
    have t6 := pair_of (fun W => bJoin_any a t W hs hs') (fun W => rJoin_any a t W hs hs')
    by_cases h6 : joinE a t = 0
    · have h0 : alikeE a t = 0 := by
        apply Classical.byContradiction; intro h; rw [joinE_no h] at h6; exact h h6
      have hlen : a.s.size + t.s.size ≤ 250 := by
        apply Classical.byContradiction; intro h; rw [joinE_long h0 h] at h6; cases h6
      obtain ⟨oa, ot, ok⟩ := alikeE_ok h0
      rw [h6] at t6
      obtain ⟨k, na, qa, s⟩ := a
      obtain ⟨kt, nt, qt, u⟩ := t
      obtain ⟨z1, z2, ta⟩ := okV_eq oa
      obtain ⟨z3, z4, tt⟩ := okV_eq ot
      obtain rfl : kt = k := ok
      obtain rfl : na = 0 := z1
      obtain rfl : qa = 0 := z2
      obtain rfl : nt = 0 := z3
      obtain rfl : qt = 0 := z4
      have hls : s.data.toList.length = s.size := lsz _
      have hlt : u.data.toList.length = u.size := lsz _
      have hlen' : s.size + u.size ≤ 250 := hlen
      have tj : okT kt (s.data.toList ++ u.data.toList) = true := append_ok ta tt (by rw [hls, hlt]; exact hlen)
      have oj : Vl.ok ⟨kt, 0, 0, bsz (s.data.toList ++ u.data.toList)⟩ = true := okV_mk tj
      have lj : (bsz (s.data.toList ++ u.data.toList)).size ≤ maxLen := by rw [bsz_size, List.length_append, hls, hlt]; unfold maxLen; omega
      have jl := join_left s.data.toList u.data.toList
      have jr := join_right s.data.toList u.data.toList
      rw [hls] at jl jr
      refine makes_full kt s u f n w hs hs' hs'' hl _ _ _ _ _ _ _ _ _ _ _ _ _ _ _ _ _ (bsz (s.data.toList ++ u.data.toList).reverse) (bsz u.data.toList.reverse) (bsz s.data.toList.reverse) t1 t2 t3 t4 t5 t6 rfl (by omega)
        (fun W => (bSub_any ⟨kt, 0, 0, bsz (s.data.toList ++ u.data.toList)⟩ 1 s.size W lj).mono fun e w' ⟨he, hb⟩ => ⟨he.trans ?_, hb⟩)
        (fun W => (bRest_any ⟨kt, 0, 0, bsz (s.data.toList ++ u.data.toList)⟩ ((s.size : Int) + 1) W lj).mono fun e w' ⟨he, hb⟩ => ⟨he.trans ?_, hb⟩)
        (fun W => (bRev_any ⟨kt, 0, 0, bsz (s.data.toList ++ u.data.toList)⟩ W lj).mono fun e w' ⟨he, hb⟩ => ⟨he.trans ?_, hb⟩)
        (fun W => (bRev_any ⟨kt, 0, 0, u⟩ W hs').mono fun e w' ⟨he, hb⟩ => ⟨he.trans ?_, hb⟩)
        (fun W => (bRev_any ⟨kt, 0, 0, s⟩ W hs).mono fun e w' ⟨he, hb⟩ => ⟨he.trans ?_, hb⟩)
        (fun W => (bJoin_any ⟨kt, 0, 0, bsz u.data.toList.reverse⟩ ⟨kt, 0, 0, bsz s.data.toList.reverse⟩ W (by show (bsz _).size ≤ _; rw [bsz_size, List.length_reverse, hlt]; unfold maxLen; omega) (by show (bsz _).size ≤ _; rw [bsz_size, List.length_reverse, hls]; unfold maxLen; omega)).mono fun e w' ⟨he, hb⟩ => ⟨he.trans ?_, hb⟩)
      · have e1 : subE ⟨kt, 0, 0, bsz (s.data.toList ++ u.data.toList)⟩ 1 s.size = 0 := by rw [subE, oj, plainI_of2 (by omega), plainI_of2 (by omega)]; rfl
        rw [e1]
        show Ending.returned (.tuple #[vlV kt 0 0 (bsz (subL (s.data.toList ++ u.data.toList) 1 s.size)), .int .i64 (partC (s.data.toList ++ u.data.toList) 1 s.size), .int .i64 0]) = _
        rw [jl.1, jl.2]
      · have e1 : restE ⟨kt, 0, 0, bsz (s.data.toList ++ u.data.toList)⟩ ((s.size : Int) + 1) = 0 := by rw [restE, oj, plainI_of2 (by omega)]; rfl
        rw [e1]
        show Ending.returned (.tuple #[vlV kt 0 0 (bsz (restL _ _)), .int .i64 (restC _ _), .int .i64 0]) = _
        have r1 : restL ⟨kt, 0, 0, bsz (s.data.toList ++ u.data.toList)⟩ ((s.size : Int) + 1) = u.data.toList := jr.1
        have r2 : restC ⟨kt, 0, 0, bsz (s.data.toList ++ u.data.toList)⟩ ((s.size : Int) + 1) = 0 := jr.2
        rw [r1, r2]
      · rw [strE_of oj]; rfl
      · rw [strE_of ot]; rfl
      · rw [strE_of oa]; rfl
      · have ru : Vl.ok ⟨kt, 0, 0, bsz u.data.toList.reverse⟩ = true := okV_mk (reverse_ok tt)
        have rs : Vl.ok ⟨kt, 0, 0, bsz s.data.toList.reverse⟩ = true := okV_mk (reverse_ok ta)
        rw [joinE_of (alikeE_of ru rs rfl) (by show (bsz _).size + (bsz _).size ≤ _; rw [bsz_size, bsz_size, List.length_reverse, List.length_reverse, hls, hlt]; omega)]
        show Ending.returned (.tuple #[vlV kt 0 0 (bsz (u.data.toList.reverse ++ s.data.toList.reverse)), .int .i64 0]) = _
        rw [List.reverse_append]
    · exact makes_err a t f n w hs hs' hs'' hl _ _ _ _ _ _ _ _ _ _ _ _ _ _ _ _ _ _ t1 t2 t3 t4 t5 t6 h6
  · exact makes_dark a t f n w hs hs' hs'' hl
end Go.Proofs.Ytgoghblfficfpaa
