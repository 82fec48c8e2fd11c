/- The law BitsFits, for any value and type. -/
import Derived.Test.YtljbkpnfjgnhnaaDoorBitRFit
import Derived.Test.YtljbkpnfjgnhnaaDoorBitAwake
import Derived.Test.YtljbkpnfjgnhnaaDoorBitRows3
namespace Go.Proofs.YtljbkpnfjgnhnaaDoor
open Go.RowKit

set_option maxRecDepth 100000 in
set_option maxHeartbeats 16000000 in
theorem fits_dark (a : Vl) (y p q n : Int) (vy : Bool) (pic : ByteArray) (w : World) (hs : a.s.size ≤ maxLen) (hl : ¬ ∀ x ∈ [a], x.light = true) :
    Calls Tryd.prog 3 #[a.v, tyV y p q n vy pic] w fun e w' => e = .returned (.bool true) ∧ Below w.heap.size w w' := by
  have HP : Hid (∀ x ∈ [a], x.s.size ≤ maxLen) := Lib.hid (vl1 (p := fun x : Vl => x.s.size ≤ maxLen) hs)
  have hG : Tryd.prog.eqGuardType Tryd.prog.depth 23 = false := by kernel_rfl
  have hE := vlEq
  clear hs
  have HL := Lib.hid hl
  clear hl
  go_enter Tryd.func3, Tryd.ntmps3
  go_wp2_with (first
    | (go_at_call 4; refine (bLight_no [a] (w.heap.size + 1 + 1) 0 1 _ (VlsAt.one (Row.new3 _ _ _ _ _)) (by simp) (by simp <;> omega) HP.out HL.out).mono ?_; rintro e w1 ⟨rfl, rfl⟩)
    | (go_at_call 5; refine (awake_any _).mono ?_; rintro e w2 ⟨rfl, hb⟩))
  go_ret
  exact ⟨rfl, bl_box3 (Below.refl _ w) hb⟩

set_option maxRecDepth 100000 in
set_option maxHeartbeats 16000000 in
theorem fits_long (a : Vl) (y p q n : Int) (vy : Bool) (pic : ByteArray) (w : World) (hs : a.s.size ≤ maxLen) (hl : ∀ x ∈ [a], x.light = true) (hpic : ¬ pic.size ≤ 300) (_hz : pic.size ≤ maxLen) :
    Calls Tryd.prog 3 #[a.v, tyV y p q n vy pic] w fun e w' => e = .returned (.bool true) ∧ Below w.heap.size w w' := by
  have HP : Hid (∀ x ∈ [a], x.s.size ≤ maxLen) := Lib.hid (vl1 (p := fun x : Vl => x.s.size ≤ maxLen) hs)
  have hG : Tryd.prog.eqGuardType Tryd.prog.depth 23 = false := by kernel_rfl
  have hE := vlEq
  clear hs
  have HL := Lib.hid hl
  have hp1 : decide (300 < (pic.size : Int)) = true := by simp only [decide_eq_true_eq]; omega
  have hp2 : decide (300 < pic.size) = true := by simp only [decide_eq_true_eq]; omega
  have hp3 : 300 < (pic.size : Int) := by omega
  have hp4 : 300 < pic.size := by omega
  unfold maxLen at _hz
  clear hl hpic
  go_enter Tryd.func3, Tryd.ntmps3
  have T0 := (Row.new2 w (.cells (vlC a.k a.n a.q a.s) 23) (tyC y p q n vy pic) 25).alloc (.cells (vlC a.k a.n a.q a.s) 23)
  obtain ⟨t0, t1, t2, t3, t4, t5⟩ := T0.sixT
  go_wp2_with (first
    | (go_at_call 4; refine (bLight_yes [a] (w.heap.size + 1 + 1) 0 1 _ (VlsAt.one (Row.new3 _ _ _ _ _)) (by simp) (by simp <;> omega) HP.out HL.out).mono ?_; rintro e w1 ⟨rfl, rfl⟩)
    | (go_at_call 5; refine (awake_any _).mono ?_; rintro e w2 ⟨rfl, hb⟩))
  go_ret
  exact ⟨rfl, bl_box3 (Below.refl _ w) hb⟩

set_option maxRecDepth 100000 in
set_option maxHeartbeats 16000000 in
theorem fits_full (ka : Int) (s : ByteArray) (y p q n : Int) (vy : Bool) (pic : ByteArray) (w : World) (hs : s.size ≤ maxLen) (hl : ∀ x ∈ ([⟨ka, 0, 0, s⟩] : List Vl), x.light = true) (hpic : pic.size ≤ 300) (K1 : Int) (L1 : ByteArray) (C1 E1 K5 : Int) (L5 : ByteArray) (E5 K6 : Int) (L6 : ByteArray) (E6 : Int) (V0 Y0 : Bool)
    (h1 : TripF 6 7 #[vlV ka 0 0 s, tyV y p q n vy pic] K1 L1 C1 E1) (h2 : Same 8 9 #[vlV ka 0 0 s] V0) (h3 : Same 10 11 #[tyV y p q n vy pic] Y0)
    (h5 : Pair 12 13 #[vlV ka 0 0 s] K5 L5 E5) (h6 : Pair 14 15 #[vlV ka 0 0 s] K6 L6 E6) (hE1 : E1 = 0) (hE6 : E6 = 0)
    (h4 : ∀ W, Calls Tryd.prog 6 #[vlV K1 0 0 L1, tyV y p q n vy pic] W fun e w' => e = .returned (.tuple #[vlV K1 0 0 L1, .int .i64 0, .int .i64 0]) ∧ Below W.heap.size W w')
    (h7 : ∀ W, Calls Tryd.prog 14 #[vlV K6 0 0 L6] W fun e w' => e = .returned (.tuple #[vlV ka 0 0 s, .int .i64 0]) ∧ Below W.heap.size W w') :
    Calls Tryd.prog 3 #[vlV ka 0 0 s, tyV y p q n vy pic] w fun e w' => e = .returned (.bool true) ∧ Below w.heap.size w w' := by
  subst hE1
  subst hE6
  have HP : Hid (∀ x ∈ ([⟨ka, 0, 0, s⟩] : List Vl), x.s.size ≤ maxLen) := Lib.hid (vl1 (p := fun x : Vl => x.s.size ≤ maxLen) hs)
  have hG : Tryd.prog.eqGuardType Tryd.prog.depth 23 = false := by kernel_rfl
  have hE := vlEq
  clear hs
  have H1 := Lib.hid h1; have H2 := Lib.hid h2; have H3 := Lib.hid h3; have H5 := Lib.hid h5; have H6 := Lib.hid h6; have H4 := Lib.hid h4; have H7 := Lib.hid h7; have HL := Lib.hid hl
  clear h1 h2 h3 h5 h6 h4 h7 hl
  have hp1 : decide (300 < (pic.size : Int)) = false := by simp only [decide_eq_false_iff_not]; omega
  have hp2 : decide (300 < pic.size) = false := by simp only [decide_eq_false_iff_not]; omega
  clear hpic
  go_enter Tryd.func3, Tryd.ntmps3
  have A0 := Row.new w (vlC ka 0 0 s) 23
  have T0 := Row.new2 w (.cells (vlC ka 0 0 s) 23) (tyC y p q n vy pic) 25
  obtain ⟨t0, t1, t2, t3, t4, t5⟩ := (T0.alloc (.cells (vlC ka 0 0 s) 23)).sixT
  go_wp2_with fail
  go_at_call 4
  refine (bLight_yes ([⟨ka, 0, 0, s⟩] : List Vl) (w.heap.size + 1 + 1) 0 1 _ (VlsAt.one (Row.new3 _ _ _ _ _)) (by simp) (by simp <;> omega) HP.out HL.out).mono ?_
  rintro e wl ⟨rfl, rfl⟩
  go_wp2_with fail
  go_at_call 6
  refine (H1.out.1 _).mono ?_
  rintro e w1 ⟨rfl, hb1⟩
  have B1 := Lib.hid (bl_box3 (Below.refl _ w) hb1)
  have A1 := ((A0.alloc _).alloc _).keep hb1
  clear t0 t1 t2 t3 t4 t5
  have T1 := (T0.alloc _).keep hb1
  clear hb1 A0 T0
  obtain ⟨a0, a1, a2, a3⟩ := A1.four
  have la := A1.lt
  obtain ⟨t0, t1, t2, t3, t4, t5⟩ := T1.sixT
  have lt := T1.lt
  go_wp2_with fail
  go_at_call 7
  refine (H1.out.2 _).mono ?_
  rintro e w2 ⟨rfl, hb2⟩
  clear a0 a1 a2 a3 la t0 t1 t2 t3 t4 t5 lt
  have B2 := Lib.hid (bl_box B1.out hb2)
  have A2 := (A1.alloc _).keep hb2
  have T2 := (T1.alloc _).keep hb2
  have X2 := (Row.new w1 (vlC K1 0 0 L1) 23).keep hb2
  have hz_X : w.heap.size ≤ w1.heap.size := B1.out.size
  have h_AX : w.heap.size < w1.heap.size := A1.lt
  have h_TX : w.heap.size + 1 < w1.heap.size := T1.lt
  clear hb2 A1 T1
  generalize w1.heap.size = bx at *
  have : ¬ bx = w.heap.size := by omega
  have : ¬ w.heap.size = bx := by omega
  have : ¬ bx = w.heap.size + 1 := by omega
  have : ¬ w.heap.size + 1 = bx := by omega
  obtain ⟨a0, a1, a2, a3⟩ := A2.four
  have la := A2.lt
  obtain ⟨t0, t1, t2, t3, t4, t5⟩ := T2.sixT
  have lt := T2.lt
  obtain ⟨x0, x1, x2, x3⟩ := X2.four
  have lx := X2.lt
  have fx0 := X2.free 0
  have fx1 := X2.free 1
  have fx2 := X2.free 2
  have fx3 := X2.free 3
  go_wp2
  have A8 := A2.alloc (.cells (vlC K1 0 0 L1) 23)
  have T8 := T2.alloc (.cells (vlC K1 0 0 L1) 23)
  have X8 := X2.alloc (.cells (vlC K1 0 0 L1) 23)
  have Y8 := Row.new w2 (vlC K1 0 0 L1) 23
  have B8 := Lib.hid (B2.out.alloc B2.out.size (.cells (vlC K1 0 0 L1) 23))
  have h_AY : w.heap.size < w2.heap.size := A2.lt
  have h_TY : w.heap.size + 1 < w2.heap.size := T2.lt
  have h_XY : bx < w2.heap.size := X2.lt
  have hz_Y : w.heap.size ≤ w2.heap.size := B2.out.size
  clear a0 a1 a2 a3 la t0 t1 t2 t3 t4 t5 lt x0 x1 x2 x3 lx fx0 fx1 fx2 fx3
  clear A2 T2 X2
  generalize w2.alloc (.cells (vlC K1 0 0 L1) 23) = W8 at *
  generalize w2.heap.size = by' at *
  have : ¬ by' = w.heap.size := by omega
  have : ¬ w.heap.size = by' := by omega
  have : ¬ by' = w.heap.size + 1 := by omega
  have : ¬ w.heap.size + 1 = by' := by omega
  have : ¬ by' = bx := by omega
  have : ¬ bx = by' := by omega
  obtain ⟨a0, a1, a2, a3⟩ := A8.four
  obtain ⟨t0, t1, t2, t3, t4, t5⟩ := T8.sixT
  obtain ⟨x0, x1, x2, x3⟩ := X8.four
  obtain ⟨y0, y1, y2, y3⟩ := Y8.four
  go_region_held3 (fun w' => (w'.cell? ⟨w.heap.size, 0, none⟩ = some (.int .i64 ka) ∧ w'.cell? ⟨w.heap.size, 1, none⟩ = some (.int .i64 0) ∧ w'.cell? ⟨w.heap.size, 2, none⟩ = some (.int .i64 0) ∧ w'.cell? ⟨w.heap.size, 3, none⟩ = some (.string s)) ∧ (w'.cell? ⟨w.heap.size + 1, 0, none⟩ = some (.int .i64 y) ∧ w'.cell? ⟨w.heap.size + 1, 1, none⟩ = some (.int .i64 p) ∧ w'.cell? ⟨w.heap.size + 1, 2, none⟩ = some (.int .i64 q) ∧ w'.cell? ⟨w.heap.size + 1, 3, none⟩ = some (.int .i64 n) ∧ w'.cell? ⟨w.heap.size + 1, 4, none⟩ = some (.bool vy) ∧ w'.cell? ⟨w.heap.size + 1, 5, none⟩ = some (.string pic)) ∧ (w'.cell? ⟨bx, 0, none⟩ = some (.int .i64 K1) ∧ w'.cell? ⟨bx, 1, none⟩ = some (.int .i64 0) ∧ w'.cell? ⟨bx, 2, none⟩ = some (.int .i64 0) ∧ w'.cell? ⟨bx, 3, none⟩ = some (.string L1)) ∧ (w'.cell? ⟨by', 0, none⟩ = some (.int .i64 K1) ∧ w'.cell? ⟨by', 1, none⟩ = some (.int .i64 0) ∧ w'.cell? ⟨by', 2, none⟩ = some (.int .i64 0) ∧ w'.cell? ⟨by', 3, none⟩ = some (.string L1)))
    (first | go_keep | exact ⟨A12.four, T12.sixT, X12.four, Y12.four⟩ | exact ⟨A11.four, T11.sixT, X11.four, Y11.four⟩ | exact ⟨A10.four, T10.sixT, X10.four, Y10.four⟩ | exact ⟨A9.four, T9.sixT, X9.four, Y9.four⟩)
    (first
      | (go_at_call 8; refine (H2.out.1 _).mono ?_; rintro e w9 ⟨rfl, hb9⟩; have A9 := A8.keep (bl_drew hb9); have T9 := T8.keep (bl_drew hb9); have X9 := X8.keep (bl_drew hb9); have Y9 := Y8.keep (bl_drew hb9); have B9 := Lib.hid (bl_then B8.out (bl_drew hb9)))
      | (go_at_call 9; refine (H2.out.2 _).mono ?_; rintro e w10 ⟨rfl, hb10⟩; have A10 := A9.keep hb10; have T10 := T9.keep hb10; have X10 := X9.keep hb10; have Y10 := Y9.keep hb10; have B10 := Lib.hid (bl_then B9.out hb10))
      | (go_at_call 10; refine (H3.out.1 _).mono ?_; rintro e w11 ⟨rfl, hb11⟩; have A11 := A10.keep hb11; have T11 := T10.keep hb11; have X11 := X10.keep hb11; have Y11 := Y10.keep hb11; have B11 := Lib.hid (bl_then B10.out hb11))
      | (go_at_call 11; refine (H3.out.2 _).mono ?_; rintro e w12 ⟨rfl, hb12⟩; have A12 := A11.keep hb12; have T12 := T11.keep hb12; have X12 := X11.keep hb12; have Y12 := Y11.keep hb12; have B12 := Lib.hid (bl_then B11.out hb12)))
  clear t0 t1 t2 t3 t4 t5 a0 a1 a2 a3 x0 x1 x2 x3 y0 y1 y2 y3
  obtain ⟨a0, a1, a2, a3⟩ := A12.four
  have la := A12.lt
  obtain ⟨t0, t1, t2, t3, t4, t5⟩ := T12.sixT
  have lt := T12.lt
  obtain ⟨x0, x1, x2, x3⟩ := X12.four
  have lx := X12.lt
  obtain ⟨y0, y1, y2, y3⟩ := Y12.four
  have ly := Y12.lt
  have fx0 := X12.free 0
  have fx1 := X12.free 1
  have fx2 := X12.free 2
  have fx3 := X12.free 3
  have fy0 := Y12.free 0
  have fy1 := Y12.free 1
  have fy2 := Y12.free 2
  have fy3 := Y12.free 3
  go_wp2_with fail
  go_at_call 6
  refine (H4.out _).mono ?_
  rintro e w13 ⟨rfl, hb13⟩
  clear a0 a1 a2 a3 la t0 t1 t2 t3 t4 t5 lt x0 x1 x2 x3 lx fx0 fx1 fx2 fx3 y0 y1 y2 y3 ly fy0 fy1 fy2 fy3
  have B13 := Lib.hid (bl_then B12.out hb13)
  have A13 := A12.keep hb13
  have T13 := T12.keep hb13
  have X13 := X12.keep hb13
  have Y13 := Y12.keep hb13
  clear hb13 A12 T12 X12 Y12
  obtain ⟨a0, a1, a2, a3⟩ := A13.four
  have la := A13.lt
  obtain ⟨t0, t1, t2, t3, t4, t5⟩ := T13.sixT
  have lt := T13.lt
  obtain ⟨x0, x1, x2, x3⟩ := X13.four
  have lx := X13.lt
  obtain ⟨y0, y1, y2, y3⟩ := Y13.four
  have ly := Y13.lt
  have fx0 := X13.free 0
  have fx1 := X13.free 1
  have fx2 := X13.free 2
  have fx3 := X13.free 3
  have fy0 := Y13.free 0
  have fy1 := Y13.free 1
  have fy2 := Y13.free 2
  have fy3 := Y13.free 3
  go_wp2_with fail
  go_at_call 12
  refine (H5.out.1 _).mono ?_
  rintro e w14 ⟨rfl, hb14⟩
  clear a0 a1 a2 a3 la t0 t1 t2 t3 t4 t5 lt x0 x1 x2 x3 lx fx0 fx1 fx2 fx3 y0 y1 y2 y3 ly fy0 fy1 fy2 fy3
  have B14 := Lib.hid (bl_box B13.out hb14)
  have A14 := (A13.alloc _).keep hb14
  have T14 := (T13.alloc _).keep hb14
  have X14 := (X13.alloc _).keep hb14
  have Y14 := (Y13.alloc _).keep hb14
  have U14 := (Row.new w13 (vlC K1 0 0 L1) 23).keep hb14
  have hz_U : w.heap.size ≤ w13.heap.size := B13.out.size
  have h_AU : w.heap.size < w13.heap.size := A13.lt
  have h_TU : w.heap.size + 1 < w13.heap.size := T13.lt
  have h_XU : bx < w13.heap.size := X13.lt
  have h_YU : by' < w13.heap.size := Y13.lt
  clear hb14 A13 T13 X13 Y13
  generalize w13.heap.size = bu at *
  obtain ⟨a0, a1, a2, a3⟩ := A14.four
  have la := A14.lt
  obtain ⟨t0, t1, t2, t3, t4, t5⟩ := T14.sixT
  have lt := T14.lt
  obtain ⟨x0, x1, x2, x3⟩ := X14.four
  have lx := X14.lt
  obtain ⟨y0, y1, y2, y3⟩ := Y14.four
  have ly := Y14.lt
  obtain ⟨u0, u1, u2, u3⟩ := U14.four
  have lu := U14.lt
  have fx0 := X14.free 0
  have fx1 := X14.free 1
  have fx2 := X14.free 2
  have fx3 := X14.free 3
  have fy0 := Y14.free 0
  have fy1 := Y14.free 1
  have fy2 := Y14.free 2
  have fy3 := Y14.free 3
  clear u0 u1 u2 u3 lu U14
  go_wp2_with fail
  have As := A14.by4 (b := bx) (by omega) (.int .i64 K5) (.int .i64 0) (.int .i64 0) (.string L5)
  have Xs := X14.put4 (.int .i64 K5) (.int .i64 0) (.int .i64 0) (.string L5)
  have Ys := Y14.by4 (b := bx) (by omega) (.int .i64 K5) (.int .i64 0) (.int .i64 0) (.string L5)
  have Bs := Lib.hid (below4 (b := bx) B14.out (by omega) (.int .i64 K5) (.int .i64 0) (.int .i64 0) (.string L5))
  generalize ((((w14.setCell ⟨bx, 0, none⟩ (.int .i64 K5)).setCell ⟨bx, 1, none⟩ (.int .i64 0)).setCell ⟨bx, 2, none⟩ (.int .i64 0)).setCell ⟨bx, 3, none⟩ (.string L5)) = W14 at *
  go_at_call 13
  refine (H5.out.2 _).mono ?_
  rintro e w15 ⟨rfl, hb15⟩
  clear a0 a1 a2 a3 la t0 t1 t2 t3 t4 t5 lt x0 x1 x2 x3 lx fx0 fx1 fx2 fx3 y0 y1 y2 y3 ly fy0 fy1 fy2 fy3
  have B15 := Lib.hid (bl_then Bs.out hb15)
  have A15 := As.keep hb15
  have X15 := Xs.keep hb15
  have Y15 := Ys.keep hb15
  clear hb15 Bs As Xs Ys A14 T14 X14 Y14
  obtain ⟨a0, a1, a2, a3⟩ := A15.four
  have la := A15.lt
  obtain ⟨x0, x1, x2, x3⟩ := X15.four
  have lx := X15.lt
  obtain ⟨y0, y1, y2, y3⟩ := Y15.four
  have ly := Y15.lt
  have fx0 := X15.free 0
  have fx1 := X15.free 1
  have fx2 := X15.free 2
  have fx3 := X15.free 3
  have fy0 := Y15.free 0
  have fy1 := Y15.free 1
  have fy2 := Y15.free 2
  have fy3 := Y15.free 3
  go_wp2_with fail
  have As := A15.by4 (b := by') (by omega) (.int .i64 K5) (.int .i64 0) (.int .i64 0) (.string L5)
  have Xs := X15.by4 (b := by') (by omega) (.int .i64 K5) (.int .i64 0) (.int .i64 0) (.string L5)
  have Ys := Y15.put4 (.int .i64 K5) (.int .i64 0) (.int .i64 0) (.string L5)
  have Bs := Lib.hid (below4 (b := by') B15.out (by omega) (.int .i64 K5) (.int .i64 0) (.int .i64 0) (.string L5))
  generalize ((((w15.setCell ⟨by', 0, none⟩ (.int .i64 K5)).setCell ⟨by', 1, none⟩ (.int .i64 0)).setCell ⟨by', 2, none⟩ (.int .i64 0)).setCell ⟨by', 3, none⟩ (.string L5)) = W15 at *
  go_at_call 14
  refine (H6.out.1 _).mono ?_
  rintro e w16 ⟨rfl, hb16⟩
  clear a0 a1 a2 a3 la x0 x1 x2 x3 lx fx0 fx1 fx2 fx3 y0 y1 y2 y3 ly fy0 fy1 fy2 fy3
  have B16 := Lib.hid (bl_then Bs.out hb16)
  have A16 := As.keep hb16
  have X16 := Xs.keep hb16
  have Y16 := Ys.keep hb16
  clear hb16 Bs As Xs Ys A15 X15 Y15
  obtain ⟨a0, a1, a2, a3⟩ := A16.four
  have la := A16.lt
  obtain ⟨x0, x1, x2, x3⟩ := X16.four
  have lx := X16.lt
  obtain ⟨y0, y1, y2, y3⟩ := Y16.four
  have ly := Y16.lt
  have fx0 := X16.free 0
  have fx1 := X16.free 1
  have fx2 := X16.free 2
  have fx3 := X16.free 3
  have fy0 := Y16.free 0
  have fy1 := Y16.free 1
  have fy2 := Y16.free 2
  have fy3 := Y16.free 3
  go_wp2_with fail
  have As := A16.by4 (b := bx) (by omega) (.int .i64 K6) (.int .i64 0) (.int .i64 0) (.string L6)
  have Xs := X16.put4 (.int .i64 K6) (.int .i64 0) (.int .i64 0) (.string L6)
  have Ys := Y16.by4 (b := bx) (by omega) (.int .i64 K6) (.int .i64 0) (.int .i64 0) (.string L6)
  have Bs := Lib.hid (below4 (b := bx) B16.out (by omega) (.int .i64 K6) (.int .i64 0) (.int .i64 0) (.string L6))
  generalize ((((w16.setCell ⟨bx, 0, none⟩ (.int .i64 K6)).setCell ⟨bx, 1, none⟩ (.int .i64 0)).setCell ⟨bx, 2, none⟩ (.int .i64 0)).setCell ⟨bx, 3, none⟩ (.string L6)) = W16 at *
  go_at_call 15
  refine (H6.out.2 _).mono ?_
  rintro e w17 ⟨rfl, hb17⟩
  clear a0 a1 a2 a3 la x0 x1 x2 x3 lx fx0 fx1 fx2 fx3 y0 y1 y2 y3 ly fy0 fy1 fy2 fy3
  have B17 := Lib.hid (bl_then Bs.out hb17)
  have A17 := As.keep hb17
  have X17 := Xs.keep hb17
  have Y17 := Ys.keep hb17
  clear hb17 Bs As Xs Ys A16 X16 Y16
  obtain ⟨a0, a1, a2, a3⟩ := A17.four
  have la := A17.lt
  obtain ⟨x0, x1, x2, x3⟩ := X17.four
  have lx := X17.lt
  obtain ⟨y0, y1, y2, y3⟩ := Y17.four
  have ly := Y17.lt
  have fx0 := X17.free 0
  have fx1 := X17.free 1
  have fx2 := X17.free 2
  have fx3 := X17.free 3
  have fy0 := Y17.free 0
  have fy1 := Y17.free 1
  have fy2 := Y17.free 2
  have fy3 := Y17.free 3
  go_wp2_with fail
  have As := A17.by4 (b := by') (by omega) (.int .i64 K6) (.int .i64 0) (.int .i64 0) (.string L6)
  have Xs := X17.by4 (b := by') (by omega) (.int .i64 K6) (.int .i64 0) (.int .i64 0) (.string L6)
  have Bs := Lib.hid (below4 (b := by') B17.out (by omega) (.int .i64 K6) (.int .i64 0) (.int .i64 0) (.string L6))
  generalize ((((w17.setCell ⟨by', 0, none⟩ (.int .i64 K6)).setCell ⟨by', 1, none⟩ (.int .i64 0)).setCell ⟨by', 2, none⟩ (.int .i64 0)).setCell ⟨by', 3, none⟩ (.string L6)) = W17 at *
  go_at_call 14
  refine (H7.out _).mono ?_
  rintro e w18 ⟨rfl, hb18⟩
  clear a0 a1 a2 a3 la x0 x1 x2 x3 lx fx0 fx1 fx2 fx3 y0 y1 y2 y3 ly fy0 fy1 fy2 fy3
  have B18 := Lib.hid (bl_then Bs.out hb18)
  have A18 := As.keep hb18
  have X18 := Xs.keep hb18
  clear hb18 Bs As Xs A17 X17 Y17
  obtain ⟨a0, a1, a2, a3⟩ := A18.four
  have la := A18.lt
  obtain ⟨x0, x1, x2, x3⟩ := X18.four
  have lx := X18.lt
  have fx0 := X18.free 0
  have fx1 := X18.free 1
  have fx2 := X18.free 2
  have fx3 := X18.free 3
  go_wp2_with fail
  have As := A18.by4 (b := bx) (by omega) (.int .i64 ka) (.int .i64 0) (.int .i64 0) (.string s)
  have Xs := X18.put4 (.int .i64 ka) (.int .i64 0) (.int .i64 0) (.string s)
  have Bs := Lib.hid (below4 (b := bx) B18.out (by omega) (.int .i64 ka) (.int .i64 0) (.int .i64 0) (.string s))
  generalize ((((w18.setCell ⟨bx, 0, none⟩ (.int .i64 ka)).setCell ⟨bx, 1, none⟩ (.int .i64 0)).setCell ⟨bx, 2, none⟩ (.int .i64 0)).setCell ⟨bx, 3, none⟩ (.string s)) = W18 at *
  go_at_call 5
  refine (awake_any _).mono ?_
  rintro e w19 ⟨rfl, hb19⟩
  clear a0 a1 a2 a3 la x0 x1 x2 x3 lx fx0 fx1 fx2 fx3
  have B19 := Lib.hid (bl_then Bs.out hb19)
  have A19 := As.keep hb19
  have X19 := Xs.keep hb19
  clear hb19 Bs As Xs A18 X18
  obtain ⟨a0, a1, a2, a3⟩ := A19.four
  have la := A19.lt
  obtain ⟨x0, x1, x2, x3⟩ := X19.four
  have lx := X19.lt
  have fx0 := X19.free 0
  have fx1 := X19.free 1
  have fx2 := X19.free 2
  have fx3 := X19.free 3
  go_wp2
  go_ret
  exact ⟨ret_bool (by first | rfl | simp), B19.out⟩

set_option maxRecDepth 100000 in
set_option maxHeartbeats 16000000 in
theorem fits_rev (ka : Int) (s : ByteArray) (y p q n : Int) (vy : Bool) (pic : ByteArray) (w : World) (hs : s.size ≤ maxLen) (hl : ∀ x ∈ ([⟨ka, 0, 0, s⟩] : List Vl), x.light = true) (hpic : pic.size ≤ 300) (K1 : Int) (L1 : ByteArray) (C1 E1 K5 : Int) (L5 : ByteArray) (E5 K6 : Int) (L6 : ByteArray) (E6 : Int) (V0 Y0 : Bool)
    (h1 : TripF 6 7 #[vlV ka 0 0 s, tyV y p q n vy pic] K1 L1 C1 E1) (h2 : Same 8 9 #[vlV ka 0 0 s] V0) (h3 : Same 10 11 #[tyV y p q n vy pic] Y0)
    (h5 : Pair 12 13 #[vlV ka 0 0 s] K5 L5 E5) (h6 : Pair 14 15 #[vlV ka 0 0 s] K6 L6 E6) (hE1 : E1 ≠ 0) (hE6 : E6 = 0)
    (h7 : ∀ W, Calls Tryd.prog 14 #[vlV K6 0 0 L6] W fun e w' => e = .returned (.tuple #[vlV ka 0 0 s, .int .i64 0]) ∧ Below W.heap.size W w') :
    Calls Tryd.prog 3 #[vlV ka 0 0 s, tyV y p q n vy pic] w fun e w' => e = .returned (.bool true) ∧ Below w.heap.size w w' := by
  have e1 : (E1 == 0) = false := by simpa using hE1
  have e1' : (E1 != 0) = true := by simpa using hE1
  clear hE1
  subst hE6
  have HP : Hid (∀ x ∈ ([⟨ka, 0, 0, s⟩] : List Vl), x.s.size ≤ maxLen) := Lib.hid (vl1 (p := fun x : Vl => x.s.size ≤ maxLen) hs)
  have hG : Tryd.prog.eqGuardType Tryd.prog.depth 23 = false := by kernel_rfl
  have hE := vlEq
  clear hs
  have H1 := Lib.hid h1; have H2 := Lib.hid h2; have H3 := Lib.hid h3; have H5 := Lib.hid h5; have H6 := Lib.hid h6; have H7 := Lib.hid h7; have HL := Lib.hid hl
  clear h1 h2 h3 h5 h6 h7 hl
  have hp1 : decide (300 < (pic.size : Int)) = false := by simp only [decide_eq_false_iff_not]; omega
  have hp2 : decide (300 < pic.size) = false := by simp only [decide_eq_false_iff_not]; omega
  clear hpic
  go_enter Tryd.func3, Tryd.ntmps3
  have A0 := Row.new w (vlC ka 0 0 s) 23
  have T0 := Row.new2 w (.cells (vlC ka 0 0 s) 23) (tyC y p q n vy pic) 25
  obtain ⟨t0, t1, t2, t3, t4, t5⟩ := (T0.alloc (.cells (vlC ka 0 0 s) 23)).sixT
  go_wp2_with fail
  go_at_call 4
  refine (bLight_yes ([⟨ka, 0, 0, s⟩] : List Vl) (w.heap.size + 1 + 1) 0 1 _ (VlsAt.one (Row.new3 _ _ _ _ _)) (by simp) (by simp <;> omega) HP.out HL.out).mono ?_
  rintro e wl ⟨rfl, rfl⟩
  go_wp2_with fail
  go_at_call 6
  refine (H1.out.1 _).mono ?_
  rintro e w1 ⟨rfl, hb1⟩
  have B1 := Lib.hid (bl_box3 (Below.refl _ w) hb1)
  have A1 := ((A0.alloc _).alloc _).keep hb1
  clear t0 t1 t2 t3 t4 t5
  have T1 := (T0.alloc _).keep hb1
  clear hb1 A0 T0
  obtain ⟨a0, a1, a2, a3⟩ := A1.four
  have la := A1.lt
  obtain ⟨t0, t1, t2, t3, t4, t5⟩ := T1.sixT
  have lt := T1.lt
  go_wp2_with fail
  go_at_call 7
  refine (H1.out.2 _).mono ?_
  rintro e w2 ⟨rfl, hb2⟩
  clear a0 a1 a2 a3 la t0 t1 t2 t3 t4 t5 lt
  have B2 := Lib.hid (bl_box B1.out hb2)
  have A2 := (A1.alloc _).keep hb2
  have T2 := (T1.alloc _).keep hb2
  have X2 := (Row.new w1 (vlC K1 0 0 L1) 23).keep hb2
  have hz_X : w.heap.size ≤ w1.heap.size := B1.out.size
  have h_AX : w.heap.size < w1.heap.size := A1.lt
  have h_TX : w.heap.size + 1 < w1.heap.size := T1.lt
  clear hb2 A1 T1
  generalize w1.heap.size = bx at *
  have : ¬ bx = w.heap.size := by omega
  have : ¬ w.heap.size = bx := by omega
  have : ¬ bx = w.heap.size + 1 := by omega
  have : ¬ w.heap.size + 1 = bx := by omega
  obtain ⟨a0, a1, a2, a3⟩ := A2.four
  have la := A2.lt
  obtain ⟨t0, t1, t2, t3, t4, t5⟩ := T2.sixT
  have lt := T2.lt
  obtain ⟨x0, x1, x2, x3⟩ := X2.four
  have lx := X2.lt
  have fx0 := X2.free 0
  have fx1 := X2.free 1
  have fx2 := X2.free 2
  have fx3 := X2.free 3
  go_wp2
  have A8 := A2.alloc (.cells (vlC K1 0 0 L1) 23)
  have T8 := T2.alloc (.cells (vlC K1 0 0 L1) 23)
  have X8 := X2.alloc (.cells (vlC K1 0 0 L1) 23)
  have Y8 := Row.new w2 (vlC K1 0 0 L1) 23
  have B8 := Lib.hid (B2.out.alloc B2.out.size (.cells (vlC K1 0 0 L1) 23))
  have h_AY : w.heap.size < w2.heap.size := A2.lt
  have h_TY : w.heap.size + 1 < w2.heap.size := T2.lt
  have h_XY : bx < w2.heap.size := X2.lt
  have hz_Y : w.heap.size ≤ w2.heap.size := B2.out.size
  clear a0 a1 a2 a3 la t0 t1 t2 t3 t4 t5 lt x0 x1 x2 x3 lx fx0 fx1 fx2 fx3
  clear A2 T2 X2
  generalize w2.alloc (.cells (vlC K1 0 0 L1) 23) = W8 at *
  generalize w2.heap.size = by' at *
  have : ¬ by' = w.heap.size := by omega
  have : ¬ w.heap.size = by' := by omega
  have : ¬ by' = w.heap.size + 1 := by omega
  have : ¬ w.heap.size + 1 = by' := by omega
  have : ¬ by' = bx := by omega
  have : ¬ bx = by' := by omega
  obtain ⟨a0, a1, a2, a3⟩ := A8.four
  obtain ⟨t0, t1, t2, t3, t4, t5⟩ := T8.sixT
  obtain ⟨x0, x1, x2, x3⟩ := X8.four
  obtain ⟨y0, y1, y2, y3⟩ := Y8.four
  go_region_held3 (fun w' => (w'.cell? ⟨w.heap.size, 0, none⟩ = some (.int .i64 ka) ∧ w'.cell? ⟨w.heap.size, 1, none⟩ = some (.int .i64 0) ∧ w'.cell? ⟨w.heap.size, 2, none⟩ = some (.int .i64 0) ∧ w'.cell? ⟨w.heap.size, 3, none⟩ = some (.string s)) ∧ (w'.cell? ⟨w.heap.size + 1, 0, none⟩ = some (.int .i64 y) ∧ w'.cell? ⟨w.heap.size + 1, 1, none⟩ = some (.int .i64 p) ∧ w'.cell? ⟨w.heap.size + 1, 2, none⟩ = some (.int .i64 q) ∧ w'.cell? ⟨w.heap.size + 1, 3, none⟩ = some (.int .i64 n) ∧ w'.cell? ⟨w.heap.size + 1, 4, none⟩ = some (.bool vy) ∧ w'.cell? ⟨w.heap.size + 1, 5, none⟩ = some (.string pic)) ∧ (w'.cell? ⟨bx, 0, none⟩ = some (.int .i64 K1) ∧ w'.cell? ⟨bx, 1, none⟩ = some (.int .i64 0) ∧ w'.cell? ⟨bx, 2, none⟩ = some (.int .i64 0) ∧ w'.cell? ⟨bx, 3, none⟩ = some (.string L1)) ∧ (w'.cell? ⟨by', 0, none⟩ = some (.int .i64 K1) ∧ w'.cell? ⟨by', 1, none⟩ = some (.int .i64 0) ∧ w'.cell? ⟨by', 2, none⟩ = some (.int .i64 0) ∧ w'.cell? ⟨by', 3, none⟩ = some (.string L1)))
    (first | go_keep | exact ⟨A12.four, T12.sixT, X12.four, Y12.four⟩ | exact ⟨A11.four, T11.sixT, X11.four, Y11.four⟩ | exact ⟨A10.four, T10.sixT, X10.four, Y10.four⟩ | exact ⟨A9.four, T9.sixT, X9.four, Y9.four⟩)
    (first
      | (go_at_call 8; refine (H2.out.1 _).mono ?_; rintro e w9 ⟨rfl, hb9⟩; have A9 := A8.keep (bl_drew hb9); have T9 := T8.keep (bl_drew hb9); have X9 := X8.keep (bl_drew hb9); have Y9 := Y8.keep (bl_drew hb9); have B9 := Lib.hid (bl_then B8.out (bl_drew hb9)))
      | (go_at_call 9; refine (H2.out.2 _).mono ?_; rintro e w10 ⟨rfl, hb10⟩; have A10 := A9.keep hb10; have T10 := T9.keep hb10; have X10 := X9.keep hb10; have Y10 := Y9.keep hb10; have B10 := Lib.hid (bl_then B9.out hb10))
      | (go_at_call 10; refine (H3.out.1 _).mono ?_; rintro e w11 ⟨rfl, hb11⟩; have A11 := A10.keep hb11; have T11 := T10.keep hb11; have X11 := X10.keep hb11; have Y11 := Y10.keep hb11; have B11 := Lib.hid (bl_then B10.out hb11))
      | (go_at_call 11; refine (H3.out.2 _).mono ?_; rintro e w12 ⟨rfl, hb12⟩; have A12 := A11.keep hb12; have T12 := T11.keep hb12; have X12 := X11.keep hb12; have Y12 := Y11.keep hb12; have B12 := Lib.hid (bl_then B11.out hb12)))
  clear t0 t1 t2 t3 t4 t5 a0 a1 a2 a3 x0 x1 x2 x3 y0 y1 y2 y3
  obtain ⟨a0, a1, a2, a3⟩ := A12.four
  have la := A12.lt
  obtain ⟨t0, t1, t2, t3, t4, t5⟩ := T12.sixT
  have lt := T12.lt
  obtain ⟨x0, x1, x2, x3⟩ := X12.four
  have lx := X12.lt
  obtain ⟨y0, y1, y2, y3⟩ := Y12.four
  have ly := Y12.lt
  have fx0 := X12.free 0
  have fx1 := X12.free 1
  have fx2 := X12.free 2
  have fx3 := X12.free 3
  have fy0 := Y12.free 0
  have fy1 := Y12.free 1
  have fy2 := Y12.free 2
  have fy3 := Y12.free 3
  go_wp2_with fail
  go_at_call 12
  refine (H5.out.1 _).mono ?_
  rintro e w13 ⟨rfl, hb13⟩
  clear a0 a1 a2 a3 la t0 t1 t2 t3 t4 t5 lt x0 x1 x2 x3 lx fx0 fx1 fx2 fx3 y0 y1 y2 y3 ly fy0 fy1 fy2 fy3
  have B13 := Lib.hid (bl_then B12.out hb13)
  have A13 := A12.keep hb13
  have T13 := T12.keep hb13
  have X13 := X12.keep hb13
  have Y13 := Y12.keep hb13
  clear hb13 A12 T12 X12 Y12
  obtain ⟨a0, a1, a2, a3⟩ := A13.four
  have la := A13.lt
  obtain ⟨t0, t1, t2, t3, t4, t5⟩ := T13.sixT
  have lt := T13.lt
  obtain ⟨x0, x1, x2, x3⟩ := X13.four
  have lx := X13.lt
  obtain ⟨y0, y1, y2, y3⟩ := Y13.four
  have ly := Y13.lt
  have fx0 := X13.free 0
  have fx1 := X13.free 1
  have fx2 := X13.free 2
  have fx3 := X13.free 3
  have fy0 := Y13.free 0
  have fy1 := Y13.free 1
  have fy2 := Y13.free 2
  have fy3 := Y13.free 3
  go_wp2_with fail
  have As := A13.by4 (b := bx) (by omega) (.int .i64 K5) (.int .i64 0) (.int .i64 0) (.string L5)
  have Xs := X13.put4 (.int .i64 K5) (.int .i64 0) (.int .i64 0) (.string L5)
  have Ys := Y13.by4 (b := bx) (by omega) (.int .i64 K5) (.int .i64 0) (.int .i64 0) (.string L5)
  have Bs := Lib.hid (below4 (b := bx) B13.out (by omega) (.int .i64 K5) (.int .i64 0) (.int .i64 0) (.string L5))
  generalize ((((w13.setCell ⟨bx, 0, none⟩ (.int .i64 K5)).setCell ⟨bx, 1, none⟩ (.int .i64 0)).setCell ⟨bx, 2, none⟩ (.int .i64 0)).setCell ⟨bx, 3, none⟩ (.string L5)) = W13 at *
  go_at_call 13
  refine (H5.out.2 _).mono ?_
  rintro e w14 ⟨rfl, hb14⟩
  clear a0 a1 a2 a3 la t0 t1 t2 t3 t4 t5 lt x0 x1 x2 x3 lx fx0 fx1 fx2 fx3 y0 y1 y2 y3 ly fy0 fy1 fy2 fy3
  have B14 := Lib.hid (bl_then Bs.out hb14)
  have A14 := As.keep hb14
  have X14 := Xs.keep hb14
  have Y14 := Ys.keep hb14
  clear hb14 Bs As Xs Ys A13 T13 X13 Y13
  obtain ⟨a0, a1, a2, a3⟩ := A14.four
  have la := A14.lt
  obtain ⟨x0, x1, x2, x3⟩ := X14.four
  have lx := X14.lt
  obtain ⟨y0, y1, y2, y3⟩ := Y14.four
  have ly := Y14.lt
  have fx0 := X14.free 0
  have fx1 := X14.free 1
  have fx2 := X14.free 2
  have fx3 := X14.free 3
  have fy0 := Y14.free 0
  have fy1 := Y14.free 1
  have fy2 := Y14.free 2
  have fy3 := Y14.free 3
  go_wp2_with fail
  have As := A14.by4 (b := by') (by omega) (.int .i64 K5) (.int .i64 0) (.int .i64 0) (.string L5)
  have Xs := X14.by4 (b := by') (by omega) (.int .i64 K5) (.int .i64 0) (.int .i64 0) (.string L5)
  have Ys := Y14.put4 (.int .i64 K5) (.int .i64 0) (.int .i64 0) (.string L5)
  have Bs := Lib.hid (below4 (b := by') B14.out (by omega) (.int .i64 K5) (.int .i64 0) (.int .i64 0) (.string L5))
  generalize ((((w14.setCell ⟨by', 0, none⟩ (.int .i64 K5)).setCell ⟨by', 1, none⟩ (.int .i64 0)).setCell ⟨by', 2, none⟩ (.int .i64 0)).setCell ⟨by', 3, none⟩ (.string L5)) = W14 at *
  go_at_call 14
  refine (H6.out.1 _).mono ?_
  rintro e w15 ⟨rfl, hb15⟩
  clear a0 a1 a2 a3 la x0 x1 x2 x3 lx fx0 fx1 fx2 fx3 y0 y1 y2 y3 ly fy0 fy1 fy2 fy3
  have B15 := Lib.hid (bl_then Bs.out hb15)
  have A15 := As.keep hb15
  have X15 := Xs.keep hb15
  have Y15 := Ys.keep hb15
  clear hb15 Bs As Xs Ys A14 X14 Y14
  obtain ⟨a0, a1, a2, a3⟩ := A15.four
  have la := A15.lt
  obtain ⟨x0, x1, x2, x3⟩ := X15.four
  have lx := X15.lt
  obtain ⟨y0, y1, y2, y3⟩ := Y15.four
  have ly := Y15.lt
  have fx0 := X15.free 0
  have fx1 := X15.free 1
  have fx2 := X15.free 2
  have fx3 := X15.free 3
  have fy0 := Y15.free 0
  have fy1 := Y15.free 1
  have fy2 := Y15.free 2
  have fy3 := Y15.free 3
  go_wp2_with fail
  have As := A15.by4 (b := bx) (by omega) (.int .i64 K6) (.int .i64 0) (.int .i64 0) (.string L6)
  have Xs := X15.put4 (.int .i64 K6) (.int .i64 0) (.int .i64 0) (.string L6)
  have Ys := Y15.by4 (b := bx) (by omega) (.int .i64 K6) (.int .i64 0) (.int .i64 0) (.string L6)
  have Bs := Lib.hid (below4 (b := bx) B15.out (by omega) (.int .i64 K6) (.int .i64 0) (.int .i64 0) (.string L6))
  generalize ((((w15.setCell ⟨bx, 0, none⟩ (.int .i64 K6)).setCell ⟨bx, 1, none⟩ (.int .i64 0)).setCell ⟨bx, 2, none⟩ (.int .i64 0)).setCell ⟨bx, 3, none⟩ (.string L6)) = W15 at *
  go_at_call 15
  refine (H6.out.2 _).mono ?_
  rintro e w16 ⟨rfl, hb16⟩
  clear a0 a1 a2 a3 la x0 x1 x2 x3 lx fx0 fx1 fx2 fx3 y0 y1 y2 y3 ly fy0 fy1 fy2 fy3
  have B16 := Lib.hid (bl_then Bs.out hb16)
  have A16 := As.keep hb16
  have X16 := Xs.keep hb16
  have Y16 := Ys.keep hb16
  clear hb16 Bs As Xs Ys A15 X15 Y15
  obtain ⟨a0, a1, a2, a3⟩ := A16.four
  have la := A16.lt
  obtain ⟨x0, x1, x2, x3⟩ := X16.four
  have lx := X16.lt
  obtain ⟨y0, y1, y2, y3⟩ := Y16.four
  have ly := Y16.lt
  have fx0 := X16.free 0
  have fx1 := X16.free 1
  have fx2 := X16.free 2
  have fx3 := X16.free 3
  have fy0 := Y16.free 0
  have fy1 := Y16.free 1
  have fy2 := Y16.free 2
  have fy3 := Y16.free 3
  go_wp2_with fail
  have As := A16.by4 (b := by') (by omega) (.int .i64 K6) (.int .i64 0) (.int .i64 0) (.string L6)
  have Xs := X16.by4 (b := by') (by omega) (.int .i64 K6) (.int .i64 0) (.int .i64 0) (.string L6)
  have Bs := Lib.hid (below4 (b := by') B16.out (by omega) (.int .i64 K6) (.int .i64 0) (.int .i64 0) (.string L6))
  generalize ((((w16.setCell ⟨by', 0, none⟩ (.int .i64 K6)).setCell ⟨by', 1, none⟩ (.int .i64 0)).setCell ⟨by', 2, none⟩ (.int .i64 0)).setCell ⟨by', 3, none⟩ (.string L6)) = W16 at *
  go_at_call 14
  refine (H7.out _).mono ?_
  rintro e w17 ⟨rfl, hb17⟩
  clear a0 a1 a2 a3 la x0 x1 x2 x3 lx fx0 fx1 fx2 fx3 y0 y1 y2 y3 ly fy0 fy1 fy2 fy3
  have B17 := Lib.hid (bl_then Bs.out hb17)
  have A17 := As.keep hb17
  have X17 := Xs.keep hb17
  clear hb17 Bs As Xs A16 X16 Y16
  obtain ⟨a0, a1, a2, a3⟩ := A17.four
  have la := A17.lt
  obtain ⟨x0, x1, x2, x3⟩ := X17.four
  have lx := X17.lt
  have fx0 := X17.free 0
  have fx1 := X17.free 1
  have fx2 := X17.free 2
  have fx3 := X17.free 3
  go_wp2_with fail
  have As := A17.by4 (b := bx) (by omega) (.int .i64 ka) (.int .i64 0) (.int .i64 0) (.string s)
  have Xs := X17.put4 (.int .i64 ka) (.int .i64 0) (.int .i64 0) (.string s)
  have Bs := Lib.hid (below4 (b := bx) B17.out (by omega) (.int .i64 ka) (.int .i64 0) (.int .i64 0) (.string s))
  generalize ((((w17.setCell ⟨bx, 0, none⟩ (.int .i64 ka)).setCell ⟨bx, 1, none⟩ (.int .i64 0)).setCell ⟨bx, 2, none⟩ (.int .i64 0)).setCell ⟨bx, 3, none⟩ (.string s)) = W17 at *
  go_at_call 5
  refine (awake_any _).mono ?_
  rintro e w18 ⟨rfl, hb18⟩
  clear a0 a1 a2 a3 la x0 x1 x2 x3 lx fx0 fx1 fx2 fx3
  have B18 := Lib.hid (bl_then Bs.out hb18)
  have A18 := As.keep hb18
  have X18 := Xs.keep hb18
  clear hb18 Bs As Xs A17 X17
  obtain ⟨a0, a1, a2, a3⟩ := A18.four
  have la := A18.lt
  obtain ⟨x0, x1, x2, x3⟩ := X18.four
  have lx := X18.lt
  have fx0 := X18.free 0
  have fx1 := X18.free 1
  have fx2 := X18.free 2
  have fx3 := X18.free 3
  go_wp2
  go_ret
  exact ⟨ret_bool (by first | rfl | simp), B18.out⟩

set_option maxRecDepth 100000 in
set_option maxHeartbeats 16000000 in
theorem fits_err (a : Vl) (y p q n : Int) (vy : Bool) (pic : ByteArray) (w : World) (hs : a.s.size ≤ maxLen) (hl : ∀ x ∈ [a], x.light = true) (hpic : pic.size ≤ 300) (K1 : Int) (L1 : ByteArray) (C1 E1 K5 : Int) (L5 : ByteArray) (E5 K6 : Int) (L6 : ByteArray) (E6 : Int) (V0 Y0 : Bool)
    (h1 : TripF 6 7 #[a.v, tyV y p q n vy pic] K1 L1 C1 E1) (h2 : Same 8 9 #[a.v] V0) (h3 : Same 10 11 #[tyV y p q n vy pic] Y0)
    (h5 : Pair 12 13 #[a.v] K5 L5 E5) (h6 : Pair 14 15 #[a.v] K6 L6 E6) (hE1 : E1 ≠ 0) (hE6 : E6 ≠ 0) :
    Calls Tryd.prog 3 #[a.v, tyV y p q n vy pic] w fun e w' => e = .returned (.bool true) ∧ Below w.heap.size w w' := by
  have e1 : (E1 == 0) = false := by simpa using hE1
  have e1' : (E1 != 0) = true := by simpa using hE1
  clear hE1
  have e6 : (E6 == 0) = false := by simpa using hE6
  have e6' : (E6 != 0) = true := by simpa using hE6
  clear hE6
  have HP : Hid (∀ x ∈ [a], x.s.size ≤ maxLen) := Lib.hid (vl1 (p := fun x : Vl => x.s.size ≤ maxLen) hs)
  have hG : Tryd.prog.eqGuardType Tryd.prog.depth 23 = false := by kernel_rfl
  have hE := vlEq
  clear hs
  have H1 := Lib.hid h1; have H2 := Lib.hid h2; have H3 := Lib.hid h3; have H5 := Lib.hid h5; have H6 := Lib.hid h6; have HL := Lib.hid hl
  clear h1 h2 h3 h5 h6 hl
  have hp1 : decide (300 < (pic.size : Int)) = false := by simp only [decide_eq_false_iff_not]; omega
  have hp2 : decide (300 < pic.size) = false := by simp only [decide_eq_false_iff_not]; omega
  clear hpic
  go_enter Tryd.func3, Tryd.ntmps3
  have A0 := Row.new w (vlC a.k a.n a.q a.s) 23
  have T0 := Row.new2 w (.cells (vlC a.k a.n a.q a.s) 23) (tyC y p q n vy pic) 25
  obtain ⟨t0, t1, t2, t3, t4, t5⟩ := (T0.alloc (.cells (vlC a.k a.n a.q a.s) 23)).sixT
  go_wp2_with fail
  go_at_call 4
  refine (bLight_yes [a] (w.heap.size + 1 + 1) 0 1 _ (VlsAt.one (Row.new3 _ _ _ _ _)) (by simp) (by simp <;> omega) HP.out HL.out).mono ?_
  rintro e wl ⟨rfl, rfl⟩
  go_wp2_with fail
  go_at_call 6
  refine (H1.out.1 _).mono ?_
  rintro e w1 ⟨rfl, hb1⟩
  have B1 := Lib.hid (bl_box3 (Below.refl _ w) hb1)
  have A1 := ((A0.alloc _).alloc _).keep hb1
  clear t0 t1 t2 t3 t4 t5
  have T1 := (T0.alloc _).keep hb1
  clear hb1 A0 T0
  obtain ⟨a0, a1, a2, a3⟩ := A1.four
  have la := A1.lt
  obtain ⟨t0, t1, t2, t3, t4, t5⟩ := T1.sixT
  have lt := T1.lt
  go_wp2_with fail
  go_at_call 7
  refine (H1.out.2 _).mono ?_
  rintro e w2 ⟨rfl, hb2⟩
  clear a0 a1 a2 a3 la t0 t1 t2 t3 t4 t5 lt
  have B2 := Lib.hid (bl_box B1.out hb2)
  have A2 := (A1.alloc _).keep hb2
  have T2 := (T1.alloc _).keep hb2
  have X2 := (Row.new w1 (vlC K1 0 0 L1) 23).keep hb2
  have hz_X : w.heap.size ≤ w1.heap.size := B1.out.size
  have h_AX : w.heap.size < w1.heap.size := A1.lt
  have h_TX : w.heap.size + 1 < w1.heap.size := T1.lt
  clear hb2 A1 T1
  generalize w1.heap.size = bx at *
  have : ¬ bx = w.heap.size := by omega
  have : ¬ w.heap.size = bx := by omega
  have : ¬ bx = w.heap.size + 1 := by omega
  have : ¬ w.heap.size + 1 = bx := by omega
  obtain ⟨a0, a1, a2, a3⟩ := A2.four
  have la := A2.lt
  obtain ⟨t0, t1, t2, t3, t4, t5⟩ := T2.sixT
  have lt := T2.lt
  obtain ⟨x0, x1, x2, x3⟩ := X2.four
  have lx := X2.lt
  have fx0 := X2.free 0
  have fx1 := X2.free 1
  have fx2 := X2.free 2
  have fx3 := X2.free 3
  go_wp2
  have A8 := A2.alloc (.cells (vlC K1 0 0 L1) 23)
  have T8 := T2.alloc (.cells (vlC K1 0 0 L1) 23)
  have X8 := X2.alloc (.cells (vlC K1 0 0 L1) 23)
  have Y8 := Row.new w2 (vlC K1 0 0 L1) 23
  have B8 := Lib.hid (B2.out.alloc B2.out.size (.cells (vlC K1 0 0 L1) 23))
  have h_AY : w.heap.size < w2.heap.size := A2.lt
  have h_TY : w.heap.size + 1 < w2.heap.size := T2.lt
  have h_XY : bx < w2.heap.size := X2.lt
  have hz_Y : w.heap.size ≤ w2.heap.size := B2.out.size
  clear a0 a1 a2 a3 la t0 t1 t2 t3 t4 t5 lt x0 x1 x2 x3 lx fx0 fx1 fx2 fx3
  clear A2 T2 X2
  generalize w2.alloc (.cells (vlC K1 0 0 L1) 23) = W8 at *
  generalize w2.heap.size = by' at *
  have : ¬ by' = w.heap.size := by omega
  have : ¬ w.heap.size = by' := by omega
  have : ¬ by' = w.heap.size + 1 := by omega
  have : ¬ w.heap.size + 1 = by' := by omega
  have : ¬ by' = bx := by omega
  have : ¬ bx = by' := by omega
  obtain ⟨a0, a1, a2, a3⟩ := A8.four
  obtain ⟨t0, t1, t2, t3, t4, t5⟩ := T8.sixT
  obtain ⟨x0, x1, x2, x3⟩ := X8.four
  obtain ⟨y0, y1, y2, y3⟩ := Y8.four
  go_region_held3 (fun w' => (w'.cell? ⟨w.heap.size, 0, none⟩ = some (.int .i64 a.k) ∧ w'.cell? ⟨w.heap.size, 1, none⟩ = some (.int .i64 a.n) ∧ w'.cell? ⟨w.heap.size, 2, none⟩ = some (.int .i64 a.q) ∧ w'.cell? ⟨w.heap.size, 3, none⟩ = some (.string a.s)) ∧ (w'.cell? ⟨w.heap.size + 1, 0, none⟩ = some (.int .i64 y) ∧ w'.cell? ⟨w.heap.size + 1, 1, none⟩ = some (.int .i64 p) ∧ w'.cell? ⟨w.heap.size + 1, 2, none⟩ = some (.int .i64 q) ∧ w'.cell? ⟨w.heap.size + 1, 3, none⟩ = some (.int .i64 n) ∧ w'.cell? ⟨w.heap.size + 1, 4, none⟩ = some (.bool vy) ∧ w'.cell? ⟨w.heap.size + 1, 5, none⟩ = some (.string pic)) ∧ (w'.cell? ⟨bx, 0, none⟩ = some (.int .i64 K1) ∧ w'.cell? ⟨bx, 1, none⟩ = some (.int .i64 0) ∧ w'.cell? ⟨bx, 2, none⟩ = some (.int .i64 0) ∧ w'.cell? ⟨bx, 3, none⟩ = some (.string L1)) ∧ (w'.cell? ⟨by', 0, none⟩ = some (.int .i64 K1) ∧ w'.cell? ⟨by', 1, none⟩ = some (.int .i64 0) ∧ w'.cell? ⟨by', 2, none⟩ = some (.int .i64 0) ∧ w'.cell? ⟨by', 3, none⟩ = some (.string L1)))
    (first | go_keep | exact ⟨A12.four, T12.sixT, X12.four, Y12.four⟩ | exact ⟨A11.four, T11.sixT, X11.four, Y11.four⟩ | exact ⟨A10.four, T10.sixT, X10.four, Y10.four⟩ | exact ⟨A9.four, T9.sixT, X9.four, Y9.four⟩)
    (first
      | (go_at_call 8; refine (H2.out.1 _).mono ?_; rintro e w9 ⟨rfl, hb9⟩; have A9 := A8.keep (bl_drew hb9); have T9 := T8.keep (bl_drew hb9); have X9 := X8.keep (bl_drew hb9); have Y9 := Y8.keep (bl_drew hb9); have B9 := Lib.hid (bl_then B8.out (bl_drew hb9)))
      | (go_at_call 9; refine (H2.out.2 _).mono ?_; rintro e w10 ⟨rfl, hb10⟩; have A10 := A9.keep hb10; have T10 := T9.keep hb10; have X10 := X9.keep hb10; have Y10 := Y9.keep hb10; have B10 := Lib.hid (bl_then B9.out hb10))
      | (go_at_call 10; refine (H3.out.1 _).mono ?_; rintro e w11 ⟨rfl, hb11⟩; have A11 := A10.keep hb11; have T11 := T10.keep hb11; have X11 := X10.keep hb11; have Y11 := Y10.keep hb11; have B11 := Lib.hid (bl_then B10.out hb11))
      | (go_at_call 11; refine (H3.out.2 _).mono ?_; rintro e w12 ⟨rfl, hb12⟩; have A12 := A11.keep hb12; have T12 := T11.keep hb12; have X12 := X11.keep hb12; have Y12 := Y11.keep hb12; have B12 := Lib.hid (bl_then B11.out hb12)))
  clear t0 t1 t2 t3 t4 t5 a0 a1 a2 a3 x0 x1 x2 x3 y0 y1 y2 y3
  obtain ⟨a0, a1, a2, a3⟩ := A12.four
  have la := A12.lt
  obtain ⟨t0, t1, t2, t3, t4, t5⟩ := T12.sixT
  have lt := T12.lt
  obtain ⟨x0, x1, x2, x3⟩ := X12.four
  have lx := X12.lt
  obtain ⟨y0, y1, y2, y3⟩ := Y12.four
  have ly := Y12.lt
  have fx0 := X12.free 0
  have fx1 := X12.free 1
  have fx2 := X12.free 2
  have fx3 := X12.free 3
  have fy0 := Y12.free 0
  have fy1 := Y12.free 1
  have fy2 := Y12.free 2
  have fy3 := Y12.free 3
  go_wp2_with fail
  go_at_call 12
  refine (H5.out.1 _).mono ?_
  rintro e w13 ⟨rfl, hb13⟩
  clear a0 a1 a2 a3 la t0 t1 t2 t3 t4 t5 lt x0 x1 x2 x3 lx fx0 fx1 fx2 fx3 y0 y1 y2 y3 ly fy0 fy1 fy2 fy3
  have B13 := Lib.hid (bl_then B12.out hb13)
  have A13 := A12.keep hb13
  have T13 := T12.keep hb13
  have X13 := X12.keep hb13
  have Y13 := Y12.keep hb13
  clear hb13 A12 T12 X12 Y12
  obtain ⟨a0, a1, a2, a3⟩ := A13.four
  have la := A13.lt
  obtain ⟨t0, t1, t2, t3, t4, t5⟩ := T13.sixT
  have lt := T13.lt
  obtain ⟨x0, x1, x2, x3⟩ := X13.four
  have lx := X13.lt
  obtain ⟨y0, y1, y2, y3⟩ := Y13.four
  have ly := Y13.lt
  have fx0 := X13.free 0
  have fx1 := X13.free 1
  have fx2 := X13.free 2
  have fx3 := X13.free 3
  have fy0 := Y13.free 0
  have fy1 := Y13.free 1
  have fy2 := Y13.free 2
  have fy3 := Y13.free 3
  go_wp2_with fail
  have As := A13.by4 (b := bx) (by omega) (.int .i64 K5) (.int .i64 0) (.int .i64 0) (.string L5)
  have Xs := X13.put4 (.int .i64 K5) (.int .i64 0) (.int .i64 0) (.string L5)
  have Ys := Y13.by4 (b := bx) (by omega) (.int .i64 K5) (.int .i64 0) (.int .i64 0) (.string L5)
  have Bs := Lib.hid (below4 (b := bx) B13.out (by omega) (.int .i64 K5) (.int .i64 0) (.int .i64 0) (.string L5))
  generalize ((((w13.setCell ⟨bx, 0, none⟩ (.int .i64 K5)).setCell ⟨bx, 1, none⟩ (.int .i64 0)).setCell ⟨bx, 2, none⟩ (.int .i64 0)).setCell ⟨bx, 3, none⟩ (.string L5)) = W13 at *
  go_at_call 13
  refine (H5.out.2 _).mono ?_
  rintro e w14 ⟨rfl, hb14⟩
  clear a0 a1 a2 a3 la t0 t1 t2 t3 t4 t5 lt x0 x1 x2 x3 lx fx0 fx1 fx2 fx3 y0 y1 y2 y3 ly fy0 fy1 fy2 fy3
  have B14 := Lib.hid (bl_then Bs.out hb14)
  have A14 := As.keep hb14
  have X14 := Xs.keep hb14
  have Y14 := Ys.keep hb14
  clear hb14 Bs As Xs Ys A13 T13 X13 Y13
  obtain ⟨a0, a1, a2, a3⟩ := A14.four
  have la := A14.lt
  obtain ⟨x0, x1, x2, x3⟩ := X14.four
  have lx := X14.lt
  obtain ⟨y0, y1, y2, y3⟩ := Y14.four
  have ly := Y14.lt
  have fx0 := X14.free 0
  have fx1 := X14.free 1
  have fx2 := X14.free 2
  have fx3 := X14.free 3
  have fy0 := Y14.free 0
  have fy1 := Y14.free 1
  have fy2 := Y14.free 2
  have fy3 := Y14.free 3
  go_wp2_with fail
  have As := A14.by4 (b := by') (by omega) (.int .i64 K5) (.int .i64 0) (.int .i64 0) (.string L5)
  have Xs := X14.by4 (b := by') (by omega) (.int .i64 K5) (.int .i64 0) (.int .i64 0) (.string L5)
  have Ys := Y14.put4 (.int .i64 K5) (.int .i64 0) (.int .i64 0) (.string L5)
  have Bs := Lib.hid (below4 (b := by') B14.out (by omega) (.int .i64 K5) (.int .i64 0) (.int .i64 0) (.string L5))
  generalize ((((w14.setCell ⟨by', 0, none⟩ (.int .i64 K5)).setCell ⟨by', 1, none⟩ (.int .i64 0)).setCell ⟨by', 2, none⟩ (.int .i64 0)).setCell ⟨by', 3, none⟩ (.string L5)) = W14 at *
  go_at_call 14
  refine (H6.out.1 _).mono ?_
  rintro e w15 ⟨rfl, hb15⟩
  clear a0 a1 a2 a3 la x0 x1 x2 x3 lx fx0 fx1 fx2 fx3 y0 y1 y2 y3 ly fy0 fy1 fy2 fy3
  have B15 := Lib.hid (bl_then Bs.out hb15)
  have A15 := As.keep hb15
  have X15 := Xs.keep hb15
  have Y15 := Ys.keep hb15
  clear hb15 Bs As Xs Ys A14 X14 Y14
  obtain ⟨a0, a1, a2, a3⟩ := A15.four
  have la := A15.lt
  obtain ⟨x0, x1, x2, x3⟩ := X15.four
  have lx := X15.lt
  obtain ⟨y0, y1, y2, y3⟩ := Y15.four
  have ly := Y15.lt
  have fx0 := X15.free 0
  have fx1 := X15.free 1
  have fx2 := X15.free 2
  have fx3 := X15.free 3
  have fy0 := Y15.free 0
  have fy1 := Y15.free 1
  have fy2 := Y15.free 2
  have fy3 := Y15.free 3
  go_wp2_with fail
  have As := A15.by4 (b := bx) (by omega) (.int .i64 K6) (.int .i64 0) (.int .i64 0) (.string L6)
  have Xs := X15.put4 (.int .i64 K6) (.int .i64 0) (.int .i64 0) (.string L6)
  have Ys := Y15.by4 (b := bx) (by omega) (.int .i64 K6) (.int .i64 0) (.int .i64 0) (.string L6)
  have Bs := Lib.hid (below4 (b := bx) B15.out (by omega) (.int .i64 K6) (.int .i64 0) (.int .i64 0) (.string L6))
  generalize ((((w15.setCell ⟨bx, 0, none⟩ (.int .i64 K6)).setCell ⟨bx, 1, none⟩ (.int .i64 0)).setCell ⟨bx, 2, none⟩ (.int .i64 0)).setCell ⟨bx, 3, none⟩ (.string L6)) = W15 at *
  go_at_call 15
  refine (H6.out.2 _).mono ?_
  rintro e w16 ⟨rfl, hb16⟩
  clear a0 a1 a2 a3 la x0 x1 x2 x3 lx fx0 fx1 fx2 fx3 y0 y1 y2 y3 ly fy0 fy1 fy2 fy3
  have B16 := Lib.hid (bl_then Bs.out hb16)
  have A16 := As.keep hb16
  have X16 := Xs.keep hb16
  have Y16 := Ys.keep hb16
  clear hb16 Bs As Xs Ys A15 X15 Y15
  obtain ⟨a0, a1, a2, a3⟩ := A16.four
  have la := A16.lt
  obtain ⟨x0, x1, x2, x3⟩ := X16.four
  have lx := X16.lt
  obtain ⟨y0, y1, y2, y3⟩ := Y16.four
  have ly := Y16.lt
  have fx0 := X16.free 0
  have fx1 := X16.free 1
  have fx2 := X16.free 2
  have fx3 := X16.free 3
  have fy0 := Y16.free 0
  have fy1 := Y16.free 1
  have fy2 := Y16.free 2
  have fy3 := Y16.free 3
  go_wp2_with fail
  have Bs := Lib.hid (below4 (b := by') B16.out (by omega) (.int .i64 K6) (.int .i64 0) (.int .i64 0) (.string L6))
  generalize ((((w16.setCell ⟨by', 0, none⟩ (.int .i64 K6)).setCell ⟨by', 1, none⟩ (.int .i64 0)).setCell ⟨by', 2, none⟩ (.int .i64 0)).setCell ⟨by', 3, none⟩ (.string L6)) = W16 at *
  go_at_call 5
  refine (awake_any _).mono ?_
  rintro e w17 ⟨rfl, hb17⟩
  clear a0 a1 a2 a3 la x0 x1 x2 x3 lx fx0 fx1 fx2 fx3 y0 y1 y2 y3 ly fy0 fy1 fy2 fy3
  have B17 := Lib.hid (bl_then Bs.out hb17)
  clear hb17 Bs  A16 X16 Y16
  go_wp2
  go_ret
  exact ⟨rfl, B17.out⟩

theorem pair_of {F G : Nat} {args : Array Value} {E k : Int} {l : List UInt8} (h1 : ∀ W, Calls Tryd.prog F args W fun e w' => e = .returned (.tuple #[orV E k l, .int .i64 E]) ∧ Below W.heap.size W w')
    (h2 : ∀ W, Calls Tryd.prog G args W fun e w' => e = .returned (.tuple #[orV E k l, .int .i64 E]) ∧ Below W.heap.size W w') :
    Pair F G args (if E = 0 then k else 0) (if E = 0 then bsz l else ⟨#[]⟩) E := ⟨h1, h2⟩
theorem trip_of {F G : Nat} {args : Array Value} {E k C : Int} {l : List UInt8} (h1 : ∀ W, Calls Tryd.prog F args W fun e w' => e = .returned (.tuple #[orV E k l, .int .i64 (orI E C), .int .i64 E]) ∧ Below W.heap.size W w')
    (h2 : ∀ W, Calls Tryd.prog G args W fun e w' => e = .returned (.tuple #[orV E k l, .int .i64 (orI E C), .int .i64 E]) ∧ Below W.heap.size W w') :
    TripF F G args (if E = 0 then k else 0) (if E = 0 then bsz l else ⟨#[]⟩) (orI E C) E := ⟨h1, h2⟩

theorem fits_any (a : Vl) (y p q n : Int) (vy : Bool) (pic : ByteArray) (w : World) (hs : a.s.size ≤ maxLen) (hz : pic.size ≤ maxLen) :
    Calls Tryd.prog 3 #[a.v, tyV y p q n vy pic] w fun e w' => e = .returned (.bool true) ∧ Below w.heap.size w w' := by
  by_cases hl : ∀ x ∈ [a], x.light = true
  · by_cases hpic : pic.size ≤ 300
    · have t1 := trip_of (fun W => bFit_any a y p q n vy pic W hs) (fun W => rFit_any a y p q n vy pic W hs)
      have t2 : Same 8 9 #[a.v] a.ok := ⟨fun W => bValid_any _ _ _ _ W hs, fun W => rValid_any _ _ _ _ W hs⟩
      have t3 : Same 10 11 #[tyV y p q n vy pic] (okY y p q n pic.data.toList) := ⟨fun W => bValidType_any _ _ _ _ _ _ W, fun W => rValidType_any _ _ _ _ _ _ W⟩
      have t5 := pair_of (fun W => bTrim_any a W hs) (fun W => rTrim_any a W hs)
      have t6 := pair_of (fun W => bRev_any a W hs) (fun W => rRev_any a W hs)
      cases ho : a.ok with
      | false =>
        have e6 : strE a ≠ 0 := by rw [strE, ho]; decide
        have e1 : fitE a y p q n pic.data.toList ≠ 0 := fun h => by have := (fitE_ok h).2.1; rw [ho] at this; cases this
        exact fits_err a y p q n vy pic w hs hl hpic _ _ _ _ _ _ _ _ _ _ _ _ t1 t2 t3 t5 t6 e1 e6
      | true =>
        have e6 : strE a = 0 := by rw [strE, ho]; rfl
        rw [e6] at t6
        obtain ⟨ka, na, qa, s⟩ := a
        obtain ⟨z1, z2, ta⟩ := okV_eq ho
        obtain rfl : na = 0 := z1
        obtain rfl : qa = 0 := z2
        have tr : okT ka s.data.toList.reverse = true := reverse_ok ta
        have orr : Vl.ok ⟨ka, 0, 0, bsz s.data.toList.reverse⟩ = true := okV_mk tr
        have lr : (bsz s.data.toList.reverse).size ≤ maxLen := by rw [bsz_size, List.length_reverse, lsz]; exact hs
        have h7 : ∀ W, Calls Tryd.prog 14 #[vlV ka 0 0 (bsz s.data.toList.reverse)] W fun e w' => e = .returned (.tuple #[vlV ka 0 0 s, .int .i64 0]) ∧ Below W.heap.size W w' := fun W =>
          (bRev_any ⟨ka, 0, 0, bsz s.data.toList.reverse⟩ W lr).mono fun e w' ⟨he, hb⟩ => ⟨he.trans (by
            rw [show strE ⟨ka, 0, 0, bsz s.data.toList.reverse⟩ = 0 by rw [strE, orr]; rfl]
            show Ending.returned (.tuple #[vlV ka 0 0 (bsz s.data.toList.reverse.reverse), .int .i64 0]) = _
            rw [List.reverse_reverse]), hb⟩
        by_cases h1 : fitE ⟨ka, 0, 0, s⟩ y p q n pic.data.toList = 0
        · obtain ⟨oy, _, ok⟩ := fitE_ok h1
          obtain ⟨n0, n1⟩ := okY_len oy
          have tf : okT ka (fitL ka s.data.toList n.toNat vy) = true := fitL_ok ta (by omega)
          have of' : Vl.ok ⟨ka, 0, 0, bsz (fitL ka s.data.toList n.toNat vy)⟩ = true := okV_mk tf
          have lf : (bsz (fitL ka s.data.toList n.toNat vy)).size ≤ maxLen := by rw [bsz_size]; have := okT_len tf; unfold maxLen; omega
          have hky : (Vl.mk ka 0 0 (bsz (fitL ka s.data.toList n.toNat vy))).is y = true := by
            have : ka = y := ok
            rw [Vl.is, this]; simp
          rw [h1] at t1
          have h4 : ∀ W, Calls Tryd.prog 6 #[vlV ka 0 0 (bsz (fitL ka s.data.toList n.toNat vy)), tyV y p q n vy pic] W fun e w' => e = .returned (.tuple #[vlV ka 0 0 (bsz (fitL ka s.data.toList n.toNat vy)), .int .i64 0, .int .i64 0]) ∧ Below W.heap.size W w' := fun W =>
            (bFit_any ⟨ka, 0, 0, bsz (fitL ka s.data.toList n.toNat vy)⟩ y p q n vy pic W lf).mono fun e w' ⟨he, hb⟩ => ⟨he.trans (by
              rw [show fitE ⟨ka, 0, 0, bsz (fitL ka s.data.toList n.toNat vy)⟩ y p q n pic.data.toList = 0 by rw [fitE, oy, of', hky]; rfl]
              show Ending.returned (.tuple #[vlV ka 0 0 (bsz (fitL ka (fitL ka s.data.toList n.toNat vy) n.toNat vy)), .int .i64 (fitC (fitL ka s.data.toList n.toNat vy) n.toNat), .int .i64 0]) = _
              rw [fitL_fit, fitC_fit]), hb⟩
          exact fits_full ka s y p q n vy pic w hs hl hpic _ _ _ _ _ _ _ _ _ _ _ _ t1 t2 t3 t5 t6 rfl rfl h4 h7
        · exact fits_rev ka s y p q n vy pic w hs hl hpic _ _ _ _ _ _ _ _ _ _ _ _ t1 t2 t3 t5 t6 h1 rfl h7
    · exact fits_long a y p q n vy pic w hs hl hpic hz
  · exact fits_dark a y p q n vy pic w hs hl
end Go.Proofs.YtljbkpnfjgnhnaaDoor
