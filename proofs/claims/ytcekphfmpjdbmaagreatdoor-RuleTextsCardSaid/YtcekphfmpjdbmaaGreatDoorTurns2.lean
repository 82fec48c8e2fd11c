/- The law RuleTurns, walked. -/
import Derived.Test.YtcekphfmpjdbmaaGreatDoorTurns0
namespace Go.Proofs.YtcekphfmpjdbmaaGreatDoor
open Go.RowKit
set_option maxRecDepth 100000 in
set_option maxHeartbeats 16000000 in
theorem turns_2 (p q : Int) (w : World) (hp : 1 ≤ p) (hp' : p ≤ 15) (hq : 0 ≤ q) (hq' : q ≤ 31)
    (hawake : ∀ W, Calls Tryz.prog 12 #[] W fun e w' => e = .returned (.bool true) ∧ Below W.heap.size W w') :
    Calls Tryz.prog 3 #[tyV 2 p q 0 false ⟨#[]⟩] w fun e w' => e = .returned (.bool true) ∧ Below w.heap.size w w' := by
  have HAW := Lib.hid hawake
  clear  hawake
  have hNE := neqSame
  have OK0 := Lib.hid (ok_1 (bP_bd p hp).1 (bP_bd p hp).2 (bQ_bd q hq).1 (bQ_bd q hq).2)
  have OK1 := Lib.hid (ok_2 hp (by omega) hq hq')
  have OK2 := Lib.hid (ok_3 hp (by omega))
  have OK3 := Lib.hid (ok_2 hp (by omega) hq hq')
  go_enter Tryz.func3, Tryz.ntmps3
  go_wp2_with fail
  go_at_call 11
  refine (light_yes [⟨2, p, q, 0, false, ⟨#[]⟩⟩] (w.heap.size + 1) 0 1 _ (TysAt_one (heap_alloc2_new _ _ _)) (by simp) (by simp) (pic1 pic0) (all1 (f := Ty.light) light0)).mono ?_
  rintro e w1 ⟨rfl, rfl⟩
  go_wp2_with fail
  go_at_call 13
  refine (Binary_2 _ _ _ hp hp' hq hq').mono ?_
  rintro e w1 ⟨rfl, hb⟩
  have hW : Below w.heap.size w w1 := below_then (by go_grown) hb (by simp <;> omega)
  have tB := Lib.hid (BoxAt.past2 (t := ⟨2, p, q, 0, false, ⟨#[]⟩⟩) hb)
  clear hb
  have L1 : w.heap.size < w1.heap.size := tB.out.lt
  obtain ⟨t0, t1, t2, t3, t4, t5⟩ := tB.out.cells
  have tf := tB.out.free
  have tl := tB.out.lt
  go_wp2_with fail
  go_at_call 14
  refine (refBinary_2 _ _ _ hp hp' hq hq').mono ?_
  rintro e w2 ⟨rfl, hb⟩
  clear t0 t1 t2 t3 t4 t5 tf tl
  have tC := Lib.hid (tB.out.past hb)
  have xC := Lib.hid (BoxAt.fresh (t := nTy 1 (bP p) (bQ q)) hb)
  have hW2 : Below w.heap.size w w2 := below_then hW (below_then ((Below.refl _ _).alloc (Nat.le_refl _) _) hb (by simp)) hW.size
  clear hb hW tB
  have hW := hW2
  clear hW2
  have tB := tC
  have xB := xC
  clear tC xC
  have L2 : w1.heap.size < w2.heap.size := xB.out.lt
  obtain ⟨t0, t1, t2, t3, t4, t5⟩ := tB.out.cells
  have tf := tB.out.free
  have tl := tB.out.lt
  obtain ⟨x0, x1, x2, x3, x4, x5⟩ := xB.out.cells
  have xf := xB.out.free
  have xl := xB.out.lt
  go_wp2_with fail
  go_at_call 15
  refine (Decimal_2 _ _ _ hp hp' hq hq').mono ?_
  rintro e w3 ⟨rfl, hb⟩
  clear t0 t1 t2 t3 t4 t5 tf tl x0 x1 x2 x3 x4 x5 xf xl
  have tC := Lib.hid (tB.out.past hb)
  have xC := Lib.hid (xB.out.past hb)
  have yC := Lib.hid (BoxAt.fresh (t := nTy 1 (bP p) (bQ q)) hb)
  have hW2 : Below w.heap.size w w3 := below_then hW (below_then ((Below.refl _ _).alloc (Nat.le_refl _) _) hb (by simp)) hW.size
  clear hb hW tB xB
  have hW := hW2
  clear hW2
  have tB := tC
  have xB := xC
  have yB := yC
  clear tC xC yC
  have L3 : w2.heap.size < w3.heap.size := yB.out.lt
  obtain ⟨t0, t1, t2, t3, t4, t5⟩ := tB.out.cells
  have tf := tB.out.free
  have tl := tB.out.lt
  obtain ⟨x0, x1, x2, x3, x4, x5⟩ := xB.out.cells
  have xf := xB.out.free
  have xl := xB.out.lt
  obtain ⟨y0, y1, y2, y3, y4, y5⟩ := yB.out.cells
  have yf := yB.out.free
  have yl := yB.out.lt
  go_wp2_with fail
  go_at_call 16
  refine (refDecimal_2 _ _ _ hp hp' hq hq').mono ?_
  rintro e w4 ⟨rfl, hb⟩
  clear t0 t1 t2 t3 t4 t5 tf tl x0 x1 x2 x3 x4 x5 xf xl y0 y1 y2 y3 y4 y5 yf yl
  have tC := Lib.hid (tB.out.past hb)
  have xC := Lib.hid (xB.out.past hb)
  have yC := Lib.hid (yB.out.past hb)
  have zC := Lib.hid (BoxAt.fresh (t := nTy 2 p q) hb)
  have hW2 : Below w.heap.size w w4 := below_then hW (below_then ((Below.refl _ _).alloc (Nat.le_refl _) _) hb (by simp)) hW.size
  clear hb hW tB xB yB
  have hW := hW2
  clear hW2
  have tB := tC
  have xB := xC
  have yB := yC
  have zB := zC
  clear tC xC yC zC
  have L4 : w3.heap.size < w4.heap.size := zB.out.lt
  obtain ⟨t0, t1, t2, t3, t4, t5⟩ := tB.out.cells
  have tf := tB.out.free
  have tl := tB.out.lt
  obtain ⟨x0, x1, x2, x3, x4, x5⟩ := xB.out.cells
  have xf := xB.out.free
  have xl := xB.out.lt
  obtain ⟨y0, y1, y2, y3, y4, y5⟩ := yB.out.cells
  have yf := yB.out.free
  have yl := yB.out.lt
  obtain ⟨z0, z1, z2, z3, z4, z5⟩ := zB.out.cells
  have zf := zB.out.free
  have zl := zB.out.lt
  go_wp2_with fail
  go_at_call 17
  refine (refValid_b true _ _ _ _ _ _ _ pic0 OK0.out).mono ?_
  rintro e w5 ⟨rfl, hb⟩
  clear t0 t1 t2 t3 t4 t5 tf tl x0 x1 x2 x3 x4 x5 xf xl y0 y1 y2 y3 y4 y5 yf yl z0 z1 z2 z3 z4 z5 zf zl
  have tC := Lib.hid (tB.out.past hb)
  have xC := Lib.hid (xB.out.past hb)
  have yC := Lib.hid (yB.out.past hb)
  have zC := Lib.hid (zB.out.past hb)
  have uC := Lib.hid (BoxAt.fresh (t := nTy 2 p q) hb)
  have hW2 : Below w.heap.size w w5 := below_then hW (below_then ((Below.refl _ _).alloc (Nat.le_refl _) _) hb (by simp)) hW.size
  clear hb hW tB xB yB zB
  have hW := hW2
  clear hW2
  have tB := tC
  have xB := xC
  have yB := yC
  have zB := zC
  have uB := uC
  clear tC xC yC zC uC
  have L5 : w4.heap.size < w5.heap.size := uB.out.lt
  obtain ⟨t0, t1, t2, t3, t4, t5⟩ := tB.out.cells
  have tf := tB.out.free
  have tl := tB.out.lt
  obtain ⟨x0, x1, x2, x3, x4, x5⟩ := xB.out.cells
  have xf := xB.out.free
  have xl := xB.out.lt
  obtain ⟨y0, y1, y2, y3, y4, y5⟩ := yB.out.cells
  have yf := yB.out.free
  have yl := yB.out.lt
  obtain ⟨z0, z1, z2, z3, z4, z5⟩ := zB.out.cells
  have zf := zB.out.free
  have zl := zB.out.lt
  obtain ⟨u0, u1, u2, u3, u4, u5⟩ := uB.out.cells
  have uf := uB.out.free
  have ul := uB.out.lt
  go_wp2_with fail
  go_at_call 17
  refine (refValid_b true _ _ _ _ _ _ _ pic0 OK1.out).mono ?_
  rintro e w6 ⟨rfl, hb⟩
  clear t0 t1 t2 t3 t4 t5 tf tl x0 x1 x2 x3 x4 x5 xf xl y0 y1 y2 y3 y4 y5 yf yl z0 z1 z2 z3 z4 z5 zf zl u0 u1 u2 u3 u4 u5 uf ul
  have tC := Lib.hid (tB.out.below tB.out.lt hb)
  have xC := Lib.hid (xB.out.below xB.out.lt hb)
  have yC := Lib.hid (yB.out.below yB.out.lt hb)
  have zC := Lib.hid (zB.out.below zB.out.lt hb)
  have uC := Lib.hid (uB.out.below uB.out.lt hb)
  have hW2 : Below w.heap.size w w6 := below_then hW hb hW.size
  clear hb hW tB xB yB zB uB
  have hW := hW2
  clear hW2
  have tB := tC
  have xB := xC
  have yB := yC
  have zB := zC
  have uB := uC
  clear tC xC yC zC uC
  have netx : ¬ w.heap.size = w1.heap.size := by omega
  have nety : ¬ w.heap.size = w2.heap.size := by omega
  have netz : ¬ w.heap.size = w3.heap.size := by omega
  have netu : ¬ w.heap.size = w4.heap.size := by omega
  have next : ¬ w1.heap.size = w.heap.size := by omega
  have nexy : ¬ w1.heap.size = w2.heap.size := by omega
  have nexz : ¬ w1.heap.size = w3.heap.size := by omega
  have nexu : ¬ w1.heap.size = w4.heap.size := by omega
  have neyt : ¬ w2.heap.size = w.heap.size := by omega
  have neyx : ¬ w2.heap.size = w1.heap.size := by omega
  have neyz : ¬ w2.heap.size = w3.heap.size := by omega
  have neyu : ¬ w2.heap.size = w4.heap.size := by omega
  have nezt : ¬ w3.heap.size = w.heap.size := by omega
  have nezx : ¬ w3.heap.size = w1.heap.size := by omega
  have nezy : ¬ w3.heap.size = w2.heap.size := by omega
  have nezu : ¬ w3.heap.size = w4.heap.size := by omega
  have neut : ¬ w4.heap.size = w.heap.size := by omega
  have neux : ¬ w4.heap.size = w1.heap.size := by omega
  have neuy : ¬ w4.heap.size = w2.heap.size := by omega
  have neuz : ¬ w4.heap.size = w3.heap.size := by omega
  obtain ⟨t0, t1, t2, t3, t4, t5⟩ := tB.out.cells
  have tf := tB.out.free
  have tl := tB.out.lt
  obtain ⟨x0, x1, x2, x3, x4, x5⟩ := xB.out.cells
  have xf := xB.out.free
  have xl := xB.out.lt
  obtain ⟨y0, y1, y2, y3, y4, y5⟩ := yB.out.cells
  have yf := yB.out.free
  have yl := yB.out.lt
  obtain ⟨z0, z1, z2, z3, z4, z5⟩ := zB.out.cells
  have zf := zB.out.free
  have zl := zB.out.lt
  obtain ⟨u0, u1, u2, u3, u4, u5⟩ := uB.out.cells
  have uf := uB.out.free
  have ul := uB.out.lt
  go_wp2_with fail
  go_at_call 18
  refine (Float_2 _ _ _ hp hp' hq hq').mono ?_
  rintro e w7 ⟨rfl, hb⟩
  clear t0 t1 t2 t3 t4 t5 tf tl x0 x1 x2 x3 x4 x5 xf xl y0 y1 y2 y3 y4 y5 yf yl z0 z1 z2 z3 z4 z5 zf zl u0 u1 u2 u3 u4 u5 uf ul
  have tC := Lib.hid (tB.out.below tB.out.lt hb)
  have xC := Lib.hid (xB.out.below xB.out.lt hb)
  have yC := Lib.hid (yB.out.below yB.out.lt hb)
  have zC := Lib.hid (zB.out.below zB.out.lt hb)
  have uC := Lib.hid (uB.out.below uB.out.lt hb)
  have hW2 : Below w.heap.size w w7 := below_then hW hb hW.size
  clear hb hW tB xB yB zB uB
  have hW := hW2
  clear hW2
  have tB := tC
  have xB := xC
  have yB := yC
  have zB := zC
  have uB := uC
  clear tC xC yC zC uC
  obtain ⟨t0, t1, t2, t3, t4, t5⟩ := tB.out.cells
  have tf := tB.out.free
  have tl := tB.out.lt
  obtain ⟨x0, x1, x2, x3, x4, x5⟩ := xB.out.cells
  have xf := xB.out.free
  have xl := xB.out.lt
  obtain ⟨y0, y1, y2, y3, y4, y5⟩ := yB.out.cells
  have yf := yB.out.free
  have yl := yB.out.lt
  obtain ⟨z0, z1, z2, z3, z4, z5⟩ := zB.out.cells
  have zf := zB.out.free
  have zl := zB.out.lt
  obtain ⟨u0, u1, u2, u3, u4, u5⟩ := uB.out.cells
  have uf := uB.out.free
  have ul := uB.out.lt
  go_wp2_with fail
  generalize hwm : (World.setCell (World.setCell (World.setCell (World.setCell (World.setCell (World.setCell w7 ⟨w1.heap.size, 0, none⟩ (.int .i64 3)) ⟨w1.heap.size, 1, none⟩ (.int .i64 p)) ⟨w1.heap.size, 2, none⟩ (.int .i64 0)) ⟨w1.heap.size, 3, none⟩ (.int .i64 0)) ⟨w1.heap.size, 4, none⟩ (.bool false)) ⟨w1.heap.size, 5, none⟩ (.string ⟨#[]⟩)) = wm
  have hwm2 : set6 w7 w1.heap.size 3 p 0 = wm := hwm
  have tC := tB.out.setOther (b := w1.heap.size) (by omega) 3 p 0
  have xC := xB.out.set 3 p 0
  have yC := yB.out.setOther (b := w1.heap.size) (by omega) 3 p 0
  have zC := zB.out.setOther (b := w1.heap.size) (by omega) 3 p 0
  have uC := uB.out.setOther (b := w1.heap.size) (by omega) 3 p 0
  have hW2 : Below w.heap.size w (set6 w7 w1.heap.size 3 p 0) := set6_below hW (by omega)
  rw [hwm2] at hW2 tC xC yC zC uC
  clear t0 t1 t2 t3 t4 t5 tf tl x0 x1 x2 x3 x4 x5 xf xl y0 y1 y2 y3 y4 y5 yf yl z0 z1 z2 z3 z4 z5 zf zl u0 u1 u2 u3 u4 u5 uf ul
  clear hwm hwm2 hW tB xB yB zB uB
  have hW := hW2
  clear hW2
  have tB := Lib.hid tC
  have xB := Lib.hid xC
  have yB := Lib.hid yC
  have zB := Lib.hid zC
  have uB := Lib.hid uC
  clear tC xC yC zC uC
  go_at_call 19
  refine (refFloat_2 _ _ _ hp hp' hq hq').mono ?_
  rintro e w8 ⟨rfl, hb⟩
  have tC := Lib.hid (tB.out.below tB.out.lt hb)
  have xC := Lib.hid (xB.out.below xB.out.lt hb)
  have yC := Lib.hid (yB.out.below yB.out.lt hb)
  have zC := Lib.hid (zB.out.below zB.out.lt hb)
  have uC := Lib.hid (uB.out.below uB.out.lt hb)
  have hW2 : Below w.heap.size w w8 := below_then hW hb hW.size
  clear hb hW tB xB yB zB uB
  have hW := hW2
  clear hW2
  have tB := tC
  have xB := xC
  have yB := yC
  have zB := zC
  have uB := uC
  clear tC xC yC zC uC
  obtain ⟨t0, t1, t2, t3, t4, t5⟩ := tB.out.cells
  have tf := tB.out.free
  have tl := tB.out.lt
  obtain ⟨x0, x1, x2, x3, x4, x5⟩ := xB.out.cells
  have xf := xB.out.free
  have xl := xB.out.lt
  obtain ⟨y0, y1, y2, y3, y4, y5⟩ := yB.out.cells
  have yf := yB.out.free
  have yl := yB.out.lt
  obtain ⟨z0, z1, z2, z3, z4, z5⟩ := zB.out.cells
  have zf := zB.out.free
  have zl := zB.out.lt
  obtain ⟨u0, u1, u2, u3, u4, u5⟩ := uB.out.cells
  have uf := uB.out.free
  have ul := uB.out.lt
  go_wp2_with fail
  generalize hwm : (World.setCell (World.setCell (World.setCell (World.setCell (World.setCell (World.setCell w8 ⟨w2.heap.size, 0, none⟩ (.int .i64 3)) ⟨w2.heap.size, 1, none⟩ (.int .i64 p)) ⟨w2.heap.size, 2, none⟩ (.int .i64 0)) ⟨w2.heap.size, 3, none⟩ (.int .i64 0)) ⟨w2.heap.size, 4, none⟩ (.bool false)) ⟨w2.heap.size, 5, none⟩ (.string ⟨#[]⟩)) = wm
  have hwm2 : set6 w8 w2.heap.size 3 p 0 = wm := hwm
  have tC := tB.out.setOther (b := w2.heap.size) (by omega) 3 p 0
  have xC := xB.out.setOther (b := w2.heap.size) (by omega) 3 p 0
  have yC := yB.out.set 3 p 0
  have zC := zB.out.setOther (b := w2.heap.size) (by omega) 3 p 0
  have uC := uB.out.setOther (b := w2.heap.size) (by omega) 3 p 0
  have hW2 : Below w.heap.size w (set6 w8 w2.heap.size 3 p 0) := set6_below hW (by omega)
  rw [hwm2] at hW2 tC xC yC zC uC
  clear t0 t1 t2 t3 t4 t5 tf tl x0 x1 x2 x3 x4 x5 xf xl y0 y1 y2 y3 y4 y5 yf yl z0 z1 z2 z3 z4 z5 zf zl u0 u1 u2 u3 u4 u5 uf ul
  clear hwm hwm2 hW tB xB yB zB uB
  have hW := hW2
  clear hW2
  have tB := Lib.hid tC
  have xB := Lib.hid xC
  have yB := Lib.hid yC
  have zB := Lib.hid zC
  have uB := Lib.hid uC
  clear tC xC yC zC uC
  go_at_call 20
  refine (Number_2 _ _ _ hp hp' hq hq').mono ?_
  rintro e w9 ⟨rfl, hb⟩
  have tC := Lib.hid (tB.out.below tB.out.lt hb)
  have xC := Lib.hid (xB.out.below xB.out.lt hb)
  have yC := Lib.hid (yB.out.below yB.out.lt hb)
  have zC := Lib.hid (zB.out.below zB.out.lt hb)
  have uC := Lib.hid (uB.out.below uB.out.lt hb)
  have hW2 : Below w.heap.size w w9 := below_then hW hb hW.size
  clear hb hW tB xB yB zB uB
  have hW := hW2
  clear hW2
  have tB := tC
  have xB := xC
  have yB := yC
  have zB := zC
  have uB := uC
  clear tC xC yC zC uC
  obtain ⟨t0, t1, t2, t3, t4, t5⟩ := tB.out.cells
  have tf := tB.out.free
  have tl := tB.out.lt
  obtain ⟨x0, x1, x2, x3, x4, x5⟩ := xB.out.cells
  have xf := xB.out.free
  have xl := xB.out.lt
  obtain ⟨y0, y1, y2, y3, y4, y5⟩ := yB.out.cells
  have yf := yB.out.free
  have yl := yB.out.lt
  obtain ⟨z0, z1, z2, z3, z4, z5⟩ := zB.out.cells
  have zf := zB.out.free
  have zl := zB.out.lt
  obtain ⟨u0, u1, u2, u3, u4, u5⟩ := uB.out.cells
  have uf := uB.out.free
  have ul := uB.out.lt
  go_wp2_with fail
  generalize hwm : (World.setCell (World.setCell (World.setCell (World.setCell (World.setCell (World.setCell w9 ⟨w3.heap.size, 0, none⟩ (.int .i64 2)) ⟨w3.heap.size, 1, none⟩ (.int .i64 p)) ⟨w3.heap.size, 2, none⟩ (.int .i64 q)) ⟨w3.heap.size, 3, none⟩ (.int .i64 0)) ⟨w3.heap.size, 4, none⟩ (.bool false)) ⟨w3.heap.size, 5, none⟩ (.string ⟨#[]⟩)) = wm
  have hwm2 : set6 w9 w3.heap.size 2 p q = wm := hwm
  have tC := tB.out.setOther (b := w3.heap.size) (by omega) 2 p q
  have xC := xB.out.setOther (b := w3.heap.size) (by omega) 2 p q
  have yC := yB.out.setOther (b := w3.heap.size) (by omega) 2 p q
  have zC := zB.out.set 2 p q
  have uC := uB.out.setOther (b := w3.heap.size) (by omega) 2 p q
  have hW2 : Below w.heap.size w (set6 w9 w3.heap.size 2 p q) := set6_below hW (by omega)
  rw [hwm2] at hW2 tC xC yC zC uC
  clear t0 t1 t2 t3 t4 t5 tf tl x0 x1 x2 x3 x4 x5 xf xl y0 y1 y2 y3 y4 y5 yf yl z0 z1 z2 z3 z4 z5 zf zl u0 u1 u2 u3 u4 u5 uf ul
  clear hwm hwm2 hW tB xB yB zB uB
  have hW := hW2
  clear hW2
  have tB := Lib.hid tC
  have xB := Lib.hid xC
  have yB := Lib.hid yC
  have zB := Lib.hid zC
  have uB := Lib.hid uC
  clear tC xC yC zC uC
  go_at_call 21
  refine (refNumber_2 _ _ _ hp hp' hq hq').mono ?_
  rintro e w10 ⟨rfl, hb⟩
  have tC := Lib.hid (tB.out.below tB.out.lt hb)
  have xC := Lib.hid (xB.out.below xB.out.lt hb)
  have yC := Lib.hid (yB.out.below yB.out.lt hb)
  have zC := Lib.hid (zB.out.below zB.out.lt hb)
  have uC := Lib.hid (uB.out.below uB.out.lt hb)
  have hW2 : Below w.heap.size w w10 := below_then hW hb hW.size
  clear hb hW tB xB yB zB uB
  have hW := hW2
  clear hW2
  have tB := tC
  have xB := xC
  have yB := yC
  have zB := zC
  have uB := uC
  clear tC xC yC zC uC
  obtain ⟨t0, t1, t2, t3, t4, t5⟩ := tB.out.cells
  have tf := tB.out.free
  have tl := tB.out.lt
  obtain ⟨x0, x1, x2, x3, x4, x5⟩ := xB.out.cells
  have xf := xB.out.free
  have xl := xB.out.lt
  obtain ⟨y0, y1, y2, y3, y4, y5⟩ := yB.out.cells
  have yf := yB.out.free
  have yl := yB.out.lt
  obtain ⟨z0, z1, z2, z3, z4, z5⟩ := zB.out.cells
  have zf := zB.out.free
  have zl := zB.out.lt
  obtain ⟨u0, u1, u2, u3, u4, u5⟩ := uB.out.cells
  have uf := uB.out.free
  have ul := uB.out.lt
  go_wp2_with fail
  generalize hwm : (World.setCell (World.setCell (World.setCell (World.setCell (World.setCell (World.setCell w10 ⟨w4.heap.size, 0, none⟩ (.int .i64 2)) ⟨w4.heap.size, 1, none⟩ (.int .i64 p)) ⟨w4.heap.size, 2, none⟩ (.int .i64 q)) ⟨w4.heap.size, 3, none⟩ (.int .i64 0)) ⟨w4.heap.size, 4, none⟩ (.bool false)) ⟨w4.heap.size, 5, none⟩ (.string ⟨#[]⟩)) = wm
  have hwm2 : set6 w10 w4.heap.size 2 p q = wm := hwm
  have tC := tB.out.setOther (b := w4.heap.size) (by omega) 2 p q
  have xC := xB.out.setOther (b := w4.heap.size) (by omega) 2 p q
  have yC := yB.out.setOther (b := w4.heap.size) (by omega) 2 p q
  have zC := zB.out.setOther (b := w4.heap.size) (by omega) 2 p q
  have uC := uB.out.set 2 p q
  have hW2 : Below w.heap.size w (set6 w10 w4.heap.size 2 p q) := set6_below hW (by omega)
  rw [hwm2] at hW2 tC xC yC zC uC
  clear t0 t1 t2 t3 t4 t5 tf tl x0 x1 x2 x3 x4 x5 xf xl y0 y1 y2 y3 y4 y5 yf yl z0 z1 z2 z3 z4 z5 zf zl u0 u1 u2 u3 u4 u5 uf ul
  clear hwm hwm2 hW tB xB yB zB uB
  have hW := hW2
  clear hW2
  have tB := Lib.hid tC
  have xB := Lib.hid xC
  have yB := Lib.hid yC
  have zB := Lib.hid zC
  have uB := Lib.hid uC
  clear tC xC yC zC uC
  go_at_call 17
  refine (refValid_b true _ _ _ _ _ _ _ pic0 OK2.out).mono ?_
  rintro e w11 ⟨rfl, hb⟩
  have tC := Lib.hid (tB.out.below tB.out.lt hb)
  have xC := Lib.hid (xB.out.below xB.out.lt hb)
  have yC := Lib.hid (yB.out.below yB.out.lt hb)
  have zC := Lib.hid (zB.out.below zB.out.lt hb)
  have uC := Lib.hid (uB.out.below uB.out.lt hb)
  have hW2 : Below w.heap.size w w11 := below_then hW hb hW.size
  clear hb hW tB xB yB zB uB
  have hW := hW2
  clear hW2
  have tB := tC
  have xB := xC
  have yB := yC
  have zB := zC
  have uB := uC
  clear tC xC yC zC uC
  obtain ⟨t0, t1, t2, t3, t4, t5⟩ := tB.out.cells
  have tf := tB.out.free
  have tl := tB.out.lt
  obtain ⟨x0, x1, x2, x3, x4, x5⟩ := xB.out.cells
  have xf := xB.out.free
  have xl := xB.out.lt
  obtain ⟨y0, y1, y2, y3, y4, y5⟩ := yB.out.cells
  have yf := yB.out.free
  have yl := yB.out.lt
  obtain ⟨z0, z1, z2, z3, z4, z5⟩ := zB.out.cells
  have zf := zB.out.free
  have zl := zB.out.lt
  obtain ⟨u0, u1, u2, u3, u4, u5⟩ := uB.out.cells
  have uf := uB.out.free
  have ul := uB.out.lt
  go_wp2_with fail
  go_at_call 17
  refine (refValid_b true _ _ _ _ _ _ _ pic0 OK3.out).mono ?_
  rintro e w12 ⟨rfl, hb⟩
  clear t0 t1 t2 t3 t4 t5 tf tl x0 x1 x2 x3 x4 x5 xf xl y0 y1 y2 y3 y4 y5 yf yl z0 z1 z2 z3 z4 z5 zf zl u0 u1 u2 u3 u4 u5 uf ul
  have tC := Lib.hid (tB.out.below tB.out.lt hb)
  have xC := Lib.hid (xB.out.below xB.out.lt hb)
  have yC := Lib.hid (yB.out.below yB.out.lt hb)
  have zC := Lib.hid (zB.out.below zB.out.lt hb)
  have uC := Lib.hid (uB.out.below uB.out.lt hb)
  have hW2 : Below w.heap.size w w12 := below_then hW hb hW.size
  clear hb hW tB xB yB zB uB
  have hW := hW2
  clear hW2
  have tB := tC
  have xB := xC
  have yB := yC
  have zB := zC
  have uB := uC
  clear tC xC yC zC uC
  obtain ⟨t0, t1, t2, t3, t4, t5⟩ := tB.out.cells
  have tf := tB.out.free
  have tl := tB.out.lt
  obtain ⟨x0, x1, x2, x3, x4, x5⟩ := xB.out.cells
  have xf := xB.out.free
  have xl := xB.out.lt
  obtain ⟨y0, y1, y2, y3, y4, y5⟩ := yB.out.cells
  have yf := yB.out.free
  have yl := yB.out.lt
  obtain ⟨z0, z1, z2, z3, z4, z5⟩ := zB.out.cells
  have zf := zB.out.free
  have zl := zB.out.lt
  obtain ⟨u0, u1, u2, u3, u4, u5⟩ := uB.out.cells
  have uf := uB.out.free
  have ul := uB.out.lt
  go_wp2_with fail
  go_at_call 22
  refine (Negated_2 _ _ _ hp hp' hq hq').mono ?_
  rintro e w13 ⟨rfl, hb⟩
  clear t0 t1 t2 t3 t4 t5 tf tl x0 x1 x2 x3 x4 x5 xf xl y0 y1 y2 y3 y4 y5 yf yl z0 z1 z2 z3 z4 z5 zf zl u0 u1 u2 u3 u4 u5 uf ul
  have tC := Lib.hid (tB.out.below tB.out.lt hb)
  have xC := Lib.hid (xB.out.below xB.out.lt hb)
  have yC := Lib.hid (yB.out.below yB.out.lt hb)
  have zC := Lib.hid (zB.out.below zB.out.lt hb)
  have uC := Lib.hid (uB.out.below uB.out.lt hb)
  have hW2 : Below w.heap.size w w13 := below_then hW hb hW.size
  clear hb hW tB xB yB zB uB
  have hW := hW2
  clear hW2
  have tB := tC
  have xB := xC
  have yB := yC
  have zB := zC
  have uB := uC
  clear tC xC yC zC uC
  obtain ⟨t0, t1, t2, t3, t4, t5⟩ := tB.out.cells
  have tf := tB.out.free
  have tl := tB.out.lt
  obtain ⟨x0, x1, x2, x3, x4, x5⟩ := xB.out.cells
  have xf := xB.out.free
  have xl := xB.out.lt
  obtain ⟨y0, y1, y2, y3, y4, y5⟩ := yB.out.cells
  have yf := yB.out.free
  have yl := yB.out.lt
  obtain ⟨z0, z1, z2, z3, z4, z5⟩ := zB.out.cells
  have zf := zB.out.free
  have zl := zB.out.lt
  obtain ⟨u0, u1, u2, u3, u4, u5⟩ := uB.out.cells
  have uf := uB.out.free
  have ul := uB.out.lt
  go_wp2_with fail
  generalize hwm : (World.setCell (World.setCell (World.setCell (World.setCell (World.setCell (World.setCell w13 ⟨w1.heap.size, 0, none⟩ (.int .i64 2)) ⟨w1.heap.size, 1, none⟩ (.int .i64 p)) ⟨w1.heap.size, 2, none⟩ (.int .i64 q)) ⟨w1.heap.size, 3, none⟩ (.int .i64 0)) ⟨w1.heap.size, 4, none⟩ (.bool false)) ⟨w1.heap.size, 5, none⟩ (.string ⟨#[]⟩)) = wm
  have hwm2 : set6 w13 w1.heap.size 2 p q = wm := hwm
  have tC := tB.out.setOther (b := w1.heap.size) (by omega) 2 p q
  have xC := xB.out.set 2 p q
  have yC := yB.out.setOther (b := w1.heap.size) (by omega) 2 p q
  have zC := zB.out.setOther (b := w1.heap.size) (by omega) 2 p q
  have uC := uB.out.setOther (b := w1.heap.size) (by omega) 2 p q
  have hW2 : Below w.heap.size w (set6 w13 w1.heap.size 2 p q) := set6_below hW (by omega)
  rw [hwm2] at hW2 tC xC yC zC uC
  clear t0 t1 t2 t3 t4 t5 tf tl x0 x1 x2 x3 x4 x5 xf xl y0 y1 y2 y3 y4 y5 yf yl z0 z1 z2 z3 z4 z5 zf zl u0 u1 u2 u3 u4 u5 uf ul
  clear hwm hwm2 hW tB xB yB zB uB
  have hW := hW2
  clear hW2
  have tB := Lib.hid tC
  have xB := Lib.hid xC
  have yB := Lib.hid yC
  have zB := Lib.hid zC
  have uB := Lib.hid uC
  clear tC xC yC zC uC
  go_at_call 23
  refine (refNegated_2 _ _ _ hp hp' hq hq').mono ?_
  rintro e w14 ⟨rfl, hb⟩
  have tC := Lib.hid (tB.out.below tB.out.lt hb)
  have xC := Lib.hid (xB.out.below xB.out.lt hb)
  have yC := Lib.hid (yB.out.below yB.out.lt hb)
  have zC := Lib.hid (zB.out.below zB.out.lt hb)
  have uC := Lib.hid (uB.out.below uB.out.lt hb)
  have hW2 : Below w.heap.size w w14 := below_then hW hb hW.size
  clear hb hW tB xB yB zB uB
  have hW := hW2
  clear hW2
  have tB := tC
  have xB := xC
  have yB := yC
  have zB := zC
  have uB := uC
  clear tC xC yC zC uC
  obtain ⟨t0, t1, t2, t3, t4, t5⟩ := tB.out.cells
  have tf := tB.out.free
  have tl := tB.out.lt
  obtain ⟨x0, x1, x2, x3, x4, x5⟩ := xB.out.cells
  have xf := xB.out.free
  have xl := xB.out.lt
  obtain ⟨y0, y1, y2, y3, y4, y5⟩ := yB.out.cells
  have yf := yB.out.free
  have yl := yB.out.lt
  obtain ⟨z0, z1, z2, z3, z4, z5⟩ := zB.out.cells
  have zf := zB.out.free
  have zl := zB.out.lt
  obtain ⟨u0, u1, u2, u3, u4, u5⟩ := uB.out.cells
  have uf := uB.out.free
  have ul := uB.out.lt
  go_wp2_with fail
  generalize hwm : (World.setCell (World.setCell (World.setCell (World.setCell (World.setCell (World.setCell w14 ⟨w2.heap.size, 0, none⟩ (.int .i64 2)) ⟨w2.heap.size, 1, none⟩ (.int .i64 p)) ⟨w2.heap.size, 2, none⟩ (.int .i64 q)) ⟨w2.heap.size, 3, none⟩ (.int .i64 0)) ⟨w2.heap.size, 4, none⟩ (.bool false)) ⟨w2.heap.size, 5, none⟩ (.string ⟨#[]⟩)) = wm
  have hwm2 : set6 w14 w2.heap.size 2 p q = wm := hwm
  have tC := tB.out.setOther (b := w2.heap.size) (by omega) 2 p q
  have xC := xB.out.setOther (b := w2.heap.size) (by omega) 2 p q
  have yC := yB.out.set 2 p q
  have zC := zB.out.setOther (b := w2.heap.size) (by omega) 2 p q
  have uC := uB.out.setOther (b := w2.heap.size) (by omega) 2 p q
  have hW2 : Below w.heap.size w (set6 w14 w2.heap.size 2 p q) := set6_below hW (by omega)
  rw [hwm2] at hW2 tC xC yC zC uC
  clear t0 t1 t2 t3 t4 t5 tf tl x0 x1 x2 x3 x4 x5 xf xl y0 y1 y2 y3 y4 y5 yf yl z0 z1 z2 z3 z4 z5 zf zl u0 u1 u2 u3 u4 u5 uf ul
  clear hwm hwm2 hW tB xB yB zB uB
  have hW := hW2
  clear hW2
  have tB := Lib.hid tC
  have xB := Lib.hid xC
  have yB := Lib.hid yC
  have zB := Lib.hid zC
  have uB := Lib.hid uC
  clear tC xC yC zC uC
  go_at_call 12
  refine (HAW.out _).mono ?_
  rintro e w15 ⟨rfl, hb⟩
  have tC := Lib.hid (tB.out.below tB.out.lt hb)
  have xC := Lib.hid (xB.out.below xB.out.lt hb)
  have yC := Lib.hid (yB.out.below yB.out.lt hb)
  have zC := Lib.hid (zB.out.below zB.out.lt hb)
  have uC := Lib.hid (uB.out.below uB.out.lt hb)
  have hW2 : Below w.heap.size w w15 := below_then hW hb hW.size
  clear hb hW tB xB yB zB uB
  have hW := hW2
  clear hW2
  have tB := tC
  have xB := xC
  have yB := yC
  have zB := zC
  have uB := uC
  clear tC xC yC zC uC
  go_wp2
  go_ret
  exact ⟨rfl, hW⟩
end Go.Proofs.YtcekphfmpjdbmaaGreatDoor
