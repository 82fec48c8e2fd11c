/- The law RuleResult, walked. -/
import Derived.Test.YtcekphfmpjdbmaaGreatDoorTurns0
import Derived.Test.YtcekphfmpjdbmaaGreatDoorRefPower
import Derived.Test.YtcekphfmpjdbmaaGreatDoorRefAssign
import Derived.Test.YtcekphfmpjdbmaaGreatDoorRes0
namespace Go.Proofs.YtcekphfmpjdbmaaGreatDoor
open Go.RowKit
set_option maxRecDepth 100000 in
set_option maxHeartbeats 16000000 in
theorem res_5 (ka pa qa kb pb qb : Int) (s : ByteArray) (w : World) (hA : NumB ka pa qa) (hB : NumB kb pb qb) (hss : s.size ≤ 100) (e1 : ([43] == s.toList) = false) (e2 : ([45] == s.toList) = false) (e3 : ([42] == s.toList) = false) (e4 : ([47] == s.toList) = false) (e5 : ([42, 42] == s.toList) = false) :
    Calls Tryz.prog 4 #[.string s, tyV ka pa qa 0 false ⟨#[]⟩, tyV kb pb qb 0 false ⟨#[]⟩] w fun e w' => e = .returned (.bool true) ∧ Below w.heap.size w w' := by
  have A := Lib.hid hA; have B := Lib.hid hB
  have KA := Lib.hid (ok_kind hA.ok); have KB := Lib.hid (ok_kind hB.ok)
  clear hA hB
  have o1 : (s.toList == [43]) = false := bflip e1
  have o2 : (s.toList == [42]) = false := bflip e3
  have o1n : (s.toList != [43]) = true := by simp [bne, o1]
  have o2n : (s.toList != [42]) = true := by simp [bne, o2]
  have E1 := Lib.hid e1; have E2 := Lib.hid e2; have E3 := Lib.hid e3; have E4 := Lib.hid e4; have E5 := Lib.hid e5
  have hss2 : (s.size : Int) ≤ 100 := by omega
  clear e1 e2 e3 e4 e5
  have hNE := neqSame
  have hEQ := eqSame
  go_enter Tryz.func4, Tryz.ntmps4
  go_wp2_with fail
  go_at_call 11
  refine (light_yes [⟨ka, pa, qa, 0, false, ⟨#[]⟩⟩, ⟨kb, pb, qb, 0, false, ⟨#[]⟩⟩] (w.heap.size + 1 + 1) 0 2 _ (TysAt_two (heap_alloc3_new _ _ _ _)) (by simp) (by simp) (pic2 pic0 pic0) (all2 (f := Ty.light) light0 light0)).mono ?_
  rintro e w1 ⟨rfl, rfl⟩
  go_wp2_with fail
  go_at_call 24
  refine (Result_5 _ _ _ _ _ _ _ _ A.out B.out E1.out E2.out E3.out E4.out E5.out).mono ?_
  rintro e w1 ⟨rfl, hb⟩
  have hW : Below w.heap.size w w1 := below_then (by go_grown) hb (by simp <;> omega)
  have aB0 : BoxAt w1 w.heap.size ⟨ka, pa, qa, 0, false, ⟨#[]⟩⟩ := (hb.block _ (by simp <;> omega)).trans (heap_alloc3_old _ _ _ _)
  have bB0 : BoxAt w1 (w.heap.size + 1) ⟨kb, pb, qb, 0, false, ⟨#[]⟩⟩ := (hb.block _ (by simp <;> omega)).trans (heap_alloc3_mid _ _ _ _)
  have aB := Lib.hid aB0
  have bB := Lib.hid bB0
  have L1 : w.heap.size + 1 < w1.heap.size := bB0.lt
  clear hb aB0 bB0
  obtain ⟨a0, a1, a2, a3, a4, a5⟩ := aB.out.cells
  have af := aB.out.free
  have al := aB.out.lt
  obtain ⟨b0, b1, b2, b3, b4, b5⟩ := bB.out.cells
  have bf := bB.out.free
  have bl := bB.out.lt
  go_wp2_with fail
  go_at_call 25
  refine (refResult_5 _ _ _ _ _ _ _ _ A.out B.out E1.out E2.out E3.out E4.out E5.out).mono ?_
  rintro e w2 ⟨rfl, hb⟩
  clear a0 a1 a2 a3 a4 a5 af al b0 b1 b2 b3 b4 b5 bf bl
  have aC := Lib.hid (aB.out.past hb)
  have bC := Lib.hid (bB.out.past hb)
  have xC := Lib.hid (BoxAt.fresh (t := nTy 0 0 0) hb)
  have hW2 : Below w.heap.size w w2 := below_then hW (below_then ((Below.refl _ _).alloc (Nat.le_refl _) _) hb (by simp)) hW.size
  clear hb hW aB bB
  have hW := hW2
  clear hW2
  have aB := aC
  have bB := bC
  have xB := xC
  clear aC bC xC
  have L2 : w1.heap.size < w2.heap.size := xB.out.lt
  obtain ⟨a0, a1, a2, a3, a4, a5⟩ := aB.out.cells
  have af := aB.out.free
  have al := aB.out.lt
  obtain ⟨b0, b1, b2, b3, b4, b5⟩ := bB.out.cells
  have bf := bB.out.free
  have bl := bB.out.lt
  obtain ⟨x0, x1, x2, x3, x4, x5⟩ := xB.out.cells
  have xf := xB.out.free
  have xl := xB.out.lt
  go_wp2_with fail
  go_at_call 26
  refine (Assignable_ok _ _ _ _ _ _ _ _ _ _ _ _ _ pic0 pic0 A.out.ok B.out.ok).mono ?_
  rintro e w3 ⟨rfl, hb⟩
  clear a0 a1 a2 a3 a4 a5 af al b0 b1 b2 b3 b4 b5 bf bl x0 x1 x2 x3 x4 x5 xf xl
  have aC := Lib.hid (aB.out.past hb)
  have bC := Lib.hid (bB.out.past hb)
  have xC := Lib.hid (xB.out.past hb)
  have yC := Lib.hid (BoxAt.fresh (t := nTy 0 0 0) hb)
  have hW2 : Below w.heap.size w w3 := below_then hW (below_then ((Below.refl _ _).alloc (Nat.le_refl _) _) hb (by simp)) hW.size
  clear hb hW aB bB xB
  have hW := hW2
  clear hW2
  have aB := aC
  have bB := bC
  have xB := xC
  have yB := yC
  clear aC bC xC yC
  have L3 : w2.heap.size < w3.heap.size := yB.out.lt
  have neab : ¬ w.heap.size = (w.heap.size + 1) := by omega
  have neax : ¬ w.heap.size = w1.heap.size := by omega
  have neay : ¬ w.heap.size = w2.heap.size := by omega
  have neba : ¬ (w.heap.size + 1) = w.heap.size := by omega
  have nebx : ¬ (w.heap.size + 1) = w1.heap.size := by omega
  have neby : ¬ (w.heap.size + 1) = w2.heap.size := by omega
  have nexa : ¬ w1.heap.size = w.heap.size := by omega
  have nexb : ¬ w1.heap.size = (w.heap.size + 1) := by omega
  have nexy : ¬ w1.heap.size = w2.heap.size := by omega
  have neya : ¬ w2.heap.size = w.heap.size := by omega
  have neyb : ¬ w2.heap.size = (w.heap.size + 1) := by omega
  have neyx : ¬ w2.heap.size = w1.heap.size := by omega
  obtain ⟨a0, a1, a2, a3, a4, a5⟩ := aB.out.cells
  have af := aB.out.free
  have al := aB.out.lt
  obtain ⟨b0, b1, b2, b3, b4, b5⟩ := bB.out.cells
  have bf := bB.out.free
  have bl := bB.out.lt
  obtain ⟨x0, x1, x2, x3, x4, x5⟩ := xB.out.cells
  have xf := xB.out.free
  have xl := xB.out.lt
  obtain ⟨y0, y1, y2, y3, y4, y5⟩ := yB.out.cells
  have yf := yB.out.free
  have yl := yB.out.lt
  go_wp2_with fail
  go_at_call 27
  refine (refAsg_ok _ _ _ _ _ _ _ _ _ _ _ _ _ pic0 pic0 A.out.ok B.out.ok).mono ?_
  rintro e w4 ⟨rfl, hb⟩
  clear a0 a1 a2 a3 a4 a5 af al b0 b1 b2 b3 b4 b5 bf bl x0 x1 x2 x3 x4 x5 xf xl y0 y1 y2 y3 y4 y5 yf yl
  have aC := Lib.hid (aB.out.below aB.out.lt hb)
  have bC := Lib.hid (bB.out.below bB.out.lt hb)
  have xC := Lib.hid (xB.out.below xB.out.lt hb)
  have yC := Lib.hid (yB.out.below yB.out.lt hb)
  have hW2 : Below w.heap.size w w4 := below_then hW hb hW.size
  clear hb hW aB bB xB yB
  have hW := hW2
  clear hW2
  have aB := aC
  have bB := bC
  have xB := xC
  have yB := yC
  clear aC bC xC yC
  obtain ⟨a0, a1, a2, a3, a4, a5⟩ := aB.out.cells
  have af := aB.out.free
  have al := aB.out.lt
  obtain ⟨b0, b1, b2, b3, b4, b5⟩ := bB.out.cells
  have bf := bB.out.free
  have bl := bB.out.lt
  obtain ⟨x0, x1, x2, x3, x4, x5⟩ := xB.out.cells
  have xf := xB.out.free
  have xl := xB.out.lt
  obtain ⟨y0, y1, y2, y3, y4, y5⟩ := yB.out.cells
  have yf := yB.out.free
  have yl := yB.out.lt
  go_wp2_with fail
  go_at_call 12
  refine (awake_2 _).mono ?_
  rintro e w5 ⟨rfl, hb⟩
  clear a0 a1 a2 a3 a4 a5 af al b0 b1 b2 b3 b4 b5 bf bl x0 x1 x2 x3 x4 x5 xf xl y0 y1 y2 y3 y4 y5 yf yl
  have hW2 : Below w.heap.size w w5 := below_then hW hb hW.size
  go_wp2
  go_ret
  exact ⟨rfl, hW2⟩

end Go.Proofs.YtcekphfmpjdbmaaGreatDoor
