/- ironbarkref02.Assignable. -/
import Derived.Test.YtcekphfmpjdbmaaGreatDoorAssign
namespace Go.Proofs.YtcekphfmpjdbmaaGreatDoor
open Go.RowKit

set_option maxHeartbeats 1000000 in
theorem refAsg_13a (ka pa qa na : Int) (va : Bool) (ca : ByteArray) (kb pb qb nb : Int) (vb : Bool) (cb : ByteArray) (w : World) (hsa : ca.size ≤ maxLen) (hsb : cb.size ≤ maxLen) (hv : (Ty.mk ka pa qa na va ca).ok = false) :
    Calls Tryz.prog 27 #[tyV ka pa qa na va ca, tyV kb pb qb nb vb cb] w fun e w' => e = .returned (.tuple #[.bool false, .int .i64 13]) ∧ Below w.heap.size w w' := by
  have HSA := Lib.hid hsa; have HSB := Lib.hid hsb
  have HV := Lib.hid hv
  clear hv
  clear hsa hsb
  go_enter Tryz.func27, Tryz.ntmps27
  go_wp2_with fail
  go_at_call 17
  refine (refValid_b false _ _ _ _ _ _ _ HSA.out HV.out).mono ?_
  rintro e w1 ⟨rfl, hb⟩
  have hW : Below w.heap.size w w1 := below_then (by go_grown) hb (by simp <;> omega)
  go_wp2
  go_ret2
  exact ⟨rfl, hW⟩

set_option maxHeartbeats 1000000 in
theorem refAsg_13b (ka pa qa na : Int) (va : Bool) (ca : ByteArray) (kb pb qb nb : Int) (vb : Bool) (cb : ByteArray) (w : World) (hsa : ca.size ≤ maxLen) (hsb : cb.size ≤ maxLen) (hva : (Ty.mk ka pa qa na va ca).ok = true) (hv : (Ty.mk kb pb qb nb vb cb).ok = false) :
    Calls Tryz.prog 27 #[tyV ka pa qa na va ca, tyV kb pb qb nb vb cb] w fun e w' => e = .returned (.tuple #[.bool false, .int .i64 13]) ∧ Below w.heap.size w w' := by
  have HSA := Lib.hid hsa; have HSB := Lib.hid hsb
  have HVA := Lib.hid hva; have HV := Lib.hid hv
  clear hva hv
  clear hsa hsb
  go_enter Tryz.func27, Tryz.ntmps27
  go_wp2_with fail
  go_at_call 17
  refine (refValid_b true _ _ _ _ _ _ _ HSA.out HVA.out).mono ?_
  rintro e w1 ⟨rfl, hb⟩
  have hW : Below w.heap.size w w1 := below_then (by go_grown) hb (by simp <;> omega)
  have bA := Lib.hid (BoxAt.past2 (t := ⟨ka, pa, qa, na, va, ca⟩) hb)
  have bB0 : BoxAt w1 (w.heap.size + 1) ⟨kb, pb, qb, nb, vb, cb⟩ := (hb.block _ (by simp <;> omega)).trans (heap_alloc2_new _ _ _)
  have bB := Lib.hid bB0
  clear bB0
  clear hb
  obtain ⟨y0, y1, y2, y3, y4, y5⟩ := bB.out.cells
  go_wp2_with fail
  go_at_call 17
  refine (refValid_b false _ _ _ _ _ _ _ HSB.out HV.out).mono ?_
  rintro e w2 ⟨rfl, hb⟩
  have hW2 : Below w.heap.size w w2 := below_then hW hb hW.size
  go_wp2
  go_ret2
  exact ⟨rfl, hW2⟩

set_option maxHeartbeats 1000000 in
theorem refAsg_ok (ka pa qa na : Int) (va : Bool) (ca : ByteArray) (kb pb qb nb : Int) (vb : Bool) (cb : ByteArray) (w : World) (hsa : ca.size ≤ maxLen) (hsb : cb.size ≤ maxLen) (hva : (Ty.mk ka pa qa na va ca).ok = true) (hvb : (Ty.mk kb pb qb nb vb cb).ok = true) :
    Calls Tryz.prog 27 #[tyV ka pa qa na va ca, tyV kb pb qb nb vb cb] w fun e w' => e = .returned (.tuple #[.bool (asgS ka kb), .int .i64 0]) ∧ Below w.heap.size w w' := by
  have HSA := Lib.hid hsa; have HSB := Lib.hid hsb
  have HVA := Lib.hid hva; have HVB := Lib.hid hvb
  clear hva hvb
  clear hsa hsb
  go_enter Tryz.func27, Tryz.ntmps27
  go_wp2_with fail
  go_at_call 17
  refine (refValid_b true _ _ _ _ _ _ _ HSA.out HVA.out).mono ?_
  rintro e w1 ⟨rfl, hb⟩
  have hW : Below w.heap.size w w1 := below_then (by go_grown) hb (by simp <;> omega)
  have bA := Lib.hid (BoxAt.past2 (t := ⟨ka, pa, qa, na, va, ca⟩) hb)
  have bB0 : BoxAt w1 (w.heap.size + 1) ⟨kb, pb, qb, nb, vb, cb⟩ := (hb.block _ (by simp <;> omega)).trans (heap_alloc2_new _ _ _)
  have bB := Lib.hid bB0
  clear bB0
  clear hb
  obtain ⟨y0, y1, y2, y3, y4, y5⟩ := bB.out.cells
  go_wp2_with fail
  go_at_call 17
  refine (refValid_b true _ _ _ _ _ _ _ HSB.out HVB.out).mono ?_
  rintro e w2 ⟨rfl, hb⟩
  have hW2 : Below w.heap.size w w2 := below_then hW hb hW.size
  have bA2 := bA.out.below bA.out.lt hb
  have bB2 := bB.out.below bB.out.lt hb
  clear y0 y1 y2 y3 y4 y5
  obtain ⟨x0, x1, x2, x3, x4, x5⟩ := bA2.cells
  obtain ⟨y0, y1, y2, y3, y4, y5⟩ := bB2.cells
  clear bA2 bB2
  go_wp2
  all_goals
    go_ret2
    refine ⟨?_, hW2⟩
    have : ∀ a b : Bool, a = b → Ending.returned (.tuple #[.bool a, .int .i64 0]) = Ending.returned (.tuple #[.bool b, .int .i64 0]) := fun a b h => by rw [h]
    refine this _ _ ?_
    unfold asgS
    rw [Bool.eq_iff_iff]
    simp
    try omega
end Go.Proofs.YtcekphfmpjdbmaaGreatDoor
