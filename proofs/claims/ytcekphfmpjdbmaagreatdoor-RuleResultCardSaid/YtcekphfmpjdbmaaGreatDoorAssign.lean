/- Assignable, of package rule and of its specification. -/
import Derived.Test.YtcekphfmpjdbmaaGreatDoorAnsweredB
import Derived.Test.YtcekphfmpjdbmaaGreatDoorResult2
import Derived.Test.YtcekphfmpjdbmaaGreatDoorAwake2
namespace Go.Proofs.YtcekphfmpjdbmaaGreatDoor
open Go.RowKit

/-- May a value of kind kb go to a place of kind ka? -/
def asgS (ka kb : Int) : Bool := (decide (ka ≤ 6) && decide (kb ≤ 6)) || ka == kb

theorem ok_plain {k p q n : Int} {vy : Bool} {pic : ByteArray} (h : (Ty.mk k p q n vy pic).ok = true) (hk : 7 ≤ k) : p = 0 ∧ q = 0 ∧ n = 0 ∧ vy = false ∧ pic = ⟨#[]⟩ := by
  have h9 := (ok_kind h).2
  unfold Ty.ok validS at h
  simp only at h
  rw [if_neg (by omega), if_neg (by omega), if_neg (by omega), if_neg (by omega), if_neg (by omega), if_pos (by omega)] at h
  simp only [validPlainS, Bool.and_eq_true, beq_iff_eq] at h
  obtain ⟨⟨⟨⟨h1, h2⟩, h3⟩, h4⟩, h5⟩ := h
  exact ⟨h1, h2, h3, h4, toList_nil _ (by rw [h5]; rfl)⟩

theorem same_eq {ka pa qa na : Int} {va : Bool} {ca : ByteArray} {kb pb qb nb : Int} {vb : Bool} {cb : ByteArray} (hva : (Ty.mk ka pa qa na va ca).ok = true) (hvb : (Ty.mk kb pb qb nb vb cb).ok = true) (h : 7 ≤ ka ∨ 7 ≤ kb) :
    (ka == kb && pa == pb && qa == qb && na == nb && va == vb && ca.toList == cb.toList) = asgS ka kb := by
  unfold asgS
  by_cases e : ka = kb
  · subst e
    have h7 : 7 ≤ ka := by omega
    obtain ⟨rfl, rfl, rfl, rfl, rfl⟩ := ok_plain hva h7
    obtain ⟨rfl, rfl, rfl, rfl, rfl⟩ := ok_plain hvb h7
    simp
  · have e1 : (ka == kb) = false := by simpa using e
    have e2 : (decide (ka ≤ 6) && decide (kb ≤ 6)) = false := by simp; omega
    simp [e1, e2]

set_option maxHeartbeats 1000000 in
theorem cAsg_13 (ka pa qa na : Int) (va : Bool) (ca : ByteArray) (kb pb qb nb : Int) (vb : Bool) (cb : ByteArray) (w : World) (ba bb : Nat) (ha : BoxAt w ba ⟨ka, pa, qa, na, va, ca⟩) (hb : BoxAt w bb ⟨kb, pb, qb, nb, vb, cb⟩) (hsa : ca.size ≤ maxLen) (hsb : cb.size ≤ maxLen) (hv : (Ty.mk ka pa qa na va ca).ok = false ∨ (Ty.mk kb pb qb nb vb cb).ok = false) :
    Calls Tryz.prog 79 #[.pointer (some ⟨ba, 0, none⟩), .pointer (some ⟨bb, 0, none⟩)] w fun e w' => e = refusal 13 ∧ Below w.heap.size w w' := by
  have HV := Lib.hid hv; have HSA := Lib.hid hsa; have HSB := Lib.hid hsb
  clear hv hsa hsb
  have hla := ha.lt
  have hlb := hb.lt
  have la1 : ba < w.heap.size + 1 := by omega
  have lb1 : bb < w.heap.size + 1 := by omega
  obtain ⟨x0, x1, x2, x3, x4, x5⟩ := ha.cells
  obtain ⟨y0, y1, y2, y3, y4, y5⟩ := hb.cells
  have hE := tyEq
  have hG : Tryz.prog.eqGuardType Tryz.prog.depth 23 = false := by kernel_rfl
  go_enter Tryz.func79, Tryz.ntmps79
  go_wp2_with fail
  go_at_call 70
  refine (demandValid_no [⟨ka, pa, qa, na, va, ca⟩, ⟨kb, pb, qb, nb, vb, cb⟩] w.heap.size 0 2 _ (TysAt_two (heap_alloc_last _ _)) (by simp) (by simp) (pic2 HSA.out HSB.out) (nall2 HV.out)).mono ?_
  rintro e w1 ⟨rfl, hb1⟩
  exact ⟨rfl, rfl, below_then (by go_grown) hb1 (by simp <;> omega)⟩

set_option maxHeartbeats 1000000 in
theorem cAsg_both (ka pa qa na : Int) (va : Bool) (ca : ByteArray) (kb pb qb nb : Int) (vb : Bool) (cb : ByteArray) (w : World) (ba bb : Nat) (ha : BoxAt w ba ⟨ka, pa, qa, na, va, ca⟩) (hb : BoxAt w bb ⟨kb, pb, qb, nb, vb, cb⟩) (hsa : ca.size ≤ maxLen) (hsb : cb.size ≤ maxLen) (hva : (Ty.mk ka pa qa na va ca).ok = true) (hvb : (Ty.mk kb pb qb nb vb cb).ok = true) (hk : ka ≤ 6 ∧ kb ≤ 6) :
    Calls Tryz.prog 79 #[.pointer (some ⟨ba, 0, none⟩), .pointer (some ⟨bb, 0, none⟩)] w fun e w' => e = .returned (.bool (asgS ka kb)) ∧ Below w.heap.size w w' := by
  have HVA := Lib.hid hva; have HVB := Lib.hid hvb; have HSA := Lib.hid hsa; have HSB := Lib.hid hsb; have K := Lib.hid (ok_kind hva); have L := Lib.hid (ok_kind hvb); have HK := Lib.hid hk
  clear hva hvb hsa hsb hk
  have hla := ha.lt
  have hlb := hb.lt
  have la1 : ba < w.heap.size + 1 := by omega
  have lb1 : bb < w.heap.size + 1 := by omega
  obtain ⟨x0, x1, x2, x3, x4, x5⟩ := ha.cells
  obtain ⟨y0, y1, y2, y3, y4, y5⟩ := hb.cells
  have hE := tyEq
  have hG : Tryz.prog.eqGuardType Tryz.prog.depth 23 = false := by kernel_rfl
  go_enter Tryz.func79, Tryz.ntmps79
  go_wp2_with fail
  go_at_call 70
  refine (demandValid_ok [⟨ka, pa, qa, na, va, ca⟩, ⟨kb, pb, qb, nb, vb, cb⟩] w.heap.size 0 2 _ (TysAt_two (heap_alloc_last _ _)) (by simp) (by simp) (pic2 HSA.out HSB.out) (all2 HVA.out HVB.out)).mono ?_
  rintro e w1 ⟨rfl, hb1⟩
  have bA := Lib.hid ((ha.below hla (w' := w.alloc _) (by go_grown)).below (by simp; omega) hb1)
  have bB := Lib.hid ((hb.below hlb (w' := w.alloc _) (by go_grown)).below (by simp; omega) hb1)
  have hW : Below w.heap.size w w1 := below_then (by go_grown) hb1 (by simp <;> omega)
  clear ha hb x0 x1 x2 x3 x4 x5 y0 y1 y2 y3 y4 y5 hb1
  obtain ⟨x0, x1, x2, x3, x4, x5⟩ := bA.out.cells
  go_wp2_with fail
  go_at_call 80
  refine (isData_b true _ _ _ _ _ _ _ (by have := K.out; have := L.out; have := HK.out; unfold isDataS; simp; omega)).mono ?_
  rintro e w2 ⟨rfl, hb2⟩
  have bA2 := Lib.hid (bA.out.below bA.out.lt hb2)
  have bB2 := Lib.hid (bB.out.below bB.out.lt hb2)
  have hW2 : Below w.heap.size w w2 := below_then hW hb2 hW.size
  clear x0 x1 x2 x3 x4 x5 hb2 bA bB hW
  obtain ⟨y0, y1, y2, y3, y4, y5⟩ := bB2.out.cells
  go_wp2_with fail
  go_at_call 80
  refine (isData_b true _ _ _ _ _ _ _ (by have := K.out; have := L.out; have := HK.out; unfold isDataS; simp; omega)).mono ?_
  rintro e w3 ⟨rfl, hb2⟩
  have bA3 := Lib.hid (bA2.out.below bA2.out.lt hb2)
  have bB3 := Lib.hid (bB2.out.below bB2.out.lt hb2)
  have hW3 : Below w.heap.size w w3 := below_then hW2 hb2 hW2.size
  clear y0 y1 y2 y3 y4 y5 hb2 bA2 bB2 hW2
  go_wp2
  go_ret
  exact ⟨ret_bool (by have := HK.out; simp [asgS, this.1, this.2]), hW3⟩

set_option maxHeartbeats 1000000 in
theorem cAsg_left (ka pa qa na : Int) (va : Bool) (ca : ByteArray) (kb pb qb nb : Int) (vb : Bool) (cb : ByteArray) (w : World) (ba bb : Nat) (ha : BoxAt w ba ⟨ka, pa, qa, na, va, ca⟩) (hb : BoxAt w bb ⟨kb, pb, qb, nb, vb, cb⟩) (hsa : ca.size ≤ maxLen) (hsb : cb.size ≤ maxLen) (hva : (Ty.mk ka pa qa na va ca).ok = true) (hvb : (Ty.mk kb pb qb nb vb cb).ok = true) (hk : 7 ≤ ka) :
    Calls Tryz.prog 79 #[.pointer (some ⟨ba, 0, none⟩), .pointer (some ⟨bb, 0, none⟩)] w fun e w' => e = .returned (.bool (asgS ka kb)) ∧ Below w.heap.size w w' := by
  have HVA := Lib.hid hva; have HVB := Lib.hid hvb; have HSA := Lib.hid hsa; have HSB := Lib.hid hsb; have K := Lib.hid (ok_kind hva); have L := Lib.hid (ok_kind hvb); have HK := Lib.hid hk
  clear hva hvb hsa hsb hk
  have hla := ha.lt
  have hlb := hb.lt
  have la1 : ba < w.heap.size + 1 := by omega
  have lb1 : bb < w.heap.size + 1 := by omega
  obtain ⟨x0, x1, x2, x3, x4, x5⟩ := ha.cells
  obtain ⟨y0, y1, y2, y3, y4, y5⟩ := hb.cells
  have hE := tyEq
  have hG : Tryz.prog.eqGuardType Tryz.prog.depth 23 = false := by kernel_rfl
  go_enter Tryz.func79, Tryz.ntmps79
  go_wp2_with fail
  go_at_call 70
  refine (demandValid_ok [⟨ka, pa, qa, na, va, ca⟩, ⟨kb, pb, qb, nb, vb, cb⟩] w.heap.size 0 2 _ (TysAt_two (heap_alloc_last _ _)) (by simp) (by simp) (pic2 HSA.out HSB.out) (all2 HVA.out HVB.out)).mono ?_
  rintro e w1 ⟨rfl, hb1⟩
  have bA := Lib.hid ((ha.below hla (w' := w.alloc _) (by go_grown)).below (by simp; omega) hb1)
  have bB := Lib.hid ((hb.below hlb (w' := w.alloc _) (by go_grown)).below (by simp; omega) hb1)
  have hW : Below w.heap.size w w1 := below_then (by go_grown) hb1 (by simp <;> omega)
  clear ha hb x0 x1 x2 x3 x4 x5 y0 y1 y2 y3 y4 y5 hb1
  obtain ⟨x0, x1, x2, x3, x4, x5⟩ := bA.out.cells
  go_wp2_with fail
  go_at_call 80
  refine (isData_b false _ _ _ _ _ _ _ (by have := K.out; have := L.out; have := HK.out; unfold isDataS; simp; omega)).mono ?_
  rintro e w2 ⟨rfl, hb2⟩
  have bA2 := Lib.hid (bA.out.below bA.out.lt hb2)
  have bB2 := Lib.hid (bB.out.below bB.out.lt hb2)
  have hW2 : Below w.heap.size w w2 := below_then hW hb2 hW.size
  clear x0 x1 x2 x3 x4 x5 hb2 bA bB hW
  obtain ⟨x0, x1, x2, x3, x4, x5⟩ := bA2.out.cells
  obtain ⟨y0, y1, y2, y3, y4, y5⟩ := bB2.out.cells
  go_wp2
  go_ret
  exact ⟨ret_bool (by rw [← same_eq HVA.out HVB.out (Or.inl HK.out)]), hW2⟩

set_option maxHeartbeats 1000000 in
theorem cAsg_right (ka pa qa na : Int) (va : Bool) (ca : ByteArray) (kb pb qb nb : Int) (vb : Bool) (cb : ByteArray) (w : World) (ba bb : Nat) (ha : BoxAt w ba ⟨ka, pa, qa, na, va, ca⟩) (hb : BoxAt w bb ⟨kb, pb, qb, nb, vb, cb⟩) (hsa : ca.size ≤ maxLen) (hsb : cb.size ≤ maxLen) (hva : (Ty.mk ka pa qa na va ca).ok = true) (hvb : (Ty.mk kb pb qb nb vb cb).ok = true) (hk : ka ≤ 6 ∧ 7 ≤ kb) :
    Calls Tryz.prog 79 #[.pointer (some ⟨ba, 0, none⟩), .pointer (some ⟨bb, 0, none⟩)] w fun e w' => e = .returned (.bool (asgS ka kb)) ∧ Below w.heap.size w w' := by
  have HVA := Lib.hid hva; have HVB := Lib.hid hvb; have HSA := Lib.hid hsa; have HSB := Lib.hid hsb; have K := Lib.hid (ok_kind hva); have L := Lib.hid (ok_kind hvb); have HK := Lib.hid hk
  clear hva hvb hsa hsb hk
  have hla := ha.lt
  have hlb := hb.lt
  have la1 : ba < w.heap.size + 1 := by omega
  have lb1 : bb < w.heap.size + 1 := by omega
  obtain ⟨x0, x1, x2, x3, x4, x5⟩ := ha.cells
  obtain ⟨y0, y1, y2, y3, y4, y5⟩ := hb.cells
  have hE := tyEq
  have hG : Tryz.prog.eqGuardType Tryz.prog.depth 23 = false := by kernel_rfl
  go_enter Tryz.func79, Tryz.ntmps79
  go_wp2_with fail
  go_at_call 70
  refine (demandValid_ok [⟨ka, pa, qa, na, va, ca⟩, ⟨kb, pb, qb, nb, vb, cb⟩] w.heap.size 0 2 _ (TysAt_two (heap_alloc_last _ _)) (by simp) (by simp) (pic2 HSA.out HSB.out) (all2 HVA.out HVB.out)).mono ?_
  rintro e w1 ⟨rfl, hb1⟩
  have bA := Lib.hid ((ha.below hla (w' := w.alloc _) (by go_grown)).below (by simp; omega) hb1)
  have bB := Lib.hid ((hb.below hlb (w' := w.alloc _) (by go_grown)).below (by simp; omega) hb1)
  have hW : Below w.heap.size w w1 := below_then (by go_grown) hb1 (by simp <;> omega)
  clear ha hb x0 x1 x2 x3 x4 x5 y0 y1 y2 y3 y4 y5 hb1
  obtain ⟨x0, x1, x2, x3, x4, x5⟩ := bA.out.cells
  go_wp2_with fail
  go_at_call 80
  refine (isData_b true _ _ _ _ _ _ _ (by have := K.out; have := L.out; have := HK.out; unfold isDataS; simp; omega)).mono ?_
  rintro e w2 ⟨rfl, hb2⟩
  have bA2 := Lib.hid (bA.out.below bA.out.lt hb2)
  have bB2 := Lib.hid (bB.out.below bB.out.lt hb2)
  have hW2 : Below w.heap.size w w2 := below_then hW hb2 hW.size
  clear x0 x1 x2 x3 x4 x5 hb2 bA bB hW
  obtain ⟨y0, y1, y2, y3, y4, y5⟩ := bB2.out.cells
  go_wp2_with fail
  go_at_call 80
  refine (isData_b false _ _ _ _ _ _ _ (by have := K.out; have := L.out; have := HK.out; unfold isDataS; simp; omega)).mono ?_
  rintro e w3 ⟨rfl, hb2⟩
  have bA3 := Lib.hid (bA2.out.below bA2.out.lt hb2)
  have bB3 := Lib.hid (bB2.out.below bB2.out.lt hb2)
  have hW3 : Below w.heap.size w w3 := below_then hW2 hb2 hW2.size
  clear y0 y1 y2 y3 y4 y5 hb2 bA2 bB2 hW2
  obtain ⟨x0, x1, x2, x3, x4, x5⟩ := bA3.out.cells
  obtain ⟨y0, y1, y2, y3, y4, y5⟩ := bB3.out.cells
  go_wp2
  go_ret
  exact ⟨ret_bool (by rw [← same_eq HVA.out HVB.out (Or.inr HK.out.2)]), hW3⟩

theorem cAsg_ok (ka pa qa na : Int) (va : Bool) (ca : ByteArray) (kb pb qb nb : Int) (vb : Bool) (cb : ByteArray) (w : World) (ba bb : Nat) (ha : BoxAt w ba ⟨ka, pa, qa, na, va, ca⟩) (hb : BoxAt w bb ⟨kb, pb, qb, nb, vb, cb⟩) (hsa : ca.size ≤ maxLen) (hsb : cb.size ≤ maxLen) (hva : (Ty.mk ka pa qa na va ca).ok = true) (hvb : (Ty.mk kb pb qb nb vb cb).ok = true) :
    Calls Tryz.prog 79 #[.pointer (some ⟨ba, 0, none⟩), .pointer (some ⟨bb, 0, none⟩)] w fun e w' => e = .returned (.bool (asgS ka kb)) ∧ Below w.heap.size w w' := by
  by_cases h1 : 7 ≤ ka
  · exact cAsg_left ka pa qa na va ca kb pb qb nb vb cb w ba bb ha hb hsa hsb hva hvb h1
  · by_cases h2 : 7 ≤ kb
    · exact cAsg_right ka pa qa na va ca kb pb qb nb vb cb w ba bb ha hb hsa hsb hva hvb ⟨by omega, h2⟩
    · exact cAsg_both ka pa qa na va ca kb pb qb nb vb cb w ba bb ha hb hsa hsb hva hvb ⟨by omega, by omega⟩

theorem boxB2 {w : World} {t : Ty} {A : Obj} : BoxAt ((w.alloc A).alloc (.cells #[.int .i64 t.k, .int .i64 t.p, .int .i64 t.q, .int .i64 t.n, .bool t.vy, .string t.pic] 23 (0, 0))) (w.heap.size + 1) t := heap_alloc2_new _ _ _

set_option maxHeartbeats 1000000 in
theorem Assignable_13 (ka pa qa na : Int) (va : Bool) (ca : ByteArray) (kb pb qb nb : Int) (vb : Bool) (cb : ByteArray) (w : World) (hsa : ca.size ≤ maxLen) (hsb : cb.size ≤ maxLen) (hv : (Ty.mk ka pa qa na va ca).ok = false ∨ (Ty.mk kb pb qb nb vb cb).ok = false) :
    Calls Tryz.prog 26 #[tyV ka pa qa na va ca, tyV kb pb qb nb vb cb] w fun e w' => e = .returned (.tuple #[.bool false, .int .i64 13]) ∧ Below w.heap.size w w' := by
  have hmf : ∀ (fn : Fn) (first cap : Array Value) (w : World), (Instr.makeFunc fn first cap).run Tryz.prog w = .ok (.func fn first cap) w := fun _ _ _ _ => rfl
  go_enter Tryz.func26, Tryz.ntmps26
  go_wp2_with fail
  go_at_call 78
  refine (answeredB_no 79 #[.pointer (some ⟨w.heap.size, 0, none⟩), .pointer (some ⟨w.heap.size + 1, 0, none⟩)] 13 _ (fun W => by kernel_rfl) (fun W hW => cAsg_13 ka pa qa na va ca kb pb qb nb vb cb W w.heap.size (w.heap.size + 1) (BoxAt.below (t := ⟨ka, pa, qa, na, va, ca⟩) boxAt_old (by simp <;> omega) hW) (BoxAt.below (t := ⟨kb, pb, qb, nb, vb, cb⟩) boxB2 (by simp <;> omega) hW) hsa hsb hv)).mono ?_
  rintro e w1 ⟨rfl, hb1⟩
  go_wp2
  go_ret2
  exact ⟨rfl, below_then (by go_grown) hb1 (by simp <;> omega)⟩

set_option maxHeartbeats 1000000 in
theorem Assignable_ok (ka pa qa na : Int) (va : Bool) (ca : ByteArray) (kb pb qb nb : Int) (vb : Bool) (cb : ByteArray) (w : World) (hsa : ca.size ≤ maxLen) (hsb : cb.size ≤ maxLen) (hva : (Ty.mk ka pa qa na va ca).ok = true) (hvb : (Ty.mk kb pb qb nb vb cb).ok = true) :
    Calls Tryz.prog 26 #[tyV ka pa qa na va ca, tyV kb pb qb nb vb cb] w fun e w' => e = .returned (.tuple #[.bool (asgS ka kb), .int .i64 0]) ∧ Below w.heap.size w w' := by
  have hmf : ∀ (fn : Fn) (first cap : Array Value) (w : World), (Instr.makeFunc fn first cap).run Tryz.prog w = .ok (.func fn first cap) w := fun _ _ _ _ => rfl
  go_enter Tryz.func26, Tryz.ntmps26
  go_wp2_with fail
  go_at_call 78
  refine (answeredB_ok 79 #[.pointer (some ⟨w.heap.size, 0, none⟩), .pointer (some ⟨w.heap.size + 1, 0, none⟩)] (asgS ka kb) _ (fun W => by kernel_rfl) (fun W hW => cAsg_ok ka pa qa na va ca kb pb qb nb vb cb W w.heap.size (w.heap.size + 1) (BoxAt.below (t := ⟨ka, pa, qa, na, va, ca⟩) boxAt_old (by simp <;> omega) hW) (BoxAt.below (t := ⟨kb, pb, qb, nb, vb, cb⟩) boxB2 (by simp <;> omega) hW) hsa hsb hva hvb)).mono ?_
  rintro e w1 ⟨rfl, hb1⟩
  go_wp2
  go_ret2
  exact ⟨rfl, below_then (by go_grown) hb1 (by simp <;> omega)⟩
end Go.Proofs.YtcekphfmpjdbmaaGreatDoor
