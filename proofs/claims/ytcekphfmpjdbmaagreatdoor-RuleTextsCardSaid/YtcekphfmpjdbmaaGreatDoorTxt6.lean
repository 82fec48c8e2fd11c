/- Package rule: readType; Read and Text, of any text and type. -/
import Derived.Test.YtcekphfmpjdbmaaGreatDoorTxt4
import Derived.Test.YtcekphfmpjdbmaaGreatDoorTxt5
import Derived.Test.YtcekphfmpjdbmaaGreatDoorAnsweredS
namespace Go.Proofs.YtcekphfmpjdbmaaGreatDoor
open Go.RowKit

/-- What likely tells of a text. -/
def Likely (s : ByteArray) (T : Ty) : Prop := T.pic.size ≤ maxLen ∧ ∀ w, EnvT w → Calls Tryz.prog 157 #[.string s] w fun e w' => e = .returned T.v ∧ Below w.heap.size w w'

set_option maxHeartbeats 1000000 in
theorem readType_bad (s : ByteArray) (T : Ty) (w : World) (hL : Likely s T) (hE : EnvT w) (hv : T.ok = false) :
    Calls Tryz.prog 104 #[.string s] w fun e w' => e = refusal 2 ∧ Below w.heap.size w w' := by
  have HE := Lib.hid (hE.below (by go_grown : Below w.heap.size w (w.alloc zeroTy)))
  have HL := Lib.hid hL; have HV := Lib.hid hv
  clear hE hL hv
  go_enter Tryz.func104, Tryz.ntmps104
  go_wp2_with fail
  go_at_call 157
  refine (HL.out.2 _ HE.out).mono ?_
  rintro e w1 ⟨rfl, hb⟩
  have hW := Lib.hid (below_then (by go_grown) hb (by simp) : Below w.heap.size w w1)
  clear hb
  go_wp2_with fail
  go_at_call 142
  refine (valid_b false _ _ _ _ _ _ _ HL.out.1 HV.out).mono ?_
  rintro e w2 ⟨rfl, hb⟩
  have hW2 := Lib.hid (below_then (hW.out.alloc hW.out.size _) hb (by simp; have := hW.out.size; omega) : Below w.heap.size w w2)
  clear hb
  go_wp2_with fail
  go_at_call 82
  refine (refuse_any _ _).mono ?_
  rintro e w3 ⟨rfl, rfl⟩
  exact ⟨rfl, rfl, hW2.out⟩

set_option maxHeartbeats 1000000 in
theorem readType_other (s : ByteArray) (T : Ty) (w : World) (hL : Likely s T) (hE : EnvT w) (hv : T.ok = true) (ht : T.txt ≠ s.data.toList) :
    Calls Tryz.prog 104 #[.string s] w fun e w' => e = refusal 2 ∧ Below w.heap.size w w' := by
  have HE := Lib.hid (hE.below (by go_grown : Below w.heap.size w (w.alloc zeroTy)))
  have HL := Lib.hid hL; have HV := Lib.hid hv
  have hne : (T.txt == s.toList) = false := by rw [beq_eq_false_iff_ne, ByteArray.toList_eq]; exact ht
  have hne' : (T.txt != s.toList) = true := by rw [bne, hne]; rfl
  clear hE hL hv ht
  go_enter Tryz.func104, Tryz.ntmps104
  go_wp2_with fail
  go_at_call 157
  refine (HL.out.2 _ HE.out).mono ?_
  rintro e w1 ⟨rfl, hb⟩
  have HE1 := Lib.hid (HE.out.below hb)
  have hW := Lib.hid (below_then (by go_grown) hb (by simp) : Below w.heap.size w w1)
  clear hb
  go_wp2_with fail
  go_at_call 142
  refine (valid_b true _ _ _ _ _ _ _ HL.out.1 HV.out).mono ?_
  rintro e w2 ⟨rfl, hb⟩
  have HE2 := Lib.hid (HE1.out.below (below_then ((Below.refl _ _).alloc (Nat.le_refl _) _) hb (by simp)))
  have tB := Lib.hid (BoxAt.fresh (t := T) hb)
  have hW2 := Lib.hid (below_then (hW.out.alloc hW.out.size _) hb (by simp; have := hW.out.size; omega) : Below w.heap.size w w2)
  clear hb
  obtain ⟨x0, x1, x2, x3, x4, x5⟩ := tB.out.cells
  go_wp2_with fail
  go_at_call 100
  refine (textOf_any T _ HV.out HE2.out).mono ?_
  rintro e w3 ⟨rfl, hb⟩
  have hW3 := Lib.hid (below_then hW2.out hb hW2.out.size)
  clear hb
  go_wp2_with fail
  go_at_call 82
  refine (refuse_any _ _).mono ?_
  rintro e w4 ⟨rfl, rfl⟩
  exact ⟨rfl, rfl, hW3.out⟩

set_option maxHeartbeats 1000000 in
theorem readType_yes (s : ByteArray) (T : Ty) (w : World) (hL : Likely s T) (hE : EnvT w) (hv : T.ok = true) (ht : T.txt = s.data.toList) :
    Calls Tryz.prog 104 #[.string s] w fun e w' => e = .returned T.v ∧ Below w.heap.size w w' := by
  have HE := Lib.hid (hE.below (by go_grown : Below w.heap.size w (w.alloc zeroTy)))
  have HL := Lib.hid hL; have HV := Lib.hid hv
  have hne : (T.txt == s.toList) = true := by rw [beq_iff_eq, ByteArray.toList_eq]; exact ht
  have hne' : (T.txt != s.toList) = false := by rw [bne, hne]; rfl
  clear hE hL hv ht
  go_enter Tryz.func104, Tryz.ntmps104
  go_wp2_with fail
  go_at_call 157
  refine (HL.out.2 _ HE.out).mono ?_
  rintro e w1 ⟨rfl, hb⟩
  have HE1 := Lib.hid (HE.out.below hb)
  have hW := Lib.hid (below_then (by go_grown) hb (by simp) : Below w.heap.size w w1)
  have rB := Lib.hid (BoxAt.fresh (t := zTy') hb)
  clear hb
  go_wp2_with fail
  go_at_call 142
  refine (valid_b true _ _ _ _ _ _ _ HL.out.1 HV.out).mono ?_
  rintro e w2 ⟨rfl, hb⟩
  have HE2 := Lib.hid (HE1.out.below (below_then ((Below.refl _ _).alloc (Nat.le_refl _) _) hb (by simp)))
  have tB := Lib.hid (BoxAt.fresh (t := T) hb)
  have rB2 := Lib.hid (rB.out.past hb)
  have hl1 : w.heap.size < w1.heap.size := rB.out.lt
  have hW2 := Lib.hid (below_then (hW.out.alloc hW.out.size _) hb (by simp; have := hW.out.size; omega) : Below w.heap.size w w2)
  clear hb rB
  obtain ⟨x0, x1, x2, x3, x4, x5⟩ := tB.out.cells
  go_wp2_with fail
  go_at_call 100
  refine (textOf_any T _ HV.out HE2.out).mono ?_
  rintro e w3 ⟨rfl, hb⟩
  have hW3 := Lib.hid (below_then hW2.out hb hW2.out.size)
  have tB3 := Lib.hid (tB.out.below tB.out.lt hb)
  have rB3 := Lib.hid (rB2.out.below rB2.out.lt hb)
  clear hb x0 x1 x2 x3 x4 x5
  obtain ⟨x0, x1, x2, x3, x4, x5⟩ := tB3.out.cells
  obtain ⟨z0, z1, z2, z3, z4, z5⟩ := rB3.out.cells
  have zf := rB3.out.free
  have n1 : ¬ w.heap.size = w1.heap.size := by omega
  have n2 : ¬ w1.heap.size = w.heap.size := by omega
  go_upto_region 4 with fail
  iterate 30 (first | go_values | go_skip | go_guarded | go_step | go_upon | go_simp | skip)
  have hbx := rB3.out.set6g T.k T.p T.q T.n T.vy T.pic
  refine bodyPost_ret (v := T.v) (results_cell_row (p := 2) (ty := 23) rfl _ _ w.heap.size 23 #[.int .i64 T.k, .int .i64 T.p, .int .i64 T.q, .int .i64 T.n, .bool T.vy, .string T.pic] (0, 0) _ rfl hbx Tryz.underlying23 rfl size_ty) rfl ⟨rfl, ?_⟩
  exact (((((hW3.out.setCell (Nat.le_refl _) _).setCell (Nat.le_refl _) _).setCell (Nat.le_refl _) _).setCell (Nat.le_refl _) _).setCell (Nat.le_refl _) _).setCell (Nat.le_refl _) _

/- Read. -/
set_option maxHeartbeats 1000000 in
theorem cRead_no (s : ByteArray) (w : World) (bt : Nat) (n : Int) (hbx : w.cell? ⟨bt, 0, none⟩ = some (.string s)) (hlt : bt < w.heap.size)
    (h : ∀ W, Below w.heap.size w W → Calls Tryz.prog 104 #[.string s] W fun e w' => e = refusal n ∧ Below W.heap.size W w') :
    Calls Tryz.prog 103 #[.pointer (some ⟨bt, 0, none⟩)] w fun e w' => e = refusal n ∧ Below w.heap.size w w' := by
  have H := Lib.hid h; clear h
  have l1 : bt < w.heap.size + 1 := by omega
  go_enter Tryz.func103, Tryz.ntmps103
  go_wp2_with fail
  go_at_call 104
  refine (H.out _ (by go_grown)).mono ?_
  rintro e w1 ⟨rfl, hb⟩
  exact ⟨rfl, rfl, below_then (by go_grown) hb (by simp)⟩

set_option maxHeartbeats 1000000 in
theorem cRead_ok (s : ByteArray) (T : Ty) (w : World) (bt : Nat) (hbx : w.cell? ⟨bt, 0, none⟩ = some (.string s)) (hlt : bt < w.heap.size)
    (h : ∀ W, Below w.heap.size w W → Calls Tryz.prog 104 #[.string s] W fun e w' => e = .returned T.v ∧ Below W.heap.size W w') :
    Calls Tryz.prog 103 #[.pointer (some ⟨bt, 0, none⟩)] w fun e w' => e = .returned T.v ∧ Below w.heap.size w w' := by
  have H := Lib.hid h; clear h
  have l1 : bt < w.heap.size + 1 := by omega
  obtain ⟨k, p, q, n, vy, pic⟩ := T
  go_enter Tryz.func103, Tryz.ntmps103
  go_wp2_with fail
  go_at_call 104
  refine (H.out _ (by go_grown)).mono ?_
  rintro e w1 ⟨rfl, hb⟩
  have hz := hb.size
  obtain ⟨r0, r1, r2, r3, r4, r5, rf⟩ := zcells (w2 := w1) (heap_alloc_last _ _) (by simp <;> omega) hb
  go_wp2
  refine bodyPost_ret (v := tyV k p q n vy pic) (by simp [results, Tryz.results103, go_sem, r0, r1, r2, r3, r4, r5]) rfl ⟨rfl, ?_⟩
  (repeat refine Below.setCell ?_ (by simp) _)
  exact below_then (by go_grown) hb (by simp <;> omega)

set_option maxHeartbeats 1000000 in
theorem Read_no (s : ByteArray) (n : Int) (w : World)
    (h : ∀ W, Below w.heap.size w W → Calls Tryz.prog 104 #[.string s] W fun e w' => e = refusal n ∧ Below W.heap.size W w') :
    Calls Tryz.prog 39 #[.string s] w fun e w' => e = .returned (.tuple #[numV 0 0 0, .int .i64 n]) ∧ Below w.heap.size w w' := by
  have hmf : ∀ (fn : Fn) (first cap : Array Value) (w : World), (Instr.makeFunc fn first cap).run Tryz.prog w = .ok (.func fn first cap) w := fun _ _ _ _ => rfl
  have H := Lib.hid h; clear h
  go_enter Tryz.func39, Tryz.ntmps39
  go_wp2_with fail
  go_at_call 55
  refine (answeredT_no 103 #[.pointer (some ⟨w.heap.size, 0, none⟩)] n _ (fun W => by kernel_rfl) (fun W hW => cRead_no s W w.heap.size n (cell_of_row W w.heap.size 0 _ _ _ ((hW.block _ (by simp <;> omega)).trans (heap_alloc2_old _ _ _))) (Nat.lt_of_lt_of_le (by simp <;> omega) hW.size) (fun W' hW' => H.out W' (below_then (below_then (by go_grown) hW (by simp <;> omega)) hW' (Nat.le_trans (by simp <;> omega) hW.size))))).mono ?_
  rintro e w1 ⟨rfl, hb1⟩
  have hz := hb1.size
  obtain ⟨r0, r1, r2, r3, r4, r5, rf⟩ := zcells (w2 := w1) (b := w.heap.size + 1) (heap_alloc2_new _ _ _) (by simp <;> omega) hb1
  go_wp2
  refine bodyPost_ret (v := .tuple #[numV 0 0 0, .int .i64 n]) (by simp [results, Tryz.results39, go_sem, r0, r1, r2, r3, r4, r5]) rfl ⟨rfl, ?_⟩
  (repeat refine Below.setCell ?_ (by simp <;> omega) _)
  exact below_then (by go_grown) hb1 (by simp <;> omega)

set_option maxHeartbeats 1000000 in
theorem Read_ok (s : ByteArray) (T : Ty) (w : World)
    (h : ∀ W, Below w.heap.size w W → Calls Tryz.prog 104 #[.string s] W fun e w' => e = .returned T.v ∧ Below W.heap.size W w') :
    Calls Tryz.prog 39 #[.string s] w fun e w' => e = .returned (.tuple #[T.v, .int .i64 0]) ∧ Below w.heap.size w w' := by
  have hmf : ∀ (fn : Fn) (first cap : Array Value) (w : World), (Instr.makeFunc fn first cap).run Tryz.prog w = .ok (.func fn first cap) w := fun _ _ _ _ => rfl
  have H := Lib.hid h; clear h
  obtain ⟨k, p, q, n, vy, pic⟩ := T
  go_enter Tryz.func39, Tryz.ntmps39
  go_wp2_with fail
  go_at_call 55
  refine (answeredT_ok 103 #[.pointer (some ⟨w.heap.size, 0, none⟩)] k p q n vy pic _ (fun W => by kernel_rfl) (fun W hW => cRead_ok s ⟨k, p, q, n, vy, pic⟩ W w.heap.size (cell_of_row W w.heap.size 0 _ _ _ ((hW.block _ (by simp <;> omega)).trans (heap_alloc2_old _ _ _))) (Nat.lt_of_lt_of_le (by simp <;> omega) hW.size) (fun W' hW' => H.out W' (below_then (below_then (by go_grown) hW (by simp <;> omega)) hW' (Nat.le_trans (by simp <;> omega) hW.size))))).mono ?_
  rintro e w1 ⟨rfl, hb1⟩
  have hz := hb1.size
  obtain ⟨r0, r1, r2, r3, r4, r5, rf⟩ := zcells (w2 := w1) (b := w.heap.size + 1) (heap_alloc2_new _ _ _) (by simp <;> omega) hb1
  go_wp2
  refine bodyPost_ret (v := .tuple #[tyV k p q n vy pic, .int .i64 0]) (by simp [results, Tryz.results39, go_sem, r0, r1, r2, r3, r4, r5]) rfl ⟨rfl, ?_⟩
  (repeat refine Below.setCell ?_ (by simp <;> omega) _)
  exact below_then (by go_grown) hb1 (by simp <;> omega)
end Go.Proofs.YtcekphfmpjdbmaaGreatDoor
