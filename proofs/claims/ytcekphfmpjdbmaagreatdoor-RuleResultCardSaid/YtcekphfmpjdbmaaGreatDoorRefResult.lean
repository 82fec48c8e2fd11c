/- ironbarkref02.Result, of any sign and types. -/
import Derived.Test.YtcekphfmpjdbmaaGreatDoorResult2
import Derived.Test.YtcekphfmpjdbmaaGreatDoorSum
import Derived.Test.YtcekphfmpjdbmaaGreatDoorSum3
namespace Go.Proofs.YtcekphfmpjdbmaaGreatDoor
open Go.RowKit

theorem rsum_o (ka pa qa kb pb qb : Int) (w : World) (h1 : 1 ≤ ka) (h3 : ka ≤ 3) (h1b : 1 ≤ kb) (h3b : kb ≤ 3) (hpa : 1 ≤ pa) (hpa' : pa ≤ 31) (hpb : 1 ≤ pb) (hpb' : pb ≤ 31) (hqa : 0 ≤ qa) (hqa' : qa ≤ 31) (hqb : 0 ≤ qb) (hqb' : qb ≤ 31) :
    Calls Tryz.prog 76 #[numV ka pa qa, numV kb pb qb, .int .i64 1] w fun e w' =>
      e = .returned (numV (base ka kb) (rP 0 (base ka kb) ka pa qa kb pb qb) (rQ 0 (base ka kb) ka pa qa kb qb)) ∧ Below w.heap.size w w' := by
  rcases base_123 ka kb with hB | hB | hB
  · rw [hB]
    exact rsum_1 1 ka pa qa kb pb qb hB w (by omega) (by omega) h1 h3 h1b h3b hpa hpa' hpb hpb' hqa hqa' hqb hqb'
  · rw [hB]
    exact rsum_2 1 ka pa qa kb pb qb hB w (by omega) (by omega) h1 h3 h1b h3b hpa hpa' hpb hpb' hqa hqa' hqb hqb'
  · rw [hB]
    exact rsum_3 1 ka pa qa kb pb qb hB w h1 h3 h1b h3b hpa hpa' hpb hpb' hqa hqa' hqb hqb'

theorem bflip {a b : List UInt8} (h : (a == b) = false) : (b == a) = false := by
  rw [beq_eq_false_iff_ne] at *
  exact Ne.symm h

theorem heap4_3 {w : World} {A B C D : Obj} : ((((w.alloc A).alloc B).alloc C).alloc D).heap[w.heap.size + 1 + 1]? = some C := by
  rw [Go.heap_alloc_old _ _ (by simp <;> omega)]
  exact heap_alloc3_new _ _ _ _
theorem heap4_2 {w : World} {A B C D : Obj} : ((((w.alloc A).alloc B).alloc C).alloc D).heap[w.heap.size + 1]? = some B := by
  rw [Go.heap_alloc_old _ _ (by simp <;> omega)]
  exact heap_alloc3_mid _ _ _ _

set_option maxRecDepth 100000 in
set_option maxHeartbeats 8000000 in
theorem refResult_13 (ka pa qa na : Int) (va : Bool) (ca : ByteArray) (kb pb qb nb : Int) (vb : Bool) (cb : ByteArray) (s : ByteArray) (w : World) (hsa : ca.size ≤ maxLen) (hsb : cb.size ≤ maxLen) (hv : (Ty.mk ka pa qa na va ca).ok = false ∨ (Ty.mk kb pb qb nb vb cb).ok = false) :
    Calls Tryz.prog 25 #[.string s, tyV ka pa qa na va ca, tyV kb pb qb nb vb cb] w fun e w' => e = .returned (.tuple #[numV 0 0 0, .int .i64 13]) ∧ Below w.heap.size w w' := by
  have HV := Lib.hid hv; have HSA := Lib.hid hsa; have HSB := Lib.hid hsb
  clear hv hsa hsb
  have n2 : ∀ n : Nat, n < n + 1 + 1 := fun n => by omega
  have n3 : ∀ n : Nat, n < n + 1 + 1 + 1 := fun n => by omega
  have n4 : ∀ n : Nat, n < n + 1 + 1 + 1 + 1 := fun n => by omega
  go_enter Tryz.func25, Tryz.ntmps25
  go_wp2_with fail
  go_at_call 59
  refine (asked_13 [⟨ka, pa, qa, na, va, ca⟩, ⟨kb, pb, qb, nb, vb, cb⟩] (w.heap.size + 1 + 1 + 1) 0 2 _ (TysAt_two heap4_new) (by simp) (by simp) (pic2 HSA.out HSB.out) (nall2 HV.out)).mono ?_
  rintro e w1 ⟨rfl, hb1⟩
  have hz := hb1.size
  have hz1 : w.heap.size + 1 + 1 + 1 + 1 ≤ w1.heap.size := by simp at hz; omega
  have hW : Below w.heap.size w w1 := below_then (by go_grown) hb1 (by simp <;> omega)
  obtain ⟨r0, r1, r2, r3, r4, r5, rf⟩ := zcells (w2 := w1) (b := w.heap.size + 1 + 1) heap4_3 (by simp <;> omega) hb1
  go_wp2
  refine bodyPost_ret (v := .tuple #[numV 0 0 0, .int .i64 13]) (by simp [results, Tryz.results25, go_sem, r0, r1, r2, r3, r4, r5]) rfl ⟨rfl, ?_⟩
  (repeat refine Below.setCell ?_ (by simp <;> omega) _)
  assumption

set_option maxRecDepth 100000 in
set_option maxHeartbeats 8000000 in
theorem refResult_10 (ka pa qa na : Int) (va : Bool) (ca : ByteArray) (kb pb qb nb : Int) (vb : Bool) (cb : ByteArray) (s : ByteArray) (w : World) (hsa : ca.size ≤ maxLen) (hsb : cb.size ≤ maxLen) (hva : (Ty.mk ka pa qa na va ca).ok = true) (hvb : (Ty.mk kb pb qb nb vb cb).ok = true) (hn : (Ty.mk ka pa qa na va ca).num = false ∨ (Ty.mk kb pb qb nb vb cb).num = false) :
    Calls Tryz.prog 25 #[.string s, tyV ka pa qa na va ca, tyV kb pb qb nb vb cb] w fun e w' => e = .returned (.tuple #[numV 0 0 0, .int .i64 10]) ∧ Below w.heap.size w w' := by
  have HVA := Lib.hid hva; have HVB := Lib.hid hvb; have HN := Lib.hid hn; have HSA := Lib.hid hsa; have HSB := Lib.hid hsb
  clear hva hvb hn hsa hsb
  have n2 : ∀ n : Nat, n < n + 1 + 1 := fun n => by omega
  have n3 : ∀ n : Nat, n < n + 1 + 1 + 1 := fun n => by omega
  have n4 : ∀ n : Nat, n < n + 1 + 1 + 1 + 1 := fun n => by omega
  go_enter Tryz.func25, Tryz.ntmps25
  go_wp2_with fail
  go_at_call 59
  refine (asked_10 [⟨ka, pa, qa, na, va, ca⟩, ⟨kb, pb, qb, nb, vb, cb⟩] (w.heap.size + 1 + 1 + 1) 0 2 _ (TysAt_two heap4_new) (by simp) (by simp) (pic2 HSA.out HSB.out) (all2 HVA.out HVB.out) (nall2 HN.out)).mono ?_
  rintro e w1 ⟨rfl, hb1⟩
  have hz := hb1.size
  have hz1 : w.heap.size + 1 + 1 + 1 + 1 ≤ w1.heap.size := by simp at hz; omega
  have hW : Below w.heap.size w w1 := below_then (by go_grown) hb1 (by simp <;> omega)
  obtain ⟨r0, r1, r2, r3, r4, r5, rf⟩ := zcells (w2 := w1) (b := w.heap.size + 1 + 1) heap4_3 (by simp <;> omega) hb1
  go_wp2
  refine bodyPost_ret (v := .tuple #[numV 0 0 0, .int .i64 10]) (by simp [results, Tryz.results25, go_sem, r0, r1, r2, r3, r4, r5]) rfl ⟨rfl, ?_⟩
  (repeat refine Below.setCell ?_ (by simp <;> omega) _)
  assumption

set_option maxRecDepth 100000 in
set_option maxHeartbeats 8000000 in
theorem refResult_5 (ka pa qa kb pb qb : Int) (s : ByteArray) (w : World) (hA : NumB ka pa qa) (hB : NumB kb pb qb) (e1 : ([43] == s.toList) = false) (e2 : ([45] == s.toList) = false) (e3 : ([42] == s.toList) = false) (e4 : ([47] == s.toList) = false) (e5 : ([42, 42] == s.toList) = false) :
    Calls Tryz.prog 25 #[.string s, tyV ka pa qa 0 false ⟨#[]⟩, tyV kb pb qb 0 false ⟨#[]⟩] w fun e w' => e = .returned (.tuple #[numV 0 0 0, .int .i64 5]) ∧ Below w.heap.size w w' := by
  have A := Lib.hid hA; have B := Lib.hid hB
  clear hA hB
  have f1 : (s.toList == [43]) = false := bflip e1
  have f2 : (s.toList == [45]) = false := bflip e2
  have f3 : (s.toList == [42]) = false := bflip e3
  have f4 : (s.toList == [47]) = false := bflip e4
  have f5 : (s.toList == [42, 42]) = false := bflip e5
  clear e1 e2 e3 e4 e5
  have n2 : ∀ n : Nat, n < n + 1 + 1 := fun n => by omega
  have n3 : ∀ n : Nat, n < n + 1 + 1 + 1 := fun n => by omega
  have n4 : ∀ n : Nat, n < n + 1 + 1 + 1 + 1 := fun n => by omega
  go_enter Tryz.func25, Tryz.ntmps25
  go_wp2_with fail
  go_at_call 59
  refine (asked_0 [⟨ka, pa, qa, 0, false, ⟨#[]⟩⟩, ⟨kb, pb, qb, 0, false, ⟨#[]⟩⟩] (w.heap.size + 1 + 1 + 1) 0 2 _ (TysAt_two heap4_new) (by simp) (by simp) (pic2 pic0 pic0) (all2 A.out.ok B.out.ok) (all2 (f := Ty.num) A.out.num B.out.num)).mono ?_
  rintro e w1 ⟨rfl, hb1⟩
  have hz := hb1.size
  have hz1 : w.heap.size + 1 + 1 + 1 + 1 ≤ w1.heap.size := by simp at hz; omega
  have hW : Below w.heap.size w w1 := below_then (by go_grown) hb1 (by simp <;> omega)
  obtain ⟨r0, r1, r2, r3, r4, r5, rf⟩ := zcells (w2 := w1) (b := w.heap.size + 1 + 1) heap4_3 (by simp <;> omega) hb1
  obtain ⟨a0, a1, a2, a3, a4, a5, af⟩ := bcells (w2 := w1) (b := w.heap.size) heap4_old (by simp <;> omega) hb1
  obtain ⟨b0, b1, b2, b3, b4, b5, bf⟩ := bcells (w2 := w1) (b := w.heap.size + 1) heap4_2 (by simp <;> omega) hb1
  go_wp2_with fail
  go_at_call 75
  refine (brought_any _ _ _ _ _ _ _ A.out.k1 A.out.k3 B.out.k1 B.out.k3 A.out.p1 A.out.p2 B.out.p1 B.out.p2 A.out.q0 A.out.q1 B.out.q0 B.out.q1).mono ?_
  rintro e w2 ⟨rfl, hb2⟩
  have hz2 := hb2.size
  obtain ⟨hc2, hf2⟩ := bcell hb2
  have g0 : w.heap.size < w1.heap.size := by omega
  have g1 : w.heap.size + 1 < w1.heap.size := by omega
  have g2 : w.heap.size + 1 + 1 < w1.heap.size := by omega
  have q0 := (hc2 _ 0 g2).trans r0
  have q1 := (hc2 _ 1 g2).trans r1
  have q2 := (hc2 _ 2 g2).trans r2
  have q3 := (hc2 _ 3 g2).trans r3
  have q4 := (hc2 _ 4 g2).trans r4
  have q5 := (hc2 _ 5 g2).trans r5
  have qf : ∀ j, w2.frozen? ⟨w.heap.size + 1 + 1, j, none⟩ = false := fun j => (hf2 _ j g2).trans (rf j)
  have s0 := (hc2 _ 0 g0).trans a0
  have s1 := (hc2 _ 1 g0).trans a1
  have s2 := (hc2 _ 2 g0).trans a2
  have s3 := (hc2 _ 3 g0).trans a3
  have s4 := (hc2 _ 4 g0).trans a4
  have s5 := (hc2 _ 5 g0).trans a5
  have t0 := (hc2 _ 0 g1).trans b0
  have t1 := (hc2 _ 1 g1).trans b1
  have t2 := (hc2 _ 2 g1).trans b2
  have t3 := (hc2 _ 3 g1).trans b3
  have t4 := (hc2 _ 4 g1).trans b4
  have t5 := (hc2 _ 5 g1).trans b5
  have hW2 : Below w.heap.size w w2 := below_then hW hb2 (by omega)
  have k0 : w.heap.size < w2.heap.size := by omega
  have k1 : w.heap.size + 1 < w2.heap.size := by omega
  have k2 : w.heap.size + 1 + 1 < w2.heap.size := by omega
  have k0' : w.heap.size < w2.heap.size + 1 := by omega
  have k1' : w.heap.size + 1 < w2.heap.size + 1 := by omega
  have k2' : w.heap.size + 1 + 1 < w2.heap.size + 1 := by omega
  have k0'' : w.heap.size < w2.heap.size + 1 + 1 := by omega
  have k1'' : w.heap.size + 1 < w2.heap.size + 1 + 1 := by omega
  have k2'' : w.heap.size + 1 + 1 < w2.heap.size + 1 + 1 := by omega
  clear hc2 hf2 r0 r1 r2 r3 r4 r5 rf a0 a1 a2 a3 a4 a5 af b0 b1 b2 b3 b4 b5 bf hb1 hb2 hz hz2 hz1 g0 g1 g2 hW
  clear w1
  iterate 118 (first | go_values | go_skip | go_guarded | go_step | go_upon | go_simp | skip)
  refine bodyPost_ret (v := .tuple #[numV 0 0 0, .int .i64 5]) (by simp [results, Tryz.results25, go_sem, *]) rfl ⟨rfl, ?_⟩
  (repeat first | (with_reducible refine Below.alloc ?_ ?ha _; case ha => first | omega | (simp; omega)) | (with_reducible refine Below.setCell ?_ ?hs _; case hs => first | omega | (simp; omega)))
  exact hW2

set_option maxRecDepth 100000 in
set_option maxHeartbeats 8000000 in
theorem refResult_plus (ka pa qa kb pb qb : Int) (w : World) (hA : NumB ka pa qa) (hB : NumB kb pb qb) :
    Calls Tryz.prog 25 #[.string ⟨#[43]⟩, tyV ka pa qa 0 false ⟨#[]⟩, tyV kb pb qb 0 false ⟨#[]⟩] w fun e w' => e = .returned (.tuple #[numV (base ka kb) (rP 0 (base ka kb) ka pa qa kb pb qb) (rQ 0 (base ka kb) ka pa qa kb qb), .int .i64 0]) ∧ Below w.heap.size w w' := by
  have A := Lib.hid hA; have B := Lib.hid hB
  clear hA hB
  have n2 : ∀ n : Nat, n < n + 1 + 1 := fun n => by omega
  have n3 : ∀ n : Nat, n < n + 1 + 1 + 1 := fun n => by omega
  have n4 : ∀ n : Nat, n < n + 1 + 1 + 1 + 1 := fun n => by omega
  go_enter Tryz.func25, Tryz.ntmps25
  go_wp2_with fail
  go_at_call 59
  refine (asked_0 [⟨ka, pa, qa, 0, false, ⟨#[]⟩⟩, ⟨kb, pb, qb, 0, false, ⟨#[]⟩⟩] (w.heap.size + 1 + 1 + 1) 0 2 _ (TysAt_two heap4_new) (by simp) (by simp) (pic2 pic0 pic0) (all2 A.out.ok B.out.ok) (all2 (f := Ty.num) A.out.num B.out.num)).mono ?_
  rintro e w1 ⟨rfl, hb1⟩
  have hz := hb1.size
  have hz1 : w.heap.size + 1 + 1 + 1 + 1 ≤ w1.heap.size := by simp at hz; omega
  have hW : Below w.heap.size w w1 := below_then (by go_grown) hb1 (by simp <;> omega)
  obtain ⟨r0, r1, r2, r3, r4, r5, rf⟩ := zcells (w2 := w1) (b := w.heap.size + 1 + 1) heap4_3 (by simp <;> omega) hb1
  obtain ⟨a0, a1, a2, a3, a4, a5, af⟩ := bcells (w2 := w1) (b := w.heap.size) heap4_old (by simp <;> omega) hb1
  obtain ⟨b0, b1, b2, b3, b4, b5, bf⟩ := bcells (w2 := w1) (b := w.heap.size + 1) heap4_2 (by simp <;> omega) hb1
  go_wp2_with fail
  go_at_call 75
  refine (brought_any _ _ _ _ _ _ _ A.out.k1 A.out.k3 B.out.k1 B.out.k3 A.out.p1 A.out.p2 B.out.p1 B.out.p2 A.out.q0 A.out.q1 B.out.q0 B.out.q1).mono ?_
  rintro e w2 ⟨rfl, hb2⟩
  have hz2 := hb2.size
  obtain ⟨hc2, hf2⟩ := bcell hb2
  have g0 : w.heap.size < w1.heap.size := by omega
  have g1 : w.heap.size + 1 < w1.heap.size := by omega
  have g2 : w.heap.size + 1 + 1 < w1.heap.size := by omega
  have q0 := (hc2 _ 0 g2).trans r0
  have q1 := (hc2 _ 1 g2).trans r1
  have q2 := (hc2 _ 2 g2).trans r2
  have q3 := (hc2 _ 3 g2).trans r3
  have q4 := (hc2 _ 4 g2).trans r4
  have q5 := (hc2 _ 5 g2).trans r5
  have qf : ∀ j, w2.frozen? ⟨w.heap.size + 1 + 1, j, none⟩ = false := fun j => (hf2 _ j g2).trans (rf j)
  have s0 := (hc2 _ 0 g0).trans a0
  have s1 := (hc2 _ 1 g0).trans a1
  have s2 := (hc2 _ 2 g0).trans a2
  have s3 := (hc2 _ 3 g0).trans a3
  have s4 := (hc2 _ 4 g0).trans a4
  have s5 := (hc2 _ 5 g0).trans a5
  have t0 := (hc2 _ 0 g1).trans b0
  have t1 := (hc2 _ 1 g1).trans b1
  have t2 := (hc2 _ 2 g1).trans b2
  have t3 := (hc2 _ 3 g1).trans b3
  have t4 := (hc2 _ 4 g1).trans b4
  have t5 := (hc2 _ 5 g1).trans b5
  have hW2 : Below w.heap.size w w2 := below_then hW hb2 (by omega)
  have k0 : w.heap.size < w2.heap.size := by omega
  have k1 : w.heap.size + 1 < w2.heap.size := by omega
  have k2 : w.heap.size + 1 + 1 < w2.heap.size := by omega
  have k0' : w.heap.size < w2.heap.size + 1 := by omega
  have k1' : w.heap.size + 1 < w2.heap.size + 1 := by omega
  have k2' : w.heap.size + 1 + 1 < w2.heap.size + 1 := by omega
  have k0'' : w.heap.size < w2.heap.size + 1 + 1 := by omega
  have k1'' : w.heap.size + 1 < w2.heap.size + 1 + 1 := by omega
  have k2'' : w.heap.size + 1 + 1 < w2.heap.size + 1 + 1 := by omega
  clear hc2 hf2 r0 r1 r2 r3 r4 r5 rf a0 a1 a2 a3 a4 a5 af b0 b1 b2 b3 b4 b5 bf hb1 hb2 hz hz2 hz1 g0 g1 g2 hW
  clear w1
  go_wp2_with fail
  go_at_call 76
  refine (rsum_o _ _ _ _ _ _ _ A.out.k1 A.out.k3 B.out.k1 B.out.k3 A.out.p1 A.out.p2 B.out.p1 B.out.p2 A.out.q0 A.out.q1 B.out.q0 B.out.q1).mono ?_
  rintro e w3 ⟨rfl, hb3⟩
  have hz3 := hb3.size
  obtain ⟨hc3, hf3⟩ := bcell hb3
  have hW3 : Below w.heap.size w w3 := below_then ((hW2.alloc (by omega) _).alloc (by simp <;> omega) _) hb3 (by simp <;> omega)
  go_wp2
  refine bodyPost_ret (v := .tuple #[numV (base ka kb) (rP 0 (base ka kb) ka pa qa kb pb qb) (rQ 0 (base ka kb) ka pa qa kb qb), .int .i64 0]) (by simp [results, Tryz.results25, go_sem, *]) rfl ⟨rfl, ?_⟩
  (repeat first | (with_reducible refine Below.alloc ?_ ?ha _; case ha => first | omega | (simp; omega)) | (with_reducible refine Below.setCell ?_ ?hs _; case hs => first | omega | (simp; omega)))
  assumption

set_option maxRecDepth 100000 in
set_option maxHeartbeats 8000000 in
theorem refResult_minus (ka pa qa kb pb qb : Int) (w : World) (hA : NumB ka pa qa) (hB : NumB kb pb qb) :
    Calls Tryz.prog 25 #[.string ⟨#[45]⟩, tyV ka pa qa 0 false ⟨#[]⟩, tyV kb pb qb 0 false ⟨#[]⟩] w fun e w' => e = .returned (.tuple #[numV (base ka kb) (rP 0 (base ka kb) ka pa qa kb pb qb) (rQ 0 (base ka kb) ka pa qa kb qb), .int .i64 0]) ∧ Below w.heap.size w w' := by
  have A := Lib.hid hA; have B := Lib.hid hB
  clear hA hB
  have n2 : ∀ n : Nat, n < n + 1 + 1 := fun n => by omega
  have n3 : ∀ n : Nat, n < n + 1 + 1 + 1 := fun n => by omega
  have n4 : ∀ n : Nat, n < n + 1 + 1 + 1 + 1 := fun n => by omega
  go_enter Tryz.func25, Tryz.ntmps25
  go_wp2_with fail
  go_at_call 59
  refine (asked_0 [⟨ka, pa, qa, 0, false, ⟨#[]⟩⟩, ⟨kb, pb, qb, 0, false, ⟨#[]⟩⟩] (w.heap.size + 1 + 1 + 1) 0 2 _ (TysAt_two heap4_new) (by simp) (by simp) (pic2 pic0 pic0) (all2 A.out.ok B.out.ok) (all2 (f := Ty.num) A.out.num B.out.num)).mono ?_
  rintro e w1 ⟨rfl, hb1⟩
  have hz := hb1.size
  have hz1 : w.heap.size + 1 + 1 + 1 + 1 ≤ w1.heap.size := by simp at hz; omega
  have hW : Below w.heap.size w w1 := below_then (by go_grown) hb1 (by simp <;> omega)
  obtain ⟨r0, r1, r2, r3, r4, r5, rf⟩ := zcells (w2 := w1) (b := w.heap.size + 1 + 1) heap4_3 (by simp <;> omega) hb1
  obtain ⟨a0, a1, a2, a3, a4, a5, af⟩ := bcells (w2 := w1) (b := w.heap.size) heap4_old (by simp <;> omega) hb1
  obtain ⟨b0, b1, b2, b3, b4, b5, bf⟩ := bcells (w2 := w1) (b := w.heap.size + 1) heap4_2 (by simp <;> omega) hb1
  go_wp2_with fail
  go_at_call 75
  refine (brought_any _ _ _ _ _ _ _ A.out.k1 A.out.k3 B.out.k1 B.out.k3 A.out.p1 A.out.p2 B.out.p1 B.out.p2 A.out.q0 A.out.q1 B.out.q0 B.out.q1).mono ?_
  rintro e w2 ⟨rfl, hb2⟩
  have hz2 := hb2.size
  obtain ⟨hc2, hf2⟩ := bcell hb2
  have g0 : w.heap.size < w1.heap.size := by omega
  have g1 : w.heap.size + 1 < w1.heap.size := by omega
  have g2 : w.heap.size + 1 + 1 < w1.heap.size := by omega
  have q0 := (hc2 _ 0 g2).trans r0
  have q1 := (hc2 _ 1 g2).trans r1
  have q2 := (hc2 _ 2 g2).trans r2
  have q3 := (hc2 _ 3 g2).trans r3
  have q4 := (hc2 _ 4 g2).trans r4
  have q5 := (hc2 _ 5 g2).trans r5
  have qf : ∀ j, w2.frozen? ⟨w.heap.size + 1 + 1, j, none⟩ = false := fun j => (hf2 _ j g2).trans (rf j)
  have s0 := (hc2 _ 0 g0).trans a0
  have s1 := (hc2 _ 1 g0).trans a1
  have s2 := (hc2 _ 2 g0).trans a2
  have s3 := (hc2 _ 3 g0).trans a3
  have s4 := (hc2 _ 4 g0).trans a4
  have s5 := (hc2 _ 5 g0).trans a5
  have t0 := (hc2 _ 0 g1).trans b0
  have t1 := (hc2 _ 1 g1).trans b1
  have t2 := (hc2 _ 2 g1).trans b2
  have t3 := (hc2 _ 3 g1).trans b3
  have t4 := (hc2 _ 4 g1).trans b4
  have t5 := (hc2 _ 5 g1).trans b5
  have hW2 : Below w.heap.size w w2 := below_then hW hb2 (by omega)
  have k0 : w.heap.size < w2.heap.size := by omega
  have k1 : w.heap.size + 1 < w2.heap.size := by omega
  have k2 : w.heap.size + 1 + 1 < w2.heap.size := by omega
  have k0' : w.heap.size < w2.heap.size + 1 := by omega
  have k1' : w.heap.size + 1 < w2.heap.size + 1 := by omega
  have k2' : w.heap.size + 1 + 1 < w2.heap.size + 1 := by omega
  have k0'' : w.heap.size < w2.heap.size + 1 + 1 := by omega
  have k1'' : w.heap.size + 1 < w2.heap.size + 1 + 1 := by omega
  have k2'' : w.heap.size + 1 + 1 < w2.heap.size + 1 + 1 := by omega
  clear hc2 hf2 r0 r1 r2 r3 r4 r5 rf a0 a1 a2 a3 a4 a5 af b0 b1 b2 b3 b4 b5 bf hb1 hb2 hz hz2 hz1 g0 g1 g2 hW
  clear w1
  go_wp2_with fail
  go_at_call 76
  refine (rsum_o _ _ _ _ _ _ _ A.out.k1 A.out.k3 B.out.k1 B.out.k3 A.out.p1 A.out.p2 B.out.p1 B.out.p2 A.out.q0 A.out.q1 B.out.q0 B.out.q1).mono ?_
  rintro e w3 ⟨rfl, hb3⟩
  have hz3 := hb3.size
  obtain ⟨hc3, hf3⟩ := bcell hb3
  have hW3 : Below w.heap.size w w3 := below_then ((hW2.alloc (by omega) _).alloc (by simp <;> omega) _) hb3 (by simp <;> omega)
  go_wp2
  refine bodyPost_ret (v := .tuple #[numV (base ka kb) (rP 0 (base ka kb) ka pa qa kb pb qb) (rQ 0 (base ka kb) ka pa qa kb qb), .int .i64 0]) (by simp [results, Tryz.results25, go_sem, *]) rfl ⟨rfl, ?_⟩
  (repeat first | (with_reducible refine Below.alloc ?_ ?ha _; case ha => first | omega | (simp; omega)) | (with_reducible refine Below.setCell ?_ ?hs _; case hs => first | omega | (simp; omega)))
  assumption

set_option maxRecDepth 100000 in
set_option maxHeartbeats 8000000 in
theorem refResult_times_1 (ka pa qa kb pb qb : Int) (w : World) (hB' : base ka kb = 1) (hA : NumB ka pa qa) (hB : NumB kb pb qb) :
    Calls Tryz.prog 25 #[.string ⟨#[42]⟩, tyV ka pa qa 0 false ⟨#[]⟩, tyV kb pb qb 0 false ⟨#[]⟩] w fun e w' => e = .returned (.tuple #[numV 1 (rP 2 1 ka pa qa kb pb qb) (rQ 2 1 ka pa qa kb qb), .int .i64 0]) ∧ Below w.heap.size w w' := by
  have HB := Lib.hid hB'
  clear hB'
  have A := Lib.hid hA; have B := Lib.hid hB
  clear hA hB
  have n2 : ∀ n : Nat, n < n + 1 + 1 := fun n => by omega
  have n3 : ∀ n : Nat, n < n + 1 + 1 + 1 := fun n => by omega
  have n4 : ∀ n : Nat, n < n + 1 + 1 + 1 + 1 := fun n => by omega
  go_enter Tryz.func25, Tryz.ntmps25
  go_wp2_with fail
  go_at_call 59
  refine (asked_0 [⟨ka, pa, qa, 0, false, ⟨#[]⟩⟩, ⟨kb, pb, qb, 0, false, ⟨#[]⟩⟩] (w.heap.size + 1 + 1 + 1) 0 2 _ (TysAt_two heap4_new) (by simp) (by simp) (pic2 pic0 pic0) (all2 A.out.ok B.out.ok) (all2 (f := Ty.num) A.out.num B.out.num)).mono ?_
  rintro e w1 ⟨rfl, hb1⟩
  have hz := hb1.size
  have hz1 : w.heap.size + 1 + 1 + 1 + 1 ≤ w1.heap.size := by simp at hz; omega
  have hW : Below w.heap.size w w1 := below_then (by go_grown) hb1 (by simp <;> omega)
  obtain ⟨r0, r1, r2, r3, r4, r5, rf⟩ := zcells (w2 := w1) (b := w.heap.size + 1 + 1) heap4_3 (by simp <;> omega) hb1
  obtain ⟨a0, a1, a2, a3, a4, a5, af⟩ := bcells (w2 := w1) (b := w.heap.size) heap4_old (by simp <;> omega) hb1
  obtain ⟨b0, b1, b2, b3, b4, b5, bf⟩ := bcells (w2 := w1) (b := w.heap.size + 1) heap4_2 (by simp <;> omega) hb1
  go_wp2_with fail
  go_at_call 75
  refine (brought_b 1 _ _ _ _ _ _ HB.out _ A.out.k1 A.out.k3 B.out.k1 B.out.k3 A.out.p1 A.out.p2 B.out.p1 B.out.p2 A.out.q0 A.out.q1 B.out.q0 B.out.q1).mono ?_
  rintro e w2 ⟨rfl, hb2⟩
  have hz2 := hb2.size
  obtain ⟨hc2, hf2⟩ := bcell hb2
  have g0 : w.heap.size < w1.heap.size := by omega
  have g1 : w.heap.size + 1 < w1.heap.size := by omega
  have g2 : w.heap.size + 1 + 1 < w1.heap.size := by omega
  have q0 := (hc2 _ 0 g2).trans r0
  have q1 := (hc2 _ 1 g2).trans r1
  have q2 := (hc2 _ 2 g2).trans r2
  have q3 := (hc2 _ 3 g2).trans r3
  have q4 := (hc2 _ 4 g2).trans r4
  have q5 := (hc2 _ 5 g2).trans r5
  have qf : ∀ j, w2.frozen? ⟨w.heap.size + 1 + 1, j, none⟩ = false := fun j => (hf2 _ j g2).trans (rf j)
  have s0 := (hc2 _ 0 g0).trans a0
  have s1 := (hc2 _ 1 g0).trans a1
  have s2 := (hc2 _ 2 g0).trans a2
  have s3 := (hc2 _ 3 g0).trans a3
  have s4 := (hc2 _ 4 g0).trans a4
  have s5 := (hc2 _ 5 g0).trans a5
  have t0 := (hc2 _ 0 g1).trans b0
  have t1 := (hc2 _ 1 g1).trans b1
  have t2 := (hc2 _ 2 g1).trans b2
  have t3 := (hc2 _ 3 g1).trans b3
  have t4 := (hc2 _ 4 g1).trans b4
  have t5 := (hc2 _ 5 g1).trans b5
  have hW2 : Below w.heap.size w w2 := below_then hW hb2 (by omega)
  have k0 : w.heap.size < w2.heap.size := by omega
  have k1 : w.heap.size + 1 < w2.heap.size := by omega
  have k2 : w.heap.size + 1 + 1 < w2.heap.size := by omega
  have k0' : w.heap.size < w2.heap.size + 1 := by omega
  have k1' : w.heap.size + 1 < w2.heap.size + 1 := by omega
  have k2' : w.heap.size + 1 + 1 < w2.heap.size + 1 := by omega
  have k0'' : w.heap.size < w2.heap.size + 1 + 1 := by omega
  have k1'' : w.heap.size + 1 < w2.heap.size + 1 + 1 := by omega
  have k2'' : w.heap.size + 1 + 1 < w2.heap.size + 1 + 1 := by omega
  clear hc2 hf2 r0 r1 r2 r3 r4 r5 rf a0 a1 a2 a3 a4 a5 af b0 b1 b2 b3 b4 b5 bf hb1 hb2 hz hz2 hz1 g0 g1 g2 hW
  clear w1
  go_wp2_with fail
  generalize hwm : ((w2.alloc (.cells #[.int .i64 1, .int .i64 (cP 1 ka pa), .int .i64 (cQ 1 ka qa), .int .i64 0, .bool false, .string ⟨#[]⟩] 23 (0, 0))).alloc (.cells #[.int .i64 1, .int .i64 (cP 1 kb pb), .int .i64 (cQ 1 kb qb), .int .i64 0, .bool false, .string ⟨#[]⟩] 23 (0, 0))) = wm
  have hX : wm.heap[w2.heap.size]? = some (.cells #[.int .i64 1, .int .i64 (cP 1 ka pa), .int .i64 (cQ 1 ka qa), .int .i64 0, .bool false, .string ⟨#[]⟩] 23 (0, 0)) := by rw [← hwm]; exact heap_alloc2_old _ _ _
  have hY : wm.heap[w2.heap.size + 1]? = some (.cells #[.int .i64 1, .int .i64 (cP 1 kb pb), .int .i64 (cQ 1 kb qb), .int .i64 0, .bool false, .string ⟨#[]⟩] 23 (0, 0)) := by rw [← hwm]; exact heap_alloc2_new _ _ _
  have hBm : Below w2.heap.size w2 wm := by rw [← hwm]; go_grown
  have hzm : w2.heap.size + 1 + 1 ≤ wm.heap.size := by rw [← hwm]; simp
  clear hwm
  obtain ⟨x0, x1, x2, x3, x4, x5⟩ := BoxAt.cells (k := 1) (p := (cP 1 ka pa)) (q := (cQ 1 ka qa)) (n := 0) (vy := false) (pic := ⟨#[]⟩) hX
  obtain ⟨y0, y1, y2, y3, y4, y5⟩ := BoxAt.cells (k := 1) (p := (cP 1 kb pb)) (q := (cQ 1 kb qb)) (n := 0) (vy := false) (pic := ⟨#[]⟩) hY
  obtain ⟨hcm, hfm⟩ := bcell hBm
  have m0 := (hcm _ 0 k2).trans q0
  have m1 := (hcm _ 1 k2).trans q1
  have m2 := (hcm _ 2 k2).trans q2
  have m3 := (hcm _ 3 k2).trans q3
  have m4 := (hcm _ 4 k2).trans q4
  have m5 := (hcm _ 5 k2).trans q5
  have mf : ∀ j, wm.frozen? ⟨w.heap.size + 1 + 1, j, none⟩ = false := fun j => (hfm _ j k2).trans (qf j)
  have hWm : Below w.heap.size w wm := below_then hW2 hBm (by omega)
  have l0 : w2.heap.size < wm.heap.size := by omega
  have l1 : w2.heap.size + 1 < wm.heap.size := by omega
  have l2 : w.heap.size + 1 + 1 < wm.heap.size := by omega
  have z1 : ¬ w.heap.size + 1 + 1 = w2.heap.size := by omega
  have z2 : ¬ w2.heap.size = w.heap.size + 1 + 1 := by omega
  have z3 : ¬ w.heap.size + 1 + 1 = w2.heap.size + 1 := by omega
  have z4 : ¬ w2.heap.size + 1 = w.heap.size + 1 + 1 := by omega
  have z5 : ¬ w.heap.size + 1 = w2.heap.size := by omega
  have z6 : ¬ w2.heap.size = w.heap.size + 1 := by omega
  clear hcm hfm q0 q1 q2 q3 q4 q5 qf s0 s1 s2 s3 s4 s5 t0 t1 t2 t3 t4 t5 hX hY hBm hW2 hzm k0 k1 k2 k0' k1' k2' k0'' k1'' k2''
  obtain ⟨ap, ap'⟩ := cP_bd 1 ka pa A.out.p1 A.out.p2
  obtain ⟨bp, bp'⟩ := cP_bd 1 kb pb B.out.p1 B.out.p2
  obtain ⟨aq, aq'⟩ := cQ_bd 1 ka qa A.out.q0 A.out.q1
  obtain ⟨bq, bq'⟩ := cQ_bd 1 kb qb B.out.q0 B.out.q1
  have e0 : IntKind.i64.wrap ((cP 1 ka pa) + (cP 1 kb pb)) = (cP 1 ka pa) + (cP 1 kb pb) := IntWalk.i64_in _ (by omega)
  have e1 : IntKind.i64.wrap ((cP 1 ka pa) + (cP 1 kb pb) + 1) = (cP 1 ka pa) + (cP 1 kb pb) + 1 := IntWalk.i64_in _ (by omega)
  have e2 : IntKind.i64.wrap ((cQ 1 ka qa) + (cQ 1 kb qb)) = (cQ 1 ka qa) + (cQ 1 kb qb) := IntWalk.i64_in _ (by omega)
  go_region_held3 (fun w' => (w'.cell? ⟨w2.heap.size, 0, none⟩ = some (.int .i64 1) ∧ w'.cell? ⟨w2.heap.size, 1, none⟩ = some (.int .i64 (cP 1 ka pa)) ∧ w'.cell? ⟨w2.heap.size, 2, none⟩ = some (.int .i64 (cQ 1 ka qa)) ∧ w'.cell? ⟨w2.heap.size, 3, none⟩ = some (.int .i64 0) ∧ w'.cell? ⟨w2.heap.size, 4, none⟩ = some (.bool false) ∧ w'.cell? ⟨w2.heap.size, 5, none⟩ = some (.string ⟨#[]⟩)) ∧
      (w'.cell? ⟨w2.heap.size + 1, 0, none⟩ = some (.int .i64 1) ∧ w'.cell? ⟨w2.heap.size + 1, 1, none⟩ = some (.int .i64 (cP 1 kb pb)) ∧ w'.cell? ⟨w2.heap.size + 1, 2, none⟩ = some (.int .i64 (cQ 1 kb qb)) ∧ w'.cell? ⟨w2.heap.size + 1, 3, none⟩ = some (.int .i64 0) ∧ w'.cell? ⟨w2.heap.size + 1, 4, none⟩ = some (.bool false) ∧ w'.cell? ⟨w2.heap.size + 1, 5, none⟩ = some (.string ⟨#[]⟩)))
    (first | go_keep | (go_split_ands; refine ⟨⟨?_, ?_, ?_, ?_, ?_, ?_⟩, ⟨?_, ?_, ?_, ?_, ?_, ?_⟩⟩ <;> (rw [hb3.cell (by simp <;> omega)]; assumption)))
    (first | (go_at_call 77; refine (limit_1 _ _ _).mono ?_; rintro e w3 ⟨rfl, hb3⟩; have hb4 : Below wm.heap.size wm w3 := (by first | exact below_then ((Below.refl _ _).drew) hb3 (by simp) | exact below_then (by assumption) hb3 (by omega)); have hz4 := hb4.size; obtain ⟨hc4, hf4⟩ := bcell hb4; have gg : w.heap.size + 1 + 1 < w3.heap.size := (by omega)))
  all_goals
    clear e0 e1 e2
    iterate 30 (first | go_values | go_skip | go_guarded | go_step | go_upon | go_simp | skip)
    refine bodyPost_ret (v := .tuple #[numV 1 (rP 2 1 ka pa qa kb pb qb) (rQ 2 1 ka pa qa kb qb), .int .i64 0]) ?_ rfl ⟨rfl, ?_⟩
    · simp [results, Tryz.results25, go_sem, rP, rQ, oP, oQ, mOf, prodP, prodQ, quoQ, *]
    · (repeat refine Below.setCell ?_ (by simp <;> omega) _)
      exact below_then hWm hb4 (by omega)

set_option maxRecDepth 100000 in
set_option maxHeartbeats 8000000 in
theorem refResult_times_2 (ka pa qa kb pb qb : Int) (w : World) (hB' : base ka kb = 2) (hA : NumB ka pa qa) (hB : NumB kb pb qb) :
    Calls Tryz.prog 25 #[.string ⟨#[42]⟩, tyV ka pa qa 0 false ⟨#[]⟩, tyV kb pb qb 0 false ⟨#[]⟩] w fun e w' => e = .returned (.tuple #[numV 2 (rP 2 2 ka pa qa kb pb qb) (rQ 2 2 ka pa qa kb qb), .int .i64 0]) ∧ Below w.heap.size w w' := by
  have HB := Lib.hid hB'
  clear hB'
  have A := Lib.hid hA; have B := Lib.hid hB
  clear hA hB
  have n2 : ∀ n : Nat, n < n + 1 + 1 := fun n => by omega
  have n3 : ∀ n : Nat, n < n + 1 + 1 + 1 := fun n => by omega
  have n4 : ∀ n : Nat, n < n + 1 + 1 + 1 + 1 := fun n => by omega
  go_enter Tryz.func25, Tryz.ntmps25
  go_wp2_with fail
  go_at_call 59
  refine (asked_0 [⟨ka, pa, qa, 0, false, ⟨#[]⟩⟩, ⟨kb, pb, qb, 0, false, ⟨#[]⟩⟩] (w.heap.size + 1 + 1 + 1) 0 2 _ (TysAt_two heap4_new) (by simp) (by simp) (pic2 pic0 pic0) (all2 A.out.ok B.out.ok) (all2 (f := Ty.num) A.out.num B.out.num)).mono ?_
  rintro e w1 ⟨rfl, hb1⟩
  have hz := hb1.size
  have hz1 : w.heap.size + 1 + 1 + 1 + 1 ≤ w1.heap.size := by simp at hz; omega
  have hW : Below w.heap.size w w1 := below_then (by go_grown) hb1 (by simp <;> omega)
  obtain ⟨r0, r1, r2, r3, r4, r5, rf⟩ := zcells (w2 := w1) (b := w.heap.size + 1 + 1) heap4_3 (by simp <;> omega) hb1
  obtain ⟨a0, a1, a2, a3, a4, a5, af⟩ := bcells (w2 := w1) (b := w.heap.size) heap4_old (by simp <;> omega) hb1
  obtain ⟨b0, b1, b2, b3, b4, b5, bf⟩ := bcells (w2 := w1) (b := w.heap.size + 1) heap4_2 (by simp <;> omega) hb1
  go_wp2_with fail
  go_at_call 75
  refine (brought_b 2 _ _ _ _ _ _ HB.out _ A.out.k1 A.out.k3 B.out.k1 B.out.k3 A.out.p1 A.out.p2 B.out.p1 B.out.p2 A.out.q0 A.out.q1 B.out.q0 B.out.q1).mono ?_
  rintro e w2 ⟨rfl, hb2⟩
  have hz2 := hb2.size
  obtain ⟨hc2, hf2⟩ := bcell hb2
  have g0 : w.heap.size < w1.heap.size := by omega
  have g1 : w.heap.size + 1 < w1.heap.size := by omega
  have g2 : w.heap.size + 1 + 1 < w1.heap.size := by omega
  have q0 := (hc2 _ 0 g2).trans r0
  have q1 := (hc2 _ 1 g2).trans r1
  have q2 := (hc2 _ 2 g2).trans r2
  have q3 := (hc2 _ 3 g2).trans r3
  have q4 := (hc2 _ 4 g2).trans r4
  have q5 := (hc2 _ 5 g2).trans r5
  have qf : ∀ j, w2.frozen? ⟨w.heap.size + 1 + 1, j, none⟩ = false := fun j => (hf2 _ j g2).trans (rf j)
  have s0 := (hc2 _ 0 g0).trans a0
  have s1 := (hc2 _ 1 g0).trans a1
  have s2 := (hc2 _ 2 g0).trans a2
  have s3 := (hc2 _ 3 g0).trans a3
  have s4 := (hc2 _ 4 g0).trans a4
  have s5 := (hc2 _ 5 g0).trans a5
  have t0 := (hc2 _ 0 g1).trans b0
  have t1 := (hc2 _ 1 g1).trans b1
  have t2 := (hc2 _ 2 g1).trans b2
  have t3 := (hc2 _ 3 g1).trans b3
  have t4 := (hc2 _ 4 g1).trans b4
  have t5 := (hc2 _ 5 g1).trans b5
  have hW2 : Below w.heap.size w w2 := below_then hW hb2 (by omega)
  have k0 : w.heap.size < w2.heap.size := by omega
  have k1 : w.heap.size + 1 < w2.heap.size := by omega
  have k2 : w.heap.size + 1 + 1 < w2.heap.size := by omega
  have k0' : w.heap.size < w2.heap.size + 1 := by omega
  have k1' : w.heap.size + 1 < w2.heap.size + 1 := by omega
  have k2' : w.heap.size + 1 + 1 < w2.heap.size + 1 := by omega
  have k0'' : w.heap.size < w2.heap.size + 1 + 1 := by omega
  have k1'' : w.heap.size + 1 < w2.heap.size + 1 + 1 := by omega
  have k2'' : w.heap.size + 1 + 1 < w2.heap.size + 1 + 1 := by omega
  clear hc2 hf2 r0 r1 r2 r3 r4 r5 rf a0 a1 a2 a3 a4 a5 af b0 b1 b2 b3 b4 b5 bf hb1 hb2 hz hz2 hz1 g0 g1 g2 hW
  clear w1
  go_wp2_with fail
  generalize hwm : ((w2.alloc (.cells #[.int .i64 2, .int .i64 (cP 2 ka pa), .int .i64 (cQ 2 ka qa), .int .i64 0, .bool false, .string ⟨#[]⟩] 23 (0, 0))).alloc (.cells #[.int .i64 2, .int .i64 (cP 2 kb pb), .int .i64 (cQ 2 kb qb), .int .i64 0, .bool false, .string ⟨#[]⟩] 23 (0, 0))) = wm
  have hX : wm.heap[w2.heap.size]? = some (.cells #[.int .i64 2, .int .i64 (cP 2 ka pa), .int .i64 (cQ 2 ka qa), .int .i64 0, .bool false, .string ⟨#[]⟩] 23 (0, 0)) := by rw [← hwm]; exact heap_alloc2_old _ _ _
  have hY : wm.heap[w2.heap.size + 1]? = some (.cells #[.int .i64 2, .int .i64 (cP 2 kb pb), .int .i64 (cQ 2 kb qb), .int .i64 0, .bool false, .string ⟨#[]⟩] 23 (0, 0)) := by rw [← hwm]; exact heap_alloc2_new _ _ _
  have hBm : Below w2.heap.size w2 wm := by rw [← hwm]; go_grown
  have hzm : w2.heap.size + 1 + 1 ≤ wm.heap.size := by rw [← hwm]; simp
  clear hwm
  obtain ⟨x0, x1, x2, x3, x4, x5⟩ := BoxAt.cells (k := 2) (p := (cP 2 ka pa)) (q := (cQ 2 ka qa)) (n := 0) (vy := false) (pic := ⟨#[]⟩) hX
  obtain ⟨y0, y1, y2, y3, y4, y5⟩ := BoxAt.cells (k := 2) (p := (cP 2 kb pb)) (q := (cQ 2 kb qb)) (n := 0) (vy := false) (pic := ⟨#[]⟩) hY
  obtain ⟨hcm, hfm⟩ := bcell hBm
  have m0 := (hcm _ 0 k2).trans q0
  have m1 := (hcm _ 1 k2).trans q1
  have m2 := (hcm _ 2 k2).trans q2
  have m3 := (hcm _ 3 k2).trans q3
  have m4 := (hcm _ 4 k2).trans q4
  have m5 := (hcm _ 5 k2).trans q5
  have mf : ∀ j, wm.frozen? ⟨w.heap.size + 1 + 1, j, none⟩ = false := fun j => (hfm _ j k2).trans (qf j)
  have hWm : Below w.heap.size w wm := below_then hW2 hBm (by omega)
  have l0 : w2.heap.size < wm.heap.size := by omega
  have l1 : w2.heap.size + 1 < wm.heap.size := by omega
  have l2 : w.heap.size + 1 + 1 < wm.heap.size := by omega
  have z1 : ¬ w.heap.size + 1 + 1 = w2.heap.size := by omega
  have z2 : ¬ w2.heap.size = w.heap.size + 1 + 1 := by omega
  have z3 : ¬ w.heap.size + 1 + 1 = w2.heap.size + 1 := by omega
  have z4 : ¬ w2.heap.size + 1 = w.heap.size + 1 + 1 := by omega
  have z5 : ¬ w.heap.size + 1 = w2.heap.size := by omega
  have z6 : ¬ w2.heap.size = w.heap.size + 1 := by omega
  clear hcm hfm q0 q1 q2 q3 q4 q5 qf s0 s1 s2 s3 s4 s5 t0 t1 t2 t3 t4 t5 hX hY hBm hW2 hzm k0 k1 k2 k0' k1' k2' k0'' k1'' k2''
  obtain ⟨ap, ap'⟩ := cP_bd 2 ka pa A.out.p1 A.out.p2
  obtain ⟨bp, bp'⟩ := cP_bd 2 kb pb B.out.p1 B.out.p2
  obtain ⟨aq, aq'⟩ := cQ_bd 2 ka qa A.out.q0 A.out.q1
  obtain ⟨bq, bq'⟩ := cQ_bd 2 kb qb B.out.q0 B.out.q1
  have e0 : IntKind.i64.wrap ((cP 2 ka pa) + (cP 2 kb pb)) = (cP 2 ka pa) + (cP 2 kb pb) := IntWalk.i64_in _ (by omega)
  have e1 : IntKind.i64.wrap ((cP 2 ka pa) + (cP 2 kb pb) + 1) = (cP 2 ka pa) + (cP 2 kb pb) + 1 := IntWalk.i64_in _ (by omega)
  have e2 : IntKind.i64.wrap ((cQ 2 ka qa) + (cQ 2 kb qb)) = (cQ 2 ka qa) + (cQ 2 kb qb) := IntWalk.i64_in _ (by omega)
  go_region_held3 (fun w' => (w'.cell? ⟨w2.heap.size, 0, none⟩ = some (.int .i64 2) ∧ w'.cell? ⟨w2.heap.size, 1, none⟩ = some (.int .i64 (cP 2 ka pa)) ∧ w'.cell? ⟨w2.heap.size, 2, none⟩ = some (.int .i64 (cQ 2 ka qa)) ∧ w'.cell? ⟨w2.heap.size, 3, none⟩ = some (.int .i64 0) ∧ w'.cell? ⟨w2.heap.size, 4, none⟩ = some (.bool false) ∧ w'.cell? ⟨w2.heap.size, 5, none⟩ = some (.string ⟨#[]⟩)) ∧
      (w'.cell? ⟨w2.heap.size + 1, 0, none⟩ = some (.int .i64 2) ∧ w'.cell? ⟨w2.heap.size + 1, 1, none⟩ = some (.int .i64 (cP 2 kb pb)) ∧ w'.cell? ⟨w2.heap.size + 1, 2, none⟩ = some (.int .i64 (cQ 2 kb qb)) ∧ w'.cell? ⟨w2.heap.size + 1, 3, none⟩ = some (.int .i64 0) ∧ w'.cell? ⟨w2.heap.size + 1, 4, none⟩ = some (.bool false) ∧ w'.cell? ⟨w2.heap.size + 1, 5, none⟩ = some (.string ⟨#[]⟩)))
    (first | go_keep | (go_split_ands; refine ⟨⟨?_, ?_, ?_, ?_, ?_, ?_⟩, ⟨?_, ?_, ?_, ?_, ?_, ?_⟩⟩ <;> (rw [hb3.cell (by simp <;> omega)]; assumption)))
    (first | (go_at_call 77; refine (limit_2 _ _ _).mono ?_; rintro e w3 ⟨rfl, hb3⟩; have hb4 : Below wm.heap.size wm w3 := (by first | exact below_then ((Below.refl _ _).drew) hb3 (by simp) | exact below_then (by assumption) hb3 (by omega)); have hz4 := hb4.size; obtain ⟨hc4, hf4⟩ := bcell hb4; have gg : w.heap.size + 1 + 1 < w3.heap.size := (by omega)))
  all_goals
    clear e0 e1 e2
    iterate 30 (first | go_values | go_skip | go_guarded | go_step | go_upon | go_simp | skip)
    refine bodyPost_ret (v := .tuple #[numV 2 (rP 2 2 ka pa qa kb pb qb) (rQ 2 2 ka pa qa kb qb), .int .i64 0]) ?_ rfl ⟨rfl, ?_⟩
    · simp [results, Tryz.results25, go_sem, rP, rQ, oP, oQ, mOf, prodP, prodQ, quoQ, *]
    · (repeat refine Below.setCell ?_ (by simp <;> omega) _)
      exact below_then hWm hb4 (by omega)

set_option maxRecDepth 100000 in
set_option maxHeartbeats 8000000 in
theorem refResult_times_3 (ka pa qa kb pb qb : Int) (w : World) (hB' : base ka kb = 3) (hA : NumB ka pa qa) (hB : NumB kb pb qb) :
    Calls Tryz.prog 25 #[.string ⟨#[42]⟩, tyV ka pa qa 0 false ⟨#[]⟩, tyV kb pb qb 0 false ⟨#[]⟩] w fun e w' => e = .returned (.tuple #[numV 3 (max (flP ka pa) (flP kb pb)) 0, .int .i64 0]) ∧ Below w.heap.size w w' := by
  have HB := Lib.hid hB'
  clear hB'
  have A := Lib.hid hA; have B := Lib.hid hB
  clear hA hB
  have n2 : ∀ n : Nat, n < n + 1 + 1 := fun n => by omega
  have n3 : ∀ n : Nat, n < n + 1 + 1 + 1 := fun n => by omega
  have n4 : ∀ n : Nat, n < n + 1 + 1 + 1 + 1 := fun n => by omega
  go_enter Tryz.func25, Tryz.ntmps25
  go_wp2_with fail
  go_at_call 59
  refine (asked_0 [⟨ka, pa, qa, 0, false, ⟨#[]⟩⟩, ⟨kb, pb, qb, 0, false, ⟨#[]⟩⟩] (w.heap.size + 1 + 1 + 1) 0 2 _ (TysAt_two heap4_new) (by simp) (by simp) (pic2 pic0 pic0) (all2 A.out.ok B.out.ok) (all2 (f := Ty.num) A.out.num B.out.num)).mono ?_
  rintro e w1 ⟨rfl, hb1⟩
  have hz := hb1.size
  have hz1 : w.heap.size + 1 + 1 + 1 + 1 ≤ w1.heap.size := by simp at hz; omega
  have hW : Below w.heap.size w w1 := below_then (by go_grown) hb1 (by simp <;> omega)
  obtain ⟨r0, r1, r2, r3, r4, r5, rf⟩ := zcells (w2 := w1) (b := w.heap.size + 1 + 1) heap4_3 (by simp <;> omega) hb1
  obtain ⟨a0, a1, a2, a3, a4, a5, af⟩ := bcells (w2 := w1) (b := w.heap.size) heap4_old (by simp <;> omega) hb1
  obtain ⟨b0, b1, b2, b3, b4, b5, bf⟩ := bcells (w2 := w1) (b := w.heap.size + 1) heap4_2 (by simp <;> omega) hb1
  go_wp2_with fail
  go_at_call 75
  refine (brought_b3 _ _ _ _ _ _ HB.out _ A.out.k1 A.out.k3 B.out.k1 B.out.k3 A.out.p1 A.out.p2 B.out.p1 B.out.p2 A.out.q0 A.out.q1 B.out.q0 B.out.q1).mono ?_
  rintro e w2 ⟨rfl, hb2⟩
  have hz2 := hb2.size
  obtain ⟨hc2, hf2⟩ := bcell hb2
  have g0 : w.heap.size < w1.heap.size := by omega
  have g1 : w.heap.size + 1 < w1.heap.size := by omega
  have g2 : w.heap.size + 1 + 1 < w1.heap.size := by omega
  have q0 := (hc2 _ 0 g2).trans r0
  have q1 := (hc2 _ 1 g2).trans r1
  have q2 := (hc2 _ 2 g2).trans r2
  have q3 := (hc2 _ 3 g2).trans r3
  have q4 := (hc2 _ 4 g2).trans r4
  have q5 := (hc2 _ 5 g2).trans r5
  have qf : ∀ j, w2.frozen? ⟨w.heap.size + 1 + 1, j, none⟩ = false := fun j => (hf2 _ j g2).trans (rf j)
  have s0 := (hc2 _ 0 g0).trans a0
  have s1 := (hc2 _ 1 g0).trans a1
  have s2 := (hc2 _ 2 g0).trans a2
  have s3 := (hc2 _ 3 g0).trans a3
  have s4 := (hc2 _ 4 g0).trans a4
  have s5 := (hc2 _ 5 g0).trans a5
  have t0 := (hc2 _ 0 g1).trans b0
  have t1 := (hc2 _ 1 g1).trans b1
  have t2 := (hc2 _ 2 g1).trans b2
  have t3 := (hc2 _ 3 g1).trans b3
  have t4 := (hc2 _ 4 g1).trans b4
  have t5 := (hc2 _ 5 g1).trans b5
  have hW2 : Below w.heap.size w w2 := below_then hW hb2 (by omega)
  have k0 : w.heap.size < w2.heap.size := by omega
  have k1 : w.heap.size + 1 < w2.heap.size := by omega
  have k2 : w.heap.size + 1 + 1 < w2.heap.size := by omega
  have k0' : w.heap.size < w2.heap.size + 1 := by omega
  have k1' : w.heap.size + 1 < w2.heap.size + 1 := by omega
  have k2' : w.heap.size + 1 + 1 < w2.heap.size + 1 := by omega
  have k0'' : w.heap.size < w2.heap.size + 1 + 1 := by omega
  have k1'' : w.heap.size + 1 < w2.heap.size + 1 + 1 := by omega
  have k2'' : w.heap.size + 1 + 1 < w2.heap.size + 1 + 1 := by omega
  clear hc2 hf2 r0 r1 r2 r3 r4 r5 rf a0 a1 a2 a3 a4 a5 af b0 b1 b2 b3 b4 b5 bf hb1 hb2 hz hz2 hz1 g0 g1 g2 hW
  clear w1
  iterate 150 (first | go_values | go_skip | go_guarded | go_step | go_upon | go_simp | skip)
  all_goals
    refine bodyPost_ret (v := .tuple #[numV 3 (max (flP ka pa) (flP kb pb)) 0, .int .i64 0]) ?_ rfl ⟨rfl, ?_⟩
    · simp [results, Tryz.results25, go_sem, q0, q1, q2, q3, q4, q5, qf, k2, k2', k2'']
    · (repeat first | (with_reducible refine Below.alloc ?_ ?ha _; case ha => first | omega | (simp; omega)) | (with_reducible refine Below.setCell ?_ ?hs _; case hs => first | omega | (simp; omega)))
      exact hW2

set_option maxRecDepth 100000 in
set_option maxHeartbeats 8000000 in
theorem refResult_over_1 (ka pa qa kb pb qb : Int) (w : World) (hB' : base ka kb = 1) (hA : NumB ka pa qa) (hB : NumB kb pb qb) :
    Calls Tryz.prog 25 #[.string ⟨#[47]⟩, tyV ka pa qa 0 false ⟨#[]⟩, tyV kb pb qb 0 false ⟨#[]⟩] w fun e w' => e = .returned (.tuple #[numV 1 (rP 3 1 ka pa qa kb pb qb) (rQ 3 1 ka pa qa kb qb), .int .i64 0]) ∧ Below w.heap.size w w' := by
  have HB := Lib.hid hB'
  clear hB'
  have A := Lib.hid hA; have B := Lib.hid hB
  clear hA hB
  have n2 : ∀ n : Nat, n < n + 1 + 1 := fun n => by omega
  have n3 : ∀ n : Nat, n < n + 1 + 1 + 1 := fun n => by omega
  have n4 : ∀ n : Nat, n < n + 1 + 1 + 1 + 1 := fun n => by omega
  go_enter Tryz.func25, Tryz.ntmps25
  go_wp2_with fail
  go_at_call 59
  refine (asked_0 [⟨ka, pa, qa, 0, false, ⟨#[]⟩⟩, ⟨kb, pb, qb, 0, false, ⟨#[]⟩⟩] (w.heap.size + 1 + 1 + 1) 0 2 _ (TysAt_two heap4_new) (by simp) (by simp) (pic2 pic0 pic0) (all2 A.out.ok B.out.ok) (all2 (f := Ty.num) A.out.num B.out.num)).mono ?_
  rintro e w1 ⟨rfl, hb1⟩
  have hz := hb1.size
  have hz1 : w.heap.size + 1 + 1 + 1 + 1 ≤ w1.heap.size := by simp at hz; omega
  have hW : Below w.heap.size w w1 := below_then (by go_grown) hb1 (by simp <;> omega)
  obtain ⟨r0, r1, r2, r3, r4, r5, rf⟩ := zcells (w2 := w1) (b := w.heap.size + 1 + 1) heap4_3 (by simp <;> omega) hb1
  obtain ⟨a0, a1, a2, a3, a4, a5, af⟩ := bcells (w2 := w1) (b := w.heap.size) heap4_old (by simp <;> omega) hb1
  obtain ⟨b0, b1, b2, b3, b4, b5, bf⟩ := bcells (w2 := w1) (b := w.heap.size + 1) heap4_2 (by simp <;> omega) hb1
  go_wp2_with fail
  go_at_call 75
  refine (brought_b 1 _ _ _ _ _ _ HB.out _ A.out.k1 A.out.k3 B.out.k1 B.out.k3 A.out.p1 A.out.p2 B.out.p1 B.out.p2 A.out.q0 A.out.q1 B.out.q0 B.out.q1).mono ?_
  rintro e w2 ⟨rfl, hb2⟩
  have hz2 := hb2.size
  obtain ⟨hc2, hf2⟩ := bcell hb2
  have g0 : w.heap.size < w1.heap.size := by omega
  have g1 : w.heap.size + 1 < w1.heap.size := by omega
  have g2 : w.heap.size + 1 + 1 < w1.heap.size := by omega
  have q0 := (hc2 _ 0 g2).trans r0
  have q1 := (hc2 _ 1 g2).trans r1
  have q2 := (hc2 _ 2 g2).trans r2
  have q3 := (hc2 _ 3 g2).trans r3
  have q4 := (hc2 _ 4 g2).trans r4
  have q5 := (hc2 _ 5 g2).trans r5
  have qf : ∀ j, w2.frozen? ⟨w.heap.size + 1 + 1, j, none⟩ = false := fun j => (hf2 _ j g2).trans (rf j)
  have s0 := (hc2 _ 0 g0).trans a0
  have s1 := (hc2 _ 1 g0).trans a1
  have s2 := (hc2 _ 2 g0).trans a2
  have s3 := (hc2 _ 3 g0).trans a3
  have s4 := (hc2 _ 4 g0).trans a4
  have s5 := (hc2 _ 5 g0).trans a5
  have t0 := (hc2 _ 0 g1).trans b0
  have t1 := (hc2 _ 1 g1).trans b1
  have t2 := (hc2 _ 2 g1).trans b2
  have t3 := (hc2 _ 3 g1).trans b3
  have t4 := (hc2 _ 4 g1).trans b4
  have t5 := (hc2 _ 5 g1).trans b5
  have hW2 : Below w.heap.size w w2 := below_then hW hb2 (by omega)
  have k0 : w.heap.size < w2.heap.size := by omega
  have k1 : w.heap.size + 1 < w2.heap.size := by omega
  have k2 : w.heap.size + 1 + 1 < w2.heap.size := by omega
  have k0' : w.heap.size < w2.heap.size + 1 := by omega
  have k1' : w.heap.size + 1 < w2.heap.size + 1 := by omega
  have k2' : w.heap.size + 1 + 1 < w2.heap.size + 1 := by omega
  have k0'' : w.heap.size < w2.heap.size + 1 + 1 := by omega
  have k1'' : w.heap.size + 1 < w2.heap.size + 1 + 1 := by omega
  have k2'' : w.heap.size + 1 + 1 < w2.heap.size + 1 + 1 := by omega
  clear hc2 hf2 r0 r1 r2 r3 r4 r5 rf a0 a1 a2 a3 a4 a5 af b0 b1 b2 b3 b4 b5 bf hb1 hb2 hz hz2 hz1 g0 g1 g2 hW
  clear w1
  go_wp2_with fail
  generalize hwm : ((w2.alloc (.cells #[.int .i64 1, .int .i64 (cP 1 ka pa), .int .i64 (cQ 1 ka qa), .int .i64 0, .bool false, .string ⟨#[]⟩] 23 (0, 0))).alloc (.cells #[.int .i64 1, .int .i64 (cP 1 kb pb), .int .i64 (cQ 1 kb qb), .int .i64 0, .bool false, .string ⟨#[]⟩] 23 (0, 0))) = wm
  have hX : wm.heap[w2.heap.size]? = some (.cells #[.int .i64 1, .int .i64 (cP 1 ka pa), .int .i64 (cQ 1 ka qa), .int .i64 0, .bool false, .string ⟨#[]⟩] 23 (0, 0)) := by rw [← hwm]; exact heap_alloc2_old _ _ _
  have hY : wm.heap[w2.heap.size + 1]? = some (.cells #[.int .i64 1, .int .i64 (cP 1 kb pb), .int .i64 (cQ 1 kb qb), .int .i64 0, .bool false, .string ⟨#[]⟩] 23 (0, 0)) := by rw [← hwm]; exact heap_alloc2_new _ _ _
  have hBm : Below w2.heap.size w2 wm := by rw [← hwm]; go_grown
  have hzm : w2.heap.size + 1 + 1 ≤ wm.heap.size := by rw [← hwm]; simp
  clear hwm
  obtain ⟨x0, x1, x2, x3, x4, x5⟩ := BoxAt.cells (k := 1) (p := (cP 1 ka pa)) (q := (cQ 1 ka qa)) (n := 0) (vy := false) (pic := ⟨#[]⟩) hX
  obtain ⟨y0, y1, y2, y3, y4, y5⟩ := BoxAt.cells (k := 1) (p := (cP 1 kb pb)) (q := (cQ 1 kb qb)) (n := 0) (vy := false) (pic := ⟨#[]⟩) hY
  obtain ⟨hcm, hfm⟩ := bcell hBm
  have m0 := (hcm _ 0 k2).trans q0
  have m1 := (hcm _ 1 k2).trans q1
  have m2 := (hcm _ 2 k2).trans q2
  have m3 := (hcm _ 3 k2).trans q3
  have m4 := (hcm _ 4 k2).trans q4
  have m5 := (hcm _ 5 k2).trans q5
  have mf : ∀ j, wm.frozen? ⟨w.heap.size + 1 + 1, j, none⟩ = false := fun j => (hfm _ j k2).trans (qf j)
  have hWm : Below w.heap.size w wm := below_then hW2 hBm (by omega)
  have l0 : w2.heap.size < wm.heap.size := by omega
  have l1 : w2.heap.size + 1 < wm.heap.size := by omega
  have l2 : w.heap.size + 1 + 1 < wm.heap.size := by omega
  have z1 : ¬ w.heap.size + 1 + 1 = w2.heap.size := by omega
  have z2 : ¬ w2.heap.size = w.heap.size + 1 + 1 := by omega
  have z3 : ¬ w.heap.size + 1 + 1 = w2.heap.size + 1 := by omega
  have z4 : ¬ w2.heap.size + 1 = w.heap.size + 1 + 1 := by omega
  have z5 : ¬ w.heap.size + 1 = w2.heap.size := by omega
  have z6 : ¬ w2.heap.size = w.heap.size + 1 := by omega
  clear hcm hfm q0 q1 q2 q3 q4 q5 qf s0 s1 s2 s3 s4 s5 t0 t1 t2 t3 t4 t5 hX hY hBm hW2 hzm k0 k1 k2 k0' k1' k2' k0'' k1'' k2''
  obtain ⟨ap, ap'⟩ := cP_bd 1 ka pa A.out.p1 A.out.p2
  obtain ⟨bp, bp'⟩ := cP_bd 1 kb pb B.out.p1 B.out.p2
  obtain ⟨aq, aq'⟩ := cQ_bd 1 ka qa A.out.q0 A.out.q1
  obtain ⟨bq, bq'⟩ := cQ_bd 1 kb qb B.out.q0 B.out.q1
  have e0 : IntKind.i64.wrap (31 - (cP 1 ka pa)) = 31 - (cP 1 ka pa) := IntWalk.i64_in _ (by omega)
  have e1 : IntKind.i64.wrap (31 - (cP 1 ka pa) + (cQ 1 ka qa)) = 31 - (cP 1 ka pa) + (cQ 1 ka qa) := IntWalk.i64_in _ (by omega)
  have e2 : IntKind.i64.wrap (31 - (cP 1 ka pa) + (cQ 1 ka qa) - (cQ 1 kb qb)) = 31 - (cP 1 ka pa) + (cQ 1 ka qa) - (cQ 1 kb qb) := IntWalk.i64_in _ (by omega)
  go_region_held3 (fun w' => (w'.cell? ⟨w2.heap.size, 0, none⟩ = some (.int .i64 1) ∧ w'.cell? ⟨w2.heap.size, 1, none⟩ = some (.int .i64 (cP 1 ka pa)) ∧ w'.cell? ⟨w2.heap.size, 2, none⟩ = some (.int .i64 (cQ 1 ka qa)) ∧ w'.cell? ⟨w2.heap.size, 3, none⟩ = some (.int .i64 0) ∧ w'.cell? ⟨w2.heap.size, 4, none⟩ = some (.bool false) ∧ w'.cell? ⟨w2.heap.size, 5, none⟩ = some (.string ⟨#[]⟩)) ∧
      (w'.cell? ⟨w2.heap.size + 1, 0, none⟩ = some (.int .i64 1) ∧ w'.cell? ⟨w2.heap.size + 1, 1, none⟩ = some (.int .i64 (cP 1 kb pb)) ∧ w'.cell? ⟨w2.heap.size + 1, 2, none⟩ = some (.int .i64 (cQ 1 kb qb)) ∧ w'.cell? ⟨w2.heap.size + 1, 3, none⟩ = some (.int .i64 0) ∧ w'.cell? ⟨w2.heap.size + 1, 4, none⟩ = some (.bool false) ∧ w'.cell? ⟨w2.heap.size + 1, 5, none⟩ = some (.string ⟨#[]⟩)))
    (first | go_keep | (go_split_ands; refine ⟨⟨?_, ?_, ?_, ?_, ?_, ?_⟩, ⟨?_, ?_, ?_, ?_, ?_, ?_⟩⟩ <;> (rw [hb3.cell (by simp <;> omega)]; assumption)))
    (first | (go_at_call 77; refine (limit_1 _ _ _).mono ?_; rintro e w3 ⟨rfl, hb3⟩; have hb4 : Below wm.heap.size wm w3 := (by first | exact below_then ((Below.refl _ _).drew) hb3 (by simp) | exact below_then (by assumption) hb3 (by omega)); have hz4 := hb4.size; obtain ⟨hc4, hf4⟩ := bcell hb4; have gg : w.heap.size + 1 + 1 < w3.heap.size := (by omega)))
  all_goals
    clear e0 e1 e2
    iterate 30 (first | go_values | go_skip | go_guarded | go_step | go_upon | go_simp | skip)
    refine bodyPost_ret (v := .tuple #[numV 1 (rP 3 1 ka pa qa kb pb qb) (rQ 3 1 ka pa qa kb qb), .int .i64 0]) ?_ rfl ⟨rfl, ?_⟩
    · simp [results, Tryz.results25, go_sem, rP, rQ, oP, oQ, mOf, prodP, prodQ, quoQ, *]
    · (repeat refine Below.setCell ?_ (by simp <;> omega) _)
      exact below_then hWm hb4 (by omega)

set_option maxRecDepth 100000 in
set_option maxHeartbeats 8000000 in
theorem refResult_over_2 (ka pa qa kb pb qb : Int) (w : World) (hB' : base ka kb = 2) (hA : NumB ka pa qa) (hB : NumB kb pb qb) :
    Calls Tryz.prog 25 #[.string ⟨#[47]⟩, tyV ka pa qa 0 false ⟨#[]⟩, tyV kb pb qb 0 false ⟨#[]⟩] w fun e w' => e = .returned (.tuple #[numV 2 (rP 3 2 ka pa qa kb pb qb) (rQ 3 2 ka pa qa kb qb), .int .i64 0]) ∧ Below w.heap.size w w' := by
  have HB := Lib.hid hB'
  clear hB'
  have A := Lib.hid hA; have B := Lib.hid hB
  clear hA hB
  have n2 : ∀ n : Nat, n < n + 1 + 1 := fun n => by omega
  have n3 : ∀ n : Nat, n < n + 1 + 1 + 1 := fun n => by omega
  have n4 : ∀ n : Nat, n < n + 1 + 1 + 1 + 1 := fun n => by omega
  go_enter Tryz.func25, Tryz.ntmps25
  go_wp2_with fail
  go_at_call 59
  refine (asked_0 [⟨ka, pa, qa, 0, false, ⟨#[]⟩⟩, ⟨kb, pb, qb, 0, false, ⟨#[]⟩⟩] (w.heap.size + 1 + 1 + 1) 0 2 _ (TysAt_two heap4_new) (by simp) (by simp) (pic2 pic0 pic0) (all2 A.out.ok B.out.ok) (all2 (f := Ty.num) A.out.num B.out.num)).mono ?_
  rintro e w1 ⟨rfl, hb1⟩
  have hz := hb1.size
  have hz1 : w.heap.size + 1 + 1 + 1 + 1 ≤ w1.heap.size := by simp at hz; omega
  have hW : Below w.heap.size w w1 := below_then (by go_grown) hb1 (by simp <;> omega)
  obtain ⟨r0, r1, r2, r3, r4, r5, rf⟩ := zcells (w2 := w1) (b := w.heap.size + 1 + 1) heap4_3 (by simp <;> omega) hb1
  obtain ⟨a0, a1, a2, a3, a4, a5, af⟩ := bcells (w2 := w1) (b := w.heap.size) heap4_old (by simp <;> omega) hb1
  obtain ⟨b0, b1, b2, b3, b4, b5, bf⟩ := bcells (w2 := w1) (b := w.heap.size + 1) heap4_2 (by simp <;> omega) hb1
  go_wp2_with fail
  go_at_call 75
  refine (brought_b 2 _ _ _ _ _ _ HB.out _ A.out.k1 A.out.k3 B.out.k1 B.out.k3 A.out.p1 A.out.p2 B.out.p1 B.out.p2 A.out.q0 A.out.q1 B.out.q0 B.out.q1).mono ?_
  rintro e w2 ⟨rfl, hb2⟩
  have hz2 := hb2.size
  obtain ⟨hc2, hf2⟩ := bcell hb2
  have g0 : w.heap.size < w1.heap.size := by omega
  have g1 : w.heap.size + 1 < w1.heap.size := by omega
  have g2 : w.heap.size + 1 + 1 < w1.heap.size := by omega
  have q0 := (hc2 _ 0 g2).trans r0
  have q1 := (hc2 _ 1 g2).trans r1
  have q2 := (hc2 _ 2 g2).trans r2
  have q3 := (hc2 _ 3 g2).trans r3
  have q4 := (hc2 _ 4 g2).trans r4
  have q5 := (hc2 _ 5 g2).trans r5
  have qf : ∀ j, w2.frozen? ⟨w.heap.size + 1 + 1, j, none⟩ = false := fun j => (hf2 _ j g2).trans (rf j)
  have s0 := (hc2 _ 0 g0).trans a0
  have s1 := (hc2 _ 1 g0).trans a1
  have s2 := (hc2 _ 2 g0).trans a2
  have s3 := (hc2 _ 3 g0).trans a3
  have s4 := (hc2 _ 4 g0).trans a4
  have s5 := (hc2 _ 5 g0).trans a5
  have t0 := (hc2 _ 0 g1).trans b0
  have t1 := (hc2 _ 1 g1).trans b1
  have t2 := (hc2 _ 2 g1).trans b2
  have t3 := (hc2 _ 3 g1).trans b3
  have t4 := (hc2 _ 4 g1).trans b4
  have t5 := (hc2 _ 5 g1).trans b5
  have hW2 : Below w.heap.size w w2 := below_then hW hb2 (by omega)
  have k0 : w.heap.size < w2.heap.size := by omega
  have k1 : w.heap.size + 1 < w2.heap.size := by omega
  have k2 : w.heap.size + 1 + 1 < w2.heap.size := by omega
  have k0' : w.heap.size < w2.heap.size + 1 := by omega
  have k1' : w.heap.size + 1 < w2.heap.size + 1 := by omega
  have k2' : w.heap.size + 1 + 1 < w2.heap.size + 1 := by omega
  have k0'' : w.heap.size < w2.heap.size + 1 + 1 := by omega
  have k1'' : w.heap.size + 1 < w2.heap.size + 1 + 1 := by omega
  have k2'' : w.heap.size + 1 + 1 < w2.heap.size + 1 + 1 := by omega
  clear hc2 hf2 r0 r1 r2 r3 r4 r5 rf a0 a1 a2 a3 a4 a5 af b0 b1 b2 b3 b4 b5 bf hb1 hb2 hz hz2 hz1 g0 g1 g2 hW
  clear w1
  go_wp2_with fail
  generalize hwm : ((w2.alloc (.cells #[.int .i64 2, .int .i64 (cP 2 ka pa), .int .i64 (cQ 2 ka qa), .int .i64 0, .bool false, .string ⟨#[]⟩] 23 (0, 0))).alloc (.cells #[.int .i64 2, .int .i64 (cP 2 kb pb), .int .i64 (cQ 2 kb qb), .int .i64 0, .bool false, .string ⟨#[]⟩] 23 (0, 0))) = wm
  have hX : wm.heap[w2.heap.size]? = some (.cells #[.int .i64 2, .int .i64 (cP 2 ka pa), .int .i64 (cQ 2 ka qa), .int .i64 0, .bool false, .string ⟨#[]⟩] 23 (0, 0)) := by rw [← hwm]; exact heap_alloc2_old _ _ _
  have hY : wm.heap[w2.heap.size + 1]? = some (.cells #[.int .i64 2, .int .i64 (cP 2 kb pb), .int .i64 (cQ 2 kb qb), .int .i64 0, .bool false, .string ⟨#[]⟩] 23 (0, 0)) := by rw [← hwm]; exact heap_alloc2_new _ _ _
  have hBm : Below w2.heap.size w2 wm := by rw [← hwm]; go_grown
  have hzm : w2.heap.size + 1 + 1 ≤ wm.heap.size := by rw [← hwm]; simp
  clear hwm
  obtain ⟨x0, x1, x2, x3, x4, x5⟩ := BoxAt.cells (k := 2) (p := (cP 2 ka pa)) (q := (cQ 2 ka qa)) (n := 0) (vy := false) (pic := ⟨#[]⟩) hX
  obtain ⟨y0, y1, y2, y3, y4, y5⟩ := BoxAt.cells (k := 2) (p := (cP 2 kb pb)) (q := (cQ 2 kb qb)) (n := 0) (vy := false) (pic := ⟨#[]⟩) hY
  obtain ⟨hcm, hfm⟩ := bcell hBm
  have m0 := (hcm _ 0 k2).trans q0
  have m1 := (hcm _ 1 k2).trans q1
  have m2 := (hcm _ 2 k2).trans q2
  have m3 := (hcm _ 3 k2).trans q3
  have m4 := (hcm _ 4 k2).trans q4
  have m5 := (hcm _ 5 k2).trans q5
  have mf : ∀ j, wm.frozen? ⟨w.heap.size + 1 + 1, j, none⟩ = false := fun j => (hfm _ j k2).trans (qf j)
  have hWm : Below w.heap.size w wm := below_then hW2 hBm (by omega)
  have l0 : w2.heap.size < wm.heap.size := by omega
  have l1 : w2.heap.size + 1 < wm.heap.size := by omega
  have l2 : w.heap.size + 1 + 1 < wm.heap.size := by omega
  have z1 : ¬ w.heap.size + 1 + 1 = w2.heap.size := by omega
  have z2 : ¬ w2.heap.size = w.heap.size + 1 + 1 := by omega
  have z3 : ¬ w.heap.size + 1 + 1 = w2.heap.size + 1 := by omega
  have z4 : ¬ w2.heap.size + 1 = w.heap.size + 1 + 1 := by omega
  have z5 : ¬ w.heap.size + 1 = w2.heap.size := by omega
  have z6 : ¬ w2.heap.size = w.heap.size + 1 := by omega
  clear hcm hfm q0 q1 q2 q3 q4 q5 qf s0 s1 s2 s3 s4 s5 t0 t1 t2 t3 t4 t5 hX hY hBm hW2 hzm k0 k1 k2 k0' k1' k2' k0'' k1'' k2''
  obtain ⟨ap, ap'⟩ := cP_bd 2 ka pa A.out.p1 A.out.p2
  obtain ⟨bp, bp'⟩ := cP_bd 2 kb pb B.out.p1 B.out.p2
  obtain ⟨aq, aq'⟩ := cQ_bd 2 ka qa A.out.q0 A.out.q1
  obtain ⟨bq, bq'⟩ := cQ_bd 2 kb qb B.out.q0 B.out.q1
  have e0 : IntKind.i64.wrap (15 - (cP 2 ka pa)) = 15 - (cP 2 ka pa) := IntWalk.i64_in _ (by omega)
  have e1 : IntKind.i64.wrap (15 - (cP 2 ka pa) + (cQ 2 ka qa)) = 15 - (cP 2 ka pa) + (cQ 2 ka qa) := IntWalk.i64_in _ (by omega)
  have e2 : IntKind.i64.wrap (15 - (cP 2 ka pa) + (cQ 2 ka qa) - (cQ 2 kb qb)) = 15 - (cP 2 ka pa) + (cQ 2 ka qa) - (cQ 2 kb qb) := IntWalk.i64_in _ (by omega)
  go_region_held3 (fun w' => (w'.cell? ⟨w2.heap.size, 0, none⟩ = some (.int .i64 2) ∧ w'.cell? ⟨w2.heap.size, 1, none⟩ = some (.int .i64 (cP 2 ka pa)) ∧ w'.cell? ⟨w2.heap.size, 2, none⟩ = some (.int .i64 (cQ 2 ka qa)) ∧ w'.cell? ⟨w2.heap.size, 3, none⟩ = some (.int .i64 0) ∧ w'.cell? ⟨w2.heap.size, 4, none⟩ = some (.bool false) ∧ w'.cell? ⟨w2.heap.size, 5, none⟩ = some (.string ⟨#[]⟩)) ∧
      (w'.cell? ⟨w2.heap.size + 1, 0, none⟩ = some (.int .i64 2) ∧ w'.cell? ⟨w2.heap.size + 1, 1, none⟩ = some (.int .i64 (cP 2 kb pb)) ∧ w'.cell? ⟨w2.heap.size + 1, 2, none⟩ = some (.int .i64 (cQ 2 kb qb)) ∧ w'.cell? ⟨w2.heap.size + 1, 3, none⟩ = some (.int .i64 0) ∧ w'.cell? ⟨w2.heap.size + 1, 4, none⟩ = some (.bool false) ∧ w'.cell? ⟨w2.heap.size + 1, 5, none⟩ = some (.string ⟨#[]⟩)))
    (first | go_keep | (go_split_ands; refine ⟨⟨?_, ?_, ?_, ?_, ?_, ?_⟩, ⟨?_, ?_, ?_, ?_, ?_, ?_⟩⟩ <;> (rw [hb3.cell (by simp <;> omega)]; assumption)))
    (first | (go_at_call 77; refine (limit_2 _ _ _).mono ?_; rintro e w3 ⟨rfl, hb3⟩; have hb4 : Below wm.heap.size wm w3 := (by first | exact below_then ((Below.refl _ _).drew) hb3 (by simp) | exact below_then (by assumption) hb3 (by omega)); have hz4 := hb4.size; obtain ⟨hc4, hf4⟩ := bcell hb4; have gg : w.heap.size + 1 + 1 < w3.heap.size := (by omega)))
  all_goals
    clear e0 e1 e2
    iterate 30 (first | go_values | go_skip | go_guarded | go_step | go_upon | go_simp | skip)
    refine bodyPost_ret (v := .tuple #[numV 2 (rP 3 2 ka pa qa kb pb qb) (rQ 3 2 ka pa qa kb qb), .int .i64 0]) ?_ rfl ⟨rfl, ?_⟩
    · simp [results, Tryz.results25, go_sem, rP, rQ, oP, oQ, mOf, prodP, prodQ, quoQ, *]
    · (repeat refine Below.setCell ?_ (by simp <;> omega) _)
      exact below_then hWm hb4 (by omega)

set_option maxRecDepth 100000 in
set_option maxHeartbeats 8000000 in
theorem refResult_over_3 (ka pa qa kb pb qb : Int) (w : World) (hB' : base ka kb = 3) (hA : NumB ka pa qa) (hB : NumB kb pb qb) :
    Calls Tryz.prog 25 #[.string ⟨#[47]⟩, tyV ka pa qa 0 false ⟨#[]⟩, tyV kb pb qb 0 false ⟨#[]⟩] w fun e w' => e = .returned (.tuple #[numV 3 (max (flP ka pa) (flP kb pb)) 0, .int .i64 0]) ∧ Below w.heap.size w w' := by
  have HB := Lib.hid hB'
  clear hB'
  have A := Lib.hid hA; have B := Lib.hid hB
  clear hA hB
  have n2 : ∀ n : Nat, n < n + 1 + 1 := fun n => by omega
  have n3 : ∀ n : Nat, n < n + 1 + 1 + 1 := fun n => by omega
  have n4 : ∀ n : Nat, n < n + 1 + 1 + 1 + 1 := fun n => by omega
  go_enter Tryz.func25, Tryz.ntmps25
  go_wp2_with fail
  go_at_call 59
  refine (asked_0 [⟨ka, pa, qa, 0, false, ⟨#[]⟩⟩, ⟨kb, pb, qb, 0, false, ⟨#[]⟩⟩] (w.heap.size + 1 + 1 + 1) 0 2 _ (TysAt_two heap4_new) (by simp) (by simp) (pic2 pic0 pic0) (all2 A.out.ok B.out.ok) (all2 (f := Ty.num) A.out.num B.out.num)).mono ?_
  rintro e w1 ⟨rfl, hb1⟩
  have hz := hb1.size
  have hz1 : w.heap.size + 1 + 1 + 1 + 1 ≤ w1.heap.size := by simp at hz; omega
  have hW : Below w.heap.size w w1 := below_then (by go_grown) hb1 (by simp <;> omega)
  obtain ⟨r0, r1, r2, r3, r4, r5, rf⟩ := zcells (w2 := w1) (b := w.heap.size + 1 + 1) heap4_3 (by simp <;> omega) hb1
  obtain ⟨a0, a1, a2, a3, a4, a5, af⟩ := bcells (w2 := w1) (b := w.heap.size) heap4_old (by simp <;> omega) hb1
  obtain ⟨b0, b1, b2, b3, b4, b5, bf⟩ := bcells (w2 := w1) (b := w.heap.size + 1) heap4_2 (by simp <;> omega) hb1
  go_wp2_with fail
  go_at_call 75
  refine (brought_b3 _ _ _ _ _ _ HB.out _ A.out.k1 A.out.k3 B.out.k1 B.out.k3 A.out.p1 A.out.p2 B.out.p1 B.out.p2 A.out.q0 A.out.q1 B.out.q0 B.out.q1).mono ?_
  rintro e w2 ⟨rfl, hb2⟩
  have hz2 := hb2.size
  obtain ⟨hc2, hf2⟩ := bcell hb2
  have g0 : w.heap.size < w1.heap.size := by omega
  have g1 : w.heap.size + 1 < w1.heap.size := by omega
  have g2 : w.heap.size + 1 + 1 < w1.heap.size := by omega
  have q0 := (hc2 _ 0 g2).trans r0
  have q1 := (hc2 _ 1 g2).trans r1
  have q2 := (hc2 _ 2 g2).trans r2
  have q3 := (hc2 _ 3 g2).trans r3
  have q4 := (hc2 _ 4 g2).trans r4
  have q5 := (hc2 _ 5 g2).trans r5
  have qf : ∀ j, w2.frozen? ⟨w.heap.size + 1 + 1, j, none⟩ = false := fun j => (hf2 _ j g2).trans (rf j)
  have s0 := (hc2 _ 0 g0).trans a0
  have s1 := (hc2 _ 1 g0).trans a1
  have s2 := (hc2 _ 2 g0).trans a2
  have s3 := (hc2 _ 3 g0).trans a3
  have s4 := (hc2 _ 4 g0).trans a4
  have s5 := (hc2 _ 5 g0).trans a5
  have t0 := (hc2 _ 0 g1).trans b0
  have t1 := (hc2 _ 1 g1).trans b1
  have t2 := (hc2 _ 2 g1).trans b2
  have t3 := (hc2 _ 3 g1).trans b3
  have t4 := (hc2 _ 4 g1).trans b4
  have t5 := (hc2 _ 5 g1).trans b5
  have hW2 : Below w.heap.size w w2 := below_then hW hb2 (by omega)
  have k0 : w.heap.size < w2.heap.size := by omega
  have k1 : w.heap.size + 1 < w2.heap.size := by omega
  have k2 : w.heap.size + 1 + 1 < w2.heap.size := by omega
  have k0' : w.heap.size < w2.heap.size + 1 := by omega
  have k1' : w.heap.size + 1 < w2.heap.size + 1 := by omega
  have k2' : w.heap.size + 1 + 1 < w2.heap.size + 1 := by omega
  have k0'' : w.heap.size < w2.heap.size + 1 + 1 := by omega
  have k1'' : w.heap.size + 1 < w2.heap.size + 1 + 1 := by omega
  have k2'' : w.heap.size + 1 + 1 < w2.heap.size + 1 + 1 := by omega
  clear hc2 hf2 r0 r1 r2 r3 r4 r5 rf a0 a1 a2 a3 a4 a5 af b0 b1 b2 b3 b4 b5 bf hb1 hb2 hz hz2 hz1 g0 g1 g2 hW
  clear w1
  iterate 150 (first | go_values | go_skip | go_guarded | go_step | go_upon | go_simp | skip)
  all_goals
    refine bodyPost_ret (v := .tuple #[numV 3 (max (flP ka pa) (flP kb pb)) 0, .int .i64 0]) ?_ rfl ⟨rfl, ?_⟩
    · simp [results, Tryz.results25, go_sem, q0, q1, q2, q3, q4, q5, qf, k2, k2', k2'']
    · (repeat first | (with_reducible refine Below.alloc ?_ ?ha _; case ha => first | omega | (simp; omega)) | (with_reducible refine Below.setCell ?_ ?hs _; case hs => first | omega | (simp; omega)))
      exact hW2

end Go.Proofs.YtcekphfmpjdbmaaGreatDoor
