/- rule.Result, of any sign and types. -/
import Derived.Test.YtbjnglfapgpncaaGreatDoorResult
namespace Go.Proofs.YtbjnglfapgpncaaGreatDoor
open Go.RowKit

theorem boxA {w : World} {t : Ty} {A B C : Obj} : BoxAt ((((w.alloc A).alloc (.cells #[.int .i64 t.k, .int .i64 t.p, .int .i64 t.q, .int .i64 t.n, .bool t.vy, .string t.pic] 25 (0, 0))).alloc B).alloc C) (w.heap.size + 1) t := by
  unfold BoxAt
  rw [Go.heap_alloc_old _ _ (by simp <;> omega)]
  exact heap_alloc3_mid _ _ _ _
theorem boxB {w : World} {t : Ty} {A B C : Obj} : BoxAt ((((w.alloc A).alloc B).alloc (.cells #[.int .i64 t.k, .int .i64 t.p, .int .i64 t.q, .int .i64 t.n, .bool t.vy, .string t.pic] 25 (0, 0))).alloc C) (w.heap.size + 1 + 1) t := by
  unfold BoxAt
  rw [Go.heap_alloc_old _ _ (by simp <;> omega)]
  exact heap_alloc3_new _ _ _ _
theorem heap4_old {w : World} {A B C D : Obj} : ((((w.alloc A).alloc B).alloc C).alloc D).heap[w.heap.size]? = some A := by
  rw [Go.heap_alloc_old _ _ (by simp <;> omega)]
  exact heap_alloc3_old _ _ _ _
theorem heap4_new {w : World} {A B C D : Obj} : ((((w.alloc A).alloc B).alloc C).alloc D).heap[w.heap.size + 1 + 1 + 1]? = some D := by
  have h := heap_alloc_last (((w.alloc A).alloc B).alloc C) D
  rwa [World.size_alloc, World.size_alloc, World.size_alloc] at h

set_option maxHeartbeats 1000000 in
theorem cResult_13 (ka pa qa na : Int) (va : Bool) (ca : ByteArray) (kb pb qb nb : Int) (vb : Bool) (cb : ByteArray) (s : ByteArray) (w : World) (ba bb bo : Nat) (ha : BoxAt w ba ⟨ka, pa, qa, na, va, ca⟩) (hb : BoxAt w bb ⟨kb, pb, qb, nb, vb, cb⟩) (_ho : w.cell? ⟨bo, 0, none⟩ = some (.string s)) (hlo : bo < w.heap.size) (hsa : ca.size ≤ maxLen) (hsb : cb.size ≤ maxLen) (hv : (Ty.mk ka pa qa na va ca).ok = false ∨ (Ty.mk kb pb qb nb vb cb).ok = false) :
    Calls Tryz.prog 21 #[.pointer (some ⟨ba, 0, none⟩), .pointer (some ⟨bb, 0, none⟩), .pointer (some ⟨bo, 0, none⟩)] w fun e w' => e = refusal 13 ∧ Below w.heap.size w w' := by
  have HV := Lib.hid hv; have HSA := Lib.hid hsa; have HSB := Lib.hid hsb
  clear hv hsa hsb
  have hla := ha.lt
  have hlb := hb.lt
  have la2 : ba < w.heap.size + 1 + 1 := by omega
  have lb2 : bb < w.heap.size + 1 + 1 := by omega
  have lo2 : bo < w.heap.size + 1 + 1 := by omega
  obtain ⟨x0, x1, x2, x3, x4, x5⟩ := ha.cells
  obtain ⟨y0, y1, y2, y3, y4, y5⟩ := hb.cells
  clear ha hb
  go_enter Tryz.func21, Tryz.ntmps21
  go_wp2_with fail
  go_at_call 22
  refine (demandNumbers_13 [⟨ka, pa, qa, na, va, ca⟩, ⟨kb, pb, qb, nb, vb, cb⟩] (w.heap.size + 1) 0 2 _ (TysAt_two (heap_alloc2_new _ _ _)) (by simp) (by simp) (pic2 HSA.out HSB.out) (nall2 HV.out)).mono ?_
  rintro e w1 ⟨rfl, hb1⟩
  exact ⟨rfl, rfl, below_then (by go_grown) hb1 (by simp <;> omega)⟩

set_option maxHeartbeats 1000000 in
theorem cResult_10 (ka pa qa na : Int) (va : Bool) (ca : ByteArray) (kb pb qb nb : Int) (vb : Bool) (cb : ByteArray) (s : ByteArray) (w : World) (ba bb bo : Nat) (ha : BoxAt w ba ⟨ka, pa, qa, na, va, ca⟩) (hb : BoxAt w bb ⟨kb, pb, qb, nb, vb, cb⟩) (_ho : w.cell? ⟨bo, 0, none⟩ = some (.string s)) (hlo : bo < w.heap.size) (hsa : ca.size ≤ maxLen) (hsb : cb.size ≤ maxLen) (hva : (Ty.mk ka pa qa na va ca).ok = true) (hvb : (Ty.mk kb pb qb nb vb cb).ok = true) (hn : (Ty.mk ka pa qa na va ca).num = false ∨ (Ty.mk kb pb qb nb vb cb).num = false) :
    Calls Tryz.prog 21 #[.pointer (some ⟨ba, 0, none⟩), .pointer (some ⟨bb, 0, none⟩), .pointer (some ⟨bo, 0, none⟩)] w fun e w' => e = refusal 10 ∧ Below w.heap.size w w' := by
  have HVA := Lib.hid hva; have HVB := Lib.hid hvb; have HN := Lib.hid hn; have HSA := Lib.hid hsa; have HSB := Lib.hid hsb
  clear hva hvb hn hsa hsb
  have hla := ha.lt
  have hlb := hb.lt
  have la2 : ba < w.heap.size + 1 + 1 := by omega
  have lb2 : bb < w.heap.size + 1 + 1 := by omega
  have lo2 : bo < w.heap.size + 1 + 1 := by omega
  obtain ⟨x0, x1, x2, x3, x4, x5⟩ := ha.cells
  obtain ⟨y0, y1, y2, y3, y4, y5⟩ := hb.cells
  clear ha hb
  go_enter Tryz.func21, Tryz.ntmps21
  go_wp2_with fail
  go_at_call 22
  refine (demandNumbers_10 [⟨ka, pa, qa, na, va, ca⟩, ⟨kb, pb, qb, nb, vb, cb⟩] (w.heap.size + 1) 0 2 _ (TysAt_two (heap_alloc2_new _ _ _)) (by simp) (by simp) (pic2 HSA.out HSB.out) (all2 HVA.out HVB.out) (nall2 HN.out)).mono ?_
  rintro e w1 ⟨rfl, hb1⟩
  exact ⟨rfl, rfl, below_then (by go_grown) hb1 (by simp <;> omega)⟩

set_option maxHeartbeats 1000000 in
theorem cResult_5 (ka pa qa kb pb qb : Int) (s : ByteArray) (w : World) (ba bb bo : Nat) (ha : BoxAt w ba ⟨ka, pa, qa, 0, false, ⟨#[]⟩⟩) (hb : BoxAt w bb ⟨kb, pb, qb, 0, false, ⟨#[]⟩⟩) (ho : w.cell? ⟨bo, 0, none⟩ = some (.string s)) (hlo : bo < w.heap.size) (hA : NumB ka pa qa) (hB : NumB kb pb qb) (e1 : ([43] == s.toList) = false) (e2 : ([45] == s.toList) = false) (e3 : ([42] == s.toList) = false) (e4 : ([47] == s.toList) = false) (e5 : ([42, 42] == s.toList) = false) :
    Calls Tryz.prog 21 #[.pointer (some ⟨ba, 0, none⟩), .pointer (some ⟨bb, 0, none⟩), .pointer (some ⟨bo, 0, none⟩)] w fun e w' => e = refusal 5 ∧ Below w.heap.size w w' := by
  have A := Lib.hid hA; have B := Lib.hid hB
  have E1 := Lib.hid e1; have E2 := Lib.hid e2; have E3 := Lib.hid e3; have E4 := Lib.hid e4; have E5 := Lib.hid e5
  clear hA hB e1 e2 e3 e4 e5
  have hla := ha.lt
  have hlb := hb.lt
  have la2 : ba < w.heap.size + 1 + 1 := by omega
  have lb2 : bb < w.heap.size + 1 + 1 := by omega
  have lo2 : bo < w.heap.size + 1 + 1 := by omega
  obtain ⟨x0, x1, x2, x3, x4, x5⟩ := ha.cells
  obtain ⟨y0, y1, y2, y3, y4, y5⟩ := hb.cells
  clear ha hb
  go_enter Tryz.func21, Tryz.ntmps21
  go_wp2_with fail
  go_at_call 22
  refine (demandNumbers_ok [⟨ka, pa, qa, 0, false, ⟨#[]⟩⟩, ⟨kb, pb, qb, 0, false, ⟨#[]⟩⟩] (w.heap.size + 1) 0 2 _ (TysAt_two (heap_alloc2_new _ _ _)) (by simp) (by simp) (pic2 pic0 pic0) (all2 A.out.ok B.out.ok) (all2 (f := Ty.num) A.out.num B.out.num)).mono ?_
  rintro e w1 ⟨rfl, hb1⟩
  obtain ⟨hc, hf⟩ := bcell hb1
  have hz := hb1.size
  have hz1 : w.heap.size + 1 + 1 ≤ w1.heap.size := by simp at hz; omega
  have old : ∀ (b o : Nat), b < w.heap.size → w1.cell? ⟨b, o, none⟩ = w.cell? ⟨b, o, none⟩ := fun b o h => by
    rw [hc b o (by simp; omega), World.cell?_alloc_lt _ _ _ (by simp; omega), World.cell?_alloc_lt _ _ _ h]
  have x0' := (old ba 0 hla).trans x0
  have x1' := (old ba 1 hla).trans x1
  have x2' := (old ba 2 hla).trans x2
  have x3' := (old ba 3 hla).trans x3
  have x4' := (old ba 4 hla).trans x4
  have x5' := (old ba 5 hla).trans x5
  have y0' := (old bb 0 hlb).trans y0
  have y1' := (old bb 1 hlb).trans y1
  have y2' := (old bb 2 hlb).trans y2
  have y3' := (old bb 3 hlb).trans y3
  have y4' := (old bb 4 hlb).trans y4
  have y5' := (old bb 5 hlb).trans y5
  have o0' := (old bo 0 hlo).trans ho
  have ga : ba < w1.heap.size := by omega
  have gb : bb < w1.heap.size := by omega
  have go' : bo < w1.heap.size := by omega
  have hW : Below w.heap.size w w1 := below_then (by go_grown) hb1 (by simp <;> omega)
  clear hc hf hz old x0 x1 x2 x3 x4 x5 y0 y1 y2 y3 y4 y5 ho hb1
  go_wp2_with fail
  go_region_with (go_at_call 23; refine (opOf_none _ _ E1.out E2.out E3.out E4.out E5.out).mono ?_; rintro e w2 ⟨rfl, hb2⟩; suffices _hT : wpAny Tryz.prog Region.Mode.any #[] (fun _ _ _ => True) 0 #[] ⟨#[], []⟩ w2 from ⟨rfl, rfl, below_then hW (below_then ((Below.refl _ _).drew) hb2 (by simp)) (by omega)⟩)
  all_goals trivial

set_option maxHeartbeats 1000000 in
theorem Result_13 (ka pa qa na : Int) (va : Bool) (ca : ByteArray) (kb pb qb nb : Int) (vb : Bool) (cb : ByteArray) (s : ByteArray) (w : World) (hsa : ca.size ≤ maxLen) (hsb : cb.size ≤ maxLen) (hv : (Ty.mk ka pa qa na va ca).ok = false ∨ (Ty.mk kb pb qb nb vb cb).ok = false) :
    Calls Tryz.prog 6 #[.string s, tyV ka pa qa na va ca, tyV kb pb qb nb vb cb] w fun e w' => e = .returned (.tuple #[numV 0 0 0, .int .i64 13]) ∧ Below w.heap.size w w' := by
  have hmf : ∀ (fn : Fn) (first cap : Array Value) (w : World), (Instr.makeFunc fn first cap).run Tryz.prog w = .ok (.func fn first cap) w := fun _ _ _ _ => rfl
  have n2 : ∀ n : Nat, n < n + 1 + 1 := fun n => by omega
  have n3 : ∀ n : Nat, n < n + 1 + 1 + 1 := fun n => by omega
  have n4 : ∀ n : Nat, n < n + 1 + 1 + 1 + 1 := fun n => by omega
  go_enter Tryz.func6, Tryz.ntmps6
  go_wp2_with fail
  go_at_call 20
  refine (answeredT_no 21 #[.pointer (some ⟨w.heap.size + 1, 0, none⟩), .pointer (some ⟨w.heap.size + 1 + 1, 0, none⟩), .pointer (some ⟨w.heap.size, 0, none⟩)] 13 _ (fun W => by kernel_rfl) (fun W hW => cResult_13 ka pa qa na va ca kb pb qb nb vb cb s W (w.heap.size + 1) (w.heap.size + 1 + 1) w.heap.size (BoxAt.below (t := ⟨ka, pa, qa, na, va, ca⟩) boxA (by simp <;> omega) hW) (BoxAt.below (t := ⟨kb, pb, qb, nb, vb, cb⟩) boxB (by simp <;> omega) hW) (cell_of_row W w.heap.size 0 _ _ _ ((hW.block _ (by simp <;> omega)).trans heap4_old)) (Nat.lt_of_lt_of_le (by simp <;> omega) hW.size) hsa hsb hv)).mono ?_
  rintro e w1 ⟨rfl, hb1⟩
  have hz := hb1.size
  obtain ⟨r0, r1, r2, r3, r4, r5, rf⟩ := zcells (w2 := w1) (b := w.heap.size + 1 + 1 + 1) heap4_new (by simp <;> omega) hb1
  go_wp2
  refine bodyPost_ret (v := .tuple #[numV 0 0 0, .int .i64 13]) (by simp [results, Tryz.results6, go_sem, r0, r1, r2, r3, r4, r5]) rfl ⟨rfl, ?_⟩
  (repeat refine Below.setCell ?_ (by simp <;> omega) _)
  exact below_then (by go_grown) hb1 (by simp <;> omega)

set_option maxHeartbeats 1000000 in
theorem Result_10 (ka pa qa na : Int) (va : Bool) (ca : ByteArray) (kb pb qb nb : Int) (vb : Bool) (cb : ByteArray) (s : ByteArray) (w : World) (hsa : ca.size ≤ maxLen) (hsb : cb.size ≤ maxLen) (hva : (Ty.mk ka pa qa na va ca).ok = true) (hvb : (Ty.mk kb pb qb nb vb cb).ok = true) (hn : (Ty.mk ka pa qa na va ca).num = false ∨ (Ty.mk kb pb qb nb vb cb).num = false) :
    Calls Tryz.prog 6 #[.string s, tyV ka pa qa na va ca, tyV kb pb qb nb vb cb] w fun e w' => e = .returned (.tuple #[numV 0 0 0, .int .i64 10]) ∧ Below w.heap.size w w' := by
  have hmf : ∀ (fn : Fn) (first cap : Array Value) (w : World), (Instr.makeFunc fn first cap).run Tryz.prog w = .ok (.func fn first cap) w := fun _ _ _ _ => rfl
  have n2 : ∀ n : Nat, n < n + 1 + 1 := fun n => by omega
  have n3 : ∀ n : Nat, n < n + 1 + 1 + 1 := fun n => by omega
  have n4 : ∀ n : Nat, n < n + 1 + 1 + 1 + 1 := fun n => by omega
  go_enter Tryz.func6, Tryz.ntmps6
  go_wp2_with fail
  go_at_call 20
  refine (answeredT_no 21 #[.pointer (some ⟨w.heap.size + 1, 0, none⟩), .pointer (some ⟨w.heap.size + 1 + 1, 0, none⟩), .pointer (some ⟨w.heap.size, 0, none⟩)] 10 _ (fun W => by kernel_rfl) (fun W hW => cResult_10 ka pa qa na va ca kb pb qb nb vb cb s W (w.heap.size + 1) (w.heap.size + 1 + 1) w.heap.size (BoxAt.below (t := ⟨ka, pa, qa, na, va, ca⟩) boxA (by simp <;> omega) hW) (BoxAt.below (t := ⟨kb, pb, qb, nb, vb, cb⟩) boxB (by simp <;> omega) hW) (cell_of_row W w.heap.size 0 _ _ _ ((hW.block _ (by simp <;> omega)).trans heap4_old)) (Nat.lt_of_lt_of_le (by simp <;> omega) hW.size) hsa hsb hva hvb hn)).mono ?_
  rintro e w1 ⟨rfl, hb1⟩
  have hz := hb1.size
  obtain ⟨r0, r1, r2, r3, r4, r5, rf⟩ := zcells (w2 := w1) (b := w.heap.size + 1 + 1 + 1) heap4_new (by simp <;> omega) hb1
  go_wp2
  refine bodyPost_ret (v := .tuple #[numV 0 0 0, .int .i64 10]) (by simp [results, Tryz.results6, go_sem, r0, r1, r2, r3, r4, r5]) rfl ⟨rfl, ?_⟩
  (repeat refine Below.setCell ?_ (by simp <;> omega) _)
  exact below_then (by go_grown) hb1 (by simp <;> omega)

set_option maxHeartbeats 1000000 in
theorem Result_5 (ka pa qa kb pb qb : Int) (s : ByteArray) (w : World) (hA : NumB ka pa qa) (hB : NumB kb pb qb) (e1 : ([43] == s.toList) = false) (e2 : ([45] == s.toList) = false) (e3 : ([42] == s.toList) = false) (e4 : ([47] == s.toList) = false) (e5 : ([42, 42] == s.toList) = false) :
    Calls Tryz.prog 6 #[.string s, tyV ka pa qa 0 false ⟨#[]⟩, tyV kb pb qb 0 false ⟨#[]⟩] w fun e w' => e = .returned (.tuple #[numV 0 0 0, .int .i64 5]) ∧ Below w.heap.size w w' := by
  have hmf : ∀ (fn : Fn) (first cap : Array Value) (w : World), (Instr.makeFunc fn first cap).run Tryz.prog w = .ok (.func fn first cap) w := fun _ _ _ _ => rfl
  have n2 : ∀ n : Nat, n < n + 1 + 1 := fun n => by omega
  have n3 : ∀ n : Nat, n < n + 1 + 1 + 1 := fun n => by omega
  have n4 : ∀ n : Nat, n < n + 1 + 1 + 1 + 1 := fun n => by omega
  go_enter Tryz.func6, Tryz.ntmps6
  go_wp2_with fail
  go_at_call 20
  refine (answeredT_no 21 #[.pointer (some ⟨w.heap.size + 1, 0, none⟩), .pointer (some ⟨w.heap.size + 1 + 1, 0, none⟩), .pointer (some ⟨w.heap.size, 0, none⟩)] 5 _ (fun W => by kernel_rfl) (fun W hW => cResult_5 ka pa qa kb pb qb s W (w.heap.size + 1) (w.heap.size + 1 + 1) w.heap.size (BoxAt.below (t := ⟨ka, pa, qa, 0, false, ⟨#[]⟩⟩) boxA (by simp <;> omega) hW) (BoxAt.below (t := ⟨kb, pb, qb, 0, false, ⟨#[]⟩⟩) boxB (by simp <;> omega) hW) (cell_of_row W w.heap.size 0 _ _ _ ((hW.block _ (by simp <;> omega)).trans heap4_old)) (Nat.lt_of_lt_of_le (by simp <;> omega) hW.size) hA hB e1 e2 e3 e4 e5)).mono ?_
  rintro e w1 ⟨rfl, hb1⟩
  have hz := hb1.size
  obtain ⟨r0, r1, r2, r3, r4, r5, rf⟩ := zcells (w2 := w1) (b := w.heap.size + 1 + 1 + 1) heap4_new (by simp <;> omega) hb1
  go_wp2
  refine bodyPost_ret (v := .tuple #[numV 0 0 0, .int .i64 5]) (by simp [results, Tryz.results6, go_sem, r0, r1, r2, r3, r4, r5]) rfl ⟨rfl, ?_⟩
  (repeat refine Below.setCell ?_ (by simp <;> omega) _)
  exact below_then (by go_grown) hb1 (by simp <;> omega)

set_option maxHeartbeats 1000000 in
theorem Result_plus (ka pa qa kb pb qb : Int) (w : World) (hA : NumB ka pa qa) (hB : NumB kb pb qb) :
    Calls Tryz.prog 6 #[.string ⟨#[43]⟩, tyV ka pa qa 0 false ⟨#[]⟩, tyV kb pb qb 0 false ⟨#[]⟩] w fun e w' => e = .returned (.tuple #[numV (base ka kb) (rP 0 (base ka kb) ka pa qa kb pb qb) (rQ 0 (base ka kb) ka pa qa kb qb), .int .i64 0]) ∧ Below w.heap.size w w' := by
  have hmf : ∀ (fn : Fn) (first cap : Array Value) (w : World), (Instr.makeFunc fn first cap).run Tryz.prog w = .ok (.func fn first cap) w := fun _ _ _ _ => rfl
  have n2 : ∀ n : Nat, n < n + 1 + 1 := fun n => by omega
  have n3 : ∀ n : Nat, n < n + 1 + 1 + 1 := fun n => by omega
  have n4 : ∀ n : Nat, n < n + 1 + 1 + 1 + 1 := fun n => by omega
  go_enter Tryz.func6, Tryz.ntmps6
  go_wp2_with fail
  go_at_call 20
  refine (answeredT_ok 21 #[.pointer (some ⟨w.heap.size + 1, 0, none⟩), .pointer (some ⟨w.heap.size + 1 + 1, 0, none⟩), .pointer (some ⟨w.heap.size, 0, none⟩)] _ _ _ _ _ _ _ (fun W => by kernel_rfl) (fun W hW => cResult_plus ka pa qa kb pb qb W (w.heap.size + 1) (w.heap.size + 1 + 1) w.heap.size (BoxAt.below (t := ⟨ka, pa, qa, 0, false, ⟨#[]⟩⟩) boxA (by simp <;> omega) hW) (BoxAt.below (t := ⟨kb, pb, qb, 0, false, ⟨#[]⟩⟩) boxB (by simp <;> omega) hW) (cell_of_row W w.heap.size 0 _ _ _ ((hW.block _ (by simp <;> omega)).trans heap4_old)) (Nat.lt_of_lt_of_le (by simp <;> omega) hW.size) hA hB)).mono ?_
  rintro e w1 ⟨rfl, hb1⟩
  have hz := hb1.size
  obtain ⟨r0, r1, r2, r3, r4, r5, rf⟩ := zcells (w2 := w1) (b := w.heap.size + 1 + 1 + 1) heap4_new (by simp <;> omega) hb1
  go_wp2
  refine bodyPost_ret (v := .tuple #[numV (base ka kb) (rP 0 (base ka kb) ka pa qa kb pb qb) (rQ 0 (base ka kb) ka pa qa kb qb), .int .i64 0]) (by simp [results, Tryz.results6, go_sem, r0, r1, r2, r3, r4, r5]) rfl ⟨rfl, ?_⟩
  (repeat refine Below.setCell ?_ (by simp <;> omega) _)
  exact below_then (by go_grown) hb1 (by simp <;> omega)

set_option maxHeartbeats 1000000 in
theorem Result_minus (ka pa qa kb pb qb : Int) (w : World) (hA : NumB ka pa qa) (hB : NumB kb pb qb) :
    Calls Tryz.prog 6 #[.string ⟨#[45]⟩, tyV ka pa qa 0 false ⟨#[]⟩, tyV kb pb qb 0 false ⟨#[]⟩] w fun e w' => e = .returned (.tuple #[numV (base ka kb) (rP 1 (base ka kb) ka pa qa kb pb qb) (rQ 1 (base ka kb) ka pa qa kb qb), .int .i64 0]) ∧ Below w.heap.size w w' := by
  have hmf : ∀ (fn : Fn) (first cap : Array Value) (w : World), (Instr.makeFunc fn first cap).run Tryz.prog w = .ok (.func fn first cap) w := fun _ _ _ _ => rfl
  have n2 : ∀ n : Nat, n < n + 1 + 1 := fun n => by omega
  have n3 : ∀ n : Nat, n < n + 1 + 1 + 1 := fun n => by omega
  have n4 : ∀ n : Nat, n < n + 1 + 1 + 1 + 1 := fun n => by omega
  go_enter Tryz.func6, Tryz.ntmps6
  go_wp2_with fail
  go_at_call 20
  refine (answeredT_ok 21 #[.pointer (some ⟨w.heap.size + 1, 0, none⟩), .pointer (some ⟨w.heap.size + 1 + 1, 0, none⟩), .pointer (some ⟨w.heap.size, 0, none⟩)] _ _ _ _ _ _ _ (fun W => by kernel_rfl) (fun W hW => cResult_minus ka pa qa kb pb qb W (w.heap.size + 1) (w.heap.size + 1 + 1) w.heap.size (BoxAt.below (t := ⟨ka, pa, qa, 0, false, ⟨#[]⟩⟩) boxA (by simp <;> omega) hW) (BoxAt.below (t := ⟨kb, pb, qb, 0, false, ⟨#[]⟩⟩) boxB (by simp <;> omega) hW) (cell_of_row W w.heap.size 0 _ _ _ ((hW.block _ (by simp <;> omega)).trans heap4_old)) (Nat.lt_of_lt_of_le (by simp <;> omega) hW.size) hA hB)).mono ?_
  rintro e w1 ⟨rfl, hb1⟩
  have hz := hb1.size
  obtain ⟨r0, r1, r2, r3, r4, r5, rf⟩ := zcells (w2 := w1) (b := w.heap.size + 1 + 1 + 1) heap4_new (by simp <;> omega) hb1
  go_wp2
  refine bodyPost_ret (v := .tuple #[numV (base ka kb) (rP 1 (base ka kb) ka pa qa kb pb qb) (rQ 1 (base ka kb) ka pa qa kb qb), .int .i64 0]) (by simp [results, Tryz.results6, go_sem, r0, r1, r2, r3, r4, r5]) rfl ⟨rfl, ?_⟩
  (repeat refine Below.setCell ?_ (by simp <;> omega) _)
  exact below_then (by go_grown) hb1 (by simp <;> omega)

set_option maxHeartbeats 1000000 in
theorem Result_times (ka pa qa kb pb qb : Int) (w : World) (hA : NumB ka pa qa) (hB : NumB kb pb qb) :
    Calls Tryz.prog 6 #[.string ⟨#[42]⟩, tyV ka pa qa 0 false ⟨#[]⟩, tyV kb pb qb 0 false ⟨#[]⟩] w fun e w' => e = .returned (.tuple #[numV (base ka kb) (rP 2 (base ka kb) ka pa qa kb pb qb) (rQ 2 (base ka kb) ka pa qa kb qb), .int .i64 0]) ∧ Below w.heap.size w w' := by
  have hmf : ∀ (fn : Fn) (first cap : Array Value) (w : World), (Instr.makeFunc fn first cap).run Tryz.prog w = .ok (.func fn first cap) w := fun _ _ _ _ => rfl
  have n2 : ∀ n : Nat, n < n + 1 + 1 := fun n => by omega
  have n3 : ∀ n : Nat, n < n + 1 + 1 + 1 := fun n => by omega
  have n4 : ∀ n : Nat, n < n + 1 + 1 + 1 + 1 := fun n => by omega
  go_enter Tryz.func6, Tryz.ntmps6
  go_wp2_with fail
  go_at_call 20
  refine (answeredT_ok 21 #[.pointer (some ⟨w.heap.size + 1, 0, none⟩), .pointer (some ⟨w.heap.size + 1 + 1, 0, none⟩), .pointer (some ⟨w.heap.size, 0, none⟩)] _ _ _ _ _ _ _ (fun W => by kernel_rfl) (fun W hW => cResult_times ka pa qa kb pb qb W (w.heap.size + 1) (w.heap.size + 1 + 1) w.heap.size (BoxAt.below (t := ⟨ka, pa, qa, 0, false, ⟨#[]⟩⟩) boxA (by simp <;> omega) hW) (BoxAt.below (t := ⟨kb, pb, qb, 0, false, ⟨#[]⟩⟩) boxB (by simp <;> omega) hW) (cell_of_row W w.heap.size 0 _ _ _ ((hW.block _ (by simp <;> omega)).trans heap4_old)) (Nat.lt_of_lt_of_le (by simp <;> omega) hW.size) hA hB)).mono ?_
  rintro e w1 ⟨rfl, hb1⟩
  have hz := hb1.size
  obtain ⟨r0, r1, r2, r3, r4, r5, rf⟩ := zcells (w2 := w1) (b := w.heap.size + 1 + 1 + 1) heap4_new (by simp <;> omega) hb1
  go_wp2
  refine bodyPost_ret (v := .tuple #[numV (base ka kb) (rP 2 (base ka kb) ka pa qa kb pb qb) (rQ 2 (base ka kb) ka pa qa kb qb), .int .i64 0]) (by simp [results, Tryz.results6, go_sem, r0, r1, r2, r3, r4, r5]) rfl ⟨rfl, ?_⟩
  (repeat refine Below.setCell ?_ (by simp <;> omega) _)
  exact below_then (by go_grown) hb1 (by simp <;> omega)

set_option maxHeartbeats 1000000 in
theorem Result_over (ka pa qa kb pb qb : Int) (w : World) (hA : NumB ka pa qa) (hB : NumB kb pb qb) :
    Calls Tryz.prog 6 #[.string ⟨#[47]⟩, tyV ka pa qa 0 false ⟨#[]⟩, tyV kb pb qb 0 false ⟨#[]⟩] w fun e w' => e = .returned (.tuple #[numV (base ka kb) (rP 3 (base ka kb) ka pa qa kb pb qb) (rQ 3 (base ka kb) ka pa qa kb qb), .int .i64 0]) ∧ Below w.heap.size w w' := by
  have hmf : ∀ (fn : Fn) (first cap : Array Value) (w : World), (Instr.makeFunc fn first cap).run Tryz.prog w = .ok (.func fn first cap) w := fun _ _ _ _ => rfl
  have n2 : ∀ n : Nat, n < n + 1 + 1 := fun n => by omega
  have n3 : ∀ n : Nat, n < n + 1 + 1 + 1 := fun n => by omega
  have n4 : ∀ n : Nat, n < n + 1 + 1 + 1 + 1 := fun n => by omega
  go_enter Tryz.func6, Tryz.ntmps6
  go_wp2_with fail
  go_at_call 20
  refine (answeredT_ok 21 #[.pointer (some ⟨w.heap.size + 1, 0, none⟩), .pointer (some ⟨w.heap.size + 1 + 1, 0, none⟩), .pointer (some ⟨w.heap.size, 0, none⟩)] _ _ _ _ _ _ _ (fun W => by kernel_rfl) (fun W hW => cResult_over ka pa qa kb pb qb W (w.heap.size + 1) (w.heap.size + 1 + 1) w.heap.size (BoxAt.below (t := ⟨ka, pa, qa, 0, false, ⟨#[]⟩⟩) boxA (by simp <;> omega) hW) (BoxAt.below (t := ⟨kb, pb, qb, 0, false, ⟨#[]⟩⟩) boxB (by simp <;> omega) hW) (cell_of_row W w.heap.size 0 _ _ _ ((hW.block _ (by simp <;> omega)).trans heap4_old)) (Nat.lt_of_lt_of_le (by simp <;> omega) hW.size) hA hB)).mono ?_
  rintro e w1 ⟨rfl, hb1⟩
  have hz := hb1.size
  obtain ⟨r0, r1, r2, r3, r4, r5, rf⟩ := zcells (w2 := w1) (b := w.heap.size + 1 + 1 + 1) heap4_new (by simp <;> omega) hb1
  go_wp2
  refine bodyPost_ret (v := .tuple #[numV (base ka kb) (rP 3 (base ka kb) ka pa qa kb pb qb) (rQ 3 (base ka kb) ka pa qa kb qb), .int .i64 0]) (by simp [results, Tryz.results6, go_sem, r0, r1, r2, r3, r4, r5]) rfl ⟨rfl, ?_⟩
  (repeat refine Below.setCell ?_ (by simp <;> omega) _)
  exact below_then (by go_grown) hb1 (by simp <;> omega)

set_option maxHeartbeats 1000000 in
theorem Result_power (ka pa qa kb pb qb : Int) (w : World) (hA : NumB ka pa qa) (hB : NumB kb pb qb) :
    Calls Tryz.prog 6 #[.string ⟨#[42, 42]⟩, tyV ka pa qa 0 false ⟨#[]⟩, tyV kb pb qb 0 false ⟨#[]⟩] w fun e w' => e = .returned (.tuple #[numV 3 (max (flP ka pa) (flP kb pb)) 0, .int .i64 0]) ∧ Below w.heap.size w w' := by
  have hmf : ∀ (fn : Fn) (first cap : Array Value) (w : World), (Instr.makeFunc fn first cap).run Tryz.prog w = .ok (.func fn first cap) w := fun _ _ _ _ => rfl
  have n2 : ∀ n : Nat, n < n + 1 + 1 := fun n => by omega
  have n3 : ∀ n : Nat, n < n + 1 + 1 + 1 := fun n => by omega
  have n4 : ∀ n : Nat, n < n + 1 + 1 + 1 + 1 := fun n => by omega
  go_enter Tryz.func6, Tryz.ntmps6
  go_wp2_with fail
  go_at_call 20
  refine (answeredT_ok 21 #[.pointer (some ⟨w.heap.size + 1, 0, none⟩), .pointer (some ⟨w.heap.size + 1 + 1, 0, none⟩), .pointer (some ⟨w.heap.size, 0, none⟩)] _ _ _ _ _ _ _ (fun W => by kernel_rfl) (fun W hW => cResult_power ka pa qa kb pb qb W (w.heap.size + 1) (w.heap.size + 1 + 1) w.heap.size (BoxAt.below (t := ⟨ka, pa, qa, 0, false, ⟨#[]⟩⟩) boxA (by simp <;> omega) hW) (BoxAt.below (t := ⟨kb, pb, qb, 0, false, ⟨#[]⟩⟩) boxB (by simp <;> omega) hW) (cell_of_row W w.heap.size 0 _ _ _ ((hW.block _ (by simp <;> omega)).trans heap4_old)) (Nat.lt_of_lt_of_le (by simp <;> omega) hW.size) hA hB)).mono ?_
  rintro e w1 ⟨rfl, hb1⟩
  have hz := hb1.size
  obtain ⟨r0, r1, r2, r3, r4, r5, rf⟩ := zcells (w2 := w1) (b := w.heap.size + 1 + 1 + 1) heap4_new (by simp <;> omega) hb1
  go_wp2
  refine bodyPost_ret (v := .tuple #[numV 3 (max (flP ka pa) (flP kb pb)) 0, .int .i64 0]) (by simp [results, Tryz.results6, go_sem, r0, r1, r2, r3, r4, r5]) rfl ⟨rfl, ?_⟩
  (repeat refine Below.setCell ?_ (by simp <;> omega) _)
  exact below_then (by go_grown) hb1 (by simp <;> omega)

end Go.Proofs.YtbjnglfapgpncaaGreatDoor
