/- Binary, Decimal, Float, Number, Negated: of package rule, and of its specification. -/
import Derived.Test.YtcekphfmpjdbmaaGreatDoorRule2
namespace Go.Proofs.YtcekphfmpjdbmaaGreatDoor
open Go.RowKit

theorem boxAt_old {w : World} {t : Ty} {B : Obj} : BoxAt ((w.alloc (.cells #[.int .i64 t.k, .int .i64 t.p, .int .i64 t.q, .int .i64 t.n, .bool t.vy, .string t.pic] 23 (0, 0))).alloc B) w.heap.size t := heap_alloc2_old _ _ _

set_option maxHeartbeats 400000 in
theorem Binary_13 (k p q n : Int) (vy : Bool) (pic : ByteArray) (w : World) (hs : pic.size ≤ maxLen) (hv : (Ty.mk k p q n vy pic).ok = false) :
    Calls Tryz.prog 13 #[tyV k p q n vy pic] w fun e w' => e = .returned (.tuple #[numV 0 0 0, .int .i64 13]) ∧ Below w.heap.size w w' := by
  have hmf : ∀ (fn : Fn) (first cap : Array Value) (w : World), (Instr.makeFunc fn first cap).run Tryz.prog w = .ok (.func fn first cap) w := fun _ _ _ _ => rfl
  go_enter Tryz.func13, Tryz.ntmps13
  go_wp2_with fail
  go_at_call 55
  refine (answeredT_no 56 #[.pointer (some ⟨w.heap.size, 0, none⟩)] 13 _ (fun W => by kernel_rfl) (fun W hW => cBinary_13 k p q n vy pic W w.heap.size (BoxAt.below (t := ⟨k, p, q, n, vy, pic⟩) boxAt_old (by simp <;> omega) hW) hs hv)).mono ?_
  rintro e w1 ⟨rfl, hb1⟩
  have hz := hb1.size
  obtain ⟨r0, r1, r2, r3, r4, r5, rf⟩ := zcells (w2 := w1) (b := w.heap.size + 1) (heap_alloc2_new _ _ _) (by simp <;> omega) hb1
  go_wp2
  refine bodyPost_ret (v := .tuple #[numV 0 0 0, .int .i64 13]) (by simp [results, Tryz.results13, go_sem, r0, r1, r2, r3, r4, r5]) rfl ⟨rfl, ?_⟩
  (repeat refine Below.setCell ?_ (by simp) _)
  exact below_then (by go_grown) hb1 (by simp <;> omega)

set_option maxHeartbeats 400000 in
theorem Binary_10 (k p q n : Int) (vy : Bool) (pic : ByteArray) (w : World) (hs : pic.size ≤ maxLen) (hv : (Ty.mk k p q n vy pic).ok = true) (hn : (Ty.mk k p q n vy pic).num = false) :
    Calls Tryz.prog 13 #[tyV k p q n vy pic] w fun e w' => e = .returned (.tuple #[numV 0 0 0, .int .i64 10]) ∧ Below w.heap.size w w' := by
  have hmf : ∀ (fn : Fn) (first cap : Array Value) (w : World), (Instr.makeFunc fn first cap).run Tryz.prog w = .ok (.func fn first cap) w := fun _ _ _ _ => rfl
  go_enter Tryz.func13, Tryz.ntmps13
  go_wp2_with fail
  go_at_call 55
  refine (answeredT_no 56 #[.pointer (some ⟨w.heap.size, 0, none⟩)] 10 _ (fun W => by kernel_rfl) (fun W hW => cBinary_10 k p q n vy pic W w.heap.size (BoxAt.below (t := ⟨k, p, q, n, vy, pic⟩) boxAt_old (by simp <;> omega) hW) hs hv hn)).mono ?_
  rintro e w1 ⟨rfl, hb1⟩
  have hz := hb1.size
  obtain ⟨r0, r1, r2, r3, r4, r5, rf⟩ := zcells (w2 := w1) (b := w.heap.size + 1) (heap_alloc2_new _ _ _) (by simp <;> omega) hb1
  go_wp2
  refine bodyPost_ret (v := .tuple #[numV 0 0 0, .int .i64 10]) (by simp [results, Tryz.results13, go_sem, r0, r1, r2, r3, r4, r5]) rfl ⟨rfl, ?_⟩
  (repeat refine Below.setCell ?_ (by simp) _)
  exact below_then (by go_grown) hb1 (by simp <;> omega)

set_option maxHeartbeats 400000 in
theorem Decimal_13 (k p q n : Int) (vy : Bool) (pic : ByteArray) (w : World) (hs : pic.size ≤ maxLen) (hv : (Ty.mk k p q n vy pic).ok = false) :
    Calls Tryz.prog 15 #[tyV k p q n vy pic] w fun e w' => e = .returned (.tuple #[numV 0 0 0, .int .i64 13]) ∧ Below w.heap.size w w' := by
  have hmf : ∀ (fn : Fn) (first cap : Array Value) (w : World), (Instr.makeFunc fn first cap).run Tryz.prog w = .ok (.func fn first cap) w := fun _ _ _ _ => rfl
  go_enter Tryz.func15, Tryz.ntmps15
  go_wp2_with fail
  go_at_call 55
  refine (answeredT_no 61 #[.pointer (some ⟨w.heap.size, 0, none⟩)] 13 _ (fun W => by kernel_rfl) (fun W hW => cDecimal_13 k p q n vy pic W w.heap.size (BoxAt.below (t := ⟨k, p, q, n, vy, pic⟩) boxAt_old (by simp <;> omega) hW) hs hv)).mono ?_
  rintro e w1 ⟨rfl, hb1⟩
  have hz := hb1.size
  obtain ⟨r0, r1, r2, r3, r4, r5, rf⟩ := zcells (w2 := w1) (b := w.heap.size + 1) (heap_alloc2_new _ _ _) (by simp <;> omega) hb1
  go_wp2
  refine bodyPost_ret (v := .tuple #[numV 0 0 0, .int .i64 13]) (by simp [results, Tryz.results15, go_sem, r0, r1, r2, r3, r4, r5]) rfl ⟨rfl, ?_⟩
  (repeat refine Below.setCell ?_ (by simp) _)
  exact below_then (by go_grown) hb1 (by simp <;> omega)

set_option maxHeartbeats 400000 in
theorem Decimal_10 (k p q n : Int) (vy : Bool) (pic : ByteArray) (w : World) (hs : pic.size ≤ maxLen) (hv : (Ty.mk k p q n vy pic).ok = true) (hn : (Ty.mk k p q n vy pic).num = false) :
    Calls Tryz.prog 15 #[tyV k p q n vy pic] w fun e w' => e = .returned (.tuple #[numV 0 0 0, .int .i64 10]) ∧ Below w.heap.size w w' := by
  have hmf : ∀ (fn : Fn) (first cap : Array Value) (w : World), (Instr.makeFunc fn first cap).run Tryz.prog w = .ok (.func fn first cap) w := fun _ _ _ _ => rfl
  go_enter Tryz.func15, Tryz.ntmps15
  go_wp2_with fail
  go_at_call 55
  refine (answeredT_no 61 #[.pointer (some ⟨w.heap.size, 0, none⟩)] 10 _ (fun W => by kernel_rfl) (fun W hW => cDecimal_10 k p q n vy pic W w.heap.size (BoxAt.below (t := ⟨k, p, q, n, vy, pic⟩) boxAt_old (by simp <;> omega) hW) hs hv hn)).mono ?_
  rintro e w1 ⟨rfl, hb1⟩
  have hz := hb1.size
  obtain ⟨r0, r1, r2, r3, r4, r5, rf⟩ := zcells (w2 := w1) (b := w.heap.size + 1) (heap_alloc2_new _ _ _) (by simp <;> omega) hb1
  go_wp2
  refine bodyPost_ret (v := .tuple #[numV 0 0 0, .int .i64 10]) (by simp [results, Tryz.results15, go_sem, r0, r1, r2, r3, r4, r5]) rfl ⟨rfl, ?_⟩
  (repeat refine Below.setCell ?_ (by simp) _)
  exact below_then (by go_grown) hb1 (by simp <;> omega)

set_option maxHeartbeats 400000 in
theorem Float_13 (k p q n : Int) (vy : Bool) (pic : ByteArray) (w : World) (hs : pic.size ≤ maxLen) (hv : (Ty.mk k p q n vy pic).ok = false) :
    Calls Tryz.prog 18 #[tyV k p q n vy pic] w fun e w' => e = .returned (.tuple #[numV 0 0 0, .int .i64 13]) ∧ Below w.heap.size w w' := by
  have hmf : ∀ (fn : Fn) (first cap : Array Value) (w : World), (Instr.makeFunc fn first cap).run Tryz.prog w = .ok (.func fn first cap) w := fun _ _ _ _ => rfl
  go_enter Tryz.func18, Tryz.ntmps18
  go_wp2_with fail
  go_at_call 55
  refine (answeredT_no 65 #[.pointer (some ⟨w.heap.size, 0, none⟩)] 13 _ (fun W => by kernel_rfl) (fun W hW => cFloat_13 k p q n vy pic W w.heap.size (BoxAt.below (t := ⟨k, p, q, n, vy, pic⟩) boxAt_old (by simp <;> omega) hW) hs hv)).mono ?_
  rintro e w1 ⟨rfl, hb1⟩
  have hz := hb1.size
  obtain ⟨r0, r1, r2, r3, r4, r5, rf⟩ := zcells (w2 := w1) (b := w.heap.size + 1) (heap_alloc2_new _ _ _) (by simp <;> omega) hb1
  go_wp2
  refine bodyPost_ret (v := .tuple #[numV 0 0 0, .int .i64 13]) (by simp [results, Tryz.results18, go_sem, r0, r1, r2, r3, r4, r5]) rfl ⟨rfl, ?_⟩
  (repeat refine Below.setCell ?_ (by simp) _)
  exact below_then (by go_grown) hb1 (by simp <;> omega)

set_option maxHeartbeats 400000 in
theorem Float_10 (k p q n : Int) (vy : Bool) (pic : ByteArray) (w : World) (hs : pic.size ≤ maxLen) (hv : (Ty.mk k p q n vy pic).ok = true) (hn : (Ty.mk k p q n vy pic).num = false) :
    Calls Tryz.prog 18 #[tyV k p q n vy pic] w fun e w' => e = .returned (.tuple #[numV 0 0 0, .int .i64 10]) ∧ Below w.heap.size w w' := by
  have hmf : ∀ (fn : Fn) (first cap : Array Value) (w : World), (Instr.makeFunc fn first cap).run Tryz.prog w = .ok (.func fn first cap) w := fun _ _ _ _ => rfl
  go_enter Tryz.func18, Tryz.ntmps18
  go_wp2_with fail
  go_at_call 55
  refine (answeredT_no 65 #[.pointer (some ⟨w.heap.size, 0, none⟩)] 10 _ (fun W => by kernel_rfl) (fun W hW => cFloat_10 k p q n vy pic W w.heap.size (BoxAt.below (t := ⟨k, p, q, n, vy, pic⟩) boxAt_old (by simp <;> omega) hW) hs hv hn)).mono ?_
  rintro e w1 ⟨rfl, hb1⟩
  have hz := hb1.size
  obtain ⟨r0, r1, r2, r3, r4, r5, rf⟩ := zcells (w2 := w1) (b := w.heap.size + 1) (heap_alloc2_new _ _ _) (by simp <;> omega) hb1
  go_wp2
  refine bodyPost_ret (v := .tuple #[numV 0 0 0, .int .i64 10]) (by simp [results, Tryz.results18, go_sem, r0, r1, r2, r3, r4, r5]) rfl ⟨rfl, ?_⟩
  (repeat refine Below.setCell ?_ (by simp) _)
  exact below_then (by go_grown) hb1 (by simp <;> omega)

set_option maxHeartbeats 400000 in
theorem Number_13 (k p q n : Int) (vy : Bool) (pic : ByteArray) (w : World) (hs : pic.size ≤ maxLen) (hv : (Ty.mk k p q n vy pic).ok = false) :
    Calls Tryz.prog 20 #[tyV k p q n vy pic] w fun e w' => e = .returned (.tuple #[numV 0 0 0, .int .i64 13]) ∧ Below w.heap.size w w' := by
  have hmf : ∀ (fn : Fn) (first cap : Array Value) (w : World), (Instr.makeFunc fn first cap).run Tryz.prog w = .ok (.func fn first cap) w := fun _ _ _ _ => rfl
  go_enter Tryz.func20, Tryz.ntmps20
  go_wp2_with fail
  go_at_call 55
  refine (answeredT_no 69 #[.pointer (some ⟨w.heap.size, 0, none⟩)] 13 _ (fun W => by kernel_rfl) (fun W hW => cNumber_13 k p q n vy pic W w.heap.size (BoxAt.below (t := ⟨k, p, q, n, vy, pic⟩) boxAt_old (by simp <;> omega) hW) hs hv)).mono ?_
  rintro e w1 ⟨rfl, hb1⟩
  have hz := hb1.size
  obtain ⟨r0, r1, r2, r3, r4, r5, rf⟩ := zcells (w2 := w1) (b := w.heap.size + 1) (heap_alloc2_new _ _ _) (by simp <;> omega) hb1
  go_wp2
  refine bodyPost_ret (v := .tuple #[numV 0 0 0, .int .i64 13]) (by simp [results, Tryz.results20, go_sem, r0, r1, r2, r3, r4, r5]) rfl ⟨rfl, ?_⟩
  (repeat refine Below.setCell ?_ (by simp) _)
  exact below_then (by go_grown) hb1 (by simp <;> omega)

set_option maxHeartbeats 400000 in
theorem Negated_13 (k p q n : Int) (vy : Bool) (pic : ByteArray) (w : World) (hs : pic.size ≤ maxLen) (hv : (Ty.mk k p q n vy pic).ok = false) :
    Calls Tryz.prog 22 #[tyV k p q n vy pic] w fun e w' => e = .returned (.tuple #[numV 0 0 0, .int .i64 13]) ∧ Below w.heap.size w w' := by
  have hmf : ∀ (fn : Fn) (first cap : Array Value) (w : World), (Instr.makeFunc fn first cap).run Tryz.prog w = .ok (.func fn first cap) w := fun _ _ _ _ => rfl
  go_enter Tryz.func22, Tryz.ntmps22
  go_wp2_with fail
  go_at_call 55
  refine (answeredT_no 72 #[.pointer (some ⟨w.heap.size, 0, none⟩)] 13 _ (fun W => by kernel_rfl) (fun W hW => cNegated_13 k p q n vy pic W w.heap.size (BoxAt.below (t := ⟨k, p, q, n, vy, pic⟩) boxAt_old (by simp <;> omega) hW) hs hv)).mono ?_
  rintro e w1 ⟨rfl, hb1⟩
  have hz := hb1.size
  obtain ⟨r0, r1, r2, r3, r4, r5, rf⟩ := zcells (w2 := w1) (b := w.heap.size + 1) (heap_alloc2_new _ _ _) (by simp <;> omega) hb1
  go_wp2
  refine bodyPost_ret (v := .tuple #[numV 0 0 0, .int .i64 13]) (by simp [results, Tryz.results22, go_sem, r0, r1, r2, r3, r4, r5]) rfl ⟨rfl, ?_⟩
  (repeat refine Below.setCell ?_ (by simp) _)
  exact below_then (by go_grown) hb1 (by simp <;> omega)

set_option maxHeartbeats 400000 in
theorem Negated_10 (k p q n : Int) (vy : Bool) (pic : ByteArray) (w : World) (hs : pic.size ≤ maxLen) (hv : (Ty.mk k p q n vy pic).ok = true) (hn : (Ty.mk k p q n vy pic).num = false) :
    Calls Tryz.prog 22 #[tyV k p q n vy pic] w fun e w' => e = .returned (.tuple #[numV 0 0 0, .int .i64 10]) ∧ Below w.heap.size w w' := by
  have hmf : ∀ (fn : Fn) (first cap : Array Value) (w : World), (Instr.makeFunc fn first cap).run Tryz.prog w = .ok (.func fn first cap) w := fun _ _ _ _ => rfl
  go_enter Tryz.func22, Tryz.ntmps22
  go_wp2_with fail
  go_at_call 55
  refine (answeredT_no 72 #[.pointer (some ⟨w.heap.size, 0, none⟩)] 10 _ (fun W => by kernel_rfl) (fun W hW => cNegated_10 k p q n vy pic W w.heap.size (BoxAt.below (t := ⟨k, p, q, n, vy, pic⟩) boxAt_old (by simp <;> omega) hW) hs hv hn)).mono ?_
  rintro e w1 ⟨rfl, hb1⟩
  have hz := hb1.size
  obtain ⟨r0, r1, r2, r3, r4, r5, rf⟩ := zcells (w2 := w1) (b := w.heap.size + 1) (heap_alloc2_new _ _ _) (by simp <;> omega) hb1
  go_wp2
  refine bodyPost_ret (v := .tuple #[numV 0 0 0, .int .i64 10]) (by simp [results, Tryz.results22, go_sem, r0, r1, r2, r3, r4, r5]) rfl ⟨rfl, ?_⟩
  (repeat refine Below.setCell ?_ (by simp) _)
  exact below_then (by go_grown) hb1 (by simp <;> omega)

set_option maxHeartbeats 400000 in
theorem Binary_1 (p q : Int) (w : World) (hp : 1 ≤ p) (hp' : p ≤ 31) (hq : 0 ≤ q) (hq' : q ≤ 31) :
    Calls Tryz.prog 13 #[tyV 1 p q 0 false ⟨#[]⟩] w fun e w' => e = .returned (.tuple #[numV 1 p q, .int .i64 0]) ∧ Below w.heap.size w w' := by
  have hmf : ∀ (fn : Fn) (first cap : Array Value) (w : World), (Instr.makeFunc fn first cap).run Tryz.prog w = .ok (.func fn first cap) w := fun _ _ _ _ => rfl
  go_enter Tryz.func13, Tryz.ntmps13
  go_wp2_with fail
  go_at_call 55
  refine (answeredT_ok 56 #[.pointer (some ⟨w.heap.size, 0, none⟩)] _ _ _ _ _ _ _ (fun W => by kernel_rfl) (fun W hW => cBinary_1 p q W w.heap.size (BoxAt.below (t := ⟨1, p, q, 0, false, ⟨#[]⟩⟩) boxAt_old (by simp <;> omega) hW) hp hp' hq hq')).mono ?_
  rintro e w1 ⟨rfl, hb1⟩
  have hz := hb1.size
  obtain ⟨r0, r1, r2, r3, r4, r5, rf⟩ := zcells (w2 := w1) (b := w.heap.size + 1) (heap_alloc2_new _ _ _) (by simp <;> omega) hb1
  go_wp2
  refine bodyPost_ret (v := .tuple #[numV 1 p q, .int .i64 0]) (by simp [results, Tryz.results13, go_sem, r0, r1, r2, r3, r4, r5]) rfl ⟨rfl, ?_⟩
  (repeat refine Below.setCell ?_ (by simp) _)
  exact below_then (by go_grown) hb1 (by simp <;> omega)

set_option maxHeartbeats 400000 in
theorem Binary_2 (p q : Int) (w : World) (hp : 1 ≤ p) (hp' : p ≤ 15) (hq : 0 ≤ q) (hq' : q ≤ 31) :
    Calls Tryz.prog 13 #[tyV 2 p q 0 false ⟨#[]⟩] w fun e w' => e = .returned (.tuple #[numV 1 (bP p) (bQ q), .int .i64 0]) ∧ Below w.heap.size w w' := by
  have hmf : ∀ (fn : Fn) (first cap : Array Value) (w : World), (Instr.makeFunc fn first cap).run Tryz.prog w = .ok (.func fn first cap) w := fun _ _ _ _ => rfl
  go_enter Tryz.func13, Tryz.ntmps13
  go_wp2_with fail
  go_at_call 55
  refine (answeredT_ok 56 #[.pointer (some ⟨w.heap.size, 0, none⟩)] _ _ _ _ _ _ _ (fun W => by kernel_rfl) (fun W hW => cBinary_2 p q W w.heap.size (BoxAt.below (t := ⟨2, p, q, 0, false, ⟨#[]⟩⟩) boxAt_old (by simp <;> omega) hW) hp hp' hq hq')).mono ?_
  rintro e w1 ⟨rfl, hb1⟩
  have hz := hb1.size
  obtain ⟨r0, r1, r2, r3, r4, r5, rf⟩ := zcells (w2 := w1) (b := w.heap.size + 1) (heap_alloc2_new _ _ _) (by simp <;> omega) hb1
  go_wp2
  refine bodyPost_ret (v := .tuple #[numV 1 (bP p) (bQ q), .int .i64 0]) (by simp [results, Tryz.results13, go_sem, r0, r1, r2, r3, r4, r5]) rfl ⟨rfl, ?_⟩
  (repeat refine Below.setCell ?_ (by simp) _)
  exact below_then (by go_grown) hb1 (by simp <;> omega)

set_option maxHeartbeats 400000 in
theorem Decimal_2 (p q : Int) (w : World) (hp : 1 ≤ p) (hp' : p ≤ 15) (hq : 0 ≤ q) (hq' : q ≤ 31) :
    Calls Tryz.prog 15 #[tyV 2 p q 0 false ⟨#[]⟩] w fun e w' => e = .returned (.tuple #[numV 2 p q, .int .i64 0]) ∧ Below w.heap.size w w' := by
  have hmf : ∀ (fn : Fn) (first cap : Array Value) (w : World), (Instr.makeFunc fn first cap).run Tryz.prog w = .ok (.func fn first cap) w := fun _ _ _ _ => rfl
  go_enter Tryz.func15, Tryz.ntmps15
  go_wp2_with fail
  go_at_call 55
  refine (answeredT_ok 61 #[.pointer (some ⟨w.heap.size, 0, none⟩)] _ _ _ _ _ _ _ (fun W => by kernel_rfl) (fun W hW => cDecimal_2 p q W w.heap.size (BoxAt.below (t := ⟨2, p, q, 0, false, ⟨#[]⟩⟩) boxAt_old (by simp <;> omega) hW) hp hp' hq hq')).mono ?_
  rintro e w1 ⟨rfl, hb1⟩
  have hz := hb1.size
  obtain ⟨r0, r1, r2, r3, r4, r5, rf⟩ := zcells (w2 := w1) (b := w.heap.size + 1) (heap_alloc2_new _ _ _) (by simp <;> omega) hb1
  go_wp2
  refine bodyPost_ret (v := .tuple #[numV 2 p q, .int .i64 0]) (by simp [results, Tryz.results15, go_sem, r0, r1, r2, r3, r4, r5]) rfl ⟨rfl, ?_⟩
  (repeat refine Below.setCell ?_ (by simp) _)
  exact below_then (by go_grown) hb1 (by simp <;> omega)

set_option maxHeartbeats 400000 in
theorem Decimal_1 (p q : Int) (w : World) (hp : 1 ≤ p) (hp' : p ≤ 31) (hq : 0 ≤ q) (hq' : q ≤ 31) :
    Calls Tryz.prog 15 #[tyV 1 p q 0 false ⟨#[]⟩] w fun e w' => e = .returned (.tuple #[numV 2 (dP p) (dQ q), .int .i64 0]) ∧ Below w.heap.size w w' := by
  have hmf : ∀ (fn : Fn) (first cap : Array Value) (w : World), (Instr.makeFunc fn first cap).run Tryz.prog w = .ok (.func fn first cap) w := fun _ _ _ _ => rfl
  go_enter Tryz.func15, Tryz.ntmps15
  go_wp2_with fail
  go_at_call 55
  refine (answeredT_ok 61 #[.pointer (some ⟨w.heap.size, 0, none⟩)] _ _ _ _ _ _ _ (fun W => by kernel_rfl) (fun W hW => cDecimal_1 p q W w.heap.size (BoxAt.below (t := ⟨1, p, q, 0, false, ⟨#[]⟩⟩) boxAt_old (by simp <;> omega) hW) hp hp' hq hq')).mono ?_
  rintro e w1 ⟨rfl, hb1⟩
  have hz := hb1.size
  obtain ⟨r0, r1, r2, r3, r4, r5, rf⟩ := zcells (w2 := w1) (b := w.heap.size + 1) (heap_alloc2_new _ _ _) (by simp <;> omega) hb1
  go_wp2
  refine bodyPost_ret (v := .tuple #[numV 2 (dP p) (dQ q), .int .i64 0]) (by simp [results, Tryz.results15, go_sem, r0, r1, r2, r3, r4, r5]) rfl ⟨rfl, ?_⟩
  (repeat refine Below.setCell ?_ (by simp) _)
  exact below_then (by go_grown) hb1 (by simp <;> omega)

set_option maxHeartbeats 400000 in
theorem Float_1 (p q : Int) (w : World) (hp : 1 ≤ p) (hp' : p ≤ 31) (hq : 0 ≤ q) (hq' : q ≤ 31) :
    Calls Tryz.prog 18 #[tyV 1 p q 0 false ⟨#[]⟩] w fun e w' => e = .returned (.tuple #[numV 3 (fP p) 0, .int .i64 0]) ∧ Below w.heap.size w w' := by
  have hmf : ∀ (fn : Fn) (first cap : Array Value) (w : World), (Instr.makeFunc fn first cap).run Tryz.prog w = .ok (.func fn first cap) w := fun _ _ _ _ => rfl
  go_enter Tryz.func18, Tryz.ntmps18
  go_wp2_with fail
  go_at_call 55
  refine (answeredT_ok 65 #[.pointer (some ⟨w.heap.size, 0, none⟩)] _ _ _ _ _ _ _ (fun W => by kernel_rfl) (fun W hW => cFloat_1 p q W w.heap.size (BoxAt.below (t := ⟨1, p, q, 0, false, ⟨#[]⟩⟩) boxAt_old (by simp <;> omega) hW) hp hp' hq hq')).mono ?_
  rintro e w1 ⟨rfl, hb1⟩
  have hz := hb1.size
  obtain ⟨r0, r1, r2, r3, r4, r5, rf⟩ := zcells (w2 := w1) (b := w.heap.size + 1) (heap_alloc2_new _ _ _) (by simp <;> omega) hb1
  go_wp2
  refine bodyPost_ret (v := .tuple #[numV 3 (fP p) 0, .int .i64 0]) (by simp [results, Tryz.results18, go_sem, r0, r1, r2, r3, r4, r5]) rfl ⟨rfl, ?_⟩
  (repeat refine Below.setCell ?_ (by simp) _)
  exact below_then (by go_grown) hb1 (by simp <;> omega)

set_option maxHeartbeats 400000 in
theorem Float_2 (p q : Int) (w : World) (hp : 1 ≤ p) (hp' : p ≤ 15) (hq : 0 ≤ q) (hq' : q ≤ 31) :
    Calls Tryz.prog 18 #[tyV 2 p q 0 false ⟨#[]⟩] w fun e w' => e = .returned (.tuple #[numV 3 p 0, .int .i64 0]) ∧ Below w.heap.size w w' := by
  have hmf : ∀ (fn : Fn) (first cap : Array Value) (w : World), (Instr.makeFunc fn first cap).run Tryz.prog w = .ok (.func fn first cap) w := fun _ _ _ _ => rfl
  go_enter Tryz.func18, Tryz.ntmps18
  go_wp2_with fail
  go_at_call 55
  refine (answeredT_ok 65 #[.pointer (some ⟨w.heap.size, 0, none⟩)] _ _ _ _ _ _ _ (fun W => by kernel_rfl) (fun W hW => cFloat_2 p q W w.heap.size (BoxAt.below (t := ⟨2, p, q, 0, false, ⟨#[]⟩⟩) boxAt_old (by simp <;> omega) hW) hp hp' hq hq')).mono ?_
  rintro e w1 ⟨rfl, hb1⟩
  have hz := hb1.size
  obtain ⟨r0, r1, r2, r3, r4, r5, rf⟩ := zcells (w2 := w1) (b := w.heap.size + 1) (heap_alloc2_new _ _ _) (by simp <;> omega) hb1
  go_wp2
  refine bodyPost_ret (v := .tuple #[numV 3 p 0, .int .i64 0]) (by simp [results, Tryz.results18, go_sem, r0, r1, r2, r3, r4, r5]) rfl ⟨rfl, ?_⟩
  (repeat refine Below.setCell ?_ (by simp) _)
  exact below_then (by go_grown) hb1 (by simp <;> omega)

set_option maxHeartbeats 400000 in
theorem Float_3 (p : Int) (w : World) (hp : 1 ≤ p) (hp' : p ≤ 15) :
    Calls Tryz.prog 18 #[tyV 3 p 0 0 false ⟨#[]⟩] w fun e w' => e = .returned (.tuple #[numV 3 p 0, .int .i64 0]) ∧ Below w.heap.size w w' := by
  have hmf : ∀ (fn : Fn) (first cap : Array Value) (w : World), (Instr.makeFunc fn first cap).run Tryz.prog w = .ok (.func fn first cap) w := fun _ _ _ _ => rfl
  go_enter Tryz.func18, Tryz.ntmps18
  go_wp2_with fail
  go_at_call 55
  refine (answeredT_ok 65 #[.pointer (some ⟨w.heap.size, 0, none⟩)] _ _ _ _ _ _ _ (fun W => by kernel_rfl) (fun W hW => cFloat_3 p W w.heap.size (BoxAt.below (t := ⟨3, p, 0, 0, false, ⟨#[]⟩⟩) boxAt_old (by simp <;> omega) hW) hp hp')).mono ?_
  rintro e w1 ⟨rfl, hb1⟩
  have hz := hb1.size
  obtain ⟨r0, r1, r2, r3, r4, r5, rf⟩ := zcells (w2 := w1) (b := w.heap.size + 1) (heap_alloc2_new _ _ _) (by simp <;> omega) hb1
  go_wp2
  refine bodyPost_ret (v := .tuple #[numV 3 p 0, .int .i64 0]) (by simp [results, Tryz.results18, go_sem, r0, r1, r2, r3, r4, r5]) rfl ⟨rfl, ?_⟩
  (repeat refine Below.setCell ?_ (by simp) _)
  exact below_then (by go_grown) hb1 (by simp <;> omega)

set_option maxHeartbeats 400000 in
theorem Number_1 (p q : Int) (w : World) (hp : 1 ≤ p) (hp' : p ≤ 31) (hq : 0 ≤ q) (hq' : q ≤ 31) :
    Calls Tryz.prog 20 #[tyV 1 p q 0 false ⟨#[]⟩] w fun e w' => e = .returned (.tuple #[numV 1 p q, .int .i64 0]) ∧ Below w.heap.size w w' := by
  have hmf : ∀ (fn : Fn) (first cap : Array Value) (w : World), (Instr.makeFunc fn first cap).run Tryz.prog w = .ok (.func fn first cap) w := fun _ _ _ _ => rfl
  go_enter Tryz.func20, Tryz.ntmps20
  go_wp2_with fail
  go_at_call 55
  refine (answeredT_ok 69 #[.pointer (some ⟨w.heap.size, 0, none⟩)] _ _ _ _ _ _ _ (fun W => by kernel_rfl) (fun W hW => cNumber_1 p q W w.heap.size (BoxAt.below (t := ⟨1, p, q, 0, false, ⟨#[]⟩⟩) boxAt_old (by simp <;> omega) hW) hp hp' hq hq')).mono ?_
  rintro e w1 ⟨rfl, hb1⟩
  have hz := hb1.size
  obtain ⟨r0, r1, r2, r3, r4, r5, rf⟩ := zcells (w2 := w1) (b := w.heap.size + 1) (heap_alloc2_new _ _ _) (by simp <;> omega) hb1
  go_wp2
  refine bodyPost_ret (v := .tuple #[numV 1 p q, .int .i64 0]) (by simp [results, Tryz.results20, go_sem, r0, r1, r2, r3, r4, r5]) rfl ⟨rfl, ?_⟩
  (repeat refine Below.setCell ?_ (by simp) _)
  exact below_then (by go_grown) hb1 (by simp <;> omega)

set_option maxHeartbeats 400000 in
theorem Number_2 (p q : Int) (w : World) (hp : 1 ≤ p) (hp' : p ≤ 15) (hq : 0 ≤ q) (hq' : q ≤ 31) :
    Calls Tryz.prog 20 #[tyV 2 p q 0 false ⟨#[]⟩] w fun e w' => e = .returned (.tuple #[numV 2 p q, .int .i64 0]) ∧ Below w.heap.size w w' := by
  have hmf : ∀ (fn : Fn) (first cap : Array Value) (w : World), (Instr.makeFunc fn first cap).run Tryz.prog w = .ok (.func fn first cap) w := fun _ _ _ _ => rfl
  go_enter Tryz.func20, Tryz.ntmps20
  go_wp2_with fail
  go_at_call 55
  refine (answeredT_ok 69 #[.pointer (some ⟨w.heap.size, 0, none⟩)] _ _ _ _ _ _ _ (fun W => by kernel_rfl) (fun W hW => cNumber_2 p q W w.heap.size (BoxAt.below (t := ⟨2, p, q, 0, false, ⟨#[]⟩⟩) boxAt_old (by simp <;> omega) hW) hp hp' hq hq')).mono ?_
  rintro e w1 ⟨rfl, hb1⟩
  have hz := hb1.size
  obtain ⟨r0, r1, r2, r3, r4, r5, rf⟩ := zcells (w2 := w1) (b := w.heap.size + 1) (heap_alloc2_new _ _ _) (by simp <;> omega) hb1
  go_wp2
  refine bodyPost_ret (v := .tuple #[numV 2 p q, .int .i64 0]) (by simp [results, Tryz.results20, go_sem, r0, r1, r2, r3, r4, r5]) rfl ⟨rfl, ?_⟩
  (repeat refine Below.setCell ?_ (by simp) _)
  exact below_then (by go_grown) hb1 (by simp <;> omega)

set_option maxHeartbeats 400000 in
theorem Number_3 (p : Int) (w : World) (hp : 1 ≤ p) (hp' : p ≤ 15) :
    Calls Tryz.prog 20 #[tyV 3 p 0 0 false ⟨#[]⟩] w fun e w' => e = .returned (.tuple #[numV 3 p 0, .int .i64 0]) ∧ Below w.heap.size w w' := by
  have hmf : ∀ (fn : Fn) (first cap : Array Value) (w : World), (Instr.makeFunc fn first cap).run Tryz.prog w = .ok (.func fn first cap) w := fun _ _ _ _ => rfl
  go_enter Tryz.func20, Tryz.ntmps20
  go_wp2_with fail
  go_at_call 55
  refine (answeredT_ok 69 #[.pointer (some ⟨w.heap.size, 0, none⟩)] _ _ _ _ _ _ _ (fun W => by kernel_rfl) (fun W hW => cNumber_3 p W w.heap.size (BoxAt.below (t := ⟨3, p, 0, 0, false, ⟨#[]⟩⟩) boxAt_old (by simp <;> omega) hW) hp hp')).mono ?_
  rintro e w1 ⟨rfl, hb1⟩
  have hz := hb1.size
  obtain ⟨r0, r1, r2, r3, r4, r5, rf⟩ := zcells (w2 := w1) (b := w.heap.size + 1) (heap_alloc2_new _ _ _) (by simp <;> omega) hb1
  go_wp2
  refine bodyPost_ret (v := .tuple #[numV 3 p 0, .int .i64 0]) (by simp [results, Tryz.results20, go_sem, r0, r1, r2, r3, r4, r5]) rfl ⟨rfl, ?_⟩
  (repeat refine Below.setCell ?_ (by simp) _)
  exact below_then (by go_grown) hb1 (by simp <;> omega)

set_option maxHeartbeats 400000 in
theorem Number_s4 (p q n : Int) (vy : Bool) (pic : ByteArray) (w : World) (hs : pic.size ≤ maxLen) (hv : (Ty.mk 4 p q n vy pic).ok = true) :
    Calls Tryz.prog 20 #[tyV 4 p q n vy pic] w fun e w' => e = .returned (.tuple #[numV 2 15 0, .int .i64 0]) ∧ Below w.heap.size w w' := by
  have hmf : ∀ (fn : Fn) (first cap : Array Value) (w : World), (Instr.makeFunc fn first cap).run Tryz.prog w = .ok (.func fn first cap) w := fun _ _ _ _ => rfl
  go_enter Tryz.func20, Tryz.ntmps20
  go_wp2_with fail
  go_at_call 55
  refine (answeredT_ok 69 #[.pointer (some ⟨w.heap.size, 0, none⟩)] _ _ _ _ _ _ _ (fun W => by kernel_rfl) (fun W hW => cNumber_4 p q n vy pic W w.heap.size (BoxAt.below (t := ⟨4, p, q, n, vy, pic⟩) boxAt_old (by simp <;> omega) hW) hs hv)).mono ?_
  rintro e w1 ⟨rfl, hb1⟩
  have hz := hb1.size
  obtain ⟨r0, r1, r2, r3, r4, r5, rf⟩ := zcells (w2 := w1) (b := w.heap.size + 1) (heap_alloc2_new _ _ _) (by simp <;> omega) hb1
  go_wp2
  refine bodyPost_ret (v := .tuple #[numV 2 15 0, .int .i64 0]) (by simp [results, Tryz.results20, go_sem, r0, r1, r2, r3, r4, r5]) rfl ⟨rfl, ?_⟩
  (repeat refine Below.setCell ?_ (by simp) _)
  exact below_then (by go_grown) hb1 (by simp <;> omega)

set_option maxHeartbeats 400000 in
theorem Number_s5 (p q n : Int) (vy : Bool) (pic : ByteArray) (w : World) (hs : pic.size ≤ maxLen) (hv : (Ty.mk 5 p q n vy pic).ok = true) :
    Calls Tryz.prog 20 #[tyV 5 p q n vy pic] w fun e w' => e = .returned (.tuple #[numV 1 31 0, .int .i64 0]) ∧ Below w.heap.size w w' := by
  have hmf : ∀ (fn : Fn) (first cap : Array Value) (w : World), (Instr.makeFunc fn first cap).run Tryz.prog w = .ok (.func fn first cap) w := fun _ _ _ _ => rfl
  go_enter Tryz.func20, Tryz.ntmps20
  go_wp2_with fail
  go_at_call 55
  refine (answeredT_ok 69 #[.pointer (some ⟨w.heap.size, 0, none⟩)] _ _ _ _ _ _ _ (fun W => by kernel_rfl) (fun W hW => cNumber_5 p q n vy pic W w.heap.size (BoxAt.below (t := ⟨5, p, q, n, vy, pic⟩) boxAt_old (by simp <;> omega) hW) hs hv)).mono ?_
  rintro e w1 ⟨rfl, hb1⟩
  have hz := hb1.size
  obtain ⟨r0, r1, r2, r3, r4, r5, rf⟩ := zcells (w2 := w1) (b := w.heap.size + 1) (heap_alloc2_new _ _ _) (by simp <;> omega) hb1
  go_wp2
  refine bodyPost_ret (v := .tuple #[numV 1 31 0, .int .i64 0]) (by simp [results, Tryz.results20, go_sem, r0, r1, r2, r3, r4, r5]) rfl ⟨rfl, ?_⟩
  (repeat refine Below.setCell ?_ (by simp) _)
  exact below_then (by go_grown) hb1 (by simp <;> omega)

set_option maxHeartbeats 400000 in
theorem Negated_1 (p q : Int) (w : World) (hp : 1 ≤ p) (hp' : p ≤ 31) (hq : 0 ≤ q) (hq' : q ≤ 31) :
    Calls Tryz.prog 22 #[tyV 1 p q 0 false ⟨#[]⟩] w fun e w' => e = .returned (.tuple #[numV 1 p q, .int .i64 0]) ∧ Below w.heap.size w w' := by
  have hmf : ∀ (fn : Fn) (first cap : Array Value) (w : World), (Instr.makeFunc fn first cap).run Tryz.prog w = .ok (.func fn first cap) w := fun _ _ _ _ => rfl
  go_enter Tryz.func22, Tryz.ntmps22
  go_wp2_with fail
  go_at_call 55
  refine (answeredT_ok 72 #[.pointer (some ⟨w.heap.size, 0, none⟩)] _ _ _ _ _ _ _ (fun W => by kernel_rfl) (fun W hW => cNegated_1 p q W w.heap.size (BoxAt.below (t := ⟨1, p, q, 0, false, ⟨#[]⟩⟩) boxAt_old (by simp <;> omega) hW) hp hp' hq hq')).mono ?_
  rintro e w1 ⟨rfl, hb1⟩
  have hz := hb1.size
  obtain ⟨r0, r1, r2, r3, r4, r5, rf⟩ := zcells (w2 := w1) (b := w.heap.size + 1) (heap_alloc2_new _ _ _) (by simp <;> omega) hb1
  go_wp2
  refine bodyPost_ret (v := .tuple #[numV 1 p q, .int .i64 0]) (by simp [results, Tryz.results22, go_sem, r0, r1, r2, r3, r4, r5]) rfl ⟨rfl, ?_⟩
  (repeat refine Below.setCell ?_ (by simp) _)
  exact below_then (by go_grown) hb1 (by simp <;> omega)

set_option maxHeartbeats 400000 in
theorem Negated_2 (p q : Int) (w : World) (hp : 1 ≤ p) (hp' : p ≤ 15) (hq : 0 ≤ q) (hq' : q ≤ 31) :
    Calls Tryz.prog 22 #[tyV 2 p q 0 false ⟨#[]⟩] w fun e w' => e = .returned (.tuple #[numV 2 p q, .int .i64 0]) ∧ Below w.heap.size w w' := by
  have hmf : ∀ (fn : Fn) (first cap : Array Value) (w : World), (Instr.makeFunc fn first cap).run Tryz.prog w = .ok (.func fn first cap) w := fun _ _ _ _ => rfl
  go_enter Tryz.func22, Tryz.ntmps22
  go_wp2_with fail
  go_at_call 55
  refine (answeredT_ok 72 #[.pointer (some ⟨w.heap.size, 0, none⟩)] _ _ _ _ _ _ _ (fun W => by kernel_rfl) (fun W hW => cNegated_2 p q W w.heap.size (BoxAt.below (t := ⟨2, p, q, 0, false, ⟨#[]⟩⟩) boxAt_old (by simp <;> omega) hW) hp hp' hq hq')).mono ?_
  rintro e w1 ⟨rfl, hb1⟩
  have hz := hb1.size
  obtain ⟨r0, r1, r2, r3, r4, r5, rf⟩ := zcells (w2 := w1) (b := w.heap.size + 1) (heap_alloc2_new _ _ _) (by simp <;> omega) hb1
  go_wp2
  refine bodyPost_ret (v := .tuple #[numV 2 p q, .int .i64 0]) (by simp [results, Tryz.results22, go_sem, r0, r1, r2, r3, r4, r5]) rfl ⟨rfl, ?_⟩
  (repeat refine Below.setCell ?_ (by simp) _)
  exact below_then (by go_grown) hb1 (by simp <;> omega)

set_option maxHeartbeats 400000 in
theorem Negated_3 (p : Int) (w : World) (hp : 1 ≤ p) (hp' : p ≤ 15) :
    Calls Tryz.prog 22 #[tyV 3 p 0 0 false ⟨#[]⟩] w fun e w' => e = .returned (.tuple #[numV 3 p 0, .int .i64 0]) ∧ Below w.heap.size w w' := by
  have hmf : ∀ (fn : Fn) (first cap : Array Value) (w : World), (Instr.makeFunc fn first cap).run Tryz.prog w = .ok (.func fn first cap) w := fun _ _ _ _ => rfl
  go_enter Tryz.func22, Tryz.ntmps22
  go_wp2_with fail
  go_at_call 55
  refine (answeredT_ok 72 #[.pointer (some ⟨w.heap.size, 0, none⟩)] _ _ _ _ _ _ _ (fun W => by kernel_rfl) (fun W hW => cNegated_3 p W w.heap.size (BoxAt.below (t := ⟨3, p, 0, 0, false, ⟨#[]⟩⟩) boxAt_old (by simp <;> omega) hW) hp hp')).mono ?_
  rintro e w1 ⟨rfl, hb1⟩
  have hz := hb1.size
  obtain ⟨r0, r1, r2, r3, r4, r5, rf⟩ := zcells (w2 := w1) (b := w.heap.size + 1) (heap_alloc2_new _ _ _) (by simp <;> omega) hb1
  go_wp2
  refine bodyPost_ret (v := .tuple #[numV 3 p 0, .int .i64 0]) (by simp [results, Tryz.results22, go_sem, r0, r1, r2, r3, r4, r5]) rfl ⟨rfl, ?_⟩
  (repeat refine Below.setCell ?_ (by simp) _)
  exact below_then (by go_grown) hb1 (by simp <;> omega)

set_option maxHeartbeats 400000 in
theorem Number_10n (k p q n : Int) (vy : Bool) (pic : ByteArray) (w : World) (hs : pic.size ≤ maxLen) (hv : (Ty.mk k p q n vy pic).ok = true) (hk : 6 ≤ k) :
    Calls Tryz.prog 20 #[tyV k p q n vy pic] w fun e w' => e = .returned (.tuple #[numV 0 0 0, .int .i64 10]) ∧ Below w.heap.size w w' := by
  have hmf : ∀ (fn : Fn) (first cap : Array Value) (w : World), (Instr.makeFunc fn first cap).run Tryz.prog w = .ok (.func fn first cap) w := fun _ _ _ _ => rfl
  go_enter Tryz.func20, Tryz.ntmps20
  go_wp2_with fail
  go_at_call 55
  refine (answeredT_no 69 #[.pointer (some ⟨w.heap.size, 0, none⟩)] 10 _ (fun W => by kernel_rfl) (fun W hW => cNumber_10 k p q n vy pic W w.heap.size (BoxAt.below (t := ⟨k, p, q, n, vy, pic⟩) boxAt_old (by simp <;> omega) hW) hs hv hk)).mono ?_
  rintro e w1 ⟨rfl, hb1⟩
  have hz := hb1.size
  obtain ⟨r0, r1, r2, r3, r4, r5, rf⟩ := zcells (w2 := w1) (b := w.heap.size + 1) (heap_alloc2_new _ _ _) (by simp <;> omega) hb1
  go_wp2
  refine bodyPost_ret (v := .tuple #[numV 0 0 0, .int .i64 10]) (by simp [results, Tryz.results20, go_sem, r0, r1, r2, r3, r4, r5]) rfl ⟨rfl, ?_⟩
  (repeat refine Below.setCell ?_ (by simp) _)
  exact below_then (by go_grown) hb1 (by simp <;> omega)

set_option maxHeartbeats 400000 in
theorem Binary_3 (p : Int) (w : World) (hp : 1 ≤ p) (hp' : p ≤ 15) :
    Calls Tryz.prog 13 #[tyV 3 p 0 0 false ⟨#[]⟩] w fun e w' => e = .returned (.tuple #[numV 0 0 0, .int .i64 10]) ∧ Below w.heap.size w w' := by
  have hmf : ∀ (fn : Fn) (first cap : Array Value) (w : World), (Instr.makeFunc fn first cap).run Tryz.prog w = .ok (.func fn first cap) w := fun _ _ _ _ => rfl
  go_enter Tryz.func13, Tryz.ntmps13
  go_wp2_with fail
  go_at_call 55
  refine (answeredT_no 56 #[.pointer (some ⟨w.heap.size, 0, none⟩)] 10 _ (fun W => by kernel_rfl) (fun W hW => cBinary_3 p W w.heap.size (BoxAt.below (t := ⟨3, p, 0, 0, false, ⟨#[]⟩⟩) boxAt_old (by simp <;> omega) hW) hp hp')).mono ?_
  rintro e w1 ⟨rfl, hb1⟩
  have hz := hb1.size
  obtain ⟨r0, r1, r2, r3, r4, r5, rf⟩ := zcells (w2 := w1) (b := w.heap.size + 1) (heap_alloc2_new _ _ _) (by simp <;> omega) hb1
  go_wp2
  refine bodyPost_ret (v := .tuple #[numV 0 0 0, .int .i64 10]) (by simp [results, Tryz.results13, go_sem, r0, r1, r2, r3, r4, r5]) rfl ⟨rfl, ?_⟩
  (repeat refine Below.setCell ?_ (by simp) _)
  exact below_then (by go_grown) hb1 (by simp <;> omega)

set_option maxHeartbeats 400000 in
theorem Decimal_3 (p : Int) (w : World) (hp : 1 ≤ p) (hp' : p ≤ 15) :
    Calls Tryz.prog 15 #[tyV 3 p 0 0 false ⟨#[]⟩] w fun e w' => e = .returned (.tuple #[numV 0 0 0, .int .i64 10]) ∧ Below w.heap.size w w' := by
  have hmf : ∀ (fn : Fn) (first cap : Array Value) (w : World), (Instr.makeFunc fn first cap).run Tryz.prog w = .ok (.func fn first cap) w := fun _ _ _ _ => rfl
  go_enter Tryz.func15, Tryz.ntmps15
  go_wp2_with fail
  go_at_call 55
  refine (answeredT_no 61 #[.pointer (some ⟨w.heap.size, 0, none⟩)] 10 _ (fun W => by kernel_rfl) (fun W hW => cDecimal_3 p W w.heap.size (BoxAt.below (t := ⟨3, p, 0, 0, false, ⟨#[]⟩⟩) boxAt_old (by simp <;> omega) hW) hp hp')).mono ?_
  rintro e w1 ⟨rfl, hb1⟩
  have hz := hb1.size
  obtain ⟨r0, r1, r2, r3, r4, r5, rf⟩ := zcells (w2 := w1) (b := w.heap.size + 1) (heap_alloc2_new _ _ _) (by simp <;> omega) hb1
  go_wp2
  refine bodyPost_ret (v := .tuple #[numV 0 0 0, .int .i64 10]) (by simp [results, Tryz.results15, go_sem, r0, r1, r2, r3, r4, r5]) rfl ⟨rfl, ?_⟩
  (repeat refine Below.setCell ?_ (by simp) _)
  exact below_then (by go_grown) hb1 (by simp <;> omega)


theorem heap_alloc3_new (w : World) (A B C : Obj) : (((w.alloc A).alloc B).alloc C).heap[w.heap.size + 1 + 1]? = some C := by
  have h := heap_alloc_last ((w.alloc A).alloc B) C
  rwa [World.size_alloc, World.size_alloc] at h
theorem heap_alloc3_mid (w : World) (A B C : Obj) : (((w.alloc A).alloc B).alloc C).heap[w.heap.size + 1]? = some B := by
  rw [Go.heap_alloc_old _ _ (by simp)]
  exact heap_alloc2_new _ _ _
theorem heap_alloc3_old (w : World) (A B C : Obj) : (((w.alloc A).alloc B).alloc C).heap[w.heap.size]? = some A := by
  rw [Go.heap_alloc_old _ _ (by simp <;> omega)]
  exact heap_alloc2_old _ _ _

set_option maxHeartbeats 400000 in
theorem refBinary_13 (k p q n : Int) (vy : Bool) (pic : ByteArray) (w : World) (hs : pic.size ≤ maxLen) (hv : (Ty.mk k p q n vy pic).ok = false) :
    Calls Tryz.prog 14 #[tyV k p q n vy pic] w fun e w' => e = .returned (.tuple #[numV 0 0 0, .int .i64 13]) ∧ Below w.heap.size w w' := by
  have HV := Lib.hid hv; have HS := Lib.hid hs
  clear hv hs
  go_enter Tryz.func14, Tryz.ntmps14
  go_wp2_with fail
  go_at_call 59
  refine (asked_13 [⟨k, p, q, n, vy, pic⟩] (w.heap.size + 1 + 1) 0 1 _ (TysAt_one (heap_alloc3_new _ _ _ _)) (by simp) (by simp) (pic1 HS.out) (nall1 HV.out)).mono ?_
  rintro e w1 ⟨rfl, hb1⟩
  obtain ⟨hc, hf⟩ := bcell hb1
  have hz := hb1.size
  obtain ⟨r0, r1, r2, r3, r4, r5, rf⟩ := zcells (w2 := w1) (b := w.heap.size + 1) (heap_alloc3_mid _ _ _ _) (by simp <;> omega) hb1
  go_wp2
  refine bodyPost_ret (v := .tuple #[numV 0 0 0, .int .i64 13]) (by simp [results, Tryz.results14, go_sem, r0, r1, r2, r3, r4, r5]) rfl ⟨rfl, ?_⟩
  (repeat refine Below.setCell ?_ (by simp) _)
  exact below_then (by go_grown) hb1 (by simp <;> omega)

set_option maxHeartbeats 400000 in
theorem refBinary_10 (k p q n : Int) (vy : Bool) (pic : ByteArray) (w : World) (hs : pic.size ≤ maxLen) (hv : (Ty.mk k p q n vy pic).ok = true) (hn : (Ty.mk k p q n vy pic).num = false) :
    Calls Tryz.prog 14 #[tyV k p q n vy pic] w fun e w' => e = .returned (.tuple #[numV 0 0 0, .int .i64 10]) ∧ Below w.heap.size w w' := by
  have HV := Lib.hid hv; have HS := Lib.hid hs; have HN := Lib.hid hn
  clear hv hs hn
  go_enter Tryz.func14, Tryz.ntmps14
  go_wp2_with fail
  go_at_call 59
  refine (asked_10 [⟨k, p, q, n, vy, pic⟩] (w.heap.size + 1 + 1) 0 1 _ (TysAt_one (heap_alloc3_new _ _ _ _)) (by simp) (by simp) (pic1 HS.out) (all1 HV.out) (nall1 HN.out)).mono ?_
  rintro e w1 ⟨rfl, hb1⟩
  obtain ⟨hc, hf⟩ := bcell hb1
  have hz := hb1.size
  obtain ⟨r0, r1, r2, r3, r4, r5, rf⟩ := zcells (w2 := w1) (b := w.heap.size + 1) (heap_alloc3_mid _ _ _ _) (by simp <;> omega) hb1
  go_wp2
  refine bodyPost_ret (v := .tuple #[numV 0 0 0, .int .i64 10]) (by simp [results, Tryz.results14, go_sem, r0, r1, r2, r3, r4, r5]) rfl ⟨rfl, ?_⟩
  (repeat refine Below.setCell ?_ (by simp) _)
  exact below_then (by go_grown) hb1 (by simp <;> omega)

set_option maxHeartbeats 400000 in
theorem refDecimal_13 (k p q n : Int) (vy : Bool) (pic : ByteArray) (w : World) (hs : pic.size ≤ maxLen) (hv : (Ty.mk k p q n vy pic).ok = false) :
    Calls Tryz.prog 16 #[tyV k p q n vy pic] w fun e w' => e = .returned (.tuple #[numV 0 0 0, .int .i64 13]) ∧ Below w.heap.size w w' := by
  have HV := Lib.hid hv; have HS := Lib.hid hs
  clear hv hs
  go_enter Tryz.func16, Tryz.ntmps16
  go_wp2_with fail
  go_at_call 59
  refine (asked_13 [⟨k, p, q, n, vy, pic⟩] (w.heap.size + 1 + 1) 0 1 _ (TysAt_one (heap_alloc3_new _ _ _ _)) (by simp) (by simp) (pic1 HS.out) (nall1 HV.out)).mono ?_
  rintro e w1 ⟨rfl, hb1⟩
  obtain ⟨hc, hf⟩ := bcell hb1
  have hz := hb1.size
  obtain ⟨r0, r1, r2, r3, r4, r5, rf⟩ := zcells (w2 := w1) (b := w.heap.size + 1) (heap_alloc3_mid _ _ _ _) (by simp <;> omega) hb1
  go_wp2
  refine bodyPost_ret (v := .tuple #[numV 0 0 0, .int .i64 13]) (by simp [results, Tryz.results16, go_sem, r0, r1, r2, r3, r4, r5]) rfl ⟨rfl, ?_⟩
  (repeat refine Below.setCell ?_ (by simp) _)
  exact below_then (by go_grown) hb1 (by simp <;> omega)

set_option maxHeartbeats 400000 in
theorem refDecimal_10 (k p q n : Int) (vy : Bool) (pic : ByteArray) (w : World) (hs : pic.size ≤ maxLen) (hv : (Ty.mk k p q n vy pic).ok = true) (hn : (Ty.mk k p q n vy pic).num = false) :
    Calls Tryz.prog 16 #[tyV k p q n vy pic] w fun e w' => e = .returned (.tuple #[numV 0 0 0, .int .i64 10]) ∧ Below w.heap.size w w' := by
  have HV := Lib.hid hv; have HS := Lib.hid hs; have HN := Lib.hid hn
  clear hv hs hn
  go_enter Tryz.func16, Tryz.ntmps16
  go_wp2_with fail
  go_at_call 59
  refine (asked_10 [⟨k, p, q, n, vy, pic⟩] (w.heap.size + 1 + 1) 0 1 _ (TysAt_one (heap_alloc3_new _ _ _ _)) (by simp) (by simp) (pic1 HS.out) (all1 HV.out) (nall1 HN.out)).mono ?_
  rintro e w1 ⟨rfl, hb1⟩
  obtain ⟨hc, hf⟩ := bcell hb1
  have hz := hb1.size
  obtain ⟨r0, r1, r2, r3, r4, r5, rf⟩ := zcells (w2 := w1) (b := w.heap.size + 1) (heap_alloc3_mid _ _ _ _) (by simp <;> omega) hb1
  go_wp2
  refine bodyPost_ret (v := .tuple #[numV 0 0 0, .int .i64 10]) (by simp [results, Tryz.results16, go_sem, r0, r1, r2, r3, r4, r5]) rfl ⟨rfl, ?_⟩
  (repeat refine Below.setCell ?_ (by simp) _)
  exact below_then (by go_grown) hb1 (by simp <;> omega)

set_option maxHeartbeats 400000 in
theorem refFloat_13 (k p q n : Int) (vy : Bool) (pic : ByteArray) (w : World) (hs : pic.size ≤ maxLen) (hv : (Ty.mk k p q n vy pic).ok = false) :
    Calls Tryz.prog 19 #[tyV k p q n vy pic] w fun e w' => e = .returned (.tuple #[numV 0 0 0, .int .i64 13]) ∧ Below w.heap.size w w' := by
  have HV := Lib.hid hv; have HS := Lib.hid hs
  clear hv hs
  go_enter Tryz.func19, Tryz.ntmps19
  go_wp2_with fail
  go_at_call 59
  refine (asked_13 [⟨k, p, q, n, vy, pic⟩] (w.heap.size + 1 + 1) 0 1 _ (TysAt_one (heap_alloc3_new _ _ _ _)) (by simp) (by simp) (pic1 HS.out) (nall1 HV.out)).mono ?_
  rintro e w1 ⟨rfl, hb1⟩
  obtain ⟨hc, hf⟩ := bcell hb1
  have hz := hb1.size
  obtain ⟨r0, r1, r2, r3, r4, r5, rf⟩ := zcells (w2 := w1) (b := w.heap.size + 1) (heap_alloc3_mid _ _ _ _) (by simp <;> omega) hb1
  go_wp2
  refine bodyPost_ret (v := .tuple #[numV 0 0 0, .int .i64 13]) (by simp [results, Tryz.results19, go_sem, r0, r1, r2, r3, r4, r5]) rfl ⟨rfl, ?_⟩
  (repeat refine Below.setCell ?_ (by simp) _)
  exact below_then (by go_grown) hb1 (by simp <;> omega)

set_option maxHeartbeats 400000 in
theorem refFloat_10 (k p q n : Int) (vy : Bool) (pic : ByteArray) (w : World) (hs : pic.size ≤ maxLen) (hv : (Ty.mk k p q n vy pic).ok = true) (hn : (Ty.mk k p q n vy pic).num = false) :
    Calls Tryz.prog 19 #[tyV k p q n vy pic] w fun e w' => e = .returned (.tuple #[numV 0 0 0, .int .i64 10]) ∧ Below w.heap.size w w' := by
  have HV := Lib.hid hv; have HS := Lib.hid hs; have HN := Lib.hid hn
  clear hv hs hn
  go_enter Tryz.func19, Tryz.ntmps19
  go_wp2_with fail
  go_at_call 59
  refine (asked_10 [⟨k, p, q, n, vy, pic⟩] (w.heap.size + 1 + 1) 0 1 _ (TysAt_one (heap_alloc3_new _ _ _ _)) (by simp) (by simp) (pic1 HS.out) (all1 HV.out) (nall1 HN.out)).mono ?_
  rintro e w1 ⟨rfl, hb1⟩
  obtain ⟨hc, hf⟩ := bcell hb1
  have hz := hb1.size
  obtain ⟨r0, r1, r2, r3, r4, r5, rf⟩ := zcells (w2 := w1) (b := w.heap.size + 1) (heap_alloc3_mid _ _ _ _) (by simp <;> omega) hb1
  go_wp2
  refine bodyPost_ret (v := .tuple #[numV 0 0 0, .int .i64 10]) (by simp [results, Tryz.results19, go_sem, r0, r1, r2, r3, r4, r5]) rfl ⟨rfl, ?_⟩
  (repeat refine Below.setCell ?_ (by simp) _)
  exact below_then (by go_grown) hb1 (by simp <;> omega)

set_option maxHeartbeats 400000 in
theorem refNegated_13 (k p q n : Int) (vy : Bool) (pic : ByteArray) (w : World) (hs : pic.size ≤ maxLen) (hv : (Ty.mk k p q n vy pic).ok = false) :
    Calls Tryz.prog 23 #[tyV k p q n vy pic] w fun e w' => e = .returned (.tuple #[numV 0 0 0, .int .i64 13]) ∧ Below w.heap.size w w' := by
  have HV := Lib.hid hv; have HS := Lib.hid hs
  clear hv hs
  go_enter Tryz.func23, Tryz.ntmps23
  go_wp2_with fail
  go_at_call 59
  refine (asked_13 [⟨k, p, q, n, vy, pic⟩] (w.heap.size + 1 + 1) 0 1 _ (TysAt_one (heap_alloc3_new _ _ _ _)) (by simp) (by simp) (pic1 HS.out) (nall1 HV.out)).mono ?_
  rintro e w1 ⟨rfl, hb1⟩
  obtain ⟨hc, hf⟩ := bcell hb1
  have hz := hb1.size
  obtain ⟨r0, r1, r2, r3, r4, r5, rf⟩ := zcells (w2 := w1) (b := w.heap.size + 1) (heap_alloc3_mid _ _ _ _) (by simp <;> omega) hb1
  go_wp2
  refine bodyPost_ret (v := .tuple #[numV 0 0 0, .int .i64 13]) (by simp [results, Tryz.results23, go_sem, r0, r1, r2, r3, r4, r5]) rfl ⟨rfl, ?_⟩
  (repeat refine Below.setCell ?_ (by simp) _)
  exact below_then (by go_grown) hb1 (by simp <;> omega)

set_option maxHeartbeats 400000 in
theorem refNegated_10 (k p q n : Int) (vy : Bool) (pic : ByteArray) (w : World) (hs : pic.size ≤ maxLen) (hv : (Ty.mk k p q n vy pic).ok = true) (hn : (Ty.mk k p q n vy pic).num = false) :
    Calls Tryz.prog 23 #[tyV k p q n vy pic] w fun e w' => e = .returned (.tuple #[numV 0 0 0, .int .i64 10]) ∧ Below w.heap.size w w' := by
  have HV := Lib.hid hv; have HS := Lib.hid hs; have HN := Lib.hid hn
  clear hv hs hn
  go_enter Tryz.func23, Tryz.ntmps23
  go_wp2_with fail
  go_at_call 59
  refine (asked_10 [⟨k, p, q, n, vy, pic⟩] (w.heap.size + 1 + 1) 0 1 _ (TysAt_one (heap_alloc3_new _ _ _ _)) (by simp) (by simp) (pic1 HS.out) (all1 HV.out) (nall1 HN.out)).mono ?_
  rintro e w1 ⟨rfl, hb1⟩
  obtain ⟨hc, hf⟩ := bcell hb1
  have hz := hb1.size
  obtain ⟨r0, r1, r2, r3, r4, r5, rf⟩ := zcells (w2 := w1) (b := w.heap.size + 1) (heap_alloc3_mid _ _ _ _) (by simp <;> omega) hb1
  go_wp2
  refine bodyPost_ret (v := .tuple #[numV 0 0 0, .int .i64 10]) (by simp [results, Tryz.results23, go_sem, r0, r1, r2, r3, r4, r5]) rfl ⟨rfl, ?_⟩
  (repeat refine Below.setCell ?_ (by simp) _)
  exact below_then (by go_grown) hb1 (by simp <;> omega)

set_option maxHeartbeats 400000 in
theorem refBinary_3 (p : Int) (w : World) (hp : 1 ≤ p) (hp' : p ≤ 15) :
    Calls Tryz.prog 14 #[tyV 3 p 0 0 false ⟨#[]⟩] w fun e w' => e = .returned (.tuple #[numV 0 0 0, .int .i64 10]) ∧ Below w.heap.size w w' := by
  have OK := Lib.hid (ok_3 hp hp')
  go_enter Tryz.func14, Tryz.ntmps14
  go_wp2_with fail
  go_at_call 59
  refine (asked_0 [⟨3, p, 0, 0, false, ⟨#[]⟩⟩] (w.heap.size + 1 + 1) 0 1 _ (TysAt_one (heap_alloc3_new _ _ _ _)) (by simp) (by simp) (pic1 pic0) (all1 OK.out) (all1 (f := Ty.num) rfl)).mono ?_
  rintro e w1 ⟨rfl, hb1⟩
  obtain ⟨hc, hf⟩ := bcell hb1
  have hz := hb1.size
  obtain ⟨r0, r1, r2, r3, r4, r5, rf⟩ := zcells (w2 := w1) (b := w.heap.size + 1) (heap_alloc3_mid _ _ _ _) (by simp <;> omega) hb1
  go_wp2
  refine bodyPost_ret (v := .tuple #[numV 0 0 0, .int .i64 10]) (by simp [results, Tryz.results14, go_sem, r0, r1, r2, r3, r4, r5]) rfl ⟨rfl, ?_⟩
  (repeat refine Below.setCell ?_ (by simp) _)
  exact below_then (by go_grown) hb1 (by simp <;> omega)

set_option maxHeartbeats 400000 in
theorem refDecimal_3 (p : Int) (w : World) (hp : 1 ≤ p) (hp' : p ≤ 15) :
    Calls Tryz.prog 16 #[tyV 3 p 0 0 false ⟨#[]⟩] w fun e w' => e = .returned (.tuple #[numV 0 0 0, .int .i64 10]) ∧ Below w.heap.size w w' := by
  have OK := Lib.hid (ok_3 hp hp')
  go_enter Tryz.func16, Tryz.ntmps16
  go_wp2_with fail
  go_at_call 59
  refine (asked_0 [⟨3, p, 0, 0, false, ⟨#[]⟩⟩] (w.heap.size + 1 + 1) 0 1 _ (TysAt_one (heap_alloc3_new _ _ _ _)) (by simp) (by simp) (pic1 pic0) (all1 OK.out) (all1 (f := Ty.num) rfl)).mono ?_
  rintro e w1 ⟨rfl, hb1⟩
  obtain ⟨hc, hf⟩ := bcell hb1
  have hz := hb1.size
  obtain ⟨r0, r1, r2, r3, r4, r5, rf⟩ := zcells (w2 := w1) (b := w.heap.size + 1) (heap_alloc3_mid _ _ _ _) (by simp <;> omega) hb1
  go_wp2
  refine bodyPost_ret (v := .tuple #[numV 0 0 0, .int .i64 10]) (by simp [results, Tryz.results16, go_sem, r0, r1, r2, r3, r4, r5]) rfl ⟨rfl, ?_⟩
  (repeat refine Below.setCell ?_ (by simp) _)
  exact below_then (by go_grown) hb1 (by simp <;> omega)

set_option maxHeartbeats 400000 in
theorem refBinary_1 (p q : Int) (w : World) (hp : 1 ≤ p) (hp' : p ≤ 31) (hq : 0 ≤ q) (hq' : q ≤ 31) :
    Calls Tryz.prog 14 #[tyV 1 p q 0 false ⟨#[]⟩] w fun e w' => e = .returned (.tuple #[numV 1 p q, .int .i64 0]) ∧ Below w.heap.size w w' := by
  have OK := Lib.hid (ok_1 hp hp' hq hq')
  go_enter Tryz.func14, Tryz.ntmps14
  go_wp2_with fail
  go_at_call 59
  refine (asked_0 [⟨1, p, q, 0, false, ⟨#[]⟩⟩] (w.heap.size + 1 + 1) 0 1 _ (TysAt_one (heap_alloc3_new _ _ _ _)) (by simp) (by simp) (pic1 pic0) (all1 OK.out) (all1 (f := Ty.num) rfl)).mono ?_
  rintro e w1 ⟨rfl, hb1⟩
  obtain ⟨hc, hf⟩ := bcell hb1
  have hz := hb1.size
  obtain ⟨r0, r1, r2, r3, r4, r5, rf⟩ := zcells (w2 := w1) (b := w.heap.size + 1) (heap_alloc3_mid _ _ _ _) (by simp <;> omega) hb1
  go_wp2_with fail
  go_at_call 60
  refine (bin_1 _ _ _).mono ?_
  rintro e w2 ⟨rfl, hb2⟩
  have hz2 := hb2.size
  clear r0 r1 r2 r3 r4 r5 rf
  obtain ⟨r0, r1, r2, r3, r4, r5, rf⟩ := zcells (w2 := w2) (b := w.heap.size + 1) (heap_alloc3_mid _ _ _ _) (by simp <;> omega) (below_then hb1 hb2 hz)
  go_wp2
  refine bodyPost_ret (v := .tuple #[numV 1 p q, .int .i64 0]) (by simp [results, Tryz.results14, go_sem, r0, r1, r2, r3, r4, r5]) rfl ⟨rfl, ?_⟩
  (repeat refine Below.setCell ?_ (by simp) _)
  exact below_then (below_then (by go_grown) hb1 (by simp <;> omega)) hb2 (by simp at hz <;> omega)

set_option maxHeartbeats 400000 in
theorem refBinary_2 (p q : Int) (w : World) (hp : 1 ≤ p) (hp' : p ≤ 15) (hq : 0 ≤ q) (hq' : q ≤ 31) :
    Calls Tryz.prog 14 #[tyV 2 p q 0 false ⟨#[]⟩] w fun e w' => e = .returned (.tuple #[numV 1 (bP p) (bQ q), .int .i64 0]) ∧ Below w.heap.size w w' := by
  have OK := Lib.hid (ok_2 hp hp' hq hq')
  go_enter Tryz.func14, Tryz.ntmps14
  go_wp2_with fail
  go_at_call 59
  refine (asked_0 [⟨2, p, q, 0, false, ⟨#[]⟩⟩] (w.heap.size + 1 + 1) 0 1 _ (TysAt_one (heap_alloc3_new _ _ _ _)) (by simp) (by simp) (pic1 pic0) (all1 OK.out) (all1 (f := Ty.num) rfl)).mono ?_
  rintro e w1 ⟨rfl, hb1⟩
  obtain ⟨hc, hf⟩ := bcell hb1
  have hz := hb1.size
  obtain ⟨r0, r1, r2, r3, r4, r5, rf⟩ := zcells (w2 := w1) (b := w.heap.size + 1) (heap_alloc3_mid _ _ _ _) (by simp <;> omega) hb1
  go_wp2_with fail
  go_at_call 60
  refine (bin_2 _ _ _ (by omega) (by omega) (by omega) (by omega)).mono ?_
  rintro e w2 ⟨rfl, hb2⟩
  have hz2 := hb2.size
  clear r0 r1 r2 r3 r4 r5 rf
  obtain ⟨r0, r1, r2, r3, r4, r5, rf⟩ := zcells (w2 := w2) (b := w.heap.size + 1) (heap_alloc3_mid _ _ _ _) (by simp <;> omega) (below_then hb1 hb2 hz)
  go_wp2
  refine bodyPost_ret (v := .tuple #[numV 1 (bP p) (bQ q), .int .i64 0]) (by simp [results, Tryz.results14, go_sem, r0, r1, r2, r3, r4, r5]) rfl ⟨rfl, ?_⟩
  (repeat refine Below.setCell ?_ (by simp) _)
  exact below_then (below_then (by go_grown) hb1 (by simp <;> omega)) hb2 (by simp at hz <;> omega)

set_option maxHeartbeats 400000 in
theorem refDecimal_2 (p q : Int) (w : World) (hp : 1 ≤ p) (hp' : p ≤ 15) (hq : 0 ≤ q) (hq' : q ≤ 31) :
    Calls Tryz.prog 16 #[tyV 2 p q 0 false ⟨#[]⟩] w fun e w' => e = .returned (.tuple #[numV 2 p q, .int .i64 0]) ∧ Below w.heap.size w w' := by
  have OK := Lib.hid (ok_2 hp hp' hq hq')
  go_enter Tryz.func16, Tryz.ntmps16
  go_wp2_with fail
  go_at_call 59
  refine (asked_0 [⟨2, p, q, 0, false, ⟨#[]⟩⟩] (w.heap.size + 1 + 1) 0 1 _ (TysAt_one (heap_alloc3_new _ _ _ _)) (by simp) (by simp) (pic1 pic0) (all1 OK.out) (all1 (f := Ty.num) rfl)).mono ?_
  rintro e w1 ⟨rfl, hb1⟩
  obtain ⟨hc, hf⟩ := bcell hb1
  have hz := hb1.size
  obtain ⟨r0, r1, r2, r3, r4, r5, rf⟩ := zcells (w2 := w1) (b := w.heap.size + 1) (heap_alloc3_mid _ _ _ _) (by simp <;> omega) hb1
  go_wp2_with fail
  go_at_call 63
  refine (dec_2 _ _ _).mono ?_
  rintro e w2 ⟨rfl, hb2⟩
  have hz2 := hb2.size
  clear r0 r1 r2 r3 r4 r5 rf
  obtain ⟨r0, r1, r2, r3, r4, r5, rf⟩ := zcells (w2 := w2) (b := w.heap.size + 1) (heap_alloc3_mid _ _ _ _) (by simp <;> omega) (below_then hb1 hb2 hz)
  go_wp2
  refine bodyPost_ret (v := .tuple #[numV 2 p q, .int .i64 0]) (by simp [results, Tryz.results16, go_sem, r0, r1, r2, r3, r4, r5]) rfl ⟨rfl, ?_⟩
  (repeat refine Below.setCell ?_ (by simp) _)
  exact below_then (below_then (by go_grown) hb1 (by simp <;> omega)) hb2 (by simp at hz <;> omega)

set_option maxHeartbeats 400000 in
theorem refDecimal_1 (p q : Int) (w : World) (hp : 1 ≤ p) (hp' : p ≤ 31) (hq : 0 ≤ q) (hq' : q ≤ 31) :
    Calls Tryz.prog 16 #[tyV 1 p q 0 false ⟨#[]⟩] w fun e w' => e = .returned (.tuple #[numV 2 (dP p) (dQ q), .int .i64 0]) ∧ Below w.heap.size w w' := by
  have OK := Lib.hid (ok_1 hp hp' hq hq')
  go_enter Tryz.func16, Tryz.ntmps16
  go_wp2_with fail
  go_at_call 59
  refine (asked_0 [⟨1, p, q, 0, false, ⟨#[]⟩⟩] (w.heap.size + 1 + 1) 0 1 _ (TysAt_one (heap_alloc3_new _ _ _ _)) (by simp) (by simp) (pic1 pic0) (all1 OK.out) (all1 (f := Ty.num) rfl)).mono ?_
  rintro e w1 ⟨rfl, hb1⟩
  obtain ⟨hc, hf⟩ := bcell hb1
  have hz := hb1.size
  obtain ⟨r0, r1, r2, r3, r4, r5, rf⟩ := zcells (w2 := w1) (b := w.heap.size + 1) (heap_alloc3_mid _ _ _ _) (by simp <;> omega) hb1
  go_wp2_with fail
  go_at_call 63
  refine (dec_1 _ _ _ (by omega) (by omega) (by omega) (by omega)).mono ?_
  rintro e w2 ⟨rfl, hb2⟩
  have hz2 := hb2.size
  clear r0 r1 r2 r3 r4 r5 rf
  obtain ⟨r0, r1, r2, r3, r4, r5, rf⟩ := zcells (w2 := w2) (b := w.heap.size + 1) (heap_alloc3_mid _ _ _ _) (by simp <;> omega) (below_then hb1 hb2 hz)
  go_wp2
  refine bodyPost_ret (v := .tuple #[numV 2 (dP p) (dQ q), .int .i64 0]) (by simp [results, Tryz.results16, go_sem, r0, r1, r2, r3, r4, r5]) rfl ⟨rfl, ?_⟩
  (repeat refine Below.setCell ?_ (by simp) _)
  exact below_then (below_then (by go_grown) hb1 (by simp <;> omega)) hb2 (by simp at hz <;> omega)

set_option maxHeartbeats 400000 in
theorem refFloat_1 (p q : Int) (w : World) (hp : 1 ≤ p) (hp' : p ≤ 31) (hq : 0 ≤ q) (hq' : q ≤ 31) :
    Calls Tryz.prog 19 #[tyV 1 p q 0 false ⟨#[]⟩] w fun e w' => e = .returned (.tuple #[numV 3 (fP p) 0, .int .i64 0]) ∧ Below w.heap.size w w' := by
  have OK := Lib.hid (ok_1 hp hp' hq hq')
  go_enter Tryz.func19, Tryz.ntmps19
  go_wp2_with fail
  go_at_call 59
  refine (asked_0 [⟨1, p, q, 0, false, ⟨#[]⟩⟩] (w.heap.size + 1 + 1) 0 1 _ (TysAt_one (heap_alloc3_new _ _ _ _)) (by simp) (by simp) (pic1 pic0) (all1 OK.out) (all1 (f := Ty.num) rfl)).mono ?_
  rintro e w1 ⟨rfl, hb1⟩
  obtain ⟨hc, hf⟩ := bcell hb1
  have hz := hb1.size
  obtain ⟨r0, r1, r2, r3, r4, r5, rf⟩ := zcells (w2 := w1) (b := w.heap.size + 1) (heap_alloc3_mid _ _ _ _) (by simp <;> omega) hb1
  go_wp2_with fail
  go_at_call 68
  refine (rfloat_1 _ _ _ (by omega) (by omega)).mono ?_
  rintro e w2 ⟨rfl, hb2⟩
  have hz2 := hb2.size
  clear r0 r1 r2 r3 r4 r5 rf
  obtain ⟨r0, r1, r2, r3, r4, r5, rf⟩ := zcells (w2 := w2) (b := w.heap.size + 1) (heap_alloc3_mid _ _ _ _) (by simp <;> omega) (below_then hb1 hb2 hz)
  go_wp2
  refine bodyPost_ret (v := .tuple #[numV 3 (fP p) 0, .int .i64 0]) (by simp [results, Tryz.results19, go_sem, r0, r1, r2, r3, r4, r5]) rfl ⟨rfl, ?_⟩
  (repeat refine Below.setCell ?_ (by simp) _)
  exact below_then (below_then (by go_grown) hb1 (by simp <;> omega)) hb2 (by simp at hz <;> omega)

set_option maxHeartbeats 400000 in
theorem refFloat_2 (p q : Int) (w : World) (hp : 1 ≤ p) (hp' : p ≤ 15) (hq : 0 ≤ q) (hq' : q ≤ 31) :
    Calls Tryz.prog 19 #[tyV 2 p q 0 false ⟨#[]⟩] w fun e w' => e = .returned (.tuple #[numV 3 p 0, .int .i64 0]) ∧ Below w.heap.size w w' := by
  have OK := Lib.hid (ok_2 hp hp' hq hq')
  go_enter Tryz.func19, Tryz.ntmps19
  go_wp2_with fail
  go_at_call 59
  refine (asked_0 [⟨2, p, q, 0, false, ⟨#[]⟩⟩] (w.heap.size + 1 + 1) 0 1 _ (TysAt_one (heap_alloc3_new _ _ _ _)) (by simp) (by simp) (pic1 pic0) (all1 OK.out) (all1 (f := Ty.num) rfl)).mono ?_
  rintro e w1 ⟨rfl, hb1⟩
  obtain ⟨hc, hf⟩ := bcell hb1
  have hz := hb1.size
  obtain ⟨r0, r1, r2, r3, r4, r5, rf⟩ := zcells (w2 := w1) (b := w.heap.size + 1) (heap_alloc3_mid _ _ _ _) (by simp <;> omega) hb1
  go_wp2_with fail
  go_at_call 68
  refine (rfloat_2 _ _ _).mono ?_
  rintro e w2 ⟨rfl, hb2⟩
  have hz2 := hb2.size
  clear r0 r1 r2 r3 r4 r5 rf
  obtain ⟨r0, r1, r2, r3, r4, r5, rf⟩ := zcells (w2 := w2) (b := w.heap.size + 1) (heap_alloc3_mid _ _ _ _) (by simp <;> omega) (below_then hb1 hb2 hz)
  go_wp2
  refine bodyPost_ret (v := .tuple #[numV 3 p 0, .int .i64 0]) (by simp [results, Tryz.results19, go_sem, r0, r1, r2, r3, r4, r5]) rfl ⟨rfl, ?_⟩
  (repeat refine Below.setCell ?_ (by simp) _)
  exact below_then (below_then (by go_grown) hb1 (by simp <;> omega)) hb2 (by simp at hz <;> omega)

set_option maxHeartbeats 400000 in
theorem refFloat_3 (p : Int) (w : World) (hp : 1 ≤ p) (hp' : p ≤ 15) :
    Calls Tryz.prog 19 #[tyV 3 p 0 0 false ⟨#[]⟩] w fun e w' => e = .returned (.tuple #[numV 3 p 0, .int .i64 0]) ∧ Below w.heap.size w w' := by
  have OK := Lib.hid (ok_3 hp hp')
  go_enter Tryz.func19, Tryz.ntmps19
  go_wp2_with fail
  go_at_call 59
  refine (asked_0 [⟨3, p, 0, 0, false, ⟨#[]⟩⟩] (w.heap.size + 1 + 1) 0 1 _ (TysAt_one (heap_alloc3_new _ _ _ _)) (by simp) (by simp) (pic1 pic0) (all1 OK.out) (all1 (f := Ty.num) rfl)).mono ?_
  rintro e w1 ⟨rfl, hb1⟩
  obtain ⟨hc, hf⟩ := bcell hb1
  have hz := hb1.size
  obtain ⟨r0, r1, r2, r3, r4, r5, rf⟩ := zcells (w2 := w1) (b := w.heap.size + 1) (heap_alloc3_mid _ _ _ _) (by simp <;> omega) hb1
  go_wp2_with fail
  go_at_call 68
  refine (rfloat_3 _ _ _).mono ?_
  rintro e w2 ⟨rfl, hb2⟩
  have hz2 := hb2.size
  clear r0 r1 r2 r3 r4 r5 rf
  obtain ⟨r0, r1, r2, r3, r4, r5, rf⟩ := zcells (w2 := w2) (b := w.heap.size + 1) (heap_alloc3_mid _ _ _ _) (by simp <;> omega) (below_then hb1 hb2 hz)
  go_wp2
  refine bodyPost_ret (v := .tuple #[numV 3 p 0, .int .i64 0]) (by simp [results, Tryz.results19, go_sem, r0, r1, r2, r3, r4, r5]) rfl ⟨rfl, ?_⟩
  (repeat refine Below.setCell ?_ (by simp) _)
  exact below_then (below_then (by go_grown) hb1 (by simp <;> omega)) hb2 (by simp at hz <;> omega)

set_option maxHeartbeats 400000 in
theorem refNegated_1 (p q : Int) (w : World) (hp : 1 ≤ p) (hp' : p ≤ 31) (hq : 0 ≤ q) (hq' : q ≤ 31) :
    Calls Tryz.prog 23 #[tyV 1 p q 0 false ⟨#[]⟩] w fun e w' => e = .returned (.tuple #[numV 1 p q, .int .i64 0]) ∧ Below w.heap.size w w' := by
  have OK := Lib.hid (ok_1 hp hp' hq hq')
  go_enter Tryz.func23, Tryz.ntmps23
  go_wp2_with fail
  go_at_call 59
  refine (asked_0 [⟨1, p, q, 0, false, ⟨#[]⟩⟩] (w.heap.size + 1 + 1) 0 1 _ (TysAt_one (heap_alloc3_new _ _ _ _)) (by simp) (by simp) (pic1 pic0) (all1 OK.out) (all1 (f := Ty.num) rfl)).mono ?_
  rintro e w1 ⟨rfl, hb1⟩
  obtain ⟨hc, hf⟩ := bcell hb1
  have hz := hb1.size
  obtain ⟨r0, r1, r2, r3, r4, r5, rf⟩ := zcells (w2 := w1) (b := w.heap.size + 1) (heap_alloc3_mid _ _ _ _) (by simp <;> omega) hb1
  go_wp2
  refine bodyPost_ret (v := .tuple #[numV 1 p q, .int .i64 0]) (by simp [results, Tryz.results23, go_sem, r0, r1, r2, r3, r4, r5]) rfl ⟨rfl, ?_⟩
  (repeat refine Below.setCell ?_ (by simp) _)
  exact below_then (by go_grown) hb1 (by simp <;> omega)

set_option maxHeartbeats 400000 in
theorem refNegated_2 (p q : Int) (w : World) (hp : 1 ≤ p) (hp' : p ≤ 15) (hq : 0 ≤ q) (hq' : q ≤ 31) :
    Calls Tryz.prog 23 #[tyV 2 p q 0 false ⟨#[]⟩] w fun e w' => e = .returned (.tuple #[numV 2 p q, .int .i64 0]) ∧ Below w.heap.size w w' := by
  have OK := Lib.hid (ok_2 hp hp' hq hq')
  go_enter Tryz.func23, Tryz.ntmps23
  go_wp2_with fail
  go_at_call 59
  refine (asked_0 [⟨2, p, q, 0, false, ⟨#[]⟩⟩] (w.heap.size + 1 + 1) 0 1 _ (TysAt_one (heap_alloc3_new _ _ _ _)) (by simp) (by simp) (pic1 pic0) (all1 OK.out) (all1 (f := Ty.num) rfl)).mono ?_
  rintro e w1 ⟨rfl, hb1⟩
  obtain ⟨hc, hf⟩ := bcell hb1
  have hz := hb1.size
  obtain ⟨r0, r1, r2, r3, r4, r5, rf⟩ := zcells (w2 := w1) (b := w.heap.size + 1) (heap_alloc3_mid _ _ _ _) (by simp <;> omega) hb1
  go_wp2
  refine bodyPost_ret (v := .tuple #[numV 2 p q, .int .i64 0]) (by simp [results, Tryz.results23, go_sem, r0, r1, r2, r3, r4, r5]) rfl ⟨rfl, ?_⟩
  (repeat refine Below.setCell ?_ (by simp) _)
  exact below_then (by go_grown) hb1 (by simp <;> omega)

set_option maxHeartbeats 400000 in
theorem refNegated_3 (p : Int) (w : World) (hp : 1 ≤ p) (hp' : p ≤ 15) :
    Calls Tryz.prog 23 #[tyV 3 p 0 0 false ⟨#[]⟩] w fun e w' => e = .returned (.tuple #[numV 3 p 0, .int .i64 0]) ∧ Below w.heap.size w w' := by
  have OK := Lib.hid (ok_3 hp hp')
  go_enter Tryz.func23, Tryz.ntmps23
  go_wp2_with fail
  go_at_call 59
  refine (asked_0 [⟨3, p, 0, 0, false, ⟨#[]⟩⟩] (w.heap.size + 1 + 1) 0 1 _ (TysAt_one (heap_alloc3_new _ _ _ _)) (by simp) (by simp) (pic1 pic0) (all1 OK.out) (all1 (f := Ty.num) rfl)).mono ?_
  rintro e w1 ⟨rfl, hb1⟩
  obtain ⟨hc, hf⟩ := bcell hb1
  have hz := hb1.size
  obtain ⟨r0, r1, r2, r3, r4, r5, rf⟩ := zcells (w2 := w1) (b := w.heap.size + 1) (heap_alloc3_mid _ _ _ _) (by simp <;> omega) hb1
  go_wp2
  refine bodyPost_ret (v := .tuple #[numV 3 p 0, .int .i64 0]) (by simp [results, Tryz.results23, go_sem, r0, r1, r2, r3, r4, r5]) rfl ⟨rfl, ?_⟩
  (repeat refine Below.setCell ?_ (by simp) _)
  exact below_then (by go_grown) hb1 (by simp <;> omega)

set_option maxHeartbeats 400000 in
theorem refNumber_13 (k p q n : Int) (vy : Bool) (pic : ByteArray) (w : World) (hs : pic.size ≤ maxLen) (hv : (Ty.mk k p q n vy pic).ok = false) :
    Calls Tryz.prog 21 #[tyV k p q n vy pic] w fun e w' => e = .returned (.tuple #[numV 0 0 0, .int .i64 13]) ∧ Below w.heap.size w w' := by
  have HV := Lib.hid hv; have HS := Lib.hid hs
  clear hv hs
  go_enter Tryz.func21, Tryz.ntmps21
  go_wp2_with fail
  go_at_call 17
  refine (refValid_b false _ _ _ _ _ _ _ HS.out HV.out).mono ?_
  rintro e w1 ⟨rfl, hb1⟩
  obtain ⟨hc, hf⟩ := bcell hb1
  have hz := hb1.size
  obtain ⟨r0, r1, r2, r3, r4, r5, rf⟩ := zcells (w2 := w1) (b := w.heap.size + 1) (heap_alloc2_new _ _ _) (by simp <;> omega) hb1
  go_wp2
  refine bodyPost_ret (v := .tuple #[numV 0 0 0, .int .i64 13]) (by simp [results, Tryz.results21, go_sem, r0, r1, r2, r3, r4, r5]) rfl ⟨rfl, ?_⟩
  (repeat refine Below.setCell ?_ (by simp) _)
  exact below_then (by go_grown) hb1 (by simp <;> omega)

set_option maxHeartbeats 400000 in
theorem refNumber_10n (k p q n : Int) (vy : Bool) (pic : ByteArray) (w : World) (hs : pic.size ≤ maxLen) (hv : (Ty.mk k p q n vy pic).ok = true) (hk : 6 ≤ k) :
    Calls Tryz.prog 21 #[tyV k p q n vy pic] w fun e w' => e = .returned (.tuple #[numV 0 0 0, .int .i64 10]) ∧ Below w.heap.size w w' := by
  have HV := Lib.hid hv; have HS := Lib.hid hs
  have e4 : (k == 4) = false := by rw [beq_eq_false_iff_ne]; omega
  have e5 : (k == 5) = false := by rw [beq_eq_false_iff_ne]; omega
  have HN := Lib.hid (show isNumS k = false by unfold isNumS; simp; omega)
  clear hv hs
  go_enter Tryz.func21, Tryz.ntmps21
  go_wp2_with fail
  go_at_call 17
  refine (refValid_b true _ _ _ _ _ _ _ HS.out HV.out).mono ?_
  rintro e w1 ⟨rfl, hb1⟩
  obtain ⟨hc, hf⟩ := bcell hb1
  have hz := hb1.size
  obtain ⟨r0, r1, r2, r3, r4, r5, rf⟩ := zcells (w2 := w1) (b := w.heap.size + 1) (heap_alloc2_new _ _ _) (by simp <;> omega) hb1
  go_wp2_with fail
  go_at_call 64
  refine (numeric_b false _ _ HN.out).mono ?_
  rintro e w2 ⟨rfl, rfl⟩
  go_wp2
  refine bodyPost_ret (v := .tuple #[numV 0 0 0, .int .i64 10]) (by simp [results, Tryz.results21, go_sem, r0, r1, r2, r3, r4, r5]) rfl ⟨rfl, ?_⟩
  (repeat refine Below.setCell ?_ (by simp) _)
  exact below_then (by go_grown) hb1 (by simp <;> omega)

set_option maxHeartbeats 400000 in
theorem refNumber_1 (p q : Int) (w : World) (hp : 1 ≤ p) (hp' : p ≤ 31) (hq : 0 ≤ q) (hq' : q ≤ 31) :
    Calls Tryz.prog 21 #[tyV 1 p q 0 false ⟨#[]⟩] w fun e w' => e = .returned (.tuple #[numV 1 p q, .int .i64 0]) ∧ Below w.heap.size w w' := by
  have OK := Lib.hid (ok_1 hp hp' hq hq')
  go_enter Tryz.func21, Tryz.ntmps21
  go_wp2_with fail
  go_at_call 17
  refine (refValid_b true _ _ _ _ _ _ _ pic0 OK.out).mono ?_
  rintro e w1 ⟨rfl, hb1⟩
  obtain ⟨hc, hf⟩ := bcell hb1
  have hz := hb1.size
  obtain ⟨r0, r1, r2, r3, r4, r5, rf⟩ := zcells (w2 := w1) (b := w.heap.size + 1) (heap_alloc2_new _ _ _) (by simp <;> omega) hb1
  go_wp2_with fail
  go_at_call 64
  refine (numeric_b true _ _ rfl).mono ?_
  rintro e w2 ⟨rfl, rfl⟩
  go_wp2
  refine bodyPost_ret (v := .tuple #[numV 1 p q, .int .i64 0]) (by simp [results, Tryz.results21, go_sem, r0, r1, r2, r3, r4, r5]) rfl ⟨rfl, ?_⟩
  (repeat refine Below.setCell ?_ (by simp) _)
  exact below_then (by go_grown) hb1 (by simp <;> omega)

set_option maxHeartbeats 400000 in
theorem refNumber_2 (p q : Int) (w : World) (hp : 1 ≤ p) (hp' : p ≤ 15) (hq : 0 ≤ q) (hq' : q ≤ 31) :
    Calls Tryz.prog 21 #[tyV 2 p q 0 false ⟨#[]⟩] w fun e w' => e = .returned (.tuple #[numV 2 p q, .int .i64 0]) ∧ Below w.heap.size w w' := by
  have OK := Lib.hid (ok_2 hp hp' hq hq')
  go_enter Tryz.func21, Tryz.ntmps21
  go_wp2_with fail
  go_at_call 17
  refine (refValid_b true _ _ _ _ _ _ _ pic0 OK.out).mono ?_
  rintro e w1 ⟨rfl, hb1⟩
  obtain ⟨hc, hf⟩ := bcell hb1
  have hz := hb1.size
  obtain ⟨r0, r1, r2, r3, r4, r5, rf⟩ := zcells (w2 := w1) (b := w.heap.size + 1) (heap_alloc2_new _ _ _) (by simp <;> omega) hb1
  go_wp2_with fail
  go_at_call 64
  refine (numeric_b true _ _ rfl).mono ?_
  rintro e w2 ⟨rfl, rfl⟩
  go_wp2
  refine bodyPost_ret (v := .tuple #[numV 2 p q, .int .i64 0]) (by simp [results, Tryz.results21, go_sem, r0, r1, r2, r3, r4, r5]) rfl ⟨rfl, ?_⟩
  (repeat refine Below.setCell ?_ (by simp) _)
  exact below_then (by go_grown) hb1 (by simp <;> omega)

set_option maxHeartbeats 400000 in
theorem refNumber_3 (p : Int) (w : World) (hp : 1 ≤ p) (hp' : p ≤ 15) :
    Calls Tryz.prog 21 #[tyV 3 p 0 0 false ⟨#[]⟩] w fun e w' => e = .returned (.tuple #[numV 3 p 0, .int .i64 0]) ∧ Below w.heap.size w w' := by
  have OK := Lib.hid (ok_3 hp hp')
  go_enter Tryz.func21, Tryz.ntmps21
  go_wp2_with fail
  go_at_call 17
  refine (refValid_b true _ _ _ _ _ _ _ pic0 OK.out).mono ?_
  rintro e w1 ⟨rfl, hb1⟩
  obtain ⟨hc, hf⟩ := bcell hb1
  have hz := hb1.size
  obtain ⟨r0, r1, r2, r3, r4, r5, rf⟩ := zcells (w2 := w1) (b := w.heap.size + 1) (heap_alloc2_new _ _ _) (by simp <;> omega) hb1
  go_wp2_with fail
  go_at_call 64
  refine (numeric_b true _ _ rfl).mono ?_
  rintro e w2 ⟨rfl, rfl⟩
  go_wp2
  refine bodyPost_ret (v := .tuple #[numV 3 p 0, .int .i64 0]) (by simp [results, Tryz.results21, go_sem, r0, r1, r2, r3, r4, r5]) rfl ⟨rfl, ?_⟩
  (repeat refine Below.setCell ?_ (by simp) _)
  exact below_then (by go_grown) hb1 (by simp <;> omega)

set_option maxHeartbeats 400000 in
theorem refNumber_s4 (p q n : Int) (vy : Bool) (pic : ByteArray) (w : World) (hs : pic.size ≤ maxLen) (hv : (Ty.mk 4 p q n vy pic).ok = true) :
    Calls Tryz.prog 21 #[tyV 4 p q n vy pic] w fun e w' => e = .returned (.tuple #[numV 2 15 0, .int .i64 0]) ∧ Below w.heap.size w w' := by
  have HV := Lib.hid hv; have HS := Lib.hid hs
  clear hv hs
  go_enter Tryz.func21, Tryz.ntmps21
  go_wp2_with fail
  go_at_call 17
  refine (refValid_b true _ _ _ _ _ _ _ HS.out HV.out).mono ?_
  rintro e w1 ⟨rfl, hb1⟩
  obtain ⟨hc, hf⟩ := bcell hb1
  have hz := hb1.size
  obtain ⟨r0, r1, r2, r3, r4, r5, rf⟩ := zcells (w2 := w1) (b := w.heap.size + 1) (heap_alloc2_new _ _ _) (by simp <;> omega) hb1
  go_wp2_with fail
  go_at_call 64
  refine (numeric_b false _ _ rfl).mono ?_
  rintro e w2 ⟨rfl, rfl⟩
  go_wp2
  refine bodyPost_ret (v := .tuple #[numV 2 15 0, .int .i64 0]) (by simp [results, Tryz.results21, go_sem, r0, r1, r2, r3, r4, r5]) rfl ⟨rfl, ?_⟩
  (repeat refine Below.setCell ?_ (by simp) _)
  exact below_then (by go_grown) hb1 (by simp <;> omega)

set_option maxHeartbeats 400000 in
theorem refNumber_s5 (p q n : Int) (vy : Bool) (pic : ByteArray) (w : World) (hs : pic.size ≤ maxLen) (hv : (Ty.mk 5 p q n vy pic).ok = true) :
    Calls Tryz.prog 21 #[tyV 5 p q n vy pic] w fun e w' => e = .returned (.tuple #[numV 1 31 0, .int .i64 0]) ∧ Below w.heap.size w w' := by
  have HV := Lib.hid hv; have HS := Lib.hid hs
  clear hv hs
  go_enter Tryz.func21, Tryz.ntmps21
  go_wp2_with fail
  go_at_call 17
  refine (refValid_b true _ _ _ _ _ _ _ HS.out HV.out).mono ?_
  rintro e w1 ⟨rfl, hb1⟩
  obtain ⟨hc, hf⟩ := bcell hb1
  have hz := hb1.size
  obtain ⟨r0, r1, r2, r3, r4, r5, rf⟩ := zcells (w2 := w1) (b := w.heap.size + 1) (heap_alloc2_new _ _ _) (by simp <;> omega) hb1
  go_wp2_with fail
  go_at_call 64
  refine (numeric_b false _ _ rfl).mono ?_
  rintro e w2 ⟨rfl, rfl⟩
  go_wp2
  refine bodyPost_ret (v := .tuple #[numV 1 31 0, .int .i64 0]) (by simp [results, Tryz.results21, go_sem, r0, r1, r2, r3, r4, r5]) rfl ⟨rfl, ?_⟩
  (repeat refine Below.setCell ?_ (by simp) _)
  exact below_then (by go_grown) hb1 (by simp <;> omega)

end Go.Proofs.YtcekphfmpjdbmaaGreatDoor
