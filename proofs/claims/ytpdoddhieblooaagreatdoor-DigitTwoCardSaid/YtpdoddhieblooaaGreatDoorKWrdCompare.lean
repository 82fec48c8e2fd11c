/- digit.guarded: the deferred closure's contracts, and guarded itself over any work. digit.Compare: its closure, where both values are numbers. digit.Compare: its closure, where the first value is no number. digit.Compare: its closure, where the second value is no number. digit.Compare: its closure, any two values. digit.Compare: any two values. -/
import Derived.Test.YtpdoddhieblooaaGreatDoorKTwoLaw
import Derived.Defers
import Derived.Recover
namespace Go.Proofs.YtpdoddhieblooaaGreatDoor
open Go.RowKit

set_option maxHeartbeats 400000 in
theorem dgd_idle (p : Addr) (w : World) :
   CallsD Tryz.prog 45 #[.pointer (some p)] .returning w fun e u' w' => e = .returned (.tuple #[]) ∧ u' = .returning ∧ w = w' := by
 refine callsD_of_wpS Tryz.func45 rfl fun c₀ cs hu => ?_
 apply wpS_seq
 apply wpS_region
 simp [wpOpsS, go_sem, recoverD, hu, Tryz.ntmps45, Exit.thenS]
 refine wpS_of_wp ?_
 rw [show (#[Value.pointer (some p)] ++ (Array.replicate 9 undef).setIfInBounds 3 Value.nilIface) = #[Value.pointer (some p), undef, undef, undef, .nilIface, undef, undef, undef, undef, undef] from rfl]
 go_wp2
 cases c₀
 simp_all [bodyPostS, results, Tryz.results45]
set_option maxRecDepth 100000 in
set_option maxHeartbeats 400000 in
theorem dgd_caught (p : Addr) (n x : Int) (w : World) (hc : w.cell? p = some (.int .i64 x)) (hz : w.frozen? p = false) :
   CallsD Tryz.prog 45 #[.pointer (some p)] (.panicking [{ v := .iface 74 (.int .i64 n), recovered := false }]) w fun e u' w' => e = .returned (.tuple #[]) ∧ u' = .panicking [{ v := .iface 74 (.int .i64 n), recovered := true }] ∧ w.setCell p (.int .i64 n) = w' := by
 refine callsD_of_wpS Tryz.func45 rfl fun c₀ cs hu => ?_
 apply wpS_seq
 apply wpS_region
 simp [wpOpsS, go_sem, recoverD, hu, Tryz.ntmps45, Exit.thenS]
 refine wpS_of_wp ?_
 rw [show (#[Value.pointer (some p)] ++ (Array.replicate 9 undef).setIfInBounds 3 (.iface 74 (.int .i64 n))) = #[Value.pointer (some p), undef, undef, undef, .iface 74 (.int .i64 n), undef, undef, undef, undef, undef] from rfl]
 generalize hc1 : ({ c₀ with mode := .panicking [{ v := .iface 74 (.int .i64 n), recovered := true }] } : Frame) = c1
 have HU := Lib.hid hu
 have HC := Lib.hid hc1
 clear hu hc1
 have q1 : ∀ (w : World), (binOp .eql 20 (.iface 74 (.int .i64 n)) .nilIface).run Tryz.prog w = .ok (.bool false) w := fun _ => by kernel_rfl
 have q2 : ∀ (w : World), (Instr.typeAssert (.iface 74 (.int .i64 n)) 20 74 true).run Tryz.prog w = .ok (.tuple #[.int .i64 n, .bool true]) w := fun _ => by kernel_rfl
 go_wp2
 have hu := HU.out
 have hc1 := HC.out
 subst hc1
 clear HU HC
 cases c₀
 simp_all [bodyPostS, results, Tryz.results45]
set_option maxRecDepth 100000 in
set_option maxHeartbeats 400000 in
theorem guard_ok (fn : Nat) (cap : Array Value) (w : World) {R : World → Prop} (hcf : ∀ W : World, (callFunc fn cap).run Tryz.prog W = .ok (.enter fn cap) W)
   (h : Calls Tryz.prog fn cap (w.alloc (.cells #[.int .i64 0] 28)) fun e w' => e = .returned (.tuple #[]) ∧ w'.cell? ⟨w.heap.size, 0, none⟩ = some (.int .i64 0) ∧ w'.frozen? ⟨w.heap.size, 0, none⟩ = false ∧ R w') :
   Calls Tryz.prog 19 #[.func (.func fn) #[] cap] w fun e w' => e = .returned (.int .i64 0) ∧ ∃ w1, R w1 ∧ w' = w1.setCell ⟨w.heap.size, 0, none⟩ (.int .i64 0) := by
 have hmf : ∀ (fn : Fn) (first cap : Array Value) (w : World), (Instr.makeFunc fn first cap).run Tryz.prog w = .ok (.func fn first cap) w := fun _ _ _ _ => rfl
 have H := Lib.hid h
 clear h
 go_enter_defers Tryz.func19, Tryz.ntmps19
 go_wp2_with (refine H.out.mono ?_; rintro e w1 ⟨rfl, hc, hz, hr⟩; have HR := Lib.hid hr; clear hr)
 refine leaves_cons (f := 45) (args := #[.pointer (some ⟨w.heap.size, 0, none⟩)]) (by simp) (by simp [go_sem]) ?_
 refine (dgd_idle ⟨w.heap.size, 0, none⟩ _).mono ?_
 rintro e u' w2 ⟨rfl, rfl, rfl⟩
 simp [Leaves, settle, results, Tryz.results19, go_sem, hc]
 exact ⟨w1, HR.out, rfl⟩
set_option maxRecDepth 100000 in
set_option maxHeartbeats 400000 in
theorem guard_no (fn : Nat) (cap : Array Value) (n : Int) (w : World) {R : World → Prop} (hcf : ∀ W : World, (callFunc fn cap).run Tryz.prog W = .ok (.enter fn cap) W)
   (h : Calls Tryz.prog fn cap (w.alloc (.cells #[.int .i64 0] 28)) fun e w' => e = dRef n ∧ w'.cell? ⟨w.heap.size, 0, none⟩ = some (.int .i64 0) ∧ w'.frozen? ⟨w.heap.size, 0, none⟩ = false ∧ R w') :
   Calls Tryz.prog 19 #[.func (.func fn) #[] cap] w fun e w' => e = .returned (.int .i64 n) ∧ ∃ w1, R w1 ∧ w' = w1.setCell ⟨w.heap.size, 0, none⟩ (.int .i64 n) := by
 have hmf : ∀ (fn : Fn) (first cap : Array Value) (w : World), (Instr.makeFunc fn first cap).run Tryz.prog w = .ok (.func fn first cap) w := fun _ _ _ _ => rfl
 have H := Lib.hid h
 clear h
 go_enter_defers Tryz.func19, Tryz.ntmps19
 go_wp2_with (refine H.out.mono ?_; rintro e w1 ⟨rfl, hc, hz, hr⟩; have HR := Lib.hid hr; clear hr)
 refine leaves_cons (f := 45) (args := #[.pointer (some ⟨w.heap.size, 0, none⟩)]) (by simp) (by simp [go_sem]) ?_
 refine (dgd_caught ⟨w.heap.size, 0, none⟩ n 0 _ hc hz).mono ?_
 rintro e u' w2 ⟨rfl, rfl, rfl⟩
 simp [Leaves, settle, results, Tryz.results19, go_sem, hc]
 exact ⟨w1, HR.out, rfl⟩
end Go.Proofs.YtpdoddhieblooaaGreatDoor
namespace Go.Proofs.YtpdoddhieblooaaGreatDoor
open Go.RowKit

abbrev TT : Nat → Prop := fun _ => True
theorem plN_len {a b : Int} {u t : Nat} (la : (wrds a.natAbs).length ≤ 4000) (lb : (wrds b.natAbs).length ≤ 4000) (lu : (wrds u).length ≤ 4000) (lt : (wrds t).length ≤ 4000) : (wrds (plN a u (-b) t).natAbs).length ≤ 1000000 := by
 unfold plN
 split
 · have h0 := wrds_le_len (Int.natAbs_add_le a (-b))
   have h := wrds_add_len a.natAbs (-b).natAbs
   rw [Int.natAbs_neg] at h h0
   omega
 · have h0 := wrds_le_len (Int.natAbs_add_le (a * t) (-b * u))
   have h := wrds_add_len (a * t).natAbs (-b * u).natAbs
   rw [Int.natAbs_mul, Int.natAbs_mul, Int.natAbs_neg, Int.natAbs_natCast, Int.natAbs_natCast] at h h0
   have h1 := wrds_mul_len a.natAbs t
   have h2 := wrds_mul_len b.natAbs u
   omega
abbrev Va.row (t : Va) : Array Value := #[.int .i64 t.k, .int .i64 t.n, .int .i64 t.q, .string t.s]
theorem VasAt.two {w : World} {c : Nat} {a b : Va} {t : TypeId} (h : Row w c #[.int .i64 a.k, .int .i64 a.n, .int .i64 a.q, .string a.s, .int .i64 b.k, .int .i64 b.n, .int .i64 b.q, .string b.s] t) : VasAt w c 0 [a, b] := by
 intro i hi j v hv
 have hi2 : i = 0 ∨ i = 1 := by simp at hi; omega
 rcases hi2 with rfl | rfl
 · rcases j with _ | _ | _ | _ | j
   · exact (h.at 0).trans hv
   · exact (h.at 1).trans hv
   · exact (h.at 2).trans hv
   · exact (h.at 3).trans hv
   · simp at hv
 · rcases j with _ | _ | _ | _ | j
   · exact (h.at 4).trans hv
   · exact (h.at 5).trans hv
   · exact (h.at 6).trans hv
   · exact (h.at 7).trans hv
   · simp at hv
end Go.Proofs.YtpdoddhieblooaaGreatDoor
namespace Go.Proofs.YtpdoddhieblooaaGreatDoor
open Go.RowKit

end Go.Proofs.YtpdoddhieblooaaGreatDoor
namespace Go.Proofs.YtpdoddhieblooaaGreatDoor
open Go.RowKit

end Go.Proofs.YtpdoddhieblooaaGreatDoor
namespace Go.Proofs.YtpdoddhieblooaaGreatDoor
open Go.RowKit

end Go.Proofs.YtpdoddhieblooaaGreatDoor
namespace Go.Proofs.YtpdoddhieblooaaGreatDoor
open Go.RowKit

set_option maxRecDepth 100000 in
set_option maxHeartbeats 400000 in
theorem guard_any (fn : Nat) (cap : Array Value) (w : World) {R : Int → World → Prop} (hcf : ∀ W : World, (callFunc fn cap).run Tryz.prog W = .ok (.enter fn cap) W)
   (h : Calls Tryz.prog fn cap (w.alloc (.cells #[.int .i64 0] 28)) fun e w' => (∃ n : Int, (e = dRef n ∨ e = .returned (.tuple #[]) ∧ n = 0) ∧ R n w') ∧ w'.cell? ⟨w.heap.size, 0, none⟩ = some (.int .i64 0) ∧ w'.frozen? ⟨w.heap.size, 0, none⟩ = false) :
   Calls Tryz.prog 19 #[.func (.func fn) #[] cap] w fun e w' => ∃ n : Int, e = .returned (.int .i64 n) ∧ ∃ w1, R n w1 ∧ w' = w1.setCell ⟨w.heap.size, 0, none⟩ (.int .i64 n) := by
 have hmf : ∀ (fn : Fn) (first cap : Array Value) (w : World), (Instr.makeFunc fn first cap).run Tryz.prog w = .ok (.func fn first cap) w := fun _ _ _ _ => rfl
 have H := Lib.hid h
 clear h
 go_enter_defers Tryz.func19, Tryz.ntmps19
 go_wp2_with (refine H.out.mono ?_; rintro e w1 ⟨⟨n, (rfl | ⟨rfl, rfl⟩), hr⟩, hc, hz⟩ <;> have HR := Lib.hid hr <;> clear hr)
 · refine leaves_cons (f := 45) (args := #[.pointer (some ⟨w.heap.size, 0, none⟩)]) (by simp) (by simp [go_sem]) ?_
   refine (dgd_caught ⟨w.heap.size, 0, none⟩ n 0 _ hc hz).mono ?_
   rintro e u' w2 ⟨rfl, rfl, rfl⟩
   simp [Leaves, settle, results, Tryz.results19, go_sem, hc]
   exact ⟨w1, HR.out, rfl⟩
 · refine leaves_cons (f := 45) (args := #[.pointer (some ⟨w.heap.size, 0, none⟩)]) (by simp) (by simp [go_sem]) ?_
   refine (dgd_idle ⟨w.heap.size, 0, none⟩ _).mono ?_
   rintro e u' w2 ⟨rfl, rfl, rfl⟩
   simp [Leaves, settle, results, Tryz.results19, go_sem, hc]
   exact ⟨w1, HR.out, rfl⟩
theorem Row.putw {w : World} {b : Nat} {cs : Array Value} {t : TypeId} (h : Row w b cs t) (k : Nat) (v : Value) : Row (w.setCell ⟨b, k, none⟩ v) b (cs.setIfInBounds k v) t := heap_setCell_same w b k cs t v h
end Go.Proofs.YtpdoddhieblooaaGreatDoor
