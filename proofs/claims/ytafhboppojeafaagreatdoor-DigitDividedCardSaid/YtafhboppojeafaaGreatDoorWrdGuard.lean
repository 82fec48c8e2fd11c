/- digit.guarded: the deferred closure's contracts, and guarded itself over any work. -/
import Derived.Test.YtafhboppojeafaaGreatDoorWrdExs
import Derived.Defers
import Derived.Recover
namespace Go.Proofs.YtafhboppojeafaaGreatDoor
open Go.RowKit

set_option maxHeartbeats 400000 in
theorem dgd_idle (p : Addr) (w : World) :
    CallsD Tryz.prog 38 #[.pointer (some p)] .returning w fun e u' w' => e = .returned (.tuple #[]) ∧ u' = .returning ∧ w = w' := by
  refine callsD_of_wpS Tryz.func38 rfl fun c₀ cs hu => ?_
  apply wpS_seq
  apply wpS_region
  simp [wpOpsS, go_sem, recoverD, hu, Tryz.ntmps38, Exit.thenS]
  refine wpS_of_wp ?_
  rw [show (#[Value.pointer (some p)] ++ (Array.replicate 9 undef).setIfInBounds 3 Value.nilIface) = #[Value.pointer (some p), undef, undef, undef, .nilIface, undef, undef, undef, undef, undef] from rfl]
  go_wp2
  cases c₀
  simp_all [bodyPostS, results, Tryz.results38]

set_option maxRecDepth 100000 in
set_option maxHeartbeats 400000 in
theorem dgd_caught (p : Addr) (n x : Int) (w : World) (hc : w.cell? p = some (.int .i64 x)) (hz : w.frozen? p = false) :
    CallsD Tryz.prog 38 #[.pointer (some p)] (.panicking [{ v := .iface 78 (.int .i64 n), recovered := false }]) w fun e u' w' => e = .returned (.tuple #[]) ∧ u' = .panicking [{ v := .iface 78 (.int .i64 n), recovered := true }] ∧ w.setCell p (.int .i64 n) = w' := by
  refine callsD_of_wpS Tryz.func38 rfl fun c₀ cs hu => ?_
  apply wpS_seq
  apply wpS_region
  simp [wpOpsS, go_sem, recoverD, hu, Tryz.ntmps38, Exit.thenS]
  refine wpS_of_wp ?_
  rw [show (#[Value.pointer (some p)] ++ (Array.replicate 9 undef).setIfInBounds 3 (.iface 78 (.int .i64 n))) = #[Value.pointer (some p), undef, undef, undef, .iface 78 (.int .i64 n), undef, undef, undef, undef, undef] from rfl]
  generalize hc1 : ({ c₀ with mode := .panicking [{ v := .iface 78 (.int .i64 n), recovered := true }] } : Frame) = c1
  have HU := Lib.hid hu
  have HC := Lib.hid hc1
  clear hu hc1
  have q1 : ∀ (w : World), (binOp .eql 20 (.iface 78 (.int .i64 n)) .nilIface).run Tryz.prog w = .ok (.bool false) w := fun _ => by kernel_rfl
  have q2 : ∀ (w : World), (Instr.typeAssert (.iface 78 (.int .i64 n)) 20 78 true).run Tryz.prog w = .ok (.tuple #[.int .i64 n, .bool true]) w := fun _ => by kernel_rfl
  go_wp2
  have hu := HU.out
  have hc1 := HC.out
  subst hc1
  clear HU HC
  cases c₀
  simp_all [bodyPostS, results, Tryz.results38]

set_option maxRecDepth 100000 in
set_option maxHeartbeats 400000 in
theorem guard_ok (fn : Nat) (cap : Array Value) (w : World) {R : World → Prop} (hcf : ∀ W : World, (callFunc fn cap).run Tryz.prog W = .ok (.enter fn cap) W)
    (h : Calls Tryz.prog fn cap (w.alloc (.cells #[.int .i64 0] 30)) fun e w' => e = .returned (.tuple #[]) ∧ w'.cell? ⟨w.heap.size, 0, none⟩ = some (.int .i64 0) ∧ w'.frozen? ⟨w.heap.size, 0, none⟩ = false ∧ R w') :
    Calls Tryz.prog 26 #[.func (.func fn) #[] cap] w fun e w' => e = .returned (.int .i64 0) ∧ ∃ w1, R w1 ∧ w' = w1.setCell ⟨w.heap.size, 0, none⟩ (.int .i64 0) := by
  have hmf : ∀ (fn : Fn) (first cap : Array Value) (w : World), (Instr.makeFunc fn first cap).run Tryz.prog w = .ok (.func fn first cap) w := fun _ _ _ _ => rfl
  have H := Lib.hid h
  clear h
  go_enter_defers Tryz.func26, Tryz.ntmps26
  go_wp2_with (refine H.out.mono ?_; rintro e w1 ⟨rfl, hc, hz, hr⟩; have HR := Lib.hid hr; clear hr)
  refine leaves_cons (f := 38) (args := #[.pointer (some ⟨w.heap.size, 0, none⟩)]) (by simp) (by simp [go_sem]) ?_
  refine (dgd_idle ⟨w.heap.size, 0, none⟩ _).mono ?_
  rintro e u' w2 ⟨rfl, rfl, rfl⟩
  simp [Leaves, settle, results, Tryz.results26, go_sem, hc]
  exact ⟨w1, HR.out, rfl⟩

set_option maxRecDepth 100000 in
set_option maxHeartbeats 400000 in
theorem guard_no (fn : Nat) (cap : Array Value) (n : Int) (w : World) {R : World → Prop} (hcf : ∀ W : World, (callFunc fn cap).run Tryz.prog W = .ok (.enter fn cap) W)
    (h : Calls Tryz.prog fn cap (w.alloc (.cells #[.int .i64 0] 30)) fun e w' => e = dRef n ∧ w'.cell? ⟨w.heap.size, 0, none⟩ = some (.int .i64 0) ∧ w'.frozen? ⟨w.heap.size, 0, none⟩ = false ∧ R w') :
    Calls Tryz.prog 26 #[.func (.func fn) #[] cap] w fun e w' => e = .returned (.int .i64 n) ∧ ∃ w1, R w1 ∧ w' = w1.setCell ⟨w.heap.size, 0, none⟩ (.int .i64 n) := by
  have hmf : ∀ (fn : Fn) (first cap : Array Value) (w : World), (Instr.makeFunc fn first cap).run Tryz.prog w = .ok (.func fn first cap) w := fun _ _ _ _ => rfl
  have H := Lib.hid h
  clear h
  go_enter_defers Tryz.func26, Tryz.ntmps26
  go_wp2_with (refine H.out.mono ?_; rintro e w1 ⟨rfl, hc, hz, hr⟩; have HR := Lib.hid hr; clear hr)
  refine leaves_cons (f := 38) (args := #[.pointer (some ⟨w.heap.size, 0, none⟩)]) (by simp) (by simp [go_sem]) ?_
  refine (dgd_caught ⟨w.heap.size, 0, none⟩ n 0 _ hc hz).mono ?_
  rintro e u' w2 ⟨rfl, rfl, rfl⟩
  simp [Leaves, settle, results, Tryz.results26, go_sem, hc]
  exact ⟨w1, HR.out, rfl⟩
end Go.Proofs.YtafhboppojeafaaGreatDoor
