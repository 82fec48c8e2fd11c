/- rule.answered: the deferred closure's contracts (a frame that returns; one that a refusal leaves), and answered itself, for types. -/
import Derived.Test.YtbjnglfapgpncaaGreatDoorSlices
import Derived.Defers
import Derived.Recover
namespace Go.Proofs.YtbjnglfapgpncaaGreatDoor
open Go.RowKit

set_option maxHeartbeats 400000 in
theorem ansT_idle (p : Addr) (w : World) :
    CallsD Tryz.prog 33 #[.pointer (some p)] .returning w fun e u' w' => e = .returned (.tuple #[]) ∧ u' = .returning ∧ w = w' := by
  refine callsD_of_wpS Tryz.func33 rfl fun c₀ cs hu => ?_
  apply wpS_seq
  apply wpS_region
  simp [wpOpsS, go_sem, recoverD, hu, Tryz.ntmps33, Exit.thenS]
  refine wpS_of_wp ?_
  rw [show (#[Value.pointer (some p)] ++ (Array.replicate 9 undef).setIfInBounds 3 Value.nilIface) = #[Value.pointer (some p), undef, undef, undef, .nilIface, undef, undef, undef, undef, undef] from rfl]
  go_wp2
  cases c₀
  simp_all [bodyPostS, results, Tryz.results33]

set_option maxRecDepth 100000 in
set_option maxHeartbeats 400000 in
theorem ansT_caught (p : Addr) (n x : Int) (w : World) (hc : w.cell? p = some (.int .i64 x)) (hz : w.frozen? p = false) :
    CallsD Tryz.prog 33 #[.pointer (some p)] (.panicking [{ v := .iface 64 (.int .i64 n), recovered := false }]) w fun e u' w' => e = .returned (.tuple #[]) ∧ u' = .panicking [{ v := .iface 64 (.int .i64 n), recovered := true }] ∧ w.setCell p (.int .i64 n) = w' := by
  refine callsD_of_wpS Tryz.func33 rfl fun c₀ cs hu => ?_
  apply wpS_seq
  apply wpS_region
  simp [wpOpsS, go_sem, recoverD, hu, Tryz.ntmps33, Exit.thenS]
  refine wpS_of_wp ?_
  rw [show (#[Value.pointer (some p)] ++ (Array.replicate 9 undef).setIfInBounds 3 (.iface 64 (.int .i64 n))) = #[Value.pointer (some p), undef, undef, undef, .iface 64 (.int .i64 n), undef, undef, undef, undef, undef] from rfl]
  generalize hc1 : ({ c₀ with mode := .panicking [{ v := .iface 64 (.int .i64 n), recovered := true }] } : Frame) = c1
  have HU := Lib.hid hu
  have HC := Lib.hid hc1
  clear hu hc1
  have q1 : ∀ (w : World), (binOp .eql 20 (.iface 64 (.int .i64 n)) .nilIface).run Tryz.prog w = .ok (.bool false) w := fun _ => by kernel_rfl
  have q2 : ∀ (w : World), (Instr.typeAssert (.iface 64 (.int .i64 n)) 20 64 true).run Tryz.prog w = .ok (.tuple #[.int .i64 n, .bool true]) w := fun _ => by kernel_rfl
  go_wp2
  have hu := HU.out
  have hc1 := HC.out
  subst hc1
  clear HU HC
  cases c₀
  simp_all [bodyPostS, results, Tryz.results33]

set_option maxRecDepth 100000 in
set_option maxHeartbeats 400000 in
theorem answeredT_ok (fn : Nat) (cap : Array Value) (k p q n : Int) (vy : Bool) (pic : ByteArray) (w : World) (hcf : ∀ W : World, (callFunc fn cap).run Tryz.prog W = .ok (.enter fn cap) W)
    (h : ∀ W : World, Below w.heap.size w W → Calls Tryz.prog fn cap W fun e w' => e = .returned (tyV k p q n vy pic) ∧ Below W.heap.size W w') :
    Calls Tryz.prog 20 #[.func (.func fn) #[] cap] w fun e w' => e = .returned (.tuple #[tyV k p q n vy pic, .int .i64 0]) ∧ Below w.heap.size w w' := by
  have hmf : ∀ (fn : Fn) (first cap : Array Value) (w : World), (Instr.makeFunc fn first cap).run Tryz.prog w = .ok (.func fn first cap) w := fun _ _ _ _ => rfl
  have H := Lib.hid h
  clear h
  go_enter_defers Tryz.func20, Tryz.ntmps20
  go_wp2_with (refine (H.out _ (by go_grown)).mono ?_; rintro e w1 ⟨rfl, hb1⟩; obtain ⟨hc, hf⟩ := bcell hb1; have hz := hb1.size)
  refine leaves_cons (f := 33) (args := #[.pointer (some ⟨w.heap.size + 1, 0, none⟩)]) (by simp) (by simp [go_sem]) ?_
  refine (ansT_idle ⟨w.heap.size + 1, 0, none⟩ _).mono ?_
  rintro e u' w2 ⟨rfl, rfl, rfl⟩
  have cell : ∀ b o, b < w.heap.size + 1 + 1 → w1.cell? ⟨b, o, none⟩ = _ := fun b o h => hc b o (by simp; omega)
  have c0 := cell w.heap.size 0 (by omega)
  have c1 := cell w.heap.size 1 (by omega)
  have c2 := cell w.heap.size 2 (by omega)
  have c3 := cell w.heap.size 3 (by omega)
  have c4 := cell w.heap.size 4 (by omega)
  have c5 := cell w.heap.size 5 (by omega)
  have ce := cell (w.heap.size + 1) 0 (by omega)
  simp [go_sem] at c0 c1 c2 c3 c4 c5 ce
  clear hc hf cell
  simp [Leaves, settle, results, Tryz.results20, go_sem, c0, c1, c2, c3, c4, c5, ce]
  (repeat refine Below.setCell ?_ (by simp) _)
  exact below_then (by go_grown) hb1 (by simp; omega)

set_option maxRecDepth 100000 in
set_option maxHeartbeats 400000 in
theorem answeredT_no (fn : Nat) (cap : Array Value) (n : Int) (w : World) (hcf : ∀ W : World, (callFunc fn cap).run Tryz.prog W = .ok (.enter fn cap) W)
    (h : ∀ W : World, Below w.heap.size w W → Calls Tryz.prog fn cap W fun e w' => e = refusal n ∧ Below W.heap.size W w') :
    Calls Tryz.prog 20 #[.func (.func fn) #[] cap] w fun e w' => e = .returned (.tuple #[numV 0 0 0, .int .i64 n]) ∧ Below w.heap.size w w' := by
  have hmf : ∀ (fn : Fn) (first cap : Array Value) (w : World), (Instr.makeFunc fn first cap).run Tryz.prog w = .ok (.func fn first cap) w := fun _ _ _ _ => rfl
  have H := Lib.hid h
  clear h
  go_enter_defers Tryz.func20, Tryz.ntmps20
  go_wp2_with (refine (H.out _ (by go_grown)).mono ?_; rintro e w1 ⟨rfl, hb1⟩; obtain ⟨hc, hf⟩ := bcell hb1; have hz := hb1.size)
  have cell : ∀ b o, b < w.heap.size + 1 + 1 → w1.cell? ⟨b, o, none⟩ = _ := fun b o h => hc b o (by simp; omega)
  have froz : ∀ b o, b < w.heap.size + 1 + 1 → w1.frozen? ⟨b, o, none⟩ = _ := fun b o h => hf b o (by simp; omega)
  have c0 := cell w.heap.size 0 (by omega)
  have c1 := cell w.heap.size 1 (by omega)
  have c2 := cell w.heap.size 2 (by omega)
  have c3 := cell w.heap.size 3 (by omega)
  have c4 := cell w.heap.size 4 (by omega)
  have c5 := cell w.heap.size 5 (by omega)
  have ce := cell (w.heap.size + 1) 0 (by omega)
  have fe := froz (w.heap.size + 1) 0 (by omega)
  simp [go_sem] at c0 c1 c2 c3 c4 c5 ce fe
  clear hc hf cell froz
  refine leaves_cons (f := 33) (args := #[.pointer (some ⟨w.heap.size + 1, 0, none⟩)]) (by simp) (by simp [go_sem]) ?_
  refine (ansT_caught ⟨w.heap.size + 1, 0, none⟩ n 0 _ ce fe).mono ?_
  rintro e u' w2 ⟨rfl, rfl, rfl⟩
  simp [Leaves, settle, results, Tryz.results20, go_sem, c0, c1, c2, c3, c4, c5, ce]
  (repeat refine Below.setCell ?_ (by simp) _)
  exact below_then (by go_grown) hb1 (by simp; omega)
end Go.Proofs.YtbjnglfapgpncaaGreatDoor
