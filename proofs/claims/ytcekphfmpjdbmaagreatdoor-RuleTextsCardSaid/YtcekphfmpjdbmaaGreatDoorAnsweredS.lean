/- rule.answered for strings: the deferred closure's contracts and answered itself. -/
import Derived.Test.YtcekphfmpjdbmaaGreatDoorAnswered
namespace Go.Proofs.YtcekphfmpjdbmaaGreatDoor
open Go.RowKit

set_option maxHeartbeats 400000 in
theorem ansS_idle (p : Addr) (w : World) :
    CallsD Tryz.prog 155 #[.pointer (some p)] .returning w fun e u' w' => e = .returned (.tuple #[]) ∧ u' = .returning ∧ w = w' := by
  refine callsD_of_wpS Tryz.func155 rfl fun c₀ cs hu => ?_
  apply wpS_seq
  apply wpS_region
  simp [wpOpsS, go_sem, recoverD, hu, Tryz.ntmps155, Exit.thenS]
  refine wpS_of_wp ?_
  rw [show (#[Value.pointer (some p)] ++ (Array.replicate 9 undef).setIfInBounds 3 Value.nilIface) = #[Value.pointer (some p), undef, undef, undef, .nilIface, undef, undef, undef, undef, undef] from rfl]
  go_wp2
  cases c₀
  simp_all [bodyPostS, results, Tryz.results155]

set_option maxRecDepth 100000 in
set_option maxHeartbeats 400000 in
theorem ansS_caught (p : Addr) (n x : Int) (w : World) (hc : w.cell? p = some (.int .i64 x)) (hz : w.frozen? p = false) :
    CallsD Tryz.prog 155 #[.pointer (some p)] (.panicking [{ v := .iface 145 (.int .i64 n), recovered := false }]) w fun e u' w' => e = .returned (.tuple #[]) ∧ u' = .panicking [{ v := .iface 145 (.int .i64 n), recovered := true }] ∧ w.setCell p (.int .i64 n) = w' := by
  refine callsD_of_wpS Tryz.func155 rfl fun c₀ cs hu => ?_
  apply wpS_seq
  apply wpS_region
  simp [wpOpsS, go_sem, recoverD, hu, Tryz.ntmps155, Exit.thenS]
  refine wpS_of_wp ?_
  rw [show (#[Value.pointer (some p)] ++ (Array.replicate 9 undef).setIfInBounds 3 (.iface 145 (.int .i64 n))) = #[Value.pointer (some p), undef, undef, undef, .iface 145 (.int .i64 n), undef, undef, undef, undef, undef] from rfl]
  generalize hc1 : ({ c₀ with mode := .panicking [{ v := .iface 145 (.int .i64 n), recovered := true }] } : Frame) = c1
  have HU := Lib.hid hu
  have HC := Lib.hid hc1
  clear hu hc1
  have q1 : ∀ (w : World), (binOp .eql 20 (.iface 145 (.int .i64 n)) .nilIface).run Tryz.prog w = .ok (.bool false) w := fun _ => by kernel_rfl
  have q2 : ∀ (w : World), (Instr.typeAssert (.iface 145 (.int .i64 n)) 20 145 true).run Tryz.prog w = .ok (.tuple #[.int .i64 n, .bool true]) w := fun _ => by kernel_rfl
  go_wp2
  have hu := HU.out
  have hc1 := HC.out
  subst hc1
  clear HU HC
  cases c₀
  simp_all [bodyPostS, results, Tryz.results155]

set_option maxRecDepth 100000 in
set_option maxHeartbeats 400000 in
theorem answeredS_ok (fn : Nat) (cap : Array Value) (b : ByteArray) (w : World) (hcf : ∀ W : World, (callFunc fn cap).run Tryz.prog W = .ok (.enter fn cap) W)
    (h : ∀ W : World, Below w.heap.size w W → Calls Tryz.prog fn cap W fun e w' => e = .returned (.string b) ∧ Below W.heap.size W w') :
    Calls Tryz.prog 98 #[.func (.func fn) #[] cap] w fun e w' => e = .returned (.tuple #[.string b, .int .i64 0]) ∧ Below w.heap.size w w' := by
  have hmf : ∀ (fn : Fn) (first cap : Array Value) (w : World), (Instr.makeFunc fn first cap).run Tryz.prog w = .ok (.func fn first cap) w := fun _ _ _ _ => rfl
  have H := Lib.hid h
  clear h
  go_enter_defers Tryz.func98, Tryz.ntmps98
  go_wp2_with (refine (H.out _ (by go_grown)).mono ?_; rintro e w1 ⟨rfl, hb1⟩; obtain ⟨hc, hf⟩ := bcell hb1; have hz := hb1.size)
  have cell : ∀ b o, b < w.heap.size + 1 → w1.cell? ⟨b, o, none⟩ = _ := fun b o h => hc b o (by simp; omega)
  have froz : ∀ b o, b < w.heap.size + 1 → w1.frozen? ⟨b, o, none⟩ = _ := fun b o h => hf b o (by simp; omega)
  have ce := cell w.heap.size 0 (by omega)
  have fe := froz w.heap.size 0 (by omega)
  simp [go_sem] at ce fe
  clear hc hf cell froz
  refine leaves_cons (f := 155) (args := #[.pointer (some ⟨w.heap.size, 0, none⟩)]) (by simp) (by simp [go_sem]) ?_
  refine (ansS_idle ⟨w.heap.size, 0, none⟩ _).mono ?_
  rintro e u' w2 ⟨rfl, rfl, rfl⟩
  simp [Leaves, settle, results, Tryz.results98, go_sem, ce]
  (repeat refine Below.setCell ?_ (by simp) _)
  exact below_then (by go_grown) hb1 (by simp <;> omega)

set_option maxRecDepth 100000 in
set_option maxHeartbeats 400000 in
theorem answeredS_no (fn : Nat) (cap : Array Value) (n : Int) (w : World) (hcf : ∀ W : World, (callFunc fn cap).run Tryz.prog W = .ok (.enter fn cap) W)
    (h : ∀ W : World, Below w.heap.size w W → Calls Tryz.prog fn cap W fun e w' => e = refusal n ∧ Below W.heap.size W w') :
    Calls Tryz.prog 98 #[.func (.func fn) #[] cap] w fun e w' => e = .returned (.tuple #[.string ⟨#[]⟩, .int .i64 n]) ∧ Below w.heap.size w w' := by
  have hmf : ∀ (fn : Fn) (first cap : Array Value) (w : World), (Instr.makeFunc fn first cap).run Tryz.prog w = .ok (.func fn first cap) w := fun _ _ _ _ => rfl
  have H := Lib.hid h
  clear h
  go_enter_defers Tryz.func98, Tryz.ntmps98
  go_wp2_with (refine (H.out _ (by go_grown)).mono ?_; rintro e w1 ⟨rfl, hb1⟩; obtain ⟨hc, hf⟩ := bcell hb1; have hz := hb1.size)
  have cell : ∀ b o, b < w.heap.size + 1 → w1.cell? ⟨b, o, none⟩ = _ := fun b o h => hc b o (by simp; omega)
  have froz : ∀ b o, b < w.heap.size + 1 → w1.frozen? ⟨b, o, none⟩ = _ := fun b o h => hf b o (by simp; omega)
  have ce := cell w.heap.size 0 (by omega)
  have fe := froz w.heap.size 0 (by omega)
  simp [go_sem] at ce fe
  clear hc hf cell froz
  refine leaves_cons (f := 155) (args := #[.pointer (some ⟨w.heap.size, 0, none⟩)]) (by simp) (by simp [go_sem]) ?_
  refine (ansS_caught ⟨w.heap.size, 0, none⟩ n 0 _ ce fe).mono ?_
  rintro e u' w2 ⟨rfl, rfl, rfl⟩
  simp [Leaves, settle, results, Tryz.results98, go_sem, ce]
  (repeat refine Below.setCell ?_ (by simp) _)
  exact below_then (by go_grown) hb1 (by simp <;> omega)

end Go.Proofs.YtcekphfmpjdbmaaGreatDoor
