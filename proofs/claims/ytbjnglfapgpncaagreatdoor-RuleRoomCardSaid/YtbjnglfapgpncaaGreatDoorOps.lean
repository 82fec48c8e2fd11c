/- rule.operators, operatorOf: the operators by their signs. -/
import Derived.Test.YtbjnglfapgpncaaGreatDoorBased
namespace Go.Proofs.YtbjnglfapgpncaaGreatDoor
open Go.RowKit

abbrev fnB (b : Nat) : Value := .func (.func 47) #[] #[.pointer (some ⟨b, 0, none⟩)]
abbrev fnO (n : Nat) : Value := .func (.func n) #[] #[]
def opsRow (b : Nat) : Array Value := #[.string ⟨#[43]⟩, fnB (b + 1), .string ⟨#[45]⟩, fnB (b + 1 + 1), .string ⟨#[42]⟩, fnB (b + 1 + 1 + 1), .string ⟨#[47]⟩, fnB (b + 1 + 1 + 1 + 1), .string ⟨#[42, 42]⟩, fnO 45]
def opsWorld (w : World) : World :=
  ((((w.alloc (.cells (opsRow w.heap.size) 67)).alloc (.cells #[fnO 42] 80)).alloc (.cells #[fnO 42] 80)).alloc (.cells #[fnO 43] 80)).alloc (.cells #[fnO 44] 80)

set_option maxHeartbeats 1000000 in
theorem operators_any (w : World) :
    Calls Tryz.prog 37 #[] w fun e w' => e = .returned (.agg (opsRow w.heap.size)) ∧ w' = opsWorld w := by
  have hmf : ∀ (fn : Fn) (first cap : Array Value) (w : World), (Instr.makeFunc fn first cap).run Tryz.prog w = .ok (.func fn first cap) w := fun _ _ _ _ => rfl
  go_enter Tryz.func37, Tryz.ntmps37
  go_wp2
  exact bodyPost_ret (v := .agg (opsRow w.heap.size)) (by simp [results, Tryz.results37, go_sem, opsRow]) rfl ⟨rfl, rfl⟩

theorem opsWorld_size (w : World) : (opsWorld w).heap.size = w.heap.size + 1 + 1 + 1 + 1 + 1 := by unfold opsWorld; simp
theorem opsWorld_below (w : World) : Below w.heap.size w (opsWorld w) := by unfold opsWorld; go_grown

theorem operators_b (w : World) :
    Calls Tryz.prog 37 #[] w fun e w' => e = .returned (.agg (opsRow w.heap.size)) ∧ w.heap.size + 1 + 1 + 1 + 1 + 1 ≤ w'.heap.size ∧
      w'.cell? ⟨w.heap.size + 1, 0, none⟩ = some (fnO 42) ∧ w'.cell? ⟨w.heap.size + 1 + 1, 0, none⟩ = some (fnO 42) ∧
      w'.cell? ⟨w.heap.size + 1 + 1 + 1, 0, none⟩ = some (fnO 43) ∧ w'.cell? ⟨w.heap.size + 1 + 1 + 1 + 1, 0, none⟩ = some (fnO 44) ∧ Below w.heap.size w w' :=
  (operators_any w).mono fun _ _ ⟨he, hw⟩ => by
    subst hw
    exact ⟨he, by rw [opsWorld_size]; omega, by unfold opsWorld; simp [go_sem], by unfold opsWorld; simp [go_sem], by unfold opsWorld; simp [go_sem], by unfold opsWorld; simp [go_sem], opsWorld_below w⟩

theorem ix (b : Nat) (w : World) :
    (Instr.index 67 (.agg (opsRow b)) (.int .i64 0)).run Tryz.prog w = .ok (.agg #[.string ⟨#[43]⟩, fnB (b + 1)]) w ∧
    (Instr.index 67 (.agg (opsRow b)) (.int .i64 1)).run Tryz.prog w = .ok (.agg #[.string ⟨#[45]⟩, fnB (b + 1 + 1)]) w ∧
    (Instr.index 67 (.agg (opsRow b)) (.int .i64 2)).run Tryz.prog w = .ok (.agg #[.string ⟨#[42]⟩, fnB (b + 1 + 1 + 1)]) w ∧
    (Instr.index 67 (.agg (opsRow b)) (.int .i64 3)).run Tryz.prog w = .ok (.agg #[.string ⟨#[47]⟩, fnB (b + 1 + 1 + 1 + 1)]) w ∧
    (Instr.index 67 (.agg (opsRow b)) (.int .i64 4)).run Tryz.prog w = .ok (.agg #[.string ⟨#[42, 42]⟩, fnO 45]) w :=
  ⟨by kernel_rfl, by kernel_rfl, by kernel_rfl, by kernel_rfl, by kernel_rfl⟩

set_option maxRecDepth 100000 in
set_option maxHeartbeats 2000000 in
theorem opOf_plus (w : World) :
    Calls Tryz.prog 23 #[.string ⟨#[43]⟩] w fun e w' => e = .returned (.agg #[.string ⟨#[43]⟩, fnB (w.heap.size + 1 + 1)]) ∧ w'.cell? ⟨w.heap.size + 1 + 1, 0, none⟩ = some (fnO 42) ∧ w.heap.size + 1 + 1 < w'.heap.size ∧ Below w.heap.size w w' := by
  have i0 := fun b w => (ix b w).1
  have i1 := fun b w => (ix b w).2.1
  have i2 := fun b w => (ix b w).2.2.1
  have i3 := fun b w => (ix b w).2.2.2.1
  have i4 := fun b w => (ix b w).2.2.2.2
  go_enter Tryz.func23, Tryz.ntmps23
  go_wp2_with fail
  go_at_call 37
  refine (operators_b _).mono ?_
  rintro e w1 ⟨rfl, hz, c1, c2, c3, c4, hb1⟩
  simp at hz c1 c2 c3 c4
  obtain ⟨hc, hf⟩ := bcell hb1
  have g0 : w.heap.size < w1.heap.size := by omega
  have g1 : w.heap.size + 1 + 1 < w1.heap.size := by omega
  have g2 : w.heap.size + 1 + 1 + 1 < w1.heap.size := by omega
  have g3 : w.heap.size + 1 + 1 + 1 + 1 < w1.heap.size := by omega
  have g4 : w.heap.size + 1 + 1 + 1 + 1 + 1 < w1.heap.size := by omega
  have n2 : ∀ n : Nat, n < n + 1 + 1 := fun n => by omega
  have n3 : ∀ n : Nat, n < n + 1 + 1 + 1 := fun n => by omega
  have n4 : ∀ n : Nat, n < n + 1 + 1 + 1 + 1 := fun n => by omega
  have h1 : w.heap.size < w1.heap.size + 1 := by omega
  have h2 : w.heap.size < w1.heap.size + 1 + 1 := by omega
  have h3 : w.heap.size < w1.heap.size + 1 + 1 + 1 := by omega
  have h4 : w.heap.size < w1.heap.size + 1 + 1 + 1 + 1 := by omega
  have h5 : w.heap.size < w1.heap.size + 1 + 1 + 1 + 1 + 1 := by omega
  go_wp2
  refine wp_loop_rounds 1 ?_
  rw [rounds_succ]
  go_wp2
  refine bodyPost_ret (v := .agg #[.string ⟨#[43]⟩, fnB (w.heap.size + 1 + 1)]) (by simp [results, Tryz.results23, go_sem, *]) rfl ⟨rfl, ?_⟩
  refine ⟨?_, by simp [go_sem]; omega, ?_⟩
  · have q1 : w.heap.size + 1 + 1 < w1.heap.size + 1 := by omega
    have q2 : w.heap.size + 1 + 1 < w1.heap.size + 1 + 1 := by omega
    have q3 : w.heap.size + 1 + 1 < w1.heap.size + 1 + 1 + 1 := by omega
    have q4 : w.heap.size + 1 + 1 < w1.heap.size + 1 + 1 + 1 + 1 := by omega
    simp [go_sem, *]
  · (repeat first | refine Below.setCell ?_ (by simp <;> omega) _ | refine Below.alloc ?_ (by simp <;> omega) _)
    exact below_then (by go_grown) hb1 (by simp <;> omega)

set_option maxRecDepth 100000 in
set_option maxHeartbeats 2000000 in
theorem opOf_minus (w : World) :
    Calls Tryz.prog 23 #[.string ⟨#[45]⟩] w fun e w' => e = .returned (.agg #[.string ⟨#[45]⟩, fnB (w.heap.size + 1 + 1 + 1)]) ∧ w'.cell? ⟨w.heap.size + 1 + 1 + 1, 0, none⟩ = some (fnO 42) ∧ w.heap.size + 1 + 1 + 1 < w'.heap.size ∧ Below w.heap.size w w' := by
  have i0 := fun b w => (ix b w).1
  have i1 := fun b w => (ix b w).2.1
  have i2 := fun b w => (ix b w).2.2.1
  have i3 := fun b w => (ix b w).2.2.2.1
  have i4 := fun b w => (ix b w).2.2.2.2
  go_enter Tryz.func23, Tryz.ntmps23
  go_wp2_with fail
  go_at_call 37
  refine (operators_b _).mono ?_
  rintro e w1 ⟨rfl, hz, c1, c2, c3, c4, hb1⟩
  simp at hz c1 c2 c3 c4
  obtain ⟨hc, hf⟩ := bcell hb1
  have g0 : w.heap.size < w1.heap.size := by omega
  have g1 : w.heap.size + 1 + 1 < w1.heap.size := by omega
  have g2 : w.heap.size + 1 + 1 + 1 < w1.heap.size := by omega
  have g3 : w.heap.size + 1 + 1 + 1 + 1 < w1.heap.size := by omega
  have g4 : w.heap.size + 1 + 1 + 1 + 1 + 1 < w1.heap.size := by omega
  have n2 : ∀ n : Nat, n < n + 1 + 1 := fun n => by omega
  have n3 : ∀ n : Nat, n < n + 1 + 1 + 1 := fun n => by omega
  have n4 : ∀ n : Nat, n < n + 1 + 1 + 1 + 1 := fun n => by omega
  have h1 : w.heap.size < w1.heap.size + 1 := by omega
  have h2 : w.heap.size < w1.heap.size + 1 + 1 := by omega
  have h3 : w.heap.size < w1.heap.size + 1 + 1 + 1 := by omega
  have h4 : w.heap.size < w1.heap.size + 1 + 1 + 1 + 1 := by omega
  have h5 : w.heap.size < w1.heap.size + 1 + 1 + 1 + 1 + 1 := by omega
  go_wp2
  refine wp_loop_rounds 2 ?_
  rw [rounds_succ]
  go_wp2
  rw [rounds_succ]
  go_wp2
  refine bodyPost_ret (v := .agg #[.string ⟨#[45]⟩, fnB (w.heap.size + 1 + 1 + 1)]) (by simp [results, Tryz.results23, go_sem, *]) rfl ⟨rfl, ?_⟩
  refine ⟨?_, by simp [go_sem]; omega, ?_⟩
  · have q1 : w.heap.size + 1 + 1 + 1 < w1.heap.size + 1 := by omega
    have q2 : w.heap.size + 1 + 1 + 1 < w1.heap.size + 1 + 1 := by omega
    have q3 : w.heap.size + 1 + 1 + 1 < w1.heap.size + 1 + 1 + 1 := by omega
    have q4 : w.heap.size + 1 + 1 + 1 < w1.heap.size + 1 + 1 + 1 + 1 := by omega
    simp [go_sem, *]
  · (repeat first | refine Below.setCell ?_ (by simp <;> omega) _ | refine Below.alloc ?_ (by simp <;> omega) _)
    exact below_then (by go_grown) hb1 (by simp <;> omega)

set_option maxRecDepth 100000 in
set_option maxHeartbeats 2000000 in
theorem opOf_times (w : World) :
    Calls Tryz.prog 23 #[.string ⟨#[42]⟩] w fun e w' => e = .returned (.agg #[.string ⟨#[42]⟩, fnB (w.heap.size + 1 + 1 + 1 + 1)]) ∧ w'.cell? ⟨w.heap.size + 1 + 1 + 1 + 1, 0, none⟩ = some (fnO 43) ∧ w.heap.size + 1 + 1 + 1 + 1 < w'.heap.size ∧ Below w.heap.size w w' := by
  have i0 := fun b w => (ix b w).1
  have i1 := fun b w => (ix b w).2.1
  have i2 := fun b w => (ix b w).2.2.1
  have i3 := fun b w => (ix b w).2.2.2.1
  have i4 := fun b w => (ix b w).2.2.2.2
  go_enter Tryz.func23, Tryz.ntmps23
  go_wp2_with fail
  go_at_call 37
  refine (operators_b _).mono ?_
  rintro e w1 ⟨rfl, hz, c1, c2, c3, c4, hb1⟩
  simp at hz c1 c2 c3 c4
  obtain ⟨hc, hf⟩ := bcell hb1
  have g0 : w.heap.size < w1.heap.size := by omega
  have g1 : w.heap.size + 1 + 1 < w1.heap.size := by omega
  have g2 : w.heap.size + 1 + 1 + 1 < w1.heap.size := by omega
  have g3 : w.heap.size + 1 + 1 + 1 + 1 < w1.heap.size := by omega
  have g4 : w.heap.size + 1 + 1 + 1 + 1 + 1 < w1.heap.size := by omega
  have n2 : ∀ n : Nat, n < n + 1 + 1 := fun n => by omega
  have n3 : ∀ n : Nat, n < n + 1 + 1 + 1 := fun n => by omega
  have n4 : ∀ n : Nat, n < n + 1 + 1 + 1 + 1 := fun n => by omega
  have h1 : w.heap.size < w1.heap.size + 1 := by omega
  have h2 : w.heap.size < w1.heap.size + 1 + 1 := by omega
  have h3 : w.heap.size < w1.heap.size + 1 + 1 + 1 := by omega
  have h4 : w.heap.size < w1.heap.size + 1 + 1 + 1 + 1 := by omega
  have h5 : w.heap.size < w1.heap.size + 1 + 1 + 1 + 1 + 1 := by omega
  go_wp2
  refine wp_loop_rounds 3 ?_
  rw [rounds_succ]
  go_wp2
  rw [rounds_succ]
  go_wp2
  rw [rounds_succ]
  go_wp2
  refine bodyPost_ret (v := .agg #[.string ⟨#[42]⟩, fnB (w.heap.size + 1 + 1 + 1 + 1)]) (by simp [results, Tryz.results23, go_sem, *]) rfl ⟨rfl, ?_⟩
  refine ⟨?_, by simp [go_sem]; omega, ?_⟩
  · have q1 : w.heap.size + 1 + 1 + 1 + 1 < w1.heap.size + 1 := by omega
    have q2 : w.heap.size + 1 + 1 + 1 + 1 < w1.heap.size + 1 + 1 := by omega
    have q3 : w.heap.size + 1 + 1 + 1 + 1 < w1.heap.size + 1 + 1 + 1 := by omega
    have q4 : w.heap.size + 1 + 1 + 1 + 1 < w1.heap.size + 1 + 1 + 1 + 1 := by omega
    simp [go_sem, *]
  · (repeat first | refine Below.setCell ?_ (by simp <;> omega) _ | refine Below.alloc ?_ (by simp <;> omega) _)
    exact below_then (by go_grown) hb1 (by simp <;> omega)

set_option maxRecDepth 100000 in
set_option maxHeartbeats 2000000 in
theorem opOf_over (w : World) :
    Calls Tryz.prog 23 #[.string ⟨#[47]⟩] w fun e w' => e = .returned (.agg #[.string ⟨#[47]⟩, fnB (w.heap.size + 1 + 1 + 1 + 1 + 1)]) ∧ w'.cell? ⟨w.heap.size + 1 + 1 + 1 + 1 + 1, 0, none⟩ = some (fnO 44) ∧ w.heap.size + 1 + 1 + 1 + 1 + 1 < w'.heap.size ∧ Below w.heap.size w w' := by
  have i0 := fun b w => (ix b w).1
  have i1 := fun b w => (ix b w).2.1
  have i2 := fun b w => (ix b w).2.2.1
  have i3 := fun b w => (ix b w).2.2.2.1
  have i4 := fun b w => (ix b w).2.2.2.2
  go_enter Tryz.func23, Tryz.ntmps23
  go_wp2_with fail
  go_at_call 37
  refine (operators_b _).mono ?_
  rintro e w1 ⟨rfl, hz, c1, c2, c3, c4, hb1⟩
  simp at hz c1 c2 c3 c4
  obtain ⟨hc, hf⟩ := bcell hb1
  have g0 : w.heap.size < w1.heap.size := by omega
  have g1 : w.heap.size + 1 + 1 < w1.heap.size := by omega
  have g2 : w.heap.size + 1 + 1 + 1 < w1.heap.size := by omega
  have g3 : w.heap.size + 1 + 1 + 1 + 1 < w1.heap.size := by omega
  have g4 : w.heap.size + 1 + 1 + 1 + 1 + 1 < w1.heap.size := by omega
  have n2 : ∀ n : Nat, n < n + 1 + 1 := fun n => by omega
  have n3 : ∀ n : Nat, n < n + 1 + 1 + 1 := fun n => by omega
  have n4 : ∀ n : Nat, n < n + 1 + 1 + 1 + 1 := fun n => by omega
  have h1 : w.heap.size < w1.heap.size + 1 := by omega
  have h2 : w.heap.size < w1.heap.size + 1 + 1 := by omega
  have h3 : w.heap.size < w1.heap.size + 1 + 1 + 1 := by omega
  have h4 : w.heap.size < w1.heap.size + 1 + 1 + 1 + 1 := by omega
  have h5 : w.heap.size < w1.heap.size + 1 + 1 + 1 + 1 + 1 := by omega
  go_wp2
  refine wp_loop_rounds 4 ?_
  rw [rounds_succ]
  go_wp2
  rw [rounds_succ]
  go_wp2
  rw [rounds_succ]
  go_wp2
  rw [rounds_succ]
  go_wp2
  refine bodyPost_ret (v := .agg #[.string ⟨#[47]⟩, fnB (w.heap.size + 1 + 1 + 1 + 1 + 1)]) (by simp [results, Tryz.results23, go_sem, *]) rfl ⟨rfl, ?_⟩
  refine ⟨?_, by simp [go_sem]; omega, ?_⟩
  · have q1 : w.heap.size + 1 + 1 + 1 + 1 + 1 < w1.heap.size + 1 := by omega
    have q2 : w.heap.size + 1 + 1 + 1 + 1 + 1 < w1.heap.size + 1 + 1 := by omega
    have q3 : w.heap.size + 1 + 1 + 1 + 1 + 1 < w1.heap.size + 1 + 1 + 1 := by omega
    have q4 : w.heap.size + 1 + 1 + 1 + 1 + 1 < w1.heap.size + 1 + 1 + 1 + 1 := by omega
    simp [go_sem, *]
  · (repeat first | refine Below.setCell ?_ (by simp <;> omega) _ | refine Below.alloc ?_ (by simp <;> omega) _)
    exact below_then (by go_grown) hb1 (by simp <;> omega)

set_option maxRecDepth 100000 in
set_option maxHeartbeats 2000000 in
theorem opOf_power (w : World) :
    Calls Tryz.prog 23 #[.string ⟨#[42, 42]⟩] w fun e w' => e = .returned (.agg #[.string ⟨#[42, 42]⟩, fnO 45]) ∧ Below w.heap.size w w' := by
  have i0 := fun b w => (ix b w).1
  have i1 := fun b w => (ix b w).2.1
  have i2 := fun b w => (ix b w).2.2.1
  have i3 := fun b w => (ix b w).2.2.2.1
  have i4 := fun b w => (ix b w).2.2.2.2
  go_enter Tryz.func23, Tryz.ntmps23
  go_wp2_with fail
  go_at_call 37
  refine (operators_b _).mono ?_
  rintro e w1 ⟨rfl, hz, c1, c2, c3, c4, hb1⟩
  simp at hz c1 c2 c3 c4
  obtain ⟨hc, hf⟩ := bcell hb1
  have g0 : w.heap.size < w1.heap.size := by omega
  have g1 : w.heap.size + 1 + 1 < w1.heap.size := by omega
  have g2 : w.heap.size + 1 + 1 + 1 < w1.heap.size := by omega
  have g3 : w.heap.size + 1 + 1 + 1 + 1 < w1.heap.size := by omega
  have g4 : w.heap.size + 1 + 1 + 1 + 1 + 1 < w1.heap.size := by omega
  have n2 : ∀ n : Nat, n < n + 1 + 1 := fun n => by omega
  have n3 : ∀ n : Nat, n < n + 1 + 1 + 1 := fun n => by omega
  have n4 : ∀ n : Nat, n < n + 1 + 1 + 1 + 1 := fun n => by omega
  have h1 : w.heap.size < w1.heap.size + 1 := by omega
  have h2 : w.heap.size < w1.heap.size + 1 + 1 := by omega
  have h3 : w.heap.size < w1.heap.size + 1 + 1 + 1 := by omega
  have h4 : w.heap.size < w1.heap.size + 1 + 1 + 1 + 1 := by omega
  have h5 : w.heap.size < w1.heap.size + 1 + 1 + 1 + 1 + 1 := by omega
  go_wp2
  refine wp_loop_rounds 5 ?_
  rw [rounds_succ]
  go_wp2
  rw [rounds_succ]
  go_wp2
  rw [rounds_succ]
  go_wp2
  rw [rounds_succ]
  go_wp2
  rw [rounds_succ]
  go_wp2
  refine bodyPost_ret (v := .agg #[.string ⟨#[42, 42]⟩, fnO 45]) (by simp [results, Tryz.results23, go_sem, *]) rfl ⟨rfl, ?_⟩
  (repeat first | refine Below.setCell ?_ (by simp <;> omega) _ | refine Below.alloc ?_ (by simp <;> omega) _)
  exact below_then (by go_grown) hb1 (by simp <;> omega)

end Go.Proofs.YtbjnglfapgpncaaGreatDoor
