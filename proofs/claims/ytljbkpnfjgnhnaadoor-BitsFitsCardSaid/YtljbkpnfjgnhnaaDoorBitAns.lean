/- bits.answered for its four types: the deferred closure's contracts and answered itself. -/
import Derived.Test.YtljbkpnfjgnhnaaDoorBit1
import Derived.Defers
import Derived.Recover
namespace Go.Proofs.YtljbkpnfjgnhnaaDoor
open Go.RowKit

abbrev bRef (n : Int) : Ending := .panicked [{ v := .iface 73 (.int .i64 n), recovered := false }]
abbrev tkV (k n q : Int) (s : ByteArray) (c : Int) : Value := .agg #[.int .i64 k, .int .i64 n, .int .i64 q, .string s, .int .i64 c]
/-- How the work of a call ends: with an answer, or left with an error. -/
def outE (err : Int) (v : Value) : Ending := if err = 0 then .returned v else bRef err
theorem outE_ok (v : Value) : outE 0 v = .returned v := rfl
theorem outE_no {n : Int} (v : Value) (h : n ≠ 0) : outE n v = bRef n := if_neg h

set_option maxHeartbeats 400000 in
theorem ansV_idle (p : Addr) (w : World) :
    CallsD Tryd.prog 45 #[.pointer (some p)] .returning w fun e u' w' => e = .returned (.tuple #[]) ∧ u' = .returning ∧ w = w' := by
  refine callsD_of_wpS Tryd.func45 rfl fun c₀ cs hu => ?_
  apply wpS_seq
  apply wpS_region
  simp [wpOpsS, go_sem, recoverD, hu, Tryd.ntmps45, Exit.thenS]
  refine wpS_of_wp ?_
  rw [show (#[Value.pointer (some p)] ++ (Array.replicate 9 undef).setIfInBounds 3 Value.nilIface) = #[Value.pointer (some p), undef, undef, undef, .nilIface, undef, undef, undef, undef, undef] from rfl]
  go_wp2
  cases c₀
  simp_all [bodyPostS, results, Tryd.results45]

set_option maxRecDepth 100000 in
set_option maxHeartbeats 400000 in
theorem ansV_caught (p : Addr) (n x : Int) (w : World) (hc : w.cell? p = some (.int .i64 x)) (hz : w.frozen? p = false) :
    CallsD Tryd.prog 45 #[.pointer (some p)] (.panicking [{ v := .iface 73 (.int .i64 n), recovered := false }]) w fun e u' w' => e = .returned (.tuple #[]) ∧ u' = .panicking [{ v := .iface 73 (.int .i64 n), recovered := true }] ∧ w.setCell p (.int .i64 n) = w' := by
  refine callsD_of_wpS Tryd.func45 rfl fun c₀ cs hu => ?_
  apply wpS_seq
  apply wpS_region
  simp [wpOpsS, go_sem, recoverD, hu, Tryd.ntmps45, Exit.thenS]
  refine wpS_of_wp ?_
  rw [show (#[Value.pointer (some p)] ++ (Array.replicate 9 undef).setIfInBounds 3 (.iface 73 (.int .i64 n))) = #[Value.pointer (some p), undef, undef, undef, .iface 73 (.int .i64 n), undef, undef, undef, undef, undef] from rfl]
  generalize hc1 : ({ c₀ with mode := .panicking [{ v := .iface 73 (.int .i64 n), recovered := true }] } : Frame) = c1
  have HU := Lib.hid hu
  have HC := Lib.hid hc1
  clear hu hc1
  have q1 : ∀ (w : World), (binOp .eql 20 (.iface 73 (.int .i64 n)) .nilIface).run Tryd.prog w = .ok (.bool false) w := fun _ => by kernel_rfl
  have q2 : ∀ (w : World), (Instr.typeAssert (.iface 73 (.int .i64 n)) 20 73 true).run Tryd.prog w = .ok (.tuple #[.int .i64 n, .bool true]) w := fun _ => by kernel_rfl
  go_wp2
  have hu := HU.out
  have hc1 := HC.out
  subst hc1
  clear HU HC
  cases c₀
  simp_all [bodyPostS, results, Tryd.results45]

set_option maxRecDepth 100000 in
set_option maxHeartbeats 400000 in
theorem bAnsV_ok (fn : Nat) (cap : Array Value) (k n q : Int) (s : ByteArray) (w : World) (hcf : ∀ W : World, (callFunc fn cap).run Tryd.prog W = .ok (.enter fn cap) W)
    (h : ∀ W : World, Below w.heap.size w W → Calls Tryd.prog fn cap W fun e w' => e = .returned (vlV k n q s) ∧ Below W.heap.size W w') :
    Calls Tryd.prog 26 #[.func (.func fn) #[] cap] w fun e w' => e = .returned (.tuple #[vlV k n q s, .int .i64 0]) ∧ Below w.heap.size w w' := by
  have hmf : ∀ (fn : Fn) (first cap : Array Value) (w : World), (Instr.makeFunc fn first cap).run Tryd.prog w = .ok (.func fn first cap) w := fun _ _ _ _ => rfl
  have H := Lib.hid h
  clear h
  go_enter_defers Tryd.func26, Tryd.ntmps26
  go_wp2_with (refine (H.out _ (by go_grown)).mono ?_; rintro e w1 ⟨rfl, hb1⟩; obtain ⟨hc, hf⟩ := bcell hb1; have hz := hb1.size)
  refine leaves_cons (f := 45) (args := #[.pointer (some ⟨w.heap.size + 1, 0, none⟩)]) (by simp) (by simp [go_sem]) ?_
  refine (ansV_idle ⟨w.heap.size + 1, 0, none⟩ _).mono ?_
  rintro e u' w2 ⟨rfl, rfl, rfl⟩
  have cell : ∀ b o, b < w.heap.size + 1 + 1 → w1.cell? ⟨b, o, none⟩ = _ := fun b o h => hc b o (by simp; omega)
  have c0 := cell w.heap.size 0 (by omega)
  have c1 := cell w.heap.size 1 (by omega)
  have c2 := cell w.heap.size 2 (by omega)
  have c3 := cell w.heap.size 3 (by omega)
  have ce := cell (w.heap.size + 1) 0 (by omega)
  simp [go_sem] at c0 c1 c2 c3 ce
  clear hc hf cell
  simp [Leaves, settle, results, Tryd.results26, go_sem, c0, c1, c2, c3, ce]
  (repeat refine Below.setCell ?_ (by simp) _)
  exact below_then (by go_grown) hb1 (by simp <;> omega)

set_option maxRecDepth 100000 in
set_option maxHeartbeats 400000 in
theorem bAnsV_no (fn : Nat) (cap : Array Value) (n : Int) (w : World) (hcf : ∀ W : World, (callFunc fn cap).run Tryd.prog W = .ok (.enter fn cap) W)
    (h : ∀ W : World, Below w.heap.size w W → Calls Tryd.prog fn cap W fun e w' => e = bRef n ∧ Below W.heap.size W w') :
    Calls Tryd.prog 26 #[.func (.func fn) #[] cap] w fun e w' => e = .returned (.tuple #[vlV 0 0 0 ⟨#[]⟩, .int .i64 n]) ∧ Below w.heap.size w w' := by
  have hmf : ∀ (fn : Fn) (first cap : Array Value) (w : World), (Instr.makeFunc fn first cap).run Tryd.prog w = .ok (.func fn first cap) w := fun _ _ _ _ => rfl
  have H := Lib.hid h
  clear h
  go_enter_defers Tryd.func26, Tryd.ntmps26
  go_wp2_with (refine (H.out _ (by go_grown)).mono ?_; rintro e w1 ⟨rfl, hb1⟩; obtain ⟨hc, hf⟩ := bcell hb1; have hz := hb1.size)
  have cell : ∀ b o, b < w.heap.size + 1 + 1 → w1.cell? ⟨b, o, none⟩ = _ := fun b o h => hc b o (by simp; omega)
  have froz : ∀ b o, b < w.heap.size + 1 + 1 → w1.frozen? ⟨b, o, none⟩ = _ := fun b o h => hf b o (by simp; omega)
  have c0 := cell w.heap.size 0 (by omega)
  have c1 := cell w.heap.size 1 (by omega)
  have c2 := cell w.heap.size 2 (by omega)
  have c3 := cell w.heap.size 3 (by omega)
  have ce := cell (w.heap.size + 1) 0 (by omega)
  have fe := froz (w.heap.size + 1) 0 (by omega)
  simp [go_sem] at c0 c1 c2 c3 ce fe
  clear hc hf cell froz
  refine leaves_cons (f := 45) (args := #[.pointer (some ⟨w.heap.size + 1, 0, none⟩)]) (by simp) (by simp [go_sem]) ?_
  refine (ansV_caught ⟨w.heap.size + 1, 0, none⟩ n 0 _ ce fe).mono ?_
  rintro e u' w2 ⟨rfl, rfl, rfl⟩
  simp [Leaves, settle, results, Tryd.results26, go_sem, c0, c1, c2, c3, ce]
  (repeat refine Below.setCell ?_ (by simp) _)
  exact below_then (by go_grown) hb1 (by simp <;> omega)

theorem bAnsV_any (fn : Nat) (cap : Array Value) (err : Int) (k n q : Int) (s : ByteArray) (w : World) (hcf : ∀ W : World, (callFunc fn cap).run Tryd.prog W = .ok (.enter fn cap) W)
    (h : ∀ W : World, Below w.heap.size w W → Calls Tryd.prog fn cap W fun e w' => e = outE err (vlV k n q s) ∧ Below W.heap.size W w') :
    Calls Tryd.prog 26 #[.func (.func fn) #[] cap] w fun e w' => e = .returned (.tuple #[if err = 0 then vlV k n q s else vlV 0 0 0 ⟨#[]⟩, .int .i64 err]) ∧ Below w.heap.size w w' := by
  by_cases h0 : err = 0
  · subst h0
    exact bAnsV_ok fn cap k n q s w hcf h
  · rw [if_neg h0]
    exact bAnsV_no fn cap err w hcf (fun W hW => (h W hW).mono fun e w' ⟨he, hb⟩ => ⟨he.trans (outE_no _ h0), hb⟩)

set_option maxHeartbeats 400000 in
theorem ansK_idle (p : Addr) (w : World) :
    CallsD Tryd.prog 40 #[.pointer (some p)] .returning w fun e u' w' => e = .returned (.tuple #[]) ∧ u' = .returning ∧ w = w' := by
  refine callsD_of_wpS Tryd.func40 rfl fun c₀ cs hu => ?_
  apply wpS_seq
  apply wpS_region
  simp [wpOpsS, go_sem, recoverD, hu, Tryd.ntmps40, Exit.thenS]
  refine wpS_of_wp ?_
  rw [show (#[Value.pointer (some p)] ++ (Array.replicate 9 undef).setIfInBounds 3 Value.nilIface) = #[Value.pointer (some p), undef, undef, undef, .nilIface, undef, undef, undef, undef, undef] from rfl]
  go_wp2
  cases c₀
  simp_all [bodyPostS, results, Tryd.results40]

set_option maxRecDepth 100000 in
set_option maxHeartbeats 400000 in
theorem ansK_caught (p : Addr) (n x : Int) (w : World) (hc : w.cell? p = some (.int .i64 x)) (hz : w.frozen? p = false) :
    CallsD Tryd.prog 40 #[.pointer (some p)] (.panicking [{ v := .iface 73 (.int .i64 n), recovered := false }]) w fun e u' w' => e = .returned (.tuple #[]) ∧ u' = .panicking [{ v := .iface 73 (.int .i64 n), recovered := true }] ∧ w.setCell p (.int .i64 n) = w' := by
  refine callsD_of_wpS Tryd.func40 rfl fun c₀ cs hu => ?_
  apply wpS_seq
  apply wpS_region
  simp [wpOpsS, go_sem, recoverD, hu, Tryd.ntmps40, Exit.thenS]
  refine wpS_of_wp ?_
  rw [show (#[Value.pointer (some p)] ++ (Array.replicate 9 undef).setIfInBounds 3 (.iface 73 (.int .i64 n))) = #[Value.pointer (some p), undef, undef, undef, .iface 73 (.int .i64 n), undef, undef, undef, undef, undef] from rfl]
  generalize hc1 : ({ c₀ with mode := .panicking [{ v := .iface 73 (.int .i64 n), recovered := true }] } : Frame) = c1
  have HU := Lib.hid hu
  have HC := Lib.hid hc1
  clear hu hc1
  have q1 : ∀ (w : World), (binOp .eql 20 (.iface 73 (.int .i64 n)) .nilIface).run Tryd.prog w = .ok (.bool false) w := fun _ => by kernel_rfl
  have q2 : ∀ (w : World), (Instr.typeAssert (.iface 73 (.int .i64 n)) 20 73 true).run Tryd.prog w = .ok (.tuple #[.int .i64 n, .bool true]) w := fun _ => by kernel_rfl
  go_wp2
  have hu := HU.out
  have hc1 := HC.out
  subst hc1
  clear HU HC
  cases c₀
  simp_all [bodyPostS, results, Tryd.results40]

set_option maxRecDepth 100000 in
set_option maxHeartbeats 400000 in
theorem bAnsK_ok (fn : Nat) (cap : Array Value) (k n q : Int) (s : ByteArray) (c : Int) (w : World) (hcf : ∀ W : World, (callFunc fn cap).run Tryd.prog W = .ok (.enter fn cap) W)
    (h : ∀ W : World, Below w.heap.size w W → Calls Tryd.prog fn cap W fun e w' => e = .returned (tkV k n q s c) ∧ Below W.heap.size W w') :
    Calls Tryd.prog 18 #[.func (.func fn) #[] cap] w fun e w' => e = .returned (.tuple #[tkV k n q s c, .int .i64 0]) ∧ Below w.heap.size w w' := by
  have hmf : ∀ (fn : Fn) (first cap : Array Value) (w : World), (Instr.makeFunc fn first cap).run Tryd.prog w = .ok (.func fn first cap) w := fun _ _ _ _ => rfl
  have H := Lib.hid h
  clear h
  go_enter_defers Tryd.func18, Tryd.ntmps18
  go_wp2_with (refine (H.out _ (by go_grown)).mono ?_; rintro e w1 ⟨rfl, hb1⟩; obtain ⟨hc, hf⟩ := bcell hb1; have hz := hb1.size)
  refine leaves_cons (f := 40) (args := #[.pointer (some ⟨w.heap.size + 1, 0, none⟩)]) (by simp) (by simp [go_sem]) ?_
  refine (ansK_idle ⟨w.heap.size + 1, 0, none⟩ _).mono ?_
  rintro e u' w2 ⟨rfl, rfl, rfl⟩
  have cell : ∀ b o, b < w.heap.size + 1 + 1 → w1.cell? ⟨b, o, none⟩ = _ := fun b o h => hc b o (by simp; omega)
  have c0 := cell w.heap.size 0 (by omega)
  have c1 := cell w.heap.size 1 (by omega)
  have c2 := cell w.heap.size 2 (by omega)
  have c3 := cell w.heap.size 3 (by omega)
  have c4 := cell w.heap.size 4 (by omega)
  have ce := cell (w.heap.size + 1) 0 (by omega)
  simp [go_sem] at c0 c1 c2 c3 c4 ce
  clear hc hf cell
  simp [Leaves, settle, results, Tryd.results18, go_sem, c0, c1, c2, c3, c4, ce]
  (repeat refine Below.setCell ?_ (by simp) _)
  exact below_then (by go_grown) hb1 (by simp <;> omega)

set_option maxRecDepth 100000 in
set_option maxHeartbeats 400000 in
theorem bAnsK_no (fn : Nat) (cap : Array Value) (n : Int) (w : World) (hcf : ∀ W : World, (callFunc fn cap).run Tryd.prog W = .ok (.enter fn cap) W)
    (h : ∀ W : World, Below w.heap.size w W → Calls Tryd.prog fn cap W fun e w' => e = bRef n ∧ Below W.heap.size W w') :
    Calls Tryd.prog 18 #[.func (.func fn) #[] cap] w fun e w' => e = .returned (.tuple #[tkV 0 0 0 ⟨#[]⟩ 0, .int .i64 n]) ∧ Below w.heap.size w w' := by
  have hmf : ∀ (fn : Fn) (first cap : Array Value) (w : World), (Instr.makeFunc fn first cap).run Tryd.prog w = .ok (.func fn first cap) w := fun _ _ _ _ => rfl
  have H := Lib.hid h
  clear h
  go_enter_defers Tryd.func18, Tryd.ntmps18
  go_wp2_with (refine (H.out _ (by go_grown)).mono ?_; rintro e w1 ⟨rfl, hb1⟩; obtain ⟨hc, hf⟩ := bcell hb1; have hz := hb1.size)
  have cell : ∀ b o, b < w.heap.size + 1 + 1 → w1.cell? ⟨b, o, none⟩ = _ := fun b o h => hc b o (by simp; omega)
  have froz : ∀ b o, b < w.heap.size + 1 + 1 → w1.frozen? ⟨b, o, none⟩ = _ := fun b o h => hf b o (by simp; omega)
  have c0 := cell w.heap.size 0 (by omega)
  have c1 := cell w.heap.size 1 (by omega)
  have c2 := cell w.heap.size 2 (by omega)
  have c3 := cell w.heap.size 3 (by omega)
  have c4 := cell w.heap.size 4 (by omega)
  have ce := cell (w.heap.size + 1) 0 (by omega)
  have fe := froz (w.heap.size + 1) 0 (by omega)
  simp [go_sem] at c0 c1 c2 c3 c4 ce fe
  clear hc hf cell froz
  refine leaves_cons (f := 40) (args := #[.pointer (some ⟨w.heap.size + 1, 0, none⟩)]) (by simp) (by simp [go_sem]) ?_
  refine (ansK_caught ⟨w.heap.size + 1, 0, none⟩ n 0 _ ce fe).mono ?_
  rintro e u' w2 ⟨rfl, rfl, rfl⟩
  simp [Leaves, settle, results, Tryd.results18, go_sem, c0, c1, c2, c3, c4, ce]
  (repeat refine Below.setCell ?_ (by simp) _)
  exact below_then (by go_grown) hb1 (by simp <;> omega)

theorem bAnsK_any (fn : Nat) (cap : Array Value) (err : Int) (k n q : Int) (s : ByteArray) (c : Int) (w : World) (hcf : ∀ W : World, (callFunc fn cap).run Tryd.prog W = .ok (.enter fn cap) W)
    (h : ∀ W : World, Below w.heap.size w W → Calls Tryd.prog fn cap W fun e w' => e = outE err (tkV k n q s c) ∧ Below W.heap.size W w') :
    Calls Tryd.prog 18 #[.func (.func fn) #[] cap] w fun e w' => e = .returned (.tuple #[if err = 0 then tkV k n q s c else tkV 0 0 0 ⟨#[]⟩ 0, .int .i64 err]) ∧ Below w.heap.size w w' := by
  by_cases h0 : err = 0
  · subst h0
    exact bAnsK_ok fn cap k n q s c w hcf h
  · rw [if_neg h0]
    exact bAnsK_no fn cap err w hcf (fun W hW => (h W hW).mono fun e w' ⟨he, hb⟩ => ⟨he.trans (outE_no _ h0), hb⟩)

end Go.Proofs.YtljbkpnfjgnhnaaDoor
