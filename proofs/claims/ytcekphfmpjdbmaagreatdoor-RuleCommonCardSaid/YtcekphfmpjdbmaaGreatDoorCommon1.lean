/- Slices without an element: demandValid, demandNumbers, asked, light. -/
import Derived.Test.YtcekphfmpjdbmaaGreatDoorSlices
namespace Go.Proofs.YtcekphfmpjdbmaaGreatDoor
open Go.RowKit

set_option maxHeartbeats 1000000 in
theorem demandValid_nil (sa : Option Addr) (cap : Nat) (w : World) :
    Calls Tryz.prog 70 #[.slice sa 0 cap] w fun e w' => e = .returned (.tuple #[]) ∧ w = w' := by
  go_enter Tryz.func70, Tryz.ntmps70
  go_wp2
  refine wp_loop_rounds 1 ?_
  rw [rounds_succ]
  go_wp2
  go_end0
  exact ⟨rfl, rfl⟩

set_option maxHeartbeats 1000000 in
theorem demandNumbers_nil (sa : Option Addr) (cap : Nat) (w : World) :
    Calls Tryz.prog 66 #[.slice sa 0 cap] w fun e w' => e = .returned (.tuple #[]) ∧ w = w' := by
  go_enter Tryz.func66, Tryz.ntmps66
  go_wp2_with (go_at_call 70; refine (demandValid_nil _ _ _).mono ?_; rintro e w1 ⟨rfl, rfl⟩)
  refine wp_loop_rounds 1 ?_
  rw [rounds_succ]
  go_wp2
  go_end0
  exact ⟨rfl, rfl⟩

set_option maxHeartbeats 1000000 in
theorem asked_nil (sa : Option Addr) (cap : Nat) (w : World) :
    Calls Tryz.prog 59 #[.slice sa 0 cap] w fun e w' => e = .returned (.int .i64 0) ∧ w = w' := by
  go_enter Tryz.func59, Tryz.ntmps59
  go_wp2
  refine wp_loop_rounds 1 ?_
  rw [rounds_succ]
  go_wp2
  refine wp_loop_rounds 1 ?_
  rw [rounds_succ]
  go_wp2
  go_ret
  exact ⟨rfl, rfl⟩

set_option maxHeartbeats 1000000 in
theorem light_nil (sa : Option Addr) (cap : Nat) (w : World) :
    Calls Tryz.prog 11 #[.slice sa 0 cap] w fun e w' => e = .returned (.bool true) ∧ w = w' := by
  go_enter Tryz.func11, Tryz.ntmps11
  go_wp2
  refine wp_loop_rounds 1 ?_
  rw [rounds_succ]
  go_wp2
  go_ret
  exact ⟨rfl, rfl⟩
end Go.Proofs.YtcekphfmpjdbmaaGreatDoor
