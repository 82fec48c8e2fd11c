/- The law's sanity check: ironbarklaw01.awake. -/
import Derived.Test.YtjdgefgdekanjaaGreatDoorWrdText
import Derived.Test.YtjdgefgdekanjaaGreatDoorWrdThird
namespace Go.Proofs.YtjdgefgdekanjaaGreatDoor
open Go.RowKit

theorem third_text : fixT 33333333333333 14 = [48, 46, 51, 51, 51, 51, 51, 51, 51, 51, 51, 51, 51, 51, 51, 51] := by
  have h : decT 33333333333333 = List.replicate 14 51 := by
    simp [decT, digs]
  unfold fixT
  rw [show (33333333333333 : Int).natAbs = 33333333333333 from rfl, h]
  decide

set_option maxRecDepth 100000 in
set_option maxHeartbeats 2000000 in
theorem awake_1 (w : World) : Calls Tryz.prog 5 #[] w fun e w' => e = .returned (.bool true) ∧ Below w.heap.size w w' := by
  have HD : Hid (∀ W, Calls Tryz.prog 14 #[vaV 2 1 0 emp, vaV 2 3 0 emp, .agg #[.int .i64 2, .int .i64 15, .int .i64 14, .int .i64 0, .bool false, .string emp]] W fun e w' => e = .returned (.tuple #[vaV 2 33333333333333 14 emp, .int .i64 0, .int .i64 0]) ∧ Below W.heap.size W w') := Lib.hid third
  have HT : Hid (∀ W, Calls Tryz.prog 15 #[vaV 2 33333333333333 14 emp] W fun e w' => e = .returned (.tuple #[.string ⟨#[48, 46, 51, 51, 51, 51, 51, 51, 51, 51, 51, 51, 51, 51, 51, 51]⟩, .int .i64 0]) ∧ Below W.heap.size W w') := Lib.hid fun W => by
    have := text_2 33333333333333 14 W (by decide) (by decide)
    rw [third_text] at this
    exact this
  go_enter Tryz.func5, Tryz.ntmps5
  go_wp2_with (first
    | (go_at_call 14; (refine (HD.out _).mono ?_); rintro e w1 ⟨rfl, hb1⟩)
    | (go_at_call 15; (refine (HT.out _).mono ?_); rintro e w2 ⟨rfl, hb2⟩))
  go_ret
  exact ⟨rfl, bl_box hb1 hb2⟩
end Go.Proofs.YtjdgefgdekanjaaGreatDoor
