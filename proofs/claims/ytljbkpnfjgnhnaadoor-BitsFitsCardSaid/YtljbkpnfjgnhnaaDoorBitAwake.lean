/- The law's sanity check of layer 5; light of its arguments. -/
import Derived.Test.YtljbkpnfjgnhnaaDoorBitSetSub
import Derived.Test.YtljbkpnfjgnhnaaDoorBitRef1
namespace Go.Proofs.YtljbkpnfjgnhnaaDoor
open Go.RowKit

def awA : Vl := ⟨4, 0, 0, bsz [97, 98, 99, 100, 101, 102]⟩
def awV : Vl := ⟨4, 0, 0, bsz [88, 89]⟩
theorem aw_e : setE awA awV 2 3 = 0 := by decide +kernel
theorem aw_l : setL 4 [97, 98, 99, 100, 101, 102] 2 3 [88, 89] = [97, 88, 89, 32, 101, 102] := by decide +kernel
theorem aw_c : partC [97, 98, 99, 100, 101, 102] 2 3 = 0 := by decide +kernel
theorem setSub_awake (w : World) :
    Calls Tryd.prog 16 #[vlV 4 0 0 (bsz [97, 98, 99, 100, 101, 102]), .int .i64 2, .int .i64 3, vlV 4 0 0 (bsz [88, 89])] w fun e w' => e = .returned (.tuple #[vlV 4 0 0 (bsz [97, 88, 89, 32, 101, 102]), .int .i64 0, .int .i64 0]) ∧ Below w.heap.size w w' := by
  refine (bSetSub_any awA 2 3 awV w (by decide) (by decide)).mono fun e w' ⟨he, hb⟩ => ⟨he.trans ?_, hb⟩
  rw [aw_e]
  show Ending.returned (.tuple #[vlV 4 0 0 (bsz (setL 4 [97, 98, 99, 100, 101, 102] 2 3 [88, 89])), .int .i64 (partC [97, 98, 99, 100, 101, 102] 2 3), .int .i64 0]) = _
  rw [aw_l, aw_c]

set_option maxRecDepth 100000 in
set_option maxHeartbeats 2000000 in
theorem awake_any (w : World) :
    Calls Tryd.prog 5 #[] w fun e w' => e = .returned (.bool true) ∧ Below w.heap.size w w' := by
  have hG : Tryd.prog.eqGuardType Tryd.prog.depth 23 = false := by kernel_rfl
  have hE := vlEq
  go_enter Tryd.func5, Tryd.ntmps5
  go_wp2_with fail
  go_at_call 17
  refine (text_any _ _).mono ?_
  rintro e wa ⟨rfl, ha⟩
  go_wp2_with fail
  go_at_call 17
  refine (text_any _ _).mono ?_
  rintro e wb ⟨rfl, hb⟩
  go_wp2_with fail
  go_at_call 16
  refine (setSub_awake _).mono ?_
  rintro e w3 ⟨rfl, hb3⟩
  have B3 := bl_then (bl_then ha hb) hb3
  go_wp2
  have R := Row.new w3 (vlC 4 0 0 (bsz [97, 88, 89, 32, 101, 102])) 23
  have B4 := B3.alloc B3.size (.cells (vlC 4 0 0 (bsz [97, 88, 89, 32, 101, 102])) 23)
  generalize w3.alloc (.cells (vlC 4 0 0 (bsz [97, 88, 89, 32, 101, 102])) 23) = W at *
  obtain ⟨x0, x1, x2, x3⟩ := R.four
  have l4 := R.lt
  have hq : ∀ W, (binOp .eql 23 (vlV 4 0 0 (bsz [97, 88, 89, 32, 101, 102])) (vlV 4 0 0 (bsz [97, 88, 89, 32, 101, 102]))).run Tryd.prog W = .ok (.bool true) W := fun W => by kernel_rfl
  go_region_held3 (fun w' => w'.cell? ⟨w3.heap.size, 0, none⟩ = some (.int .i64 4) ∧ w'.cell? ⟨w3.heap.size, 1, none⟩ = some (.int .i64 0) ∧ w'.cell? ⟨w3.heap.size, 2, none⟩ = some (.int .i64 0) ∧ w'.cell? ⟨w3.heap.size, 3, none⟩ = some (.string (bsz [97, 88, 89, 32, 101, 102])))
    (first | go_keep | exact R5.four)
    (first
      | (go_at_call 17; refine (text_any _ _).mono ?_; rintro e w5 ⟨rfl, hb5⟩; have R5 := R.keep (bl_drew hb5)))
  go_wp2
  go_ret
  exact ⟨ret_bool (by first | rfl | simp), bl_then B4 (bl_drew hb5)⟩
end Go.Proofs.YtljbkpnfjgnhnaaDoor
