/- Results of * and / in any base. -/
import Derived.Test.YtcekphfmpjdbmaaGreatDoorTurns0
import Derived.Test.YtcekphfmpjdbmaaGreatDoorRefPower
import Derived.Test.YtcekphfmpjdbmaaGreatDoorRefAssign
import Derived.Test.YtcekphfmpjdbmaaGreatDoorResFacts
namespace Go.Proofs.YtcekphfmpjdbmaaGreatDoor
open Go.RowKit

theorem refResult_times (ka pa qa kb pb qb : Int) (w : World) (hA : NumB ka pa qa) (hB : NumB kb pb qb) :
    Calls Tryz.prog 25 #[.string ⟨#[42]⟩, numV ka pa qa, numV kb pb qb] w fun e w' => e = .returned (.tuple #[numV (base ka kb) (rP 2 (base ka kb) ka pa qa kb pb qb) (rQ 2 (base ka kb) ka pa qa kb qb), .int .i64 0]) ∧ Below w.heap.size w w' := by
  rcases base_123 ka kb with h | h | h
  · rw [h]; exact refResult_times_1 ka pa qa kb pb qb w h hA hB
  · rw [h]; exact refResult_times_2 ka pa qa kb pb qb w h hA hB
  · rw [h]; exact refResult_times_3 ka pa qa kb pb qb w h hA hB
theorem refResult_over (ka pa qa kb pb qb : Int) (w : World) (hA : NumB ka pa qa) (hB : NumB kb pb qb) :
    Calls Tryz.prog 25 #[.string ⟨#[47]⟩, numV ka pa qa, numV kb pb qb] w fun e w' => e = .returned (.tuple #[numV (base ka kb) (rP 3 (base ka kb) ka pa qa kb pb qb) (rQ 3 (base ka kb) ka pa qa kb qb), .int .i64 0]) ∧ Below w.heap.size w w' := by
  rcases base_123 ka kb with h | h | h
  · rw [h]; exact refResult_over_1 ka pa qa kb pb qb w h hA hB
  · rw [h]; exact refResult_over_2 ka pa qa kb pb qb w h hA hB
  · rw [h]; exact refResult_over_3 ka pa qa kb pb qb w h hA hB
theorem turned_plus (ka pa qa kb pb qb : Int) (w : World) (hA : NumB ka pa qa) (hB : NumB kb pb qb) :
    Calls Tryz.prog 24 #[.string ⟨#[43]⟩, numV kb pb qb, numV ka pa qa] w fun e w' => e = .returned (.tuple #[numV (base ka kb) (rP 0 (base ka kb) ka pa qa kb pb qb) (rQ 0 (base ka kb) ka pa qa kb qb), .int .i64 0]) ∧ Below w.heap.size w w' :=
  (Result_plus kb pb qb ka pa qa w hB hA).mono fun _ _ ⟨he, hw⟩ => ⟨by rw [he, base_comm kb ka, rP_turn 0 _ kb pb qb ka pa qa (Or.inl rfl), rQ_turn 0 _ kb pb qb ka pa qa (Or.inl rfl)], hw⟩
theorem turned_times (ka pa qa kb pb qb : Int) (w : World) (hA : NumB ka pa qa) (hB : NumB kb pb qb) :
    Calls Tryz.prog 24 #[.string ⟨#[42]⟩, numV kb pb qb, numV ka pa qa] w fun e w' => e = .returned (.tuple #[numV (base ka kb) (rP 2 (base ka kb) ka pa qa kb pb qb) (rQ 2 (base ka kb) ka pa qa kb qb), .int .i64 0]) ∧ Below w.heap.size w w' :=
  (Result_times kb pb qb ka pa qa w hB hA).mono fun _ _ ⟨he, hw⟩ => ⟨by rw [he, base_comm kb ka, rP_turn 2 _ kb pb qb ka pa qa (Or.inr rfl), rQ_turn 2 _ kb pb qb ka pa qa (Or.inr rfl)], hw⟩
theorem eqSame (k p q n : Int) (vy : Bool) (pic : ByteArray) (w : World) :
    (binOp .eql 23 (tyV k p q n vy pic) (tyV k p q n vy pic)).run Tryz.prog w = .ok (.bool true) w := by
  have hE : (Op.equalIn Op.maxDepth 23 (tyV k p q n vy pic) (tyV k p q n vy pic)).run Tryz.prog w = _ := tyEq k p q n k p q n vy vy pic pic w
  have hG : Tryz.prog.eqGuardType Tryz.prog.depth 23 = false := by kernel_rfl
  simp only [binOp, Op.equal]
  simp [Sem.run_bind, hE]
theorem okpow {ka pa qa kb pb qb : Int} (hA : NumB ka pa qa) (hB : NumB kb pb qb) : (Ty.mk 3 (max (flP ka pa) (flP kb pb)) 0 0 false ⟨#[]⟩).ok = true := by
  have := hA.fl
  have := hB.fl
  exact ok_3 (by omega) (by omega)

end Go.Proofs.YtcekphfmpjdbmaaGreatDoor
