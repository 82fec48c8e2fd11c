/- digit.Compare: its closure, where the first value is no number. digit.Compare: its closure, where the second value is no number. digit.Compare: its closure, any two values. digit.Compare: any two values. -/
import Derived.Test.YtjdgefgdekanjaaGreatDoorWrdCom
namespace Go.Proofs.YtjdgefgdekanjaaGreatDoor
open Go.RowKit

end Go.Proofs.YtjdgefgdekanjaaGreatDoor
namespace Go.Proofs.YtjdgefgdekanjaaGreatDoor
open Go.RowKit

end Go.Proofs.YtjdgefgdekanjaaGreatDoor
namespace Go.Proofs.YtjdgefgdekanjaaGreatDoor
open Go.RowKit

end Go.Proofs.YtjdgefgdekanjaaGreatDoor
namespace Go.Proofs.YtjdgefgdekanjaaGreatDoor
open Go.RowKit

set_option maxRecDepth 100000 in
set_option maxHeartbeats 400000 in
/-- guarded, over a work that ends either way: what it tells of the error and the world behind it. -/
theorem guard_any (fn : Nat) (cap : Array Value) (w : World) {R : Int → World → Prop} (hcf : ∀ W : World, (callFunc fn cap).run Tryz.prog W = .ok (.enter fn cap) W)
    (h : Calls Tryz.prog fn cap (w.alloc (.cells #[.int .i64 0] 28)) fun e w' => (∃ n : Int, (e = dRef n ∨ e = .returned (.tuple #[]) ∧ n = 0) ∧ R n w') ∧ w'.cell? ⟨w.heap.size, 0, none⟩ = some (.int .i64 0) ∧ w'.frozen? ⟨w.heap.size, 0, none⟩ = false) :
    Calls Tryz.prog 16 #[.func (.func fn) #[] cap] w fun e w' => ∃ n : Int, e = .returned (.int .i64 n) ∧ ∃ w1, R n w1 ∧ w' = w1.setCell ⟨w.heap.size, 0, none⟩ (.int .i64 n) := by
  have hmf : ∀ (fn : Fn) (first cap : Array Value) (w : World), (Instr.makeFunc fn first cap).run Tryz.prog w = .ok (.func fn first cap) w := fun _ _ _ _ => rfl
  have H := Lib.hid h
  clear h
  go_enter_defers Tryz.func16, Tryz.ntmps16
  go_wp2_with (refine H.out.mono ?_; rintro e w1 ⟨⟨n, (rfl | ⟨rfl, rfl⟩), hr⟩, hc, hz⟩ <;> have HR := Lib.hid hr <;> clear hr)
  · refine leaves_cons (f := 33) (args := #[.pointer (some ⟨w.heap.size, 0, none⟩)]) (by simp) (by simp [go_sem]) ?_
    refine (dgd_caught ⟨w.heap.size, 0, none⟩ n 0 _ hc hz).mono ?_
    rintro e u' w2 ⟨rfl, rfl, rfl⟩
    simp [Leaves, settle, results, Tryz.results16, go_sem, hc]
    exact ⟨w1, HR.out, rfl⟩
  · refine leaves_cons (f := 33) (args := #[.pointer (some ⟨w.heap.size, 0, none⟩)]) (by simp) (by simp [go_sem]) ?_
    refine (dgd_idle ⟨w.heap.size, 0, none⟩ _).mono ?_
    rintro e u' w2 ⟨rfl, rfl, rfl⟩
    simp [Leaves, settle, results, Tryz.results16, go_sem, hc]
    exact ⟨w1, HR.out, rfl⟩

theorem Row.putw {w : World} {b : Nat} {cs : Array Value} {t : TypeId} (h : Row w b cs t) (k : Nat) (v : Value) : Row (w.setCell ⟨b, k, none⟩ v) b (cs.setIfInBounds k v) t := heap_setCell_same w b k cs t v h
/-- What Compare tells of two values: where there is no error, both are right numbers, and their order. -/
def OrdP (a b : Va) (n o : Int) : Prop := n = 0 → a.right ∧ b.right ∧ a.number ∧ b.number ∧ o = sgnZ (plN a.num a.den (-b.num) b.den)
end Go.Proofs.YtjdgefgdekanjaaGreatDoor
