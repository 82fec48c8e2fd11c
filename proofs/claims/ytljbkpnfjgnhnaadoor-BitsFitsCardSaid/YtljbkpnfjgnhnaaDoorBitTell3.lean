/- Package bits, what makes tellers: again, backwards, behind, always, turned; byTable. -/
import Derived.Test.YtljbkpnfjgnhnaaDoorBitTell2
namespace Go.Proofs.YtljbkpnfjgnhnaaDoor
open Go.RowKit

theorem timesF_len {l : List UInt8} {m i : Nat} (h : i < l.length * m) : 0 < l.length := by
  rcases Nat.eq_zero_or_pos l.length with e | e
  · rw [e, Nat.zero_mul] at h; omega
  · exact e

set_option maxHeartbeats 400000 in
theorem backwards_any (k n q : Int) (s : ByteArray) (w : World) (hs : s.size ≤ 100000) :
    Calls Tryd.prog 35 #[vlV k n q s] w (GivesT w s.size (fun i => s.data.toList.getD (s.size - 1 - i) 0)) := by
  go_enter Tryd.func35, Tryd.ntmps35
  go_wp2
  go_ret
  refine ⟨_, _, rfl, ⟨fun _ _ => by kernel_rfl, fun i W hi hB => ?_⟩, by go_grown⟩
  show Calls Tryd.prog 53 #[.int .i64 i, ptr w.heap.size] W _
  exact (backwards1 k n q s _ i W ((Row.new _ _ _).keep hB) hs hi).mono fun _ _ ⟨he, hw⟩ => ⟨he, hw ▸ Below.refl _ _⟩
/-- A function of the program that makes one bit of two. -/
def Does (w : World) (fn : Nat) (cap : Array Value) (t : List UInt8) : Prop :=
  (∀ (args : Array Value) (W : World), (callFunc fn args).run Tryd.prog W = .ok (.enter fn args) W) ∧
  ∀ (x y : UInt8) (W : World), (x = 48 ∨ x = 49) → (y = 48 ∨ y = 49) → Below w.heap.size w W → Calls Tryd.prog fn (#[.int .u8 x.toNat, .int .u8 y.toNat] ++ cap) W fun e w' => e = .returned (.int .u8 (bitF t x y).toNat) ∧ Below W.heap.size W w'
theorem Does.later {w w' : World} {fn : Nat} {cap : Array Value} {t : List UInt8} (h : Does w fn cap t) (hB : Below w.heap.size w w') : Does w' fn cap t :=
  ⟨h.1, fun x y W hx hy hW => h.2 x y W hx hy (bl_then hB hW)⟩

end Go.Proofs.YtljbkpnfjgnhnaaDoor
