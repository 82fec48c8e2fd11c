/- Package bits, what makes tellers: again, backwards, behind, always, turned; byTable. -/
import Derived.Test.YtgoghblfficfpaaBitTell2
namespace Go.Proofs.Ytgoghblfficfpaa
open Go.RowKit

theorem timesF_len {l : List UInt8} {m i : Nat} (h : i < l.length * m) : 0 < l.length := by
  rcases Nat.eq_zero_or_pos l.length with e | e
  · rw [e, Nat.zero_mul] at h; omega
  · exact e

set_option maxHeartbeats 400000 in
theorem again_any (k n q : Int) (s : ByteArray) (m : Nat) (w : World) (hs : s.size ≤ 100000) (hm : m ≤ 1000000) (h0 : 0 < m → 0 < s.size) :
    Calls Try.prog 135 #[vlV k n q s] w (GivesT w m (fun i => s.data.toList.getD (i % s.data.toList.length) 0)) := by
  go_enter Try.func135, Try.ntmps135
  go_wp2
  go_ret
  refine ⟨_, _, rfl, ⟨fun _ _ => by kernel_rfl, fun i W hi hB => ?_⟩, by go_grown⟩
  show Calls Try.prog 153 #[.int .i64 i, ptr w.heap.size] W _
  rw [lsz]
  exact again1 k n q s _ i W ((Row.new _ _ _).keep hB) hs (h0 (by omega)) (by omega)
set_option maxHeartbeats 400000 in
theorem backwards_any (k n q : Int) (s : ByteArray) (w : World) (hs : s.size ≤ 100000) :
    Calls Try.prog 101 #[vlV k n q s] w (GivesT w s.size (fun i => s.data.toList.getD (s.size - 1 - i) 0)) := by
  go_enter Try.func101, Try.ntmps101
  go_wp2
  go_ret
  refine ⟨_, _, rfl, ⟨fun _ _ => by kernel_rfl, fun i W hi hB => ?_⟩, by go_grown⟩
  show Calls Try.prog 139 #[.int .i64 i, ptr w.heap.size] W _
  exact (backwards1 k n q s _ i W ((Row.new _ _ _).keep hB) hs hi).mono fun _ _ ⟨he, hw⟩ => ⟨he, hw ▸ Below.refl _ _⟩
set_option maxHeartbeats 400000 in
theorem behind_any (ka na qa : Int) (a : ByteArray) (kb nb qb : Int) (b : ByteArray) (w : World) (hs : a.size ≤ 100000) (hs' : b.size ≤ 100000) :
    Calls Try.prog 99 #[vlV ka na qa a, vlV kb nb qb b] w (GivesT w (a.size + b.size) (fun i => (a.data.toList ++ b.data.toList).getD i 0)) := by
  go_enter Try.func99, Try.ntmps99
  go_wp2
  go_ret
  refine ⟨_, _, rfl, ⟨fun _ _ => by kernel_rfl, fun i W hi hB => ?_⟩, by go_grown⟩
  show Calls Try.prog 138 #[.int .i64 i, ptr w.heap.size, ptr (w.heap.size + 1)] W _
  exact (behind1 ka na qa a kb nb qb b _ _ i W (((Row.new _ _ _).alloc _).keep hB) ((Row.new2 _ _ _ _).keep hB) hs hs' hi).mono fun _ _ ⟨he, hw⟩ => ⟨he, hw ▸ Below.refl _ _⟩
set_option maxHeartbeats 400000 in
theorem always_any (c : UInt8) (m : Nat) (w : World) :
    Calls Try.prog 137 #[.int .u8 c.toNat] w (GivesT w m (fun _ => c)) := by
  go_enter Try.func137, Try.ntmps137
  go_wp2
  go_ret
  refine ⟨_, _, rfl, ⟨fun _ _ => by kernel_rfl, fun i W hi hB => ?_⟩, by go_grown⟩
  show Calls Try.prog 154 #[.int .i64 i, ptr w.heap.size] W _
  exact (always1 c _ i W ((Row.new _ _ _).keep hB)).mono fun _ _ ⟨he, hw⟩ => ⟨he, hw ▸ Below.refl _ _⟩
set_option maxHeartbeats 400000 in
theorem turned_any (k n q : Int) (s : ByteArray) (w : World) (hs : s.size ≤ 100000) :
    Calls Try.prog 111 #[vlV k n q s] w (GivesT w s.size (fun i => if getF 5 s.data.toList i = 48 then 49 else 48)) := by
  go_enter Try.func111, Try.ntmps111
  go_wp2
  go_ret
  refine ⟨_, _, rfl, ⟨fun _ _ => by kernel_rfl, fun i W hi hB => ?_⟩, by go_grown⟩
  show Calls Try.prog 145 #[.int .i64 i, ptr w.heap.size] W _
  exact (turned1 k n q s _ i W ((Row.new _ _ _).keep hB) hs hi).mono fun _ _ ⟨he, hw⟩ => ⟨he, hw ▸ Below.refl _ _⟩

/-- A function of the program that makes one bit of two. -/
def Does (w : World) (fn : Nat) (cap : Array Value) (t : List UInt8) : Prop :=
  (∀ (args : Array Value) (W : World), (callFunc fn args).run Try.prog W = .ok (.enter fn args) W) ∧
  ∀ (x y : UInt8) (W : World), (x = 48 ∨ x = 49) → (y = 48 ∨ y = 49) → Below w.heap.size w W → Calls Try.prog fn (#[.int .u8 x.toNat, .int .u8 y.toNat] ++ cap) W fun e w' => e = .returned (.int .u8 (bitF t x y).toNat) ∧ Below W.heap.size W w'
theorem Does.later {w w' : World} {fn : Nat} {cap : Array Value} {t : List UInt8} (h : Does w fn cap t) (hB : Below w.heap.size w w') : Does w' fn cap t :=
  ⟨h.1, fun x y W hx hy hW => h.2 x y W hx hy (bl_then hB hW)⟩

set_option maxHeartbeats 1000000 in
theorem byTable1 (s : ByteArray) (x y : UInt8) (hx : x = 48 ∨ x = 49) (hy : y = 48 ∨ y = 49) (bs : Nat) (w : World) (hS : Row w bs #[.string s] 9) (hs : s.size = 4) :
    Calls Try.prog 142 #[.int .u8 x.toNat, .int .u8 y.toNat, ptr bs] w fun e w' => e = .returned (.int .u8 (bitF s.data.toList x y).toNat) ∧ w = w' := by
  have x0 := hS.one
  have z : 0 < s.size := by omega
  have z1 : 1 < s.size := by omega
  have z2 : 2 < s.size := by omega
  have z3 : 3 < s.size := by omega
  have g0 := getD_b s 0 z
  have g1 := getD_b s 1 z1
  have g2 := getD_b s 2 z2
  have g3 := getD_b s 3 z3
  have H0 := Lib.hid g0; have H1 := Lib.hid g1; have H2 := Lib.hid g2; have H3 := Lib.hid g3; have HZ := Lib.hid hs
  clear g0 g1 g2 g3 hs
  rcases hx with rfl | rfl <;> rcases hy with rfl | rfl
  · rw [show bitF s.data.toList 48 48 = s[0] from H0.out]
    go_enter Try.func142, Try.ntmps142
    go_wp2
    go_ret
    exact ⟨rfl, rfl⟩
  · rw [show bitF s.data.toList 48 49 = s[1] from H1.out]
    go_enter Try.func142, Try.ntmps142
    go_wp2
    go_ret
    exact ⟨rfl, rfl⟩
  · rw [show bitF s.data.toList 49 48 = s[2] from H2.out]
    go_enter Try.func142, Try.ntmps142
    go_wp2
    go_ret
    exact ⟨rfl, rfl⟩
  · rw [show bitF s.data.toList 49 49 = s[3] from H3.out]
    go_enter Try.func142, Try.ntmps142
    go_wp2
    go_ret
    exact ⟨rfl, rfl⟩
set_option maxHeartbeats 400000 in
theorem byTable_any (s : ByteArray) (w : World) (hs : s.size = 4) :
    Calls Try.prog 106 #[.string s] w fun e w' => ∃ cap, e = .returned (fnC 142 cap) ∧ Does w' 142 cap s.data.toList ∧ Below w.heap.size w w' := by
  have HS := Lib.hid hs
  clear hs
  go_enter Try.func106, Try.ntmps106
  go_wp2
  go_ret
  refine ⟨_, rfl, ⟨fun _ _ => by kernel_rfl, fun x y W hx hy hB => ?_⟩, by go_grown⟩
  show Calls Try.prog 142 #[.int .u8 x.toNat, .int .u8 y.toNat, ptr w.heap.size] W _
  exact (byTable1 s x y hx hy _ W ((Row.new _ _ _).keep hB) HS.out).mono fun _ _ ⟨he, hw⟩ => ⟨he, hw ▸ Below.refl _ _⟩
end Go.Proofs.Ytgoghblfficfpaa
