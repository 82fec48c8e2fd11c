/- Package bits, tellers: filled, again, backwards, behind, always, turned. -/
import Derived.Test.YtljbkpnfjgnhnaaDoorBitTell
import Derived.Test.YtljbkpnfjgnhnaaDoorBit2
namespace Go.Proofs.YtljbkpnfjgnhnaaDoor
open Go.RowKit

theorem ret_u8 {a b : Int} (h : a = b) : Ending.returned (.int .u8 a) = .returned (.int .u8 b) := by rw [h]
theorem getF_b (k : Int) (s : ByteArray) (i : Nat) (h : i < s.size) : getF k s.data.toList i = s[i] := by
  rw [getF_lt (by rw [lsz]; exact h)]; rfl
theorem getD_b (s : ByteArray) (i : Nat) (h : i < s.size) : s.data.toList.getD i 0 = s[i] := by
  rw [List.getD, List.getElem?_eq_getElem (by rw [lsz]; exact h)]; rfl
abbrev ptr (b : Nat) : Value := .pointer (some ⟨b, 0, none⟩)
abbrev vlC (k n q : Int) (s : ByteArray) : Array Value := #[.int .i64 k, .int .i64 n, .int .i64 q, .string s]
abbrev spC (k : Int) : Array Value := #[.int .u8 (fillC k).toNat, .int .u8 (topC k).toNat]

/-- What a function that makes a teller answers. -/
def GivesT (w : World) (n : Nat) (f : Nat → UInt8) (e : Ending) (w' : World) : Prop := ∃ fn cap, e = .returned (fnC fn cap) ∧ Tells w' fn cap n f ∧ Below w.heap.size w w'

set_option maxHeartbeats 1000000 in
theorem filled1 (k n q : Int) (s : ByteArray) (bs bi i : Nat) (w : World) (hS : Row w bs (vlC k n q s) 23) (hI : Row w bi (spC k) 48) (_hs : s.size ≤ 100000) :
    Calls Tryd.prog 58 #[.int .i64 i, ptr bs, ptr bi] w fun e w' => e = .returned (.int .u8 (getF k s.data.toList i).toNat) ∧ w = w' := by
  obtain ⟨x0, x1, x2, x3⟩ := hS.four
  obtain ⟨y0, y1⟩ := hI.two
  by_cases h : i < s.size
  · have HG := Lib.hid (getF_b k s i h)
    go_enter Tryd.func58, Tryd.ntmps58
    go_wp2
    go_ret
    exact ⟨ret_u8 (by rw [HG.out]), rfl⟩
  · have HG := Lib.hid (getF_ge (k := k) (l := s.data.toList) (i := i) (by rw [lsz]; omega))
    go_enter Tryd.func58, Tryd.ntmps58
    go_wp2
    go_ret
    exact ⟨ret_u8 (by rw [HG.out]), rfl⟩
theorem filled_tells (k n q : Int) (s : ByteArray) (bs bi m : Nat) (w : World) (hS : Row w bs (vlC k n q s) 23) (hI : Row w bi (spC k) 48) (hs : s.size ≤ 100000) :
    Tells w 58 #[ptr bs, ptr bi] m (getF k s.data.toList) :=
  ⟨fun _ _ => by kernel_rfl, fun i W _ hB => (filled1 k n q s bs bi i W (hS.keep hB) (hI.keep hB) hs).mono fun _ _ ⟨he, hw⟩ => ⟨he, hw ▸ Below.refl _ _⟩⟩

set_option maxHeartbeats 1000000 in
theorem filled_any (k n q : Int) (s : ByteArray) (m : Nat) (w : World) (hk : k = 4 ∨ k = 5) (hs : s.size ≤ 100000) :
    Calls Tryd.prog 42 #[vlV k n q s] w (GivesT w m (getF k s.data.toList)) := by
  have HK := Lib.hid hk
  clear hk
  go_enter Tryd.func42, Tryd.ntmps42
  go_wp2_with (first
    | (go_at_call 24; refine (kindOf_any _ _).mono ?_; rintro e w1 ⟨rfl, hb1⟩; have R1 := (Row.new _ _ _).keep hb1; have B1 := bl_box (Below.refl _ w) hb1)
    | (go_at_call 23; refine (spanOf_k k _ HK.out).mono ?_; rintro e w2 ⟨rfl, hb2⟩; have R2 := R1.keep hb2; have B2 := bl_then B1 hb2))
  go_ret
  exact ⟨_, _, rfl, filled_tells k n q s _ _ m _ (R2.alloc _) (Row.new _ _ _) hs, B2.alloc B2.size _⟩

set_option maxHeartbeats 1000000 in
theorem backwards1 (k n q : Int) (s : ByteArray) (bs i : Nat) (w : World) (hS : Row w bs (vlC k n q s) 23) (hs : s.size ≤ 100000) (hi : i < s.size) :
    Calls Tryd.prog 53 #[.int .i64 i, ptr bs] w fun e w' => e = .returned (.int .u8 (s.data.toList.getD (s.size - 1 - i) 0).toNat) ∧ w = w' := by
  obtain ⟨x0, x1, x2, x3⟩ := hS.four
  have HG := Lib.hid (getD_b s (s.size - 1 - i) (by omega))
  go_enter Tryd.func53, Tryd.ntmps53
  go_wp2
  go_ret
  exact ⟨ret_u8 (by rw [HG.out]), rfl⟩

end Go.Proofs.YtljbkpnfjgnhnaaDoor
