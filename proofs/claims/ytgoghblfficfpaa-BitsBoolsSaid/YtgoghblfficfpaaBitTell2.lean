/- Package bits, tellers: filled, again, backwards, behind, always, turned. -/
import Derived.Test.YtgoghblfficfpaaBitTell
import Derived.Test.YtgoghblfficfpaaBit2
namespace Go.Proofs.Ytgoghblfficfpaa
open Go.RowKit

theorem ret_u8 {a b : Int} (h : a = b) : Ending.returned (.int .u8 a) = .returned (.int .u8 b) := by rw [h]
theorem getF_b (k : Int) (s : ByteArray) (i : Nat) (h : i < s.size) : getF k s.data.toList i = s[i] := by
  rw [getF_lt (by rw [lsz]; exact h)]; rfl
theorem getD_b (s : ByteArray) (i : Nat) (h : i < s.size) : s.data.toList.getD i 0 = s[i] := by
  rw [List.getD, List.getElem?_eq_getElem (by rw [lsz]; exact h)]; rfl
abbrev ptr (b : Nat) : Value := .pointer (some ⟨b, 0, none⟩)
abbrev vlC (k n q : Int) (s : ByteArray) : Array Value := #[.int .i64 k, .int .i64 n, .int .i64 q, .string s]
abbrev spC (k : Int) : Array Value := #[.int .u8 (fillC k).toNat, .int .u8 (topC k).toNat]

/-- What a function that makes a teller answers. -/
def GivesT (w : World) (n : Nat) (f : Nat → UInt8) (e : Ending) (w' : World) : Prop := ∃ fn cap, e = .returned (fnC fn cap) ∧ Tells w' fn cap n f ∧ Below w.heap.size w w'

set_option maxHeartbeats 1000000 in
theorem filled1 (k n q : Int) (s : ByteArray) (bs bi i : Nat) (w : World) (hS : Row w bs (vlC k n q s) 23) (hI : Row w bi (spC k) 90) (_hs : s.size ≤ 100000) :
    Calls Try.prog 150 #[.int .i64 i, ptr bs, ptr bi] w fun e w' => e = .returned (.int .u8 (getF k s.data.toList i).toNat) ∧ w = w' := by
  obtain ⟨x0, x1, x2, x3⟩ := hS.four
  obtain ⟨y0, y1⟩ := hI.two
  by_cases h : i < s.size
  · have HG := Lib.hid (getF_b k s i h)
    go_enter Try.func150, Try.ntmps150
    go_wp2
    go_ret
    exact ⟨ret_u8 (by rw [HG.out]), rfl⟩
  · have HG := Lib.hid (getF_ge (k := k) (l := s.data.toList) (i := i) (by rw [lsz]; omega))
    go_enter Try.func150, Try.ntmps150
    go_wp2
    go_ret
    exact ⟨ret_u8 (by rw [HG.out]), rfl⟩
theorem filled_tells (k n q : Int) (s : ByteArray) (bs bi m : Nat) (w : World) (hS : Row w bs (vlC k n q s) 23) (hI : Row w bi (spC k) 90) (hs : s.size ≤ 100000) :
    Tells w 150 #[ptr bs, ptr bi] m (getF k s.data.toList) :=
  ⟨fun _ _ => by kernel_rfl, fun i W _ hB => (filled1 k n q s bs bi i W (hS.keep hB) (hI.keep hB) hs).mono fun _ _ ⟨he, hw⟩ => ⟨he, hw ▸ Below.refl _ _⟩⟩

set_option maxHeartbeats 1000000 in
theorem filled_any (k n q : Int) (s : ByteArray) (m : Nat) (w : World) (hk : k = 4 ∨ k = 5) (hs : s.size ≤ 100000) :
    Calls Try.prog 124 #[vlV k n q s] w (GivesT w m (getF k s.data.toList)) := by
  have HK := Lib.hid hk
  clear hk
  go_enter Try.func124, Try.ntmps124
  go_wp2_with (first
    | (go_at_call 123; refine (kindOf_any _ _).mono ?_; rintro e w1 ⟨rfl, hb1⟩; have R1 := (Row.new _ _ _).keep hb1; have B1 := bl_box (Below.refl _ w) hb1)
    | (go_at_call 94; refine (spanOf_k k _ HK.out).mono ?_; rintro e w2 ⟨rfl, hb2⟩; have R2 := R1.keep hb2; have B2 := bl_then B1 hb2))
  go_ret
  exact ⟨_, _, rfl, filled_tells k n q s _ _ m _ (R2.alloc _) (Row.new _ _ _) hs, B2.alloc B2.size _⟩

set_option maxHeartbeats 1000000 in
theorem again1 (k n q : Int) (s : ByteArray) (bs i : Nat) (w : World) (hS : Row w bs (vlC k n q s) 23) (hs : s.size ≤ 100000) (h0 : 0 < s.size) (hi : i < 1000000) :
    Calls Try.prog 153 #[.int .i64 i, ptr bs] w fun e w' => e = .returned (.int .u8 (s.data.toList.getD (i % s.size) 0).toNat) ∧ Below w.heap.size w w' := by
  obtain ⟨x0, x1, x2, x3⟩ := hS.four
  have hlt : i % s.size < s.size := Nat.mod_lt _ h0
  have HG := Lib.hid (getD_b s (i % s.size) hlt)
  have h1 : (1 : Int) ≤ s.size := by omega
  have h2 : ((i : Int) % (s.size : Int)).toNat = i % s.size := by rw [← Int.natCast_emod, Int.toNat_natCast]
  have h3 : (i : Int) % (s.size : Int) < s.size := by rw [← Int.natCast_emod]; omega
  have h4 : 0 ≤ (i : Int) % (s.size : Int) := by rw [← Int.natCast_emod]; omega
  go_enter Try.func153, Try.ntmps153
  go_wp2
  go_quiet (fail)
  go_wp2
  go_ret
  exact ⟨ret_u8 (by rw [HG.out]), below_drewN (Below.refl _ _) _⟩

set_option maxHeartbeats 1000000 in
theorem backwards1 (k n q : Int) (s : ByteArray) (bs i : Nat) (w : World) (hS : Row w bs (vlC k n q s) 23) (hs : s.size ≤ 100000) (hi : i < s.size) :
    Calls Try.prog 139 #[.int .i64 i, ptr bs] w fun e w' => e = .returned (.int .u8 (s.data.toList.getD (s.size - 1 - i) 0).toNat) ∧ w = w' := by
  obtain ⟨x0, x1, x2, x3⟩ := hS.four
  have HG := Lib.hid (getD_b s (s.size - 1 - i) (by omega))
  go_enter Try.func139, Try.ntmps139
  go_wp2
  go_ret
  exact ⟨ret_u8 (by rw [HG.out]), rfl⟩

set_option maxHeartbeats 1000000 in
theorem behind1 (ka na qa : Int) (a : ByteArray) (kb nb qb : Int) (b : ByteArray) (ba bb i : Nat) (w : World) (hA : Row w ba (vlC ka na qa a) 23) (hB : Row w bb (vlC kb nb qb b) 23) (_hs : a.size ≤ 100000) (hs' : b.size ≤ 100000) (hi : i < a.size + b.size) :
    Calls Try.prog 138 #[.int .i64 i, ptr ba, ptr bb] w fun e w' => e = .returned (.int .u8 ((a.data.toList ++ b.data.toList).getD i 0).toNat) ∧ w = w' := by
  obtain ⟨x0, x1, x2, x3⟩ := hA.four
  obtain ⟨y0, y1, y2, y3⟩ := hB.four
  by_cases h : i < a.size
  · have e : (a.data.toList ++ b.data.toList).getD i 0 = a[i] := by
      rw [List.getD, List.getElem?_append_left (by rw [lsz]; exact h)]; exact getD_b a i h
    have HG := Lib.hid e
    clear e
    go_enter Try.func138, Try.ntmps138
    go_wp2
    go_ret
    exact ⟨ret_u8 (by rw [HG.out]), rfl⟩
  · have e : (a.data.toList ++ b.data.toList).getD i 0 = b[i - a.size] := by
      rw [List.getD, List.getElem?_append_right (by rw [lsz]; omega), lsz]; exact getD_b b _ (by omega)
    have HG := Lib.hid e
    clear e
    go_enter Try.func138, Try.ntmps138
    go_wp2
    go_ret
    exact ⟨ret_u8 (by rw [HG.out]), rfl⟩

set_option maxHeartbeats 1000000 in
theorem always1 (c : UInt8) (bc i : Nat) (w : World) (hC : Row w bc #[.int .u8 c.toNat] 5) :
    Calls Try.prog 154 #[.int .i64 i, ptr bc] w fun e w' => e = .returned (.int .u8 c.toNat) ∧ w = w' := by
  have x0 := hC.one
  go_enter Try.func154, Try.ntmps154
  go_wp2
  go_ret
  exact ⟨rfl, rfl⟩

set_option maxHeartbeats 1000000 in
theorem turned1 (k n q : Int) (s : ByteArray) (bs i : Nat) (w : World) (hS : Row w bs (vlC k n q s) 23) (_hs : s.size ≤ 100000) (hi : i < s.size) :
    Calls Try.prog 145 #[.int .i64 i, ptr bs] w fun e w' => e = .returned (.int .u8 (if getF 5 s.data.toList i = 48 then (49 : UInt8) else 48).toNat) ∧ w = w' := by
  obtain ⟨x0, x1, x2, x3⟩ := hS.four
  rw [getF_b 5 s i hi]
  by_cases h : s[i] = 48
  · rw [if_pos h]
    have e1 : ((s[i].toNat : Int) == 48) = true := by rw [h]; rfl
    clear h
    go_enter Try.func145, Try.ntmps145
    go_wp2
    go_ret
    exact ⟨rfl, rfl⟩
  · rw [if_neg h]
    have e1 : ((s[i].toNat : Int) == 48) = false := by
      rw [beq_eq_false_iff_ne]; intro e; apply h; apply UInt8.toNat_inj.1; have : (48 : UInt8).toNat = 48 := rfl; omega
    clear h
    go_enter Try.func145, Try.ntmps145
    go_wp2
    go_ret
    exact ⟨rfl, rfl⟩
end Go.Proofs.Ytgoghblfficfpaa
