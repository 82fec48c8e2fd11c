/- Package bits: demandAlike, demandFitting, demandWithin, demandCounts, demandRoom, demandTable. -/
import Derived.Test.YtljbkpnfjgnhnaaDoorBitDem
namespace Go.Proofs.YtljbkpnfjgnhnaaDoor
open Go.RowKit

/- demandAlike -/
set_option maxHeartbeats 1000000 in
theorem alike_1 (k n q : Int) (s : ByteArray) (vs : List Vl) (b o cap : Nat) (w : World) (hs : s.size ≤ maxLen) (hv : okV k n q s.data.toList = false) :
    Calls Tryd.prog 37 #[vlV k n q s, .slice (some ⟨b, o, none⟩) vs.length cap] w fun e w' => e = bRef 1 ∧ Below w.heap.size w w' := by
  have HV : Hid (¬ ∀ v ∈ [Vl.mk k n q s], v.ok = true) := by show ¬ _; simp [Vl.ok, hv]
  have HS : Hid (∀ v ∈ [Vl.mk k n q s], v.s.size ≤ maxLen) := by show ∀ _, _; simpa using hs
  clear hv hs
  go_enter Tryd.func37, Tryd.ntmps37
  go_wp2_with (go_at_call 33; refine (demStr_no [⟨k, n, q, s⟩] (w.heap.size + 1) 0 1 _ (VlsAt.one (Row.new2 _ _ _ _)) (by simp) (by simp) HS.out HV.out).mono ?_; rintro e w1 ⟨rfl, hb1⟩)
  exact ⟨rfl, rfl, bl_box2 (Below.refl _ w) hb1⟩

set_option maxHeartbeats 1000000 in
theorem alike_1' (k n q : Int) (s : ByteArray) (vs : List Vl) (b o cap : Nat) (w : World) (hs : s.size ≤ maxLen) (hv : okV k n q s.data.toList = true)
    (hA : VlsAt w b o vs) (hlen : vs.length ≤ 4000000000) (hb : b < w.heap.size) (hpic : ∀ v ∈ vs, v.s.size ≤ maxLen) (hvs : ¬ ∀ v ∈ vs, v.ok = true) :
    Calls Tryd.prog 37 #[vlV k n q s, .slice (some ⟨b, o, none⟩) vs.length cap] w fun e w' => e = bRef 1 ∧ Below w.heap.size w w' := by
  have HV : Hid (∀ v ∈ [Vl.mk k n q s], v.ok = true) := by show ∀ _, _; simp [Vl.ok, hv]
  have HS : Hid (∀ v ∈ [Vl.mk k n q s], v.s.size ≤ maxLen) := by show ∀ _, _; simpa using hs
  have HA := Lib.hid hA; have HVS := Lib.hid hvs; have HP := Lib.hid hpic
  clear hv hs hA hvs hpic
  go_enter Tryd.func37, Tryd.ntmps37
  go_wp2_with (first
    | (go_at_call 33; refine (demStr_ok [⟨k, n, q, s⟩] (w.heap.size + 1) 0 1 _ (VlsAt.one (Row.new2 _ _ _ _)) (by simp) (by simp) HS.out HV.out).mono ?_; rintro e w1 ⟨rfl, hb1⟩; have B1 := bl_box2 (Below.refl _ w) hb1; have R1 := ((Row.new w #[.int .i64 k, .int .i64 n, .int .i64 q, .string s] 23).alloc _).keep hb1; obtain ⟨x0, x1, x2, x3⟩ := R1.four)
    | (go_at_call 24; refine (kindOf_any _ _).mono ?_; rintro e w2 ⟨rfl, hb2⟩; have B2 := bl_then B1 hb2)
    | (go_at_call 28; refine (demKind_1 k vs b o cap _ (HA.out.below hb B2) hlen (Nat.lt_of_lt_of_le hb B2.size) HP.out HVS.out).mono ?_; rintro e w3 ⟨rfl, hb3⟩; have B3 := bl_then B2 hb3))
  exact ⟨rfl, rfl, B3⟩

set_option maxHeartbeats 1000000 in
theorem alike_10 (k n q : Int) (s : ByteArray) (vs : List Vl) (b o cap : Nat) (w : World) (hs : s.size ≤ maxLen) (hv : okV k n q s.data.toList = true)
    (hA : VlsAt w b o vs) (hlen : vs.length ≤ 4000000000) (hb : b < w.heap.size) (hpic : ∀ v ∈ vs, v.s.size ≤ maxLen) (hvs : ∀ v ∈ vs, v.ok = true) (hk : ¬ ∀ v ∈ vs, v.is k = true) :
    Calls Tryd.prog 37 #[vlV k n q s, .slice (some ⟨b, o, none⟩) vs.length cap] w fun e w' => e = bRef 10 ∧ Below w.heap.size w w' := by
  have HK2 := Lib.hid (okT_kind (okV_eq hv).2.2)
  have HV : Hid (∀ v ∈ [Vl.mk k n q s], v.ok = true) := by show ∀ _, _; simp [Vl.ok, hv]
  have HS : Hid (∀ v ∈ [Vl.mk k n q s], v.s.size ≤ maxLen) := by show ∀ _, _; simpa using hs
  have HA := Lib.hid hA; have HVS := Lib.hid hvs; have HP := Lib.hid hpic; have HK := Lib.hid hk
  clear hv hs hA hvs hpic hk
  go_enter Tryd.func37, Tryd.ntmps37
  go_wp2_with (first
    | (go_at_call 33; refine (demStr_ok [⟨k, n, q, s⟩] (w.heap.size + 1) 0 1 _ (VlsAt.one (Row.new2 _ _ _ _)) (by simp) (by simp) HS.out HV.out).mono ?_; rintro e w1 ⟨rfl, hb1⟩; have B1 := bl_box2 (Below.refl _ w) hb1; have R1 := ((Row.new w #[.int .i64 k, .int .i64 n, .int .i64 q, .string s] 23).alloc _).keep hb1; obtain ⟨x0, x1, x2, x3⟩ := R1.four)
    | (go_at_call 24; refine (kindOf_any _ _).mono ?_; rintro e w2 ⟨rfl, hb2⟩; have B2 := bl_then B1 hb2)
    | (go_at_call 28; refine (demKind_10 k HK2.out vs b o cap _ (HA.out.below hb B2) hlen (Nat.lt_of_lt_of_le hb B2.size) HP.out HVS.out HK.out).mono ?_; rintro e w3 ⟨rfl, hb3⟩; have B3 := bl_then B2 hb3))
  exact ⟨rfl, rfl, B3⟩

set_option maxHeartbeats 1000000 in
theorem alike_ok (k n q : Int) (s : ByteArray) (vs : List Vl) (b o cap : Nat) (w : World) (hs : s.size ≤ maxLen) (hv : okV k n q s.data.toList = true)
    (hA : VlsAt w b o vs) (hlen : vs.length ≤ 4000000000) (hb : b < w.heap.size) (hpic : ∀ v ∈ vs, v.s.size ≤ maxLen) (hvs : ∀ v ∈ vs, v.ok = true) (hk : ∀ v ∈ vs, v.is k = true) :
    Calls Tryd.prog 37 #[vlV k n q s, .slice (some ⟨b, o, none⟩) vs.length cap] w fun e w' => e = .returned (.tuple #[]) ∧ Below w.heap.size w w' := by
  have HK2 := Lib.hid (okT_kind (okV_eq hv).2.2)
  have HV : Hid (∀ v ∈ [Vl.mk k n q s], v.ok = true) := by show ∀ _, _; simp [Vl.ok, hv]
  have HS : Hid (∀ v ∈ [Vl.mk k n q s], v.s.size ≤ maxLen) := by show ∀ _, _; simpa using hs
  have HA := Lib.hid hA; have HVS := Lib.hid hvs; have HP := Lib.hid hpic; have HK := Lib.hid hk
  clear hv hs hA hvs hpic hk
  go_enter Tryd.func37, Tryd.ntmps37
  go_wp2_with (first
    | (go_at_call 33; refine (demStr_ok [⟨k, n, q, s⟩] (w.heap.size + 1) 0 1 _ (VlsAt.one (Row.new2 _ _ _ _)) (by simp) (by simp) HS.out HV.out).mono ?_; rintro e w1 ⟨rfl, hb1⟩; have B1 := bl_box2 (Below.refl _ w) hb1; have R1 := ((Row.new w #[.int .i64 k, .int .i64 n, .int .i64 q, .string s] 23).alloc _).keep hb1; obtain ⟨x0, x1, x2, x3⟩ := R1.four)
    | (go_at_call 24; refine (kindOf_any _ _).mono ?_; rintro e w2 ⟨rfl, hb2⟩; have B2 := bl_then B1 hb2)
    | (go_at_call 28; refine (demKind_yes k HK2.out vs b o cap _ (HA.out.below hb B2) hlen (Nat.lt_of_lt_of_le hb B2.size) HP.out HVS.out HK.out).mono ?_; rintro e w3 ⟨rfl, hb3⟩; have B3 := bl_then B2 hb3))
  go_end0
  exact ⟨rfl, B3⟩

end Go.Proofs.YtljbkpnfjgnhnaaDoor
