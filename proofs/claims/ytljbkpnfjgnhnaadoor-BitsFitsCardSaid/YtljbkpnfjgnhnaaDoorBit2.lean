/- Package bits: Valid, ValidType; the document's Valid, ValidType. -/
import Derived.Test.YtljbkpnfjgnhnaaDoorBit1
namespace Go.Proofs.YtljbkpnfjgnhnaaDoor
open Go.RowKit

theorem okV_kind {k n q : Int} {l : List UInt8} (h : ¬ (k = 4 ∨ k = 5)) : okV k n q l = false := by
  cases e : okV k n q l with
  | false => rfl
  | true => exact absurd (okT_kind (okV_eq e).2.2) h
theorem okV_long {k n q : Int} {s : ByteArray} (h : 250 < (s.size : Int)) : okV k n q s.data.toList = false := by
  cases e : okV k n q s.data.toList with
  | false => rfl
  | true => have := okT_len (okV_eq e).2.2; rw [lsz] at this; omega
theorem okV_not {k n q : Int} {l : List UInt8} (h : l.all (okC k) = false) : okV k n q l = false := by
  simp [okV, okT, h]
theorem okV_rest {k n q : Int} {s : ByteArray} (hk : k = 4 ∨ k = 5) (hl : (s.size : Int) ≤ 250) (h : s.data.toList.all (okC k) = true) : okV k n q s.data.toList = (n == 0 && q == 0) := by
  have h1 : (k == 4 || k == 5) = true := by simpa using hk
  have h2 : decide (s.data.toList.length ≤ 250) = true := by rw [lsz]; simpa using by omega
  rw [okV, okT, h1, h2, h]; simp

set_option maxRecDepth 100000 in
set_option maxHeartbeats 1000000 in
theorem bValid_any (k n q : Int) (s : ByteArray) (w : World) (hs : s.size ≤ maxLen) :
    Calls Tryd.prog 8 #[vlV k n q s] w fun e w' => e = .returned (.bool (okV k n q s.data.toList)) ∧ Below w.heap.size w w' := by
  unfold maxLen at hs
  have hG : Tryd.prog.eqGuardType Tryd.prog.depth 23 = false := by kernel_rfl
  have hE := vlEq
  by_cases hk : k = 4 ∨ k = 5
  · by_cases hl : (s.size : Int) ≤ 250
    · cases ha : s.data.toList.all (okC k) with
      | false =>
        have HR := Lib.hid (okV_not (n := n) (q := q) ha)
        have HK := Lib.hid hk
        have HA := Lib.hid ha
        clear hk ha
        go_enter Tryd.func8, Tryd.ntmps8
        go_wp2_with (first
          | (go_at_call 24; refine (kindOf_any _ _).mono ?_; rintro e w1 ⟨rfl, hb1⟩; have R1 := (Row.new _ _ _).keep hb1; have B1 := bl_box (Below.refl _ w) hb1)
          | (go_at_call 23; refine (spanOf_k k _ HK.out).mono ?_; rintro e w2 ⟨rfl, hb2⟩; have R2 := R1.keep hb2; have B2 := bl_then B1 hb2; obtain ⟨x0, x1, x2, x3⟩ := R2.four; have l2 := R2.lt)
          | (go_at_call 25; refine (hasAll_k k s _ (by omega)).mono ?_; rw [HA.out]; rintro e w3 ⟨rfl, hb3⟩; have B3 := bl_box B2 hb3))
        go_ret
        exact ⟨ret_bool HR.out.symm, B3⟩
      | true =>
        have HR := Lib.hid (okV_rest (n := n) (q := q) hk hl ha)
        have HK := Lib.hid hk
        have HA := Lib.hid ha
        clear hk ha
        go_enter Tryd.func8, Tryd.ntmps8
        go_wp2_with (first
          | (go_at_call 24; refine (kindOf_any _ _).mono ?_; rintro e w1 ⟨rfl, hb1⟩; have R1 := (Row.new _ _ _).keep hb1; have B1 := bl_box (Below.refl _ w) hb1)
          | (go_at_call 23; refine (spanOf_k k _ HK.out).mono ?_; rintro e w2 ⟨rfl, hb2⟩; have R2 := R1.keep hb2; have B2 := bl_then B1 hb2; obtain ⟨x0, x1, x2, x3⟩ := R2.four; have l2 := R2.lt)
          | (go_at_call 25; refine (hasAll_k k s _ (by omega)).mono ?_; rw [HA.out]; rintro e w3 ⟨rfl, hb3⟩; have R3 := (R2.alloc _).keep hb3; obtain ⟨y0, y1, y2, y3⟩ := R3.four; have B3 := bl_box B2 hb3))
        go_ret
        exact ⟨ret_bool (by rw [HR.out]), B3⟩
    · have HR := Lib.hid (okV_long (k := k) (n := n) (q := q) (show 250 < (s.size : Int) by omega))
      have HK := Lib.hid hk
      clear hk
      go_enter Tryd.func8, Tryd.ntmps8
      go_wp2_with (first
        | (go_at_call 24; refine (kindOf_any _ _).mono ?_; rintro e w1 ⟨rfl, hb1⟩; have R1 := (Row.new _ _ _).keep hb1; have B1 := bl_box (Below.refl _ w) hb1)
        | (go_at_call 23; refine (spanOf_k k _ HK.out).mono ?_; rintro e w2 ⟨rfl, hb2⟩; have R2 := R1.keep hb2; have B2 := bl_then B1 hb2; obtain ⟨x0, x1, x2, x3⟩ := R2.four; have l2 := R2.lt))
      go_ret
      exact ⟨ret_bool HR.out.symm, B2.alloc B2.size _⟩
  · have HR := Lib.hid (okV_kind (n := n) (q := q) (l := s.data.toList) hk)
    have HK := Lib.hid (kdV_no hk)
    clear hk
    go_enter Tryd.func8, Tryd.ntmps8
    go_wp2_with (first
      | (go_at_call 24; refine (kindOf_any _ _).mono ?_; rw [HK.out]; rintro e w1 ⟨rfl, hb1⟩; have R1 := (Row.new _ _ _).keep hb1; have B1 := bl_box (Below.refl _ w) hb1)
      | (go_at_call 23; refine (spanOf_n _).mono ?_; rintro e w2 ⟨rfl, hb2⟩; have R2 := R1.keep hb2; have B2 := bl_then B1 hb2; obtain ⟨x0, x1, x2, x3⟩ := R2.four; have l2 := R2.lt))
    go_ret
    exact ⟨ret_bool HR.out.symm, B2.alloc B2.size _⟩

theorem okY_kind {k p q n : Int} {l : List UInt8} (h : ¬ (k = 4 ∨ k = 5)) : okY k p q n l = false := by
  have : (k == 4 || k == 5) = false := by rw [Bool.eq_false_iff]; simpa using h
  rw [okY, this]; simp
theorem okY_long {k p q n : Int} {l : List UInt8} (h : ¬ (0 ≤ n ∧ n ≤ 250)) : okY k p q n l = false := by
  rw [Bool.eq_false_iff]
  intro e
  simp only [okY, Bool.and_eq_true, decide_eq_true_eq] at e
  exact h ⟨e.1.1.2, e.1.2⟩
theorem okY_rest {k p q n : Int} {l : List UInt8} (hk : k = 4 ∨ k = 5) (h0 : 0 ≤ n) (h : n ≤ 250) : okY k p q n l = (p == 0 && q == 0 && l == []) := by
  have h1 : (k == 4 || k == 5) = true := by simpa using hk
  rw [okY, h1, decide_eq_true h0, decide_eq_true h]; simp
theorem kdV_nil {k : Int} (h : k = 4 ∨ k = 5) : ∃ te, kdV k = .iface te (.agg #[]) ∧ ∀ w : World, (binOp .neq 52 (.iface te (.agg #[])) .nilIface).run Tryd.prog w = .ok (.bool true) w := by
  rcases h with rfl | rfl
  · exact ⟨_, kdV_4, fun w => by kernel_rfl⟩
  · exact ⟨_, kdV_5, fun w => by kernel_rfl⟩
theorem nil_nilK (w : World) : (binOp .neq 52 .nilIface .nilIface).run Tryd.prog w = .ok (.bool false) w := by kernel_rfl

set_option maxRecDepth 100000 in
set_option maxHeartbeats 1000000 in
theorem bValidType_any (k p q n : Int) (vy : Bool) (pic : ByteArray) (w : World) :
    Calls Tryd.prog 10 #[tyV k p q n vy pic] w fun e w' => e = .returned (.bool (okY k p q n pic.data.toList)) ∧ Below w.heap.size w w' := by
  have hG : Tryd.prog.eqGuardType Tryd.prog.depth 25 = false := by kernel_rfl
  have hE := tyEq
  by_cases hk : k = 4 ∨ k = 5
  · obtain ⟨te, hte, hN⟩ := kdV_nil hk
    have HT := Lib.hid hte
    clear hte
    by_cases hl : 0 ≤ n ∧ n ≤ 250
    · obtain ⟨h0, h1⟩ := hl
      have HR := Lib.hid (okY_rest (p := p) (q := q) (l := pic.data.toList) hk h0 h1)
      have HK := Lib.hid hk
      clear hk
      go_enter Tryd.func10, Tryd.ntmps10
      go_wp2_with (first
        | (go_at_call 24; refine (kindOf_any _ _).mono ?_; rw [HT.out]; rintro e w1 ⟨rfl, hb1⟩; have R1 := (Row.new _ _ _).keep hb1; have B1 := bl_box (Below.refl _ w) hb1; obtain ⟨x0, x1, x2, x3, x4, x5⟩ := R1.six))
      go_ret
      exact ⟨ret_bool (by rw [HR.out]; simp [ByteArray.toList_eq]), B1⟩
    · have HR := Lib.hid (okY_long (k := k) (p := p) (q := q) (l := pic.data.toList) hl)
      have HK := Lib.hid hk
      by_cases h0 : 0 ≤ n
      · have h1 : 250 < n := by omega
        clear hk hl
        go_enter Tryd.func10, Tryd.ntmps10
        go_wp2_with (first
          | (go_at_call 24; refine (kindOf_any _ _).mono ?_; rw [HT.out]; rintro e w1 ⟨rfl, hb1⟩; have R1 := (Row.new _ _ _).keep hb1; have B1 := bl_box (Below.refl _ w) hb1; obtain ⟨x0, x1, x2, x3, x4, x5⟩ := R1.six))
        go_ret
        exact ⟨ret_bool HR.out.symm, B1⟩
      · have h1 : n < 0 := by omega
        have hd : decide (0 ≤ n) = false := by simpa using h1
        clear hk hl h0
        go_enter Tryd.func10, Tryd.ntmps10
        go_wp2_with (first
          | (go_at_call 24; refine (kindOf_any _ _).mono ?_; rw [HT.out]; rintro e w1 ⟨rfl, hb1⟩; have R1 := (Row.new _ _ _).keep hb1; have B1 := bl_box (Below.refl _ w) hb1; obtain ⟨x0, x1, x2, x3, x4, x5⟩ := R1.six))
        go_ret
        exact ⟨ret_bool HR.out.symm, B1⟩
  · have HR := Lib.hid (okY_kind (p := p) (q := q) (n := n) (l := pic.data.toList) hk)
    have HK := Lib.hid (kdV_no hk)
    have hN := nil_nilK
    clear hk
    go_enter Tryd.func10, Tryd.ntmps10
    go_wp2_with (first
      | (go_at_call 24; refine (kindOf_any _ _).mono ?_; rw [HK.out]; rintro e w1 ⟨rfl, hb1⟩; have R1 := (Row.new _ _ _).keep hb1; have B1 := bl_box (Below.refl _ w) hb1; obtain ⟨x0, x1, x2, x3, x4, x5⟩ := R1.six))
    go_ret
    exact ⟨ret_bool HR.out.symm, B1⟩
end Go.Proofs.YtljbkpnfjgnhnaaDoor
