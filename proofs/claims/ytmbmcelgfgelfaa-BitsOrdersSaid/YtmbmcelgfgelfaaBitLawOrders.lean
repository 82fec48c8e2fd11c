/- The law BitsOrders, for any three values. -/
import Derived.Test.YtmbmcelgfgelfaaBitRCmp
import Derived.Test.YtmbmcelgfgelfaaBitAwake
namespace Go.Proofs.Ytmbmcelgfgelfaa
open Go.RowKit

theorem bl_box4 {w w1 w2 : World} {o o' o'' o3 : Obj} (h1 : Below w.heap.size w w1) (h2 : Below ((((w1.alloc o).alloc o').alloc o'').alloc o3).heap.size ((((w1.alloc o).alloc o').alloc o'').alloc o3) w2) : Below w.heap.size w w2 := bl_box3 (h1.alloc h1.size o) h2
/-- What Compare of two values answers, for package bits and for the document. -/
def Cmps (a b : Vl) (x E : Int) : Prop := (∀ W, Calls Try.prog 52 #[a.v, b.v] W fun e w' => e = .returned (.tuple #[.int .i64 x, .int .i64 E]) ∧ Below W.heap.size W w') ∧
  ∀ W, Calls Try.prog 53 #[a.v, b.v] W fun e w' => e = .returned (.tuple #[.int .i64 x, .int .i64 E]) ∧ Below W.heap.size W w'
theorem cmps_of (a b : Vl) (hs : a.s.size ≤ maxLen) (hs' : b.s.size ≤ maxLen) : Cmps a b (if alikeE a b = 0 then compareV a b else 0) (alikeE a b) :=
  ⟨fun W => bCompare_any a b W hs hs', fun W => rCompare_any a b W hs hs'⟩
theorem cmps_ok {a b : Vl} (hs : a.s.size ≤ maxLen) (hs' : b.s.size ≤ maxLen) (h : alikeE a b = 0) : Cmps a b (compareV a b) 0 := by
  have := cmps_of a b hs hs'
  rwa [h, if_pos rfl] at this
theorem cmps_no {a b : Vl} (hs : a.s.size ≤ maxLen) (hs' : b.s.size ≤ maxLen) (h : alikeE a b ≠ 0) : Cmps a b 0 (alikeE a b) := by
  have := cmps_of a b hs hs'
  rwa [if_neg h] at this

set_option maxRecDepth 100000 in
set_option maxHeartbeats 4000000 in
theorem orders_dark (a b c : Vl) (w : World) (hs : a.s.size ≤ maxLen) (hs' : b.s.size ≤ maxLen) (hs'' : c.s.size ≤ maxLen) (hl : ¬ ∀ v ∈ [a, b, c], v.light = true) :
    Calls Try.prog 7 #[a.v, b.v, c.v] w fun e w' => e = .returned (.bool true) ∧ Below w.heap.size w w' := by
  have HP : Hid (∀ v ∈ [a, b, c], v.s.size ≤ maxLen) := Lib.hid (vl3 hs hs' hs'')
  clear hs hs' hs''
  have HL := Lib.hid hl
  clear hl
  go_enter Try.func7, Try.ntmps7
  go_wp2_with (first
    | (go_at_call 8; refine (bLight_no [a, b, c] (w.heap.size + 1 + 1 + 1) 0 3 _ (VlsAt.three (Row.new4 _ _ _ _ _ _)) (by simp) (by simp <;> omega) HP.out HL.out).mono ?_; rintro e w1 ⟨rfl, rfl⟩)
    | (go_at_call 9; refine (awake_any _).mono ?_; rintro e w2 ⟨rfl, hb⟩))
  go_ret
  exact ⟨rfl, bl_box4 (Below.refl _ w) hb⟩

set_option maxRecDepth 100000 in
set_option maxHeartbeats 4000000 in
theorem orders_no (a b c : Vl) (w : World) (hs : a.s.size ≤ maxLen) (hs' : b.s.size ≤ maxLen) (hs'' : c.s.size ≤ maxLen) (hl : ∀ v ∈ [a, b, c], v.light = true) (x E : Int) (h1 : Cmps a b x E) (hE : E ≠ 0) :
    Calls Try.prog 7 #[a.v, b.v, c.v] w fun e w' => e = .returned (.bool true) ∧ Below w.heap.size w w' := by
  have HP : Hid (∀ v ∈ [a, b, c], v.s.size ≤ maxLen) := Lib.hid (vl3 hs hs' hs'')
  clear hs hs' hs''
  have H1 := Lib.hid h1
  have HL := Lib.hid hl
  have e1 : (E != 0) = true := by simpa using hE
  have e2 : (E == 0) = false := by simpa using hE
  clear hl h1 hE
  go_enter Try.func7, Try.ntmps7
  have B0 : Hid (Below w.heap.size w w) := Lib.hid (Below.refl _ w)
  have A0 := Row.new w (vlC a.k a.n a.q a.s) 23
  have P0 := Row.new2 w (.cells (vlC a.k a.n a.q a.s) 23) (vlC b.k b.n b.q b.s) 23
  have Q0 := Row.new3 w (.cells (vlC a.k a.n a.q a.s) 23) (.cells (vlC b.k b.n b.q b.s) 23) (vlC c.k c.n c.q c.s) 23
  go_wp2_with fail
  go_at_call 8
  refine (bLight_yes [a, b, c] (w.heap.size + 1 + 1 + 1) 0 3 _ (VlsAt.three (Row.new4 _ _ _ _ _ _)) (by simp) (by simp <;> omega) HP.out HL.out).mono ?_
  rintro e wl ⟨rfl, rfl⟩
  go_wp2_with fail
  go_at_call 52
  refine (H1.out.1 _).mono ?_
  rintro e w1 ⟨rfl, hb1⟩
  have B1 := Lib.hid (bl_box4 B0.out hb1)
  have A1 := (((A0.alloc _).alloc _).alloc _).keep hb1
  have P1 := ((P0.alloc _).alloc _).keep hb1
  have Q1 := (Q0.alloc _).keep hb1
  obtain ⟨a0, a1, a2, a3⟩ := A1.four
  have la := A1.lt
  obtain ⟨p0, p1, p2, p3⟩ := P1.four
  have lp := P1.lt
  obtain ⟨q0, q1, q2, q3⟩ := Q1.four
  have lq := Q1.lt
  clear hb1 A0 P0 Q0
  go_wp2_with fail
  go_at_call 53
  refine (H1.out.2 _).mono ?_
  rintro e w2 ⟨rfl, hb2⟩
  have B2 := Lib.hid (bl_then B1.out hb2)
  have A2 := (A1).keep hb2
  obtain ⟨a0, a1, a2, a3⟩ := A2.four
  have la := A2.lt
  have P2 := (P1).keep hb2
  obtain ⟨p0, p1, p2, p3⟩ := P2.four
  have lp := P2.lt
  have Q2 := (Q1).keep hb2
  obtain ⟨q0, q1, q2, q3⟩ := Q2.four
  have lq := Q2.lt
  clear hb2 A1 P1 Q1
  go_wp2_with fail
  go_at_call 9
  refine (awake_any _).mono ?_
  rintro e wz ⟨rfl, hbz⟩
  go_wp2
  go_ret
  exact ⟨ret_bool (by first | rfl | simp), bl_then B2.out hbz⟩

set_option maxRecDepth 100000 in
set_option maxHeartbeats 4000000 in
theorem orders_one (a b c : Vl) (w : World) (hs : a.s.size ≤ maxLen) (hs' : b.s.size ≤ maxLen) (hs'' : c.s.size ≤ maxLen) (hl : ∀ v ∈ [a, b, c], v.light = true) (x y z E F : Int) (hx : -1 ≤ x ∧ x ≤ 1) (h1 : Cmps a b x 0) (h2 : Cmps b a (-x) 0) (h3 : Cmps b c y E) (h4 : Cmps a c z F) (hE : E ≠ 0) :
    Calls Try.prog 7 #[a.v, b.v, c.v] w fun e w' => e = .returned (.bool true) ∧ Below w.heap.size w w' := by
  have HP : Hid (∀ v ∈ [a, b, c], v.s.size ≤ maxLen) := Lib.hid (vl3 hs hs' hs'')
  clear hs hs' hs''
  have H1 := Lib.hid h1; have H2 := Lib.hid h2; have H3 := Lib.hid h3; have H4 := Lib.hid h4
  have HL := Lib.hid hl
  have e1 : (E != 0) = true := by simpa using hE
  have e2 : (E == 0) = false := by simpa using hE
  obtain ⟨b1, b2⟩ := hx
  clear hl h1 h2 h3 h4 hE
  go_enter Try.func7, Try.ntmps7
  have B0 : Hid (Below w.heap.size w w) := Lib.hid (Below.refl _ w)
  have A0 := Row.new w (vlC a.k a.n a.q a.s) 23
  have P0 := Row.new2 w (.cells (vlC a.k a.n a.q a.s) 23) (vlC b.k b.n b.q b.s) 23
  have Q0 := Row.new3 w (.cells (vlC a.k a.n a.q a.s) 23) (.cells (vlC b.k b.n b.q b.s) 23) (vlC c.k c.n c.q c.s) 23
  go_wp2_with fail
  go_at_call 8
  refine (bLight_yes [a, b, c] (w.heap.size + 1 + 1 + 1) 0 3 _ (VlsAt.three (Row.new4 _ _ _ _ _ _)) (by simp) (by simp <;> omega) HP.out HL.out).mono ?_
  rintro e wl ⟨rfl, rfl⟩
  go_wp2_with fail
  go_at_call 52
  refine (H1.out.1 _).mono ?_
  rintro e w1 ⟨rfl, hb1⟩
  have B1 := Lib.hid (bl_box4 B0.out hb1)
  have A1 := (((A0.alloc _).alloc _).alloc _).keep hb1
  have P1 := ((P0.alloc _).alloc _).keep hb1
  have Q1 := (Q0.alloc _).keep hb1
  obtain ⟨a0, a1, a2, a3⟩ := A1.four
  have la := A1.lt
  obtain ⟨p0, p1, p2, p3⟩ := P1.four
  have lp := P1.lt
  obtain ⟨q0, q1, q2, q3⟩ := Q1.four
  have lq := Q1.lt
  clear hb1 A0 P0 Q0
  go_wp2_with fail
  go_at_call 53
  refine (H1.out.2 _).mono ?_
  rintro e w2 ⟨rfl, hb2⟩
  have B2 := Lib.hid (bl_then B1.out hb2)
  have A2 := (A1).keep hb2
  obtain ⟨a0, a1, a2, a3⟩ := A2.four
  have la := A2.lt
  have P2 := (P1).keep hb2
  obtain ⟨p0, p1, p2, p3⟩ := P2.four
  have lp := P2.lt
  have Q2 := (Q1).keep hb2
  obtain ⟨q0, q1, q2, q3⟩ := Q2.four
  have lq := Q2.lt
  clear hb2 A1 P1 Q1
  go_wp2_with fail
  go_at_call 52
  refine (H2.out.1 _).mono ?_
  rintro e w3 ⟨rfl, hb3⟩
  have B3 := Lib.hid (bl_then B2.out hb3)
  have A3 := (A2).keep hb3
  obtain ⟨a0, a1, a2, a3⟩ := A3.four
  have la := A3.lt
  have P3 := (P2).keep hb3
  obtain ⟨p0, p1, p2, p3⟩ := P3.four
  have lp := P3.lt
  have Q3 := (Q2).keep hb3
  obtain ⟨q0, q1, q2, q3⟩ := Q3.four
  have lq := Q3.lt
  clear hb3 A2 P2 Q2
  go_wp2_with fail
  go_at_call 52
  refine (H3.out.1 _).mono ?_
  rintro e w4 ⟨rfl, hb4⟩
  have B4 := Lib.hid (bl_then B3.out hb4)
  have A4 := (A3).keep hb4
  obtain ⟨a0, a1, a2, a3⟩ := A4.four
  have la := A4.lt
  have P4 := (P3).keep hb4
  obtain ⟨p0, p1, p2, p3⟩ := P4.four
  have lp := P4.lt
  have Q4 := (Q3).keep hb4
  obtain ⟨q0, q1, q2, q3⟩ := Q4.four
  have lq := Q4.lt
  clear hb4 A3 P3 Q3
  go_wp2_with fail
  go_at_call 52
  refine (H4.out.1 _).mono ?_
  rintro e w5 ⟨rfl, hb5⟩
  have B5 := Lib.hid (bl_then B4.out hb5)
  have A5 := (A4).keep hb5
  obtain ⟨a0, a1, a2, a3⟩ := A5.four
  have la := A5.lt
  have P5 := (P4).keep hb5
  obtain ⟨p0, p1, p2, p3⟩ := P5.four
  have lp := P5.lt
  have Q5 := (Q4).keep hb5
  obtain ⟨q0, q1, q2, q3⟩ := Q5.four
  have lq := Q5.lt
  clear hb5 A4 P4 Q4
  go_wp2_with fail
  go_at_call 9
  refine (awake_any _).mono ?_
  rintro e wz ⟨rfl, hbz⟩
  go_wp2
  go_ret
  exact ⟨ret_bool (by first | rfl | simp), bl_then B5.out hbz⟩

set_option maxRecDepth 100000 in
set_option maxHeartbeats 4000000 in
theorem orders_two (a b c : Vl) (w : World) (hs : a.s.size ≤ maxLen) (hs' : b.s.size ≤ maxLen) (hs'' : c.s.size ≤ maxLen) (hl : ∀ v ∈ [a, b, c], v.light = true) (x y z F : Int) (hx : -1 ≤ x ∧ x ≤ 1) (h1 : Cmps a b x 0) (h2 : Cmps b a (-x) 0) (h3 : Cmps b c y 0) (h4 : Cmps a c z F) (hE : F ≠ 0) :
    Calls Try.prog 7 #[a.v, b.v, c.v] w fun e w' => e = .returned (.bool true) ∧ Below w.heap.size w w' := by
  have HP : Hid (∀ v ∈ [a, b, c], v.s.size ≤ maxLen) := Lib.hid (vl3 hs hs' hs'')
  clear hs hs' hs''
  have H1 := Lib.hid h1; have H2 := Lib.hid h2; have H3 := Lib.hid h3; have H4 := Lib.hid h4
  have HL := Lib.hid hl
  have e1 : (F != 0) = true := by simpa using hE
  have e2 : (F == 0) = false := by simpa using hE
  obtain ⟨b1, b2⟩ := hx
  clear hl h1 h2 h3 h4 hE
  go_enter Try.func7, Try.ntmps7
  have B0 : Hid (Below w.heap.size w w) := Lib.hid (Below.refl _ w)
  have A0 := Row.new w (vlC a.k a.n a.q a.s) 23
  have P0 := Row.new2 w (.cells (vlC a.k a.n a.q a.s) 23) (vlC b.k b.n b.q b.s) 23
  have Q0 := Row.new3 w (.cells (vlC a.k a.n a.q a.s) 23) (.cells (vlC b.k b.n b.q b.s) 23) (vlC c.k c.n c.q c.s) 23
  go_wp2_with fail
  go_at_call 8
  refine (bLight_yes [a, b, c] (w.heap.size + 1 + 1 + 1) 0 3 _ (VlsAt.three (Row.new4 _ _ _ _ _ _)) (by simp) (by simp <;> omega) HP.out HL.out).mono ?_
  rintro e wl ⟨rfl, rfl⟩
  go_wp2_with fail
  go_at_call 52
  refine (H1.out.1 _).mono ?_
  rintro e w1 ⟨rfl, hb1⟩
  have B1 := Lib.hid (bl_box4 B0.out hb1)
  have A1 := (((A0.alloc _).alloc _).alloc _).keep hb1
  have P1 := ((P0.alloc _).alloc _).keep hb1
  have Q1 := (Q0.alloc _).keep hb1
  obtain ⟨a0, a1, a2, a3⟩ := A1.four
  have la := A1.lt
  obtain ⟨p0, p1, p2, p3⟩ := P1.four
  have lp := P1.lt
  obtain ⟨q0, q1, q2, q3⟩ := Q1.four
  have lq := Q1.lt
  clear hb1 A0 P0 Q0
  go_wp2_with fail
  go_at_call 53
  refine (H1.out.2 _).mono ?_
  rintro e w2 ⟨rfl, hb2⟩
  have B2 := Lib.hid (bl_then B1.out hb2)
  have A2 := (A1).keep hb2
  obtain ⟨a0, a1, a2, a3⟩ := A2.four
  have la := A2.lt
  have P2 := (P1).keep hb2
  obtain ⟨p0, p1, p2, p3⟩ := P2.four
  have lp := P2.lt
  have Q2 := (Q1).keep hb2
  obtain ⟨q0, q1, q2, q3⟩ := Q2.four
  have lq := Q2.lt
  clear hb2 A1 P1 Q1
  go_wp2_with fail
  go_at_call 52
  refine (H2.out.1 _).mono ?_
  rintro e w3 ⟨rfl, hb3⟩
  have B3 := Lib.hid (bl_then B2.out hb3)
  have A3 := (A2).keep hb3
  obtain ⟨a0, a1, a2, a3⟩ := A3.four
  have la := A3.lt
  have P3 := (P2).keep hb3
  obtain ⟨p0, p1, p2, p3⟩ := P3.four
  have lp := P3.lt
  have Q3 := (Q2).keep hb3
  obtain ⟨q0, q1, q2, q3⟩ := Q3.four
  have lq := Q3.lt
  clear hb3 A2 P2 Q2
  go_wp2_with fail
  go_at_call 52
  refine (H3.out.1 _).mono ?_
  rintro e w4 ⟨rfl, hb4⟩
  have B4 := Lib.hid (bl_then B3.out hb4)
  have A4 := (A3).keep hb4
  obtain ⟨a0, a1, a2, a3⟩ := A4.four
  have la := A4.lt
  have P4 := (P3).keep hb4
  obtain ⟨p0, p1, p2, p3⟩ := P4.four
  have lp := P4.lt
  have Q4 := (Q3).keep hb4
  obtain ⟨q0, q1, q2, q3⟩ := Q4.four
  have lq := Q4.lt
  clear hb4 A3 P3 Q3
  go_wp2_with fail
  go_at_call 52
  refine (H4.out.1 _).mono ?_
  rintro e w5 ⟨rfl, hb5⟩
  have B5 := Lib.hid (bl_then B4.out hb5)
  have A5 := (A4).keep hb5
  obtain ⟨a0, a1, a2, a3⟩ := A5.four
  have la := A5.lt
  have P5 := (P4).keep hb5
  obtain ⟨p0, p1, p2, p3⟩ := P5.four
  have lp := P5.lt
  have Q5 := (Q4).keep hb5
  obtain ⟨q0, q1, q2, q3⟩ := Q5.four
  have lq := Q5.lt
  clear hb5 A4 P4 Q4
  go_wp2_with fail
  go_at_call 9
  refine (awake_any _).mono ?_
  rintro e wz ⟨rfl, hbz⟩
  go_wp2
  go_ret
  exact ⟨ret_bool (by first | rfl | simp), bl_then B5.out hbz⟩

set_option maxRecDepth 100000 in
set_option maxHeartbeats 4000000 in
theorem orders_mmm (a b c : Vl) (w : World) (hs : a.s.size ≤ maxLen) (hs' : b.s.size ≤ maxLen) (hs'' : c.s.size ≤ maxLen) (hl : ∀ v ∈ [a, b, c], v.light = true) (h1 : Cmps a b (-1) 0) (h2 : Cmps b a 1 0) (h3 : Cmps b c (-1) 0) (h4 : Cmps a c (-1) 0) :
    Calls Try.prog 7 #[a.v, b.v, c.v] w fun e w' => e = .returned (.bool true) ∧ Below w.heap.size w w' := by
  have HP : Hid (∀ v ∈ [a, b, c], v.s.size ≤ maxLen) := Lib.hid (vl3 hs hs' hs'')
  clear hs hs' hs''
  have H1 := Lib.hid h1; have H2 := Lib.hid h2; have H3 := Lib.hid h3; have H4 := Lib.hid h4
  have HL := Lib.hid hl
  clear hl h1 h2 h3 h4
  go_enter Try.func7, Try.ntmps7
  have B0 : Hid (Below w.heap.size w w) := Lib.hid (Below.refl _ w)
  have A0 := Row.new w (vlC a.k a.n a.q a.s) 23
  have P0 := Row.new2 w (.cells (vlC a.k a.n a.q a.s) 23) (vlC b.k b.n b.q b.s) 23
  have Q0 := Row.new3 w (.cells (vlC a.k a.n a.q a.s) 23) (.cells (vlC b.k b.n b.q b.s) 23) (vlC c.k c.n c.q c.s) 23
  go_wp2_with fail
  go_at_call 8
  refine (bLight_yes [a, b, c] (w.heap.size + 1 + 1 + 1) 0 3 _ (VlsAt.three (Row.new4 _ _ _ _ _ _)) (by simp) (by simp <;> omega) HP.out HL.out).mono ?_
  rintro e wl ⟨rfl, rfl⟩
  go_wp2_with fail
  go_at_call 52
  refine (H1.out.1 _).mono ?_
  rintro e w1 ⟨rfl, hb1⟩
  have B1 := Lib.hid (bl_box4 B0.out hb1)
  have A1 := (((A0.alloc _).alloc _).alloc _).keep hb1
  have P1 := ((P0.alloc _).alloc _).keep hb1
  have Q1 := (Q0.alloc _).keep hb1
  obtain ⟨a0, a1, a2, a3⟩ := A1.four
  have la := A1.lt
  obtain ⟨p0, p1, p2, p3⟩ := P1.four
  have lp := P1.lt
  obtain ⟨q0, q1, q2, q3⟩ := Q1.four
  have lq := Q1.lt
  clear hb1 A0 P0 Q0
  go_wp2_with fail
  go_at_call 53
  refine (H1.out.2 _).mono ?_
  rintro e w2 ⟨rfl, hb2⟩
  have B2 := Lib.hid (bl_then B1.out hb2)
  have A2 := (A1).keep hb2
  obtain ⟨a0, a1, a2, a3⟩ := A2.four
  have la := A2.lt
  have P2 := (P1).keep hb2
  obtain ⟨p0, p1, p2, p3⟩ := P2.four
  have lp := P2.lt
  have Q2 := (Q1).keep hb2
  obtain ⟨q0, q1, q2, q3⟩ := Q2.four
  have lq := Q2.lt
  clear hb2 A1 P1 Q1
  go_wp2_with fail
  go_at_call 52
  refine (H2.out.1 _).mono ?_
  rintro e w3 ⟨rfl, hb3⟩
  have B3 := Lib.hid (bl_then B2.out hb3)
  have A3 := (A2).keep hb3
  obtain ⟨a0, a1, a2, a3⟩ := A3.four
  have la := A3.lt
  have P3 := (P2).keep hb3
  obtain ⟨p0, p1, p2, p3⟩ := P3.four
  have lp := P3.lt
  have Q3 := (Q2).keep hb3
  obtain ⟨q0, q1, q2, q3⟩ := Q3.four
  have lq := Q3.lt
  clear hb3 A2 P2 Q2
  go_wp2_with fail
  go_at_call 52
  refine (H3.out.1 _).mono ?_
  rintro e w4 ⟨rfl, hb4⟩
  have B4 := Lib.hid (bl_then B3.out hb4)
  have A4 := (A3).keep hb4
  obtain ⟨a0, a1, a2, a3⟩ := A4.four
  have la := A4.lt
  have P4 := (P3).keep hb4
  obtain ⟨p0, p1, p2, p3⟩ := P4.four
  have lp := P4.lt
  have Q4 := (Q3).keep hb4
  obtain ⟨q0, q1, q2, q3⟩ := Q4.four
  have lq := Q4.lt
  clear hb4 A3 P3 Q3
  go_wp2_with fail
  go_at_call 52
  refine (H4.out.1 _).mono ?_
  rintro e w5 ⟨rfl, hb5⟩
  have B5 := Lib.hid (bl_then B4.out hb5)
  have A5 := (A4).keep hb5
  obtain ⟨a0, a1, a2, a3⟩ := A5.four
  have la := A5.lt
  have P5 := (P4).keep hb5
  obtain ⟨p0, p1, p2, p3⟩ := P5.four
  have lp := P5.lt
  have Q5 := (Q4).keep hb5
  obtain ⟨q0, q1, q2, q3⟩ := Q5.four
  have lq := Q5.lt
  clear hb5 A4 P4 Q4
  go_wp2_with fail
  go_at_call 9
  refine (awake_any _).mono ?_
  rintro e wz ⟨rfl, hbz⟩
  go_wp2
  go_ret
  exact ⟨ret_bool (by first | rfl | simp), bl_then B5.out hbz⟩

set_option maxRecDepth 100000 in
set_option maxHeartbeats 4000000 in
theorem orders_mmo (a b c : Vl) (w : World) (hs : a.s.size ≤ maxLen) (hs' : b.s.size ≤ maxLen) (hs'' : c.s.size ≤ maxLen) (hl : ∀ v ∈ [a, b, c], v.light = true) (h1 : Cmps a b (-1) 0) (h2 : Cmps b a 1 0) (h3 : Cmps b c (-1) 0) (h4 : Cmps a c 0 0) :
    Calls Try.prog 7 #[a.v, b.v, c.v] w fun e w' => e = .returned (.bool true) ∧ Below w.heap.size w w' := by
  have HP : Hid (∀ v ∈ [a, b, c], v.s.size ≤ maxLen) := Lib.hid (vl3 hs hs' hs'')
  clear hs hs' hs''
  have H1 := Lib.hid h1; have H2 := Lib.hid h2; have H3 := Lib.hid h3; have H4 := Lib.hid h4
  have HL := Lib.hid hl
  clear hl h1 h2 h3 h4
  go_enter Try.func7, Try.ntmps7
  have B0 : Hid (Below w.heap.size w w) := Lib.hid (Below.refl _ w)
  have A0 := Row.new w (vlC a.k a.n a.q a.s) 23
  have P0 := Row.new2 w (.cells (vlC a.k a.n a.q a.s) 23) (vlC b.k b.n b.q b.s) 23
  have Q0 := Row.new3 w (.cells (vlC a.k a.n a.q a.s) 23) (.cells (vlC b.k b.n b.q b.s) 23) (vlC c.k c.n c.q c.s) 23
  go_wp2_with fail
  go_at_call 8
  refine (bLight_yes [a, b, c] (w.heap.size + 1 + 1 + 1) 0 3 _ (VlsAt.three (Row.new4 _ _ _ _ _ _)) (by simp) (by simp <;> omega) HP.out HL.out).mono ?_
  rintro e wl ⟨rfl, rfl⟩
  go_wp2_with fail
  go_at_call 52
  refine (H1.out.1 _).mono ?_
  rintro e w1 ⟨rfl, hb1⟩
  have B1 := Lib.hid (bl_box4 B0.out hb1)
  have A1 := (((A0.alloc _).alloc _).alloc _).keep hb1
  have P1 := ((P0.alloc _).alloc _).keep hb1
  have Q1 := (Q0.alloc _).keep hb1
  obtain ⟨a0, a1, a2, a3⟩ := A1.four
  have la := A1.lt
  obtain ⟨p0, p1, p2, p3⟩ := P1.four
  have lp := P1.lt
  obtain ⟨q0, q1, q2, q3⟩ := Q1.four
  have lq := Q1.lt
  clear hb1 A0 P0 Q0
  go_wp2_with fail
  go_at_call 53
  refine (H1.out.2 _).mono ?_
  rintro e w2 ⟨rfl, hb2⟩
  have B2 := Lib.hid (bl_then B1.out hb2)
  have A2 := (A1).keep hb2
  obtain ⟨a0, a1, a2, a3⟩ := A2.four
  have la := A2.lt
  have P2 := (P1).keep hb2
  obtain ⟨p0, p1, p2, p3⟩ := P2.four
  have lp := P2.lt
  have Q2 := (Q1).keep hb2
  obtain ⟨q0, q1, q2, q3⟩ := Q2.four
  have lq := Q2.lt
  clear hb2 A1 P1 Q1
  go_wp2_with fail
  go_at_call 52
  refine (H2.out.1 _).mono ?_
  rintro e w3 ⟨rfl, hb3⟩
  have B3 := Lib.hid (bl_then B2.out hb3)
  have A3 := (A2).keep hb3
  obtain ⟨a0, a1, a2, a3⟩ := A3.four
  have la := A3.lt
  have P3 := (P2).keep hb3
  obtain ⟨p0, p1, p2, p3⟩ := P3.four
  have lp := P3.lt
  have Q3 := (Q2).keep hb3
  obtain ⟨q0, q1, q2, q3⟩ := Q3.four
  have lq := Q3.lt
  clear hb3 A2 P2 Q2
  go_wp2_with fail
  go_at_call 52
  refine (H3.out.1 _).mono ?_
  rintro e w4 ⟨rfl, hb4⟩
  have B4 := Lib.hid (bl_then B3.out hb4)
  have A4 := (A3).keep hb4
  obtain ⟨a0, a1, a2, a3⟩ := A4.four
  have la := A4.lt
  have P4 := (P3).keep hb4
  obtain ⟨p0, p1, p2, p3⟩ := P4.four
  have lp := P4.lt
  have Q4 := (Q3).keep hb4
  obtain ⟨q0, q1, q2, q3⟩ := Q4.four
  have lq := Q4.lt
  clear hb4 A3 P3 Q3
  go_wp2_with fail
  go_at_call 52
  refine (H4.out.1 _).mono ?_
  rintro e w5 ⟨rfl, hb5⟩
  have B5 := Lib.hid (bl_then B4.out hb5)
  have A5 := (A4).keep hb5
  obtain ⟨a0, a1, a2, a3⟩ := A5.four
  have la := A5.lt
  have P5 := (P4).keep hb5
  obtain ⟨p0, p1, p2, p3⟩ := P5.four
  have lp := P5.lt
  have Q5 := (Q4).keep hb5
  obtain ⟨q0, q1, q2, q3⟩ := Q5.four
  have lq := Q5.lt
  clear hb5 A4 P4 Q4
  go_wp2_with fail
  go_at_call 9
  refine (awake_any _).mono ?_
  rintro e wz ⟨rfl, hbz⟩
  go_wp2
  go_ret
  exact ⟨ret_bool (by first | rfl | simp), bl_then B5.out hbz⟩

set_option maxRecDepth 100000 in
set_option maxHeartbeats 4000000 in
theorem orders_mom (a b c : Vl) (w : World) (hs : a.s.size ≤ maxLen) (hs' : b.s.size ≤ maxLen) (hs'' : c.s.size ≤ maxLen) (hl : ∀ v ∈ [a, b, c], v.light = true) (h1 : Cmps a b (-1) 0) (h2 : Cmps b a 1 0) (h3 : Cmps b c 0 0) (h4 : Cmps a c (-1) 0) :
    Calls Try.prog 7 #[a.v, b.v, c.v] w fun e w' => e = .returned (.bool true) ∧ Below w.heap.size w w' := by
  have HP : Hid (∀ v ∈ [a, b, c], v.s.size ≤ maxLen) := Lib.hid (vl3 hs hs' hs'')
  clear hs hs' hs''
  have H1 := Lib.hid h1; have H2 := Lib.hid h2; have H3 := Lib.hid h3; have H4 := Lib.hid h4
  have HL := Lib.hid hl
  clear hl h1 h2 h3 h4
  go_enter Try.func7, Try.ntmps7
  have B0 : Hid (Below w.heap.size w w) := Lib.hid (Below.refl _ w)
  have A0 := Row.new w (vlC a.k a.n a.q a.s) 23
  have P0 := Row.new2 w (.cells (vlC a.k a.n a.q a.s) 23) (vlC b.k b.n b.q b.s) 23
  have Q0 := Row.new3 w (.cells (vlC a.k a.n a.q a.s) 23) (.cells (vlC b.k b.n b.q b.s) 23) (vlC c.k c.n c.q c.s) 23
  go_wp2_with fail
  go_at_call 8
  refine (bLight_yes [a, b, c] (w.heap.size + 1 + 1 + 1) 0 3 _ (VlsAt.three (Row.new4 _ _ _ _ _ _)) (by simp) (by simp <;> omega) HP.out HL.out).mono ?_
  rintro e wl ⟨rfl, rfl⟩
  go_wp2_with fail
  go_at_call 52
  refine (H1.out.1 _).mono ?_
  rintro e w1 ⟨rfl, hb1⟩
  have B1 := Lib.hid (bl_box4 B0.out hb1)
  have A1 := (((A0.alloc _).alloc _).alloc _).keep hb1
  have P1 := ((P0.alloc _).alloc _).keep hb1
  have Q1 := (Q0.alloc _).keep hb1
  obtain ⟨a0, a1, a2, a3⟩ := A1.four
  have la := A1.lt
  obtain ⟨p0, p1, p2, p3⟩ := P1.four
  have lp := P1.lt
  obtain ⟨q0, q1, q2, q3⟩ := Q1.four
  have lq := Q1.lt
  clear hb1 A0 P0 Q0
  go_wp2_with fail
  go_at_call 53
  refine (H1.out.2 _).mono ?_
  rintro e w2 ⟨rfl, hb2⟩
  have B2 := Lib.hid (bl_then B1.out hb2)
  have A2 := (A1).keep hb2
  obtain ⟨a0, a1, a2, a3⟩ := A2.four
  have la := A2.lt
  have P2 := (P1).keep hb2
  obtain ⟨p0, p1, p2, p3⟩ := P2.four
  have lp := P2.lt
  have Q2 := (Q1).keep hb2
  obtain ⟨q0, q1, q2, q3⟩ := Q2.four
  have lq := Q2.lt
  clear hb2 A1 P1 Q1
  go_wp2_with fail
  go_at_call 52
  refine (H2.out.1 _).mono ?_
  rintro e w3 ⟨rfl, hb3⟩
  have B3 := Lib.hid (bl_then B2.out hb3)
  have A3 := (A2).keep hb3
  obtain ⟨a0, a1, a2, a3⟩ := A3.four
  have la := A3.lt
  have P3 := (P2).keep hb3
  obtain ⟨p0, p1, p2, p3⟩ := P3.four
  have lp := P3.lt
  have Q3 := (Q2).keep hb3
  obtain ⟨q0, q1, q2, q3⟩ := Q3.four
  have lq := Q3.lt
  clear hb3 A2 P2 Q2
  go_wp2_with fail
  go_at_call 52
  refine (H3.out.1 _).mono ?_
  rintro e w4 ⟨rfl, hb4⟩
  have B4 := Lib.hid (bl_then B3.out hb4)
  have A4 := (A3).keep hb4
  obtain ⟨a0, a1, a2, a3⟩ := A4.four
  have la := A4.lt
  have P4 := (P3).keep hb4
  obtain ⟨p0, p1, p2, p3⟩ := P4.four
  have lp := P4.lt
  have Q4 := (Q3).keep hb4
  obtain ⟨q0, q1, q2, q3⟩ := Q4.four
  have lq := Q4.lt
  clear hb4 A3 P3 Q3
  go_wp2_with fail
  go_at_call 52
  refine (H4.out.1 _).mono ?_
  rintro e w5 ⟨rfl, hb5⟩
  have B5 := Lib.hid (bl_then B4.out hb5)
  have A5 := (A4).keep hb5
  obtain ⟨a0, a1, a2, a3⟩ := A5.four
  have la := A5.lt
  have P5 := (P4).keep hb5
  obtain ⟨p0, p1, p2, p3⟩ := P5.four
  have lp := P5.lt
  have Q5 := (Q4).keep hb5
  obtain ⟨q0, q1, q2, q3⟩ := Q5.four
  have lq := Q5.lt
  clear hb5 A4 P4 Q4
  go_wp2_with fail
  go_at_call 9
  refine (awake_any _).mono ?_
  rintro e wz ⟨rfl, hbz⟩
  go_wp2
  go_ret
  exact ⟨ret_bool (by first | rfl | simp), bl_then B5.out hbz⟩

set_option maxRecDepth 100000 in
set_option maxHeartbeats 4000000 in
theorem orders_moo (a b c : Vl) (w : World) (hs : a.s.size ≤ maxLen) (hs' : b.s.size ≤ maxLen) (hs'' : c.s.size ≤ maxLen) (hl : ∀ v ∈ [a, b, c], v.light = true) (h1 : Cmps a b (-1) 0) (h2 : Cmps b a 1 0) (h3 : Cmps b c 0 0) (h4 : Cmps a c 0 0) :
    Calls Try.prog 7 #[a.v, b.v, c.v] w fun e w' => e = .returned (.bool true) ∧ Below w.heap.size w w' := by
  have HP : Hid (∀ v ∈ [a, b, c], v.s.size ≤ maxLen) := Lib.hid (vl3 hs hs' hs'')
  clear hs hs' hs''
  have H1 := Lib.hid h1; have H2 := Lib.hid h2; have H3 := Lib.hid h3; have H4 := Lib.hid h4
  have HL := Lib.hid hl
  clear hl h1 h2 h3 h4
  go_enter Try.func7, Try.ntmps7
  have B0 : Hid (Below w.heap.size w w) := Lib.hid (Below.refl _ w)
  have A0 := Row.new w (vlC a.k a.n a.q a.s) 23
  have P0 := Row.new2 w (.cells (vlC a.k a.n a.q a.s) 23) (vlC b.k b.n b.q b.s) 23
  have Q0 := Row.new3 w (.cells (vlC a.k a.n a.q a.s) 23) (.cells (vlC b.k b.n b.q b.s) 23) (vlC c.k c.n c.q c.s) 23
  go_wp2_with fail
  go_at_call 8
  refine (bLight_yes [a, b, c] (w.heap.size + 1 + 1 + 1) 0 3 _ (VlsAt.three (Row.new4 _ _ _ _ _ _)) (by simp) (by simp <;> omega) HP.out HL.out).mono ?_
  rintro e wl ⟨rfl, rfl⟩
  go_wp2_with fail
  go_at_call 52
  refine (H1.out.1 _).mono ?_
  rintro e w1 ⟨rfl, hb1⟩
  have B1 := Lib.hid (bl_box4 B0.out hb1)
  have A1 := (((A0.alloc _).alloc _).alloc _).keep hb1
  have P1 := ((P0.alloc _).alloc _).keep hb1
  have Q1 := (Q0.alloc _).keep hb1
  obtain ⟨a0, a1, a2, a3⟩ := A1.four
  have la := A1.lt
  obtain ⟨p0, p1, p2, p3⟩ := P1.four
  have lp := P1.lt
  obtain ⟨q0, q1, q2, q3⟩ := Q1.four
  have lq := Q1.lt
  clear hb1 A0 P0 Q0
  go_wp2_with fail
  go_at_call 53
  refine (H1.out.2 _).mono ?_
  rintro e w2 ⟨rfl, hb2⟩
  have B2 := Lib.hid (bl_then B1.out hb2)
  have A2 := (A1).keep hb2
  obtain ⟨a0, a1, a2, a3⟩ := A2.four
  have la := A2.lt
  have P2 := (P1).keep hb2
  obtain ⟨p0, p1, p2, p3⟩ := P2.four
  have lp := P2.lt
  have Q2 := (Q1).keep hb2
  obtain ⟨q0, q1, q2, q3⟩ := Q2.four
  have lq := Q2.lt
  clear hb2 A1 P1 Q1
  go_wp2_with fail
  go_at_call 52
  refine (H2.out.1 _).mono ?_
  rintro e w3 ⟨rfl, hb3⟩
  have B3 := Lib.hid (bl_then B2.out hb3)
  have A3 := (A2).keep hb3
  obtain ⟨a0, a1, a2, a3⟩ := A3.four
  have la := A3.lt
  have P3 := (P2).keep hb3
  obtain ⟨p0, p1, p2, p3⟩ := P3.four
  have lp := P3.lt
  have Q3 := (Q2).keep hb3
  obtain ⟨q0, q1, q2, q3⟩ := Q3.four
  have lq := Q3.lt
  clear hb3 A2 P2 Q2
  go_wp2_with fail
  go_at_call 52
  refine (H3.out.1 _).mono ?_
  rintro e w4 ⟨rfl, hb4⟩
  have B4 := Lib.hid (bl_then B3.out hb4)
  have A4 := (A3).keep hb4
  obtain ⟨a0, a1, a2, a3⟩ := A4.four
  have la := A4.lt
  have P4 := (P3).keep hb4
  obtain ⟨p0, p1, p2, p3⟩ := P4.four
  have lp := P4.lt
  have Q4 := (Q3).keep hb4
  obtain ⟨q0, q1, q2, q3⟩ := Q4.four
  have lq := Q4.lt
  clear hb4 A3 P3 Q3
  go_wp2_with fail
  go_at_call 52
  refine (H4.out.1 _).mono ?_
  rintro e w5 ⟨rfl, hb5⟩
  have B5 := Lib.hid (bl_then B4.out hb5)
  have A5 := (A4).keep hb5
  obtain ⟨a0, a1, a2, a3⟩ := A5.four
  have la := A5.lt
  have P5 := (P4).keep hb5
  obtain ⟨p0, p1, p2, p3⟩ := P5.four
  have lp := P5.lt
  have Q5 := (Q4).keep hb5
  obtain ⟨q0, q1, q2, q3⟩ := Q5.four
  have lq := Q5.lt
  clear hb5 A4 P4 Q4
  go_wp2_with fail
  go_at_call 9
  refine (awake_any _).mono ?_
  rintro e wz ⟨rfl, hbz⟩
  go_wp2
  go_ret
  exact ⟨ret_bool (by first | rfl | simp), bl_then B5.out hbz⟩

set_option maxRecDepth 100000 in
set_option maxHeartbeats 4000000 in
theorem orders_mpm (a b c : Vl) (w : World) (hs : a.s.size ≤ maxLen) (hs' : b.s.size ≤ maxLen) (hs'' : c.s.size ≤ maxLen) (hl : ∀ v ∈ [a, b, c], v.light = true) (h1 : Cmps a b (-1) 0) (h2 : Cmps b a 1 0) (h3 : Cmps b c 1 0) (h4 : Cmps a c (-1) 0) :
    Calls Try.prog 7 #[a.v, b.v, c.v] w fun e w' => e = .returned (.bool true) ∧ Below w.heap.size w w' := by
  have HP : Hid (∀ v ∈ [a, b, c], v.s.size ≤ maxLen) := Lib.hid (vl3 hs hs' hs'')
  clear hs hs' hs''
  have H1 := Lib.hid h1; have H2 := Lib.hid h2; have H3 := Lib.hid h3; have H4 := Lib.hid h4
  have HL := Lib.hid hl
  clear hl h1 h2 h3 h4
  go_enter Try.func7, Try.ntmps7
  have B0 : Hid (Below w.heap.size w w) := Lib.hid (Below.refl _ w)
  have A0 := Row.new w (vlC a.k a.n a.q a.s) 23
  have P0 := Row.new2 w (.cells (vlC a.k a.n a.q a.s) 23) (vlC b.k b.n b.q b.s) 23
  have Q0 := Row.new3 w (.cells (vlC a.k a.n a.q a.s) 23) (.cells (vlC b.k b.n b.q b.s) 23) (vlC c.k c.n c.q c.s) 23
  go_wp2_with fail
  go_at_call 8
  refine (bLight_yes [a, b, c] (w.heap.size + 1 + 1 + 1) 0 3 _ (VlsAt.three (Row.new4 _ _ _ _ _ _)) (by simp) (by simp <;> omega) HP.out HL.out).mono ?_
  rintro e wl ⟨rfl, rfl⟩
  go_wp2_with fail
  go_at_call 52
  refine (H1.out.1 _).mono ?_
  rintro e w1 ⟨rfl, hb1⟩
  have B1 := Lib.hid (bl_box4 B0.out hb1)
  have A1 := (((A0.alloc _).alloc _).alloc _).keep hb1
  have P1 := ((P0.alloc _).alloc _).keep hb1
  have Q1 := (Q0.alloc _).keep hb1
  obtain ⟨a0, a1, a2, a3⟩ := A1.four
  have la := A1.lt
  obtain ⟨p0, p1, p2, p3⟩ := P1.four
  have lp := P1.lt
  obtain ⟨q0, q1, q2, q3⟩ := Q1.four
  have lq := Q1.lt
  clear hb1 A0 P0 Q0
  go_wp2_with fail
  go_at_call 53
  refine (H1.out.2 _).mono ?_
  rintro e w2 ⟨rfl, hb2⟩
  have B2 := Lib.hid (bl_then B1.out hb2)
  have A2 := (A1).keep hb2
  obtain ⟨a0, a1, a2, a3⟩ := A2.four
  have la := A2.lt
  have P2 := (P1).keep hb2
  obtain ⟨p0, p1, p2, p3⟩ := P2.four
  have lp := P2.lt
  have Q2 := (Q1).keep hb2
  obtain ⟨q0, q1, q2, q3⟩ := Q2.four
  have lq := Q2.lt
  clear hb2 A1 P1 Q1
  go_wp2_with fail
  go_at_call 52
  refine (H2.out.1 _).mono ?_
  rintro e w3 ⟨rfl, hb3⟩
  have B3 := Lib.hid (bl_then B2.out hb3)
  have A3 := (A2).keep hb3
  obtain ⟨a0, a1, a2, a3⟩ := A3.four
  have la := A3.lt
  have P3 := (P2).keep hb3
  obtain ⟨p0, p1, p2, p3⟩ := P3.four
  have lp := P3.lt
  have Q3 := (Q2).keep hb3
  obtain ⟨q0, q1, q2, q3⟩ := Q3.four
  have lq := Q3.lt
  clear hb3 A2 P2 Q2
  go_wp2_with fail
  go_at_call 52
  refine (H3.out.1 _).mono ?_
  rintro e w4 ⟨rfl, hb4⟩
  have B4 := Lib.hid (bl_then B3.out hb4)
  have A4 := (A3).keep hb4
  obtain ⟨a0, a1, a2, a3⟩ := A4.four
  have la := A4.lt
  have P4 := (P3).keep hb4
  obtain ⟨p0, p1, p2, p3⟩ := P4.four
  have lp := P4.lt
  have Q4 := (Q3).keep hb4
  obtain ⟨q0, q1, q2, q3⟩ := Q4.four
  have lq := Q4.lt
  clear hb4 A3 P3 Q3
  go_wp2_with fail
  go_at_call 52
  refine (H4.out.1 _).mono ?_
  rintro e w5 ⟨rfl, hb5⟩
  have B5 := Lib.hid (bl_then B4.out hb5)
  have A5 := (A4).keep hb5
  obtain ⟨a0, a1, a2, a3⟩ := A5.four
  have la := A5.lt
  have P5 := (P4).keep hb5
  obtain ⟨p0, p1, p2, p3⟩ := P5.four
  have lp := P5.lt
  have Q5 := (Q4).keep hb5
  obtain ⟨q0, q1, q2, q3⟩ := Q5.four
  have lq := Q5.lt
  clear hb5 A4 P4 Q4
  go_wp2_with fail
  go_at_call 9
  refine (awake_any _).mono ?_
  rintro e wz ⟨rfl, hbz⟩
  go_wp2
  go_ret
  exact ⟨ret_bool (by first | rfl | simp), bl_then B5.out hbz⟩

set_option maxRecDepth 100000 in
set_option maxHeartbeats 4000000 in
theorem orders_mpo (a b c : Vl) (w : World) (hs : a.s.size ≤ maxLen) (hs' : b.s.size ≤ maxLen) (hs'' : c.s.size ≤ maxLen) (hl : ∀ v ∈ [a, b, c], v.light = true) (h1 : Cmps a b (-1) 0) (h2 : Cmps b a 1 0) (h3 : Cmps b c 1 0) (h4 : Cmps a c 0 0) :
    Calls Try.prog 7 #[a.v, b.v, c.v] w fun e w' => e = .returned (.bool true) ∧ Below w.heap.size w w' := by
  have HP : Hid (∀ v ∈ [a, b, c], v.s.size ≤ maxLen) := Lib.hid (vl3 hs hs' hs'')
  clear hs hs' hs''
  have H1 := Lib.hid h1; have H2 := Lib.hid h2; have H3 := Lib.hid h3; have H4 := Lib.hid h4
  have HL := Lib.hid hl
  clear hl h1 h2 h3 h4
  go_enter Try.func7, Try.ntmps7
  have B0 : Hid (Below w.heap.size w w) := Lib.hid (Below.refl _ w)
  have A0 := Row.new w (vlC a.k a.n a.q a.s) 23
  have P0 := Row.new2 w (.cells (vlC a.k a.n a.q a.s) 23) (vlC b.k b.n b.q b.s) 23
  have Q0 := Row.new3 w (.cells (vlC a.k a.n a.q a.s) 23) (.cells (vlC b.k b.n b.q b.s) 23) (vlC c.k c.n c.q c.s) 23
  go_wp2_with fail
  go_at_call 8
  refine (bLight_yes [a, b, c] (w.heap.size + 1 + 1 + 1) 0 3 _ (VlsAt.three (Row.new4 _ _ _ _ _ _)) (by simp) (by simp <;> omega) HP.out HL.out).mono ?_
  rintro e wl ⟨rfl, rfl⟩
  go_wp2_with fail
  go_at_call 52
  refine (H1.out.1 _).mono ?_
  rintro e w1 ⟨rfl, hb1⟩
  have B1 := Lib.hid (bl_box4 B0.out hb1)
  have A1 := (((A0.alloc _).alloc _).alloc _).keep hb1
  have P1 := ((P0.alloc _).alloc _).keep hb1
  have Q1 := (Q0.alloc _).keep hb1
  obtain ⟨a0, a1, a2, a3⟩ := A1.four
  have la := A1.lt
  obtain ⟨p0, p1, p2, p3⟩ := P1.four
  have lp := P1.lt
  obtain ⟨q0, q1, q2, q3⟩ := Q1.four
  have lq := Q1.lt
  clear hb1 A0 P0 Q0
  go_wp2_with fail
  go_at_call 53
  refine (H1.out.2 _).mono ?_
  rintro e w2 ⟨rfl, hb2⟩
  have B2 := Lib.hid (bl_then B1.out hb2)
  have A2 := (A1).keep hb2
  obtain ⟨a0, a1, a2, a3⟩ := A2.four
  have la := A2.lt
  have P2 := (P1).keep hb2
  obtain ⟨p0, p1, p2, p3⟩ := P2.four
  have lp := P2.lt
  have Q2 := (Q1).keep hb2
  obtain ⟨q0, q1, q2, q3⟩ := Q2.four
  have lq := Q2.lt
  clear hb2 A1 P1 Q1
  go_wp2_with fail
  go_at_call 52
  refine (H2.out.1 _).mono ?_
  rintro e w3 ⟨rfl, hb3⟩
  have B3 := Lib.hid (bl_then B2.out hb3)
  have A3 := (A2).keep hb3
  obtain ⟨a0, a1, a2, a3⟩ := A3.four
  have la := A3.lt
  have P3 := (P2).keep hb3
  obtain ⟨p0, p1, p2, p3⟩ := P3.four
  have lp := P3.lt
  have Q3 := (Q2).keep hb3
  obtain ⟨q0, q1, q2, q3⟩ := Q3.four
  have lq := Q3.lt
  clear hb3 A2 P2 Q2
  go_wp2_with fail
  go_at_call 52
  refine (H3.out.1 _).mono ?_
  rintro e w4 ⟨rfl, hb4⟩
  have B4 := Lib.hid (bl_then B3.out hb4)
  have A4 := (A3).keep hb4
  obtain ⟨a0, a1, a2, a3⟩ := A4.four
  have la := A4.lt
  have P4 := (P3).keep hb4
  obtain ⟨p0, p1, p2, p3⟩ := P4.four
  have lp := P4.lt
  have Q4 := (Q3).keep hb4
  obtain ⟨q0, q1, q2, q3⟩ := Q4.four
  have lq := Q4.lt
  clear hb4 A3 P3 Q3
  go_wp2_with fail
  go_at_call 52
  refine (H4.out.1 _).mono ?_
  rintro e w5 ⟨rfl, hb5⟩
  have B5 := Lib.hid (bl_then B4.out hb5)
  have A5 := (A4).keep hb5
  obtain ⟨a0, a1, a2, a3⟩ := A5.four
  have la := A5.lt
  have P5 := (P4).keep hb5
  obtain ⟨p0, p1, p2, p3⟩ := P5.four
  have lp := P5.lt
  have Q5 := (Q4).keep hb5
  obtain ⟨q0, q1, q2, q3⟩ := Q5.four
  have lq := Q5.lt
  clear hb5 A4 P4 Q4
  go_wp2_with fail
  go_at_call 9
  refine (awake_any _).mono ?_
  rintro e wz ⟨rfl, hbz⟩
  go_wp2
  go_ret
  exact ⟨ret_bool (by first | rfl | simp), bl_then B5.out hbz⟩

set_option maxRecDepth 100000 in
set_option maxHeartbeats 4000000 in
theorem orders_mpp (a b c : Vl) (w : World) (hs : a.s.size ≤ maxLen) (hs' : b.s.size ≤ maxLen) (hs'' : c.s.size ≤ maxLen) (hl : ∀ v ∈ [a, b, c], v.light = true) (h1 : Cmps a b (-1) 0) (h2 : Cmps b a 1 0) (h3 : Cmps b c 1 0) (h4 : Cmps a c 1 0) :
    Calls Try.prog 7 #[a.v, b.v, c.v] w fun e w' => e = .returned (.bool true) ∧ Below w.heap.size w w' := by
  have HP : Hid (∀ v ∈ [a, b, c], v.s.size ≤ maxLen) := Lib.hid (vl3 hs hs' hs'')
  clear hs hs' hs''
  have H1 := Lib.hid h1; have H2 := Lib.hid h2; have H3 := Lib.hid h3; have H4 := Lib.hid h4
  have HL := Lib.hid hl
  clear hl h1 h2 h3 h4
  go_enter Try.func7, Try.ntmps7
  have B0 : Hid (Below w.heap.size w w) := Lib.hid (Below.refl _ w)
  have A0 := Row.new w (vlC a.k a.n a.q a.s) 23
  have P0 := Row.new2 w (.cells (vlC a.k a.n a.q a.s) 23) (vlC b.k b.n b.q b.s) 23
  have Q0 := Row.new3 w (.cells (vlC a.k a.n a.q a.s) 23) (.cells (vlC b.k b.n b.q b.s) 23) (vlC c.k c.n c.q c.s) 23
  go_wp2_with fail
  go_at_call 8
  refine (bLight_yes [a, b, c] (w.heap.size + 1 + 1 + 1) 0 3 _ (VlsAt.three (Row.new4 _ _ _ _ _ _)) (by simp) (by simp <;> omega) HP.out HL.out).mono ?_
  rintro e wl ⟨rfl, rfl⟩
  go_wp2_with fail
  go_at_call 52
  refine (H1.out.1 _).mono ?_
  rintro e w1 ⟨rfl, hb1⟩
  have B1 := Lib.hid (bl_box4 B0.out hb1)
  have A1 := (((A0.alloc _).alloc _).alloc _).keep hb1
  have P1 := ((P0.alloc _).alloc _).keep hb1
  have Q1 := (Q0.alloc _).keep hb1
  obtain ⟨a0, a1, a2, a3⟩ := A1.four
  have la := A1.lt
  obtain ⟨p0, p1, p2, p3⟩ := P1.four
  have lp := P1.lt
  obtain ⟨q0, q1, q2, q3⟩ := Q1.four
  have lq := Q1.lt
  clear hb1 A0 P0 Q0
  go_wp2_with fail
  go_at_call 53
  refine (H1.out.2 _).mono ?_
  rintro e w2 ⟨rfl, hb2⟩
  have B2 := Lib.hid (bl_then B1.out hb2)
  have A2 := (A1).keep hb2
  obtain ⟨a0, a1, a2, a3⟩ := A2.four
  have la := A2.lt
  have P2 := (P1).keep hb2
  obtain ⟨p0, p1, p2, p3⟩ := P2.four
  have lp := P2.lt
  have Q2 := (Q1).keep hb2
  obtain ⟨q0, q1, q2, q3⟩ := Q2.four
  have lq := Q2.lt
  clear hb2 A1 P1 Q1
  go_wp2_with fail
  go_at_call 52
  refine (H2.out.1 _).mono ?_
  rintro e w3 ⟨rfl, hb3⟩
  have B3 := Lib.hid (bl_then B2.out hb3)
  have A3 := (A2).keep hb3
  obtain ⟨a0, a1, a2, a3⟩ := A3.four
  have la := A3.lt
  have P3 := (P2).keep hb3
  obtain ⟨p0, p1, p2, p3⟩ := P3.four
  have lp := P3.lt
  have Q3 := (Q2).keep hb3
  obtain ⟨q0, q1, q2, q3⟩ := Q3.four
  have lq := Q3.lt
  clear hb3 A2 P2 Q2
  go_wp2_with fail
  go_at_call 52
  refine (H3.out.1 _).mono ?_
  rintro e w4 ⟨rfl, hb4⟩
  have B4 := Lib.hid (bl_then B3.out hb4)
  have A4 := (A3).keep hb4
  obtain ⟨a0, a1, a2, a3⟩ := A4.four
  have la := A4.lt
  have P4 := (P3).keep hb4
  obtain ⟨p0, p1, p2, p3⟩ := P4.four
  have lp := P4.lt
  have Q4 := (Q3).keep hb4
  obtain ⟨q0, q1, q2, q3⟩ := Q4.four
  have lq := Q4.lt
  clear hb4 A3 P3 Q3
  go_wp2_with fail
  go_at_call 52
  refine (H4.out.1 _).mono ?_
  rintro e w5 ⟨rfl, hb5⟩
  have B5 := Lib.hid (bl_then B4.out hb5)
  have A5 := (A4).keep hb5
  obtain ⟨a0, a1, a2, a3⟩ := A5.four
  have la := A5.lt
  have P5 := (P4).keep hb5
  obtain ⟨p0, p1, p2, p3⟩ := P5.four
  have lp := P5.lt
  have Q5 := (Q4).keep hb5
  obtain ⟨q0, q1, q2, q3⟩ := Q5.four
  have lq := Q5.lt
  clear hb5 A4 P4 Q4
  go_wp2_with fail
  go_at_call 9
  refine (awake_any _).mono ?_
  rintro e wz ⟨rfl, hbz⟩
  go_wp2
  go_ret
  exact ⟨ret_bool (by first | rfl | simp), bl_then B5.out hbz⟩

set_option maxRecDepth 100000 in
set_option maxHeartbeats 4000000 in
theorem orders_omm (a b c : Vl) (w : World) (hs : a.s.size ≤ maxLen) (hs' : b.s.size ≤ maxLen) (hs'' : c.s.size ≤ maxLen) (hl : ∀ v ∈ [a, b, c], v.light = true) (h1 : Cmps a b 0 0) (h2 : Cmps b a 0 0) (h3 : Cmps b c (-1) 0) (h4 : Cmps a c (-1) 0) :
    Calls Try.prog 7 #[a.v, b.v, c.v] w fun e w' => e = .returned (.bool true) ∧ Below w.heap.size w w' := by
  have HP : Hid (∀ v ∈ [a, b, c], v.s.size ≤ maxLen) := Lib.hid (vl3 hs hs' hs'')
  clear hs hs' hs''
  have H1 := Lib.hid h1; have H2 := Lib.hid h2; have H3 := Lib.hid h3; have H4 := Lib.hid h4
  have HL := Lib.hid hl
  clear hl h1 h2 h3 h4
  go_enter Try.func7, Try.ntmps7
  have B0 : Hid (Below w.heap.size w w) := Lib.hid (Below.refl _ w)
  have A0 := Row.new w (vlC a.k a.n a.q a.s) 23
  have P0 := Row.new2 w (.cells (vlC a.k a.n a.q a.s) 23) (vlC b.k b.n b.q b.s) 23
  have Q0 := Row.new3 w (.cells (vlC a.k a.n a.q a.s) 23) (.cells (vlC b.k b.n b.q b.s) 23) (vlC c.k c.n c.q c.s) 23
  go_wp2_with fail
  go_at_call 8
  refine (bLight_yes [a, b, c] (w.heap.size + 1 + 1 + 1) 0 3 _ (VlsAt.three (Row.new4 _ _ _ _ _ _)) (by simp) (by simp <;> omega) HP.out HL.out).mono ?_
  rintro e wl ⟨rfl, rfl⟩
  go_wp2_with fail
  go_at_call 52
  refine (H1.out.1 _).mono ?_
  rintro e w1 ⟨rfl, hb1⟩
  have B1 := Lib.hid (bl_box4 B0.out hb1)
  have A1 := (((A0.alloc _).alloc _).alloc _).keep hb1
  have P1 := ((P0.alloc _).alloc _).keep hb1
  have Q1 := (Q0.alloc _).keep hb1
  obtain ⟨a0, a1, a2, a3⟩ := A1.four
  have la := A1.lt
  obtain ⟨p0, p1, p2, p3⟩ := P1.four
  have lp := P1.lt
  obtain ⟨q0, q1, q2, q3⟩ := Q1.four
  have lq := Q1.lt
  clear hb1 A0 P0 Q0
  go_wp2_with fail
  go_at_call 53
  refine (H1.out.2 _).mono ?_
  rintro e w2 ⟨rfl, hb2⟩
  have B2 := Lib.hid (bl_then B1.out hb2)
  have A2 := (A1).keep hb2
  obtain ⟨a0, a1, a2, a3⟩ := A2.four
  have la := A2.lt
  have P2 := (P1).keep hb2
  obtain ⟨p0, p1, p2, p3⟩ := P2.four
  have lp := P2.lt
  have Q2 := (Q1).keep hb2
  obtain ⟨q0, q1, q2, q3⟩ := Q2.four
  have lq := Q2.lt
  clear hb2 A1 P1 Q1
  go_wp2_with fail
  go_at_call 52
  refine (H2.out.1 _).mono ?_
  rintro e w3 ⟨rfl, hb3⟩
  have B3 := Lib.hid (bl_then B2.out hb3)
  have A3 := (A2).keep hb3
  obtain ⟨a0, a1, a2, a3⟩ := A3.four
  have la := A3.lt
  have P3 := (P2).keep hb3
  obtain ⟨p0, p1, p2, p3⟩ := P3.four
  have lp := P3.lt
  have Q3 := (Q2).keep hb3
  obtain ⟨q0, q1, q2, q3⟩ := Q3.four
  have lq := Q3.lt
  clear hb3 A2 P2 Q2
  go_wp2_with fail
  go_at_call 52
  refine (H3.out.1 _).mono ?_
  rintro e w4 ⟨rfl, hb4⟩
  have B4 := Lib.hid (bl_then B3.out hb4)
  have A4 := (A3).keep hb4
  obtain ⟨a0, a1, a2, a3⟩ := A4.four
  have la := A4.lt
  have P4 := (P3).keep hb4
  obtain ⟨p0, p1, p2, p3⟩ := P4.four
  have lp := P4.lt
  have Q4 := (Q3).keep hb4
  obtain ⟨q0, q1, q2, q3⟩ := Q4.four
  have lq := Q4.lt
  clear hb4 A3 P3 Q3
  go_wp2_with fail
  go_at_call 52
  refine (H4.out.1 _).mono ?_
  rintro e w5 ⟨rfl, hb5⟩
  have B5 := Lib.hid (bl_then B4.out hb5)
  have A5 := (A4).keep hb5
  obtain ⟨a0, a1, a2, a3⟩ := A5.four
  have la := A5.lt
  have P5 := (P4).keep hb5
  obtain ⟨p0, p1, p2, p3⟩ := P5.four
  have lp := P5.lt
  have Q5 := (Q4).keep hb5
  obtain ⟨q0, q1, q2, q3⟩ := Q5.four
  have lq := Q5.lt
  clear hb5 A4 P4 Q4
  go_wp2_with fail
  go_at_call 9
  refine (awake_any _).mono ?_
  rintro e wz ⟨rfl, hbz⟩
  go_wp2
  go_ret
  exact ⟨ret_bool (by first | rfl | simp), bl_then B5.out hbz⟩

set_option maxRecDepth 100000 in
set_option maxHeartbeats 4000000 in
theorem orders_omo (a b c : Vl) (w : World) (hs : a.s.size ≤ maxLen) (hs' : b.s.size ≤ maxLen) (hs'' : c.s.size ≤ maxLen) (hl : ∀ v ∈ [a, b, c], v.light = true) (h1 : Cmps a b 0 0) (h2 : Cmps b a 0 0) (h3 : Cmps b c (-1) 0) (h4 : Cmps a c 0 0) :
    Calls Try.prog 7 #[a.v, b.v, c.v] w fun e w' => e = .returned (.bool true) ∧ Below w.heap.size w w' := by
  have HP : Hid (∀ v ∈ [a, b, c], v.s.size ≤ maxLen) := Lib.hid (vl3 hs hs' hs'')
  clear hs hs' hs''
  have H1 := Lib.hid h1; have H2 := Lib.hid h2; have H3 := Lib.hid h3; have H4 := Lib.hid h4
  have HL := Lib.hid hl
  clear hl h1 h2 h3 h4
  go_enter Try.func7, Try.ntmps7
  have B0 : Hid (Below w.heap.size w w) := Lib.hid (Below.refl _ w)
  have A0 := Row.new w (vlC a.k a.n a.q a.s) 23
  have P0 := Row.new2 w (.cells (vlC a.k a.n a.q a.s) 23) (vlC b.k b.n b.q b.s) 23
  have Q0 := Row.new3 w (.cells (vlC a.k a.n a.q a.s) 23) (.cells (vlC b.k b.n b.q b.s) 23) (vlC c.k c.n c.q c.s) 23
  go_wp2_with fail
  go_at_call 8
  refine (bLight_yes [a, b, c] (w.heap.size + 1 + 1 + 1) 0 3 _ (VlsAt.three (Row.new4 _ _ _ _ _ _)) (by simp) (by simp <;> omega) HP.out HL.out).mono ?_
  rintro e wl ⟨rfl, rfl⟩
  go_wp2_with fail
  go_at_call 52
  refine (H1.out.1 _).mono ?_
  rintro e w1 ⟨rfl, hb1⟩
  have B1 := Lib.hid (bl_box4 B0.out hb1)
  have A1 := (((A0.alloc _).alloc _).alloc _).keep hb1
  have P1 := ((P0.alloc _).alloc _).keep hb1
  have Q1 := (Q0.alloc _).keep hb1
  obtain ⟨a0, a1, a2, a3⟩ := A1.four
  have la := A1.lt
  obtain ⟨p0, p1, p2, p3⟩ := P1.four
  have lp := P1.lt
  obtain ⟨q0, q1, q2, q3⟩ := Q1.four
  have lq := Q1.lt
  clear hb1 A0 P0 Q0
  go_wp2_with fail
  go_at_call 53
  refine (H1.out.2 _).mono ?_
  rintro e w2 ⟨rfl, hb2⟩
  have B2 := Lib.hid (bl_then B1.out hb2)
  have A2 := (A1).keep hb2
  obtain ⟨a0, a1, a2, a3⟩ := A2.four
  have la := A2.lt
  have P2 := (P1).keep hb2
  obtain ⟨p0, p1, p2, p3⟩ := P2.four
  have lp := P2.lt
  have Q2 := (Q1).keep hb2
  obtain ⟨q0, q1, q2, q3⟩ := Q2.four
  have lq := Q2.lt
  clear hb2 A1 P1 Q1
  go_wp2_with fail
  go_at_call 52
  refine (H2.out.1 _).mono ?_
  rintro e w3 ⟨rfl, hb3⟩
  have B3 := Lib.hid (bl_then B2.out hb3)
  have A3 := (A2).keep hb3
  obtain ⟨a0, a1, a2, a3⟩ := A3.four
  have la := A3.lt
  have P3 := (P2).keep hb3
  obtain ⟨p0, p1, p2, p3⟩ := P3.four
  have lp := P3.lt
  have Q3 := (Q2).keep hb3
  obtain ⟨q0, q1, q2, q3⟩ := Q3.four
  have lq := Q3.lt
  clear hb3 A2 P2 Q2
  go_wp2_with fail
  go_at_call 52
  refine (H3.out.1 _).mono ?_
  rintro e w4 ⟨rfl, hb4⟩
  have B4 := Lib.hid (bl_then B3.out hb4)
  have A4 := (A3).keep hb4
  obtain ⟨a0, a1, a2, a3⟩ := A4.four
  have la := A4.lt
  have P4 := (P3).keep hb4
  obtain ⟨p0, p1, p2, p3⟩ := P4.four
  have lp := P4.lt
  have Q4 := (Q3).keep hb4
  obtain ⟨q0, q1, q2, q3⟩ := Q4.four
  have lq := Q4.lt
  clear hb4 A3 P3 Q3
  go_wp2_with fail
  go_at_call 52
  refine (H4.out.1 _).mono ?_
  rintro e w5 ⟨rfl, hb5⟩
  have B5 := Lib.hid (bl_then B4.out hb5)
  have A5 := (A4).keep hb5
  obtain ⟨a0, a1, a2, a3⟩ := A5.four
  have la := A5.lt
  have P5 := (P4).keep hb5
  obtain ⟨p0, p1, p2, p3⟩ := P5.four
  have lp := P5.lt
  have Q5 := (Q4).keep hb5
  obtain ⟨q0, q1, q2, q3⟩ := Q5.four
  have lq := Q5.lt
  clear hb5 A4 P4 Q4
  go_wp2_with fail
  go_at_call 9
  refine (awake_any _).mono ?_
  rintro e wz ⟨rfl, hbz⟩
  go_wp2
  go_ret
  exact ⟨ret_bool (by first | rfl | simp), bl_then B5.out hbz⟩

set_option maxRecDepth 100000 in
set_option maxHeartbeats 4000000 in
theorem orders_ooo (a b c : Vl) (w : World) (hs : a.s.size ≤ maxLen) (hs' : b.s.size ≤ maxLen) (hs'' : c.s.size ≤ maxLen) (hl : ∀ v ∈ [a, b, c], v.light = true) (h1 : Cmps a b 0 0) (h2 : Cmps b a 0 0) (h3 : Cmps b c 0 0) (h4 : Cmps a c 0 0) :
    Calls Try.prog 7 #[a.v, b.v, c.v] w fun e w' => e = .returned (.bool true) ∧ Below w.heap.size w w' := by
  have HP : Hid (∀ v ∈ [a, b, c], v.s.size ≤ maxLen) := Lib.hid (vl3 hs hs' hs'')
  clear hs hs' hs''
  have H1 := Lib.hid h1; have H2 := Lib.hid h2; have H3 := Lib.hid h3; have H4 := Lib.hid h4
  have HL := Lib.hid hl
  clear hl h1 h2 h3 h4
  go_enter Try.func7, Try.ntmps7
  have B0 : Hid (Below w.heap.size w w) := Lib.hid (Below.refl _ w)
  have A0 := Row.new w (vlC a.k a.n a.q a.s) 23
  have P0 := Row.new2 w (.cells (vlC a.k a.n a.q a.s) 23) (vlC b.k b.n b.q b.s) 23
  have Q0 := Row.new3 w (.cells (vlC a.k a.n a.q a.s) 23) (.cells (vlC b.k b.n b.q b.s) 23) (vlC c.k c.n c.q c.s) 23
  go_wp2_with fail
  go_at_call 8
  refine (bLight_yes [a, b, c] (w.heap.size + 1 + 1 + 1) 0 3 _ (VlsAt.three (Row.new4 _ _ _ _ _ _)) (by simp) (by simp <;> omega) HP.out HL.out).mono ?_
  rintro e wl ⟨rfl, rfl⟩
  go_wp2_with fail
  go_at_call 52
  refine (H1.out.1 _).mono ?_
  rintro e w1 ⟨rfl, hb1⟩
  have B1 := Lib.hid (bl_box4 B0.out hb1)
  have A1 := (((A0.alloc _).alloc _).alloc _).keep hb1
  have P1 := ((P0.alloc _).alloc _).keep hb1
  have Q1 := (Q0.alloc _).keep hb1
  obtain ⟨a0, a1, a2, a3⟩ := A1.four
  have la := A1.lt
  obtain ⟨p0, p1, p2, p3⟩ := P1.four
  have lp := P1.lt
  obtain ⟨q0, q1, q2, q3⟩ := Q1.four
  have lq := Q1.lt
  clear hb1 A0 P0 Q0
  go_wp2_with fail
  go_at_call 53
  refine (H1.out.2 _).mono ?_
  rintro e w2 ⟨rfl, hb2⟩
  have B2 := Lib.hid (bl_then B1.out hb2)
  have A2 := (A1).keep hb2
  obtain ⟨a0, a1, a2, a3⟩ := A2.four
  have la := A2.lt
  have P2 := (P1).keep hb2
  obtain ⟨p0, p1, p2, p3⟩ := P2.four
  have lp := P2.lt
  have Q2 := (Q1).keep hb2
  obtain ⟨q0, q1, q2, q3⟩ := Q2.four
  have lq := Q2.lt
  clear hb2 A1 P1 Q1
  go_wp2_with fail
  go_at_call 52
  refine (H2.out.1 _).mono ?_
  rintro e w3 ⟨rfl, hb3⟩
  have B3 := Lib.hid (bl_then B2.out hb3)
  have A3 := (A2).keep hb3
  obtain ⟨a0, a1, a2, a3⟩ := A3.four
  have la := A3.lt
  have P3 := (P2).keep hb3
  obtain ⟨p0, p1, p2, p3⟩ := P3.four
  have lp := P3.lt
  have Q3 := (Q2).keep hb3
  obtain ⟨q0, q1, q2, q3⟩ := Q3.four
  have lq := Q3.lt
  clear hb3 A2 P2 Q2
  go_wp2_with fail
  go_at_call 52
  refine (H3.out.1 _).mono ?_
  rintro e w4 ⟨rfl, hb4⟩
  have B4 := Lib.hid (bl_then B3.out hb4)
  have A4 := (A3).keep hb4
  obtain ⟨a0, a1, a2, a3⟩ := A4.four
  have la := A4.lt
  have P4 := (P3).keep hb4
  obtain ⟨p0, p1, p2, p3⟩ := P4.four
  have lp := P4.lt
  have Q4 := (Q3).keep hb4
  obtain ⟨q0, q1, q2, q3⟩ := Q4.four
  have lq := Q4.lt
  clear hb4 A3 P3 Q3
  go_wp2_with fail
  go_at_call 52
  refine (H4.out.1 _).mono ?_
  rintro e w5 ⟨rfl, hb5⟩
  have B5 := Lib.hid (bl_then B4.out hb5)
  have A5 := (A4).keep hb5
  obtain ⟨a0, a1, a2, a3⟩ := A5.four
  have la := A5.lt
  have P5 := (P4).keep hb5
  obtain ⟨p0, p1, p2, p3⟩ := P5.four
  have lp := P5.lt
  have Q5 := (Q4).keep hb5
  obtain ⟨q0, q1, q2, q3⟩ := Q5.four
  have lq := Q5.lt
  clear hb5 A4 P4 Q4
  go_wp2_with fail
  go_at_call 9
  refine (awake_any _).mono ?_
  rintro e wz ⟨rfl, hbz⟩
  go_wp2
  go_ret
  exact ⟨ret_bool (by first | rfl | simp), bl_then B5.out hbz⟩

set_option maxRecDepth 100000 in
set_option maxHeartbeats 4000000 in
theorem orders_opo (a b c : Vl) (w : World) (hs : a.s.size ≤ maxLen) (hs' : b.s.size ≤ maxLen) (hs'' : c.s.size ≤ maxLen) (hl : ∀ v ∈ [a, b, c], v.light = true) (h1 : Cmps a b 0 0) (h2 : Cmps b a 0 0) (h3 : Cmps b c 1 0) (h4 : Cmps a c 0 0) :
    Calls Try.prog 7 #[a.v, b.v, c.v] w fun e w' => e = .returned (.bool true) ∧ Below w.heap.size w w' := by
  have HP : Hid (∀ v ∈ [a, b, c], v.s.size ≤ maxLen) := Lib.hid (vl3 hs hs' hs'')
  clear hs hs' hs''
  have H1 := Lib.hid h1; have H2 := Lib.hid h2; have H3 := Lib.hid h3; have H4 := Lib.hid h4
  have HL := Lib.hid hl
  clear hl h1 h2 h3 h4
  go_enter Try.func7, Try.ntmps7
  have B0 : Hid (Below w.heap.size w w) := Lib.hid (Below.refl _ w)
  have A0 := Row.new w (vlC a.k a.n a.q a.s) 23
  have P0 := Row.new2 w (.cells (vlC a.k a.n a.q a.s) 23) (vlC b.k b.n b.q b.s) 23
  have Q0 := Row.new3 w (.cells (vlC a.k a.n a.q a.s) 23) (.cells (vlC b.k b.n b.q b.s) 23) (vlC c.k c.n c.q c.s) 23
  go_wp2_with fail
  go_at_call 8
  refine (bLight_yes [a, b, c] (w.heap.size + 1 + 1 + 1) 0 3 _ (VlsAt.three (Row.new4 _ _ _ _ _ _)) (by simp) (by simp <;> omega) HP.out HL.out).mono ?_
  rintro e wl ⟨rfl, rfl⟩
  go_wp2_with fail
  go_at_call 52
  refine (H1.out.1 _).mono ?_
  rintro e w1 ⟨rfl, hb1⟩
  have B1 := Lib.hid (bl_box4 B0.out hb1)
  have A1 := (((A0.alloc _).alloc _).alloc _).keep hb1
  have P1 := ((P0.alloc _).alloc _).keep hb1
  have Q1 := (Q0.alloc _).keep hb1
  obtain ⟨a0, a1, a2, a3⟩ := A1.four
  have la := A1.lt
  obtain ⟨p0, p1, p2, p3⟩ := P1.four
  have lp := P1.lt
  obtain ⟨q0, q1, q2, q3⟩ := Q1.four
  have lq := Q1.lt
  clear hb1 A0 P0 Q0
  go_wp2_with fail
  go_at_call 53
  refine (H1.out.2 _).mono ?_
  rintro e w2 ⟨rfl, hb2⟩
  have B2 := Lib.hid (bl_then B1.out hb2)
  have A2 := (A1).keep hb2
  obtain ⟨a0, a1, a2, a3⟩ := A2.four
  have la := A2.lt
  have P2 := (P1).keep hb2
  obtain ⟨p0, p1, p2, p3⟩ := P2.four
  have lp := P2.lt
  have Q2 := (Q1).keep hb2
  obtain ⟨q0, q1, q2, q3⟩ := Q2.four
  have lq := Q2.lt
  clear hb2 A1 P1 Q1
  go_wp2_with fail
  go_at_call 52
  refine (H2.out.1 _).mono ?_
  rintro e w3 ⟨rfl, hb3⟩
  have B3 := Lib.hid (bl_then B2.out hb3)
  have A3 := (A2).keep hb3
  obtain ⟨a0, a1, a2, a3⟩ := A3.four
  have la := A3.lt
  have P3 := (P2).keep hb3
  obtain ⟨p0, p1, p2, p3⟩ := P3.four
  have lp := P3.lt
  have Q3 := (Q2).keep hb3
  obtain ⟨q0, q1, q2, q3⟩ := Q3.four
  have lq := Q3.lt
  clear hb3 A2 P2 Q2
  go_wp2_with fail
  go_at_call 52
  refine (H3.out.1 _).mono ?_
  rintro e w4 ⟨rfl, hb4⟩
  have B4 := Lib.hid (bl_then B3.out hb4)
  have A4 := (A3).keep hb4
  obtain ⟨a0, a1, a2, a3⟩ := A4.four
  have la := A4.lt
  have P4 := (P3).keep hb4
  obtain ⟨p0, p1, p2, p3⟩ := P4.four
  have lp := P4.lt
  have Q4 := (Q3).keep hb4
  obtain ⟨q0, q1, q2, q3⟩ := Q4.four
  have lq := Q4.lt
  clear hb4 A3 P3 Q3
  go_wp2_with fail
  go_at_call 52
  refine (H4.out.1 _).mono ?_
  rintro e w5 ⟨rfl, hb5⟩
  have B5 := Lib.hid (bl_then B4.out hb5)
  have A5 := (A4).keep hb5
  obtain ⟨a0, a1, a2, a3⟩ := A5.four
  have la := A5.lt
  have P5 := (P4).keep hb5
  obtain ⟨p0, p1, p2, p3⟩ := P5.four
  have lp := P5.lt
  have Q5 := (Q4).keep hb5
  obtain ⟨q0, q1, q2, q3⟩ := Q5.four
  have lq := Q5.lt
  clear hb5 A4 P4 Q4
  go_wp2_with fail
  go_at_call 9
  refine (awake_any _).mono ?_
  rintro e wz ⟨rfl, hbz⟩
  go_wp2
  go_ret
  exact ⟨ret_bool (by first | rfl | simp), bl_then B5.out hbz⟩

set_option maxRecDepth 100000 in
set_option maxHeartbeats 4000000 in
theorem orders_opp (a b c : Vl) (w : World) (hs : a.s.size ≤ maxLen) (hs' : b.s.size ≤ maxLen) (hs'' : c.s.size ≤ maxLen) (hl : ∀ v ∈ [a, b, c], v.light = true) (h1 : Cmps a b 0 0) (h2 : Cmps b a 0 0) (h3 : Cmps b c 1 0) (h4 : Cmps a c 1 0) :
    Calls Try.prog 7 #[a.v, b.v, c.v] w fun e w' => e = .returned (.bool true) ∧ Below w.heap.size w w' := by
  have HP : Hid (∀ v ∈ [a, b, c], v.s.size ≤ maxLen) := Lib.hid (vl3 hs hs' hs'')
  clear hs hs' hs''
  have H1 := Lib.hid h1; have H2 := Lib.hid h2; have H3 := Lib.hid h3; have H4 := Lib.hid h4
  have HL := Lib.hid hl
  clear hl h1 h2 h3 h4
  go_enter Try.func7, Try.ntmps7
  have B0 : Hid (Below w.heap.size w w) := Lib.hid (Below.refl _ w)
  have A0 := Row.new w (vlC a.k a.n a.q a.s) 23
  have P0 := Row.new2 w (.cells (vlC a.k a.n a.q a.s) 23) (vlC b.k b.n b.q b.s) 23
  have Q0 := Row.new3 w (.cells (vlC a.k a.n a.q a.s) 23) (.cells (vlC b.k b.n b.q b.s) 23) (vlC c.k c.n c.q c.s) 23
  go_wp2_with fail
  go_at_call 8
  refine (bLight_yes [a, b, c] (w.heap.size + 1 + 1 + 1) 0 3 _ (VlsAt.three (Row.new4 _ _ _ _ _ _)) (by simp) (by simp <;> omega) HP.out HL.out).mono ?_
  rintro e wl ⟨rfl, rfl⟩
  go_wp2_with fail
  go_at_call 52
  refine (H1.out.1 _).mono ?_
  rintro e w1 ⟨rfl, hb1⟩
  have B1 := Lib.hid (bl_box4 B0.out hb1)
  have A1 := (((A0.alloc _).alloc _).alloc _).keep hb1
  have P1 := ((P0.alloc _).alloc _).keep hb1
  have Q1 := (Q0.alloc _).keep hb1
  obtain ⟨a0, a1, a2, a3⟩ := A1.four
  have la := A1.lt
  obtain ⟨p0, p1, p2, p3⟩ := P1.four
  have lp := P1.lt
  obtain ⟨q0, q1, q2, q3⟩ := Q1.four
  have lq := Q1.lt
  clear hb1 A0 P0 Q0
  go_wp2_with fail
  go_at_call 53
  refine (H1.out.2 _).mono ?_
  rintro e w2 ⟨rfl, hb2⟩
  have B2 := Lib.hid (bl_then B1.out hb2)
  have A2 := (A1).keep hb2
  obtain ⟨a0, a1, a2, a3⟩ := A2.four
  have la := A2.lt
  have P2 := (P1).keep hb2
  obtain ⟨p0, p1, p2, p3⟩ := P2.four
  have lp := P2.lt
  have Q2 := (Q1).keep hb2
  obtain ⟨q0, q1, q2, q3⟩ := Q2.four
  have lq := Q2.lt
  clear hb2 A1 P1 Q1
  go_wp2_with fail
  go_at_call 52
  refine (H2.out.1 _).mono ?_
  rintro e w3 ⟨rfl, hb3⟩
  have B3 := Lib.hid (bl_then B2.out hb3)
  have A3 := (A2).keep hb3
  obtain ⟨a0, a1, a2, a3⟩ := A3.four
  have la := A3.lt
  have P3 := (P2).keep hb3
  obtain ⟨p0, p1, p2, p3⟩ := P3.four
  have lp := P3.lt
  have Q3 := (Q2).keep hb3
  obtain ⟨q0, q1, q2, q3⟩ := Q3.four
  have lq := Q3.lt
  clear hb3 A2 P2 Q2
  go_wp2_with fail
  go_at_call 52
  refine (H3.out.1 _).mono ?_
  rintro e w4 ⟨rfl, hb4⟩
  have B4 := Lib.hid (bl_then B3.out hb4)
  have A4 := (A3).keep hb4
  obtain ⟨a0, a1, a2, a3⟩ := A4.four
  have la := A4.lt
  have P4 := (P3).keep hb4
  obtain ⟨p0, p1, p2, p3⟩ := P4.four
  have lp := P4.lt
  have Q4 := (Q3).keep hb4
  obtain ⟨q0, q1, q2, q3⟩ := Q4.four
  have lq := Q4.lt
  clear hb4 A3 P3 Q3
  go_wp2_with fail
  go_at_call 52
  refine (H4.out.1 _).mono ?_
  rintro e w5 ⟨rfl, hb5⟩
  have B5 := Lib.hid (bl_then B4.out hb5)
  have A5 := (A4).keep hb5
  obtain ⟨a0, a1, a2, a3⟩ := A5.four
  have la := A5.lt
  have P5 := (P4).keep hb5
  obtain ⟨p0, p1, p2, p3⟩ := P5.four
  have lp := P5.lt
  have Q5 := (Q4).keep hb5
  obtain ⟨q0, q1, q2, q3⟩ := Q5.four
  have lq := Q5.lt
  clear hb5 A4 P4 Q4
  go_wp2_with fail
  go_at_call 9
  refine (awake_any _).mono ?_
  rintro e wz ⟨rfl, hbz⟩
  go_wp2
  go_ret
  exact ⟨ret_bool (by first | rfl | simp), bl_then B5.out hbz⟩

set_option maxRecDepth 100000 in
set_option maxHeartbeats 4000000 in
theorem orders_pmm (a b c : Vl) (w : World) (hs : a.s.size ≤ maxLen) (hs' : b.s.size ≤ maxLen) (hs'' : c.s.size ≤ maxLen) (hl : ∀ v ∈ [a, b, c], v.light = true) (h1 : Cmps a b 1 0) (h2 : Cmps b a (-1) 0) (h3 : Cmps b c (-1) 0) (h4 : Cmps a c (-1) 0) :
    Calls Try.prog 7 #[a.v, b.v, c.v] w fun e w' => e = .returned (.bool true) ∧ Below w.heap.size w w' := by
  have HP : Hid (∀ v ∈ [a, b, c], v.s.size ≤ maxLen) := Lib.hid (vl3 hs hs' hs'')
  clear hs hs' hs''
  have H1 := Lib.hid h1; have H2 := Lib.hid h2; have H3 := Lib.hid h3; have H4 := Lib.hid h4
  have HL := Lib.hid hl
  clear hl h1 h2 h3 h4
  go_enter Try.func7, Try.ntmps7
  have B0 : Hid (Below w.heap.size w w) := Lib.hid (Below.refl _ w)
  have A0 := Row.new w (vlC a.k a.n a.q a.s) 23
  have P0 := Row.new2 w (.cells (vlC a.k a.n a.q a.s) 23) (vlC b.k b.n b.q b.s) 23
  have Q0 := Row.new3 w (.cells (vlC a.k a.n a.q a.s) 23) (.cells (vlC b.k b.n b.q b.s) 23) (vlC c.k c.n c.q c.s) 23
  go_wp2_with fail
  go_at_call 8
  refine (bLight_yes [a, b, c] (w.heap.size + 1 + 1 + 1) 0 3 _ (VlsAt.three (Row.new4 _ _ _ _ _ _)) (by simp) (by simp <;> omega) HP.out HL.out).mono ?_
  rintro e wl ⟨rfl, rfl⟩
  go_wp2_with fail
  go_at_call 52
  refine (H1.out.1 _).mono ?_
  rintro e w1 ⟨rfl, hb1⟩
  have B1 := Lib.hid (bl_box4 B0.out hb1)
  have A1 := (((A0.alloc _).alloc _).alloc _).keep hb1
  have P1 := ((P0.alloc _).alloc _).keep hb1
  have Q1 := (Q0.alloc _).keep hb1
  obtain ⟨a0, a1, a2, a3⟩ := A1.four
  have la := A1.lt
  obtain ⟨p0, p1, p2, p3⟩ := P1.four
  have lp := P1.lt
  obtain ⟨q0, q1, q2, q3⟩ := Q1.four
  have lq := Q1.lt
  clear hb1 A0 P0 Q0
  go_wp2_with fail
  go_at_call 53
  refine (H1.out.2 _).mono ?_
  rintro e w2 ⟨rfl, hb2⟩
  have B2 := Lib.hid (bl_then B1.out hb2)
  have A2 := (A1).keep hb2
  obtain ⟨a0, a1, a2, a3⟩ := A2.four
  have la := A2.lt
  have P2 := (P1).keep hb2
  obtain ⟨p0, p1, p2, p3⟩ := P2.four
  have lp := P2.lt
  have Q2 := (Q1).keep hb2
  obtain ⟨q0, q1, q2, q3⟩ := Q2.four
  have lq := Q2.lt
  clear hb2 A1 P1 Q1
  go_wp2_with fail
  go_at_call 52
  refine (H2.out.1 _).mono ?_
  rintro e w3 ⟨rfl, hb3⟩
  have B3 := Lib.hid (bl_then B2.out hb3)
  have A3 := (A2).keep hb3
  obtain ⟨a0, a1, a2, a3⟩ := A3.four
  have la := A3.lt
  have P3 := (P2).keep hb3
  obtain ⟨p0, p1, p2, p3⟩ := P3.four
  have lp := P3.lt
  have Q3 := (Q2).keep hb3
  obtain ⟨q0, q1, q2, q3⟩ := Q3.four
  have lq := Q3.lt
  clear hb3 A2 P2 Q2
  go_wp2_with fail
  go_at_call 52
  refine (H3.out.1 _).mono ?_
  rintro e w4 ⟨rfl, hb4⟩
  have B4 := Lib.hid (bl_then B3.out hb4)
  have A4 := (A3).keep hb4
  obtain ⟨a0, a1, a2, a3⟩ := A4.four
  have la := A4.lt
  have P4 := (P3).keep hb4
  obtain ⟨p0, p1, p2, p3⟩ := P4.four
  have lp := P4.lt
  have Q4 := (Q3).keep hb4
  obtain ⟨q0, q1, q2, q3⟩ := Q4.four
  have lq := Q4.lt
  clear hb4 A3 P3 Q3
  go_wp2_with fail
  go_at_call 52
  refine (H4.out.1 _).mono ?_
  rintro e w5 ⟨rfl, hb5⟩
  have B5 := Lib.hid (bl_then B4.out hb5)
  have A5 := (A4).keep hb5
  obtain ⟨a0, a1, a2, a3⟩ := A5.four
  have la := A5.lt
  have P5 := (P4).keep hb5
  obtain ⟨p0, p1, p2, p3⟩ := P5.four
  have lp := P5.lt
  have Q5 := (Q4).keep hb5
  obtain ⟨q0, q1, q2, q3⟩ := Q5.four
  have lq := Q5.lt
  clear hb5 A4 P4 Q4
  go_wp2_with fail
  go_at_call 9
  refine (awake_any _).mono ?_
  rintro e wz ⟨rfl, hbz⟩
  go_wp2
  go_ret
  exact ⟨ret_bool (by first | rfl | simp), bl_then B5.out hbz⟩

set_option maxRecDepth 100000 in
set_option maxHeartbeats 4000000 in
theorem orders_pmo (a b c : Vl) (w : World) (hs : a.s.size ≤ maxLen) (hs' : b.s.size ≤ maxLen) (hs'' : c.s.size ≤ maxLen) (hl : ∀ v ∈ [a, b, c], v.light = true) (h1 : Cmps a b 1 0) (h2 : Cmps b a (-1) 0) (h3 : Cmps b c (-1) 0) (h4 : Cmps a c 0 0) :
    Calls Try.prog 7 #[a.v, b.v, c.v] w fun e w' => e = .returned (.bool true) ∧ Below w.heap.size w w' := by
  have HP : Hid (∀ v ∈ [a, b, c], v.s.size ≤ maxLen) := Lib.hid (vl3 hs hs' hs'')
  clear hs hs' hs''
  have H1 := Lib.hid h1; have H2 := Lib.hid h2; have H3 := Lib.hid h3; have H4 := Lib.hid h4
  have HL := Lib.hid hl
  clear hl h1 h2 h3 h4
  go_enter Try.func7, Try.ntmps7
  have B0 : Hid (Below w.heap.size w w) := Lib.hid (Below.refl _ w)
  have A0 := Row.new w (vlC a.k a.n a.q a.s) 23
  have P0 := Row.new2 w (.cells (vlC a.k a.n a.q a.s) 23) (vlC b.k b.n b.q b.s) 23
  have Q0 := Row.new3 w (.cells (vlC a.k a.n a.q a.s) 23) (.cells (vlC b.k b.n b.q b.s) 23) (vlC c.k c.n c.q c.s) 23
  go_wp2_with fail
  go_at_call 8
  refine (bLight_yes [a, b, c] (w.heap.size + 1 + 1 + 1) 0 3 _ (VlsAt.three (Row.new4 _ _ _ _ _ _)) (by simp) (by simp <;> omega) HP.out HL.out).mono ?_
  rintro e wl ⟨rfl, rfl⟩
  go_wp2_with fail
  go_at_call 52
  refine (H1.out.1 _).mono ?_
  rintro e w1 ⟨rfl, hb1⟩
  have B1 := Lib.hid (bl_box4 B0.out hb1)
  have A1 := (((A0.alloc _).alloc _).alloc _).keep hb1
  have P1 := ((P0.alloc _).alloc _).keep hb1
  have Q1 := (Q0.alloc _).keep hb1
  obtain ⟨a0, a1, a2, a3⟩ := A1.four
  have la := A1.lt
  obtain ⟨p0, p1, p2, p3⟩ := P1.four
  have lp := P1.lt
  obtain ⟨q0, q1, q2, q3⟩ := Q1.four
  have lq := Q1.lt
  clear hb1 A0 P0 Q0
  go_wp2_with fail
  go_at_call 53
  refine (H1.out.2 _).mono ?_
  rintro e w2 ⟨rfl, hb2⟩
  have B2 := Lib.hid (bl_then B1.out hb2)
  have A2 := (A1).keep hb2
  obtain ⟨a0, a1, a2, a3⟩ := A2.four
  have la := A2.lt
  have P2 := (P1).keep hb2
  obtain ⟨p0, p1, p2, p3⟩ := P2.four
  have lp := P2.lt
  have Q2 := (Q1).keep hb2
  obtain ⟨q0, q1, q2, q3⟩ := Q2.four
  have lq := Q2.lt
  clear hb2 A1 P1 Q1
  go_wp2_with fail
  go_at_call 52
  refine (H2.out.1 _).mono ?_
  rintro e w3 ⟨rfl, hb3⟩
  have B3 := Lib.hid (bl_then B2.out hb3)
  have A3 := (A2).keep hb3
  obtain ⟨a0, a1, a2, a3⟩ := A3.four
  have la := A3.lt
  have P3 := (P2).keep hb3
  obtain ⟨p0, p1, p2, p3⟩ := P3.four
  have lp := P3.lt
  have Q3 := (Q2).keep hb3
  obtain ⟨q0, q1, q2, q3⟩ := Q3.four
  have lq := Q3.lt
  clear hb3 A2 P2 Q2
  go_wp2_with fail
  go_at_call 52
  refine (H3.out.1 _).mono ?_
  rintro e w4 ⟨rfl, hb4⟩
  have B4 := Lib.hid (bl_then B3.out hb4)
  have A4 := (A3).keep hb4
  obtain ⟨a0, a1, a2, a3⟩ := A4.four
  have la := A4.lt
  have P4 := (P3).keep hb4
  obtain ⟨p0, p1, p2, p3⟩ := P4.four
  have lp := P4.lt
  have Q4 := (Q3).keep hb4
  obtain ⟨q0, q1, q2, q3⟩ := Q4.four
  have lq := Q4.lt
  clear hb4 A3 P3 Q3
  go_wp2_with fail
  go_at_call 52
  refine (H4.out.1 _).mono ?_
  rintro e w5 ⟨rfl, hb5⟩
  have B5 := Lib.hid (bl_then B4.out hb5)
  have A5 := (A4).keep hb5
  obtain ⟨a0, a1, a2, a3⟩ := A5.four
  have la := A5.lt
  have P5 := (P4).keep hb5
  obtain ⟨p0, p1, p2, p3⟩ := P5.four
  have lp := P5.lt
  have Q5 := (Q4).keep hb5
  obtain ⟨q0, q1, q2, q3⟩ := Q5.four
  have lq := Q5.lt
  clear hb5 A4 P4 Q4
  go_wp2_with fail
  go_at_call 9
  refine (awake_any _).mono ?_
  rintro e wz ⟨rfl, hbz⟩
  go_wp2
  go_ret
  exact ⟨ret_bool (by first | rfl | simp), bl_then B5.out hbz⟩

set_option maxRecDepth 100000 in
set_option maxHeartbeats 4000000 in
theorem orders_pmp (a b c : Vl) (w : World) (hs : a.s.size ≤ maxLen) (hs' : b.s.size ≤ maxLen) (hs'' : c.s.size ≤ maxLen) (hl : ∀ v ∈ [a, b, c], v.light = true) (h1 : Cmps a b 1 0) (h2 : Cmps b a (-1) 0) (h3 : Cmps b c (-1) 0) (h4 : Cmps a c 1 0) :
    Calls Try.prog 7 #[a.v, b.v, c.v] w fun e w' => e = .returned (.bool true) ∧ Below w.heap.size w w' := by
  have HP : Hid (∀ v ∈ [a, b, c], v.s.size ≤ maxLen) := Lib.hid (vl3 hs hs' hs'')
  clear hs hs' hs''
  have H1 := Lib.hid h1; have H2 := Lib.hid h2; have H3 := Lib.hid h3; have H4 := Lib.hid h4
  have HL := Lib.hid hl
  clear hl h1 h2 h3 h4
  go_enter Try.func7, Try.ntmps7
  have B0 : Hid (Below w.heap.size w w) := Lib.hid (Below.refl _ w)
  have A0 := Row.new w (vlC a.k a.n a.q a.s) 23
  have P0 := Row.new2 w (.cells (vlC a.k a.n a.q a.s) 23) (vlC b.k b.n b.q b.s) 23
  have Q0 := Row.new3 w (.cells (vlC a.k a.n a.q a.s) 23) (.cells (vlC b.k b.n b.q b.s) 23) (vlC c.k c.n c.q c.s) 23
  go_wp2_with fail
  go_at_call 8
  refine (bLight_yes [a, b, c] (w.heap.size + 1 + 1 + 1) 0 3 _ (VlsAt.three (Row.new4 _ _ _ _ _ _)) (by simp) (by simp <;> omega) HP.out HL.out).mono ?_
  rintro e wl ⟨rfl, rfl⟩
  go_wp2_with fail
  go_at_call 52
  refine (H1.out.1 _).mono ?_
  rintro e w1 ⟨rfl, hb1⟩
  have B1 := Lib.hid (bl_box4 B0.out hb1)
  have A1 := (((A0.alloc _).alloc _).alloc _).keep hb1
  have P1 := ((P0.alloc _).alloc _).keep hb1
  have Q1 := (Q0.alloc _).keep hb1
  obtain ⟨a0, a1, a2, a3⟩ := A1.four
  have la := A1.lt
  obtain ⟨p0, p1, p2, p3⟩ := P1.four
  have lp := P1.lt
  obtain ⟨q0, q1, q2, q3⟩ := Q1.four
  have lq := Q1.lt
  clear hb1 A0 P0 Q0
  go_wp2_with fail
  go_at_call 53
  refine (H1.out.2 _).mono ?_
  rintro e w2 ⟨rfl, hb2⟩
  have B2 := Lib.hid (bl_then B1.out hb2)
  have A2 := (A1).keep hb2
  obtain ⟨a0, a1, a2, a3⟩ := A2.four
  have la := A2.lt
  have P2 := (P1).keep hb2
  obtain ⟨p0, p1, p2, p3⟩ := P2.four
  have lp := P2.lt
  have Q2 := (Q1).keep hb2
  obtain ⟨q0, q1, q2, q3⟩ := Q2.four
  have lq := Q2.lt
  clear hb2 A1 P1 Q1
  go_wp2_with fail
  go_at_call 52
  refine (H2.out.1 _).mono ?_
  rintro e w3 ⟨rfl, hb3⟩
  have B3 := Lib.hid (bl_then B2.out hb3)
  have A3 := (A2).keep hb3
  obtain ⟨a0, a1, a2, a3⟩ := A3.four
  have la := A3.lt
  have P3 := (P2).keep hb3
  obtain ⟨p0, p1, p2, p3⟩ := P3.four
  have lp := P3.lt
  have Q3 := (Q2).keep hb3
  obtain ⟨q0, q1, q2, q3⟩ := Q3.four
  have lq := Q3.lt
  clear hb3 A2 P2 Q2
  go_wp2_with fail
  go_at_call 52
  refine (H3.out.1 _).mono ?_
  rintro e w4 ⟨rfl, hb4⟩
  have B4 := Lib.hid (bl_then B3.out hb4)
  have A4 := (A3).keep hb4
  obtain ⟨a0, a1, a2, a3⟩ := A4.four
  have la := A4.lt
  have P4 := (P3).keep hb4
  obtain ⟨p0, p1, p2, p3⟩ := P4.four
  have lp := P4.lt
  have Q4 := (Q3).keep hb4
  obtain ⟨q0, q1, q2, q3⟩ := Q4.four
  have lq := Q4.lt
  clear hb4 A3 P3 Q3
  go_wp2_with fail
  go_at_call 52
  refine (H4.out.1 _).mono ?_
  rintro e w5 ⟨rfl, hb5⟩
  have B5 := Lib.hid (bl_then B4.out hb5)
  have A5 := (A4).keep hb5
  obtain ⟨a0, a1, a2, a3⟩ := A5.four
  have la := A5.lt
  have P5 := (P4).keep hb5
  obtain ⟨p0, p1, p2, p3⟩ := P5.four
  have lp := P5.lt
  have Q5 := (Q4).keep hb5
  obtain ⟨q0, q1, q2, q3⟩ := Q5.four
  have lq := Q5.lt
  clear hb5 A4 P4 Q4
  go_wp2_with fail
  go_at_call 9
  refine (awake_any _).mono ?_
  rintro e wz ⟨rfl, hbz⟩
  go_wp2
  go_ret
  exact ⟨ret_bool (by first | rfl | simp), bl_then B5.out hbz⟩

set_option maxRecDepth 100000 in
set_option maxHeartbeats 4000000 in
theorem orders_poo (a b c : Vl) (w : World) (hs : a.s.size ≤ maxLen) (hs' : b.s.size ≤ maxLen) (hs'' : c.s.size ≤ maxLen) (hl : ∀ v ∈ [a, b, c], v.light = true) (h1 : Cmps a b 1 0) (h2 : Cmps b a (-1) 0) (h3 : Cmps b c 0 0) (h4 : Cmps a c 0 0) :
    Calls Try.prog 7 #[a.v, b.v, c.v] w fun e w' => e = .returned (.bool true) ∧ Below w.heap.size w w' := by
  have HP : Hid (∀ v ∈ [a, b, c], v.s.size ≤ maxLen) := Lib.hid (vl3 hs hs' hs'')
  clear hs hs' hs''
  have H1 := Lib.hid h1; have H2 := Lib.hid h2; have H3 := Lib.hid h3; have H4 := Lib.hid h4
  have HL := Lib.hid hl
  clear hl h1 h2 h3 h4
  go_enter Try.func7, Try.ntmps7
  have B0 : Hid (Below w.heap.size w w) := Lib.hid (Below.refl _ w)
  have A0 := Row.new w (vlC a.k a.n a.q a.s) 23
  have P0 := Row.new2 w (.cells (vlC a.k a.n a.q a.s) 23) (vlC b.k b.n b.q b.s) 23
  have Q0 := Row.new3 w (.cells (vlC a.k a.n a.q a.s) 23) (.cells (vlC b.k b.n b.q b.s) 23) (vlC c.k c.n c.q c.s) 23
  go_wp2_with fail
  go_at_call 8
  refine (bLight_yes [a, b, c] (w.heap.size + 1 + 1 + 1) 0 3 _ (VlsAt.three (Row.new4 _ _ _ _ _ _)) (by simp) (by simp <;> omega) HP.out HL.out).mono ?_
  rintro e wl ⟨rfl, rfl⟩
  go_wp2_with fail
  go_at_call 52
  refine (H1.out.1 _).mono ?_
  rintro e w1 ⟨rfl, hb1⟩
  have B1 := Lib.hid (bl_box4 B0.out hb1)
  have A1 := (((A0.alloc _).alloc _).alloc _).keep hb1
  have P1 := ((P0.alloc _).alloc _).keep hb1
  have Q1 := (Q0.alloc _).keep hb1
  obtain ⟨a0, a1, a2, a3⟩ := A1.four
  have la := A1.lt
  obtain ⟨p0, p1, p2, p3⟩ := P1.four
  have lp := P1.lt
  obtain ⟨q0, q1, q2, q3⟩ := Q1.four
  have lq := Q1.lt
  clear hb1 A0 P0 Q0
  go_wp2_with fail
  go_at_call 53
  refine (H1.out.2 _).mono ?_
  rintro e w2 ⟨rfl, hb2⟩
  have B2 := Lib.hid (bl_then B1.out hb2)
  have A2 := (A1).keep hb2
  obtain ⟨a0, a1, a2, a3⟩ := A2.four
  have la := A2.lt
  have P2 := (P1).keep hb2
  obtain ⟨p0, p1, p2, p3⟩ := P2.four
  have lp := P2.lt
  have Q2 := (Q1).keep hb2
  obtain ⟨q0, q1, q2, q3⟩ := Q2.four
  have lq := Q2.lt
  clear hb2 A1 P1 Q1
  go_wp2_with fail
  go_at_call 52
  refine (H2.out.1 _).mono ?_
  rintro e w3 ⟨rfl, hb3⟩
  have B3 := Lib.hid (bl_then B2.out hb3)
  have A3 := (A2).keep hb3
  obtain ⟨a0, a1, a2, a3⟩ := A3.four
  have la := A3.lt
  have P3 := (P2).keep hb3
  obtain ⟨p0, p1, p2, p3⟩ := P3.four
  have lp := P3.lt
  have Q3 := (Q2).keep hb3
  obtain ⟨q0, q1, q2, q3⟩ := Q3.four
  have lq := Q3.lt
  clear hb3 A2 P2 Q2
  go_wp2_with fail
  go_at_call 52
  refine (H3.out.1 _).mono ?_
  rintro e w4 ⟨rfl, hb4⟩
  have B4 := Lib.hid (bl_then B3.out hb4)
  have A4 := (A3).keep hb4
  obtain ⟨a0, a1, a2, a3⟩ := A4.four
  have la := A4.lt
  have P4 := (P3).keep hb4
  obtain ⟨p0, p1, p2, p3⟩ := P4.four
  have lp := P4.lt
  have Q4 := (Q3).keep hb4
  obtain ⟨q0, q1, q2, q3⟩ := Q4.four
  have lq := Q4.lt
  clear hb4 A3 P3 Q3
  go_wp2_with fail
  go_at_call 52
  refine (H4.out.1 _).mono ?_
  rintro e w5 ⟨rfl, hb5⟩
  have B5 := Lib.hid (bl_then B4.out hb5)
  have A5 := (A4).keep hb5
  obtain ⟨a0, a1, a2, a3⟩ := A5.four
  have la := A5.lt
  have P5 := (P4).keep hb5
  obtain ⟨p0, p1, p2, p3⟩ := P5.four
  have lp := P5.lt
  have Q5 := (Q4).keep hb5
  obtain ⟨q0, q1, q2, q3⟩ := Q5.four
  have lq := Q5.lt
  clear hb5 A4 P4 Q4
  go_wp2_with fail
  go_at_call 9
  refine (awake_any _).mono ?_
  rintro e wz ⟨rfl, hbz⟩
  go_wp2
  go_ret
  exact ⟨ret_bool (by first | rfl | simp), bl_then B5.out hbz⟩

set_option maxRecDepth 100000 in
set_option maxHeartbeats 4000000 in
theorem orders_pop (a b c : Vl) (w : World) (hs : a.s.size ≤ maxLen) (hs' : b.s.size ≤ maxLen) (hs'' : c.s.size ≤ maxLen) (hl : ∀ v ∈ [a, b, c], v.light = true) (h1 : Cmps a b 1 0) (h2 : Cmps b a (-1) 0) (h3 : Cmps b c 0 0) (h4 : Cmps a c 1 0) :
    Calls Try.prog 7 #[a.v, b.v, c.v] w fun e w' => e = .returned (.bool true) ∧ Below w.heap.size w w' := by
  have HP : Hid (∀ v ∈ [a, b, c], v.s.size ≤ maxLen) := Lib.hid (vl3 hs hs' hs'')
  clear hs hs' hs''
  have H1 := Lib.hid h1; have H2 := Lib.hid h2; have H3 := Lib.hid h3; have H4 := Lib.hid h4
  have HL := Lib.hid hl
  clear hl h1 h2 h3 h4
  go_enter Try.func7, Try.ntmps7
  have B0 : Hid (Below w.heap.size w w) := Lib.hid (Below.refl _ w)
  have A0 := Row.new w (vlC a.k a.n a.q a.s) 23
  have P0 := Row.new2 w (.cells (vlC a.k a.n a.q a.s) 23) (vlC b.k b.n b.q b.s) 23
  have Q0 := Row.new3 w (.cells (vlC a.k a.n a.q a.s) 23) (.cells (vlC b.k b.n b.q b.s) 23) (vlC c.k c.n c.q c.s) 23
  go_wp2_with fail
  go_at_call 8
  refine (bLight_yes [a, b, c] (w.heap.size + 1 + 1 + 1) 0 3 _ (VlsAt.three (Row.new4 _ _ _ _ _ _)) (by simp) (by simp <;> omega) HP.out HL.out).mono ?_
  rintro e wl ⟨rfl, rfl⟩
  go_wp2_with fail
  go_at_call 52
  refine (H1.out.1 _).mono ?_
  rintro e w1 ⟨rfl, hb1⟩
  have B1 := Lib.hid (bl_box4 B0.out hb1)
  have A1 := (((A0.alloc _).alloc _).alloc _).keep hb1
  have P1 := ((P0.alloc _).alloc _).keep hb1
  have Q1 := (Q0.alloc _).keep hb1
  obtain ⟨a0, a1, a2, a3⟩ := A1.four
  have la := A1.lt
  obtain ⟨p0, p1, p2, p3⟩ := P1.four
  have lp := P1.lt
  obtain ⟨q0, q1, q2, q3⟩ := Q1.four
  have lq := Q1.lt
  clear hb1 A0 P0 Q0
  go_wp2_with fail
  go_at_call 53
  refine (H1.out.2 _).mono ?_
  rintro e w2 ⟨rfl, hb2⟩
  have B2 := Lib.hid (bl_then B1.out hb2)
  have A2 := (A1).keep hb2
  obtain ⟨a0, a1, a2, a3⟩ := A2.four
  have la := A2.lt
  have P2 := (P1).keep hb2
  obtain ⟨p0, p1, p2, p3⟩ := P2.four
  have lp := P2.lt
  have Q2 := (Q1).keep hb2
  obtain ⟨q0, q1, q2, q3⟩ := Q2.four
  have lq := Q2.lt
  clear hb2 A1 P1 Q1
  go_wp2_with fail
  go_at_call 52
  refine (H2.out.1 _).mono ?_
  rintro e w3 ⟨rfl, hb3⟩
  have B3 := Lib.hid (bl_then B2.out hb3)
  have A3 := (A2).keep hb3
  obtain ⟨a0, a1, a2, a3⟩ := A3.four
  have la := A3.lt
  have P3 := (P2).keep hb3
  obtain ⟨p0, p1, p2, p3⟩ := P3.four
  have lp := P3.lt
  have Q3 := (Q2).keep hb3
  obtain ⟨q0, q1, q2, q3⟩ := Q3.four
  have lq := Q3.lt
  clear hb3 A2 P2 Q2
  go_wp2_with fail
  go_at_call 52
  refine (H3.out.1 _).mono ?_
  rintro e w4 ⟨rfl, hb4⟩
  have B4 := Lib.hid (bl_then B3.out hb4)
  have A4 := (A3).keep hb4
  obtain ⟨a0, a1, a2, a3⟩ := A4.four
  have la := A4.lt
  have P4 := (P3).keep hb4
  obtain ⟨p0, p1, p2, p3⟩ := P4.four
  have lp := P4.lt
  have Q4 := (Q3).keep hb4
  obtain ⟨q0, q1, q2, q3⟩ := Q4.four
  have lq := Q4.lt
  clear hb4 A3 P3 Q3
  go_wp2_with fail
  go_at_call 52
  refine (H4.out.1 _).mono ?_
  rintro e w5 ⟨rfl, hb5⟩
  have B5 := Lib.hid (bl_then B4.out hb5)
  have A5 := (A4).keep hb5
  obtain ⟨a0, a1, a2, a3⟩ := A5.four
  have la := A5.lt
  have P5 := (P4).keep hb5
  obtain ⟨p0, p1, p2, p3⟩ := P5.four
  have lp := P5.lt
  have Q5 := (Q4).keep hb5
  obtain ⟨q0, q1, q2, q3⟩ := Q5.four
  have lq := Q5.lt
  clear hb5 A4 P4 Q4
  go_wp2_with fail
  go_at_call 9
  refine (awake_any _).mono ?_
  rintro e wz ⟨rfl, hbz⟩
  go_wp2
  go_ret
  exact ⟨ret_bool (by first | rfl | simp), bl_then B5.out hbz⟩

set_option maxRecDepth 100000 in
set_option maxHeartbeats 4000000 in
theorem orders_ppo (a b c : Vl) (w : World) (hs : a.s.size ≤ maxLen) (hs' : b.s.size ≤ maxLen) (hs'' : c.s.size ≤ maxLen) (hl : ∀ v ∈ [a, b, c], v.light = true) (h1 : Cmps a b 1 0) (h2 : Cmps b a (-1) 0) (h3 : Cmps b c 1 0) (h4 : Cmps a c 0 0) :
    Calls Try.prog 7 #[a.v, b.v, c.v] w fun e w' => e = .returned (.bool true) ∧ Below w.heap.size w w' := by
  have HP : Hid (∀ v ∈ [a, b, c], v.s.size ≤ maxLen) := Lib.hid (vl3 hs hs' hs'')
  clear hs hs' hs''
  have H1 := Lib.hid h1; have H2 := Lib.hid h2; have H3 := Lib.hid h3; have H4 := Lib.hid h4
  have HL := Lib.hid hl
  clear hl h1 h2 h3 h4
  go_enter Try.func7, Try.ntmps7
  have B0 : Hid (Below w.heap.size w w) := Lib.hid (Below.refl _ w)
  have A0 := Row.new w (vlC a.k a.n a.q a.s) 23
  have P0 := Row.new2 w (.cells (vlC a.k a.n a.q a.s) 23) (vlC b.k b.n b.q b.s) 23
  have Q0 := Row.new3 w (.cells (vlC a.k a.n a.q a.s) 23) (.cells (vlC b.k b.n b.q b.s) 23) (vlC c.k c.n c.q c.s) 23
  go_wp2_with fail
  go_at_call 8
  refine (bLight_yes [a, b, c] (w.heap.size + 1 + 1 + 1) 0 3 _ (VlsAt.three (Row.new4 _ _ _ _ _ _)) (by simp) (by simp <;> omega) HP.out HL.out).mono ?_
  rintro e wl ⟨rfl, rfl⟩
  go_wp2_with fail
  go_at_call 52
  refine (H1.out.1 _).mono ?_
  rintro e w1 ⟨rfl, hb1⟩
  have B1 := Lib.hid (bl_box4 B0.out hb1)
  have A1 := (((A0.alloc _).alloc _).alloc _).keep hb1
  have P1 := ((P0.alloc _).alloc _).keep hb1
  have Q1 := (Q0.alloc _).keep hb1
  obtain ⟨a0, a1, a2, a3⟩ := A1.four
  have la := A1.lt
  obtain ⟨p0, p1, p2, p3⟩ := P1.four
  have lp := P1.lt
  obtain ⟨q0, q1, q2, q3⟩ := Q1.four
  have lq := Q1.lt
  clear hb1 A0 P0 Q0
  go_wp2_with fail
  go_at_call 53
  refine (H1.out.2 _).mono ?_
  rintro e w2 ⟨rfl, hb2⟩
  have B2 := Lib.hid (bl_then B1.out hb2)
  have A2 := (A1).keep hb2
  obtain ⟨a0, a1, a2, a3⟩ := A2.four
  have la := A2.lt
  have P2 := (P1).keep hb2
  obtain ⟨p0, p1, p2, p3⟩ := P2.four
  have lp := P2.lt
  have Q2 := (Q1).keep hb2
  obtain ⟨q0, q1, q2, q3⟩ := Q2.four
  have lq := Q2.lt
  clear hb2 A1 P1 Q1
  go_wp2_with fail
  go_at_call 52
  refine (H2.out.1 _).mono ?_
  rintro e w3 ⟨rfl, hb3⟩
  have B3 := Lib.hid (bl_then B2.out hb3)
  have A3 := (A2).keep hb3
  obtain ⟨a0, a1, a2, a3⟩ := A3.four
  have la := A3.lt
  have P3 := (P2).keep hb3
  obtain ⟨p0, p1, p2, p3⟩ := P3.four
  have lp := P3.lt
  have Q3 := (Q2).keep hb3
  obtain ⟨q0, q1, q2, q3⟩ := Q3.four
  have lq := Q3.lt
  clear hb3 A2 P2 Q2
  go_wp2_with fail
  go_at_call 52
  refine (H3.out.1 _).mono ?_
  rintro e w4 ⟨rfl, hb4⟩
  have B4 := Lib.hid (bl_then B3.out hb4)
  have A4 := (A3).keep hb4
  obtain ⟨a0, a1, a2, a3⟩ := A4.four
  have la := A4.lt
  have P4 := (P3).keep hb4
  obtain ⟨p0, p1, p2, p3⟩ := P4.four
  have lp := P4.lt
  have Q4 := (Q3).keep hb4
  obtain ⟨q0, q1, q2, q3⟩ := Q4.four
  have lq := Q4.lt
  clear hb4 A3 P3 Q3
  go_wp2_with fail
  go_at_call 52
  refine (H4.out.1 _).mono ?_
  rintro e w5 ⟨rfl, hb5⟩
  have B5 := Lib.hid (bl_then B4.out hb5)
  have A5 := (A4).keep hb5
  obtain ⟨a0, a1, a2, a3⟩ := A5.four
  have la := A5.lt
  have P5 := (P4).keep hb5
  obtain ⟨p0, p1, p2, p3⟩ := P5.four
  have lp := P5.lt
  have Q5 := (Q4).keep hb5
  obtain ⟨q0, q1, q2, q3⟩ := Q5.four
  have lq := Q5.lt
  clear hb5 A4 P4 Q4
  go_wp2_with fail
  go_at_call 9
  refine (awake_any _).mono ?_
  rintro e wz ⟨rfl, hbz⟩
  go_wp2
  go_ret
  exact ⟨ret_bool (by first | rfl | simp), bl_then B5.out hbz⟩

set_option maxRecDepth 100000 in
set_option maxHeartbeats 4000000 in
theorem orders_ppp (a b c : Vl) (w : World) (hs : a.s.size ≤ maxLen) (hs' : b.s.size ≤ maxLen) (hs'' : c.s.size ≤ maxLen) (hl : ∀ v ∈ [a, b, c], v.light = true) (h1 : Cmps a b 1 0) (h2 : Cmps b a (-1) 0) (h3 : Cmps b c 1 0) (h4 : Cmps a c 1 0) :
    Calls Try.prog 7 #[a.v, b.v, c.v] w fun e w' => e = .returned (.bool true) ∧ Below w.heap.size w w' := by
  have HP : Hid (∀ v ∈ [a, b, c], v.s.size ≤ maxLen) := Lib.hid (vl3 hs hs' hs'')
  clear hs hs' hs''
  have H1 := Lib.hid h1; have H2 := Lib.hid h2; have H3 := Lib.hid h3; have H4 := Lib.hid h4
  have HL := Lib.hid hl
  clear hl h1 h2 h3 h4
  go_enter Try.func7, Try.ntmps7
  have B0 : Hid (Below w.heap.size w w) := Lib.hid (Below.refl _ w)
  have A0 := Row.new w (vlC a.k a.n a.q a.s) 23
  have P0 := Row.new2 w (.cells (vlC a.k a.n a.q a.s) 23) (vlC b.k b.n b.q b.s) 23
  have Q0 := Row.new3 w (.cells (vlC a.k a.n a.q a.s) 23) (.cells (vlC b.k b.n b.q b.s) 23) (vlC c.k c.n c.q c.s) 23
  go_wp2_with fail
  go_at_call 8
  refine (bLight_yes [a, b, c] (w.heap.size + 1 + 1 + 1) 0 3 _ (VlsAt.three (Row.new4 _ _ _ _ _ _)) (by simp) (by simp <;> omega) HP.out HL.out).mono ?_
  rintro e wl ⟨rfl, rfl⟩
  go_wp2_with fail
  go_at_call 52
  refine (H1.out.1 _).mono ?_
  rintro e w1 ⟨rfl, hb1⟩
  have B1 := Lib.hid (bl_box4 B0.out hb1)
  have A1 := (((A0.alloc _).alloc _).alloc _).keep hb1
  have P1 := ((P0.alloc _).alloc _).keep hb1
  have Q1 := (Q0.alloc _).keep hb1
  obtain ⟨a0, a1, a2, a3⟩ := A1.four
  have la := A1.lt
  obtain ⟨p0, p1, p2, p3⟩ := P1.four
  have lp := P1.lt
  obtain ⟨q0, q1, q2, q3⟩ := Q1.four
  have lq := Q1.lt
  clear hb1 A0 P0 Q0
  go_wp2_with fail
  go_at_call 53
  refine (H1.out.2 _).mono ?_
  rintro e w2 ⟨rfl, hb2⟩
  have B2 := Lib.hid (bl_then B1.out hb2)
  have A2 := (A1).keep hb2
  obtain ⟨a0, a1, a2, a3⟩ := A2.four
  have la := A2.lt
  have P2 := (P1).keep hb2
  obtain ⟨p0, p1, p2, p3⟩ := P2.four
  have lp := P2.lt
  have Q2 := (Q1).keep hb2
  obtain ⟨q0, q1, q2, q3⟩ := Q2.four
  have lq := Q2.lt
  clear hb2 A1 P1 Q1
  go_wp2_with fail
  go_at_call 52
  refine (H2.out.1 _).mono ?_
  rintro e w3 ⟨rfl, hb3⟩
  have B3 := Lib.hid (bl_then B2.out hb3)
  have A3 := (A2).keep hb3
  obtain ⟨a0, a1, a2, a3⟩ := A3.four
  have la := A3.lt
  have P3 := (P2).keep hb3
  obtain ⟨p0, p1, p2, p3⟩ := P3.four
  have lp := P3.lt
  have Q3 := (Q2).keep hb3
  obtain ⟨q0, q1, q2, q3⟩ := Q3.four
  have lq := Q3.lt
  clear hb3 A2 P2 Q2
  go_wp2_with fail
  go_at_call 52
  refine (H3.out.1 _).mono ?_
  rintro e w4 ⟨rfl, hb4⟩
  have B4 := Lib.hid (bl_then B3.out hb4)
  have A4 := (A3).keep hb4
  obtain ⟨a0, a1, a2, a3⟩ := A4.four
  have la := A4.lt
  have P4 := (P3).keep hb4
  obtain ⟨p0, p1, p2, p3⟩ := P4.four
  have lp := P4.lt
  have Q4 := (Q3).keep hb4
  obtain ⟨q0, q1, q2, q3⟩ := Q4.four
  have lq := Q4.lt
  clear hb4 A3 P3 Q3
  go_wp2_with fail
  go_at_call 52
  refine (H4.out.1 _).mono ?_
  rintro e w5 ⟨rfl, hb5⟩
  have B5 := Lib.hid (bl_then B4.out hb5)
  have A5 := (A4).keep hb5
  obtain ⟨a0, a1, a2, a3⟩ := A5.four
  have la := A5.lt
  have P5 := (P4).keep hb5
  obtain ⟨p0, p1, p2, p3⟩ := P5.four
  have lp := P5.lt
  have Q5 := (Q4).keep hb5
  obtain ⟨q0, q1, q2, q3⟩ := Q5.four
  have lq := Q5.lt
  clear hb5 A4 P4 Q4
  go_wp2_with fail
  go_at_call 9
  refine (awake_any _).mono ?_
  rintro e wz ⟨rfl, hbz⟩
  go_wp2
  go_ret
  exact ⟨ret_bool (by first | rfl | simp), bl_then B5.out hbz⟩

theorem orders_any (a b c : Vl) (w : World) (hs : a.s.size ≤ maxLen) (hs' : b.s.size ≤ maxLen) (hs'' : c.s.size ≤ maxLen) :
    Calls Try.prog 7 #[a.v, b.v, c.v] w fun e w' => e = .returned (.bool true) ∧ Below w.heap.size w w' := by
  by_cases hl : ∀ v ∈ [a, b, c], v.light = true
  · by_cases h0 : alikeE a b = 0
    · obtain ⟨oa, ob, ok⟩ := alikeE_ok h0
      have h0' : alikeE b a = 0 := alikeE_of ob oa ok.symm
      have hx := cmpL_abs a.k a.s.data.toList b.s.data.toList
      have c1 := cmps_ok hs hs' h0
      have c2 := cmps_ok hs' hs h0'
      have en : compareV b a = - compareV a b := by unfold compareV; rw [ok]; exact cmpL_neg _ _ _
      rw [en] at c2
      by_cases h1 : alikeE b c = 0
      · by_cases h2 : alikeE a c = 0
        · have c3 := cmps_ok hs' hs'' h1
          have c4 := cmps_ok hs hs'' h2
          have hy := cmpL_abs b.k b.s.data.toList c.s.data.toList
          have hz := cmpL_abs a.k a.s.data.toList c.s.data.toList
          have t1 := cmpL_trans a.k a.s.data.toList b.s.data.toList c.s.data.toList
          have t2 := cmpL_trans' a.k a.s.data.toList b.s.data.toList c.s.data.toList
          rw [← ok] at t1 t2
          have e1 : cmpL a.k a.s.data.toList b.s.data.toList = compareV a b := rfl
          have e2 : cmpL b.k b.s.data.toList c.s.data.toList = compareV b c := rfl
          have e3 : cmpL a.k a.s.data.toList c.s.data.toList = compareV a c := rfl
          rw [ok] at t1 t2
          rw [ok] at e2
          rw [ok] at hy
          rw [e1] at hx t1 t2
          rw [e2] at hy t1 t2
          rw [e3] at hz t1 t2
          generalize compareV a b = x at *
          generalize compareV b c = y at *
          generalize compareV a c = z at *
          have hx' : x = -1 ∨ x = 0 ∨ x = 1 := by omega
          have hy' : y = -1 ∨ y = 0 ∨ y = 1 := by omega
          have hz' : z = -1 ∨ z = 0 ∨ z = 1 := by omega
          clear e1 e2 e3 en
          rcases hx' with rfl | rfl | rfl <;> rcases hy' with rfl | rfl | rfl <;> rcases hz' with rfl | rfl | rfl <;> first
            | (exfalso; have := t1 (by decide) (by decide); omega)
            | (exfalso; have := t2 (by decide) (by decide); omega)
            | exact orders_mmm a b c w hs hs' hs'' hl c1 c2 c3 c4
            | exact orders_mmo a b c w hs hs' hs'' hl c1 c2 c3 c4
            | exact orders_mom a b c w hs hs' hs'' hl c1 c2 c3 c4
            | exact orders_moo a b c w hs hs' hs'' hl c1 c2 c3 c4
            | exact orders_mpm a b c w hs hs' hs'' hl c1 c2 c3 c4
            | exact orders_mpo a b c w hs hs' hs'' hl c1 c2 c3 c4
            | exact orders_mpp a b c w hs hs' hs'' hl c1 c2 c3 c4
            | exact orders_omm a b c w hs hs' hs'' hl c1 c2 c3 c4
            | exact orders_omo a b c w hs hs' hs'' hl c1 c2 c3 c4
            | exact orders_ooo a b c w hs hs' hs'' hl c1 c2 c3 c4
            | exact orders_opo a b c w hs hs' hs'' hl c1 c2 c3 c4
            | exact orders_opp a b c w hs hs' hs'' hl c1 c2 c3 c4
            | exact orders_pmm a b c w hs hs' hs'' hl c1 c2 c3 c4
            | exact orders_pmo a b c w hs hs' hs'' hl c1 c2 c3 c4
            | exact orders_pmp a b c w hs hs' hs'' hl c1 c2 c3 c4
            | exact orders_poo a b c w hs hs' hs'' hl c1 c2 c3 c4
            | exact orders_pop a b c w hs hs' hs'' hl c1 c2 c3 c4
            | exact orders_ppo a b c w hs hs' hs'' hl c1 c2 c3 c4
            | exact orders_ppp a b c w hs hs' hs'' hl c1 c2 c3 c4
        · exact orders_two a b c w hs hs' hs'' hl _ _ 0 _ hx c1 c2 (cmps_ok hs' hs'' h1) (cmps_no hs hs'' h2) h2
      · exact orders_one a b c w hs hs' hs'' hl _ 0 _ _ _ hx c1 c2 (cmps_no hs' hs'' h1) (cmps_of a c hs hs'') h1
    · exact orders_no a b c w hs hs' hs'' hl 0 _ (cmps_no hs hs' h0) h0
  · exact orders_dark a b c w hs hs' hs'' hl
end Go.Proofs.Ytmbmcelgfgelfaa
