/- The law BitsFinds, for any two values. -/
import Derived.Test.YtmbmcelgfgelfaaBitRFind
import Derived.Test.YtmbmcelgfgelfaaBitSub
import Derived.Test.YtmbmcelgfgelfaaBitAwake
namespace Go.Proofs.Ytmbmcelgfgelfaa
open Go.RowKit

theorem alikeE_mk {k : Int} {l p : List UInt8} (h : okT k l = true) (hp : okT k p = true) : alikeE ⟨k, 0, 0, bsz l⟩ ⟨k, 0, 0, bsz p⟩ = 0 :=
  alikeE_of (okV_mk h) (okV_mk hp) rfl
theorem vl_eta (a : Vl) (h : a.ok = true) : a.v = vlV a.k 0 0 a.s := by
  obtain ⟨h1, h2, _⟩ := okV_eq h
  show vlV _ _ _ _ = _
  rw [h1, h2]
theorem vl_room (a : Vl) (h : a.ok = true) : a.s.size ≤ 250 := by
  have := okT_len (okV_eq h).2.2; rwa [lsz] at this
theorem plainI_of {i : Int} (h : -1000 ≤ i ∧ i ≤ 1000) : plainI i = true := by simp only [plainI, Bool.and_eq_true, decide_eq_true_eq]; omega

/-- What the law asks where a place was found. -/
structure Found (a b : Vl) (n : Nat) : Prop where
  sub1 : ∀ W, Calls Try.prog 10 #[a.v, .int .i64 ((n : Int) + 1), .int .i64 b.s.size] W fun e w' => e = .returned (.tuple #[b.v, .int .i64 0, .int .i64 0]) ∧ Below W.heap.size W w'
  rest : ∃ (X : ByteArray) (c : Int), X.size ≤ 250 ∧ (∀ W, Calls Try.prog 10 #[a.v, .int .i64 1, .int .i64 ((n : Int) + 1 + b.s.size - 2)] W fun e w' => e = .returned (.tuple #[vlV a.k 0 0 X, .int .i64 c, .int .i64 0]) ∧ Below W.heap.size W w') ∧
    ∀ W, Calls Try.prog 17 #[vlV a.k 0 0 X, b.v] W fun e w' => e = .returned (.tuple #[.int .i64 0, .int .i64 0]) ∧ Below W.heap.size W w'
theorem found_of (a b : Vl) (n : Nat) (h0 : alikeE a b = 0) (hn : leastN (begsP a.s.data.toList b.s.data.toList) a.s.size = n + 1) : Found a b n := by
  obtain ⟨oa, ob, ok⟩ := alikeE_ok h0
  have ra := vl_room a oa
  have rb := vl_room b ob
  have ta := (okV_eq oa).2.2
  have tb := (okV_eq ob).2.2
  have hl : a.s.data.toList.length = a.s.size := lsz _
  have hl' : b.s.data.toList.length = b.s.size := lsz _
  rw [← hl] at hn
  have hs1 : a.s.size ≤ maxLen := by unfold maxLen; omega
  have hs2 : b.s.size ≤ maxLen := by unfold maxLen; omega
  obtain ⟨g1, g2, _⟩ := index_len hn
  obtain ⟨f1, f2⟩ := index_sub hn
  have f3 := index_before hn
  rw [hl'] at f1 f2 f3 g1 g2
  rw [hl] at g1
  have e1 : subE a ((n : Int) + 1) b.s.size = 0 := by rw [subE, oa, plainI_of (by omega), plainI_of (by omega)]; rfl
  have e2 : subE a 1 ((n : Int) + 1 + b.s.size - 2) = 0 := by rw [subE, oa, plainI_of (by omega), plainI_of (by omega)]; rfl
  refine ⟨fun W => (bSub_any a _ _ W hs1).mono fun e w' ⟨he, hb⟩ => ⟨he.trans ?_, hb⟩, bsz (subL a.s.data.toList 1 ((n : Int) + 1 + b.s.size - 2)), partC a.s.data.toList 1 ((n : Int) + 1 + b.s.size - 2), ?_, fun W => (bSub_any a _ _ W hs1).mono fun e w' ⟨he, hb⟩ => ⟨he.trans ?_, hb⟩, fun W => ?_⟩
  · rw [e1, f1, f2, vl_eta b ob, ← ok]; rfl
  · rw [bsz_size]; exact okT_len (subL_ok ta)
  · rw [e2]; rfl
  · have tx : okT a.k (subL a.s.data.toList 1 ((n : Int) + 1 + b.s.size - 2)) = true := subL_ok ta
    have ex : alikeE ⟨a.k, 0, 0, bsz (subL a.s.data.toList 1 ((n : Int) + 1 + b.s.size - 2))⟩ b = 0 := alikeE_of (okV_mk tx) ob ok
    refine (bIndex_any ⟨a.k, 0, 0, bsz (subL a.s.data.toList 1 ((n : Int) + 1 + b.s.size - 2))⟩ b W (by show (bsz _).size ≤ _; rw [bsz_size]; have := okT_len tx; unfold maxLen; omega) hs2).mono fun e w' ⟨he, hb⟩ => ⟨he.trans ?_, hb⟩
    rw [ex, if_pos rfl, show indexV ⟨a.k, 0, 0, bsz (subL a.s.data.toList 1 ((n : Int) + 1 + b.s.size - 2))⟩ b = 0 from congrArg Int.ofNat f3]

set_option maxRecDepth 100000 in
set_option maxHeartbeats 4000000 in
theorem finds_dark (a b : Vl) (w : World) (hs : a.s.size ≤ maxLen) (hs' : b.s.size ≤ maxLen) (hl : ¬ ∀ v ∈ [a, b], v.light = true) :
    Calls Try.prog 4 #[a.v, b.v] w fun e w' => e = .returned (.bool true) ∧ Below w.heap.size w w' := by
  have H1 := Lib.hid hs
  have H2 := Lib.hid hs'
  have HP : Hid (∀ v ∈ [a, b], v.s.size ≤ maxLen) := Lib.hid (vl2 hs hs')
  have hG : Try.prog.eqGuardType Try.prog.depth 23 = false := by kernel_rfl
  have hE := vlEq
  clear hs hs'
  have HL := Lib.hid hl
  clear hl
  go_enter Try.func4, Try.ntmps4
  go_wp2_with (first
    | (go_at_call 8; refine (bLight_no [a, b] (w.heap.size + 1 + 1) 0 2 _ (VlsAt.two (Row.new3 _ _ _ _ _)) (by simp) (by simp) HP.out HL.out).mono ?_; rintro e w1 ⟨rfl, rfl⟩)
    | (go_at_call 9; refine (awake_any _).mono ?_; rintro e w2 ⟨rfl, hb⟩))
  go_ret
  exact ⟨rfl, bl_box3 (Below.refl _ w) hb⟩

set_option maxRecDepth 100000 in
set_option maxHeartbeats 4000000 in
theorem finds_none (a b : Vl) (w : World) (hs : a.s.size ≤ maxLen) (hs' : b.s.size ≤ maxLen) (hl : ∀ v ∈ [a, b], v.light = true) (hJ : (if alikeE a b = 0 then (indexV a b : Int) else 0) = 0) :
    Calls Try.prog 4 #[a.v, b.v] w fun e w' => e = .returned (.bool true) ∧ Below w.heap.size w w' := by
  have H1 := Lib.hid hs
  have H2 := Lib.hid hs'
  have HP : Hid (∀ v ∈ [a, b], v.s.size ≤ maxLen) := Lib.hid (vl2 hs hs')
  have hG : Try.prog.eqGuardType Try.prog.depth 23 = false := by kernel_rfl
  have hE := vlEq
  clear hs hs'
  obtain ⟨T, hT⟩ : ∃ T, (if alikeE a b = 0 then (tallyV a b : Int) else 0) = T := ⟨_, rfl⟩
  obtain ⟨V, hV⟩ : ∃ T, (if alikeE a b = 0 then (verifyV a b : Int) else 0) = T := ⟨_, rfl⟩
  obtain ⟨S, hS⟩ : ∃ T, (if alikeE a b = 0 then (searchV a b : Int) else 0) = T := ⟨_, rfl⟩
  have HJ := Lib.hid hJ; have HT := Lib.hid hT; have HV := Lib.hid hV; have HS := Lib.hid hS
  have HL := Lib.hid hl
  clear hJ hT hV hS hl
  obtain ⟨E, hEE⟩ : ∃ E, alikeE a b = E := ⟨_, rfl⟩
  rw [hEE] at HJ HT HV HS
  have HA := Lib.hid hEE
  clear hEE
  go_enter Try.func4, Try.ntmps4
  have B0 : Hid (Below w.heap.size w w) := Lib.hid (Below.refl _ w)
  have A0 := Row.new w (vlC a.k a.n a.q a.s) 23
  have P0 := Row.new2 w (.cells (vlC a.k a.n a.q a.s) 23) (vlC b.k b.n b.q b.s) 23
  go_wp2_with fail
  go_at_call 8
  refine (bLight_yes [a, b] (w.heap.size + 1 + 1) 0 2 _ (VlsAt.two (Row.new3 _ _ _ _ _)) (by simp) (by simp) HP.out HL.out).mono ?_
  rintro e wl ⟨rfl, rfl⟩
  go_wp2_with fail
  go_at_call 17
  refine (bIndex_any a b _ H1.out H2.out).mono ?_
  rw [HA.out, HJ.out]
  rintro e w1 ⟨rfl, hb1⟩
  have B1 := Lib.hid (bl_box3 B0.out hb1)
  have A1 := ((A0.alloc _).alloc _).keep hb1
  have P1 := (P0.alloc _).keep hb1
  obtain ⟨a0, a1, a2, a3⟩ := A1.four
  obtain ⟨p0, p1, p2, p3⟩ := P1.four
  have la := A1.lt
  have lp := P1.lt
  clear hb1 A0 P0
  go_wp2_with fail
  go_at_call 18
  refine (rIndex_any a b _ H1.out H2.out).mono ?_
  rw [HA.out, HJ.out]
  rintro e w2 ⟨rfl, hb2⟩
  have B2 := Lib.hid (bl_then B1.out hb2)
  have A2 := (A1).keep hb2
  obtain ⟨a0, a1, a2, a3⟩ := A2.four
  have la := A2.lt
  have P2 := (P1).keep hb2
  obtain ⟨p0, p1, p2, p3⟩ := P2.four
  have lp := P2.lt
  clear hb2 A1 P1
  go_wp2_with fail
  go_at_call 19
  refine (bTally_any a b _ H1.out H2.out).mono ?_
  rw [HA.out, HT.out]
  rintro e w3 ⟨rfl, hb3⟩
  have B3 := Lib.hid (bl_then B2.out hb3)
  have A3 := (A2).keep hb3
  obtain ⟨a0, a1, a2, a3⟩ := A3.four
  have la := A3.lt
  have P3 := (P2).keep hb3
  obtain ⟨p0, p1, p2, p3⟩ := P3.four
  have lp := P3.lt
  clear hb3 A2 P2
  go_wp2_with fail
  go_at_call 20
  refine (rTally_any a b _ H1.out H2.out).mono ?_
  rw [HA.out, HT.out]
  rintro e w4 ⟨rfl, hb4⟩
  have B4 := Lib.hid (bl_then B3.out hb4)
  have A4 := (A3).keep hb4
  obtain ⟨a0, a1, a2, a3⟩ := A4.four
  have la := A4.lt
  have P4 := (P3).keep hb4
  obtain ⟨p0, p1, p2, p3⟩ := P4.four
  have lp := P4.lt
  clear hb4 A3 P3
  go_wp2_with fail
  go_at_call 21
  refine (bVerify_any a b _ H1.out H2.out).mono ?_
  rw [HA.out, HV.out]
  rintro e w5 ⟨rfl, hb5⟩
  have B5 := Lib.hid (bl_then B4.out hb5)
  have A5 := (A4).keep hb5
  obtain ⟨a0, a1, a2, a3⟩ := A5.four
  have la := A5.lt
  have P5 := (P4).keep hb5
  obtain ⟨p0, p1, p2, p3⟩ := P5.four
  have lp := P5.lt
  clear hb5 A4 P4
  go_wp2_with fail
  go_at_call 22
  refine (rVerify_any a b _ H1.out H2.out).mono ?_
  rw [HA.out, HV.out]
  rintro e w6 ⟨rfl, hb6⟩
  have B6 := Lib.hid (bl_then B5.out hb6)
  have A6 := (A5).keep hb6
  obtain ⟨a0, a1, a2, a3⟩ := A6.four
  have la := A6.lt
  have P6 := (P5).keep hb6
  obtain ⟨p0, p1, p2, p3⟩ := P6.four
  have lp := P6.lt
  clear hb6 A5 P5
  go_wp2_with fail
  go_at_call 23
  refine (bSearch_any a b _ H1.out H2.out).mono ?_
  rw [HA.out, HS.out]
  rintro e w7 ⟨rfl, hb7⟩
  have B7 := Lib.hid (bl_then B6.out hb7)
  have A7 := (A6).keep hb7
  obtain ⟨a0, a1, a2, a3⟩ := A7.four
  have la := A7.lt
  have P7 := (P6).keep hb7
  obtain ⟨p0, p1, p2, p3⟩ := P7.four
  have lp := P7.lt
  clear hb7 A6 P6
  go_wp2_with fail
  go_at_call 24
  refine (rSearch_any a b _ H1.out H2.out).mono ?_
  rw [HA.out, HS.out]
  rintro e w8 ⟨rfl, hb8⟩
  have B8 := Lib.hid (bl_then B7.out hb8)
  have A8 := (A7).keep hb8
  obtain ⟨a0, a1, a2, a3⟩ := A8.four
  have la := A8.lt
  have P8 := (P7).keep hb8
  obtain ⟨p0, p1, p2, p3⟩ := P8.four
  have lp := P8.lt
  clear hb8 A7 P7
  go_wp2_with fail
  go_at_call 9
  refine (awake_any _).mono ?_
  rintro e wz ⟨rfl, hbz⟩
  go_wp2
  go_ret
  exact ⟨ret_bool (by first | rfl | simp), bl_then B8.out hbz⟩

set_option maxRecDepth 100000 in
set_option maxHeartbeats 4000000 in
theorem finds_some (a b : Vl) (w : World) (hs : a.s.size ≤ maxLen) (hs' : b.s.size ≤ maxLen) (hl : ∀ v ∈ [a, b], v.light = true) (n : Nat) (h0 : alikeE a b = 0) (hn : leastN (begsP a.s.data.toList b.s.data.toList) a.s.size = n + 1) :
    Calls Try.prog 4 #[a.v, b.v] w fun e w' => e = .returned (.bool true) ∧ Below w.heap.size w w' := by
  have hF := found_of a b n h0 hn
  have rb : b.s.size ≤ 250 := vl_room b (alikeE_ok h0).2.1
  have hn2 : n ≤ 250 := by
    have h1 := leastN_le (begsP a.s.data.toList b.s.data.toList) a.s.size
    have := vl_room a (alikeE_ok h0).1; omega
  have hJ : (if alikeE a b = 0 then (indexV a b : Int) else 0) = (n : Int) + 1 := by rw [if_pos h0, indexV, hn]; rfl
  obtain ⟨X, c, hX, hx1, hx2⟩ := hF.rest
  have HF := Lib.hid hF; have HX1 := Lib.hid hx1; have HX2 := Lib.hid hx2
  clear hF hx1 hx2 hn
  have H1 := Lib.hid hs
  have H2 := Lib.hid hs'
  have HP : Hid (∀ v ∈ [a, b], v.s.size ≤ maxLen) := Lib.hid (vl2 hs hs')
  have hG : Try.prog.eqGuardType Try.prog.depth 23 = false := by kernel_rfl
  have hE := vlEq
  clear hs hs'
  obtain ⟨T, hT⟩ : ∃ T, (if alikeE a b = 0 then (tallyV a b : Int) else 0) = T := ⟨_, rfl⟩
  obtain ⟨V, hV⟩ : ∃ T, (if alikeE a b = 0 then (verifyV a b : Int) else 0) = T := ⟨_, rfl⟩
  obtain ⟨S, hS⟩ : ∃ T, (if alikeE a b = 0 then (searchV a b : Int) else 0) = T := ⟨_, rfl⟩
  have HJ := Lib.hid hJ; have HT := Lib.hid hT; have HV := Lib.hid hV; have HS := Lib.hid hS
  have HL := Lib.hid hl
  clear hJ hT hV hS hl
  obtain ⟨E, hEE⟩ : ∃ E, alikeE a b = E := ⟨_, rfl⟩
  rw [hEE] at HJ HT HV HS
  have HA := Lib.hid hEE
  clear hEE h0
  go_enter Try.func4, Try.ntmps4
  have B0 : Hid (Below w.heap.size w w) := Lib.hid (Below.refl _ w)
  have A0 := Row.new w (vlC a.k a.n a.q a.s) 23
  have P0 := Row.new2 w (.cells (vlC a.k a.n a.q a.s) 23) (vlC b.k b.n b.q b.s) 23
  go_wp2_with fail
  go_at_call 8
  refine (bLight_yes [a, b] (w.heap.size + 1 + 1) 0 2 _ (VlsAt.two (Row.new3 _ _ _ _ _)) (by simp) (by simp) HP.out HL.out).mono ?_
  rintro e wl ⟨rfl, rfl⟩
  go_wp2_with fail
  go_at_call 17
  refine (bIndex_any a b _ H1.out H2.out).mono ?_
  rw [HA.out, HJ.out]
  rintro e w1 ⟨rfl, hb1⟩
  have B1 := Lib.hid (bl_box3 B0.out hb1)
  have A1 := ((A0.alloc _).alloc _).keep hb1
  have P1 := (P0.alloc _).keep hb1
  obtain ⟨a0, a1, a2, a3⟩ := A1.four
  obtain ⟨p0, p1, p2, p3⟩ := P1.four
  have la := A1.lt
  have lp := P1.lt
  clear hb1 A0 P0
  go_wp2_with fail
  go_at_call 18
  refine (rIndex_any a b _ H1.out H2.out).mono ?_
  rw [HA.out, HJ.out]
  rintro e w2 ⟨rfl, hb2⟩
  have B2 := Lib.hid (bl_then B1.out hb2)
  have A2 := (A1).keep hb2
  obtain ⟨a0, a1, a2, a3⟩ := A2.four
  have la := A2.lt
  have P2 := (P1).keep hb2
  obtain ⟨p0, p1, p2, p3⟩ := P2.four
  have lp := P2.lt
  clear hb2 A1 P1
  go_wp2_with fail
  go_at_call 10
  refine (HF.out.sub1 _).mono ?_
  rintro e w3 ⟨rfl, hb3⟩
  have B3 := Lib.hid (bl_then B2.out hb3)
  have A3 := (A2).keep hb3
  obtain ⟨a0, a1, a2, a3⟩ := A3.four
  have la := A3.lt
  have P3 := (P2).keep hb3
  obtain ⟨p0, p1, p2, p3⟩ := P3.four
  have lp := P3.lt
  clear hb3 A2 P2
  go_wp2_with fail
  go_at_call 10
  refine (HX1.out _).mono ?_
  rintro e w4 ⟨rfl, hb4⟩
  have B4 := Lib.hid (bl_box B3.out hb4)
  have A4 := ((A3.alloc _)).keep hb4
  obtain ⟨a0, a1, a2, a3⟩ := A4.four
  have la := A4.lt
  have P4 := ((P3.alloc _)).keep hb4
  obtain ⟨p0, p1, p2, p3⟩ := P4.four
  have lp := P4.lt
  clear hb4 A3 P3
  go_wp2_with fail
  go_at_call 17
  refine (HX2.out _).mono ?_
  rintro e w5 ⟨rfl, hb5⟩
  have B5 := Lib.hid (bl_box B4.out hb5)
  have A5 := ((A4.alloc _)).keep hb5
  obtain ⟨a0, a1, a2, a3⟩ := A5.four
  have la := A5.lt
  have P5 := ((P4.alloc _)).keep hb5
  obtain ⟨p0, p1, p2, p3⟩ := P5.four
  have lp := P5.lt
  clear hb5 A4 P4
  go_wp2_with fail
  go_at_call 19
  refine (bTally_any a b _ H1.out H2.out).mono ?_
  rw [HA.out, HT.out]
  rintro e w6 ⟨rfl, hb6⟩
  have B6 := Lib.hid (bl_then B5.out hb6)
  have A6 := (A5).keep hb6
  obtain ⟨a0, a1, a2, a3⟩ := A6.four
  have la := A6.lt
  have P6 := (P5).keep hb6
  obtain ⟨p0, p1, p2, p3⟩ := P6.four
  have lp := P6.lt
  clear hb6 A5 P5
  go_wp2_with fail
  go_at_call 20
  refine (rTally_any a b _ H1.out H2.out).mono ?_
  rw [HA.out, HT.out]
  rintro e w7 ⟨rfl, hb7⟩
  have B7 := Lib.hid (bl_then B6.out hb7)
  have A7 := (A6).keep hb7
  obtain ⟨a0, a1, a2, a3⟩ := A7.four
  have la := A7.lt
  have P7 := (P6).keep hb7
  obtain ⟨p0, p1, p2, p3⟩ := P7.four
  have lp := P7.lt
  clear hb7 A6 P6
  go_wp2_with fail
  go_at_call 21
  refine (bVerify_any a b _ H1.out H2.out).mono ?_
  rw [HA.out, HV.out]
  rintro e w8 ⟨rfl, hb8⟩
  have B8 := Lib.hid (bl_then B7.out hb8)
  have A8 := (A7).keep hb8
  obtain ⟨a0, a1, a2, a3⟩ := A8.four
  have la := A8.lt
  have P8 := (P7).keep hb8
  obtain ⟨p0, p1, p2, p3⟩ := P8.four
  have lp := P8.lt
  clear hb8 A7 P7
  go_wp2_with fail
  go_at_call 22
  refine (rVerify_any a b _ H1.out H2.out).mono ?_
  rw [HA.out, HV.out]
  rintro e w9 ⟨rfl, hb9⟩
  have B9 := Lib.hid (bl_then B8.out hb9)
  have A9 := (A8).keep hb9
  obtain ⟨a0, a1, a2, a3⟩ := A9.four
  have la := A9.lt
  have P9 := (P8).keep hb9
  obtain ⟨p0, p1, p2, p3⟩ := P9.four
  have lp := P9.lt
  clear hb9 A8 P8
  go_wp2_with fail
  go_at_call 23
  refine (bSearch_any a b _ H1.out H2.out).mono ?_
  rw [HA.out, HS.out]
  rintro e w10 ⟨rfl, hb10⟩
  have B10 := Lib.hid (bl_then B9.out hb10)
  have A10 := (A9).keep hb10
  obtain ⟨a0, a1, a2, a3⟩ := A10.four
  have la := A10.lt
  have P10 := (P9).keep hb10
  obtain ⟨p0, p1, p2, p3⟩ := P10.four
  have lp := P10.lt
  clear hb10 A9 P9
  go_wp2_with fail
  go_at_call 24
  refine (rSearch_any a b _ H1.out H2.out).mono ?_
  rw [HA.out, HS.out]
  rintro e w11 ⟨rfl, hb11⟩
  have B11 := Lib.hid (bl_then B10.out hb11)
  have A11 := (A10).keep hb11
  obtain ⟨a0, a1, a2, a3⟩ := A11.four
  have la := A11.lt
  have P11 := (P10).keep hb11
  obtain ⟨p0, p1, p2, p3⟩ := P11.four
  have lp := P11.lt
  clear hb11 A10 P10
  go_wp2_with fail
  go_at_call 9
  refine (awake_any _).mono ?_
  rintro e wz ⟨rfl, hbz⟩
  go_wp2
  go_ret
  exact ⟨ret_bool (by first | rfl | simp), bl_then B11.out hbz⟩

theorem finds_any (a b : Vl) (w : World) (hs : a.s.size ≤ maxLen) (hs' : b.s.size ≤ maxLen) :
    Calls Try.prog 4 #[a.v, b.v] w fun e w' => e = .returned (.bool true) ∧ Below w.heap.size w w' := by
  by_cases hl : ∀ v ∈ [a, b], v.light = true
  · by_cases h0 : alikeE a b = 0
    · cases hn : leastN (begsP a.s.data.toList b.s.data.toList) a.s.size with
      | zero => exact finds_none a b w hs hs' hl (by rw [if_pos h0, indexV, hn]; rfl)
      | succ n => exact finds_some a b w hs hs' hl n h0 hn
    · exact finds_none a b w hs hs' hl (if_neg h0)
  · exact finds_dark a b w hs hs' hl
end Go.Proofs.Ytmbmcelgfgelfaa
