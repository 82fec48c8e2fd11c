/- The law's sanity check (ironbarklaw01.awake), and the law DigitOrders. -/
import Derived.Test.YtfoegnddlaemgaaGreatDoorWrdText
import Derived.Test.YtfoegnddlaemgaaGreatDoorWrdThird
import Derived.Test.YtfoegnddlaemgaaGreatDoorWrdRight5
import Derived.Test.YtfoegnddlaemgaaGreatDoorWrdCompare
import Derived.Test.YtfoegnddlaemgaaGreatDoorWrdOrd
namespace Go.Proofs.YtfoegnddlaemgaaGreatDoor
open Go.RowKit

theorem third_text : fixT 33333333333333 14 = [48, 46, 51, 51, 51, 51, 51, 51, 51, 51, 51, 51, 51, 51, 51, 51] := by
  have h : decT 33333333333333 = List.replicate 14 51 := by
    simp [decT, digs]
  unfold fixT
  rw [show (33333333333333 : Int).natAbs = 33333333333333 from rfl, h]
  decide

set_option maxRecDepth 100000 in
set_option maxHeartbeats 2000000 in
theorem awake_1 (w : World) : Calls Tryz.prog 5 #[] w fun e w' => e = .returned (.bool true) ∧ Below w.heap.size w w' := by
  have HD : Hid (∀ W, Calls Tryz.prog 8 #[vaV 2 1 0 emp, vaV 2 3 0 emp, .agg #[.int .i64 2, .int .i64 15, .int .i64 14, .int .i64 0, .bool false, .string emp]] W fun e w' => e = .returned (.tuple #[vaV 2 33333333333333 14 emp, .int .i64 0, .int .i64 0]) ∧ Below W.heap.size W w') := Lib.hid third
  have HT : Hid (∀ W, Calls Tryz.prog 9 #[vaV 2 33333333333333 14 emp] W fun e w' => e = .returned (.tuple #[.string ⟨#[48, 46, 51, 51, 51, 51, 51, 51, 51, 51, 51, 51, 51, 51, 51, 51]⟩, .int .i64 0]) ∧ Below W.heap.size W w') := Lib.hid fun W => by
    have := text_2 33333333333333 14 W (by decide) (by decide)
    rw [third_text] at this
    exact this
  go_enter Tryz.func5, Tryz.ntmps5
  go_wp2_with (first
    | (go_at_call 8; (refine (HD.out _).mono ?_); rintro e w1 ⟨rfl, hb1⟩)
    | (go_at_call 9; (refine (HT.out _).mono ?_); rintro e w2 ⟨rfl, hb2⟩))
  go_ret
  exact ⟨rfl, bl_box hb1 hb2⟩

theorem sgnZ_is (z : Int) : sgnZ z = -1 ∨ sgnZ z = 0 ∨ sgnZ z = 1 := by
  unfold sgnZ; split
  · exact .inl rfl
  · split
    · exact .inr (.inl rfl)
    · exact .inr (.inr rfl)
/-- What three orders of right numbers are together. -/
def Trio (x y z : Int) : Prop := ((x = -1 ∨ x = 0 ∨ x = 1) ∧ (y = -1 ∨ y = 0 ∨ y = 1) ∧ (z = -1 ∨ z = 0 ∨ z = 1)) ∧ (x ≤ 0 → y ≤ 0 → z ≤ 0) ∧ (0 ≤ x → 0 ≤ y → 0 ≤ z)
theorem trio_of {a b c : Va} {x y z : Int} (h1 : OrdP a b 0 x) (h2 : OrdP b c 0 y) (h3 : OrdP a c 0 z) : Trio x y z := by
  obtain ⟨_, _, _, _, rfl⟩ := h1 rfl
  obtain ⟨_, _, _, _, rfl⟩ := h2 rfl
  obtain ⟨_, _, _, _, rfl⟩ := h3 rfl
  exact ⟨⟨sgnZ_is _, sgnZ_is _, sgnZ_is _⟩, signs_order a.den_pos b.den_pos c.den_pos⟩

theorem four_ways (a b c : Int) : a ≠ 0 ∨ (a = 0 ∧ b ≠ 0) ∨ (a = 0 ∧ b = 0 ∧ c ≠ 0) ∨ (a = 0 ∧ b = 0 ∧ c = 0) := by omega

set_option maxRecDepth 100000 in
set_option maxHeartbeats 8000000 in
/-- The law DigitOrders, for any three values. -/
theorem orders_va (a b c : Va) (w : World) :
    Calls Tryz.prog 3 #[a.v, b.v, c.v] w fun e w' => e = .returned (.bool true) ∧ Below w.heap.size w w' := by
  have HRA : Hid (∀ W, Calls Tryz.prog 4 #[a.v] W (SomeD a.right W)) := Lib.hid fun W => right_va a W
  have HRB : Hid (∀ W, Calls Tryz.prog 4 #[b.v] W (SomeD b.right W)) := Lib.hid fun W => right_va b W
  have HRC : Hid (∀ W, Calls Tryz.prog 4 #[c.v] W (SomeD c.right W)) := Lib.hid fun W => right_va c W
  have HAB : Hid (∀ W, Calls Tryz.prog 6 #[a.v, b.v] W fun e w' => ∃ n o : Int, e = .returned (.tuple #[.int .i64 o, .int .i64 n]) ∧ OrdP a b n o ∧ Below W.heap.size W w') := Lib.hid fun W => compare_va a b W fun t _ W => right_va t W
  have HBC : Hid (∀ W, Calls Tryz.prog 6 #[b.v, c.v] W fun e w' => ∃ n o : Int, e = .returned (.tuple #[.int .i64 o, .int .i64 n]) ∧ OrdP b c n o ∧ Below W.heap.size W w') := Lib.hid fun W => compare_va b c W fun t _ W => right_va t W
  have HAC : Hid (∀ W, Calls Tryz.prog 6 #[a.v, c.v] W fun e w' => ∃ n o : Int, e = .returned (.tuple #[.int .i64 o, .int .i64 n]) ∧ OrdP a c n o ∧ Below W.heap.size W w') := Lib.hid fun W => compare_va a c W fun t _ W => right_va t W
  have HAW : Hid (∀ W, Calls Tryz.prog 5 #[] W fun e w' => e = .returned (.bool true) ∧ Below W.heap.size W w') := Lib.hid awake_1
  have HTR : Hid (∀ x y z : Int, OrdP a b 0 x → OrdP b c 0 y → OrdP a c 0 z → Trio x y z) := Lib.hid fun _ _ _ h1 h2 h3 => trio_of h1 h2 h3
  obtain ⟨ka, na, qa, sa⟩ := a
  obtain ⟨kb, nb, qb, sb⟩ := b
  obtain ⟨kc, nc, qc, sc⟩ := c
  have RA := ((Row.new w (vaC ka na qa sa) 23).alloc (.cells (vaC kb nb qb sb) 23)).alloc (.cells (vaC kc nc qc sc) 23)
  have RB := (Row.new2 w (.cells (vaC ka na qa sa) 23) (vaC kb nb qb sb) 23).alloc (.cells (vaC kc nc qc sc) 23)
  have RC := Row.new3 w (.cells (vaC ka na qa sa) 23) (.cells (vaC kb nb qb sb) 23) (vaC kc nc qc sc) 23
  go_enter Tryz.func3, Tryz.ntmps3
  go_wp2_with fail
  generalize hw : ((w.alloc (.cells (vaC ka na qa sa) 23)).alloc (.cells (vaC kb nb qb sb) 23)).alloc (.cells (vaC kc nc qc sc) 23) = W0 at *
  have B0 : Hid (Below w.heap.size w W0) := by show Below _ _ _; rw [← hw]; go_grown
  clear hw
  obtain ⟨a0, a1, a2, a3⟩ := RA.four
  obtain ⟨b0, b1, b2, b3⟩ := RB.four
  obtain ⟨c0, c1, c2, c3⟩ := RC.four
  go_wp2_with (first
    | (go_at_call 4; (with_reducible refine (HRA.out _).mono ?_); rintro e w1 ⟨r, rfl, _, hb⟩; have RA := RA.keep hb; have RB := RB.keep hb; have RC := RC.keep hb; have B0 := Lib.hid (bl_then B0.out hb); clear hb; obtain ⟨a0, a1, a2, a3⟩ := RA.four; obtain ⟨b0, b1, b2, b3⟩ := RB.four; obtain ⟨c0, c1, c2, c3⟩ := RC.four; cases r)
    | (go_at_call 4; (with_reducible refine (HRB.out _).mono ?_); rintro e w1 ⟨r, rfl, _, hb⟩; have RA := RA.keep hb; have RB := RB.keep hb; have RC := RC.keep hb; have B0 := Lib.hid (bl_then B0.out hb); clear hb; obtain ⟨a0, a1, a2, a3⟩ := RA.four; obtain ⟨b0, b1, b2, b3⟩ := RB.four; obtain ⟨c0, c1, c2, c3⟩ := RC.four; cases r)
    | (go_at_call 4; (with_reducible refine (HRC.out _).mono ?_); rintro e w1 ⟨r, rfl, _, hb⟩; have RA := RA.keep hb; have RB := RB.keep hb; have RC := RC.keep hb; have B0 := Lib.hid (bl_then B0.out hb); clear hb; obtain ⟨a0, a1, a2, a3⟩ := RA.four; obtain ⟨b0, b1, b2, b3⟩ := RB.four; obtain ⟨c0, c1, c2, c3⟩ := RC.four; cases r)
    | (go_at_call 6; (with_reducible refine (HAB.out _).mono ?_); rintro e w1 ⟨n1, o1, rfl, h1, hb⟩; have H1 := Lib.hid h1; clear h1; have RA := RA.keep hb; have RB := RB.keep hb; have RC := RC.keep hb; have B0 := Lib.hid (bl_then B0.out hb); clear hb; obtain ⟨a0, a1, a2, a3⟩ := RA.four; obtain ⟨b0, b1, b2, b3⟩ := RB.four; obtain ⟨c0, c1, c2, c3⟩ := RC.four)
    | (go_at_call 6; (with_reducible refine (HBC.out _).mono ?_); rintro e w1 ⟨n2, o2, rfl, h2, hb⟩; have H2 := Lib.hid h2; clear h2; have RA := RA.keep hb; have RB := RB.keep hb; have RC := RC.keep hb; have B0 := Lib.hid (bl_then B0.out hb); clear hb; obtain ⟨a0, a1, a2, a3⟩ := RA.four; obtain ⟨b0, b1, b2, b3⟩ := RB.four; obtain ⟨c0, c1, c2, c3⟩ := RC.four)
    | (go_at_call 6; (with_reducible refine (HAC.out _).mono ?_); rintro e w1 ⟨n3, o3, rfl, h3, hb⟩; have H3 := Lib.hid h3; clear h3; have RA := RA.keep hb; have RB := RB.keep hb; have RC := RC.keep hb; have B0 := Lib.hid (bl_then B0.out hb); clear hb; obtain ⟨a0, a1, a2, a3⟩ := RA.four; obtain ⟨b0, b1, b2, b3⟩ := RB.four; obtain ⟨c0, c1, c2, c3⟩ := RC.four; obtain hE | ⟨hE, hF⟩ | ⟨hE, hF, hG⟩ | ⟨hE, hF, hG⟩ := four_ways n1 n2 n3; (have e1 : (n1 != 0) = true := bne_iff_ne.2 hE); (have e2 : (n1 == 0) = false := beq_eq_false_iff_ne.2 hE))
    | (go_at_call 5; (with_reducible refine (HAW.out _).mono ?_); rintro e w1 ⟨rfl, hb⟩; have B0 := Lib.hid (bl_then B0.out hb); clear hb))
  all_goals first
    | (go_ret; exact ⟨rfl, B0.out⟩)
    | (exfalso
       have k1 := H1.out
       have k2 := H2.out
       have k3 := H3.out
       rw [hE] at k1
       rw [hF] at k2
       rw [hG] at k3
       have T := HTR.out _ _ _ k1 k2 k3
       unfold Trio at T
       simp at *
       omega)
end Go.Proofs.YtfoegnddlaemgaaGreatDoor
