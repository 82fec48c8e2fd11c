/- The law DigitDivided, where it does not ask; for any two values and any type. -/
import Derived.Test.YtafhboppojeafaaGreatDoorDivLaw
import Derived.Test.YtafhboppojeafaaGreatDoorGoodHas
namespace Go.Proofs.YtafhboppojeafaaGreatDoor
open Go.RowKit

set_option maxRecDepth 100000 in
set_option maxHeartbeats 8000000 in
theorem div_out (ba bb bv bna bnb : Bool) (ka na qa : Int) (sa : ByteArray) (kb nb qb : Int) (sb : ByteArray) (k p q n : Int) (vy : Bool) (pic : ByteArray) (w : World)
    (hra : ∀ W, Calls Tryz.prog 4 #[vaV ka na qa sa] W fun e w' => e = .returned (.bool ba) ∧ Below W.heap.size W w')
    (hrb : ∀ W, Calls Tryz.prog 4 #[vaV kb nb qb sb] W fun e w' => e = .returned (.bool bb) ∧ Below W.heap.size W w')
    (hvt : ∀ W, Calls Tryz.prog 5 #[tyV k p q n vy pic] W fun e w' => e = .returned (.bool bv) ∧ Below W.heap.size W w')
    (hna : ∀ W, Calls Tryz.prog 6 #[.int .i64 ka] W fun e w' => e = .returned (.bool bna) ∧ W = w')
    (hnb : ∀ W, Calls Tryz.prog 6 #[.int .i64 kb] W fun e w' => e = .returned (.bool bnb) ∧ W = w')
    (hout : ¬ (ba = true ∧ bb = true ∧ bv = true ∧ (k = 1 ∨ k = 2) ∧ bna = true ∧ bnb = true ∧ nb ≠ 0)) :
    Calls Tryz.prog 3 #[vaV ka na qa sa, vaV kb nb qb sb, tyV k p q n vy pic] w fun e w' => e = .returned (.bool true) ∧ Below w.heap.size w w' := by
  have HRA := Lib.hid hra
  have HRB := Lib.hid hrb
  have HVT := Lib.hid hvt
  have HNA := Lib.hid hna
  have HNB := Lib.hid hnb
  have HO := Lib.hid hout
  have HAW : Hid (∀ W, Calls Tryz.prog 7 #[] W fun e w' => e = .returned (.bool true) ∧ Below W.heap.size W w') := Lib.hid awake_1
  clear hra hrb hvt hna hnb hout
  have RA := ((Row.new w (vaC ka na qa sa) 23).alloc (.cells (vaC kb nb qb sb) 23)).alloc (.cells #[.int .i64 k, .int .i64 p, .int .i64 q, .int .i64 n, .bool vy, .string pic] 25)
  have RB := (Row.new2 w (.cells (vaC ka na qa sa) 23) (vaC kb nb qb sb) 23).alloc (.cells #[.int .i64 k, .int .i64 p, .int .i64 q, .int .i64 n, .bool vy, .string pic] 25)
  have RT := Row.new3 w (.cells (vaC ka na qa sa) 23) (.cells (vaC kb nb qb sb) 23) #[.int .i64 k, .int .i64 p, .int .i64 q, .int .i64 n, .bool vy, .string pic] 25
  cases ba
  · go_enter Tryz.func3, Tryz.ntmps3
    go_wp2_with fail
    generalize hw : ((w.alloc (.cells (vaC ka na qa sa) 23)).alloc (.cells (vaC kb nb qb sb) 23)).alloc (.cells #[.int .i64 k, .int .i64 p, .int .i64 q, .int .i64 n, .bool vy, .string pic] 25) = W1 at *
    have B0 : Hid (Below w.heap.size w W1) := by show Below _ _ _; rw [← hw]; go_grown
    clear hw
    obtain ⟨a0, a1, a2, a3⟩ := RA.four
    obtain ⟨b0, b1, b2, b3⟩ := RB.four
    obtain ⟨t0, t1, t2, t3, t4, t5⟩ := RT.six
    go_wp2_with (first
      | (go_at_call 4; (with_reducible refine (HRA.out _).mono ?_); rintro e w1 ⟨rfl, hb⟩; have RA := RA.keep hb; have RB := RB.keep hb; have RT := RT.keep hb; have B0 := Lib.hid (bl_then B0.out hb); clear hb; obtain ⟨a0, a1, a2, a3⟩ := RA.four; obtain ⟨b0, b1, b2, b3⟩ := RB.four; obtain ⟨t0, t1, t2, t3, t4, t5⟩ := RT.six)
      | (go_at_call 4; (with_reducible refine (HRB.out _).mono ?_); rintro e w1 ⟨rfl, hb⟩; have RA := RA.keep hb; have RB := RB.keep hb; have RT := RT.keep hb; have B0 := Lib.hid (bl_then B0.out hb); clear hb; obtain ⟨a0, a1, a2, a3⟩ := RA.four; obtain ⟨b0, b1, b2, b3⟩ := RB.four; obtain ⟨t0, t1, t2, t3, t4, t5⟩ := RT.six)
      | (go_at_call 5; (with_reducible refine (HVT.out _).mono ?_); rintro e w1 ⟨rfl, hb⟩; have RA := RA.keep hb; have RB := RB.keep hb; have RT := RT.keep hb; have B0 := Lib.hid (bl_then B0.out hb); clear hb; obtain ⟨a0, a1, a2, a3⟩ := RA.four; obtain ⟨b0, b1, b2, b3⟩ := RB.four; obtain ⟨t0, t1, t2, t3, t4, t5⟩ := RT.six)
      | (go_at_call 6; (with_reducible refine (HNA.out _).mono ?_); rintro e w1 ⟨rfl, rfl⟩)
      | (go_at_call 6; (with_reducible refine (HNB.out _).mono ?_); rintro e w1 ⟨rfl, rfl⟩)
      | (go_at_call 7; (with_reducible refine (HAW.out _).mono ?_); rintro e w9 ⟨rfl, hb⟩; have B9 := Lib.hid (bl_then B0.out hb); clear hb))
    go_ret
    exact ⟨rfl, B9.out⟩
  cases bb
  · go_enter Tryz.func3, Tryz.ntmps3
    go_wp2_with fail
    generalize hw : ((w.alloc (.cells (vaC ka na qa sa) 23)).alloc (.cells (vaC kb nb qb sb) 23)).alloc (.cells #[.int .i64 k, .int .i64 p, .int .i64 q, .int .i64 n, .bool vy, .string pic] 25) = W1 at *
    have B0 : Hid (Below w.heap.size w W1) := by show Below _ _ _; rw [← hw]; go_grown
    clear hw
    obtain ⟨a0, a1, a2, a3⟩ := RA.four
    obtain ⟨b0, b1, b2, b3⟩ := RB.four
    obtain ⟨t0, t1, t2, t3, t4, t5⟩ := RT.six
    go_wp2_with (first
      | (go_at_call 4; (with_reducible refine (HRA.out _).mono ?_); rintro e w1 ⟨rfl, hb⟩; have RA := RA.keep hb; have RB := RB.keep hb; have RT := RT.keep hb; have B0 := Lib.hid (bl_then B0.out hb); clear hb; obtain ⟨a0, a1, a2, a3⟩ := RA.four; obtain ⟨b0, b1, b2, b3⟩ := RB.four; obtain ⟨t0, t1, t2, t3, t4, t5⟩ := RT.six)
      | (go_at_call 4; (with_reducible refine (HRB.out _).mono ?_); rintro e w1 ⟨rfl, hb⟩; have RA := RA.keep hb; have RB := RB.keep hb; have RT := RT.keep hb; have B0 := Lib.hid (bl_then B0.out hb); clear hb; obtain ⟨a0, a1, a2, a3⟩ := RA.four; obtain ⟨b0, b1, b2, b3⟩ := RB.four; obtain ⟨t0, t1, t2, t3, t4, t5⟩ := RT.six)
      | (go_at_call 5; (with_reducible refine (HVT.out _).mono ?_); rintro e w1 ⟨rfl, hb⟩; have RA := RA.keep hb; have RB := RB.keep hb; have RT := RT.keep hb; have B0 := Lib.hid (bl_then B0.out hb); clear hb; obtain ⟨a0, a1, a2, a3⟩ := RA.four; obtain ⟨b0, b1, b2, b3⟩ := RB.four; obtain ⟨t0, t1, t2, t3, t4, t5⟩ := RT.six)
      | (go_at_call 6; (with_reducible refine (HNA.out _).mono ?_); rintro e w1 ⟨rfl, rfl⟩)
      | (go_at_call 6; (with_reducible refine (HNB.out _).mono ?_); rintro e w1 ⟨rfl, rfl⟩)
      | (go_at_call 7; (with_reducible refine (HAW.out _).mono ?_); rintro e w9 ⟨rfl, hb⟩; have B9 := Lib.hid (bl_then B0.out hb); clear hb))
    go_ret
    exact ⟨rfl, B9.out⟩
  cases bv
  · go_enter Tryz.func3, Tryz.ntmps3
    go_wp2_with fail
    generalize hw : ((w.alloc (.cells (vaC ka na qa sa) 23)).alloc (.cells (vaC kb nb qb sb) 23)).alloc (.cells #[.int .i64 k, .int .i64 p, .int .i64 q, .int .i64 n, .bool vy, .string pic] 25) = W1 at *
    have B0 : Hid (Below w.heap.size w W1) := by show Below _ _ _; rw [← hw]; go_grown
    clear hw
    obtain ⟨a0, a1, a2, a3⟩ := RA.four
    obtain ⟨b0, b1, b2, b3⟩ := RB.four
    obtain ⟨t0, t1, t2, t3, t4, t5⟩ := RT.six
    go_wp2_with (first
      | (go_at_call 4; (with_reducible refine (HRA.out _).mono ?_); rintro e w1 ⟨rfl, hb⟩; have RA := RA.keep hb; have RB := RB.keep hb; have RT := RT.keep hb; have B0 := Lib.hid (bl_then B0.out hb); clear hb; obtain ⟨a0, a1, a2, a3⟩ := RA.four; obtain ⟨b0, b1, b2, b3⟩ := RB.four; obtain ⟨t0, t1, t2, t3, t4, t5⟩ := RT.six)
      | (go_at_call 4; (with_reducible refine (HRB.out _).mono ?_); rintro e w1 ⟨rfl, hb⟩; have RA := RA.keep hb; have RB := RB.keep hb; have RT := RT.keep hb; have B0 := Lib.hid (bl_then B0.out hb); clear hb; obtain ⟨a0, a1, a2, a3⟩ := RA.four; obtain ⟨b0, b1, b2, b3⟩ := RB.four; obtain ⟨t0, t1, t2, t3, t4, t5⟩ := RT.six)
      | (go_at_call 5; (with_reducible refine (HVT.out _).mono ?_); rintro e w1 ⟨rfl, hb⟩; have RA := RA.keep hb; have RB := RB.keep hb; have RT := RT.keep hb; have B0 := Lib.hid (bl_then B0.out hb); clear hb; obtain ⟨a0, a1, a2, a3⟩ := RA.four; obtain ⟨b0, b1, b2, b3⟩ := RB.four; obtain ⟨t0, t1, t2, t3, t4, t5⟩ := RT.six)
      | (go_at_call 6; (with_reducible refine (HNA.out _).mono ?_); rintro e w1 ⟨rfl, rfl⟩)
      | (go_at_call 6; (with_reducible refine (HNB.out _).mono ?_); rintro e w1 ⟨rfl, rfl⟩)
      | (go_at_call 7; (with_reducible refine (HAW.out _).mono ?_); rintro e w9 ⟨rfl, hb⟩; have B9 := Lib.hid (bl_then B0.out hb); clear hb))
    go_ret
    exact ⟨rfl, B9.out⟩
  by_cases hk : k = 1 ∨ k = 2
  · have hd1 : ((k != 1) = true ∧ (k != 2) = false) ∨ (k != 1) = false := by rcases hk with rfl | rfl; exact .inr (by decide); exact .inl ⟨by decide, by decide⟩
    have HK := Lib.hid hk
    clear hk
    rcases hd1 with ⟨e1, e2⟩ | e1
    all_goals
      cases bna
      · go_enter Tryz.func3, Tryz.ntmps3
        go_wp2_with fail
        generalize hw : ((w.alloc (.cells (vaC ka na qa sa) 23)).alloc (.cells (vaC kb nb qb sb) 23)).alloc (.cells #[.int .i64 k, .int .i64 p, .int .i64 q, .int .i64 n, .bool vy, .string pic] 25) = W1 at *
        have B0 : Hid (Below w.heap.size w W1) := by show Below _ _ _; rw [← hw]; go_grown
        clear hw
        obtain ⟨a0, a1, a2, a3⟩ := RA.four
        obtain ⟨b0, b1, b2, b3⟩ := RB.four
        obtain ⟨t0, t1, t2, t3, t4, t5⟩ := RT.six
        go_wp2_with (first
          | (go_at_call 4; (with_reducible refine (HRA.out _).mono ?_); rintro e w1 ⟨rfl, hb⟩; have RA := RA.keep hb; have RB := RB.keep hb; have RT := RT.keep hb; have B0 := Lib.hid (bl_then B0.out hb); clear hb; obtain ⟨a0, a1, a2, a3⟩ := RA.four; obtain ⟨b0, b1, b2, b3⟩ := RB.four; obtain ⟨t0, t1, t2, t3, t4, t5⟩ := RT.six)
          | (go_at_call 4; (with_reducible refine (HRB.out _).mono ?_); rintro e w1 ⟨rfl, hb⟩; have RA := RA.keep hb; have RB := RB.keep hb; have RT := RT.keep hb; have B0 := Lib.hid (bl_then B0.out hb); clear hb; obtain ⟨a0, a1, a2, a3⟩ := RA.four; obtain ⟨b0, b1, b2, b3⟩ := RB.four; obtain ⟨t0, t1, t2, t3, t4, t5⟩ := RT.six)
          | (go_at_call 5; (with_reducible refine (HVT.out _).mono ?_); rintro e w1 ⟨rfl, hb⟩; have RA := RA.keep hb; have RB := RB.keep hb; have RT := RT.keep hb; have B0 := Lib.hid (bl_then B0.out hb); clear hb; obtain ⟨a0, a1, a2, a3⟩ := RA.four; obtain ⟨b0, b1, b2, b3⟩ := RB.four; obtain ⟨t0, t1, t2, t3, t4, t5⟩ := RT.six)
          | (go_at_call 6; (with_reducible refine (HNA.out _).mono ?_); rintro e w1 ⟨rfl, rfl⟩)
          | (go_at_call 6; (with_reducible refine (HNB.out _).mono ?_); rintro e w1 ⟨rfl, rfl⟩)
          | (go_at_call 7; (with_reducible refine (HAW.out _).mono ?_); rintro e w9 ⟨rfl, hb⟩; have B9 := Lib.hid (bl_then B0.out hb); clear hb))
        go_ret
        exact ⟨rfl, B9.out⟩
      cases bnb
      · go_enter Tryz.func3, Tryz.ntmps3
        go_wp2_with fail
        generalize hw : ((w.alloc (.cells (vaC ka na qa sa) 23)).alloc (.cells (vaC kb nb qb sb) 23)).alloc (.cells #[.int .i64 k, .int .i64 p, .int .i64 q, .int .i64 n, .bool vy, .string pic] 25) = W1 at *
        have B0 : Hid (Below w.heap.size w W1) := by show Below _ _ _; rw [← hw]; go_grown
        clear hw
        obtain ⟨a0, a1, a2, a3⟩ := RA.four
        obtain ⟨b0, b1, b2, b3⟩ := RB.four
        obtain ⟨t0, t1, t2, t3, t4, t5⟩ := RT.six
        go_wp2_with (first
          | (go_at_call 4; (with_reducible refine (HRA.out _).mono ?_); rintro e w1 ⟨rfl, hb⟩; have RA := RA.keep hb; have RB := RB.keep hb; have RT := RT.keep hb; have B0 := Lib.hid (bl_then B0.out hb); clear hb; obtain ⟨a0, a1, a2, a3⟩ := RA.four; obtain ⟨b0, b1, b2, b3⟩ := RB.four; obtain ⟨t0, t1, t2, t3, t4, t5⟩ := RT.six)
          | (go_at_call 4; (with_reducible refine (HRB.out _).mono ?_); rintro e w1 ⟨rfl, hb⟩; have RA := RA.keep hb; have RB := RB.keep hb; have RT := RT.keep hb; have B0 := Lib.hid (bl_then B0.out hb); clear hb; obtain ⟨a0, a1, a2, a3⟩ := RA.four; obtain ⟨b0, b1, b2, b3⟩ := RB.four; obtain ⟨t0, t1, t2, t3, t4, t5⟩ := RT.six)
          | (go_at_call 5; (with_reducible refine (HVT.out _).mono ?_); rintro e w1 ⟨rfl, hb⟩; have RA := RA.keep hb; have RB := RB.keep hb; have RT := RT.keep hb; have B0 := Lib.hid (bl_then B0.out hb); clear hb; obtain ⟨a0, a1, a2, a3⟩ := RA.four; obtain ⟨b0, b1, b2, b3⟩ := RB.four; obtain ⟨t0, t1, t2, t3, t4, t5⟩ := RT.six)
          | (go_at_call 6; (with_reducible refine (HNA.out _).mono ?_); rintro e w1 ⟨rfl, rfl⟩)
          | (go_at_call 6; (with_reducible refine (HNB.out _).mono ?_); rintro e w1 ⟨rfl, rfl⟩)
          | (go_at_call 7; (with_reducible refine (HAW.out _).mono ?_); rintro e w9 ⟨rfl, hb⟩; have B9 := Lib.hid (bl_then B0.out hb); clear hb))
        go_ret
        exact ⟨rfl, B9.out⟩
      by_cases hn : nb = 0
      · have hn0 : (nb == 0) = true := by simpa using hn
        clear hn
        go_enter Tryz.func3, Tryz.ntmps3
        go_wp2_with fail
        generalize hw : ((w.alloc (.cells (vaC ka na qa sa) 23)).alloc (.cells (vaC kb nb qb sb) 23)).alloc (.cells #[.int .i64 k, .int .i64 p, .int .i64 q, .int .i64 n, .bool vy, .string pic] 25) = W1 at *
        have B0 : Hid (Below w.heap.size w W1) := by show Below _ _ _; rw [← hw]; go_grown
        clear hw
        obtain ⟨a0, a1, a2, a3⟩ := RA.four
        obtain ⟨b0, b1, b2, b3⟩ := RB.four
        obtain ⟨t0, t1, t2, t3, t4, t5⟩ := RT.six
        go_wp2_with (first
          | (go_at_call 4; (with_reducible refine (HRA.out _).mono ?_); rintro e w1 ⟨rfl, hb⟩; have RA := RA.keep hb; have RB := RB.keep hb; have RT := RT.keep hb; have B0 := Lib.hid (bl_then B0.out hb); clear hb; obtain ⟨a0, a1, a2, a3⟩ := RA.four; obtain ⟨b0, b1, b2, b3⟩ := RB.four; obtain ⟨t0, t1, t2, t3, t4, t5⟩ := RT.six)
          | (go_at_call 4; (with_reducible refine (HRB.out _).mono ?_); rintro e w1 ⟨rfl, hb⟩; have RA := RA.keep hb; have RB := RB.keep hb; have RT := RT.keep hb; have B0 := Lib.hid (bl_then B0.out hb); clear hb; obtain ⟨a0, a1, a2, a3⟩ := RA.four; obtain ⟨b0, b1, b2, b3⟩ := RB.four; obtain ⟨t0, t1, t2, t3, t4, t5⟩ := RT.six)
          | (go_at_call 5; (with_reducible refine (HVT.out _).mono ?_); rintro e w1 ⟨rfl, hb⟩; have RA := RA.keep hb; have RB := RB.keep hb; have RT := RT.keep hb; have B0 := Lib.hid (bl_then B0.out hb); clear hb; obtain ⟨a0, a1, a2, a3⟩ := RA.four; obtain ⟨b0, b1, b2, b3⟩ := RB.four; obtain ⟨t0, t1, t2, t3, t4, t5⟩ := RT.six)
          | (go_at_call 6; (with_reducible refine (HNA.out _).mono ?_); rintro e w1 ⟨rfl, rfl⟩)
          | (go_at_call 6; (with_reducible refine (HNB.out _).mono ?_); rintro e w1 ⟨rfl, rfl⟩)
          | (go_at_call 7; (with_reducible refine (HAW.out _).mono ?_); rintro e w9 ⟨rfl, hb⟩; have B9 := Lib.hid (bl_then B0.out hb); clear hb))
        go_ret
        exact ⟨rfl, B9.out⟩
      · exact absurd ⟨rfl, rfl, rfl, HK.out, rfl, rfl, hn⟩ HO.out
  · have e1 : (k != 1) = true := by rw [bne_iff_ne]; intro e; exact hk (.inl e)
    have e2 : (k != 2) = true := by rw [bne_iff_ne]; intro e; exact hk (.inr e)
    clear hk
    go_enter Tryz.func3, Tryz.ntmps3
    go_wp2_with fail
    generalize hw : ((w.alloc (.cells (vaC ka na qa sa) 23)).alloc (.cells (vaC kb nb qb sb) 23)).alloc (.cells #[.int .i64 k, .int .i64 p, .int .i64 q, .int .i64 n, .bool vy, .string pic] 25) = W1 at *
    have B0 : Hid (Below w.heap.size w W1) := by show Below _ _ _; rw [← hw]; go_grown
    clear hw
    obtain ⟨a0, a1, a2, a3⟩ := RA.four
    obtain ⟨b0, b1, b2, b3⟩ := RB.four
    obtain ⟨t0, t1, t2, t3, t4, t5⟩ := RT.six
    go_wp2_with (first
      | (go_at_call 4; (with_reducible refine (HRA.out _).mono ?_); rintro e w1 ⟨rfl, hb⟩; have RA := RA.keep hb; have RB := RB.keep hb; have RT := RT.keep hb; have B0 := Lib.hid (bl_then B0.out hb); clear hb; obtain ⟨a0, a1, a2, a3⟩ := RA.four; obtain ⟨b0, b1, b2, b3⟩ := RB.four; obtain ⟨t0, t1, t2, t3, t4, t5⟩ := RT.six)
      | (go_at_call 4; (with_reducible refine (HRB.out _).mono ?_); rintro e w1 ⟨rfl, hb⟩; have RA := RA.keep hb; have RB := RB.keep hb; have RT := RT.keep hb; have B0 := Lib.hid (bl_then B0.out hb); clear hb; obtain ⟨a0, a1, a2, a3⟩ := RA.four; obtain ⟨b0, b1, b2, b3⟩ := RB.four; obtain ⟨t0, t1, t2, t3, t4, t5⟩ := RT.six)
      | (go_at_call 5; (with_reducible refine (HVT.out _).mono ?_); rintro e w1 ⟨rfl, hb⟩; have RA := RA.keep hb; have RB := RB.keep hb; have RT := RT.keep hb; have B0 := Lib.hid (bl_then B0.out hb); clear hb; obtain ⟨a0, a1, a2, a3⟩ := RA.four; obtain ⟨b0, b1, b2, b3⟩ := RB.four; obtain ⟨t0, t1, t2, t3, t4, t5⟩ := RT.six)
      | (go_at_call 6; (with_reducible refine (HNA.out _).mono ?_); rintro e w1 ⟨rfl, rfl⟩)
      | (go_at_call 6; (with_reducible refine (HNB.out _).mono ?_); rintro e w1 ⟨rfl, rfl⟩)
      | (go_at_call 7; (with_reducible refine (HAW.out _).mono ?_); rintro e w9 ⟨rfl, hb⟩; have B9 := Lib.hid (bl_then B0.out hb); clear hb))
    go_ret
    exact ⟨rfl, B9.out⟩

/-- The law DigitDivided, for any two values and any type. -/
theorem divided_va (ka na qa : Int) (sa : ByteArray) (kb nb qb : Int) (sb : ByteArray) (k p q n : Int) (vy : Bool) (pic : ByteArray) (w : World) (hsa : sa.size ≤ maxLen) (hsb : sb.size ≤ maxLen) (hp : pic.size ≤ maxLen) :
    Calls Tryz.prog 3 #[vaV ka na qa sa, vaV kb nb qb sb, tyV k p q n vy pic] w fun e w' => e = .returned (.bool true) ∧ Below w.heap.size w w' := by
  obtain ⟨ba, hba⟩ : ∃ b : Bool, b = true ↔ GoodP ka na qa sa := (by by_cases h : GoodP ka na qa sa; exact ⟨true, by simp [h]⟩; exact ⟨false, by simp [h]⟩)
  obtain ⟨bb, hbb⟩ : ∃ b : Bool, b = true ↔ GoodP kb nb qb sb := (by by_cases h : GoodP kb nb qb sb; exact ⟨true, by simp [h]⟩; exact ⟨false, by simp [h]⟩)
  by_cases hin : ba = true ∧ bb = true ∧ validS k p q n vy pic = true ∧ (k = 1 ∨ k = 2) ∧ (decide (1 ≤ ka) && decide (ka ≤ 3)) = true ∧ (decide (1 ≤ kb) && decide (kb ≤ 3)) = true ∧ nb ≠ 0
  · obtain ⟨h1, h2, h3, h4, h5, h6, h7⟩ := hin
    have ga := hba.1 h1
    have gb := hbb.1 h2
    have num : ∀ (k n q : Int) (s : ByteArray), (decide (1 ≤ k) && decide (k ≤ 3)) = true → (Va.mk k n q s).number := by
      intro k n q s h
      simp only [Bool.and_eq_true, decide_eq_true_eq] at h
      show k = 1 ∨ k = 2 ∨ k = 3
      omega
    rcases h4 with rfl | rfl
    · obtain ⟨⟨p1, p2⟩, ⟨q1, q2⟩, rfl, rfl, rfl⟩ := valid_1_of h3
      obtain ⟨P, rfl⟩ := Int.eq_ofNat_of_zero_le (show 0 ≤ p by omega)
      obtain ⟨Q, rfl⟩ := Int.eq_ofNat_of_zero_le q1
      exact div_in (.inl ⟨rfl, rfl, by omega, by omega⟩) (by omega) ka na qa sa kb nb qb sb w hsa hsb ga gb (num _ _ _ _ h5) (num _ _ _ _ h6) h7 h3
    · obtain ⟨⟨p1, p2⟩, ⟨q1, q2⟩, rfl, rfl, rfl⟩ := valid_2_of h3
      obtain ⟨P, rfl⟩ := Int.eq_ofNat_of_zero_le (show 0 ≤ p by omega)
      obtain ⟨Q, rfl⟩ := Int.eq_ofNat_of_zero_le q1
      exact div_in (.inr ⟨rfl, rfl, by omega, by omega⟩) (by omega) ka na qa sa kb nb qb sb w hsa hsb ga gb (num _ _ _ _ h5) (num _ _ _ _ h6) h7 h3
  · exact div_out ba bb (validS k p q n vy pic) _ _ ka na qa sa kb nb qb sb k p q n vy pic w
      (fun W => (gRef ka na qa sa W hsa).mono fun e w' ⟨r, he, hr, hb⟩ => ⟨he.trans (ret_bool (Bool.eq_iff_iff.2 (hr.trans hba.symm))), hb⟩)
      (fun W => (gRef kb nb qb sb W hsb).mono fun e w' ⟨r, he, hr, hb⟩ => ⟨he.trans (ret_bool (Bool.eq_iff_iff.2 (hr.trans hbb.symm))), hb⟩)
      (fun W => refValid_any k p q n vy pic W hp) (fun W => numeric_any ka W) (fun W => numeric_any kb W) hin
end Go.Proofs.YtafhboppojeafaaGreatDoor
