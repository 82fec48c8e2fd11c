/- The document's Fit. -/
import Derived.Test.YtljbkpnfjgnhnaaDoorBitRTrim
import Derived.Test.YtljbkpnfjgnhnaaDoorBitCmp2
namespace Go.Proofs.YtljbkpnfjgnhnaaDoor
open Go.RowKit

theorem getF_take (k : Int) (l : List UInt8) (n i : Nat) (hi : i < n) (hn : n ≤ l.length) : getF k (l.take n) i = getF k l i := by
  rw [getF_lt (by rw [List.length_take]; omega), getF_lt (by omega), List.getElem_take]
theorem fit_cut_v {k : Int} {s : ByteArray} {n : Nat} (h : n < s.size) : s.extract 0 n = bsz (fitL k s.data.toList n true) := by
  rw [ext_take, fitL, if_pos rfl, lsz, Nat.min_eq_right (Nat.le_of_lt h), fit_take _ _ _ (by rw [lsz]; omega)]
theorem fit_cut_f {k : Int} {s : ByteArray} {n : Nat} (h : n < s.size) : bsz (tellL n (getF k (s.extract 0 n).data.toList)) = bsz (fitL k s.data.toList n false) := by
  have e : (s.extract 0 n).data.toList = s.data.toList.take n := by rw [ext_take]
  rw [e]
  show _ = bsz (tellL n (getF k s.data.toList))
  rw [tellL_congr (fun i hi => getF_take k s.data.toList n i hi (by rw [lsz]; omega))]
theorem fit_no_v {k : Int} {s : ByteArray} {n : Nat} (h : ¬ n < s.size) : s = bsz (fitL k s.data.toList n true) := by
  rw [fitL, if_pos rfl, lsz, Nat.min_eq_left (by omega), ← lsz s, fit_self]

set_option maxRecDepth 100000 in
set_option maxHeartbeats 8000000 in
theorem rFit_any (a : Vl) (k p q n : Int) (vy : Bool) (pic : ByteArray) (w : World) (hs : a.s.size ≤ maxLen) :
    Calls Tryd.prog 7 #[a.v, tyV k p q n vy pic] w fun e w' => e = .returned (.tuple #[orV (fitE a k p q n pic.data.toList) a.k (fitL a.k a.s.data.toList n.toNat vy), .int .i64 (orI (fitE a k p q n pic.data.toList) (fitC a.s.data.toList n.toNat)), .int .i64 (fitE a k p q n pic.data.toList)]) ∧ Below w.heap.size w w' := by
  have RA := ((Row.new w (vlC a.k a.n a.q a.s) 23).alloc (.cells (tyC k p q n vy pic) 25)).alloc (.cells (vlC 0 0 0 ⟨#[]⟩) 23)
  have RT := (Row.new2 w (.cells (vlC a.k a.n a.q a.s) 23) (tyC k p q n vy pic) 25).alloc (.cells (vlC 0 0 0 ⟨#[]⟩) 23)
  have RZ := Row.new3 w (.cells (vlC a.k a.n a.q a.s) 23) (.cells (tyC k p q n vy pic) 25) (vlC 0 0 0 ⟨#[]⟩) 23
  have HS := Lib.hid hs
  clear hs
  cases ho : a.ok with
  | false =>
    have e : fitE a k p q n pic.data.toList = 1 := by unfold fitE; rw [ho]; split <;> rfl
    have HO : Hid (okV a.k a.n a.q a.s.data.toList = false) := Lib.hid ho
    rw [e]
    clear e ho
    show Calls _ _ _ _ fun e w' => e = .returned (.tuple #[vlV 0 0 0 ⟨#[]⟩, .int .i64 0, .int .i64 1]) ∧ Below w.heap.size w w'
    go_enter Tryd.func7, Tryd.ntmps7
    go_wp2_with (first
      | (go_at_call 9; refine (rValid_b false _ _ _ _ _ HS.out HO.out).mono ?_; rintro e w1 ⟨rfl, hb1⟩; have B1 := Lib.hid (bl_box3 (Below.refl _ w) hb1); have Z1 := RZ.keep hb1; have A1 := RA.keep hb1; have T1 := RT.keep hb1; obtain ⟨t0, t1, t2, t3, t4, t5⟩ := T1.sixT; obtain ⟨z0, z1, z2, z3⟩ := Z1.four; have f0 := Z1.free 0; have f1 := Z1.free 1; have f2 := Z1.free 2; have f3 := Z1.free 3; clear hb1))
    refine bodyPost_ret (v := .tuple #[vlV 0 0 0 ⟨#[]⟩, .int .i64 0, .int .i64 1]) (by simp [results, Tryd.results7, go_sem, z0, z1, z2, z3]) rfl ⟨rfl, ?_⟩
    (repeat refine Below.setCell ?_ (by simp <;> omega) _)
    exact B1.out
  | true =>
    have HO : Hid (okV a.k a.n a.q a.s.data.toList = true) := Lib.hid ho
    cases hy : okY k p q n pic.data.toList with
    | false =>
      have e : fitE a k p q n pic.data.toList = 1 := by rw [fitE, hy]; rfl
      have HY := Lib.hid hy
      rw [e]
      clear e ho hy
      show Calls _ _ _ _ fun e w' => e = .returned (.tuple #[vlV 0 0 0 ⟨#[]⟩, .int .i64 0, .int .i64 1]) ∧ Below w.heap.size w w'
      go_enter Tryd.func7, Tryd.ntmps7
      go_wp2_with (first
        | (go_at_call 9; refine (rValid_b true _ _ _ _ _ HS.out HO.out).mono ?_; rintro e w1 ⟨rfl, hb1⟩; have B1 := Lib.hid (bl_box3 (Below.refl _ w) hb1); have Z1 := RZ.keep hb1; have A1 := RA.keep hb1; have T1 := RT.keep hb1; obtain ⟨t0, t1, t2, t3, t4, t5⟩ := T1.sixT; clear hb1)
        | (go_at_call 11; refine (rValidType_any _ _ _ _ _ _ _).mono ?_; rw [HY.out]; rintro e w2 ⟨rfl, hb2⟩; have B2 := Lib.hid (bl_then B1.out hb2); have Z2 := Z1.keep hb2; have A2 := A1.keep hb2; have T2 := T1.keep hb2; obtain ⟨x0, x1, x2, x3⟩ := A2.four; obtain ⟨t0, t1, t2, t3, t4, t5⟩ := T2.sixT; have xf := A2.free 3; obtain ⟨z0, z1, z2, z3⟩ := Z2.four; have f0 := Z2.free 0; have f1 := Z2.free 1; have f2 := Z2.free 2; have f3 := Z2.free 3; have lz := Z2.lt; clear hb2))
      refine bodyPost_ret (v := .tuple #[vlV 0 0 0 ⟨#[]⟩, .int .i64 0, .int .i64 1]) (by simp [results, Tryd.results7, go_sem, z0, z1, z2, z3]) rfl ⟨rfl, ?_⟩
      (repeat refine Below.setCell ?_ (by simp <;> omega) _)
      exact B2.out
    | true =>
      have HY := Lib.hid hy
      by_cases hk : a.k = k
      · have hik : a.is k = true := by rw [Vl.is, hk]; simp
        have e : fitE a k p q n pic.data.toList = 0 := by rw [fitE, hy, ho, hik]; rfl
        rw [e]
        have la := vl_room2 a ho
        obtain ⟨h1, h2, _⟩ := okV_eq ho
        obtain ⟨y1, y2⟩ := okY_len hy
        obtain ⟨N, rfl⟩ := Int.eq_ofNat_of_zero_le y1
        rw [show ((N : Int)).toNat = N from rfl]
        obtain ⟨ka, na, qa, sa⟩ := a
        obtain rfl : ka = k := hk
        obtain rfl : na = 0 := h1
        obtain rfl : qa = 0 := h2
        have la' : sa.size ≤ 250 := la
        clear e ho hy hik la
        by_cases hc : N < sa.size
        · cases vy
          · have d1 : decide ((N : Int) < sa.size) = true := by simp only [decide_eq_true_eq]; omega
            have d2 : decide (N < sa.size) = true := decide_eq_true hc
            have i1 : (N : Int) < sa.size := by omega
            have i2 : (N : Int) ≤ sa.size := by omega
            have HX : Hid ((bsz (tellL N (getF ka (sa.extract 0 N).data.toList))) = bsz (fitL ka sa.data.toList N false)) := Lib.hid (fit_cut_f hc)
            have HC : Hid (fitC sa.data.toList N = 6) := Lib.hid (by unfold fitC; rw [lsz, if_pos hc])
            have hz : (sa.extract 0 N).size ≤ 100000 := by simp; omega
            show Calls _ _ _ _ fun e w' => e = .returned (.tuple #[vlV ka 0 0 (bsz (fitL ka sa.data.toList N false)), .int .i64 (fitC sa.data.toList N), .int .i64 0]) ∧ Below w.heap.size w w'
            rw [← HX.out, HC.out]
            clear hc
            go_enter Tryd.func7, Tryd.ntmps7
            go_wp2_with (first
              | (go_at_call 9; refine (rValid_b true _ _ _ _ _ HS.out HO.out).mono ?_; rintro e w1 ⟨rfl, hb1⟩; have B1 := Lib.hid (bl_box3 (Below.refl _ w) hb1); have Z1 := RZ.keep hb1; have A1 := RA.keep hb1; have T1 := RT.keep hb1; obtain ⟨t0, t1, t2, t3, t4, t5⟩ := T1.sixT; clear hb1)
              | (go_at_call 11; refine (rValidType_any _ _ _ _ _ _ _).mono ?_; rw [HY.out]; rintro e w2 ⟨rfl, hb2⟩; have B2 := Lib.hid (bl_then B1.out hb2); have Z2 := Z1.keep hb2; have A2 := A1.keep hb2; have T2 := T1.keep hb2; obtain ⟨x0, x1, x2, x3⟩ := A2.four; obtain ⟨t0, t1, t2, t3, t4, t5⟩ := T2.sixT; have xf := A2.free 3; obtain ⟨z0, z1, z2, z3⟩ := Z2.four; have f0 := Z2.free 0; have f1 := Z2.free 1; have f2 := Z2.free 2; have f3 := Z2.free 3; have lz := Z2.lt; clear hb2)
              | (go_at_call 22; refine (rFilled_any (sa.extract 0 N) ka N _ hz (by omega)).mono ?_; rintro e w4 ⟨rfl, hb4⟩; have A4 : Row w4 w.heap.size #[.int .i64 ka, .int .i64 0, .int .i64 0, .string (sa.extract 0 N)] 23 := (A2.put 3 (.string (sa.extract 0 N))).keep hb4; have Z4 := (Z2.set (a := ⟨w.heap.size, 3, none⟩) (v := .string (sa.extract 0 N)) (by show ¬ w.heap.size = w.heap.size + 1 + 1; omega)).keep hb4; have B4 := Lib.hid (bl_then (B2.out.setCell (p := ⟨w.heap.size, 3, none⟩) (by simp) (.string (sa.extract 0 N))) hb4); obtain ⟨x0, x1, x2, x3⟩ := A4.four; have xf := A4.free 3; obtain ⟨z0, z1, z2, z3⟩ := Z4.four; have f0 := Z4.free 0; have f1 := Z4.free 1; have f2 := Z4.free 2; have f3 := Z4.free 3; have lz := Z4.lt; clear hb4))
            refine bodyPost_ret (v := .tuple #[vlV ka 0 0 (bsz (tellL N (getF ka (sa.extract 0 N).data.toList))), .int .i64 6, .int .i64 0]) (by simp [results, Tryd.results7, go_sem, z0, z1, z2, z3]) rfl ⟨rfl, ?_⟩
            (repeat refine Below.setCell ?_ (by simp <;> omega) _)
            exact B4.out
          · have d1 : decide ((N : Int) < sa.size) = true := by simp only [decide_eq_true_eq]; omega
            have d2 : decide (N < sa.size) = true := decide_eq_true hc
            have i1 : (N : Int) < sa.size := by omega
            have i2 : (N : Int) ≤ sa.size := by omega
            have HX : Hid ((sa.extract 0 N) = bsz (fitL ka sa.data.toList N true)) := Lib.hid (fit_cut_v hc)
            have HC : Hid (fitC sa.data.toList N = 6) := Lib.hid (by unfold fitC; rw [lsz, if_pos hc])
            have hz : (sa.extract 0 N).size ≤ 100000 := by simp; omega
            show Calls _ _ _ _ fun e w' => e = .returned (.tuple #[vlV ka 0 0 (bsz (fitL ka sa.data.toList N true)), .int .i64 (fitC sa.data.toList N), .int .i64 0]) ∧ Below w.heap.size w w'
            rw [← HX.out, HC.out]
            clear hc
            go_enter Tryd.func7, Tryd.ntmps7
            go_wp2_with (first
              | (go_at_call 9; refine (rValid_b true _ _ _ _ _ HS.out HO.out).mono ?_; rintro e w1 ⟨rfl, hb1⟩; have B1 := Lib.hid (bl_box3 (Below.refl _ w) hb1); have Z1 := RZ.keep hb1; have A1 := RA.keep hb1; have T1 := RT.keep hb1; obtain ⟨t0, t1, t2, t3, t4, t5⟩ := T1.sixT; clear hb1)
              | (go_at_call 11; refine (rValidType_any _ _ _ _ _ _ _).mono ?_; rw [HY.out]; rintro e w2 ⟨rfl, hb2⟩; have B2 := Lib.hid (bl_then B1.out hb2); have Z2 := Z1.keep hb2; have A2 := A1.keep hb2; have T2 := T1.keep hb2; obtain ⟨x0, x1, x2, x3⟩ := A2.four; obtain ⟨t0, t1, t2, t3, t4, t5⟩ := T2.sixT; have xf := A2.free 3; obtain ⟨z0, z1, z2, z3⟩ := Z2.four; have f0 := Z2.free 0; have f1 := Z2.free 1; have f2 := Z2.free 2; have f3 := Z2.free 3; have lz := Z2.lt; clear hb2))
            refine bodyPost_ret (v := .tuple #[vlV ka 0 0 (sa.extract 0 N), .int .i64 6, .int .i64 0]) (by simp [results, Tryd.results7, go_sem, z0, z1, z2, z3]) rfl ⟨rfl, ?_⟩
            (repeat refine Below.setCell ?_ (by simp <;> omega) _)
            exact B2.out
        · cases vy
          · have d1 : decide ((N : Int) < sa.size) = false := by simp only [decide_eq_false_iff_not]; omega
            have d2 : decide (N < sa.size) = false := decide_eq_false hc
            have i1 : (sa.size : Int) ≤ N := by omega
            have HX : Hid ((bsz (tellL N (getF ka sa.data.toList))) = bsz (fitL ka sa.data.toList N false)) := Lib.hid (rfl)
            have HC : Hid (fitC sa.data.toList N = 0) := Lib.hid (by unfold fitC; rw [lsz, if_neg hc])
            have hz : sa.size ≤ 100000 := by omega
            show Calls _ _ _ _ fun e w' => e = .returned (.tuple #[vlV ka 0 0 (bsz (fitL ka sa.data.toList N false)), .int .i64 (fitC sa.data.toList N), .int .i64 0]) ∧ Below w.heap.size w w'
            rw [← HX.out, HC.out]
            clear hc
            go_enter Tryd.func7, Tryd.ntmps7
            go_wp2_with (first
              | (go_at_call 9; refine (rValid_b true _ _ _ _ _ HS.out HO.out).mono ?_; rintro e w1 ⟨rfl, hb1⟩; have B1 := Lib.hid (bl_box3 (Below.refl _ w) hb1); have Z1 := RZ.keep hb1; have A1 := RA.keep hb1; have T1 := RT.keep hb1; obtain ⟨t0, t1, t2, t3, t4, t5⟩ := T1.sixT; clear hb1)
              | (go_at_call 11; refine (rValidType_any _ _ _ _ _ _ _).mono ?_; rw [HY.out]; rintro e w2 ⟨rfl, hb2⟩; have B2 := Lib.hid (bl_then B1.out hb2); have Z2 := Z1.keep hb2; have A2 := A1.keep hb2; have T2 := T1.keep hb2; obtain ⟨x0, x1, x2, x3⟩ := A2.four; obtain ⟨t0, t1, t2, t3, t4, t5⟩ := T2.sixT; have xf := A2.free 3; obtain ⟨z0, z1, z2, z3⟩ := Z2.four; have f0 := Z2.free 0; have f1 := Z2.free 1; have f2 := Z2.free 2; have f3 := Z2.free 3; have lz := Z2.lt; clear hb2)
              | (go_at_call 22; refine (rFilled_any sa ka N _ hz (by omega)).mono ?_; rintro e w4 ⟨rfl, hb4⟩; have A4 : Row w4 w.heap.size #[.int .i64 ka, .int .i64 0, .int .i64 0, .string sa] 23 := A2.keep hb4; have Z4 := Z2.keep hb4; have B4 := Lib.hid (bl_then B2.out hb4); obtain ⟨x0, x1, x2, x3⟩ := A4.four; have xf := A4.free 3; obtain ⟨z0, z1, z2, z3⟩ := Z4.four; have f0 := Z4.free 0; have f1 := Z4.free 1; have f2 := Z4.free 2; have f3 := Z4.free 3; have lz := Z4.lt; clear hb4))
            refine bodyPost_ret (v := .tuple #[vlV ka 0 0 (bsz (tellL N (getF ka sa.data.toList))), .int .i64 0, .int .i64 0]) (by simp [results, Tryd.results7, go_sem, z0, z1, z2, z3]) rfl ⟨rfl, ?_⟩
            (repeat refine Below.setCell ?_ (by simp <;> omega) _)
            exact B4.out
          · have d1 : decide ((N : Int) < sa.size) = false := by simp only [decide_eq_false_iff_not]; omega
            have d2 : decide (N < sa.size) = false := decide_eq_false hc
            have i1 : (sa.size : Int) ≤ N := by omega
            have HX : Hid (sa = bsz (fitL ka sa.data.toList N true)) := Lib.hid (fit_no_v hc)
            have HC : Hid (fitC sa.data.toList N = 0) := Lib.hid (by unfold fitC; rw [lsz, if_neg hc])
            have hz : sa.size ≤ 100000 := by omega
            show Calls _ _ _ _ fun e w' => e = .returned (.tuple #[vlV ka 0 0 (bsz (fitL ka sa.data.toList N true)), .int .i64 (fitC sa.data.toList N), .int .i64 0]) ∧ Below w.heap.size w w'
            rw [← HX.out, HC.out]
            clear hc
            go_enter Tryd.func7, Tryd.ntmps7
            go_wp2_with (first
              | (go_at_call 9; refine (rValid_b true _ _ _ _ _ HS.out HO.out).mono ?_; rintro e w1 ⟨rfl, hb1⟩; have B1 := Lib.hid (bl_box3 (Below.refl _ w) hb1); have Z1 := RZ.keep hb1; have A1 := RA.keep hb1; have T1 := RT.keep hb1; obtain ⟨t0, t1, t2, t3, t4, t5⟩ := T1.sixT; clear hb1)
              | (go_at_call 11; refine (rValidType_any _ _ _ _ _ _ _).mono ?_; rw [HY.out]; rintro e w2 ⟨rfl, hb2⟩; have B2 := Lib.hid (bl_then B1.out hb2); have Z2 := Z1.keep hb2; have A2 := A1.keep hb2; have T2 := T1.keep hb2; obtain ⟨x0, x1, x2, x3⟩ := A2.four; obtain ⟨t0, t1, t2, t3, t4, t5⟩ := T2.sixT; have xf := A2.free 3; obtain ⟨z0, z1, z2, z3⟩ := Z2.four; have f0 := Z2.free 0; have f1 := Z2.free 1; have f2 := Z2.free 2; have f3 := Z2.free 3; have lz := Z2.lt; clear hb2))
            refine bodyPost_ret (v := .tuple #[vlV ka 0 0 sa, .int .i64 0, .int .i64 0]) (by simp [results, Tryd.results7, go_sem, z0, z1, z2, z3]) rfl ⟨rfl, ?_⟩
            (repeat refine Below.setCell ?_ (by simp <;> omega) _)
            exact B2.out
      · have hik : a.is k = false := by rw [Vl.is]; simpa using hk
        have e : fitE a k p q n pic.data.toList = 10 := by rw [fitE, hy, ho, hik]; rfl
        have e1 : (a.k != k) = true := by simpa using hk
        have e2 : (a.k == k) = false := by simpa using hk
        rw [e]
        clear e ho hy hik hk
        show Calls _ _ _ _ fun e w' => e = .returned (.tuple #[vlV 0 0 0 ⟨#[]⟩, .int .i64 0, .int .i64 10]) ∧ Below w.heap.size w w'
        go_enter Tryd.func7, Tryd.ntmps7
        go_wp2_with (first
          | (go_at_call 9; refine (rValid_b true _ _ _ _ _ HS.out HO.out).mono ?_; rintro e w1 ⟨rfl, hb1⟩; have B1 := Lib.hid (bl_box3 (Below.refl _ w) hb1); have Z1 := RZ.keep hb1; have A1 := RA.keep hb1; have T1 := RT.keep hb1; obtain ⟨t0, t1, t2, t3, t4, t5⟩ := T1.sixT; clear hb1)
          | (go_at_call 11; refine (rValidType_any _ _ _ _ _ _ _).mono ?_; rw [HY.out]; rintro e w2 ⟨rfl, hb2⟩; have B2 := Lib.hid (bl_then B1.out hb2); have Z2 := Z1.keep hb2; have A2 := A1.keep hb2; have T2 := T1.keep hb2; obtain ⟨x0, x1, x2, x3⟩ := A2.four; obtain ⟨t0, t1, t2, t3, t4, t5⟩ := T2.sixT; have xf := A2.free 3; obtain ⟨z0, z1, z2, z3⟩ := Z2.four; have f0 := Z2.free 0; have f1 := Z2.free 1; have f2 := Z2.free 2; have f3 := Z2.free 3; have lz := Z2.lt; clear hb2))
        refine bodyPost_ret (v := .tuple #[vlV 0 0 0 ⟨#[]⟩, .int .i64 0, .int .i64 10]) (by simp [results, Tryd.results7, go_sem, z0, z1, z2, z3]) rfl ⟨rfl, ?_⟩
        (repeat refine Below.setCell ?_ (by simp <;> omega) _)
        exact B2.out
end Go.Proofs.YtljbkpnfjgnhnaaDoor
