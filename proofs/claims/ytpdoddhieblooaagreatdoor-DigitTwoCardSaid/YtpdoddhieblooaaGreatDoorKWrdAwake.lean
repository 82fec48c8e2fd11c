/- digit.Text of fixed decimal numbers. The law's sanity check: ironbarklaw01.awake. -/
import Derived.Test.YtpdoddhieblooaaGreatDoorKWrdTextD
import Derived.Test.YtpdoddhieblooaaGreatDoorKTwoLaw
import Derived.Test.YtpdoddhieblooaaGreatDoorKWrdCompare
import Derived.Test.YtpdoddhieblooaaGreatDoorKFtErrT
namespace Go.Proofs.YtpdoddhieblooaaGreatDoor
open Go.RowKit

theorem digs_15 {n : Int} (h : -1000000000000000 < n ∧ n < 1000000000000000) : (digs n.natAbs).length ≤ 15 := digs_length _ _ (by omega)
set_option maxRecDepth 100000 in
set_option maxHeartbeats 2000000 in
theorem textDec_d (n : Int) (q : Nat) (s : ByteArray) (w : World) (h : -1000000000000000 < n ∧ n < 1000000000000000) (lq : q ≤ 100000) :
   Calls Tryz.prog 85 #[vaV 2 n (q : Int) s] w fun e w' => e = .returned (.string (bsz (fixT n q))) ∧ Below w.heap.size w w' := by
 have HLO : Hid (∀ W, Calls Tryz.prog 121 #[.int .i64 n] W (GivesL W n)) := Lib.hid fun W => longOf_l n W (by omega) (by omega)
 have HTF : Hid (∀ (B : Nat) (v : Value) (W : World), LArg B W v n → Calls Tryz.prog 124 #[v, .int .i64 (q : Int)] W fun e w' => e = .returned (.string (bsz (fixT n q))) ∧ Below W.heap.size W w') := Lib.hid fun B v W hL =>
   textFixed_d hL (Nat.le_trans (wrds_length n.natAbs 2 (by omega)) (by decide)) (Nat.le_trans (digs_15 h) (by decide)) lq
 have RA := Row.new w (vaC 2 n q s) 23
 obtain ⟨T, hT⟩ : ∃ T, bsz (fixT n q) = T := ⟨_, rfl⟩
 rw [hT] at HTF ⊢
 clear h lq hT
 go_enter Tryz.func85, Tryz.ntmps85
 go_wp2_with fail
 generalize hw : w.alloc (.cells (vaC 2 n q s) 23) = W at *
 have B0 : Hid (Below w.heap.size w W) := by show Below _ _ _; rw [← hw]; go_grown
 clear hw
 obtain ⟨x0, x1, x2, x3⟩ := RA.four
 go_region_held3 (fun w' => w'.cell? ⟨w.heap.size, 1, none⟩ = some (.int .i64 n) ∧ w'.cell? ⟨w.heap.size, 2, none⟩ = some (.int .i64 (q : Int)))
   (first | go_keep | exact ⟨R3.four.2.1, R3.four.2.2.1⟩ | exact ⟨R2.four.2.1, R2.four.2.2.1⟩ | ((try dsimp only); (repeat' apply And.intro) <;> go_keep))
   (first
     | (go_at_call 121; (with_reducible refine (HLO.out _).mono ?_); rintro e w2 ⟨v2, rfl, L2, hb2⟩; have R2 := RA.keep (bl_drew hb2); have B2 := Lib.hid (bl_then B0.out (bl_drew hb2)); have L2' := Lib.hid L2; obtain ⟨p2, k2, rfl⟩ := L2.open; clear L2)
     | (go_at_call 124; (with_reducible refine (HTF.out _ _ _ L2'.out).mono ?_); rintro e w3 ⟨rfl, hb3⟩; have R3 := R2.keep hb3; have B3 := Lib.hid (bl_then B2.out hb3)))
 go_wp2
 go_ret
 exact ⟨rfl, B3.out⟩
set_option maxRecDepth 100000 in
set_option maxHeartbeats 2000000 in
theorem text1_2 (n : Int) (q bv bt : Nat) (T : ByteArray) (w : World) (RV : Row w bv (vaC 2 n q emp) 23) (RT : Row w bt #[.string ⟨#[]⟩] 9) (hne : bt ≠ bv) (hY : ∀ W, Calls Tryz.prog 46 #[vaV 2 n q emp] W (YesD W))
   (hT : ∀ W, Calls Tryz.prog 85 #[vaV 2 n (q : Int) emp] W fun e w' => e = .returned (.string T) ∧ Below W.heap.size W w') :
   Calls Tryz.prog 42 #[ptD bv, ptD bt] w fun e w' => e = .returned (.tuple #[]) ∧ ∃ w1, Below w.heap.size w w1 ∧ w' = w1.setCell ⟨bt, 0, none⟩ (.string T) := by
 have q6 := fld_6
 have hcf : ∀ (args : Array Value) (W : World), (callFunc 85 args).run Tryz.prog W = .ok (.enter 85 args) W := fun _ _ => by kernel_rfl
 have HDR : Hid (∀ t ∈ [Va.mk 2 n q emp], ∀ W : World, Calls Tryz.prog 46 #[t.v] W (YesD W)) := Lib.hid fun t ht W => by
   rw [List.mem_singleton.1 ht]; exact hY W
 have HT := Lib.hid hT
 clear hY hT
 have n1 : ¬ bt = bv := hne
 have n2 : ¬ bv = bt := fun h => hne h.symm
 have RN := Row.new w #[.int .i64 2, .int .i64 n, .int .i64 (q : Int), .string emp] 23
 have HVA : Hid (VasAt (w.alloc (.cells #[.int .i64 2, .int .i64 n, .int .i64 (q : Int), .string emp] 23)) w.heap.size 0 [Va.mk 2 n q emp]) := Lib.hid (by
   intro i hi j v hv
   obtain rfl : i = 0 := by simp at hi; omega
   rcases j with _ | _ | _ | _ | j
   · exact (RN.at 0).trans hv
   · exact (RN.at 1).trans hv
   · exact (RN.at 2).trans hv
   · exact (RN.at 3).trans hv
   · simp at hv)
 have HNL := Lib.hid RN.lt
 obtain ⟨x0, x1, x2, x3⟩ := RV.four
 have lv := RV.lt
 have lt := RT.lt
 go_enter Tryz.func42, Tryz.ntmps42
 go_wp2_with (first
   | (go_at_call 21; refine (demRight_yes [⟨2, n, q, emp⟩] _ 0 _ _ HVA.out (by simp) HNL.out HDR.out).mono ?_; rintro e w1 ⟨rfl, hb1⟩; have HB1 := Lib.hid (bl_box (Below.refl _ w) hb1); clear hb1; obtain ⟨t0, t1, t2, t3⟩ := (RV.keep HB1.out).four)
   | (go_at_call 43; refine (demNum_2 _ _ _ _).mono ?_; rintro e W ⟨rfl, hb2⟩; have HB2 := Lib.hid (bl_then HB1.out hb2); clear hb2))
 have RV := RV.keep HB2.out
 have RT := RT.keep HB2.out
 clear x0 x1 x2 x3 t0 t1 t2 t3 RN HVA HNL HDR
 obtain ⟨x0, x1, x2, x3⟩ := RV.four
 go_region_held3 (fun w' => w'.cell? ⟨bv, 0, none⟩ = some (.int .i64 2) ∧ w'.cell? ⟨bv, 1, none⟩ = some (.int .i64 n) ∧ w'.cell? ⟨bv, 2, none⟩ = some (.int .i64 (q : Int)) ∧ w'.cell? ⟨bv, 3, none⟩ = some (.string emp))
   (first | go_keep | exact V4.four | exact V3.four | ((try dsimp only); (repeat' apply And.intro) <;> go_keep))
   (first
     | (go_at_call 44; refine (rules_2 _).mono ?_; rintro e w3 ⟨rfl, hb3⟩; have V3 := RV.keep (bl_drew hb3); have T3 := RT.keep (bl_drew hb3); have B3 := Lib.hid (bl_then HB2.out (bl_drew hb3)))
     | (go_at_call 85; (refine (HT.out _).mono ?_); rintro e w4 ⟨rfl, hb4⟩; have V4 := V3.keep hb4; have T4 := T3.keep hb4; have B4 := Lib.hid (bl_then B3.out hb4); have c4 := T4.one; have f4 := T4.free 0))
 all_goals go_wp2
 all_goals go_end0
 all_goals exact ⟨rfl, w4, B4.out, rfl⟩
theorem text_guard (n : Int) (q : Nat) (T : ByteArray) (w : World) (hY : ∀ W, Calls Tryz.prog 46 #[vaV 2 n q emp] W (YesD W)) (hT : ∀ W, Calls Tryz.prog 85 #[vaV 2 n (q : Int) emp] W fun e w' => e = .returned (.string T) ∧ Below W.heap.size W w') :
   Calls Tryz.prog 19 #[.func (.func 42) #[] #[ptD w.heap.size, ptD (w.heap.size + 1)]]
     ((w.alloc (.cells (vaC 2 n q emp) 23)).alloc (.cells #[.string ⟨#[]⟩] 9))
     fun e w' => e = .returned (.int .i64 0) ∧ Row w' (w.heap.size + 1) #[.string T] 9 ∧ Below w.heap.size w w' := by
 have hcf : ∀ (cap : Array Value) (W : World), (callFunc 42 cap).run Tryz.prog W = .ok (.enter 42 cap) W := fun cap W => enters_of Tryz.func42 (by kernel_rfl) rfl cap W
 have RV := ((Row.new w (vaC 2 n q emp) 23).alloc (.cells #[.string ⟨#[]⟩] 9)).alloc (.cells #[.int .i64 0] 28)
 have RT := (Row.new2 w (.cells (vaC 2 n q emp) 23) #[.string ⟨#[]⟩] 9).alloc (.cells #[.int .i64 0] 28)
 have RG := Row.new ((w.alloc (.cells (vaC 2 n q emp) 23)).alloc (.cells #[.string ⟨#[]⟩] 9)) #[.int .i64 0] 28
 have hs : ((w.alloc (.cells (vaC 2 n q emp) 23)).alloc (.cells #[.string ⟨#[]⟩] 9)).heap.size = w.heap.size + 1 + 1 := by simp
 have hB : Below w.heap.size w (((w.alloc (.cells (vaC 2 n q emp) 23)).alloc (.cells #[.string ⟨#[]⟩] 9)).alloc (.cells #[.int .i64 0] 28)) := by go_grown
 refine (guard_ok (R := fun w' => Row w' (w.heap.size + 1) #[.string T] 9 ∧ Below w.heap.size w w') _ _ _ (hcf _) ?_).mono ?_
 · refine (text1_2 n q _ _ T _ RV RT (by omega) hY hT).mono ?_
   rintro e w' ⟨rfl, w1, hb, rfl⟩
   refine ⟨rfl, ?_, ?_, (RT.keep hb).putw 0 _, (bl_then hB hb).setCell (by simp <;> omega) _⟩
   · exact ((RG.keep hb).set (by rw [hs]; simp <;> omega)).one
   · exact ((RG.keep hb).set (by rw [hs]; simp <;> omega)).free 0
 · rintro e w' ⟨rfl, w1, ⟨hrow, hb⟩, rfl⟩
   exact ⟨rfl, hrow.set (by rw [hs]; simp <;> omega), hb.setCell (by rw [hs]; simp <;> omega) _⟩
set_option maxRecDepth 100000 in
set_option maxHeartbeats 400000 in
theorem text_2 (n : Int) (q : Nat) (w : World) (h : -1000000000000000 < n ∧ n < 1000000000000000) (hq : q ≤ 31) :
   Calls Tryz.prog 18 #[vaV 2 n q emp] w fun e w' => e = .returned (.tuple #[.string (bsz (fixT n q)), .int .i64 0]) ∧ Below w.heap.size w w' := by
 have hmf : ∀ (fn : Fn) (first cap : Array Value) (w : World), (Instr.makeFunc fn first cap).run Tryz.prog w = .ok (.func fn first cap) w := fun _ _ _ _ => rfl
 have HG := Lib.hid (text_guard n q (bsz (fixT n q)) w (fun W => right_2_yes n q W h (by omega)) (fun W => textDec_d n q emp W h (by omega)))
 obtain ⟨T, hT⟩ : ∃ T, bsz (fixT n q) = T := ⟨_, rfl⟩
 rw [hT] at HG ⊢
 clear h hq hT
 go_enter Tryz.func18, Tryz.ntmps18
 go_wp2_with (go_at_call 19; refine HG.out.mono ?_; rintro e w' ⟨rfl, hrow, hb⟩; have HB := Lib.hid hb; clear hb; have c0 := hrow.one; have f0 := hrow.free 0)
 refine bodyPost_ret (v := .tuple #[.string T, .int .i64 0]) (by simp [results, Tryz.results18, go_sem, c0]) rfl ⟨rfl, HB.out.setCell (by simp <;> omega) _⟩
end Go.Proofs.YtpdoddhieblooaaGreatDoor
namespace Go.Proofs.YtpdoddhieblooaaGreatDoor
open Go.RowKit

theorem third_text : fixT 33333333333333 14 = [48, 46, 51, 51, 51, 51, 51, 51, 51, 51, 51, 51, 51, 51, 51, 51] := by
 have h : decT 33333333333333 = List.replicate 14 51 := by
   simp [decT, digs]
 unfold fixT
 rw [show (33333333333333 : Int).natAbs = 33333333333333 from rfl, h]
 decide
set_option maxRecDepth 100000 in
set_option maxHeartbeats 2000000 in
theorem awake_1 (w : World) : Calls Tryz.prog 5 #[] w fun e w' => e = .returned (.bool true) ∧ Below w.heap.size w w' := by
 have HD : Hid (∀ W, Calls Tryz.prog 14 #[vaV 2 1 0 emp, vaV 2 3 0 emp, .agg #[.int .i64 2, .int .i64 15, .int .i64 14, .int .i64 0, .bool false, .string emp]] W fun e w' => e = .returned (.tuple #[vaV 2 33333333333333 14 emp, .int .i64 0, .int .i64 0]) ∧ Below W.heap.size W w') := Lib.hid third
 have HT : Hid (∀ W, Calls Tryz.prog 18 #[vaV 2 33333333333333 14 emp] W fun e w' => e = .returned (.tuple #[.string ⟨#[48, 46, 51, 51, 51, 51, 51, 51, 51, 51, 51, 51, 51, 51, 51, 51]⟩, .int .i64 0]) ∧ Below W.heap.size W w') := Lib.hid fun W => by
   have := text_2 33333333333333 14 W (by decide) (by decide)
   rw [third_text] at this
   exact this
 go_enter Tryz.func5, Tryz.ntmps5
 go_wp2_with (first
   | (go_at_call 14; (refine (HD.out _).mono ?_); rintro e w1 ⟨rfl, hb1⟩)
   | (go_at_call 18; (refine (HT.out _).mono ?_); rintro e w2 ⟨rfl, hb2⟩))
 go_ret
 exact ⟨rfl, bl_box hb1 hb2⟩
end Go.Proofs.YtpdoddhieblooaaGreatDoor
