/- ironbarkref01.Modulo by zero; Add, Subtract, Multiply, Divide out of Do. ironbarkref01.Do of two right numbers: times and over. ironbarkref01.Do of two right numbers: minus. ironbarkref01.Compare, told exactly. -/
import Derived.Test.YtpdoddhieblooaaGreatDoorKFtMod
import Derived.Test.YtpdoddhieblooaaGreatDoorKFtGives
import Derived.Test.YtpdoddhieblooaaGreatDoorKFtOrder
import Derived.Test.YtpdoddhieblooaaGreatDoorKFtAsk
namespace Go.Proofs.YtpdoddhieblooaaGreatDoor
open Go.RowKit
set_option maxRecDepth 100000 in
set_option maxHeartbeats 8000000 in
theorem modulo_zero {a b : Va} {k : Int} {P q : Nat} (hT : NumT k P q) (ra : a.right) (rb : b.right) (ka : a.number) (kb : b.number) (_la : (digs a.num.natAbs).length ≤ 120) (_lb : (digs b.num.natAbs).length ≤ 120) (_da : (digs a.den).length ≤ 120) (_db : (digs b.den).length ≤ 120) (hAS : ∀ (c cap : Nat) (W : World), VasAt W c 0 [a, b] → c < W.heap.size → Calls Tryz.prog 34 #[.slice (some ⟨c, 0, none⟩) 2 cap, tyV k (P : Int) (q : Int) 0 false ⟨#[]⟩] W fun e w' => e = .returned (.int .i64 0) ∧ Below W.heap.size W w') (hb0 : b.num.natAbs = 0) (w : World) :
   Calls Tryz.prog 17 #[a.v, b.v, tyV k (P : Int) (q : Int) 0 false ⟨#[]⟩] w fun e w' => e = .returned (.tuple #[valV k 0 (if k = 3 then 0 else (q : Int)) ⟨#[]⟩, .int .i64 9, .int .i64 0]) ∧ Below w.heap.size w w' := by
 obtain ⟨Zq, hZq⟩ : ∃ z : Int, (if k = 3 then 0 else (q : Int)) = z := ⟨_, rfl⟩
 have HZ : Hid (∀ W, Calls Tryz.prog 35 #[tyV k (P : Int) (q : Int) 0 false ⟨#[]⟩] W fun e w' => e = .returned (.tuple #[vaV k 0 Zq ⟨#[]⟩, .int .i64 0]) ∧ Below W.heap.size W w') := Lib.hid fun W => by rw [← hZq]; exact zRef_num hT W
 have hl : ((digs b.num.natAbs).length : Int) = 0 := by rw [hb0, digs_zero]; rfl
 rw [hZq]
 clear hZq hb0
 obtain ⟨an, hA⟩ : ∃ x, a.num.natAbs = x := ⟨_, rfl⟩
 have HOA : Hid (∀ W, Calls Tryz.prog 27 #[a.v] W (GivesG (RArgP (decide (a.n < 0)) a.num.natAbs a.den) W)) := Lib.hid fun W => (of_va a W ra ka).mono fun _ _ h => givesR_G h
 have HOB : Hid (∀ W, Calls Tryz.prog 27 #[b.v] W (GivesG (RArgP (decide (b.n < 0)) b.num.natAbs b.den) W)) := Lib.hid fun W => (of_va b W rb kb).mono fun _ _ h => givesR_G h
 have HAS : Hid (∀ (c cap : Nat) (W : World), VasAt W c 0 [a, b] → c < W.heap.size → Calls Tryz.prog 34 #[.slice (some ⟨c, 0, none⟩) 2 cap, tyV k (P : Int) (q : Int) 0 false ⟨#[]⟩] W fun e w' => e = .returned (.int .i64 0) ∧ Below W.heap.size W w') := Lib.hid hAS
 clear hA
 have RA := ((Row.new w (vaC a.k a.n a.q a.s) 23).alloc (.cells (vaC b.k b.n b.q b.s) 23)).alloc (.cells #[.int .i64 k, .int .i64 (P : Int), .int .i64 (q : Int), .int .i64 0, .bool false, .string ⟨#[]⟩] 25) |>.alloc (.cells (vaC 0 0 0 ⟨#[]⟩) 23)
 have RB := ((Row.new2 w (.cells (vaC a.k a.n a.q a.s) 23) (vaC b.k b.n b.q b.s) 23).alloc (.cells #[.int .i64 k, .int .i64 (P : Int), .int .i64 (q : Int), .int .i64 0, .bool false, .string ⟨#[]⟩] 25)).alloc (.cells (vaC 0 0 0 ⟨#[]⟩) 23)
 have RT := (Row.new3 w (.cells (vaC a.k a.n a.q a.s) 23) (.cells (vaC b.k b.n b.q b.s) 23) #[.int .i64 k, .int .i64 (P : Int), .int .i64 (q : Int), .int .i64 0, .bool false, .string ⟨#[]⟩] 25).alloc (.cells (vaC 0 0 0 ⟨#[]⟩) 23)
 have RZ := row_n3 w (.cells (vaC a.k a.n a.q a.s) 23) (.cells (vaC b.k b.n b.q b.s) 23) (.cells #[.int .i64 k, .int .i64 (P : Int), .int .i64 (q : Int), .int .i64 0, .bool false, .string ⟨#[]⟩] 25) (vaC 0 0 0 ⟨#[]⟩) 23
 go_enter Tryz.func17, Tryz.ntmps17
 go_upto_region 1 with (fail)
 generalize hw : (((w.alloc (.cells (vaC a.k a.n a.q a.s) 23)).alloc (.cells (vaC b.k b.n b.q b.s) 23)).alloc (.cells #[.int .i64 k, .int .i64 (P : Int), .int .i64 (q : Int), .int .i64 0, .bool false, .string ⟨#[]⟩] 25)).alloc (.cells (vaC 0 0 0 ⟨#[]⟩) 23) = W at *
 have B0 : Hid (Below w.heap.size w W) := by show Below _ _ _; rw [← hw]; go_grown
 clear hw
 obtain ⟨a0, a1, a2, a3⟩ := RA.four
 obtain ⟨b0, b1, b2, b3⟩ := RB.four
 obtain ⟨t0, t1, t2, t3, t4, t5⟩ := RT.six
 have RN := Row.new W #[.int .i64 a.k, .int .i64 a.n, .int .i64 a.q, .string a.s, .int .i64 b.k, .int .i64 b.n, .int .i64 b.q, .string b.s] 23
 obtain ⟨y0, y1, y2, y3, y4, y5⟩ := (RT.alloc (.cells #[.int .i64 a.k, .int .i64 a.n, .int .i64 a.q, .string a.s, .int .i64 b.k, .int .i64 b.n, .int .i64 b.q, .string b.s] 23)).six
 go_wp2_with (go_at_call 34; (refine (HAS.out _ _ _ (VasAt.two RN) RN.lt).mono ?_); rintro e W0 ⟨rfl, hb1⟩; have RA := RA.keep (bl_box (Below.refl _ W) hb1); have RB := RB.keep (bl_box (Below.refl _ W) hb1); have RT := RT.keep (bl_box (Below.refl _ W) hb1); have RZ := RZ.keep (bl_box (Below.refl _ W) hb1); have BW := Lib.hid (bl_box B0.out hb1); clear hb1)
 clear a0 a1 a2 a3 b0 b1 b2 b3 t0 t1 t2 t3 t4 t5 y0 y1 y2 y3 y4 y5 RN B0 HAS
 obtain ⟨a0, a1, a2, a3⟩ := RA.four
 obtain ⟨b0, b1, b2, b3⟩ := RB.four
 go_cut [10, 11] (fun s1 s2 wx => TwoR W0 (decide (a.n < 0)) a.num.natAbs a.den (decide (b.n < 0)) b.num.natAbs b.den s1 s2 wx)
 case first =>
   refine wp_region_held_drew (S := fun w' => (w'.cell? ⟨w.heap.size, 0, none⟩ = some (.int .i64 a.k) ∧ w'.cell? ⟨w.heap.size, 1, none⟩ = some (.int .i64 a.n) ∧ w'.cell? ⟨w.heap.size, 2, none⟩ = some (.int .i64 a.q) ∧ w'.cell? ⟨w.heap.size, 3, none⟩ = some (.string a.s)) ∧ (w'.cell? ⟨w.heap.size + 1, 0, none⟩ = some (.int .i64 b.k) ∧ w'.cell? ⟨w.heap.size + 1, 1, none⟩ = some (.int .i64 b.n) ∧ w'.cell? ⟨w.heap.size + 1, 2, none⟩ = some (.int .i64 b.q) ∧ w'.cell? ⟨w.heap.size + 1, 3, none⟩ = some (.string b.s))) (by kernel_rfl) ?_ (fun hHeld => ?_)
   · exact ⟨RA.four, RB.four⟩
   first
     | (refine wpAnyH_take (i := 0) (v := undef) rfl (by kernel_rfl) (by kernel_rfl) (by kernel_rfl) (fun _ _ _ h => h) (Or.inr ⟨by rfl, rfl⟩) (by assumption) ?_)
     | (refine wpAnyH_take (i := 0) (v := ?_) rfl (by kernel_rfl) (by kernel_rfl) (by kernel_rfl) (fun _ _ _ h => h) (Or.inl ⟨by rfl, ?_⟩) (by assumption) ?_; rotate_left; (· intro w hSw; (try dsimp only at hSw); go_simp; (try with_reducible rfl)))
   try simp only [Act.put, List.setIfInBounds_toArray, List.set_cons_zero, List.set_cons_succ, List.getElem_toArray, List.getElem_cons_zero]
   first
     | (refine wpAnyH_take (i := 2) (v := undef) rfl (by kernel_rfl) (by kernel_rfl) (by kernel_rfl) (fun _ _ _ h => h) (Or.inr ⟨by rfl, rfl⟩) (by assumption) ?_)
     | (refine wpAnyH_take (i := 2) (v := ?_) rfl (by kernel_rfl) (by kernel_rfl) (by kernel_rfl) (fun _ _ _ h => h) (Or.inl ⟨by rfl, ?_⟩) (by assumption) ?_; rotate_left; (· intro w hSw; (try dsimp only at hSw); go_simp; (try with_reducible rfl)))
   try simp only [Act.put, List.setIfInBounds_toArray, List.set_cons_zero, List.set_cons_succ, List.getElem_toArray, List.getElem_cons_succ, List.getElem_cons_zero]
   have hK1 : ∀ w1 w2 : World, (w1.cell? ⟨w.heap.size, 0, none⟩ = some (.int .i64 a.k) ∧ w1.cell? ⟨w.heap.size, 1, none⟩ = some (.int .i64 a.n) ∧ w1.cell? ⟨w.heap.size, 2, none⟩ = some (.int .i64 a.q) ∧ w1.cell? ⟨w.heap.size, 3, none⟩ = some (.string a.s)) ∧ (w1.cell? ⟨w.heap.size + 1, 0, none⟩ = some (.int .i64 b.k) ∧ w1.cell? ⟨w.heap.size + 1, 1, none⟩ = some (.int .i64 b.n) ∧ w1.cell? ⟨w.heap.size + 1, 2, none⟩ = some (.int .i64 b.q) ∧ w1.cell? ⟨w.heap.size + 1, 3, none⟩ = some (.string b.s)) → Below w1.heap.size w1 w2 → (w2.cell? ⟨w.heap.size, 0, none⟩ = some (.int .i64 a.k) ∧ w2.cell? ⟨w.heap.size, 1, none⟩ = some (.int .i64 a.n) ∧ w2.cell? ⟨w.heap.size, 2, none⟩ = some (.int .i64 a.q) ∧ w2.cell? ⟨w.heap.size, 3, none⟩ = some (.string a.s)) ∧ (w2.cell? ⟨w.heap.size + 1, 0, none⟩ = some (.int .i64 b.k) ∧ w2.cell? ⟨w.heap.size + 1, 1, none⟩ = some (.int .i64 b.n) ∧ w2.cell? ⟨w.heap.size + 1, 2, none⟩ = some (.int .i64 b.q) ∧ w2.cell? ⟨w.heap.size + 1, 3, none⟩ = some (.string b.s)) := by
     rintro w1 w2 ⟨⟨s0, s1, s2, s3⟩, ⟨s4, s5, s6, s7⟩⟩ hb
     exact ⟨⟨cell_keep s0 hb, cell_keep s1 hb, cell_keep s2 hb, cell_keep s3 hb⟩, ⟨cell_keep s4 hb, cell_keep s5 hb, cell_keep s6 hb, cell_keep s7 hb⟩⟩
   have hB0 : Below W0.heap.size W0 W0.drew := (Below.refl _ W0).drew
   refine any2 (W0 := W0) (cs := #[.bool false, .slice none 0 0, .slice none 0 0]) (t := 52) 26 28 10 11 1 3 4 5 (fun c b1 b2 => #[true, decide (1 ≤ c), true, decide (2 ≤ c), b1, b2, false, false]) (RArgP (decide (a.n < 0)) a.num.natAbs a.den) (RArgP (decide (b.n < 0)) b.num.natAbs b.den) (by decide) (by decide) (by decide) (by decide) (by decide) (by decide) (RArgP.stays _ _ _) (RArgP.stays _ _ _) rfl rfl (by kernel_rfl) hB0 hHeld hK1 ?_
     rfl (fun _ => rfl) rfl (fun _ _ _ _ _ => by kernel_rfl) (fun W _ => HOA.out W) (fun _ _ => rfl)
     rfl (fun _ => rfl) rfl (fun _ _ _ _ _ => by kernel_rfl) (fun W _ => HOB.out W) (fun _ _ => rfl)
     rfl (fun _ => rfl) rfl (fun _ _ => by kernel_rfl) (fun _ _ => rfl)
     rfl (fun _ => rfl) rfl (fun _ _ => by kernel_rfl) (fun _ _ => rfl) ?_ ?_
   · intro c b1 b2 hn hc
     obtain rfl | rfl | rfl : c = 0 ∨ c = 1 ∨ c = 2 := by omega
     all_goals (cases b1 <;> cases b2)
     all_goals first
       | (exfalso; simp at hn; done)
       | kernel_rfl
   · intro c b1 b2 hc hl
     obtain rfl | rfl | rfl : c = 0 ∨ c = 1 ∨ c = 2 := by omega
     all_goals (cases b1 <;> cases b2 <;> simp at hl ⊢)
   intro r1 r2 n1 n2 wz hS hBz m1 m2 d12 X1 X2 g1 g2
   obtain ⟨y1, z1, rfl, D1n, D1d⟩ := g1
   obtain ⟨y2, z2, rfl, D2n, D2d⟩ := g2
   obtain ⟨p1, k1, rfl⟩ := D1n.sliceP
   obtain ⟨p4, k4, rfl⟩ := D1d.sliceP
   obtain ⟨p2, k2, rfl⟩ := D2n.sliceP
   obtain ⟨p5, k5, rfl⟩ := D2d.sliceP
   have RAz := RA.keep hBz
   have RBz := RB.keep hBz
   have lA := RA.lt
   have lB := RB.lt
   have s21 : ¬ n2 = n1 := fun e => d12 e.symm
   have pa1 : ¬ n1 = w.heap.size := by omega
   have pa2 : ¬ n2 = w.heap.size := by omega
   have pb1 : ¬ n1 = w.heap.size + 1 := by omega
   have pb2 : ¬ n2 = w.heap.size + 1 := by omega
   have A1 := RAz.set3 pa1 (.bool (decide (a.n < 0))) (.slice p1 (digs a.num.natAbs).length k1) (.slice p4 (digs a.den).length k4)
   have A2 := A1.set3 pa2 (.bool (decide (b.n < 0))) (.slice p2 (digs b.num.natAbs).length k2) (.slice p5 (digs b.den).length k5)
   have C1 := RBz.set3 pb1 (.bool (decide (a.n < 0))) (.slice p1 (digs a.num.natAbs).length k1) (.slice p4 (digs a.den).length k4)
   have C2 := C1.set3 pb2 (.bool (decide (b.n < 0))) (.slice p2 (digs b.num.natAbs).length k2) (.slice p5 (digs b.den).length k5)
   have Y11 := X1.pute (.bool (decide (a.n < 0))) (.slice p1 (digs a.num.natAbs).length k1) (.slice p4 (digs a.den).length k4)
   have Y21 := X2.set3 d12 (.bool (decide (a.n < 0))) (.slice p1 (digs a.num.natAbs).length k1) (.slice p4 (digs a.den).length k4)
   have Y12 := Y11.set3 s21 (.bool (decide (b.n < 0))) (.slice p2 (digs b.num.natAbs).length k2) (.slice p5 (digs b.den).length k5)
   have Y22 := Y21.pute (.bool (decide (b.n < 0))) (.slice p2 (digs b.num.natAbs).length k2) (.slice p5 (digs b.den).length k5)
   have SC : Same (Free W0.heap.size [some n1, some n2]) wz ((((((wz.setCell ⟨n1, 0, none⟩ (.bool (decide (a.n < 0)))).setCell ⟨n1, 1, none⟩ (.slice p1 (digs a.num.natAbs).length k1)).setCell ⟨n1, 2, none⟩ (.slice p4 (digs a.den).length k4)).setCell ⟨n2, 0, none⟩ (.bool (decide (b.n < 0)))).setCell ⟨n2, 1, none⟩ (.slice p2 (digs b.num.natAbs).length k2)).setCell ⟨n2, 2, none⟩ (.slice p5 (digs b.den).length k5)) :=
     (((((((Same.refl _ wz).set (a := ⟨n1, 0, none⟩) (not_free (by simp)) _).set (a := ⟨n1, 1, none⟩) (not_free (by simp)) _).set (a := ⟨n1, 2, none⟩) (not_free (by simp)) _).set (a := ⟨n2, 0, none⟩) (not_free (by simp)) _).set (a := ⟨n2, 1, none⟩) (not_free (by simp)) _).set (a := ⟨n2, 2, none⟩) (not_free (by simp)) _)
   have BC : Below W0.heap.size W0 ((((((wz.setCell ⟨n1, 0, none⟩ (.bool (decide (a.n < 0)))).setCell ⟨n1, 1, none⟩ (.slice p1 (digs a.num.natAbs).length k1)).setCell ⟨n1, 2, none⟩ (.slice p4 (digs a.den).length k4)).setCell ⟨n2, 0, none⟩ (.bool (decide (b.n < 0)))).setCell ⟨n2, 1, none⟩ (.slice p2 (digs b.num.natAbs).length k2)).setCell ⟨n2, 2, none⟩ (.slice p5 (digs b.den).length k5)) :=
     ((((((hBz.setCell (p := ⟨n1, 0, none⟩) m1 _).setCell (p := ⟨n1, 1, none⟩) m1 _).setCell (p := ⟨n1, 2, none⟩) m1 _).setCell (p := ⟨n2, 0, none⟩) m2 _).setCell (p := ⟨n2, 1, none⟩) m2 _).setCell (p := ⟨n2, 2, none⟩) m2 _)
   obtain ⟨h10, h11, h12⟩ := X1.three3
   have f10 := X1.free 0
   have f11 := X1.free 1
   have f12 := X1.free 2
   obtain ⟨h20, h21, h22⟩ := Y21.three3
   have f20 := Y21.free 0
   have f21 := Y21.free 1
   have f22 := Y21.free 2
   show wpAnyH _ _ _ _ _ 2 _ _ _
   simp only [act2, List.setIfInBounds_toArray, List.set_cons_zero, List.set_cons_succ]
   refine wpAnyH_ready (rs := [6]) (by kernel_rfl) (by simp) ?_
   refine AllReadyH.cons rfl (fun K hK => ?_) AllReadyH.nil
   try simp only [List.getElem_toArray, List.getElem_cons_succ, List.getElem_cons_zero]
   go_simp
   refine hK.out _ _ ⟨A1.four, C1.four⟩ (fun hHeld2 => ?_)
   clear hK K hHeld2
   refine wpAnyH_ready (rs := [7]) (by kernel_rfl) (by simp) ?_
   refine AllReadyH.cons rfl (fun K hK => ?_) AllReadyH.nil
   try simp only [List.getElem_toArray, List.getElem_cons_succ, List.getElem_cons_zero]
   clear h10 h11 h12 f10 f11 f12
   go_simp
   refine hK.out _ _ ⟨A2.four, C2.four⟩ (fun hHeld2 => ?_)
   clear hK K hHeld2
   clear h20 h21 h22 f20 f21 f22 A1 A2 C1 C2 Y11 Y21 RAz RBz X1 X2
   refine wpAnyH_done (by kernel_rfl) ?_ _
   go_wp2_with fail
   go_meet
   exact ⟨n1, n2, p1, k1, p4, k4, p2, k2, p5, k5, rfl, rfl, d12, m1, m2, Y12, Y22, (D1n.same SC).arg (fun _ _ => Nat.zero_le _), (D1d.same SC).arg (fun _ _ => Nat.zero_le _), (D2n.same SC).arg (fun _ _ => Nat.zero_le _), (D2d.same SC).arg (fun _ _ => Nat.zero_le _), BC⟩
 case rest =>
   obtain ⟨w5, rfl⟩ : ∃ w5 : World, w5 = wc := ⟨_, rfl⟩
   obtain ⟨n1, n2, p1, k1, p4, k4, p2, k2, p5, k5, rfl, rfl, d12, m1, m2, X1, X2, E1, E2, E3, E4, BC⟩ := hcut
   have RA5 := RA.keep BC
   have RT5 := RT.keep BC
   have RZ5 := RZ.keep BC
   have BW5 := Lib.hid (bl_then BW.out BC)
   have lT := RT.lt
   have BW7s := BW.out.size
   have lZ := RZ.lt
   have nt1 : ¬ n1 = w.heap.size + 1 + 1 := by omega
   have nt1' : ¬ w.heap.size + 1 + 1 = n1 := by omega
   have nz1 : ¬ n1 = w.heap.size + 1 + 1 + 1 := by omega
   have nz1' : ¬ w.heap.size + 1 + 1 + 1 = n1 := by omega
   have HAX : Hid (RArg 0 w5 (reV (decide (a.n < 0)) (.slice p1 (digs a.num.natAbs).length k1) (.slice p4 (digs a.den).length k4)) (decide (a.n < 0)) a.num.natAbs a.den) := Lib.hid ⟨_, _, rfl, E1, E2⟩
   have HBX : Hid (RArg 0 w5 (reV (decide (b.n < 0)) (.slice p2 (digs b.num.natAbs).length k2) (.slice p5 (digs b.den).length k5)) (decide (b.n < 0)) b.num.natAbs b.den) := Lib.hid ⟨_, _, rfl, E3, E4⟩
   clear E1 E2 E3 E4 BC RA RB RT RZ BW HOA HOB  a0 a1 a2 a3 b0 b1 b2 b3 RA5 _la _lb _da _db ra rb ka kb hT
   obtain ⟨y0, y1, y2⟩ := X2.ex
   obtain ⟨t0, t1, t2, t3, t4, t5⟩ := RT5.six
   go_upto_region 7 with (go_at_call 35; refine (HZ.out _).mono ?_; rintro e w8 ⟨rfl, hb⟩; have RV8 := Row.new w8 (vaC 0 0 0 ⟨#[]⟩) 23; have RV9 := Row.new w8 #[.int .i64 k, .int .i64 0, .int .i64 Zq, .string ⟨#[]⟩] 23; have RZ9 := (RZ5.keep hb).alloc (.cells #[.int .i64 k, .int .i64 0, .int .i64 Zq, .string ⟨#[]⟩] 23); have BW9 := Lib.hid ((bl_then BW5.out hb).alloc (bl_then BW5.out hb).size (.cells #[.int .i64 k, .int .i64 0, .int .i64 Zq, .string ⟨#[]⟩] 23)); have lZ8 := (RZ5.keep hb).lt; obtain ⟨v0, v1, v2, v3⟩ := RV8.four; have g0 := RV8.free 0; have g1 := RV8.free 1; have g2 := RV8.free 2; have g3 := RV8.free 3; clear hb)
   clear v0 v1 v2 v3 g0 g1 g2 g3 RV8
   obtain ⟨v0, v1, v2, v3⟩ := RV9.four
   obtain ⟨z0, z1, z2, z3⟩ := RZ9.four
   have g0 := RZ9.free 0
   have g1 := RZ9.free 1
   have g2 := RZ9.free 2
   have g3 := RZ9.free 3
   clear RV9 RZ9
   generalize w8.alloc (.cells #[.int .i64 k, .int .i64 0, .int .i64 Zq, .string ⟨#[]⟩] 23) = we at *
   iterate 90 (first | go_values | go_skip | go_guarded | go_step | go_upon | go_simp | skip)
   refine bodyPost_ret (v := .tuple #[valV k 0 Zq ⟨#[]⟩, .int .i64 9, .int .i64 0]) (by simp [results, Tryz.results17, go_sem, z0, z1, z2, z3]) rfl ⟨rfl, ?_⟩
   (repeat refine Below.setCell ?_ (by simp <;> omega) _)
   exact BW9.out
set_option maxRecDepth 100000 in
set_option maxHeartbeats 2000000 in
theorem add_ref {a b : Va} {k p q n : Int} {vy : Bool} {pic : ByteArray} {G : Int → Int → Int → Int → Int → Prop} (h : ∀ W, Calls Tryz.prog 30 #[.string ⟨#[43]⟩, a.v, b.v, tyV k p q n vy pic] W (Gives3 G W)) (w : World) :
   Calls Tryz.prog 9 #[a.v, b.v, tyV k p q n vy pic] w (Gives3 G w) := by
 have H := Lib.hid h
 clear h
 have RA := ((Row.new w (vaC a.k a.n a.q a.s) 23).alloc (.cells (vaC b.k b.n b.q b.s) 23)).alloc (.cells #[.int .i64 k, .int .i64 p, .int .i64 q, .int .i64 n, .bool vy, .string pic] 25) |>.alloc (.cells (vaC 0 0 0 ⟨#[]⟩) 23)
 have RB := ((Row.new2 w (.cells (vaC a.k a.n a.q a.s) 23) (vaC b.k b.n b.q b.s) 23).alloc (.cells #[.int .i64 k, .int .i64 p, .int .i64 q, .int .i64 n, .bool vy, .string pic] 25)).alloc (.cells (vaC 0 0 0 ⟨#[]⟩) 23)
 have RT := (Row.new3 w (.cells (vaC a.k a.n a.q a.s) 23) (.cells (vaC b.k b.n b.q b.s) 23) #[.int .i64 k, .int .i64 p, .int .i64 q, .int .i64 n, .bool vy, .string pic] 25).alloc (.cells (vaC 0 0 0 ⟨#[]⟩) 23)
 have RZ := row_n3 w (.cells (vaC a.k a.n a.q a.s) 23) (.cells (vaC b.k b.n b.q b.s) 23) (.cells #[.int .i64 k, .int .i64 p, .int .i64 q, .int .i64 n, .bool vy, .string pic] 25) (vaC 0 0 0 ⟨#[]⟩) 23
 go_enter Tryz.func9, Tryz.ntmps9
 go_upto_region 1 with (fail)
 generalize hw : (((w.alloc (.cells (vaC a.k a.n a.q a.s) 23)).alloc (.cells (vaC b.k b.n b.q b.s) 23)).alloc (.cells #[.int .i64 k, .int .i64 p, .int .i64 q, .int .i64 n, .bool vy, .string pic] 25)).alloc (.cells (vaC 0 0 0 ⟨#[]⟩) 23) = W at *
 have B0 : Hid (Below w.heap.size w W) := by show Below _ _ _; rw [← hw]; go_grown
 clear hw
 obtain ⟨a0, a1, a2, a3⟩ := RA.four
 obtain ⟨b0, b1, b2, b3⟩ := RB.four
 obtain ⟨t0, t1, t2, t3, t4, t5⟩ := RT.six
 go_wp2_with (go_at_call 30; (refine (H.out W).mono ?_); rintro e w1 ⟨k1, N, Q, c, er, ⟨rfl, hb1⟩, hG⟩; have HG := Lib.hid hG; have BW := Lib.hid (bl_then B0.out hb1); obtain ⟨y0, y1, y2, y3⟩ := (RZ.keep hb1).four; have g0 := (RZ.keep hb1).free 0; have g1 := (RZ.keep hb1).free 1; have g2 := (RZ.keep hb1).free 2; have g3 := (RZ.keep hb1).free 3; clear hG hb1)
 refine bodyPost_ret (v := .tuple #[valV k1 N Q ⟨#[]⟩, .int .i64 c, .int .i64 er]) (by simp [results, Tryz.results9, go_sem, y0, y1, y2, y3]) rfl ⟨k1, N, Q, c, er, ⟨rfl, ?_⟩, HG.out⟩
 (repeat refine Below.setCell ?_ (by simp <;> omega) _)
 exact BW.out
set_option maxRecDepth 100000 in
set_option maxHeartbeats 2000000 in
theorem subtract_ref {a b : Va} {k p q n : Int} {vy : Bool} {pic : ByteArray} {G : Int → Int → Int → Int → Int → Prop} (h : ∀ W, Calls Tryz.prog 30 #[.string ⟨#[45]⟩, a.v, b.v, tyV k p q n vy pic] W (Gives3 G W)) (w : World) :
   Calls Tryz.prog 11 #[a.v, b.v, tyV k p q n vy pic] w (Gives3 G w) := by
 have H := Lib.hid h
 clear h
 have RA := ((Row.new w (vaC a.k a.n a.q a.s) 23).alloc (.cells (vaC b.k b.n b.q b.s) 23)).alloc (.cells #[.int .i64 k, .int .i64 p, .int .i64 q, .int .i64 n, .bool vy, .string pic] 25) |>.alloc (.cells (vaC 0 0 0 ⟨#[]⟩) 23)
 have RB := ((Row.new2 w (.cells (vaC a.k a.n a.q a.s) 23) (vaC b.k b.n b.q b.s) 23).alloc (.cells #[.int .i64 k, .int .i64 p, .int .i64 q, .int .i64 n, .bool vy, .string pic] 25)).alloc (.cells (vaC 0 0 0 ⟨#[]⟩) 23)
 have RT := (Row.new3 w (.cells (vaC a.k a.n a.q a.s) 23) (.cells (vaC b.k b.n b.q b.s) 23) #[.int .i64 k, .int .i64 p, .int .i64 q, .int .i64 n, .bool vy, .string pic] 25).alloc (.cells (vaC 0 0 0 ⟨#[]⟩) 23)
 have RZ := row_n3 w (.cells (vaC a.k a.n a.q a.s) 23) (.cells (vaC b.k b.n b.q b.s) 23) (.cells #[.int .i64 k, .int .i64 p, .int .i64 q, .int .i64 n, .bool vy, .string pic] 25) (vaC 0 0 0 ⟨#[]⟩) 23
 go_enter Tryz.func11, Tryz.ntmps11
 go_upto_region 1 with (fail)
 generalize hw : (((w.alloc (.cells (vaC a.k a.n a.q a.s) 23)).alloc (.cells (vaC b.k b.n b.q b.s) 23)).alloc (.cells #[.int .i64 k, .int .i64 p, .int .i64 q, .int .i64 n, .bool vy, .string pic] 25)).alloc (.cells (vaC 0 0 0 ⟨#[]⟩) 23) = W at *
 have B0 : Hid (Below w.heap.size w W) := by show Below _ _ _; rw [← hw]; go_grown
 clear hw
 obtain ⟨a0, a1, a2, a3⟩ := RA.four
 obtain ⟨b0, b1, b2, b3⟩ := RB.four
 obtain ⟨t0, t1, t2, t3, t4, t5⟩ := RT.six
 go_wp2_with (go_at_call 30; (refine (H.out W).mono ?_); rintro e w1 ⟨k1, N, Q, c, er, ⟨rfl, hb1⟩, hG⟩; have HG := Lib.hid hG; have BW := Lib.hid (bl_then B0.out hb1); obtain ⟨y0, y1, y2, y3⟩ := (RZ.keep hb1).four; have g0 := (RZ.keep hb1).free 0; have g1 := (RZ.keep hb1).free 1; have g2 := (RZ.keep hb1).free 2; have g3 := (RZ.keep hb1).free 3; clear hG hb1)
 refine bodyPost_ret (v := .tuple #[valV k1 N Q ⟨#[]⟩, .int .i64 c, .int .i64 er]) (by simp [results, Tryz.results11, go_sem, y0, y1, y2, y3]) rfl ⟨k1, N, Q, c, er, ⟨rfl, ?_⟩, HG.out⟩
 (repeat refine Below.setCell ?_ (by simp <;> omega) _)
 exact BW.out
set_option maxRecDepth 100000 in
set_option maxHeartbeats 2000000 in
theorem multiply_ref {a b : Va} {k p q n : Int} {vy : Bool} {pic : ByteArray} {G : Int → Int → Int → Int → Int → Prop} (h : ∀ W, Calls Tryz.prog 30 #[.string ⟨#[42]⟩, a.v, b.v, tyV k p q n vy pic] W (Gives3 G W)) (w : World) :
   Calls Tryz.prog 13 #[a.v, b.v, tyV k p q n vy pic] w (Gives3 G w) := by
 have H := Lib.hid h
 clear h
 have RA := ((Row.new w (vaC a.k a.n a.q a.s) 23).alloc (.cells (vaC b.k b.n b.q b.s) 23)).alloc (.cells #[.int .i64 k, .int .i64 p, .int .i64 q, .int .i64 n, .bool vy, .string pic] 25) |>.alloc (.cells (vaC 0 0 0 ⟨#[]⟩) 23)
 have RB := ((Row.new2 w (.cells (vaC a.k a.n a.q a.s) 23) (vaC b.k b.n b.q b.s) 23).alloc (.cells #[.int .i64 k, .int .i64 p, .int .i64 q, .int .i64 n, .bool vy, .string pic] 25)).alloc (.cells (vaC 0 0 0 ⟨#[]⟩) 23)
 have RT := (Row.new3 w (.cells (vaC a.k a.n a.q a.s) 23) (.cells (vaC b.k b.n b.q b.s) 23) #[.int .i64 k, .int .i64 p, .int .i64 q, .int .i64 n, .bool vy, .string pic] 25).alloc (.cells (vaC 0 0 0 ⟨#[]⟩) 23)
 have RZ := row_n3 w (.cells (vaC a.k a.n a.q a.s) 23) (.cells (vaC b.k b.n b.q b.s) 23) (.cells #[.int .i64 k, .int .i64 p, .int .i64 q, .int .i64 n, .bool vy, .string pic] 25) (vaC 0 0 0 ⟨#[]⟩) 23
 go_enter Tryz.func13, Tryz.ntmps13
 go_upto_region 1 with (fail)
 generalize hw : (((w.alloc (.cells (vaC a.k a.n a.q a.s) 23)).alloc (.cells (vaC b.k b.n b.q b.s) 23)).alloc (.cells #[.int .i64 k, .int .i64 p, .int .i64 q, .int .i64 n, .bool vy, .string pic] 25)).alloc (.cells (vaC 0 0 0 ⟨#[]⟩) 23) = W at *
 have B0 : Hid (Below w.heap.size w W) := by show Below _ _ _; rw [← hw]; go_grown
 clear hw
 obtain ⟨a0, a1, a2, a3⟩ := RA.four
 obtain ⟨b0, b1, b2, b3⟩ := RB.four
 obtain ⟨t0, t1, t2, t3, t4, t5⟩ := RT.six
 go_wp2_with (go_at_call 30; (refine (H.out W).mono ?_); rintro e w1 ⟨k1, N, Q, c, er, ⟨rfl, hb1⟩, hG⟩; have HG := Lib.hid hG; have BW := Lib.hid (bl_then B0.out hb1); obtain ⟨y0, y1, y2, y3⟩ := (RZ.keep hb1).four; have g0 := (RZ.keep hb1).free 0; have g1 := (RZ.keep hb1).free 1; have g2 := (RZ.keep hb1).free 2; have g3 := (RZ.keep hb1).free 3; clear hG hb1)
 refine bodyPost_ret (v := .tuple #[valV k1 N Q ⟨#[]⟩, .int .i64 c, .int .i64 er]) (by simp [results, Tryz.results13, go_sem, y0, y1, y2, y3]) rfl ⟨k1, N, Q, c, er, ⟨rfl, ?_⟩, HG.out⟩
 (repeat refine Below.setCell ?_ (by simp <;> omega) _)
 exact BW.out
set_option maxRecDepth 100000 in
set_option maxHeartbeats 2000000 in
theorem divide_ref {a b : Va} {k p q n : Int} {vy : Bool} {pic : ByteArray} {G : Int → Int → Int → Int → Int → Prop} (h : ∀ W, Calls Tryz.prog 30 #[.string ⟨#[47]⟩, a.v, b.v, tyV k p q n vy pic] W (Gives3 G W)) (w : World) :
   Calls Tryz.prog 15 #[a.v, b.v, tyV k p q n vy pic] w (Gives3 G w) := by
 have H := Lib.hid h
 clear h
 have RA := ((Row.new w (vaC a.k a.n a.q a.s) 23).alloc (.cells (vaC b.k b.n b.q b.s) 23)).alloc (.cells #[.int .i64 k, .int .i64 p, .int .i64 q, .int .i64 n, .bool vy, .string pic] 25) |>.alloc (.cells (vaC 0 0 0 ⟨#[]⟩) 23)
 have RB := ((Row.new2 w (.cells (vaC a.k a.n a.q a.s) 23) (vaC b.k b.n b.q b.s) 23).alloc (.cells #[.int .i64 k, .int .i64 p, .int .i64 q, .int .i64 n, .bool vy, .string pic] 25)).alloc (.cells (vaC 0 0 0 ⟨#[]⟩) 23)
 have RT := (Row.new3 w (.cells (vaC a.k a.n a.q a.s) 23) (.cells (vaC b.k b.n b.q b.s) 23) #[.int .i64 k, .int .i64 p, .int .i64 q, .int .i64 n, .bool vy, .string pic] 25).alloc (.cells (vaC 0 0 0 ⟨#[]⟩) 23)
 have RZ := row_n3 w (.cells (vaC a.k a.n a.q a.s) 23) (.cells (vaC b.k b.n b.q b.s) 23) (.cells #[.int .i64 k, .int .i64 p, .int .i64 q, .int .i64 n, .bool vy, .string pic] 25) (vaC 0 0 0 ⟨#[]⟩) 23
 go_enter Tryz.func15, Tryz.ntmps15
 go_upto_region 1 with (fail)
 generalize hw : (((w.alloc (.cells (vaC a.k a.n a.q a.s) 23)).alloc (.cells (vaC b.k b.n b.q b.s) 23)).alloc (.cells #[.int .i64 k, .int .i64 p, .int .i64 q, .int .i64 n, .bool vy, .string pic] 25)).alloc (.cells (vaC 0 0 0 ⟨#[]⟩) 23) = W at *
 have B0 : Hid (Below w.heap.size w W) := by show Below _ _ _; rw [← hw]; go_grown
 clear hw
 obtain ⟨a0, a1, a2, a3⟩ := RA.four
 obtain ⟨b0, b1, b2, b3⟩ := RB.four
 obtain ⟨t0, t1, t2, t3, t4, t5⟩ := RT.six
 go_wp2_with (go_at_call 30; (refine (H.out W).mono ?_); rintro e w1 ⟨k1, N, Q, c, er, ⟨rfl, hb1⟩, hG⟩; have HG := Lib.hid hG; have BW := Lib.hid (bl_then B0.out hb1); obtain ⟨y0, y1, y2, y3⟩ := (RZ.keep hb1).four; have g0 := (RZ.keep hb1).free 0; have g1 := (RZ.keep hb1).free 1; have g2 := (RZ.keep hb1).free 2; have g3 := (RZ.keep hb1).free 3; clear hG hb1)
 refine bodyPost_ret (v := .tuple #[valV k1 N Q ⟨#[]⟩, .int .i64 c, .int .i64 er]) (by simp [results, Tryz.results15, go_sem, y0, y1, y2, y3]) rfl ⟨k1, N, Q, c, er, ⟨rfl, ?_⟩, HG.out⟩
 (repeat refine Below.setCell ?_ (by simp <;> omega) _)
 exact BW.out
set_option maxRecDepth 100000 in
set_option maxHeartbeats 8000000 in
theorem do_times {a b : Va} {k : Int} {P q : Nat} (hT : NumT k P q) (ra : a.right) (rb : b.right) (ka : a.number) (kb : b.number) (la : (digs a.num.natAbs).length ≤ 120) (lb : (digs b.num.natAbs).length ≤ 120) (da : (digs a.den).length ≤ 120) (db : (digs b.den).length ≤ 120) (hAS : ∀ (c cap : Nat) (W : World), VasAt W c 0 [a, b] → c < W.heap.size → Calls Tryz.prog 34 #[.slice (some ⟨c, 0, none⟩) 2 cap, tyV k (P : Int) (q : Int) 0 false ⟨#[]⟩] W fun e w' => e = .returned (.int .i64 0) ∧ Below W.heap.size W w') (w : World) :
   Calls Tryz.prog 30 #[.string ⟨#[42]⟩, a.v, b.v, tyV k (P : Int) (q : Int) 0 false ⟨#[]⟩] w (DoPost w k P q 2 (a.num * b.num) (a.den * b.den)) := by
 obtain ⟨NG, NU, DE, HOP, HRK⟩ : ∃ NG NU DE, Hid (∀ (v1 v2 : Value) (W : World), RArg 0 W v1 (decide (a.n < 0)) a.num.natAbs a.den → RArg 0 W v2 (decide (b.n < 0)) b.num.natAbs b.den → Calls Tryz.prog 39 #[v1, v2] W (GivesR W NG NU DE)) ∧ Reck NG NU DE (a.num * b.num) (a.den * b.den) :=
   ⟨_, _, _, Lib.hid fun v1 v2 W h1 h2 => times_d h1 h2 (by omega) (by omega) (by omega) (by omega), reck_times la lb da db⟩
 obtain ⟨Z, hZ⟩ : ∃ Z : Int, (a.num * b.num) = Z := ⟨_, rfl⟩
 obtain ⟨U, hU⟩ : ∃ U : Nat, (a.den * b.den) = U := ⟨_, rfl⟩
 rw [hZ, hU] at HRK ⊢
 have HFIT : Hid (∀ (v : Value) (W : World), RArg 0 W v NG NU DE → Calls Tryz.prog 36 #[v, tyV k (P : Int) (q : Int) 0 false ⟨#[]⟩, .int .i64 2] W (FitPost W k P q 2 Z U)) := Lib.hid fun v W h => by
   obtain ⟨r1, r2, r3, r4, r5, r6⟩ := HRK
   rw [← r1, ← r2]
   exact fitTo_d hT h r3 r4 r5 r6
 clear hZ hU HRK
 obtain ⟨an, hA⟩ : ∃ x, a.num.natAbs = x := ⟨_, rfl⟩
 have HOA : Hid (∀ W, Calls Tryz.prog 27 #[a.v] W (GivesG (RArgP (decide (a.n < 0)) a.num.natAbs a.den) W)) := Lib.hid fun W => (of_va a W ra ka).mono fun _ _ h => givesR_G h
 have HOB : Hid (∀ W, Calls Tryz.prog 27 #[b.v] W (GivesG (RArgP (decide (b.n < 0)) b.num.natAbs b.den) W)) := Lib.hid fun W => (of_va b W rb kb).mono fun _ _ h => givesR_G h
 have HAS : Hid (∀ (c cap : Nat) (W : World), VasAt W c 0 [a, b] → c < W.heap.size → Calls Tryz.prog 34 #[.slice (some ⟨c, 0, none⟩) 2 cap, tyV k (P : Int) (q : Int) 0 false ⟨#[]⟩] W fun e w' => e = .returned (.int .i64 0) ∧ Below W.heap.size W w') := Lib.hid hAS
 clear hA
 have RA := ((Row.new w (vaC a.k a.n a.q a.s) 23).alloc (.cells (vaC b.k b.n b.q b.s) 23)).alloc (.cells #[.int .i64 k, .int .i64 (P : Int), .int .i64 (q : Int), .int .i64 0, .bool false, .string ⟨#[]⟩] 25) |>.alloc (.cells (vaC 0 0 0 ⟨#[]⟩) 23)
 have RB := ((Row.new2 w (.cells (vaC a.k a.n a.q a.s) 23) (vaC b.k b.n b.q b.s) 23).alloc (.cells #[.int .i64 k, .int .i64 (P : Int), .int .i64 (q : Int), .int .i64 0, .bool false, .string ⟨#[]⟩] 25)).alloc (.cells (vaC 0 0 0 ⟨#[]⟩) 23)
 have RT := (Row.new3 w (.cells (vaC a.k a.n a.q a.s) 23) (.cells (vaC b.k b.n b.q b.s) 23) #[.int .i64 k, .int .i64 (P : Int), .int .i64 (q : Int), .int .i64 0, .bool false, .string ⟨#[]⟩] 25).alloc (.cells (vaC 0 0 0 ⟨#[]⟩) 23)
 have RZ := row_n3 w (.cells (vaC a.k a.n a.q a.s) 23) (.cells (vaC b.k b.n b.q b.s) 23) (.cells #[.int .i64 k, .int .i64 (P : Int), .int .i64 (q : Int), .int .i64 0, .bool false, .string ⟨#[]⟩] 25) (vaC 0 0 0 ⟨#[]⟩) 23
 go_enter Tryz.func30, Tryz.ntmps30
 go_upto_region 1 with (fail)
 generalize hw : (((w.alloc (.cells (vaC a.k a.n a.q a.s) 23)).alloc (.cells (vaC b.k b.n b.q b.s) 23)).alloc (.cells #[.int .i64 k, .int .i64 (P : Int), .int .i64 (q : Int), .int .i64 0, .bool false, .string ⟨#[]⟩] 25)).alloc (.cells (vaC 0 0 0 ⟨#[]⟩) 23) = W at *
 have B0 : Hid (Below w.heap.size w W) := by show Below _ _ _; rw [← hw]; go_grown
 clear hw
 obtain ⟨a0, a1, a2, a3⟩ := RA.four
 obtain ⟨b0, b1, b2, b3⟩ := RB.four
 obtain ⟨t0, t1, t2, t3, t4, t5⟩ := RT.six
 have RN := Row.new W #[.int .i64 a.k, .int .i64 a.n, .int .i64 a.q, .string a.s, .int .i64 b.k, .int .i64 b.n, .int .i64 b.q, .string b.s] 23
 obtain ⟨y0, y1, y2, y3, y4, y5⟩ := (RT.alloc (.cells #[.int .i64 a.k, .int .i64 a.n, .int .i64 a.q, .string a.s, .int .i64 b.k, .int .i64 b.n, .int .i64 b.q, .string b.s] 23)).six
 go_wp2_with (go_at_call 34; (refine (HAS.out _ _ _ (VasAt.two RN) RN.lt).mono ?_); rintro e W0 ⟨rfl, hb1⟩; have RA := RA.keep (bl_box (Below.refl _ W) hb1); have RB := RB.keep (bl_box (Below.refl _ W) hb1); have RT := RT.keep (bl_box (Below.refl _ W) hb1); have RZ := RZ.keep (bl_box (Below.refl _ W) hb1); have BW := Lib.hid (bl_box B0.out hb1); clear hb1)
 clear a0 a1 a2 a3 b0 b1 b2 b3 t0 t1 t2 t3 t4 t5 y0 y1 y2 y3 y4 y5 RN B0 HAS
 obtain ⟨a0, a1, a2, a3⟩ := RA.four
 obtain ⟨b0, b1, b2, b3⟩ := RB.four
 go_cut [12, 13] (fun s1 s2 wx => TwoR W0 (decide (a.n < 0)) a.num.natAbs a.den (decide (b.n < 0)) b.num.natAbs b.den s1 s2 wx)
 case first =>
   refine wp_region_held_drew (S := fun w' => (w'.cell? ⟨w.heap.size, 0, none⟩ = some (.int .i64 a.k) ∧ w'.cell? ⟨w.heap.size, 1, none⟩ = some (.int .i64 a.n) ∧ w'.cell? ⟨w.heap.size, 2, none⟩ = some (.int .i64 a.q) ∧ w'.cell? ⟨w.heap.size, 3, none⟩ = some (.string a.s)) ∧ (w'.cell? ⟨w.heap.size + 1, 0, none⟩ = some (.int .i64 b.k) ∧ w'.cell? ⟨w.heap.size + 1, 1, none⟩ = some (.int .i64 b.n) ∧ w'.cell? ⟨w.heap.size + 1, 2, none⟩ = some (.int .i64 b.q) ∧ w'.cell? ⟨w.heap.size + 1, 3, none⟩ = some (.string b.s))) (by kernel_rfl) ?_ (fun hHeld => ?_)
   · exact ⟨RA.four, RB.four⟩
   first
     | (refine wpAnyH_take (i := 0) (v := undef) rfl (by kernel_rfl) (by kernel_rfl) (by kernel_rfl) (fun _ _ _ h => h) (Or.inr ⟨by rfl, rfl⟩) (by assumption) ?_)
     | (refine wpAnyH_take (i := 0) (v := ?_) rfl (by kernel_rfl) (by kernel_rfl) (by kernel_rfl) (fun _ _ _ h => h) (Or.inl ⟨by rfl, ?_⟩) (by assumption) ?_; rotate_left; (· intro w hSw; (try dsimp only at hSw); go_simp; (try with_reducible rfl)))
   try simp only [Act.put, List.setIfInBounds_toArray, List.set_cons_zero, List.set_cons_succ, List.getElem_toArray, List.getElem_cons_zero]
   first
     | (refine wpAnyH_take (i := 2) (v := undef) rfl (by kernel_rfl) (by kernel_rfl) (by kernel_rfl) (fun _ _ _ h => h) (Or.inr ⟨by rfl, rfl⟩) (by assumption) ?_)
     | (refine wpAnyH_take (i := 2) (v := ?_) rfl (by kernel_rfl) (by kernel_rfl) (by kernel_rfl) (fun _ _ _ h => h) (Or.inl ⟨by rfl, ?_⟩) (by assumption) ?_; rotate_left; (· intro w hSw; (try dsimp only at hSw); go_simp; (try with_reducible rfl)))
   try simp only [Act.put, List.setIfInBounds_toArray, List.set_cons_zero, List.set_cons_succ, List.getElem_toArray, List.getElem_cons_succ, List.getElem_cons_zero]
   have hK1 : ∀ w1 w2 : World, (w1.cell? ⟨w.heap.size, 0, none⟩ = some (.int .i64 a.k) ∧ w1.cell? ⟨w.heap.size, 1, none⟩ = some (.int .i64 a.n) ∧ w1.cell? ⟨w.heap.size, 2, none⟩ = some (.int .i64 a.q) ∧ w1.cell? ⟨w.heap.size, 3, none⟩ = some (.string a.s)) ∧ (w1.cell? ⟨w.heap.size + 1, 0, none⟩ = some (.int .i64 b.k) ∧ w1.cell? ⟨w.heap.size + 1, 1, none⟩ = some (.int .i64 b.n) ∧ w1.cell? ⟨w.heap.size + 1, 2, none⟩ = some (.int .i64 b.q) ∧ w1.cell? ⟨w.heap.size + 1, 3, none⟩ = some (.string b.s)) → Below w1.heap.size w1 w2 → (w2.cell? ⟨w.heap.size, 0, none⟩ = some (.int .i64 a.k) ∧ w2.cell? ⟨w.heap.size, 1, none⟩ = some (.int .i64 a.n) ∧ w2.cell? ⟨w.heap.size, 2, none⟩ = some (.int .i64 a.q) ∧ w2.cell? ⟨w.heap.size, 3, none⟩ = some (.string a.s)) ∧ (w2.cell? ⟨w.heap.size + 1, 0, none⟩ = some (.int .i64 b.k) ∧ w2.cell? ⟨w.heap.size + 1, 1, none⟩ = some (.int .i64 b.n) ∧ w2.cell? ⟨w.heap.size + 1, 2, none⟩ = some (.int .i64 b.q) ∧ w2.cell? ⟨w.heap.size + 1, 3, none⟩ = some (.string b.s)) := by
     rintro w1 w2 ⟨⟨s0, s1, s2, s3⟩, ⟨s4, s5, s6, s7⟩⟩ hb
     exact ⟨⟨cell_keep s0 hb, cell_keep s1 hb, cell_keep s2 hb, cell_keep s3 hb⟩, ⟨cell_keep s4 hb, cell_keep s5 hb, cell_keep s6 hb, cell_keep s7 hb⟩⟩
   have hB0 : Below W0.heap.size W0 W0.drew := (Below.refl _ W0).drew
   refine any2 (W0 := W0) (cs := #[.bool false, .slice none 0 0, .slice none 0 0]) (t := 52) 28 30 12 13 1 3 4 5 (fun c b1 b2 => #[true, decide (1 ≤ c), true, decide (2 ≤ c), b1, b2, false, false]) (RArgP (decide (a.n < 0)) a.num.natAbs a.den) (RArgP (decide (b.n < 0)) b.num.natAbs b.den) (by decide) (by decide) (by decide) (by decide) (by decide) (by decide) (RArgP.stays _ _ _) (RArgP.stays _ _ _) rfl rfl (by kernel_rfl) hB0 hHeld hK1 ?_
     rfl (fun _ => rfl) rfl (fun _ _ _ _ _ => by kernel_rfl) (fun W _ => HOA.out W) (fun _ _ => rfl)
     rfl (fun _ => rfl) rfl (fun _ _ _ _ _ => by kernel_rfl) (fun W _ => HOB.out W) (fun _ _ => rfl)
     rfl (fun _ => rfl) rfl (fun _ _ => by kernel_rfl) (fun _ _ => rfl)
     rfl (fun _ => rfl) rfl (fun _ _ => by kernel_rfl) (fun _ _ => rfl) ?_ ?_
   · intro c b1 b2 hn hc
     obtain rfl | rfl | rfl : c = 0 ∨ c = 1 ∨ c = 2 := by omega
     all_goals (cases b1 <;> cases b2)
     all_goals first
       | (exfalso; simp at hn; done)
       | kernel_rfl
   · intro c b1 b2 hc hl
     obtain rfl | rfl | rfl : c = 0 ∨ c = 1 ∨ c = 2 := by omega
     all_goals (cases b1 <;> cases b2 <;> simp at hl ⊢)
   intro r1 r2 n1 n2 wz hS hBz m1 m2 d12 X1 X2 g1 g2
   obtain ⟨y1, z1, rfl, D1n, D1d⟩ := g1
   obtain ⟨y2, z2, rfl, D2n, D2d⟩ := g2
   obtain ⟨p1, k1, rfl⟩ := D1n.sliceP
   obtain ⟨p4, k4, rfl⟩ := D1d.sliceP
   obtain ⟨p2, k2, rfl⟩ := D2n.sliceP
   obtain ⟨p5, k5, rfl⟩ := D2d.sliceP
   have RAz := RA.keep hBz
   have RBz := RB.keep hBz
   have lA := RA.lt
   have lB := RB.lt
   have s21 : ¬ n2 = n1 := fun e => d12 e.symm
   have pa1 : ¬ n1 = w.heap.size := by omega
   have pa2 : ¬ n2 = w.heap.size := by omega
   have pb1 : ¬ n1 = w.heap.size + 1 := by omega
   have pb2 : ¬ n2 = w.heap.size + 1 := by omega
   have A1 := RAz.set3 pa1 (.bool (decide (a.n < 0))) (.slice p1 (digs a.num.natAbs).length k1) (.slice p4 (digs a.den).length k4)
   have A2 := A1.set3 pa2 (.bool (decide (b.n < 0))) (.slice p2 (digs b.num.natAbs).length k2) (.slice p5 (digs b.den).length k5)
   have C1 := RBz.set3 pb1 (.bool (decide (a.n < 0))) (.slice p1 (digs a.num.natAbs).length k1) (.slice p4 (digs a.den).length k4)
   have C2 := C1.set3 pb2 (.bool (decide (b.n < 0))) (.slice p2 (digs b.num.natAbs).length k2) (.slice p5 (digs b.den).length k5)
   have Y11 := X1.pute (.bool (decide (a.n < 0))) (.slice p1 (digs a.num.natAbs).length k1) (.slice p4 (digs a.den).length k4)
   have Y21 := X2.set3 d12 (.bool (decide (a.n < 0))) (.slice p1 (digs a.num.natAbs).length k1) (.slice p4 (digs a.den).length k4)
   have Y12 := Y11.set3 s21 (.bool (decide (b.n < 0))) (.slice p2 (digs b.num.natAbs).length k2) (.slice p5 (digs b.den).length k5)
   have Y22 := Y21.pute (.bool (decide (b.n < 0))) (.slice p2 (digs b.num.natAbs).length k2) (.slice p5 (digs b.den).length k5)
   have SC : Same (Free W0.heap.size [some n1, some n2]) wz ((((((wz.setCell ⟨n1, 0, none⟩ (.bool (decide (a.n < 0)))).setCell ⟨n1, 1, none⟩ (.slice p1 (digs a.num.natAbs).length k1)).setCell ⟨n1, 2, none⟩ (.slice p4 (digs a.den).length k4)).setCell ⟨n2, 0, none⟩ (.bool (decide (b.n < 0)))).setCell ⟨n2, 1, none⟩ (.slice p2 (digs b.num.natAbs).length k2)).setCell ⟨n2, 2, none⟩ (.slice p5 (digs b.den).length k5)) :=
     (((((((Same.refl _ wz).set (a := ⟨n1, 0, none⟩) (not_free (by simp)) _).set (a := ⟨n1, 1, none⟩) (not_free (by simp)) _).set (a := ⟨n1, 2, none⟩) (not_free (by simp)) _).set (a := ⟨n2, 0, none⟩) (not_free (by simp)) _).set (a := ⟨n2, 1, none⟩) (not_free (by simp)) _).set (a := ⟨n2, 2, none⟩) (not_free (by simp)) _)
   have BC : Below W0.heap.size W0 ((((((wz.setCell ⟨n1, 0, none⟩ (.bool (decide (a.n < 0)))).setCell ⟨n1, 1, none⟩ (.slice p1 (digs a.num.natAbs).length k1)).setCell ⟨n1, 2, none⟩ (.slice p4 (digs a.den).length k4)).setCell ⟨n2, 0, none⟩ (.bool (decide (b.n < 0)))).setCell ⟨n2, 1, none⟩ (.slice p2 (digs b.num.natAbs).length k2)).setCell ⟨n2, 2, none⟩ (.slice p5 (digs b.den).length k5)) :=
     ((((((hBz.setCell (p := ⟨n1, 0, none⟩) m1 _).setCell (p := ⟨n1, 1, none⟩) m1 _).setCell (p := ⟨n1, 2, none⟩) m1 _).setCell (p := ⟨n2, 0, none⟩) m2 _).setCell (p := ⟨n2, 1, none⟩) m2 _).setCell (p := ⟨n2, 2, none⟩) m2 _)
   obtain ⟨h10, h11, h12⟩ := X1.three3
   have f10 := X1.free 0
   have f11 := X1.free 1
   have f12 := X1.free 2
   obtain ⟨h20, h21, h22⟩ := Y21.three3
   have f20 := Y21.free 0
   have f21 := Y21.free 1
   have f22 := Y21.free 2
   show wpAnyH _ _ _ _ _ 2 _ _ _
   simp only [act2, List.setIfInBounds_toArray, List.set_cons_zero, List.set_cons_succ]
   refine wpAnyH_ready (rs := [6]) (by kernel_rfl) (by simp) ?_
   refine AllReadyH.cons rfl (fun K hK => ?_) AllReadyH.nil
   try simp only [List.getElem_toArray, List.getElem_cons_succ, List.getElem_cons_zero]
   go_simp
   refine hK.out _ _ ⟨A1.four, C1.four⟩ (fun hHeld2 => ?_)
   clear hK K hHeld2
   refine wpAnyH_ready (rs := [7]) (by kernel_rfl) (by simp) ?_
   refine AllReadyH.cons rfl (fun K hK => ?_) AllReadyH.nil
   try simp only [List.getElem_toArray, List.getElem_cons_succ, List.getElem_cons_zero]
   clear h10 h11 h12 f10 f11 f12
   go_simp
   refine hK.out _ _ ⟨A2.four, C2.four⟩ (fun hHeld2 => ?_)
   clear hK K hHeld2
   clear h20 h21 h22 f20 f21 f22 A1 A2 C1 C2 Y11 Y21 RAz RBz X1 X2
   refine wpAnyH_done (by kernel_rfl) ?_ _
   go_wp2_with fail
   go_meet
   exact ⟨n1, n2, p1, k1, p4, k4, p2, k2, p5, k5, rfl, rfl, d12, m1, m2, Y12, Y22, (D1n.same SC).arg (fun _ _ => Nat.zero_le _), (D1d.same SC).arg (fun _ _ => Nat.zero_le _), (D2n.same SC).arg (fun _ _ => Nat.zero_le _), (D2d.same SC).arg (fun _ _ => Nat.zero_le _), BC⟩
 case rest =>
   obtain ⟨w5, rfl⟩ : ∃ w5 : World, w5 = wc := ⟨_, rfl⟩
   obtain ⟨n1, n2, p1, k1, p4, k4, p2, k2, p5, k5, rfl, rfl, d12, m1, m2, X1, X2, E1, E2, E3, E4, BC⟩ := hcut
   have RA5 := RA.keep BC
   have RT5 := RT.keep BC
   have RZ5 := RZ.keep BC
   have BW5 := Lib.hid (bl_then BW.out BC)
   have lT := RT.lt
   have BW7s := BW.out.size
   have lZ := RZ.lt
   have nt1 : ¬ n1 = w.heap.size + 1 + 1 := by omega
   have nt1' : ¬ w.heap.size + 1 + 1 = n1 := by omega
   have nz1 : ¬ n1 = w.heap.size + 1 + 1 + 1 := by omega
   have nz1' : ¬ w.heap.size + 1 + 1 + 1 = n1 := by omega
   have HAX : Hid (RArg 0 w5 (reV (decide (a.n < 0)) (.slice p1 (digs a.num.natAbs).length k1) (.slice p4 (digs a.den).length k4)) (decide (a.n < 0)) a.num.natAbs a.den) := Lib.hid ⟨_, _, rfl, E1, E2⟩
   have HBX : Hid (RArg 0 w5 (reV (decide (b.n < 0)) (.slice p2 (digs b.num.natAbs).length k2) (.slice p5 (digs b.den).length k5)) (decide (b.n < 0)) b.num.natAbs b.den) := Lib.hid ⟨_, _, rfl, E3, E4⟩
   clear E1 E2 E3 E4 BC RA RB RT RZ BW HOA HOB  a0 a1 a2 a3 b0 b1 b2 b3 RA5 la lb da db ra rb ka kb hT
   obtain ⟨x0, x1, x2⟩ := X1.ex
   obtain ⟨y0, y1, y2⟩ := X2.ex
   have f0 := X1.free 0
   have f1 := X1.free 1
   have f2 := X1.free 2
   go_upto_region 16 with (go_at_call 39; (refine (HOP.out _ _ _ HAX.out HBX.out).mono ?_); rintro e w6 ⟨v6, rfl, R6, hb6⟩; have X6 := X1.keep hb6; have RT6 := RT5.keep hb6; have RZ6 := RZ5.keep hb6; have BW6 := Lib.hid (bl_then BW5.out hb6); have hs6 := X1.lt; obtain ⟨p6, k6, q6, l6, rfl⟩ := R6.open; have R6 := Lib.hid R6; clear hb6; obtain ⟨x0, x1, x2⟩ := X6.ex; have f0 := X6.free 0; have f1 := X6.free 1; have f2 := X6.free 2)
   have hn1 : w.heap.size ≤ n1 := by have := BW7s; omega
   have X7 := X6.pute (.bool NG) (.slice p6 (digs NU).length k6) (.slice q6 (digs DE).length l6)
   have RT7 := RT6.set3 nt1 (.bool NG) (.slice p6 (digs NU).length k6) (.slice q6 (digs DE).length l6)
   have RZ7 := RZ6.set3 nz1 (.bool NG) (.slice p6 (digs NU).length k6) (.slice q6 (digs DE).length l6)
   have R7 : Hid (RArg 0 _ _ NG NU DE) := Lib.hid ((((R6.out.setc (q := ⟨n1, 0, none⟩) hs6 (.bool NG)).setc (q := ⟨n1, 1, none⟩) hs6 (.slice p6 (digs NU).length k6)).setc (q := ⟨n1, 2, none⟩) hs6 (.slice q6 (digs DE).length l6)).base (Nat.zero_le _))
   have BW7 := Lib.hid (((BW6.out.setCell (p := ⟨n1, 0, none⟩) hn1 (.bool NG)).setCell (p := ⟨n1, 1, none⟩) hn1 (.slice p6 (digs NU).length k6)).setCell (p := ⟨n1, 2, none⟩) hn1 (.slice q6 (digs DE).length l6))
   generalize hw7 : ((w6.setCell ⟨n1, 0, none⟩ (.bool NG)).setCell ⟨n1, 1, none⟩ (.slice p6 (digs NU).length k6)).setCell ⟨n1, 2, none⟩ (.slice q6 (digs DE).length l6) = w7 at *
   have lX7 := X7.lt
   have lT7 := RT7.lt
   have lZ7 := RZ7.lt
   clear hw7 X6 RT6 RZ6 R6 BW6 x0 x1 x2 f0 f1 f2
   obtain ⟨x0, x1, x2⟩ := X7.ex
   obtain ⟨t0, t1, t2, t3, t4, t5⟩ := RT7.six
   go_upto_region 17 with (go_at_call 36; refine (HFIT.out _ _ R7.out).mono ?_; rintro e w8 ⟨N, Q, c, ⟨rfl, hb⟩, hf⟩; have hf := Lib.hid hf; have RV8 := Row.new w8 (vaC 0 0 0 ⟨#[]⟩) 23; have RV9 := Row.new w8 #[.int .i64 k, .int .i64 N, .int .i64 Q, .string ⟨#[]⟩] 23; have RZ9 := (RZ7.keep hb).alloc (.cells #[.int .i64 k, .int .i64 N, .int .i64 Q, .string ⟨#[]⟩] 23); have BW9 := Lib.hid ((bl_then BW7.out hb).alloc (bl_then BW7.out hb).size (.cells #[.int .i64 k, .int .i64 N, .int .i64 Q, .string ⟨#[]⟩] 23)); have lZ8 := (RZ7.keep hb).lt; obtain ⟨v0, v1, v2, v3⟩ := RV8.four; have g0 := RV8.free 0; have g1 := RV8.free 1; have g2 := RV8.free 2; have g3 := RV8.free 3; clear hb)
   clear v0 v1 v2 v3 g0 g1 g2 g3 RV8 X7 RT7 RZ7 BW7 R7 HFIT x0 x1 x2 t0 t1 t2 t3 t4 t5
   obtain ⟨v0, v1, v2, v3⟩ := RV9.four
   obtain ⟨z0, z1, z2, z3⟩ := RZ9.four
   have g0 := RZ9.free 0
   have g1 := RZ9.free 1
   have g2 := RZ9.free 2
   have g3 := RZ9.free 3
   clear RV9 RZ9
   generalize (w8.alloc (.cells #[.int .i64 k, .int .i64 N, .int .i64 Q, .string ⟨#[]⟩] 23)) = we at *
   iterate 90 (first | go_values | go_skip | go_guarded | go_step | go_upon | go_simp | skip)
   refine bodyPost_ret (v := .tuple #[valV k N Q ⟨#[]⟩, .int .i64 c, .int .i64 0]) (by simp [results, Tryz.results30, go_sem, z0, z1, z2, z3]) rfl ⟨N, Q, c, ⟨rfl, ?_⟩, hf.out⟩
   (repeat refine Below.setCell ?_ (by simp <;> omega) _)
   exact BW9.out
set_option maxRecDepth 100000 in
set_option maxHeartbeats 8000000 in
theorem do_over {a b : Va} {k : Int} {P q : Nat} (hT : NumT k P q) (ra : a.right) (rb : b.right) (ka : a.number) (kb : b.number) (la : (digs a.num.natAbs).length ≤ 120) (lb : (digs b.num.natAbs).length ≤ 120) (da : (digs a.den).length ≤ 120) (db : (digs b.den).length ≤ 120) (hAS : ∀ (c cap : Nat) (W : World), VasAt W c 0 [a, b] → c < W.heap.size → Calls Tryz.prog 34 #[.slice (some ⟨c, 0, none⟩) 2 cap, tyV k (P : Int) (q : Int) 0 false ⟨#[]⟩] W fun e w' => e = .returned (.int .i64 0) ∧ Below W.heap.size W w') (hb0 : 0 < b.num.natAbs) (w : World) :
   Calls Tryz.prog 30 #[.string ⟨#[47]⟩, a.v, b.v, tyV k (P : Int) (q : Int) 0 false ⟨#[]⟩] w (DoPost w k P q 2 (sgn (decide (a.n < 0) != decide (b.n < 0)) (a.num.natAbs * b.den)) (a.den * b.num.natAbs)) := by
 have HL := Lib.hid hb0
 obtain ⟨NG, NU, DE, HOP, HRK⟩ : ∃ NG NU DE, Hid (∀ (v1 v2 : Value) (W : World), RArg 0 W v1 (decide (a.n < 0)) a.num.natAbs a.den → RArg 0 W v2 (decide (b.n < 0)) b.num.natAbs b.den → Calls Tryz.prog 41 #[v1, v2] W (GivesR W NG NU DE)) ∧ Reck NG NU DE (sgn (decide (a.n < 0) != decide (b.n < 0)) (a.num.natAbs * b.den)) (a.den * b.num.natAbs) :=
   ⟨_, _, _, Lib.hid fun v1 v2 W h1 h2 => over_d h1 h2 (by omega) (by omega) (by omega) (by omega), reck_over hb0 la lb da db⟩
 clear hb0
 obtain ⟨Z, hZ⟩ : ∃ Z : Int, (sgn (decide (a.n < 0) != decide (b.n < 0)) (a.num.natAbs * b.den)) = Z := ⟨_, rfl⟩
 obtain ⟨U, hU⟩ : ∃ U : Nat, (a.den * b.num.natAbs) = U := ⟨_, rfl⟩
 rw [hZ, hU] at HRK ⊢
 have HFIT : Hid (∀ (v : Value) (W : World), RArg 0 W v NG NU DE → Calls Tryz.prog 36 #[v, tyV k (P : Int) (q : Int) 0 false ⟨#[]⟩, .int .i64 2] W (FitPost W k P q 2 Z U)) := Lib.hid fun v W h => by
   obtain ⟨r1, r2, r3, r4, r5, r6⟩ := HRK
   rw [← r1, ← r2]
   exact fitTo_d hT h r3 r4 r5 r6
 clear hZ hU HRK
 obtain ⟨an, hA⟩ : ∃ x, a.num.natAbs = x := ⟨_, rfl⟩
 have HOA : Hid (∀ W, Calls Tryz.prog 27 #[a.v] W (GivesG (RArgP (decide (a.n < 0)) a.num.natAbs a.den) W)) := Lib.hid fun W => (of_va a W ra ka).mono fun _ _ h => givesR_G h
 have HOB : Hid (∀ W, Calls Tryz.prog 27 #[b.v] W (GivesG (RArgP (decide (b.n < 0)) b.num.natAbs b.den) W)) := Lib.hid fun W => (of_va b W rb kb).mono fun _ _ h => givesR_G h
 have HAS : Hid (∀ (c cap : Nat) (W : World), VasAt W c 0 [a, b] → c < W.heap.size → Calls Tryz.prog 34 #[.slice (some ⟨c, 0, none⟩) 2 cap, tyV k (P : Int) (q : Int) 0 false ⟨#[]⟩] W fun e w' => e = .returned (.int .i64 0) ∧ Below W.heap.size W w') := Lib.hid hAS
 clear hA
 have RA := ((Row.new w (vaC a.k a.n a.q a.s) 23).alloc (.cells (vaC b.k b.n b.q b.s) 23)).alloc (.cells #[.int .i64 k, .int .i64 (P : Int), .int .i64 (q : Int), .int .i64 0, .bool false, .string ⟨#[]⟩] 25) |>.alloc (.cells (vaC 0 0 0 ⟨#[]⟩) 23)
 have RB := ((Row.new2 w (.cells (vaC a.k a.n a.q a.s) 23) (vaC b.k b.n b.q b.s) 23).alloc (.cells #[.int .i64 k, .int .i64 (P : Int), .int .i64 (q : Int), .int .i64 0, .bool false, .string ⟨#[]⟩] 25)).alloc (.cells (vaC 0 0 0 ⟨#[]⟩) 23)
 have RT := (Row.new3 w (.cells (vaC a.k a.n a.q a.s) 23) (.cells (vaC b.k b.n b.q b.s) 23) #[.int .i64 k, .int .i64 (P : Int), .int .i64 (q : Int), .int .i64 0, .bool false, .string ⟨#[]⟩] 25).alloc (.cells (vaC 0 0 0 ⟨#[]⟩) 23)
 have RZ := row_n3 w (.cells (vaC a.k a.n a.q a.s) 23) (.cells (vaC b.k b.n b.q b.s) 23) (.cells #[.int .i64 k, .int .i64 (P : Int), .int .i64 (q : Int), .int .i64 0, .bool false, .string ⟨#[]⟩] 25) (vaC 0 0 0 ⟨#[]⟩) 23
 go_enter Tryz.func30, Tryz.ntmps30
 go_upto_region 1 with (fail)
 generalize hw : (((w.alloc (.cells (vaC a.k a.n a.q a.s) 23)).alloc (.cells (vaC b.k b.n b.q b.s) 23)).alloc (.cells #[.int .i64 k, .int .i64 (P : Int), .int .i64 (q : Int), .int .i64 0, .bool false, .string ⟨#[]⟩] 25)).alloc (.cells (vaC 0 0 0 ⟨#[]⟩) 23) = W at *
 have B0 : Hid (Below w.heap.size w W) := by show Below _ _ _; rw [← hw]; go_grown
 clear hw
 obtain ⟨a0, a1, a2, a3⟩ := RA.four
 obtain ⟨b0, b1, b2, b3⟩ := RB.four
 obtain ⟨t0, t1, t2, t3, t4, t5⟩ := RT.six
 have RN := Row.new W #[.int .i64 a.k, .int .i64 a.n, .int .i64 a.q, .string a.s, .int .i64 b.k, .int .i64 b.n, .int .i64 b.q, .string b.s] 23
 obtain ⟨y0, y1, y2, y3, y4, y5⟩ := (RT.alloc (.cells #[.int .i64 a.k, .int .i64 a.n, .int .i64 a.q, .string a.s, .int .i64 b.k, .int .i64 b.n, .int .i64 b.q, .string b.s] 23)).six
 go_wp2_with (go_at_call 34; (refine (HAS.out _ _ _ (VasAt.two RN) RN.lt).mono ?_); rintro e W0 ⟨rfl, hb1⟩; have RA := RA.keep (bl_box (Below.refl _ W) hb1); have RB := RB.keep (bl_box (Below.refl _ W) hb1); have RT := RT.keep (bl_box (Below.refl _ W) hb1); have RZ := RZ.keep (bl_box (Below.refl _ W) hb1); have BW := Lib.hid (bl_box B0.out hb1); clear hb1)
 clear a0 a1 a2 a3 b0 b1 b2 b3 t0 t1 t2 t3 t4 t5 y0 y1 y2 y3 y4 y5 RN B0 HAS
 obtain ⟨a0, a1, a2, a3⟩ := RA.four
 obtain ⟨b0, b1, b2, b3⟩ := RB.four
 go_cut [12, 13] (fun s1 s2 wx => TwoR W0 (decide (a.n < 0)) a.num.natAbs a.den (decide (b.n < 0)) b.num.natAbs b.den s1 s2 wx)
 case first =>
   refine wp_region_held_drew (S := fun w' => (w'.cell? ⟨w.heap.size, 0, none⟩ = some (.int .i64 a.k) ∧ w'.cell? ⟨w.heap.size, 1, none⟩ = some (.int .i64 a.n) ∧ w'.cell? ⟨w.heap.size, 2, none⟩ = some (.int .i64 a.q) ∧ w'.cell? ⟨w.heap.size, 3, none⟩ = some (.string a.s)) ∧ (w'.cell? ⟨w.heap.size + 1, 0, none⟩ = some (.int .i64 b.k) ∧ w'.cell? ⟨w.heap.size + 1, 1, none⟩ = some (.int .i64 b.n) ∧ w'.cell? ⟨w.heap.size + 1, 2, none⟩ = some (.int .i64 b.q) ∧ w'.cell? ⟨w.heap.size + 1, 3, none⟩ = some (.string b.s))) (by kernel_rfl) ?_ (fun hHeld => ?_)
   · exact ⟨RA.four, RB.four⟩
   first
     | (refine wpAnyH_take (i := 0) (v := undef) rfl (by kernel_rfl) (by kernel_rfl) (by kernel_rfl) (fun _ _ _ h => h) (Or.inr ⟨by rfl, rfl⟩) (by assumption) ?_)
     | (refine wpAnyH_take (i := 0) (v := ?_) rfl (by kernel_rfl) (by kernel_rfl) (by kernel_rfl) (fun _ _ _ h => h) (Or.inl ⟨by rfl, ?_⟩) (by assumption) ?_; rotate_left; (· intro w hSw; (try dsimp only at hSw); go_simp; (try with_reducible rfl)))
   try simp only [Act.put, List.setIfInBounds_toArray, List.set_cons_zero, List.set_cons_succ, List.getElem_toArray, List.getElem_cons_zero]
   first
     | (refine wpAnyH_take (i := 2) (v := undef) rfl (by kernel_rfl) (by kernel_rfl) (by kernel_rfl) (fun _ _ _ h => h) (Or.inr ⟨by rfl, rfl⟩) (by assumption) ?_)
     | (refine wpAnyH_take (i := 2) (v := ?_) rfl (by kernel_rfl) (by kernel_rfl) (by kernel_rfl) (fun _ _ _ h => h) (Or.inl ⟨by rfl, ?_⟩) (by assumption) ?_; rotate_left; (· intro w hSw; (try dsimp only at hSw); go_simp; (try with_reducible rfl)))
   try simp only [Act.put, List.setIfInBounds_toArray, List.set_cons_zero, List.set_cons_succ, List.getElem_toArray, List.getElem_cons_succ, List.getElem_cons_zero]
   have hK1 : ∀ w1 w2 : World, (w1.cell? ⟨w.heap.size, 0, none⟩ = some (.int .i64 a.k) ∧ w1.cell? ⟨w.heap.size, 1, none⟩ = some (.int .i64 a.n) ∧ w1.cell? ⟨w.heap.size, 2, none⟩ = some (.int .i64 a.q) ∧ w1.cell? ⟨w.heap.size, 3, none⟩ = some (.string a.s)) ∧ (w1.cell? ⟨w.heap.size + 1, 0, none⟩ = some (.int .i64 b.k) ∧ w1.cell? ⟨w.heap.size + 1, 1, none⟩ = some (.int .i64 b.n) ∧ w1.cell? ⟨w.heap.size + 1, 2, none⟩ = some (.int .i64 b.q) ∧ w1.cell? ⟨w.heap.size + 1, 3, none⟩ = some (.string b.s)) → Below w1.heap.size w1 w2 → (w2.cell? ⟨w.heap.size, 0, none⟩ = some (.int .i64 a.k) ∧ w2.cell? ⟨w.heap.size, 1, none⟩ = some (.int .i64 a.n) ∧ w2.cell? ⟨w.heap.size, 2, none⟩ = some (.int .i64 a.q) ∧ w2.cell? ⟨w.heap.size, 3, none⟩ = some (.string a.s)) ∧ (w2.cell? ⟨w.heap.size + 1, 0, none⟩ = some (.int .i64 b.k) ∧ w2.cell? ⟨w.heap.size + 1, 1, none⟩ = some (.int .i64 b.n) ∧ w2.cell? ⟨w.heap.size + 1, 2, none⟩ = some (.int .i64 b.q) ∧ w2.cell? ⟨w.heap.size + 1, 3, none⟩ = some (.string b.s)) := by
     rintro w1 w2 ⟨⟨s0, s1, s2, s3⟩, ⟨s4, s5, s6, s7⟩⟩ hb
     exact ⟨⟨cell_keep s0 hb, cell_keep s1 hb, cell_keep s2 hb, cell_keep s3 hb⟩, ⟨cell_keep s4 hb, cell_keep s5 hb, cell_keep s6 hb, cell_keep s7 hb⟩⟩
   have hB0 : Below W0.heap.size W0 W0.drew := (Below.refl _ W0).drew
   refine any2 (W0 := W0) (cs := #[.bool false, .slice none 0 0, .slice none 0 0]) (t := 52) 28 30 12 13 1 3 4 5 (fun c b1 b2 => #[true, decide (1 ≤ c), true, decide (2 ≤ c), b1, b2, false, false]) (RArgP (decide (a.n < 0)) a.num.natAbs a.den) (RArgP (decide (b.n < 0)) b.num.natAbs b.den) (by decide) (by decide) (by decide) (by decide) (by decide) (by decide) (RArgP.stays _ _ _) (RArgP.stays _ _ _) rfl rfl (by kernel_rfl) hB0 hHeld hK1 ?_
     rfl (fun _ => rfl) rfl (fun _ _ _ _ _ => by kernel_rfl) (fun W _ => HOA.out W) (fun _ _ => rfl)
     rfl (fun _ => rfl) rfl (fun _ _ _ _ _ => by kernel_rfl) (fun W _ => HOB.out W) (fun _ _ => rfl)
     rfl (fun _ => rfl) rfl (fun _ _ => by kernel_rfl) (fun _ _ => rfl)
     rfl (fun _ => rfl) rfl (fun _ _ => by kernel_rfl) (fun _ _ => rfl) ?_ ?_
   · intro c b1 b2 hn hc
     obtain rfl | rfl | rfl : c = 0 ∨ c = 1 ∨ c = 2 := by omega
     all_goals (cases b1 <;> cases b2)
     all_goals first
       | (exfalso; simp at hn; done)
       | kernel_rfl
   · intro c b1 b2 hc hl
     obtain rfl | rfl | rfl : c = 0 ∨ c = 1 ∨ c = 2 := by omega
     all_goals (cases b1 <;> cases b2 <;> simp at hl ⊢)
   intro r1 r2 n1 n2 wz hS hBz m1 m2 d12 X1 X2 g1 g2
   obtain ⟨y1, z1, rfl, D1n, D1d⟩ := g1
   obtain ⟨y2, z2, rfl, D2n, D2d⟩ := g2
   obtain ⟨p1, k1, rfl⟩ := D1n.sliceP
   obtain ⟨p4, k4, rfl⟩ := D1d.sliceP
   obtain ⟨p2, k2, rfl⟩ := D2n.sliceP
   obtain ⟨p5, k5, rfl⟩ := D2d.sliceP
   have RAz := RA.keep hBz
   have RBz := RB.keep hBz
   have lA := RA.lt
   have lB := RB.lt
   have s21 : ¬ n2 = n1 := fun e => d12 e.symm
   have pa1 : ¬ n1 = w.heap.size := by omega
   have pa2 : ¬ n2 = w.heap.size := by omega
   have pb1 : ¬ n1 = w.heap.size + 1 := by omega
   have pb2 : ¬ n2 = w.heap.size + 1 := by omega
   have A1 := RAz.set3 pa1 (.bool (decide (a.n < 0))) (.slice p1 (digs a.num.natAbs).length k1) (.slice p4 (digs a.den).length k4)
   have A2 := A1.set3 pa2 (.bool (decide (b.n < 0))) (.slice p2 (digs b.num.natAbs).length k2) (.slice p5 (digs b.den).length k5)
   have C1 := RBz.set3 pb1 (.bool (decide (a.n < 0))) (.slice p1 (digs a.num.natAbs).length k1) (.slice p4 (digs a.den).length k4)
   have C2 := C1.set3 pb2 (.bool (decide (b.n < 0))) (.slice p2 (digs b.num.natAbs).length k2) (.slice p5 (digs b.den).length k5)
   have Y11 := X1.pute (.bool (decide (a.n < 0))) (.slice p1 (digs a.num.natAbs).length k1) (.slice p4 (digs a.den).length k4)
   have Y21 := X2.set3 d12 (.bool (decide (a.n < 0))) (.slice p1 (digs a.num.natAbs).length k1) (.slice p4 (digs a.den).length k4)
   have Y12 := Y11.set3 s21 (.bool (decide (b.n < 0))) (.slice p2 (digs b.num.natAbs).length k2) (.slice p5 (digs b.den).length k5)
   have Y22 := Y21.pute (.bool (decide (b.n < 0))) (.slice p2 (digs b.num.natAbs).length k2) (.slice p5 (digs b.den).length k5)
   have SC : Same (Free W0.heap.size [some n1, some n2]) wz ((((((wz.setCell ⟨n1, 0, none⟩ (.bool (decide (a.n < 0)))).setCell ⟨n1, 1, none⟩ (.slice p1 (digs a.num.natAbs).length k1)).setCell ⟨n1, 2, none⟩ (.slice p4 (digs a.den).length k4)).setCell ⟨n2, 0, none⟩ (.bool (decide (b.n < 0)))).setCell ⟨n2, 1, none⟩ (.slice p2 (digs b.num.natAbs).length k2)).setCell ⟨n2, 2, none⟩ (.slice p5 (digs b.den).length k5)) :=
     (((((((Same.refl _ wz).set (a := ⟨n1, 0, none⟩) (not_free (by simp)) _).set (a := ⟨n1, 1, none⟩) (not_free (by simp)) _).set (a := ⟨n1, 2, none⟩) (not_free (by simp)) _).set (a := ⟨n2, 0, none⟩) (not_free (by simp)) _).set (a := ⟨n2, 1, none⟩) (not_free (by simp)) _).set (a := ⟨n2, 2, none⟩) (not_free (by simp)) _)
   have BC : Below W0.heap.size W0 ((((((wz.setCell ⟨n1, 0, none⟩ (.bool (decide (a.n < 0)))).setCell ⟨n1, 1, none⟩ (.slice p1 (digs a.num.natAbs).length k1)).setCell ⟨n1, 2, none⟩ (.slice p4 (digs a.den).length k4)).setCell ⟨n2, 0, none⟩ (.bool (decide (b.n < 0)))).setCell ⟨n2, 1, none⟩ (.slice p2 (digs b.num.natAbs).length k2)).setCell ⟨n2, 2, none⟩ (.slice p5 (digs b.den).length k5)) :=
     ((((((hBz.setCell (p := ⟨n1, 0, none⟩) m1 _).setCell (p := ⟨n1, 1, none⟩) m1 _).setCell (p := ⟨n1, 2, none⟩) m1 _).setCell (p := ⟨n2, 0, none⟩) m2 _).setCell (p := ⟨n2, 1, none⟩) m2 _).setCell (p := ⟨n2, 2, none⟩) m2 _)
   obtain ⟨h10, h11, h12⟩ := X1.three3
   have f10 := X1.free 0
   have f11 := X1.free 1
   have f12 := X1.free 2
   obtain ⟨h20, h21, h22⟩ := Y21.three3
   have f20 := Y21.free 0
   have f21 := Y21.free 1
   have f22 := Y21.free 2
   show wpAnyH _ _ _ _ _ 2 _ _ _
   simp only [act2, List.setIfInBounds_toArray, List.set_cons_zero, List.set_cons_succ]
   refine wpAnyH_ready (rs := [6]) (by kernel_rfl) (by simp) ?_
   refine AllReadyH.cons rfl (fun K hK => ?_) AllReadyH.nil
   try simp only [List.getElem_toArray, List.getElem_cons_succ, List.getElem_cons_zero]
   go_simp
   refine hK.out _ _ ⟨A1.four, C1.four⟩ (fun hHeld2 => ?_)
   clear hK K hHeld2
   refine wpAnyH_ready (rs := [7]) (by kernel_rfl) (by simp) ?_
   refine AllReadyH.cons rfl (fun K hK => ?_) AllReadyH.nil
   try simp only [List.getElem_toArray, List.getElem_cons_succ, List.getElem_cons_zero]
   clear h10 h11 h12 f10 f11 f12
   go_simp
   refine hK.out _ _ ⟨A2.four, C2.four⟩ (fun hHeld2 => ?_)
   clear hK K hHeld2
   clear h20 h21 h22 f20 f21 f22 A1 A2 C1 C2 Y11 Y21 RAz RBz X1 X2
   refine wpAnyH_done (by kernel_rfl) ?_ _
   go_wp2_with fail
   go_meet
   exact ⟨n1, n2, p1, k1, p4, k4, p2, k2, p5, k5, rfl, rfl, d12, m1, m2, Y12, Y22, (D1n.same SC).arg (fun _ _ => Nat.zero_le _), (D1d.same SC).arg (fun _ _ => Nat.zero_le _), (D2n.same SC).arg (fun _ _ => Nat.zero_le _), (D2d.same SC).arg (fun _ _ => Nat.zero_le _), BC⟩
 case rest =>
   obtain ⟨w5, rfl⟩ : ∃ w5 : World, w5 = wc := ⟨_, rfl⟩
   obtain ⟨n1, n2, p1, k1, p4, k4, p2, k2, p5, k5, rfl, rfl, d12, m1, m2, X1, X2, E1, E2, E3, E4, BC⟩ := hcut
   have RA5 := RA.keep BC
   have RT5 := RT.keep BC
   have RZ5 := RZ.keep BC
   have BW5 := Lib.hid (bl_then BW.out BC)
   have lT := RT.lt
   have BW7s := BW.out.size
   have lZ := RZ.lt
   have nt1 : ¬ n1 = w.heap.size + 1 + 1 := by omega
   have nt1' : ¬ w.heap.size + 1 + 1 = n1 := by omega
   have nz1 : ¬ n1 = w.heap.size + 1 + 1 + 1 := by omega
   have nz1' : ¬ w.heap.size + 1 + 1 + 1 = n1 := by omega
   have HAX : Hid (RArg 0 w5 (reV (decide (a.n < 0)) (.slice p1 (digs a.num.natAbs).length k1) (.slice p4 (digs a.den).length k4)) (decide (a.n < 0)) a.num.natAbs a.den) := Lib.hid ⟨_, _, rfl, E1, E2⟩
   have HBX : Hid (RArg 0 w5 (reV (decide (b.n < 0)) (.slice p2 (digs b.num.natAbs).length k2) (.slice p5 (digs b.den).length k5)) (decide (b.n < 0)) b.num.natAbs b.den) := Lib.hid ⟨_, _, rfl, E3, E4⟩
   clear E1 E2 E3 E4 BC RA RB RT RZ BW HOA HOB  a0 a1 a2 a3 b0 b1 b2 b3 RA5 la lb da db ra rb ka kb hT
   have hl : ¬ (((digs b.num.natAbs).length : Int) = 0) := by have := digs_len_pos HL.out; omega
   obtain ⟨x0, x1, x2⟩ := X1.ex
   obtain ⟨y0, y1, y2⟩ := X2.ex
   have f0 := X1.free 0
   have f1 := X1.free 1
   have f2 := X1.free 2
   go_upto_region 16 with (go_at_call 41; (refine (HOP.out _ _ _ HAX.out HBX.out).mono ?_); rintro e w6 ⟨v6, rfl, R6, hb6⟩; have X6 := X1.keep hb6; have RT6 := RT5.keep hb6; have RZ6 := RZ5.keep hb6; have BW6 := Lib.hid (bl_then BW5.out hb6); have hs6 := X1.lt; obtain ⟨p6, k6, q6, l6, rfl⟩ := R6.open; have R6 := Lib.hid R6; clear hb6; obtain ⟨x0, x1, x2⟩ := X6.ex; have f0 := X6.free 0; have f1 := X6.free 1; have f2 := X6.free 2)
   have hn1 : w.heap.size ≤ n1 := by have := BW7s; omega
   have X7 := X6.pute (.bool NG) (.slice p6 (digs NU).length k6) (.slice q6 (digs DE).length l6)
   have RT7 := RT6.set3 nt1 (.bool NG) (.slice p6 (digs NU).length k6) (.slice q6 (digs DE).length l6)
   have RZ7 := RZ6.set3 nz1 (.bool NG) (.slice p6 (digs NU).length k6) (.slice q6 (digs DE).length l6)
   have R7 : Hid (RArg 0 _ _ NG NU DE) := Lib.hid ((((R6.out.setc (q := ⟨n1, 0, none⟩) hs6 (.bool NG)).setc (q := ⟨n1, 1, none⟩) hs6 (.slice p6 (digs NU).length k6)).setc (q := ⟨n1, 2, none⟩) hs6 (.slice q6 (digs DE).length l6)).base (Nat.zero_le _))
   have BW7 := Lib.hid (((BW6.out.setCell (p := ⟨n1, 0, none⟩) hn1 (.bool NG)).setCell (p := ⟨n1, 1, none⟩) hn1 (.slice p6 (digs NU).length k6)).setCell (p := ⟨n1, 2, none⟩) hn1 (.slice q6 (digs DE).length l6))
   generalize hw7 : ((w6.setCell ⟨n1, 0, none⟩ (.bool NG)).setCell ⟨n1, 1, none⟩ (.slice p6 (digs NU).length k6)).setCell ⟨n1, 2, none⟩ (.slice q6 (digs DE).length l6) = w7 at *
   have lX7 := X7.lt
   have lT7 := RT7.lt
   have lZ7 := RZ7.lt
   clear hw7 X6 RT6 RZ6 R6 BW6 x0 x1 x2 f0 f1 f2
   obtain ⟨x0, x1, x2⟩ := X7.ex
   obtain ⟨t0, t1, t2, t3, t4, t5⟩ := RT7.six
   go_upto_region 17 with (go_at_call 36; refine (HFIT.out _ _ R7.out).mono ?_; rintro e w8 ⟨N, Q, c, ⟨rfl, hb⟩, hf⟩; have hf := Lib.hid hf; have RV8 := Row.new w8 (vaC 0 0 0 ⟨#[]⟩) 23; have RV9 := Row.new w8 #[.int .i64 k, .int .i64 N, .int .i64 Q, .string ⟨#[]⟩] 23; have RZ9 := (RZ7.keep hb).alloc (.cells #[.int .i64 k, .int .i64 N, .int .i64 Q, .string ⟨#[]⟩] 23); have BW9 := Lib.hid ((bl_then BW7.out hb).alloc (bl_then BW7.out hb).size (.cells #[.int .i64 k, .int .i64 N, .int .i64 Q, .string ⟨#[]⟩] 23)); have lZ8 := (RZ7.keep hb).lt; obtain ⟨v0, v1, v2, v3⟩ := RV8.four; have g0 := RV8.free 0; have g1 := RV8.free 1; have g2 := RV8.free 2; have g3 := RV8.free 3; clear hb)
   clear v0 v1 v2 v3 g0 g1 g2 g3 RV8 X7 RT7 RZ7 BW7 R7 HFIT x0 x1 x2 t0 t1 t2 t3 t4 t5
   obtain ⟨v0, v1, v2, v3⟩ := RV9.four
   obtain ⟨z0, z1, z2, z3⟩ := RZ9.four
   have g0 := RZ9.free 0
   have g1 := RZ9.free 1
   have g2 := RZ9.free 2
   have g3 := RZ9.free 3
   clear RV9 RZ9
   generalize (w8.alloc (.cells #[.int .i64 k, .int .i64 N, .int .i64 Q, .string ⟨#[]⟩] 23)) = we at *
   iterate 90 (first | go_values | go_skip | go_guarded | go_step | go_upon | go_simp | skip)
   refine bodyPost_ret (v := .tuple #[valV k N Q ⟨#[]⟩, .int .i64 c, .int .i64 0]) (by simp [results, Tryz.results30, go_sem, z0, z1, z2, z3]) rfl ⟨N, Q, c, ⟨rfl, ?_⟩, hf.out⟩
   (repeat refine Below.setCell ?_ (by simp <;> omega) _)
   exact BW9.out
set_option maxRecDepth 100000 in
set_option maxHeartbeats 8000000 in
theorem do_minus {a b : Va} {k : Int} {P q : Nat} (hT : NumT k P q) (ra : a.right) (rb : b.right) (ka : a.number) (kb : b.number) (la : (digs a.num.natAbs).length ≤ 120) (lb : (digs b.num.natAbs).length ≤ 120) (da : (digs a.den).length ≤ 120) (db : (digs b.den).length ≤ 120) (hAS : ∀ (c cap : Nat) (W : World), VasAt W c 0 [a, b] → c < W.heap.size → Calls Tryz.prog 34 #[.slice (some ⟨c, 0, none⟩) 2 cap, tyV k (P : Int) (q : Int) 0 false ⟨#[]⟩] W fun e w' => e = .returned (.int .i64 0) ∧ Below W.heap.size W w') (w : World) :
   Calls Tryz.prog 30 #[.string ⟨#[45]⟩, a.v, b.v, tyV k (P : Int) (q : Int) 0 false ⟨#[]⟩] w (DoPost w k P q 2 (a.num * b.den - b.num * a.den) (a.den * b.den)) := by
 obtain ⟨NB, NG, NU, DE, HT, HOP, HRK⟩ : ∃ NB NG NU DE, Hid (∀ (v : Value) (W : World), RArg 0 W v (decide (b.n < 0)) b.num.natAbs b.den → Calls Tryz.prog 38 #[v] W fun e w' => ∃ v', e = .returned v' ∧ RArg 0 w' v' NB b.num.natAbs b.den ∧ Below W.heap.size W w') ∧ Hid (∀ (v1 v2 : Value) (W : World), RArg 0 W v1 (decide (a.n < 0)) a.num.natAbs a.den → RArg 0 W v2 NB b.num.natAbs b.den → Calls Tryz.prog 37 #[v1, v2] W (GivesR W NG NU DE)) ∧ Reck NG NU DE (a.num * b.den - b.num * a.den) (a.den * b.den) :=
   ⟨_, _, _, _, Lib.hid fun v W h => turn_d h, Lib.hid fun v1 v2 W h1 h2 => both_d h1 h2 (by omega) (by omega) (by omega) (by omega) a.den_pos b.den_pos (num_pos ka) (fun h => of_decide_eq_true ((Bool.and_eq_true _ _ ▸ h).2)), reck_minus la lb da db⟩
 obtain ⟨Z, hZ⟩ : ∃ Z : Int, (a.num * b.den - b.num * a.den) = Z := ⟨_, rfl⟩
 obtain ⟨U, hU⟩ : ∃ U : Nat, (a.den * b.den) = U := ⟨_, rfl⟩
 rw [hZ, hU] at HRK ⊢
 have HFIT : Hid (∀ (v : Value) (W : World), RArg 0 W v NG NU DE → Calls Tryz.prog 36 #[v, tyV k (P : Int) (q : Int) 0 false ⟨#[]⟩, .int .i64 2] W (FitPost W k P q 2 Z U)) := Lib.hid fun v W h => by
   obtain ⟨r1, r2, r3, r4, r5, r6⟩ := HRK
   rw [← r1, ← r2]
   exact fitTo_d hT h r3 r4 r5 r6
 clear hZ hU HRK
 obtain ⟨an, hA⟩ : ∃ x, a.num.natAbs = x := ⟨_, rfl⟩
 have HOA : Hid (∀ W, Calls Tryz.prog 27 #[a.v] W (GivesG (RArgP (decide (a.n < 0)) a.num.natAbs a.den) W)) := Lib.hid fun W => (of_va a W ra ka).mono fun _ _ h => givesR_G h
 have HOB : Hid (∀ W, Calls Tryz.prog 27 #[b.v] W (GivesG (RArgP (decide (b.n < 0)) b.num.natAbs b.den) W)) := Lib.hid fun W => (of_va b W rb kb).mono fun _ _ h => givesR_G h
 have HAS : Hid (∀ (c cap : Nat) (W : World), VasAt W c 0 [a, b] → c < W.heap.size → Calls Tryz.prog 34 #[.slice (some ⟨c, 0, none⟩) 2 cap, tyV k (P : Int) (q : Int) 0 false ⟨#[]⟩] W fun e w' => e = .returned (.int .i64 0) ∧ Below W.heap.size W w') := Lib.hid hAS
 clear hA
 have RA := ((Row.new w (vaC a.k a.n a.q a.s) 23).alloc (.cells (vaC b.k b.n b.q b.s) 23)).alloc (.cells #[.int .i64 k, .int .i64 (P : Int), .int .i64 (q : Int), .int .i64 0, .bool false, .string ⟨#[]⟩] 25) |>.alloc (.cells (vaC 0 0 0 ⟨#[]⟩) 23)
 have RB := ((Row.new2 w (.cells (vaC a.k a.n a.q a.s) 23) (vaC b.k b.n b.q b.s) 23).alloc (.cells #[.int .i64 k, .int .i64 (P : Int), .int .i64 (q : Int), .int .i64 0, .bool false, .string ⟨#[]⟩] 25)).alloc (.cells (vaC 0 0 0 ⟨#[]⟩) 23)
 have RT := (Row.new3 w (.cells (vaC a.k a.n a.q a.s) 23) (.cells (vaC b.k b.n b.q b.s) 23) #[.int .i64 k, .int .i64 (P : Int), .int .i64 (q : Int), .int .i64 0, .bool false, .string ⟨#[]⟩] 25).alloc (.cells (vaC 0 0 0 ⟨#[]⟩) 23)
 have RZ := row_n3 w (.cells (vaC a.k a.n a.q a.s) 23) (.cells (vaC b.k b.n b.q b.s) 23) (.cells #[.int .i64 k, .int .i64 (P : Int), .int .i64 (q : Int), .int .i64 0, .bool false, .string ⟨#[]⟩] 25) (vaC 0 0 0 ⟨#[]⟩) 23
 go_enter Tryz.func30, Tryz.ntmps30
 go_upto_region 1 with (fail)
 generalize hw : (((w.alloc (.cells (vaC a.k a.n a.q a.s) 23)).alloc (.cells (vaC b.k b.n b.q b.s) 23)).alloc (.cells #[.int .i64 k, .int .i64 (P : Int), .int .i64 (q : Int), .int .i64 0, .bool false, .string ⟨#[]⟩] 25)).alloc (.cells (vaC 0 0 0 ⟨#[]⟩) 23) = W at *
 have B0 : Hid (Below w.heap.size w W) := by show Below _ _ _; rw [← hw]; go_grown
 clear hw
 obtain ⟨a0, a1, a2, a3⟩ := RA.four
 obtain ⟨b0, b1, b2, b3⟩ := RB.four
 obtain ⟨t0, t1, t2, t3, t4, t5⟩ := RT.six
 have RN := Row.new W #[.int .i64 a.k, .int .i64 a.n, .int .i64 a.q, .string a.s, .int .i64 b.k, .int .i64 b.n, .int .i64 b.q, .string b.s] 23
 obtain ⟨y0, y1, y2, y3, y4, y5⟩ := (RT.alloc (.cells #[.int .i64 a.k, .int .i64 a.n, .int .i64 a.q, .string a.s, .int .i64 b.k, .int .i64 b.n, .int .i64 b.q, .string b.s] 23)).six
 go_wp2_with (go_at_call 34; (refine (HAS.out _ _ _ (VasAt.two RN) RN.lt).mono ?_); rintro e W0 ⟨rfl, hb1⟩; have RA := RA.keep (bl_box (Below.refl _ W) hb1); have RB := RB.keep (bl_box (Below.refl _ W) hb1); have RT := RT.keep (bl_box (Below.refl _ W) hb1); have RZ := RZ.keep (bl_box (Below.refl _ W) hb1); have BW := Lib.hid (bl_box B0.out hb1); clear hb1)
 clear a0 a1 a2 a3 b0 b1 b2 b3 t0 t1 t2 t3 t4 t5 y0 y1 y2 y3 y4 y5 RN B0 HAS
 obtain ⟨a0, a1, a2, a3⟩ := RA.four
 obtain ⟨b0, b1, b2, b3⟩ := RB.four
 go_cut [12, 13] (fun s1 s2 wx => TwoR W0 (decide (a.n < 0)) a.num.natAbs a.den (decide (b.n < 0)) b.num.natAbs b.den s1 s2 wx)
 case first =>
   refine wp_region_held_drew (S := fun w' => (w'.cell? ⟨w.heap.size, 0, none⟩ = some (.int .i64 a.k) ∧ w'.cell? ⟨w.heap.size, 1, none⟩ = some (.int .i64 a.n) ∧ w'.cell? ⟨w.heap.size, 2, none⟩ = some (.int .i64 a.q) ∧ w'.cell? ⟨w.heap.size, 3, none⟩ = some (.string a.s)) ∧ (w'.cell? ⟨w.heap.size + 1, 0, none⟩ = some (.int .i64 b.k) ∧ w'.cell? ⟨w.heap.size + 1, 1, none⟩ = some (.int .i64 b.n) ∧ w'.cell? ⟨w.heap.size + 1, 2, none⟩ = some (.int .i64 b.q) ∧ w'.cell? ⟨w.heap.size + 1, 3, none⟩ = some (.string b.s))) (by kernel_rfl) ?_ (fun hHeld => ?_)
   · exact ⟨RA.four, RB.four⟩
   first
     | (refine wpAnyH_take (i := 0) (v := undef) rfl (by kernel_rfl) (by kernel_rfl) (by kernel_rfl) (fun _ _ _ h => h) (Or.inr ⟨by rfl, rfl⟩) (by assumption) ?_)
     | (refine wpAnyH_take (i := 0) (v := ?_) rfl (by kernel_rfl) (by kernel_rfl) (by kernel_rfl) (fun _ _ _ h => h) (Or.inl ⟨by rfl, ?_⟩) (by assumption) ?_; rotate_left; (· intro w hSw; (try dsimp only at hSw); go_simp; (try with_reducible rfl)))
   try simp only [Act.put, List.setIfInBounds_toArray, List.set_cons_zero, List.set_cons_succ, List.getElem_toArray, List.getElem_cons_zero]
   first
     | (refine wpAnyH_take (i := 2) (v := undef) rfl (by kernel_rfl) (by kernel_rfl) (by kernel_rfl) (fun _ _ _ h => h) (Or.inr ⟨by rfl, rfl⟩) (by assumption) ?_)
     | (refine wpAnyH_take (i := 2) (v := ?_) rfl (by kernel_rfl) (by kernel_rfl) (by kernel_rfl) (fun _ _ _ h => h) (Or.inl ⟨by rfl, ?_⟩) (by assumption) ?_; rotate_left; (· intro w hSw; (try dsimp only at hSw); go_simp; (try with_reducible rfl)))
   try simp only [Act.put, List.setIfInBounds_toArray, List.set_cons_zero, List.set_cons_succ, List.getElem_toArray, List.getElem_cons_succ, List.getElem_cons_zero]
   have hK1 : ∀ w1 w2 : World, (w1.cell? ⟨w.heap.size, 0, none⟩ = some (.int .i64 a.k) ∧ w1.cell? ⟨w.heap.size, 1, none⟩ = some (.int .i64 a.n) ∧ w1.cell? ⟨w.heap.size, 2, none⟩ = some (.int .i64 a.q) ∧ w1.cell? ⟨w.heap.size, 3, none⟩ = some (.string a.s)) ∧ (w1.cell? ⟨w.heap.size + 1, 0, none⟩ = some (.int .i64 b.k) ∧ w1.cell? ⟨w.heap.size + 1, 1, none⟩ = some (.int .i64 b.n) ∧ w1.cell? ⟨w.heap.size + 1, 2, none⟩ = some (.int .i64 b.q) ∧ w1.cell? ⟨w.heap.size + 1, 3, none⟩ = some (.string b.s)) → Below w1.heap.size w1 w2 → (w2.cell? ⟨w.heap.size, 0, none⟩ = some (.int .i64 a.k) ∧ w2.cell? ⟨w.heap.size, 1, none⟩ = some (.int .i64 a.n) ∧ w2.cell? ⟨w.heap.size, 2, none⟩ = some (.int .i64 a.q) ∧ w2.cell? ⟨w.heap.size, 3, none⟩ = some (.string a.s)) ∧ (w2.cell? ⟨w.heap.size + 1, 0, none⟩ = some (.int .i64 b.k) ∧ w2.cell? ⟨w.heap.size + 1, 1, none⟩ = some (.int .i64 b.n) ∧ w2.cell? ⟨w.heap.size + 1, 2, none⟩ = some (.int .i64 b.q) ∧ w2.cell? ⟨w.heap.size + 1, 3, none⟩ = some (.string b.s)) := by
     rintro w1 w2 ⟨⟨s0, s1, s2, s3⟩, ⟨s4, s5, s6, s7⟩⟩ hb
     exact ⟨⟨cell_keep s0 hb, cell_keep s1 hb, cell_keep s2 hb, cell_keep s3 hb⟩, ⟨cell_keep s4 hb, cell_keep s5 hb, cell_keep s6 hb, cell_keep s7 hb⟩⟩
   have hB0 : Below W0.heap.size W0 W0.drew := (Below.refl _ W0).drew
   refine any2 (W0 := W0) (cs := #[.bool false, .slice none 0 0, .slice none 0 0]) (t := 52) 28 30 12 13 1 3 4 5 (fun c b1 b2 => #[true, decide (1 ≤ c), true, decide (2 ≤ c), b1, b2, false, false]) (RArgP (decide (a.n < 0)) a.num.natAbs a.den) (RArgP (decide (b.n < 0)) b.num.natAbs b.den) (by decide) (by decide) (by decide) (by decide) (by decide) (by decide) (RArgP.stays _ _ _) (RArgP.stays _ _ _) rfl rfl (by kernel_rfl) hB0 hHeld hK1 ?_
     rfl (fun _ => rfl) rfl (fun _ _ _ _ _ => by kernel_rfl) (fun W _ => HOA.out W) (fun _ _ => rfl)
     rfl (fun _ => rfl) rfl (fun _ _ _ _ _ => by kernel_rfl) (fun W _ => HOB.out W) (fun _ _ => rfl)
     rfl (fun _ => rfl) rfl (fun _ _ => by kernel_rfl) (fun _ _ => rfl)
     rfl (fun _ => rfl) rfl (fun _ _ => by kernel_rfl) (fun _ _ => rfl) ?_ ?_
   · intro c b1 b2 hn hc
     obtain rfl | rfl | rfl : c = 0 ∨ c = 1 ∨ c = 2 := by omega
     all_goals (cases b1 <;> cases b2)
     all_goals first
       | (exfalso; simp at hn; done)
       | kernel_rfl
   · intro c b1 b2 hc hl
     obtain rfl | rfl | rfl : c = 0 ∨ c = 1 ∨ c = 2 := by omega
     all_goals (cases b1 <;> cases b2 <;> simp at hl ⊢)
   intro r1 r2 n1 n2 wz hS hBz m1 m2 d12 X1 X2 g1 g2
   obtain ⟨y1, z1, rfl, D1n, D1d⟩ := g1
   obtain ⟨y2, z2, rfl, D2n, D2d⟩ := g2
   obtain ⟨p1, k1, rfl⟩ := D1n.sliceP
   obtain ⟨p4, k4, rfl⟩ := D1d.sliceP
   obtain ⟨p2, k2, rfl⟩ := D2n.sliceP
   obtain ⟨p5, k5, rfl⟩ := D2d.sliceP
   have RAz := RA.keep hBz
   have RBz := RB.keep hBz
   have lA := RA.lt
   have lB := RB.lt
   have s21 : ¬ n2 = n1 := fun e => d12 e.symm
   have pa1 : ¬ n1 = w.heap.size := by omega
   have pa2 : ¬ n2 = w.heap.size := by omega
   have pb1 : ¬ n1 = w.heap.size + 1 := by omega
   have pb2 : ¬ n2 = w.heap.size + 1 := by omega
   have A1 := RAz.set3 pa1 (.bool (decide (a.n < 0))) (.slice p1 (digs a.num.natAbs).length k1) (.slice p4 (digs a.den).length k4)
   have A2 := A1.set3 pa2 (.bool (decide (b.n < 0))) (.slice p2 (digs b.num.natAbs).length k2) (.slice p5 (digs b.den).length k5)
   have C1 := RBz.set3 pb1 (.bool (decide (a.n < 0))) (.slice p1 (digs a.num.natAbs).length k1) (.slice p4 (digs a.den).length k4)
   have C2 := C1.set3 pb2 (.bool (decide (b.n < 0))) (.slice p2 (digs b.num.natAbs).length k2) (.slice p5 (digs b.den).length k5)
   have Y11 := X1.pute (.bool (decide (a.n < 0))) (.slice p1 (digs a.num.natAbs).length k1) (.slice p4 (digs a.den).length k4)
   have Y21 := X2.set3 d12 (.bool (decide (a.n < 0))) (.slice p1 (digs a.num.natAbs).length k1) (.slice p4 (digs a.den).length k4)
   have Y12 := Y11.set3 s21 (.bool (decide (b.n < 0))) (.slice p2 (digs b.num.natAbs).length k2) (.slice p5 (digs b.den).length k5)
   have Y22 := Y21.pute (.bool (decide (b.n < 0))) (.slice p2 (digs b.num.natAbs).length k2) (.slice p5 (digs b.den).length k5)
   have SC : Same (Free W0.heap.size [some n1, some n2]) wz ((((((wz.setCell ⟨n1, 0, none⟩ (.bool (decide (a.n < 0)))).setCell ⟨n1, 1, none⟩ (.slice p1 (digs a.num.natAbs).length k1)).setCell ⟨n1, 2, none⟩ (.slice p4 (digs a.den).length k4)).setCell ⟨n2, 0, none⟩ (.bool (decide (b.n < 0)))).setCell ⟨n2, 1, none⟩ (.slice p2 (digs b.num.natAbs).length k2)).setCell ⟨n2, 2, none⟩ (.slice p5 (digs b.den).length k5)) :=
     (((((((Same.refl _ wz).set (a := ⟨n1, 0, none⟩) (not_free (by simp)) _).set (a := ⟨n1, 1, none⟩) (not_free (by simp)) _).set (a := ⟨n1, 2, none⟩) (not_free (by simp)) _).set (a := ⟨n2, 0, none⟩) (not_free (by simp)) _).set (a := ⟨n2, 1, none⟩) (not_free (by simp)) _).set (a := ⟨n2, 2, none⟩) (not_free (by simp)) _)
   have BC : Below W0.heap.size W0 ((((((wz.setCell ⟨n1, 0, none⟩ (.bool (decide (a.n < 0)))).setCell ⟨n1, 1, none⟩ (.slice p1 (digs a.num.natAbs).length k1)).setCell ⟨n1, 2, none⟩ (.slice p4 (digs a.den).length k4)).setCell ⟨n2, 0, none⟩ (.bool (decide (b.n < 0)))).setCell ⟨n2, 1, none⟩ (.slice p2 (digs b.num.natAbs).length k2)).setCell ⟨n2, 2, none⟩ (.slice p5 (digs b.den).length k5)) :=
     ((((((hBz.setCell (p := ⟨n1, 0, none⟩) m1 _).setCell (p := ⟨n1, 1, none⟩) m1 _).setCell (p := ⟨n1, 2, none⟩) m1 _).setCell (p := ⟨n2, 0, none⟩) m2 _).setCell (p := ⟨n2, 1, none⟩) m2 _).setCell (p := ⟨n2, 2, none⟩) m2 _)
   obtain ⟨h10, h11, h12⟩ := X1.three3
   have f10 := X1.free 0
   have f11 := X1.free 1
   have f12 := X1.free 2
   obtain ⟨h20, h21, h22⟩ := Y21.three3
   have f20 := Y21.free 0
   have f21 := Y21.free 1
   have f22 := Y21.free 2
   show wpAnyH _ _ _ _ _ 2 _ _ _
   simp only [act2, List.setIfInBounds_toArray, List.set_cons_zero, List.set_cons_succ]
   refine wpAnyH_ready (rs := [6]) (by kernel_rfl) (by simp) ?_
   refine AllReadyH.cons rfl (fun K hK => ?_) AllReadyH.nil
   try simp only [List.getElem_toArray, List.getElem_cons_succ, List.getElem_cons_zero]
   go_simp
   refine hK.out _ _ ⟨A1.four, C1.four⟩ (fun hHeld2 => ?_)
   clear hK K hHeld2
   refine wpAnyH_ready (rs := [7]) (by kernel_rfl) (by simp) ?_
   refine AllReadyH.cons rfl (fun K hK => ?_) AllReadyH.nil
   try simp only [List.getElem_toArray, List.getElem_cons_succ, List.getElem_cons_zero]
   clear h10 h11 h12 f10 f11 f12
   go_simp
   refine hK.out _ _ ⟨A2.four, C2.four⟩ (fun hHeld2 => ?_)
   clear hK K hHeld2
   clear h20 h21 h22 f20 f21 f22 A1 A2 C1 C2 Y11 Y21 RAz RBz X1 X2
   refine wpAnyH_done (by kernel_rfl) ?_ _
   go_wp2_with fail
   go_meet
   exact ⟨n1, n2, p1, k1, p4, k4, p2, k2, p5, k5, rfl, rfl, d12, m1, m2, Y12, Y22, (D1n.same SC).arg (fun _ _ => Nat.zero_le _), (D1d.same SC).arg (fun _ _ => Nat.zero_le _), (D2n.same SC).arg (fun _ _ => Nat.zero_le _), (D2d.same SC).arg (fun _ _ => Nat.zero_le _), BC⟩
 case rest =>
   obtain ⟨w5, rfl⟩ : ∃ w5 : World, w5 = wc := ⟨_, rfl⟩
   obtain ⟨n1, n2, p1, k1, p4, k4, p2, k2, p5, k5, rfl, rfl, d12, m1, m2, X1, X2, E1, E2, E3, E4, BC⟩ := hcut
   have RA5 := RA.keep BC
   have RT5 := RT.keep BC
   have RZ5 := RZ.keep BC
   have BW5 := Lib.hid (bl_then BW.out BC)
   have lT := RT.lt
   have BW7s := BW.out.size
   have lZ := RZ.lt
   have nt1 : ¬ n1 = w.heap.size + 1 + 1 := by omega
   have nt1' : ¬ w.heap.size + 1 + 1 = n1 := by omega
   have nz1 : ¬ n1 = w.heap.size + 1 + 1 + 1 := by omega
   have nz1' : ¬ w.heap.size + 1 + 1 + 1 = n1 := by omega
   have HAX : Hid (RArg 0 w5 (reV (decide (a.n < 0)) (.slice p1 (digs a.num.natAbs).length k1) (.slice p4 (digs a.den).length k4)) (decide (a.n < 0)) a.num.natAbs a.den) := Lib.hid ⟨_, _, rfl, E1, E2⟩
   have HBX : Hid (RArg 0 w5 (reV (decide (b.n < 0)) (.slice p2 (digs b.num.natAbs).length k2) (.slice p5 (digs b.den).length k5)) (decide (b.n < 0)) b.num.natAbs b.den) := Lib.hid ⟨_, _, rfl, E3, E4⟩
   clear E1 E2 E3 E4 BC RA RB RT RZ BW HOA HOB  a0 a1 a2 a3 b0 b1 b2 b3 RA5 la lb da db ra rb ka kb hT
   obtain ⟨x0, x1, x2⟩ := X1.ex
   obtain ⟨y0, y1, y2⟩ := X2.ex
   have f0 := X1.free 0
   have f1 := X1.free 1
   have f2 := X1.free 2
   go_upto_region 13 with (fail)
   obtain ⟨x0, x1, x2⟩ := X1.drew.ex
   refine wp_region_held_drew (S := fun w' => w'.cell? ⟨n2, 0, none⟩ = some (.bool (decide (b.n < 0))) ∧ w'.cell? ⟨n2, 1, none⟩ = some (.slice p2 (digs b.num.natAbs).length k2) ∧ w'.cell? ⟨n2, 2, none⟩ = some (.slice p5 (digs b.den).length k5)) (by kernel_rfl) ?_ (fun hHeld => ?_)
   · exact X2.drew.ex
   first
     | (refine wpAnyH_take (i := 1) (v := undef) rfl (by kernel_rfl) (by kernel_rfl) (by kernel_rfl) (fun _ _ _ h => h) (Or.inr ⟨by rfl, rfl⟩) (by assumption) ?_)
     | (refine wpAnyH_take (i := 1) (v := ?_) rfl (by kernel_rfl) (by kernel_rfl) (by kernel_rfl) (fun _ _ _ h => h) (Or.inl ⟨by rfl, ?_⟩) (by assumption) ?_; rotate_left; (· intro w hSw; (try dsimp only at hSw); go_simp; (try with_reducible rfl)))
   try simp only [Act.put, List.setIfInBounds_toArray, List.set_cons_zero, List.set_cons_succ, List.getElem_toArray, List.getElem_cons_succ, List.getElem_cons_zero]
   refine wpAnyH_ready (rs := [0, 2]) (by kernel_rfl) (by simp) ?_
   refine AllReadyH.cons rfl (fun K hK => ?_) (AllReadyH.cons rfl (fun K hK => ?_) (AllReadyH.nil))
   · try simp only [List.getElem_toArray, List.getElem_cons_zero]
     go_simp
     refine hK.out _ _ ?_ (fun hHeld2 => ?_)
     · exact X2.drew.ex
     clear hK K hHeld
     have hHeld := hHeld2
     clear hHeld2
     try simp only [Act.put, List.setIfInBounds_toArray, List.set_cons_zero, List.set_cons_succ, List.getElem_toArray, List.getElem_cons_succ, List.getElem_cons_zero]
     refine wpAnyH_ready (rs := [2]) (by kernel_rfl) (by simp) ?_
     refine AllReadyH.cons rfl (fun K hK => ?_) AllReadyH.nil
     try simp only [List.getElem_toArray, List.getElem_cons_succ, List.getElem_cons_zero]
     first
       | (go_at_call 38; refine (HT.out _ _ (HBX.out.keep (Below.refl _ w5).drew (Nat.le_refl _))).mono ?_; rintro e w51 ⟨v51, rfl, T51, hb⟩; have b51 := Lib.hid (undrew hb); obtain ⟨pt, kt, qt, lt, rfl⟩ := T51.open; have T51 := Lib.hid T51; have X51 := X1.keep b51.out; have Y51 := X2.keep b51.out; have RT51 := RT5.keep b51.out; have RZ51 := RZ5.keep b51.out; have BW51 := Lib.hid (bl_then BW5.out b51.out); have HAX51 := Lib.hid (HAX.out.keep b51.out (Nat.le_refl _)); have s51 := b51.out.size; clear hb; obtain ⟨x0, x1, x2⟩ := X51.ex)
       | (go_simp; (go_at_call 38; refine (HT.out _ _ (HBX.out.keep (Below.refl _ w5).drew (Nat.le_refl _))).mono ?_; rintro e w51 ⟨v51, rfl, T51, hb⟩; have b51 := Lib.hid (undrew hb); obtain ⟨pt, kt, qt, lt, rfl⟩ := T51.open; have T51 := Lib.hid T51; have X51 := X1.keep b51.out; have Y51 := X2.keep b51.out; have RT51 := RT5.keep b51.out; have RZ51 := RZ5.keep b51.out; have BW51 := Lib.hid (bl_then BW5.out b51.out); have HAX51 := Lib.hid (HAX.out.keep b51.out (Nat.le_refl _)); have s51 := b51.out.size; clear hb; obtain ⟨x0, x1, x2⟩ := X51.ex))
     try go_wp2_with fail
     refine hK.out _ _ ?_ (fun hHeld2 => ?_)
     · exact (Y51).ex
     clear hK K hHeld
     have hHeld := hHeld2
     clear hHeld2
     try simp only [Act.put, List.setIfInBounds_toArray, List.set_cons_zero, List.set_cons_succ, List.getElem_toArray, List.getElem_cons_succ, List.getElem_cons_zero]
     refine wpAnyH_ready (rs := [3]) (by kernel_rfl) (by simp) ?_
     refine AllReadyH.cons rfl (fun K hK => ?_) AllReadyH.nil
     try simp only [List.getElem_toArray, List.getElem_cons_succ, List.getElem_cons_zero]
     first
       | (go_at_call 37; refine (HOP.out _ _ _ HAX51.out T51.out).mono ?_; rintro e w6 ⟨v6, rfl, R6, hb6⟩; have X6 := X51.keep hb6; have Y6 := Y51.keep hb6; have RT6 := RT51.keep hb6; have RZ6 := RZ51.keep hb6; have BW6 := Lib.hid (bl_then BW51.out hb6); have hs6 := X51.lt; obtain ⟨p6, k6, q6, l6, rfl⟩ := R6.open; have R6 := Lib.hid R6; clear hb6; obtain ⟨x0, x1, x2⟩ := X6.ex; have f0 := X6.free 0; have f1 := X6.free 1; have f2 := X6.free 2)
       | (go_simp; (go_at_call 37; refine (HOP.out _ _ _ HAX51.out T51.out).mono ?_; rintro e w6 ⟨v6, rfl, R6, hb6⟩; have X6 := X51.keep hb6; have Y6 := Y51.keep hb6; have RT6 := RT51.keep hb6; have RZ6 := RZ51.keep hb6; have BW6 := Lib.hid (bl_then BW51.out hb6); have hs6 := X51.lt; obtain ⟨p6, k6, q6, l6, rfl⟩ := R6.open; have R6 := Lib.hid R6; clear hb6; obtain ⟨x0, x1, x2⟩ := X6.ex; have f0 := X6.free 0; have f1 := X6.free 1; have f2 := X6.free 2))
     try go_wp2_with fail
     refine hK.out _ _ ?_ (fun hHeld2 => ?_)
     · exact (Y6).ex
     clear hK K hHeld
     have hHeld := hHeld2
     clear hHeld2
     try simp only [Act.put, List.setIfInBounds_toArray, List.set_cons_zero, List.set_cons_succ, List.getElem_toArray, List.getElem_cons_succ, List.getElem_cons_zero]
     have Y7 := Y6.set3 d12 (.bool NG) (.slice p6 (digs NU).length k6) (.slice q6 (digs DE).length l6)
     refine wpAnyH_ready (rs := [4]) (by kernel_rfl) (by simp) ?_
     refine AllReadyH.cons rfl (fun K hK => ?_) AllReadyH.nil
     try simp only [List.getElem_toArray, List.getElem_cons_succ, List.getElem_cons_zero]
     go_simp
     refine hK.out _ _ ?_ (fun hHeld2 => ?_)
     · exact (Y7).ex
     clear hK K hHeld
     have hHeld := hHeld2
     clear hHeld2
     try simp only [Act.put, List.setIfInBounds_toArray, List.set_cons_zero, List.set_cons_succ, List.getElem_toArray, List.getElem_cons_succ, List.getElem_cons_zero]
     refine wpAnyH_done (by kernel_rfl) ?_ _
     clear Y51 Y6 Y7 X51 RT51 RZ51 BW51 HAX51 T51 HT
     try go_upto_region 16 with (fail)
     have hn1 : w.heap.size ≤ n1 := by have := BW7s; omega
     have X7 := X6.pute (.bool NG) (.slice p6 (digs NU).length k6) (.slice q6 (digs DE).length l6)
     have RT7 := RT6.set3 nt1 (.bool NG) (.slice p6 (digs NU).length k6) (.slice q6 (digs DE).length l6)
     have RZ7 := RZ6.set3 nz1 (.bool NG) (.slice p6 (digs NU).length k6) (.slice q6 (digs DE).length l6)
     have R7 : Hid (RArg 0 _ _ NG NU DE) := Lib.hid ((((R6.out.setc (q := ⟨n1, 0, none⟩) hs6 (.bool NG)).setc (q := ⟨n1, 1, none⟩) hs6 (.slice p6 (digs NU).length k6)).setc (q := ⟨n1, 2, none⟩) hs6 (.slice q6 (digs DE).length l6)).base (Nat.zero_le _))
     have BW7 := Lib.hid (((BW6.out.setCell (p := ⟨n1, 0, none⟩) hn1 (.bool NG)).setCell (p := ⟨n1, 1, none⟩) hn1 (.slice p6 (digs NU).length k6)).setCell (p := ⟨n1, 2, none⟩) hn1 (.slice q6 (digs DE).length l6))
     generalize hw7 : ((w6.setCell ⟨n1, 0, none⟩ (.bool NG)).setCell ⟨n1, 1, none⟩ (.slice p6 (digs NU).length k6)).setCell ⟨n1, 2, none⟩ (.slice q6 (digs DE).length l6) = w7 at *
     have lX7 := X7.lt
     have lT7 := RT7.lt
     have lZ7 := RZ7.lt
     clear hw7 X6 RT6 RZ6 R6 BW6 x0 x1 x2 f0 f1 f2
     obtain ⟨x0, x1, x2⟩ := X7.ex
     obtain ⟨t0, t1, t2, t3, t4, t5⟩ := RT7.six
     go_upto_region 17 with (go_at_call 36; refine (HFIT.out _ _ R7.out).mono ?_; rintro e w8 ⟨N, Q, c, ⟨rfl, hb⟩, hf⟩; have hf := Lib.hid hf; have RV8 := Row.new w8 (vaC 0 0 0 ⟨#[]⟩) 23; have RV9 := Row.new w8 #[.int .i64 k, .int .i64 N, .int .i64 Q, .string ⟨#[]⟩] 23; have RZ9 := (RZ7.keep hb).alloc (.cells #[.int .i64 k, .int .i64 N, .int .i64 Q, .string ⟨#[]⟩] 23); have BW9 := Lib.hid ((bl_then BW7.out hb).alloc (bl_then BW7.out hb).size (.cells #[.int .i64 k, .int .i64 N, .int .i64 Q, .string ⟨#[]⟩] 23)); have lZ8 := (RZ7.keep hb).lt; obtain ⟨v0, v1, v2, v3⟩ := RV8.four; have g0 := RV8.free 0; have g1 := RV8.free 1; have g2 := RV8.free 2; have g3 := RV8.free 3; clear hb)
     clear v0 v1 v2 v3 g0 g1 g2 g3 RV8 X7 RT7 RZ7 BW7 R7 HFIT x0 x1 x2 t0 t1 t2 t3 t4 t5
     obtain ⟨v0, v1, v2, v3⟩ := RV9.four
     obtain ⟨z0, z1, z2, z3⟩ := RZ9.four
     have g0 := RZ9.free 0
     have g1 := RZ9.free 1
     have g2 := RZ9.free 2
     have g3 := RZ9.free 3
     clear RV9 RZ9
     generalize (w8.alloc (.cells #[.int .i64 k, .int .i64 N, .int .i64 Q, .string ⟨#[]⟩] 23)) = we at *
     iterate 90 (first | go_values | go_skip | go_guarded | go_step | go_upon | go_simp | skip)
     refine bodyPost_ret (v := .tuple #[valV k N Q ⟨#[]⟩, .int .i64 c, .int .i64 0]) (by simp [results, Tryz.results30, go_sem, z0, z1, z2, z3]) rfl ⟨N, Q, c, ⟨rfl, ?_⟩, hf.out⟩
     (repeat refine Below.setCell ?_ (by simp <;> omega) _)
     exact BW9.out
   · try simp only [List.getElem_toArray, List.getElem_cons_succ, List.getElem_cons_zero]
     first
       | (go_at_call 38; refine (HT.out _ _ (HBX.out.keep (Below.refl _ w5).drew (Nat.le_refl _))).mono ?_; rintro e w51 ⟨v51, rfl, T51, hb⟩; have b51 := Lib.hid (undrew hb); obtain ⟨pt, kt, qt, lt, rfl⟩ := T51.open; have T51 := Lib.hid T51; have X51 := X1.keep b51.out; have Y51 := X2.keep b51.out; have RT51 := RT5.keep b51.out; have RZ51 := RZ5.keep b51.out; have BW51 := Lib.hid (bl_then BW5.out b51.out); have HAX51 := Lib.hid (HAX.out.keep b51.out (Nat.le_refl _)); have s51 := b51.out.size; clear hb; obtain ⟨x0, x1, x2⟩ := X51.ex)
       | (go_simp; (go_at_call 38; refine (HT.out _ _ (HBX.out.keep (Below.refl _ w5).drew (Nat.le_refl _))).mono ?_; rintro e w51 ⟨v51, rfl, T51, hb⟩; have b51 := Lib.hid (undrew hb); obtain ⟨pt, kt, qt, lt, rfl⟩ := T51.open; have T51 := Lib.hid T51; have X51 := X1.keep b51.out; have Y51 := X2.keep b51.out; have RT51 := RT5.keep b51.out; have RZ51 := RZ5.keep b51.out; have BW51 := Lib.hid (bl_then BW5.out b51.out); have HAX51 := Lib.hid (HAX.out.keep b51.out (Nat.le_refl _)); have s51 := b51.out.size; clear hb; obtain ⟨x0, x1, x2⟩ := X51.ex))
     try go_wp2_with fail
     refine hK.out _ _ ?_ (fun hHeld2 => ?_)
     · exact (Y51).ex
     clear hK K hHeld
     have hHeld := hHeld2
     clear hHeld2
     try simp only [Act.put, List.setIfInBounds_toArray, List.set_cons_zero, List.set_cons_succ, List.getElem_toArray, List.getElem_cons_succ, List.getElem_cons_zero]
     refine wpAnyH_ready (rs := [0]) (by kernel_rfl) (by simp) ?_
     refine AllReadyH.cons rfl (fun K hK => ?_) AllReadyH.nil
     try simp only [List.getElem_toArray, List.getElem_cons_zero]
     go_simp
     refine hK.out _ _ ?_ (fun hHeld2 => ?_)
     · exact (Y51).ex
     clear hK K hHeld
     have hHeld := hHeld2
     clear hHeld2
     try simp only [Act.put, List.setIfInBounds_toArray, List.set_cons_zero, List.set_cons_succ, List.getElem_toArray, List.getElem_cons_succ, List.getElem_cons_zero]
     refine wpAnyH_ready (rs := [3]) (by kernel_rfl) (by simp) ?_
     refine AllReadyH.cons rfl (fun K hK => ?_) AllReadyH.nil
     try simp only [List.getElem_toArray, List.getElem_cons_succ, List.getElem_cons_zero]
     first
       | (go_at_call 37; refine (HOP.out _ _ _ HAX51.out T51.out).mono ?_; rintro e w6 ⟨v6, rfl, R6, hb6⟩; have X6 := X51.keep hb6; have Y6 := Y51.keep hb6; have RT6 := RT51.keep hb6; have RZ6 := RZ51.keep hb6; have BW6 := Lib.hid (bl_then BW51.out hb6); have hs6 := X51.lt; obtain ⟨p6, k6, q6, l6, rfl⟩ := R6.open; have R6 := Lib.hid R6; clear hb6; obtain ⟨x0, x1, x2⟩ := X6.ex; have f0 := X6.free 0; have f1 := X6.free 1; have f2 := X6.free 2)
       | (go_simp; (go_at_call 37; refine (HOP.out _ _ _ HAX51.out T51.out).mono ?_; rintro e w6 ⟨v6, rfl, R6, hb6⟩; have X6 := X51.keep hb6; have Y6 := Y51.keep hb6; have RT6 := RT51.keep hb6; have RZ6 := RZ51.keep hb6; have BW6 := Lib.hid (bl_then BW51.out hb6); have hs6 := X51.lt; obtain ⟨p6, k6, q6, l6, rfl⟩ := R6.open; have R6 := Lib.hid R6; clear hb6; obtain ⟨x0, x1, x2⟩ := X6.ex; have f0 := X6.free 0; have f1 := X6.free 1; have f2 := X6.free 2))
     try go_wp2_with fail
     refine hK.out _ _ ?_ (fun hHeld2 => ?_)
     · exact (Y6).ex
     clear hK K hHeld
     have hHeld := hHeld2
     clear hHeld2
     try simp only [Act.put, List.setIfInBounds_toArray, List.set_cons_zero, List.set_cons_succ, List.getElem_toArray, List.getElem_cons_succ, List.getElem_cons_zero]
     have Y7 := Y6.set3 d12 (.bool NG) (.slice p6 (digs NU).length k6) (.slice q6 (digs DE).length l6)
     refine wpAnyH_ready (rs := [4]) (by kernel_rfl) (by simp) ?_
     refine AllReadyH.cons rfl (fun K hK => ?_) AllReadyH.nil
     try simp only [List.getElem_toArray, List.getElem_cons_succ, List.getElem_cons_zero]
     go_simp
     refine hK.out _ _ ?_ (fun hHeld2 => ?_)
     · exact (Y7).ex
     clear hK K hHeld
     have hHeld := hHeld2
     clear hHeld2
     try simp only [Act.put, List.setIfInBounds_toArray, List.set_cons_zero, List.set_cons_succ, List.getElem_toArray, List.getElem_cons_succ, List.getElem_cons_zero]
     refine wpAnyH_done (by kernel_rfl) ?_ _
     clear Y51 Y6 Y7 X51 RT51 RZ51 BW51 HAX51 T51 HT
     try go_upto_region 16 with (fail)
     have hn1 : w.heap.size ≤ n1 := by have := BW7s; omega
     have X7 := X6.pute (.bool NG) (.slice p6 (digs NU).length k6) (.slice q6 (digs DE).length l6)
     have RT7 := RT6.set3 nt1 (.bool NG) (.slice p6 (digs NU).length k6) (.slice q6 (digs DE).length l6)
     have RZ7 := RZ6.set3 nz1 (.bool NG) (.slice p6 (digs NU).length k6) (.slice q6 (digs DE).length l6)
     have R7 : Hid (RArg 0 _ _ NG NU DE) := Lib.hid ((((R6.out.setc (q := ⟨n1, 0, none⟩) hs6 (.bool NG)).setc (q := ⟨n1, 1, none⟩) hs6 (.slice p6 (digs NU).length k6)).setc (q := ⟨n1, 2, none⟩) hs6 (.slice q6 (digs DE).length l6)).base (Nat.zero_le _))
     have BW7 := Lib.hid (((BW6.out.setCell (p := ⟨n1, 0, none⟩) hn1 (.bool NG)).setCell (p := ⟨n1, 1, none⟩) hn1 (.slice p6 (digs NU).length k6)).setCell (p := ⟨n1, 2, none⟩) hn1 (.slice q6 (digs DE).length l6))
     generalize hw7 : ((w6.setCell ⟨n1, 0, none⟩ (.bool NG)).setCell ⟨n1, 1, none⟩ (.slice p6 (digs NU).length k6)).setCell ⟨n1, 2, none⟩ (.slice q6 (digs DE).length l6) = w7 at *
     have lX7 := X7.lt
     have lT7 := RT7.lt
     have lZ7 := RZ7.lt
     clear hw7 X6 RT6 RZ6 R6 BW6 x0 x1 x2 f0 f1 f2
     obtain ⟨x0, x1, x2⟩ := X7.ex
     obtain ⟨t0, t1, t2, t3, t4, t5⟩ := RT7.six
     go_upto_region 17 with (go_at_call 36; refine (HFIT.out _ _ R7.out).mono ?_; rintro e w8 ⟨N, Q, c, ⟨rfl, hb⟩, hf⟩; have hf := Lib.hid hf; have RV8 := Row.new w8 (vaC 0 0 0 ⟨#[]⟩) 23; have RV9 := Row.new w8 #[.int .i64 k, .int .i64 N, .int .i64 Q, .string ⟨#[]⟩] 23; have RZ9 := (RZ7.keep hb).alloc (.cells #[.int .i64 k, .int .i64 N, .int .i64 Q, .string ⟨#[]⟩] 23); have BW9 := Lib.hid ((bl_then BW7.out hb).alloc (bl_then BW7.out hb).size (.cells #[.int .i64 k, .int .i64 N, .int .i64 Q, .string ⟨#[]⟩] 23)); have lZ8 := (RZ7.keep hb).lt; obtain ⟨v0, v1, v2, v3⟩ := RV8.four; have g0 := RV8.free 0; have g1 := RV8.free 1; have g2 := RV8.free 2; have g3 := RV8.free 3; clear hb)
     clear v0 v1 v2 v3 g0 g1 g2 g3 RV8 X7 RT7 RZ7 BW7 R7 HFIT x0 x1 x2 t0 t1 t2 t3 t4 t5
     obtain ⟨v0, v1, v2, v3⟩ := RV9.four
     obtain ⟨z0, z1, z2, z3⟩ := RZ9.four
     have g0 := RZ9.free 0
     have g1 := RZ9.free 1
     have g2 := RZ9.free 2
     have g3 := RZ9.free 3
     clear RV9 RZ9
     generalize (w8.alloc (.cells #[.int .i64 k, .int .i64 N, .int .i64 Q, .string ⟨#[]⟩] 23)) = we at *
     iterate 90 (first | go_values | go_skip | go_guarded | go_step | go_upon | go_simp | skip)
     refine bodyPost_ret (v := .tuple #[valV k N Q ⟨#[]⟩, .int .i64 c, .int .i64 0]) (by simp [results, Tryz.results30, go_sem, z0, z1, z2, z3]) rfl ⟨N, Q, c, ⟨rfl, ?_⟩, hf.out⟩
     (repeat refine Below.setCell ?_ (by simp <;> omega) _)
     exact BW9.out
theorem ord_sgnZ {a b : Va} {LN : Nat} {G NT : Bool} (_kb : b.number) (hNT : (!decide (b.n < 0) && decide (0 < b.num.natAbs)) = NT) (hL : (digs (bothNum (decide (a.n < 0)) NT (a.num.natAbs * b.den) (b.num.natAbs * a.den))).length = LN) (hG : bothNeg (decide (a.n < 0)) NT (a.num.natAbs * b.den) (b.num.natAbs * a.den) = G) :
   sgnZ (a.num * b.den - b.num * a.den) = if LN = 0 then 0 else if G = true then -1 else 1 := by
 have e : a.num * b.den - b.num * a.den = sgn G (bothNum (decide (a.n < 0)) NT (a.num.natAbs * b.den) (b.num.natAbs * a.den)) := by
   rw [← hG, both_sgn, ← hNT, turn_sgn, sgn_mul, sgn_mul, num_sgn, num_sgn]
   omega
 have hp : G = true → 0 < bothNum (decide (a.n < 0)) NT (a.num.natAbs * b.den) (b.num.natAbs * a.den) := fun h => both_pos (hG.trans h) (fun h2 => Nat.mul_pos (by rw [← hNT, Bool.and_eq_true] at h2; exact of_decide_eq_true h2.2) a.den_pos)
 rw [e]
 generalize bothNum (decide (a.n < 0)) NT (a.num.natAbs * b.den) (b.num.natAbs * a.den) = M at *
 by_cases h0 : 0 < M
 · have h1 := digs_len_pos h0
   rw [if_neg (by omega)]
   cases G
   · rw [show sgn false M = (M : Int) from rfl, if_neg (by decide)]
     unfold sgnZ
     rw [if_neg (by omega), if_neg (by omega)]
   · rw [show sgn true M = -(M : Int) from rfl, if_pos rfl]
     unfold sgnZ
     rw [if_pos (by omega)]
 · have h1 : M = 0 := by omega
   subst h1
   rw [digs_zero] at hL
   have h2 : LN = 0 := hL.symm
   rw [if_pos h2]
   cases G <;> rfl
set_option maxRecDepth 100000 in
set_option maxHeartbeats 4000000 in
theorem rcompare_num {a b : Va} (ra : a.right) (rb : b.right) (ka : a.number) (kb : b.number) (la : (digs a.num.natAbs).length ≤ 120) (lb : (digs b.num.natAbs).length ≤ 120) (da : (digs a.den).length ≤ 120) (db : (digs b.den).length ≤ 120) (hN : ∀ (c cap : Nat) (W : World), VasAt W c 0 [a, b] → c < W.heap.size → Calls Tryz.prog 25 #[.slice (some ⟨c, 0, none⟩) 2 cap] W fun e w' => e = .returned (.int .i64 0) ∧ Below W.heap.size W w') (w : World) :
   Calls Tryz.prog 7 #[a.v, b.v] w fun e w' => e = .returned (.tuple #[.int .i64 (sgnZ (a.num * b.den - b.num * a.den)), .int .i64 0]) ∧ Below w.heap.size w w' := by
 have HOA : Hid (∀ W, Calls Tryz.prog 27 #[a.v] W (GivesR W (decide (a.n < 0)) a.num.natAbs a.den)) := Lib.hid fun W => of_va a W ra ka
 have HOB : Hid (∀ W, Calls Tryz.prog 27 #[b.v] W (GivesR W (decide (b.n < 0)) b.num.natAbs b.den)) := Lib.hid fun W => of_va b W rb kb
 have HO : Hid (∀ (v1 v2 : Value) (W : World), RArg 0 W v1 (decide (a.n < 0)) a.num.natAbs a.den → RArg 0 W v2 (decide (b.n < 0)) b.num.natAbs b.den → Calls Tryz.prog 26 #[v1, v2] W fun e w' => e = .returned (.int .i64 (sgnZ (a.num * b.den - b.num * a.den))) ∧ Below W.heap.size W w') := Lib.hid fun v1 v2 W h1 h2 =>
   order_x h1 h2 (by omega) (by omega) (by omega) (by omega) a.den_pos b.den_pos (num_pos ka) (fun h => by rw [Bool.and_eq_true] at h; exact of_decide_eq_true h.2) rfl rfl rfl (ord_sgnZ kb rfl rfl rfl)
 generalize sgnZ (a.num * b.den - b.num * a.den) = o at *
 have HN := Lib.hid hN
 clear hN
 have RA := (Row.new w (vaC a.k a.n a.q a.s) 23).alloc (.cells (vaC b.k b.n b.q b.s) 23)
 have RB := Row.new2 w (.cells (vaC a.k a.n a.q a.s) 23) (vaC b.k b.n b.q b.s) 23
 go_enter Tryz.func7, Tryz.ntmps7
 go_upto_region 1 with (fail)
 generalize hw : (w.alloc (.cells (vaC a.k a.n a.q a.s) 23)).alloc (.cells (vaC b.k b.n b.q b.s) 23) = W at *
 have B0 : Hid (Below w.heap.size w W) := by show Below _ _ _; rw [← hw]; go_grown
 clear hw
 obtain ⟨a0, a1, a2, a3⟩ := RA.four
 obtain ⟨b0, b1, b2, b3⟩ := RB.four
 have RN := Row.new W #[.int .i64 a.k, .int .i64 a.n, .int .i64 a.q, .string a.s, .int .i64 b.k, .int .i64 b.n, .int .i64 b.q, .string b.s] 23
 go_upto_region 4 with (go_at_call 25; (refine (HN.out _ _ _ (VasAt.two RN) RN.lt).mono ?_); rintro e W0 ⟨rfl, hb1⟩; have RA := RA.keep (bl_box (Below.refl _ W) hb1); have RB := RB.keep (bl_box (Below.refl _ W) hb1); have BW := Lib.hid (bl_box B0.out hb1); clear hb1)
 clear a0 a1 a2 a3 b0 b1 b2 b3 RN B0 HN
 have B : Hid (Below W0.heap.size W0 W0.drew) := Lib.hid (Below.refl _ W0).drew
 refine wp_region_held_drew (S := fun w' => (w'.cell? ⟨w.heap.size, 0, none⟩ = some (.int .i64 a.k) ∧ w'.cell? ⟨w.heap.size, 1, none⟩ = some (.int .i64 a.n) ∧ w'.cell? ⟨w.heap.size, 2, none⟩ = some (.int .i64 a.q) ∧ w'.cell? ⟨w.heap.size, 3, none⟩ = some (.string a.s)) ∧ (w'.cell? ⟨w.heap.size + 1, 0, none⟩ = some (.int .i64 b.k) ∧ w'.cell? ⟨w.heap.size + 1, 1, none⟩ = some (.int .i64 b.n) ∧ w'.cell? ⟨w.heap.size + 1, 2, none⟩ = some (.int .i64 b.q) ∧ w'.cell? ⟨w.heap.size + 1, 3, none⟩ = some (.string b.s))) (by kernel_rfl) ?_ (fun hHeld => ?_)
 · exact ⟨(RA.keep B.out).four, (RB.keep B.out).four⟩
 first
   | (refine wpAnyH_take (i := 0) (v := undef) rfl (by kernel_rfl) (by kernel_rfl) (by kernel_rfl) (fun _ _ _ h => h) (Or.inr ⟨by rfl, rfl⟩) (by assumption) ?_)
   | (refine wpAnyH_take (i := 0) (v := ?_) rfl (by kernel_rfl) (by kernel_rfl) (by kernel_rfl) (fun _ _ _ h => h) (Or.inl ⟨by rfl, ?_⟩) (by assumption) ?_; rotate_left; (· intro w hSw; (try dsimp only at hSw); go_simp; (try with_reducible rfl)))
 try simp only [Act.put, List.setIfInBounds_toArray, List.set_cons_zero, List.set_cons_succ, List.getElem_toArray, List.getElem_cons_zero]
 first
   | (refine wpAnyH_take (i := 2) (v := undef) rfl (by kernel_rfl) (by kernel_rfl) (by kernel_rfl) (fun _ _ _ h => h) (Or.inr ⟨by rfl, rfl⟩) (by assumption) ?_)
   | (refine wpAnyH_take (i := 2) (v := ?_) rfl (by kernel_rfl) (by kernel_rfl) (by kernel_rfl) (fun _ _ _ h => h) (Or.inl ⟨by rfl, ?_⟩) (by assumption) ?_; rotate_left; (· intro w hSw; (try dsimp only at hSw); go_simp; (try with_reducible rfl)))
 try simp only [Act.put, List.setIfInBounds_toArray, List.set_cons_zero, List.set_cons_succ, List.getElem_toArray, List.getElem_cons_succ, List.getElem_cons_zero]
 refine wpAnyH_ready (rs := [1]) (by kernel_rfl) (by simp) ?_
 refine AllReadyH.cons rfl (fun K hK => ?_) AllReadyH.nil
 try simp only [List.getElem_toArray, List.getElem_cons_succ, List.getElem_cons_zero]
 first
   | (go_at_call 27; refine (HOA.out _).mono ?_; rintro e w2 ⟨v2, rfl, X2, hb⟩; have B := Lib.hid (B.out.trans (hb.mono B.out.size)); obtain ⟨p2, k2, q2, l2, rfl⟩ := X2.open; have X2 := Lib.hid (X2.base (Nat.zero_le _)); clear hb)
   | (go_simp; (go_at_call 27; refine (HOA.out _).mono ?_; rintro e w2 ⟨v2, rfl, X2, hb⟩; have B := Lib.hid (B.out.trans (hb.mono B.out.size)); obtain ⟨p2, k2, q2, l2, rfl⟩ := X2.open; have X2 := Lib.hid (X2.base (Nat.zero_le _)); clear hb))
 try go_wp2_with fail
 refine hK.out _ _ ?_ (fun hHeld2 => ?_)
 · exact ⟨(RA.keep B.out).four, (RB.keep B.out).four⟩
 clear hK K hHeld
 have hHeld := hHeld2
 clear hHeld2
 try simp only [Act.put, List.setIfInBounds_toArray, List.set_cons_zero, List.set_cons_succ, List.getElem_toArray, List.getElem_cons_succ, List.getElem_cons_zero]
 refine wpAnyH_ready (rs := [3]) (by kernel_rfl) (by simp) ?_
 refine AllReadyH.cons rfl (fun K hK => ?_) AllReadyH.nil
 try simp only [List.getElem_toArray, List.getElem_cons_succ, List.getElem_cons_zero]
 first
   | (go_at_call 27; refine (HOB.out _).mono ?_; rintro e w3 ⟨v3, rfl, Y3, hb⟩; have B := Lib.hid (B.out.trans (hb.mono B.out.size)); obtain ⟨p3, k3, q3, l3, rfl⟩ := Y3.open; have Y3 := Lib.hid (Y3.base (Nat.zero_le _)); have X3 := Lib.hid (X2.out.keep hb (Nat.le_refl _)); clear hb)
   | (go_simp; (go_at_call 27; refine (HOB.out _).mono ?_; rintro e w3 ⟨v3, rfl, Y3, hb⟩; have B := Lib.hid (B.out.trans (hb.mono B.out.size)); obtain ⟨p3, k3, q3, l3, rfl⟩ := Y3.open; have Y3 := Lib.hid (Y3.base (Nat.zero_le _)); have X3 := Lib.hid (X2.out.keep hb (Nat.le_refl _)); clear hb))
 try go_wp2_with fail
 refine hK.out _ _ ?_ (fun hHeld2 => ?_)
 · exact ⟨(RA.keep B.out).four, (RB.keep B.out).four⟩
 clear hK K hHeld
 have hHeld := hHeld2
 clear hHeld2
 try simp only [Act.put, List.setIfInBounds_toArray, List.set_cons_zero, List.set_cons_succ, List.getElem_toArray, List.getElem_cons_succ, List.getElem_cons_zero]
 refine wpAnyH_ready (rs := [4]) (by kernel_rfl) (by simp) ?_
 refine AllReadyH.cons rfl (fun K hK => ?_) AllReadyH.nil
 try simp only [List.getElem_toArray, List.getElem_cons_succ, List.getElem_cons_zero]
 first
   | (go_at_call 26; refine (HO.out _ _ _ X3.out Y3.out).mono ?_; rintro e w4 ⟨rfl, hb⟩; have B := Lib.hid (B.out.trans (hb.mono B.out.size)); clear hb)
   | (go_simp; (go_at_call 26; refine (HO.out _ _ _ X3.out Y3.out).mono ?_; rintro e w4 ⟨rfl, hb⟩; have B := Lib.hid (B.out.trans (hb.mono B.out.size)); clear hb))
 try go_wp2_with fail
 refine hK.out _ _ ?_ (fun hHeld2 => ?_)
 · exact ⟨(RA.keep B.out).four, (RB.keep B.out).four⟩
 clear hK K hHeld
 have hHeld := hHeld2
 clear hHeld2
 try simp only [Act.put, List.setIfInBounds_toArray, List.set_cons_zero, List.set_cons_succ, List.getElem_toArray, List.getElem_cons_succ, List.getElem_cons_zero]
 first
   | (refine wpAnyH_take (i := 5) (v := undef) rfl (by kernel_rfl) (by kernel_rfl) (by kernel_rfl) (fun _ _ _ h => h) (Or.inr ⟨by rfl, rfl⟩) (by assumption) ?_)
   | (refine wpAnyH_take (i := 5) (v := ?_) rfl (by kernel_rfl) (by kernel_rfl) (by kernel_rfl) (fun _ _ _ h => h) (Or.inl ⟨by rfl, ?_⟩) (by assumption) ?_; rotate_left; (· intro w hSw; (try dsimp only at hSw); go_simp; (try with_reducible rfl)))
 try simp only [Act.put, List.setIfInBounds_toArray, List.set_cons_zero, List.set_cons_succ, List.getElem_toArray, List.getElem_cons_succ, List.getElem_cons_zero]
 first
   | (refine wpAnyH_take (i := 6) (v := undef) rfl (by kernel_rfl) (by kernel_rfl) (by kernel_rfl) (fun _ _ _ h => h) (Or.inr ⟨by rfl, rfl⟩) (by assumption) ?_)
   | (refine wpAnyH_take (i := 6) (v := ?_) rfl (by kernel_rfl) (by kernel_rfl) (by kernel_rfl) (fun _ _ _ h => h) (Or.inl ⟨by rfl, ?_⟩) (by assumption) ?_; rotate_left; (· intro w hSw; (try dsimp only at hSw); go_simp; (try with_reducible rfl)))
 try simp only [Act.put, List.setIfInBounds_toArray, List.set_cons_zero, List.set_cons_succ, List.getElem_toArray, List.getElem_cons_succ, List.getElem_cons_zero]
 refine wpAnyH_done (by kernel_rfl) ?_ _
 have HE := Lib.hid (bl_then BW.out B.out)
 clear B RA RB HOA HOB HO hHeld
 go_wp2
 refine bodyPost_ret (v := .tuple #[.int .i64 o, .int .i64 0]) (by simp [results, Tryz.results7, go_sem]) rfl ⟨rfl, HE.out⟩
set_option maxRecDepth 100000 in
set_option maxHeartbeats 4000000 in
theorem rcompare_err {a b : Va} {e0 : Int} (he0 : ¬ e0 = 0) (hN : ∀ (c cap : Nat) (W : World), VasAt W c 0 [a, b] → c < W.heap.size → Calls Tryz.prog 25 #[.slice (some ⟨c, 0, none⟩) 2 cap] W fun e w' => e = .returned (.int .i64 e0) ∧ Below W.heap.size W w') (w : World) :
   Calls Tryz.prog 7 #[a.v, b.v] w fun e w' => e = .returned (.tuple #[.int .i64 0, .int .i64 e0]) ∧ Below w.heap.size w w' := by
 have HN := Lib.hid hN
 clear hN
 have RA := (Row.new w (vaC a.k a.n a.q a.s) 23).alloc (.cells (vaC b.k b.n b.q b.s) 23)
 have RB := Row.new2 w (.cells (vaC a.k a.n a.q a.s) 23) (vaC b.k b.n b.q b.s) 23
 go_enter Tryz.func7, Tryz.ntmps7
 go_upto_region 1 with (fail)
 generalize hw : (w.alloc (.cells (vaC a.k a.n a.q a.s) 23)).alloc (.cells (vaC b.k b.n b.q b.s) 23) = W at *
 have B0 : Hid (Below w.heap.size w W) := by show Below _ _ _; rw [← hw]; go_grown
 clear hw
 obtain ⟨a0, a1, a2, a3⟩ := RA.four
 obtain ⟨b0, b1, b2, b3⟩ := RB.four
 have RN := Row.new W #[.int .i64 a.k, .int .i64 a.n, .int .i64 a.q, .string a.s, .int .i64 b.k, .int .i64 b.n, .int .i64 b.q, .string b.s] 23
 go_wp2_with (go_at_call 25; (refine (HN.out _ _ _ (VasAt.two RN) RN.lt).mono ?_); rintro e W0 ⟨rfl, hb1⟩; have RA := RA.keep (bl_box (Below.refl _ W) hb1); have RB := RB.keep (bl_box (Below.refl _ W) hb1); have BW := Lib.hid (bl_box B0.out hb1); clear hb1)
 refine bodyPost_ret (v := .tuple #[.int .i64 0, .int .i64 e0]) (by simp [results, Tryz.results7, go_sem]) rfl ⟨rfl, BW.out⟩
end Go.Proofs.YtpdoddhieblooaaGreatDoor
