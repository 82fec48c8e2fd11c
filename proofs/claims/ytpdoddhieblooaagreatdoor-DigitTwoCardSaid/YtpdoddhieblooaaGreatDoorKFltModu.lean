/- digit: exact numbers: modulo. -/
import Derived.Test.YtpdoddhieblooaaGreatDoorKFtErrT
import Derived.Test.YtpdoddhieblooaaGreatDoorKFltMod
namespace Go.Proofs.YtpdoddhieblooaaGreatDoor
open Go.RowKit

def moN (a : Int) (u : Nat) (b : Int) (t : Nat) : Int := plN a u (-(b * flN (ovN a b t) (u * b.natAbs))) (t * 1)
def moU (u t : Nat) : Nat := plU u (t * 1)
set_option maxRecDepth 100000 in
set_option maxHeartbeats 8000000 in
theorem modulo_x {P : Nat → Prop} {a b : Int} {u t : Nat} {va vb : Value} {w : World} (hX : XArgP P w va a u) (hY : XArgP P w vb b t) (hP : ∀ c, w.heap.size ≤ c → P c) (hu : 0 < u) (hb : b ≠ 0) (hD : DivOK (ovN a b t).natAbs (u * b.natAbs)) (la : (wrds a.natAbs).length ≤ 900) (lb : (wrds b.natAbs).length ≤ 900) (lu : (wrds u).length ≤ 900) (lt : (wrds t).length ≤ 900) :
   Calls Tryz.prog 33 #[va, vb] w fun e w' => ∃ y, e = .returned y ∧ XArgP P w' y (moN a u b t) (moU u t) ∧ Below w.heap.size w w' := by
 obtain ⟨pa, ka, qa, ma, rfl⟩ := hX.x.open
 obtain ⟨pb, kb, qb, mb, rfl⟩ := hY.x.open
 obtain ⟨Q, hQ⟩ : ∃ Q : Nat → Prop, Q = fun c => P c ∧ c ≠ w.heap.size + 1 + 1 := ⟨_, rfl⟩
 have HX : Hid (XArgP Q w _ a u) := Lib.hid (hX.weak (Q := Q) fun c hc h => by rw [hQ]; exact ⟨h, by omega⟩)
 have HY : Hid (XArgP Q w _ b t) := Lib.hid (hY.weak (Q := Q) fun c hc h => by rw [hQ]; exact ⟨h, by omega⟩)
 have HQ : Hid (∀ c, w.heap.size + 1 + 1 + 1 ≤ c → Q c) := Lib.hid fun c hc => by rw [hQ]; exact ⟨hP c (by omega), by omega⟩
 have HQP : Hid (∀ c, Q c → P c) := Lib.hid fun c hc => by rw [hQ] at hc; exact hc.1
 have HQN : Hid (∀ c, Q c → c ≠ w.heap.size + 1 + 1) := Lib.hid fun c hc => by rw [hQ] at hc; exact hc.2
 have hU0 : 0 < u * b.natAbs := Nat.mul_pos hu (by omega)
 have lN : (wrds (ovN a b t).natAbs).length ≤ 1800 := by rw [ovN_abs]; have := wrds_mul_len a.natAbs t; omega
 have lU : (wrds (u * b.natAbs)).length ≤ 1800 := by have := wrds_mul_len u b.natAbs; omega
 have lF : (wrds (flN (ovN a b t) (u * b.natAbs)).natAbs).length ≤ 1801 := by
   have h1 := flN_abs (ovN a b t) hU0
   have h2 := wrds_le_len h1
   have h3 := wrds_add_len ((ovN a b t).natAbs / (u * b.natAbs)) 1
   have h4 := wrds_le_len (Nat.div_le_self (ovN a b t).natAbs (u * b.natAbs))
   have h5 : (wrds 1).length ≤ 1 := wrds_length 1 1 (by decide)
   omega
 have lo : (wrds 1).length ≤ 1 := wrds_length 1 1 (by decide)
 have lbF : (wrds (b * flN (ovN a b t) (u * b.natAbs)).natAbs).length ≤ 2701 := by
   rw [Int.natAbs_mul]; have := wrds_mul_len b.natAbs (flN (ovN a b t) (u * b.natAbs)).natAbs; omega
 have lt1 : (wrds (t * 1)).length ≤ 900 := by rw [Nat.mul_one]; exact lt
 unfold moN moU
 obtain ⟨N, hN⟩ : ∃ N, ovN a b t = N := ⟨_, rfl⟩
 obtain ⟨U, hU⟩ : ∃ U, u * b.natAbs = U := ⟨_, rfl⟩
 have HOV : Hid (∀ (v1 v2 : Value) (W : World), XArgP Q W v1 a u → XArgP Q W v2 b t → (∀ c, W.heap.size ≤ c → Q c) → Calls Tryz.prog 32 #[v1, v2] W fun e w' => ∃ y, e = .returned y ∧ XArgP Q w' y N U ∧ Below W.heap.size W w') := Lib.hid fun v1 v2 W h1 h2 h3 => by
   rw [← hN, ← hU]; exact over_x h1 h2 h3 (by omega) (by omega) (by omega) (by omega)
 rw [hN, hU] at lF lbF hD ⊢
 rw [hN] at lN
 rw [hU] at lU hU0
 obtain ⟨F, hF⟩ : ∃ F, flN N U = F := ⟨_, rfl⟩
 have HFL : Hid (∀ (v : Value) (W : World), XArgP Q W v N U → Calls Tryz.prog 63 #[v] W (GivesL W F)) := Lib.hid fun v W h => by
   rw [← hF]; exact floor_l h.x hU0 hD (by omega)
 have HIZ : Hid (∀ (v : Value) (W : World), WArg 0 W v U → Calls Tryz.prog 49 #[v] W fun e w' => e = .returned (.bool false) ∧ W = w') := Lib.hid fun v W h => by
   have := isZero_d h (by omega)
   rwa [decide_eq_false (by omega)] at this
 have HNA : Hid (∀ W, Calls Tryz.prog 64 #[.int .i64 1] W (GivesW W 1)) := Lib.hid fun W => natural_d 1 W (by decide)
 rw [hF] at lF lbF ⊢
 obtain ⟨M, hM⟩ : ∃ M, b * F = M := ⟨_, rfl⟩
 obtain ⟨T, hT⟩ : ∃ T, t * 1 = T := ⟨_, rfl⟩
 have HTI : Hid (∀ (v1 v2 : Value) (W : World), XArgP Q W v1 b t → XArgP Q W v2 F 1 → (∀ c, W.heap.size ≤ c → Q c) → Calls Tryz.prog 31 #[v1, v2] W fun e w' => ∃ y, e = .returned y ∧ XArgP Q w' y M T ∧ Below W.heap.size W w') := Lib.hid fun v1 v2 W h1 h2 h3 => by
   rw [← hM, ← hT]; exact times_x h1 h2 h3 (by omega) (by omega) (by omega) (by omega)
 rw [hM] at lbF ⊢
 rw [hT] at lt1 ⊢
 obtain ⟨R, hR⟩ : ∃ R, plN a u (-M) T = R := ⟨_, rfl⟩
 obtain ⟨S, hS⟩ : ∃ S, plU u T = S := ⟨_, rfl⟩
 have HMI : Hid (∀ (v1 v2 : Value) (W : World), XArgP Q W v1 a u → XArgP Q W v2 M T → (∀ c, W.heap.size ≤ c → Q c) → Calls Tryz.prog 23 #[v1, v2] W fun e w' => ∃ y, e = .returned y ∧ XArgP Q w' y R S ∧ Below W.heap.size W w') := Lib.hid fun v1 v2 W h1 h2 h3 => by
   rw [← hR, ← hS]; exact minus_x h1 h2 h3 (by omega) (by omega) (by omega) (by omega)
 rw [hR, hS]
 clear hX hY hP hQ hN hU hF hM hT hR hS hD hb hu hU0 lN lU lF lbF lt1 lo la lb lu lt
 obtain ⟨da, hda⟩ : ∃ d, decide (a < 0) = d := ⟨_, rfl⟩
 obtain ⟨db, hdb⟩ : ∃ d, decide (b < 0) = d := ⟨_, rfl⟩
 rw [hda] at HX ⊢
 rw [hdb] at HY ⊢
 clear hda hdb
 have RA := ((Row.new w (exC (.slice pa (wrds a.natAbs).length ka) da (.slice qa (wrds u).length ma)) 43).alloc (.cells (exC (.slice pb (wrds b.natAbs).length kb) db (.slice qb (wrds t).length mb)) 43)).alloc (.cells (exC (.slice none 0 0) false (.slice none 0 0)) 43)
 have RC := (Row.new2 w (.cells (exC (.slice pa (wrds a.natAbs).length ka) da (.slice qa (wrds u).length ma)) 43) (exC (.slice pb (wrds b.natAbs).length kb) db (.slice qb (wrds t).length mb)) 43).alloc (.cells (exC (.slice none 0 0) false (.slice none 0 0)) 43)
 have RZ := Row.new3 w (.cells (exC (.slice pa (wrds a.natAbs).length ka) da (.slice qa (wrds u).length ma)) 43) (.cells (exC (.slice pb (wrds b.natAbs).length kb) db (.slice qb (wrds t).length mb)) 43) (exC (.slice none 0 0) false (.slice none 0 0)) 43
 go_enter Tryz.func33, Tryz.ntmps33
 go_wp2_with fail
 generalize hw : ((w.alloc (.cells (exC (.slice pa (wrds a.natAbs).length ka) da (.slice qa (wrds u).length ma)) 43)).alloc (.cells (exC (.slice pb (wrds b.natAbs).length kb) db (.slice qb (wrds t).length mb)) 43)).alloc (.cells (exC (.slice none 0 0) false (.slice none 0 0)) 43) = W at *
 have B0 : Hid (Below w.heap.size w W) := by show Below _ _ _; rw [← hw]; go_grown
 have hsz : w.heap.size + 1 + 1 + 1 ≤ W.heap.size := by rw [← hw]; simp
 clear hw
 obtain ⟨x0, x1, x2⟩ := RA.ex
 obtain ⟨y0, y1, y2⟩ := RC.ex
 go_wp2_with (first
   | (go_at_call 32; (with_reducible refine (HOV.out _ _ _ (HX.out.keep B0.out (Nat.le_refl _)) (HY.out.keep B0.out (Nat.le_refl _)) (fun c hc => HQ.out c (Nat.le_trans hsz hc))).mono ?_); rintro e w1 ⟨v1, rfl, X1, hb1⟩; have RA := RA.keep hb1; have RC := RC.keep hb1; have RZ := RZ.keep hb1; have BW := Lib.hid (bl_then B0.out hb1); have hs1 := Nat.le_trans hsz hb1.size; have X1' := Lib.hid X1; obtain ⟨p1, k1, q1, m1, rfl⟩ := X1.x.open; clear X1 hb1))
 have RQ := Row.new w1 (exC (.slice p1 (wrds N.natAbs).length k1) (decide (N < 0)) (.slice q1 (wrds U).length m1)) 43
 have RA := RA.alloc (.cells (exC (.slice p1 (wrds N.natAbs).length k1) (decide (N < 0)) (.slice q1 (wrds U).length m1)) 43)
 have RC := RC.alloc (.cells (exC (.slice p1 (wrds N.natAbs).length k1) (decide (N < 0)) (.slice q1 (wrds U).length m1)) 43)
 have RZ := RZ.alloc (.cells (exC (.slice p1 (wrds N.natAbs).length k1) (decide (N < 0)) (.slice q1 (wrds U).length m1)) 43)
 have XQ := Lib.hid (X1'.out.keep ((Below.refl _ w1).alloc (Nat.le_refl _) (.cells (exC (.slice p1 (wrds N.natAbs).length k1) (decide (N < 0)) (.slice q1 (wrds U).length m1)) 43)) (Nat.le_refl _))
 have BW := Lib.hid (BW.out.alloc BW.out.size (.cells (exC (.slice p1 (wrds N.natAbs).length k1) (decide (N < 0)) (.slice q1 (wrds U).length m1)) 43))
 have hs2 : w.heap.size + 1 + 1 + 1 ≤ (w1.alloc (.cells (exC (.slice p1 (wrds N.natAbs).length k1) (decide (N < 0)) (.slice q1 (wrds U).length m1)) 43)).heap.size := by simp; omega
 generalize w1.alloc (.cells (exC (.slice p1 (wrds N.natAbs).length k1) (decide (N < 0)) (.slice q1 (wrds U).length m1)) 43) = W2 at *
 clear X1' B0 x0 x1 x2 y0 y1 y2
 obtain ⟨x0, x1, x2⟩ := RQ.ex
 obtain ⟨dn, hdn⟩ : ∃ d, decide (N < 0) = d := ⟨_, rfl⟩
 rw [hdn] at XQ x1 ⊢
 go_wp2_with (first
   | (go_at_call 49; (with_reducible refine (HIZ.out _ _ XQ.out.x.args.2.1).mono ?_); rintro e w3 ⟨rfl, rfl⟩)
   | (go_at_call 63; (with_reducible refine (HFL.out _ _ XQ.out).mono ?_); rintro e w3 ⟨v3, rfl, L3, hb3⟩; have RA := RA.keep hb3; have RC := RC.keep hb3; have RZ := RZ.keep hb3; have BW := Lib.hid (bl_then BW.out hb3); have hs3 := Nat.le_trans hs2 hb3.size; have L3' := Lib.hid (L3.base hs2); obtain ⟨p3, k3, rfl⟩ := L3.open; clear L3 hb3)
   | (go_at_call 64; (with_reducible refine (HNA.out _).mono ?_); rintro e w4 ⟨v4, rfl, W4, hb4⟩; have RA := RA.keep hb4; have RC := RC.keep hb4; have RZ := RZ.keep hb4; have BW := Lib.hid (bl_then BW.out hb4); have hs4 := Nat.le_trans hs3 hb4.size; have L4' := Lib.hid (L3'.out.keep hb4 (Nat.le_refl _)); have W4' := Lib.hid (W4.base hs3); obtain ⟨p4, k4, rfl⟩ := W4.slice; clear W4 hb4))
 have RN := Row.new w4 (exC (.slice p3 (wrds F.natAbs).length k3) (decide (F < 0)) (.slice p4 (wrds 1).length k4)) 43
 have RA := RA.alloc (.cells (exC (.slice p3 (wrds F.natAbs).length k3) (decide (F < 0)) (.slice p4 (wrds 1).length k4)) 43)
 have RC := RC.alloc (.cells (exC (.slice p3 (wrds F.natAbs).length k3) (decide (F < 0)) (.slice p4 (wrds 1).length k4)) 43)
 have RZ := RZ.alloc (.cells (exC (.slice p3 (wrds F.natAbs).length k3) (decide (F < 0)) (.slice p4 (wrds 1).length k4)) 43)
 have XN := Lib.hid ((plusx_mk (P := Q) L4'.out HQ.out (W4'.out.inP fun c hc _ => HQ.out c hc)).keep ((Below.refl _ w4).alloc (Nat.le_refl _) (.cells (exC (.slice p3 (wrds F.natAbs).length k3) (decide (F < 0)) (.slice p4 (wrds 1).length k4)) 43)) (Nat.le_refl _))
 have BW := Lib.hid (BW.out.alloc BW.out.size (.cells (exC (.slice p3 (wrds F.natAbs).length k3) (decide (F < 0)) (.slice p4 (wrds 1).length k4)) 43))
 have hs5 : w.heap.size + 1 + 1 + 1 ≤ (w4.alloc (.cells (exC (.slice p3 (wrds F.natAbs).length k3) (decide (F < 0)) (.slice p4 (wrds 1).length k4)) 43)).heap.size := by simp; omega
 have hbn : w.heap.size + 1 + 1 + 1 ≤ w4.heap.size := by omega
 generalize w4.alloc (.cells (exC (.slice p3 (wrds F.natAbs).length k3) (decide (F < 0)) (.slice p4 (wrds 1).length k4)) 43) = W5 at *
 obtain ⟨bn, hbn'⟩ : ∃ b, w4.heap.size = b := ⟨_, rfl⟩
 rw [hbn'] at RN hbn ⊢
 clear L4' W4' x0 x1 x2 XQ RQ hdn hbn' hs1 hs2 hs3 hs4
 have n1 : ¬ w.heap.size + 1 + 1 = w.heap.size := by omega
 have n2 : ¬ w.heap.size = w.heap.size + 1 + 1 := by omega
 have n3 : ¬ w.heap.size + 1 + 1 = w.heap.size + 1 := by omega
 have n4 : ¬ w.heap.size + 1 = w.heap.size + 1 + 1 := by omega
 have n5 : ¬ w.heap.size + 1 + 1 = bn := by omega
 have n6 : ¬ bn = w.heap.size + 1 + 1 := by omega
 have hs5d : w.heap.size + 1 + 1 + 1 ≤ W5.drew.heap.size := hs5
 have XNd : Hid (XArgP Q W5.drew _ F 1) := Lib.hid (XN.out.keep ((Below.refl _ _).drew) (Nat.le_refl _))
 have HYd : Hid (XArgP Q W5.drew _ b t) := Lib.hid (HY.out.keep BW.out.drew (Nat.le_refl _))
 obtain ⟨dF, hdF⟩ : ∃ d, decide (F < 0) = d := ⟨_, rfl⟩
 rw [hdF] at RN XNd ⊢
 clear hdF
 obtain ⟨x0, x1, x2⟩ := RA.ex
 obtain ⟨y0, y1, y2⟩ := RC.ex
 obtain ⟨c0, c1, c2⟩ := RN.ex
 go_region_held3 (fun w' => (w'.cell? ⟨w.heap.size, 0, none⟩ = some (.slice pa (wrds a.natAbs).length ka) ∧ w'.cell? ⟨w.heap.size, 1, none⟩ = some (.bool da) ∧ w'.cell? ⟨w.heap.size, 2, none⟩ = some (.slice qa (wrds u).length ma)) ∧ (w'.cell? ⟨w.heap.size + 1, 0, none⟩ = some (.slice pb (wrds b.natAbs).length kb) ∧ w'.cell? ⟨w.heap.size + 1, 1, none⟩ = some (.bool db) ∧ w'.cell? ⟨w.heap.size + 1, 2, none⟩ = some (.slice qb (wrds t).length mb)) ∧ (w'.cell? ⟨bn, 0, none⟩ = some (.slice p3 (wrds F.natAbs).length k3) ∧ w'.cell? ⟨bn, 1, none⟩ = some (.bool dF) ∧ w'.cell? ⟨bn, 2, none⟩ = some (.slice p4 (wrds 1).length k4)))
   (first | go_keep | exact ⟨A7.ex, C7.ex, N7.ex⟩ | exact ⟨A6.ex, C6.ex, N6.ex⟩ | ((try dsimp only); (repeat' apply And.intro) <;> go_keep))
   (first
     | (go_at_call 31; (with_reducible refine (HTI.out _ _ _ HYd.out XNd.out (fun c hc => HQ.out c (Nat.le_trans hs5d hc))).mono ?_); rintro e w6 ⟨v6, rfl, X6, hb6⟩; have A6 := RA.keep (bl_drew hb6); have C6 := RC.keep (bl_drew hb6); have N6 := RN.keep (bl_drew hb6); have Z6 := RZ.keep (bl_drew hb6); have BW6 := Lib.hid (bl_then BW.out (bl_drew hb6)); have hs6 := Nat.le_trans hs5 (bl_drew hb6).size)
     | (go_at_call 23; (with_reducible refine (HMI.out _ _ _ (HX.out.keep BW6.out (Nat.le_refl _)) X6 (fun c hc => HQ.out c (Nat.le_trans hs6 hc))).mono ?_); rintro e w7 ⟨v7, rfl, X7, hb7⟩; have A7 := A6.keep hb7; have C7 := C6.keep hb7; have N7 := N6.keep hb7; have Z7 := Z6.keep hb7; have X7' := Lib.hid X7; obtain ⟨p7, k7, q7, m7, rfl⟩ := X7.x.open; clear X7; obtain ⟨z0, z1, z2⟩ := Z7.ex; have f0 := Z7.free 0; have f1 := Z7.free 1; have f2 := Z7.free 2))
 go_wp2
 refine bodyPost_ret (v := exV (.slice p7 (wrds R.natAbs).length k7) (decide (R < 0)) (.slice q7 (wrds S).length m7)) (by simp [results, Tryz.results33, go_sem, z0, z1, z2]) rfl ⟨_, rfl, ?_, ?_⟩
 · exact (((X7'.out.put _ _ HQN.out).put _ _ HQN.out).put _ _ HQN.out).weak fun c _ hc => HQP.out c hc
 · (repeat refine Below.setCell ?_ (by simp <;> omega) _)
   exact bl_then BW6.out hb7
set_option maxRecDepth 100000 in
set_option maxHeartbeats 8000000 in
theorem modulo_0 {P : Nat → Prop} {a b : Int} {u t : Nat} {va vb : Value} {w : World} (hX : XArgP P w va a u) (hY : XArgP P w vb b t) (hP : ∀ c, w.heap.size ≤ c → P c) (hb : b = 0) (la : (wrds a.natAbs).length ≤ 900) (lb : (wrds b.natAbs).length ≤ 900) (lu : (wrds u).length ≤ 900) (lt : (wrds t).length ≤ 900) :
   Calls Tryz.prog 33 #[va, vb] w fun e w' => ∃ y, e = .returned y ∧ XArgP P w' y (ovN a b t) 0 ∧ Below w.heap.size w w' := by
 obtain ⟨pa, ka, qa, ma, rfl⟩ := hX.x.open
 obtain ⟨pb, kb, qb, mb, rfl⟩ := hY.x.open
 obtain ⟨Q, hQ⟩ : ∃ Q : Nat → Prop, Q = fun c => P c ∧ c ≠ w.heap.size + 1 + 1 := ⟨_, rfl⟩
 have HX : Hid (XArgP Q w _ a u) := Lib.hid (hX.weak (Q := Q) fun c hc h => by rw [hQ]; exact ⟨h, by omega⟩)
 have HY : Hid (XArgP Q w _ b t) := Lib.hid (hY.weak (Q := Q) fun c hc h => by rw [hQ]; exact ⟨h, by omega⟩)
 have HQ : Hid (∀ c, w.heap.size + 1 + 1 + 1 ≤ c → Q c) := Lib.hid fun c hc => by rw [hQ]; exact ⟨hP c (by omega), by omega⟩
 have HQP : Hid (∀ c, Q c → P c) := Lib.hid fun c hc => by rw [hQ] at hc; exact hc.1
 have HQN : Hid (∀ c, Q c → c ≠ w.heap.size + 1 + 1) := Lib.hid fun c hc => by rw [hQ] at hc; exact hc.2
 have hU0 : u * b.natAbs = 0 := by rw [hb]; rfl
 obtain ⟨N, hN⟩ : ∃ N, ovN a b t = N := ⟨_, rfl⟩
 have HOV : Hid (∀ (v1 v2 : Value) (W : World), XArgP Q W v1 a u → XArgP Q W v2 b t → (∀ c, W.heap.size ≤ c → Q c) → Calls Tryz.prog 32 #[v1, v2] W fun e w' => ∃ y, e = .returned y ∧ XArgP Q w' y N 0 ∧ Below W.heap.size W w') := Lib.hid fun v1 v2 W h1 h2 h3 => by
   rw [← hN, ← hU0]; exact over_x h1 h2 h3 (by omega) (by omega) (by omega) (by omega)
 have HIZ : Hid (∀ (v : Value) (W : World), WArg 0 W v 0 → Calls Tryz.prog 49 #[v] W fun e w' => e = .returned (.bool true) ∧ W = w') := Lib.hid fun v W h => isZero_d h (by rw [wrds_zero]; decide)
 rw [hN]
 clear hX hY hP hQ hN hU0 hb la lb lu lt
 obtain ⟨da, hda⟩ : ∃ d, decide (a < 0) = d := ⟨_, rfl⟩
 obtain ⟨db, hdb⟩ : ∃ d, decide (b < 0) = d := ⟨_, rfl⟩
 rw [hda] at HX ⊢
 rw [hdb] at HY ⊢
 clear hda hdb
 have RA := ((Row.new w (exC (.slice pa (wrds a.natAbs).length ka) da (.slice qa (wrds u).length ma)) 43).alloc (.cells (exC (.slice pb (wrds b.natAbs).length kb) db (.slice qb (wrds t).length mb)) 43)).alloc (.cells (exC (.slice none 0 0) false (.slice none 0 0)) 43)
 have RC := (Row.new2 w (.cells (exC (.slice pa (wrds a.natAbs).length ka) da (.slice qa (wrds u).length ma)) 43) (exC (.slice pb (wrds b.natAbs).length kb) db (.slice qb (wrds t).length mb)) 43).alloc (.cells (exC (.slice none 0 0) false (.slice none 0 0)) 43)
 have RZ := Row.new3 w (.cells (exC (.slice pa (wrds a.natAbs).length ka) da (.slice qa (wrds u).length ma)) 43) (.cells (exC (.slice pb (wrds b.natAbs).length kb) db (.slice qb (wrds t).length mb)) 43) (exC (.slice none 0 0) false (.slice none 0 0)) 43
 go_enter Tryz.func33, Tryz.ntmps33
 go_wp2_with fail
 generalize hw : ((w.alloc (.cells (exC (.slice pa (wrds a.natAbs).length ka) da (.slice qa (wrds u).length ma)) 43)).alloc (.cells (exC (.slice pb (wrds b.natAbs).length kb) db (.slice qb (wrds t).length mb)) 43)).alloc (.cells (exC (.slice none 0 0) false (.slice none 0 0)) 43) = W at *
 have B0 : Hid (Below w.heap.size w W) := by show Below _ _ _; rw [← hw]; go_grown
 have hsz : w.heap.size + 1 + 1 + 1 ≤ W.heap.size := by rw [← hw]; simp
 clear hw
 obtain ⟨x0, x1, x2⟩ := RA.ex
 obtain ⟨y0, y1, y2⟩ := RC.ex
 go_wp2_with (first
   | (go_at_call 32; (with_reducible refine (HOV.out _ _ _ (HX.out.keep B0.out (Nat.le_refl _)) (HY.out.keep B0.out (Nat.le_refl _)) (fun c hc => HQ.out c (Nat.le_trans hsz hc))).mono ?_); rintro e w1 ⟨v1, rfl, X1, hb1⟩; have RA := RA.keep hb1; have RC := RC.keep hb1; have RZ := RZ.keep hb1; have BW := Lib.hid (bl_then B0.out hb1); have hs1 := Nat.le_trans hsz hb1.size; have X1' := Lib.hid X1; obtain ⟨p1, k1, q1, m1, rfl⟩ := X1.x.open; clear X1 hb1))
 have RQ := Row.new w1 (exC (.slice p1 (wrds N.natAbs).length k1) (decide (N < 0)) (.slice q1 (wrds 0).length m1)) 43
 have RA := RA.alloc (.cells (exC (.slice p1 (wrds N.natAbs).length k1) (decide (N < 0)) (.slice q1 (wrds 0).length m1)) 43)
 have RC := RC.alloc (.cells (exC (.slice p1 (wrds N.natAbs).length k1) (decide (N < 0)) (.slice q1 (wrds 0).length m1)) 43)
 have RZ := RZ.alloc (.cells (exC (.slice p1 (wrds N.natAbs).length k1) (decide (N < 0)) (.slice q1 (wrds 0).length m1)) 43)
 have XQ := Lib.hid (X1'.out.keep ((Below.refl _ w1).alloc (Nat.le_refl _) (.cells (exC (.slice p1 (wrds N.natAbs).length k1) (decide (N < 0)) (.slice q1 (wrds 0).length m1)) 43)) (Nat.le_refl _))
 have BW := Lib.hid (BW.out.alloc BW.out.size (.cells (exC (.slice p1 (wrds N.natAbs).length k1) (decide (N < 0)) (.slice q1 (wrds 0).length m1)) 43))
 have hs2 : w.heap.size + 1 + 1 + 1 ≤ (w1.alloc (.cells (exC (.slice p1 (wrds N.natAbs).length k1) (decide (N < 0)) (.slice q1 (wrds 0).length m1)) 43)).heap.size := by simp; omega
 generalize w1.alloc (.cells (exC (.slice p1 (wrds N.natAbs).length k1) (decide (N < 0)) (.slice q1 (wrds 0).length m1)) 43) = W2 at *
 clear X1' B0 x0 x1 x2 y0 y1 y2
 obtain ⟨x0, x1, x2⟩ := RQ.ex
 obtain ⟨dn, hdn⟩ : ∃ d, decide (N < 0) = d := ⟨_, rfl⟩
 rw [hdn] at XQ x1 ⊢
 obtain ⟨z0, z1, z2⟩ := RZ.ex
 have f0 := RZ.free 0
 have f1 := RZ.free 1
 have f2 := RZ.free 2
 have n1 : ¬ w.heap.size + 1 + 1 = w1.heap.size := by omega
 have n2 : ¬ w1.heap.size = w.heap.size + 1 + 1 := by omega
 go_wp2_with (go_at_call 49; (with_reducible refine (HIZ.out _ _ XQ.out.x.args.2.1).mono ?_); rintro e w3 ⟨rfl, rfl⟩)
 refine bodyPost_ret (v := exV (.slice p1 (wrds N.natAbs).length k1) dn (.slice q1 (wrds 0).length m1)) (by simp [results, Tryz.results33, go_sem, z0, z1, z2]) rfl ⟨_, rfl, ?_, ?_⟩
 · exact (((XQ.out.put _ _ HQN.out).put _ _ HQN.out).put _ _ HQN.out).weak fun c _ hc => HQP.out c hc
 · (repeat refine Below.setCell ?_ (by simp <;> omega) _)
   exact BW.out
end Go.Proofs.YtpdoddhieblooaaGreatDoor
