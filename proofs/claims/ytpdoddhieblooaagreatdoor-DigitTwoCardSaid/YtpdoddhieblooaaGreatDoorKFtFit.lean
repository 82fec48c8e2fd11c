/- digit.fitFloat: its closure: a fraction, rounded, in a float type. ironbarkref01.float: a fraction, rounded to the digits of a float type. What a fraction is in a type of numbers; ironbarkref01.FitTo of any of them. -/
import Derived.Test.YtpdoddhieblooaaGreatDoorKFltExp
import Derived.Test.YtpdoddhieblooaaGreatDoorKFltDrop
import Derived.Test.YtpdoddhieblooaaGreatDoorKWrdDivd
import Derived.Test.YtpdoddhieblooaaGreatDoorKWrdFit1
import Derived.Test.YtpdoddhieblooaaGreatDoorKGoodZeroR
import Derived.Test.YtpdoddhieblooaaGreatDoorKFtOutB
import Derived.Deep.QuietTactic
import Derived.BigQuiet
import Derived.StillTailTactics
namespace Go.Proofs.YtpdoddhieblooaaGreatDoor
open Go.RowKit

def FltE (z K : Int) (D : Nat) (N Q c : Int) : Prop :=
 (75 < ((tz D : Int) - K) + (digs (cutz D)).length - 1 ∧ N = 0 ∧ Q = 0 ∧ c = 3) ∨
 (((tz D : Int) - K) + (digs (cutz D)).length - 1 < -75 ∧ N = 0 ∧ Q = 0 ∧ c = 8) ∨
 (-75 ≤ ((tz D : Int) - K) + (digs (cutz D)).length - 1 ∧ ((tz D : Int) - K) + (digs (cutz D)).length - 1 ≤ 75 ∧ N = fixN z (cutz D) ∧ Q = (tz D : Int) - K ∧ c = 0)
def FltR (P : Nat) (z : Int) (u : Nat) (N Q c : Int) : Prop :=
 (z = 0 ∧ N = 0 ∧ Q = 0 ∧ c = 0) ∨ (z ≠ 0 ∧ ∃ K D, FloR P z.natAbs u K D ∧ FltE z K D N Q c)
theorem FltE.same {z z' K : Int} {D : Nat} {N Q c N' Q' c' : Int} (h : FltE z K D N Q c) (h' : FltE z' K D N' Q' c') (hz : (z < 0) = (z' < 0)) : N = N' ∧ Q = Q' ∧ c = c' := by
 rcases h with ⟨h1, rfl, rfl, rfl⟩ | ⟨h1, rfl, rfl, rfl⟩ | ⟨h1, h2, rfl, rfl, rfl⟩ <;> rcases h' with ⟨g1, rfl, rfl, rfl⟩ | ⟨g1, rfl, rfl, rfl⟩ | ⟨g1, g2, rfl, rfl, rfl⟩
 all_goals first
   | exact ⟨rfl, rfl, rfl⟩
   | (exfalso; omega)
   | (refine ⟨?_, rfl, rfl⟩; unfold fixN; simp only [hz])
theorem sign_same {z z' : Int} {u u' : Nat} (hu : 0 < u) (hu' : 0 < u') (h : z * u' = z' * u) : (z < 0) = (z' < 0) ∧ (z = 0 ↔ z' = 0) ∧ z.natAbs * u' = z'.natAbs * u := by
 have e1 : (z * u').natAbs = (z' * u).natAbs := by rw [h]
 rw [Int.natAbs_mul, Int.natAbs_mul, Int.natAbs_natCast, Int.natAbs_natCast] at e1
 have hz : z = 0 ↔ z' = 0 := by
   constructor
   · rintro rfl
     rw [Int.natAbs_zero, Nat.zero_mul] at e1
     rcases Nat.mul_eq_zero.1 e1.symm with h0 | h0 <;> omega
   · rintro rfl
     rw [Int.natAbs_zero, Nat.zero_mul] at e1
     rcases Nat.mul_eq_zero.1 e1 with h0 | h0 <;> omega
 refine ⟨?_, hz, e1⟩
 have p1 : (0 : Int) < u := by omega
 have p2 : (0 : Int) < u' := by omega
 apply propext
 constructor
 · intro h1
   have := Int.mul_neg_of_neg_of_pos h1 p2
   rw [h] at this
   by_cases h2 : z' < 0
   · exact h2
   · have := Int.mul_nonneg (show 0 ≤ z' by omega) (show (0 : Int) ≤ u by omega); omega
 · intro h1
   have := Int.mul_neg_of_neg_of_pos h1 p1
   rw [← h] at this
   by_cases h2 : z < 0
   · exact h2
   · have := Int.mul_nonneg (show 0 ≤ z by omega) (show (0 : Int) ≤ u' by omega); omega
theorem FltR.same {P : Nat} {z z' : Int} {u u' : Nat} {N Q c N' Q' c' : Int} (h : FltR P z u N Q c) (h' : FltR P z' u' N' Q' c') (hP : 1 ≤ P) (hu : 0 < u) (hu' : 0 < u') (hx : z * u' = z' * u) : N = N' ∧ Q = Q' ∧ c = c' := by
 obtain ⟨s1, s2, s3⟩ := sign_same hu hu' hx
 rcases h with ⟨rfl, rfl, rfl, rfl⟩ | ⟨h0, K, D, hF, hE⟩
 · rcases h' with ⟨rfl, rfl, rfl, rfl⟩ | ⟨g0, _⟩
   · exact ⟨rfl, rfl, rfl⟩
   · exact absurd (s2.1 rfl) g0
 · rcases h' with ⟨rfl, rfl, rfl, rfl⟩ | ⟨g0, K', D', hF', hE'⟩
   · exact absurd (s2.2 rfl) h0
   · obtain ⟨rfl, rfl⟩ := hF.same hF' hP hu hu' s3
     exact hE.same hE' s1
theorem flo_shift {P : Nat} {z : Int} {u : Nat} {E : Int} (_hz : z ≠ 0) (hP : 1 ≤ P) (hE : ExpOf z.natAbs u E) :
   FloR P z.natAbs u (-(E - P + 1)) (rndN (shN z (-(E - P + 1))).natAbs (shU u (-(E - P + 1)))) := by
 rw [sh_abs, shU_eq]
 obtain ⟨n, hn⟩ : ∃ n : Int, -(E - P + 1) = n := ⟨_, rfl⟩
 rw [hn]
 obtain ⟨h1, h2⟩ := hE.flo (P := P) (i := n.toNat) (j := (-n).toNat) hP (by omega)
 exact ⟨n.toNat, (-n).toNat, by omega, h1, h2, rfl⟩
set_option maxRecDepth 100000 in
set_option maxHeartbeats 4000000 in
theorem fitF_0 {z : Int} {u : Nat} {vx : Value} {w : World} {bT : Nat} {P q n : Int} {vy : Bool} {pic : ByteArray} (hX : XArg 0 w vx z u) (hz : z = 0) (RT : Row w bT #[.int .i64 3, .int .i64 P, .int .i64 q, .int .i64 n, .bool vy, .string pic] 25) :
   Calls Tryz.prog 130 #[vx, ptD bT] w fun e w' => e = .returned (.tuple #[vaV 3 0 0 ⟨#[]⟩, .int .i64 0]) ∧ Below w.heap.size w w' := by
 obtain ⟨px, kx, qx, mx, rfl⟩ := hX.open
 have HX := Lib.hid hX.args.1
 have HIZ : Hid (∀ W, Below w.heap.size w W → Calls Tryz.prog 49 #[.slice px (wrds z.natAbs).length kx] W fun e w' => e = .returned (.bool true) ∧ W = w') := Lib.hid fun W hW => by
   have := isZero_d (HX.out.keep hW (Nat.le_refl _)) (by rw [show z.natAbs = 0 by rw [hz]; rfl, wrds_zero]; decide)
   rwa [decide_eq_true (show z.natAbs = 0 by rw [hz]; rfl)] at this
 have HZO : Hid (∀ W, Calls Tryz.prog 110 #[tyV 3 P q n vy pic] W fun e w' => e = .returned (vaV 3 0 0 ⟨#[]⟩) ∧ Below W.heap.size W w') := Lib.hid fun W => zeroOf_3 P q n vy pic W
 have lT := RT.lt
 clear hX hz
 have RX := (Row.new w (exC (.slice px (wrds z.natAbs).length kx) (decide (z < 0)) (.slice qx (wrds u).length mx)) 43).alloc (.cells (vaC 0 0 0 ⟨#[]⟩) 23)
 have RZ := Row.new2 w (.cells (exC (.slice px (wrds z.natAbs).length kx) (decide (z < 0)) (.slice qx (wrds u).length mx)) 43) (vaC 0 0 0 ⟨#[]⟩) 23
 have R7 := (RT.alloc (.cells (exC (.slice px (wrds z.natAbs).length kx) (decide (z < 0)) (.slice qx (wrds u).length mx)) 43)).alloc (.cells (vaC 0 0 0 ⟨#[]⟩) 23)
 generalize hd : decide (z < 0) = dz at *
 clear hd
 go_enter Tryz.func130, Tryz.ntmps130
 go_wp2_with fail
 generalize hw : (w.alloc (.cells (exC (.slice px (wrds z.natAbs).length kx) dz (.slice qx (wrds u).length mx)) 43)).alloc (.cells (vaC 0 0 0 ⟨#[]⟩) 23) = W at *
 have B0 : Hid (Below w.heap.size w W) := by show Below _ _ _; rw [← hw]; go_grown
 clear hw
 obtain ⟨x0, x1, x2⟩ := RX.ex
 obtain ⟨t0, t1, t2, t3, t4, t5⟩ := R7.six
 go_wp2_with (first
   | (go_at_call 49; (with_reducible refine (HIZ.out _ B0.out).mono ?_); rintro e w2 ⟨rfl, rfl⟩)
   | (go_at_call 110; (refine (HZO.out _).mono ?_); rintro e w3 ⟨rfl, hb3⟩; have RZ := RZ.keep hb3; have BW := Lib.hid (bl_then B0.out hb3); obtain ⟨z0, z1, z2, z3⟩ := RZ.four; have f0 := RZ.free 0; have f1 := RZ.free 1; have f2 := RZ.free 2; have f3 := RZ.free 3; clear hb3))
 refine bodyPost_ret (v := .tuple #[vaV 3 0 0 ⟨#[]⟩, .int .i64 0]) (by simp [results, Tryz.results130, go_sem, z0, z1, z2, z3]) rfl ⟨rfl, ?_⟩
 (repeat refine Below.setCell ?_ (by simp <;> omega) _)
 exact BW.out
theorem fix_if (z : Int) (m : Nat) : (if decide (z < 0) then -(m : Int) else m) = fixN z m := by
 unfold fixN
 by_cases h : z < 0
 · rw [decide_eq_true h, if_pos rfl, if_pos h]
 · rw [decide_eq_false h, if_neg (by decide), if_neg h]
set_option maxRecDepth 100000 in
set_option maxHeartbeats 8000000 in
theorem fitF_n {z : Int} {u : Nat} {vx : Value} {w : World} {bT P : Nat} {q n : Int} {vy : Bool} {pic : ByteArray} (hX : XArg 0 w vx z u) (RT : Row w bT #[.int .i64 3, .int .i64 (P : Int), .int .i64 q, .int .i64 n, .bool vy, .string pic] 25) (hz : z ≠ 0) (hu : 0 < u) (hP : 1 ≤ P) (hP2 : P ≤ 15) (la : (wrds z.natAbs).length ≤ 3000) (lu : (wrds u).length ≤ 3000) (da : (digs z.natAbs).length ≤ 9000) (du : (digs u).length ≤ 9000) :
   Calls Tryz.prog 130 #[vx, ptD bT] w fun e w' => ∃ N Q c : Int, (e = .returned (.tuple #[vaV 3 N Q ⟨#[]⟩, .int .i64 c]) ∧ Below w.heap.size w w') ∧ FltR P z u N Q c := by
 obtain ⟨px, kx, qx, mx, rfl⟩ := hX.open
 have HX := Lib.hid hX
 have hEx := expE_of (a := z.natAbs) (by omega) hu
 have hEb := expE_bd (a := z.natAbs) (u := u) (by omega) (by omega)
 have HEX : Hid (∀ (v : Value) (W : World), XArg 0 W v z u → Calls Tryz.prog 131 #[v] W fun e w' => e = .returned (.int .i64 (expE z.natAbs u)) ∧ Below W.heap.size W w') := Lib.hid fun v W h => expo_x h hz hu (by omega) (by omega) (by omega) (by omega)
 obtain ⟨E, hE⟩ : ∃ E, expE z.natAbs u = E := ⟨_, rfl⟩
 rw [hE] at HEX hEx hEb
 have hfl := flo_shift hz hP hEx
 obtain ⟨q0, hq0⟩ : ∃ q0 : Int, E - P + 1 = q0 := ⟨_, rfl⟩
 rw [hq0] at hfl
 obtain ⟨m, hm⟩ : ∃ m : Int, -q0 = m := ⟨_, rfl⟩
 rw [hm] at hfl
 have HSH : Hid (∀ (v : Value) (W : World), XArg 0 W v z u → Calls Tryz.prog 129 #[v, .int .i64 m] W fun e w' => ∃ y, e = .returned y ∧ XArg 0 w' y (shN z m) (shU u m) ∧ Below W.heap.size W w') := Lib.hid fun v W h =>
   (shift_x (P := fun c => 0 ≤ c) m h (fun _ _ => Nat.zero_le _) (by omega) (by omega) (by omega) (by omega)).mono fun _ _ ⟨y, he, hx, hb⟩ => ⟨y, he, hx, hb⟩
 have lw1 := wrds_ten (q := m.toNat) (by omega)
 have lw2 := wrds_ten (q := (-m).toNat) (by omega)
 have lw3 := wrds_mul_len z.natAbs (10 ^ m.toNat)
 have lw4 := wrds_mul_len u (10 ^ (-m).toNat)
 have eA := sh_abs z m
 have eU := shU_eq u m
 have hU0 : 0 < shU u m := by rw [eU]; exact Nat.mul_pos hu (Nat.pow_pos (by decide))
 have hbd := hfl.bound hu
 obtain ⟨N, hN⟩ : ∃ N, shN z m = N := ⟨_, rfl⟩
 obtain ⟨U, hU⟩ : ∃ U, shU u m = U := ⟨_, rfl⟩
 rw [hN, hU] at HSH hfl hbd
 rw [hN] at eA
 rw [hU] at eU hU0
 have lN : (wrds N.natAbs).length ≤ 9000 := by rw [eA]; omega
 have lU : (wrds U).length ≤ 9000 := by rw [eU]; omega
 have HEN : Hid (∀ (v1 v2 : Value) (W : World), WArg 0 W v1 N.natAbs → WArg 0 W v2 U → Calls Tryz.prog 133 #[v1, v2, .int .i64 1] W (GivesW W (rndN N.natAbs U))) := Lib.hid fun v1 v2 W h1 h2 => ended_near (div_any hU0 (by omega) (by omega)) h1 h2 hU0 lN lU
 obtain ⟨D, hD⟩ : ∃ D, rndN N.natAbs U = D := ⟨_, rfl⟩
 rw [hD] at HEN hfl hbd
 have hDb : D ≤ 1000000000000000 := Nat.le_trans hbd.2 (Nat.le_trans (Nat.pow_le_pow_right (by decide) hP2) (by decide))
 have lD : (wrds D).length ≤ 2 := wrds_length _ 2 (by omega)
 have dD : (digs D).length ≤ 16 := digs_length _ _ (by omega)
 have ltz : tz D < 16 := tz_lt hbd.1 (show D < 10 ^ 16 by omega)
 have lp : (wrds (10 ^ tz D)).length ≤ 2500 := wrds_ten (by omega)
 have HDZ : Hid (∀ (B : Nat) (v : Value) (W : World), WArg B W v D → Calls Tryz.prog 132 #[v] W fun e w' => ∃ y, e = .returned (.tuple #[y, .int .i64 (tz D : Int)]) ∧ WArg W.heap.size w' y (cutz D) ∧ Below W.heap.size W w') := Lib.hid fun B v W h => dropz h hbd.1 (by omega) (by omega) (div_any (Nat.pow_pos (by decide)) (by omega) (by omega))
 have hcD := cutz_le D
 have HR : Hid (∀ N Q c, FltE z m D N Q c → FltR P z u N Q c) := Lib.hid fun N Q c h => .inr ⟨hz, _, _, hfl, h⟩
 unfold FltE at HR
 have lC : (wrds (cutz D)).length ≤ 2 := wrds_length _ 2 (by omega)
 have dC : (digs (cutz D)).length ≤ 16 := digs_length _ _ (by omega)
 have HLE : Hid (∀ (B : Nat) (v : Value) (W : World), WArg B W v (cutz D) → Calls Tryz.prog 128 #[v] W fun e w' => e = .returned (.int .i64 ((digs (cutz D)).length : Int)) ∧ Below W.heap.size W w') := Lib.hid fun B v W h => length_d h (by omega) (by omega)
 have HSG : Hid (∀ (B : Nat) (v : Value) (W : World), WArg B W v (cutz D) → Calls Tryz.prog 62 #[v, .bool (decide (z < 0))] W fun e w' => ∃ s, e = .returned s ∧ LArg B w' s (fixN z (cutz D)) ∧ Below W.heap.size W w') := Lib.hid fun B v W h => by
   rw [← fix_if]; exact signed_l h (by omega) _
 have hfN : -9223372036854775808 < fixN z (cutz D) ∧ fixN z (cutz D) < 9223372036854775808 := by unfold fixN; split <;> omega
 have HIN : Hid (∀ (B : Nat) (v : Value) (W : World), LArg B W v (fixN z (cutz D)) → Calls Tryz.prog 134 #[v] W fun e w' => e = .returned (.int .i64 (fixN z (cutz D))) ∧ Below W.heap.size W w') := Lib.hid fun B v W h => int_l h hfN.1 hfN.2
 obtain ⟨V, hV⟩ : ∃ V, fixN z (cutz D) = V := ⟨_, rfl⟩
 rw [hV] at HSG HIN HR
 obtain ⟨C, hC⟩ : ∃ C, cutz D = C := ⟨_, rfl⟩
 rw [hC] at HDZ HLE HSG HR dC
 obtain ⟨Z, hZ⟩ : ∃ Z : Int, (tz D : Int) = Z := ⟨_, rfl⟩
 rw [hZ] at HDZ HR
 obtain ⟨L, hL⟩ : ∃ L : Int, ((digs C).length : Int) = L := ⟨_, rfl⟩
 rw [hL] at HLE HR
 obtain ⟨q1, hq1⟩ : ∃ q1 : Int, q0 + Z = q1 := ⟨_, rfl⟩
 rw [show Z - m = q1 by omega] at HR
 obtain ⟨ex, hex⟩ : ∃ ex : Int, q1 + L - 1 = ex := ⟨_, rfl⟩
 rw [hex] at HR
 have hw1 : IntKind.i64.wrap (E - (P : Int)) = E - P := IntWalk.i64_in _ (by omega)
 have hw2 : IntKind.i64.wrap (E - (P : Int) + 1) = q0 := by rw [hq0]; exact IntWalk.i64_in _ (by omega)
 have hw3 : IntKind.i64.wrap (-q0) = m := by rw [hm]; exact IntWalk.i64_in _ (by omega)
 have hw4 : IntKind.i64.wrap (q0 + Z) = q1 := by rw [hq1]; exact IntWalk.i64_in _ (by omega)
 have hw5 : IntKind.i64.wrap (q1 + L) = q1 + L := IntWalk.i64_in _ (by omega)
 have hw6 : IntKind.i64.wrap (q1 + L - 1) = ex := by rw [hex]; exact IntWalk.i64_in _ (by omega)
 have HZO : Hid (∀ W, Calls Tryz.prog 110 #[tyV 3 (P : Int) q n vy pic] W fun e w' => e = .returned (vaV 3 0 0 ⟨#[]⟩) ∧ Below W.heap.size W w') := Lib.hid fun W => zeroOf_3 P q n vy pic W
 have HIZ : Hid (∀ W, Below w.heap.size w W → Calls Tryz.prog 49 #[.slice px (wrds z.natAbs).length kx] W fun e w' => e = .returned (.bool false) ∧ W = w') := Lib.hid fun W hW => by
   have := isZero_d (hX.args.1.keep hW (Nat.le_refl _)) (by omega)
   rwa [decide_eq_false (show ¬ z.natAbs = 0 by omega)] at this
 have lT := RT.lt
 obtain ⟨dz, hdz⟩ : ∃ d, decide (z < 0) = d := ⟨_, rfl⟩
 rw [hdz] at HX HSG ⊢
 have RX := (Row.new w (exC (.slice px (wrds z.natAbs).length kx) dz (.slice qx (wrds u).length mx)) 43).alloc (.cells (vaC 0 0 0 ⟨#[]⟩) 23)
 have RZ := Row.new2 w (.cells (exC (.slice px (wrds z.natAbs).length kx) dz (.slice qx (wrds u).length mx)) 43) (vaC 0 0 0 ⟨#[]⟩) 23
 have R7 := (RT.alloc (.cells (exC (.slice px (wrds z.natAbs).length kx) dz (.slice qx (wrds u).length mx)) 43)).alloc (.cells (vaC 0 0 0 ⟨#[]⟩) 23)
 have hcase : 75 < ex ∨ (¬ 75 < ex ∧ ex < -75) ∨ (¬ 75 < ex ∧ ¬ ex < -75) := by omega
 clear hX hz hu hP hP2 la lu da du hEx hEb hE hfl hq0 hm lw1 lw2 lw3 lw4 eA eU hU0 hbd hN hU lN lU hD hDb lD dD ltz lp hcD lC dC hfN hV hC hZ hL hq1 hex hdz RT
 rcases hcase with h1 | ⟨h1, h2⟩ | ⟨h1, h2⟩
 all_goals
   go_enter Tryz.func130, Tryz.ntmps130
   go_wp2_with fail
   generalize hw : (w.alloc (.cells (exC (.slice px (wrds z.natAbs).length kx) dz (.slice qx (wrds u).length mx)) 43)).alloc (.cells (vaC 0 0 0 ⟨#[]⟩) 23) = W at *
   have B0 : Hid (Below w.heap.size w W) := by show Below _ _ _; rw [← hw]; go_grown
   clear hw
   have n1 : ¬ bT = w.heap.size + 1 := by omega
   have n2 : ¬ w.heap.size + 1 = bT := by omega
   have XW := Lib.hid (HX.out.keep B0.out (Nat.le_refl _))
   obtain ⟨x0, x1, x2⟩ := RX.ex
   obtain ⟨t0, t1, t2, t3, t4, t5⟩ := R7.six
   go_wp2_with (go_at_call 49; (with_reducible refine (HIZ.out _ B0.out).mono ?_); rintro e w2 ⟨rfl, rfl⟩)
   go_region_held3 (fun w' => (w'.cell? ⟨w.heap.size, 0, none⟩ = some (.slice px (wrds z.natAbs).length kx) ∧ w'.cell? ⟨w.heap.size, 1, none⟩ = some (.bool dz) ∧ w'.cell? ⟨w.heap.size, 2, none⟩ = some (.slice qx (wrds u).length mx)) ∧ w'.cell? ⟨bT, 1, none⟩ = some (.int .i64 (P : Int)))
     (first | exact ⟨A3.ex, T3.six.2.1⟩ | exact ⟨RX.ex, R7.six.2.1⟩ | go_keep | ((try dsimp only); (repeat' apply And.intro) <;> (first | assumption | go_keep)))
     (first
       | (go_at_call 131; (with_reducible refine (HEX.out _ _ (XW.out.keep ((Below.refl _ _).drew) (Nat.le_refl _))).mono ?_); rintro e w3 ⟨rfl, hb3⟩; have A3 := RX.keep (bl_drew hb3); have T3 := R7.keep (bl_drew hb3); have Z3 := RZ.keep (bl_drew hb3); have BW3 := Lib.hid (bl_then B0.out (bl_drew hb3)); have X3 := Lib.hid (XW.out.keep (bl_drew hb3) (Nat.le_refl _)); obtain ⟨x0, x1, x2⟩ := A3.ex; clear hb3))
   clear x0 x1 x2 t0 t1 t2 t3 t4 t5
   obtain ⟨x0, x1, x2⟩ := A3.ex
   go_wp2_with (first
     | (go_at_call 129; (with_reducible refine (HSH.out _ _ X3.out).mono ?_); rintro e w4 ⟨v4, rfl, X4, hb4⟩; have A4 := A3.keep hb4; have T4 := T3.keep hb4; have Z4 := Z3.keep hb4; have BW4 := Lib.hid (bl_then BW3.out hb4); have X5 : ∀ o : Obj, Hid (XArg 0 (w4.alloc o) v4 N U) := (fun o => Lib.hid (X4.keep ((Below.refl _ w4).alloc (Nat.le_refl _) o) (Nat.le_refl _))); obtain ⟨p4, k4, q4, m4, rfl⟩ := X4.open; clear X4 hb4)
     | (go_at_call 133; (with_reducible refine (HEN.out _ _ _ (X5 _).out.args.1 (X5 _).out.args.2.1).mono ?_); rintro e w5 ⟨v5, rfl, W5, hb5⟩; have A5 := (A4.alloc _).keep hb5; have T5 := (T4.alloc _).keep hb5; have Z5 := (Z4.alloc _).keep hb5; have BW5 := Lib.hid (bl_box BW4.out hb5); have W5' := Lib.hid W5; obtain ⟨p5, k5, rfl⟩ := W5.slice; clear W5 hb5)
     | (go_at_call 132; (with_reducible refine (HDZ.out _ _ _ W5'.out).mono ?_); rintro e w6 ⟨v6, rfl, W6, hb6⟩; have A6 := A5.keep hb6; have T6 := T5.keep hb6; have Z6 := Z5.keep hb6; have BW6 := Lib.hid (bl_then BW5.out hb6); have W6' := Lib.hid W6; obtain ⟨p6, k6, rfl⟩ := W6.slice; clear W6 hb6)
     | (go_at_call 128; (with_reducible refine (HLE.out _ _ _ W6'.out).mono ?_); rintro e w7 ⟨rfl, hb7⟩; have A7 := A6.keep hb7; have T7 := T6.keep hb7; have Z7 := Z6.keep hb7; have BW7 := Lib.hid (bl_then BW6.out hb7); have W7' := Lib.hid (W6'.out.keep hb7 (Nat.le_refl _)); obtain ⟨t0, t1, t2, t3, t4, t5⟩ := T7.six; clear hb7)
     | (go_at_call 110; (refine (HZO.out _).mono ?_); rintro e w8 ⟨rfl, hb8⟩; have Z8 := Z7.keep hb8; have BW8 := Lib.hid (bl_then BW7.out hb8); obtain ⟨z0, z1, z2, z3⟩ := Z8.four; have f0 := Z8.free 0; have f1 := Z8.free 1; have f2 := Z8.free 2; have f3 := Z8.free 3; clear hb8))
 · refine bodyPost_ret (v := .tuple #[vaV 3 0 0 ⟨#[]⟩, .int .i64 3]) (by simp [results, Tryz.results130, go_sem, z0, z1, z2, z3]) rfl ⟨_, _, _, ⟨rfl, ?_⟩, HR.out _ _ _ (.inl ⟨h1, rfl, rfl, rfl⟩)⟩
   (repeat refine Below.setCell ?_ (by simp <;> omega) _)
   exact BW8.out
 · refine bodyPost_ret (v := .tuple #[vaV 3 0 0 ⟨#[]⟩, .int .i64 8]) (by simp [results, Tryz.results130, go_sem, z0, z1, z2, z3]) rfl ⟨_, _, _, ⟨rfl, ?_⟩, HR.out _ _ _ (.inr (.inl ⟨h2, rfl, rfl, rfl⟩))⟩
   (repeat refine Below.setCell ?_ (by simp <;> omega) _)
   exact BW8.out
 · clear HEX HSH HEN HDZ HLE HZO HIZ hw1 hw2 hw3 hw4 hw5 hw6 X5 W5' W6' A3 T3 Z3 BW3 X3 A4 T4 Z4 BW4 A5 T5 Z5 BW5 A6 T6 Z6 BW6 XW HX RX RZ R7 B0 x0 x1 x2 t1 t2 t3 t4 t5
   obtain ⟨x0, x1, x2⟩ := A7.ex
   go_region_held3 (fun w' => w'.cell? ⟨w.heap.size, 1, none⟩ = some (.bool dz) ∧ w'.cell? ⟨bT, 0, none⟩ = some (.int .i64 3))
     (first | exact ⟨A9.ex.2.1, T9.six.1⟩ | exact ⟨A8.ex.2.1, T8.six.1⟩ | exact ⟨A7.ex.2.1, T7.six.1⟩ | go_keep)
     (first
       | (go_at_call 62; (with_reducible refine (HSG.out _ _ _ (W7'.out.keep ((Below.refl _ _).drew) (Nat.le_refl _))).mono ?_); rintro e w8 ⟨v8, rfl, L8, hb8⟩; have A8 := A7.keep (bl_drew hb8); have T8 := T7.keep (bl_drew hb8); have Z8 := Z7.keep (bl_drew hb8); have BW8 := Lib.hid (bl_then BW7.out (bl_drew hb8)); clear hb8)
       | (go_at_call 134; (with_reducible refine (HIN.out _ _ _ L8).mono ?_); rintro e w9 ⟨rfl, hb9⟩; have A9 := A8.keep hb9; have T9 := T8.keep hb9; have Z9 := Z8.keep hb9; have BW9 := Lib.hid (bl_then BW8.out hb9); clear hb9; obtain ⟨z0, z1, z2, z3⟩ := Z9.four; have f0 := Z9.free 0; have f1 := Z9.free 1; have f2 := Z9.free 2; have f3 := Z9.free 3))
   go_wp2
   refine bodyPost_ret (v := .tuple #[vaV 3 V q1 ⟨#[]⟩, .int .i64 0]) (by simp [results, Tryz.results130, go_sem, z0, z1, z2, z3]) rfl ⟨_, _, _, ⟨rfl, ?_⟩, HR.out _ _ _ (.inr (.inr ⟨by omega, by omega, rfl, rfl, rfl⟩))⟩
   (repeat refine Below.setCell ?_ (by simp <;> omega) _)
   exact BW9.out
theorem expE_le (a u : Nat) : expE a u ≤ ((digs a).length : Int) - (digs u).length := by unfold expE; split <;> omega
theorem expE_ge (a u : Nat) : ((digs a).length : Int) - (digs u).length - 1 ≤ expE a u := by unfold expE; split <;> omega
theorem ExpOf.few {a u P i j : Nat} {E : Int} (h : ExpOf a u E) (hP : 1 ≤ P) (hij : (i : Int) - j < P - 1 - E) : a * 10 ^ i < u * 10 ^ j * 10 ^ (P - 1) := by
 obtain ⟨d, hd⟩ : ∃ d : Nat, (i : Int) - j + (d + 1) = P - 1 - E := ⟨(P - 1 - E - ((i : Int) - j) - 1).toNat, by omega⟩
 obtain ⟨_, h2⟩ := h.flo (i := i + (d + 1)) (j := j) hP (by omega)
 rw [Nat.pow_add, ← Nat.mul_assoc, pow_pred hP] at h2
 have h3 : a * 10 ^ i * 10 ≤ a * 10 ^ i * 10 ^ (d + 1) := Nat.mul_le_mul_left _ (by
   rw [Nat.pow_succ]
   have := Nat.pow_pos (n := d) (show 0 < 10 by decide)
   omega)
 have h4 : 10 * 10 ^ (P - 1) * (u * 10 ^ j) = 10 * (u * 10 ^ j * 10 ^ (P - 1)) := by rw [Nat.mul_assoc, Nat.mul_comm (10 ^ (P - 1))]
 rw [h4] at h2
 omega
theorem ord_neg {m n : Nat} (h : m < n) : ord m n < 0 := by rw [ord_lt h]; decide
theorem ord_pos {m n : Nat} (h : n ≤ m) : ¬ ord m n < 0 := by unfold ord; rw [if_neg (by omega)]; split <;> decide
def FtInv (w wr : World) (num den i j : Nat) (nu de : Value) (XC TC ZC VC : Array Value) : Prop :=
 Row wr w.heap.size XC 52 ∧ DArg 0 wr nu (num * 10 ^ i) ∧ DArg 0 wr de (den * 10 ^ j) ∧ Row wr (w.heap.size + 1) TC 25 ∧ Row wr (w.heap.size + 1 + 1) ZC 23 ∧ Row wr (w.heap.size + 1 + 1 + 1) VC 23 ∧ Below w.heap.size w wr
def slLen : Value → Nat
 | .slice _ n _ => n
 | _ => 0
theorem Row.putq {w : World} {b : Nat} {a0 a1 a2 a3 : Value} {t : TypeId} (h : Row w b #[a0, a1, a2, a3] t) (x : Value) : Row (w.setCell ⟨b, 2, none⟩ x) b #[a0, a1, x, a3] t := h.putv 2 x
theorem Row.putn {w : World} {b : Nat} {a0 a1 a2 a3 : Value} {t : TypeId} (h : Row w b #[a0, a1, a2, a3] t) (x : Value) : Row (w.setCell ⟨b, 1, none⟩ x) b #[a0, x, a2, a3] t := h.putv 1 x
theorem DOff.head {w : World} {v : Value} {g t n : Nat} (h : DOff w v g t n) (hn : 0 < n) : w.cell? ⟨g, t, none⟩ = some (.int .i64 ((n % 10 : Nat) : Int)) := by
 obtain ⟨cap, _, _, _, h3⟩ := h
 have hd := digs_pos n hn
 have := h3 0 (digs_len_pos hn)
 simp only [hd, List.getElem_cons_zero, Nat.add_zero] at this
 exact this
theorem DOff.next {w : World} {g t n m c : Nat} (h : DOff w (.slice (some ⟨g, t, none⟩) (m + 1) c) g t n) (hn : 0 < n) : DOff w (.slice (some ⟨g, t + 1, none⟩) m (c - 1)) g (t + 1) (n / 10) ∧ m = (digs (n / 10)).length := by
 obtain ⟨cap, e, h1, h2, h3⟩ := h
 have hd := digs_pos n hn
 injection e with e1 e2 e3
 subst e3
 have hm : m = (digs (n / 10)).length := by rw [hd] at e2; simpa using e2
 refine ⟨⟨c - 1, by rw [hm], by rw [← hm]; omega, h2, fun j hj => ?_⟩, hm⟩
 have := h3 (j + 1) (by rw [hd]; simpa using hj)
 simp only [hd, List.getElem_cons_succ] at this
 rw [show t + 1 + j = t + (j + 1) by omega]
 exact this
theorem DOff.set {w : World} {v x : Value} {g t n : Nat} (h : DOff w v g t n) (a : Addr) (ha : a.block ≠ g) : DOff (w.setCell a x) v g t n := by
 obtain ⟨cap, e, h1, h2, h3⟩ := h
 exact ⟨cap, e, h1, by simpa using h2, fun j hj => (World.cell?_setCell_far w a ⟨g, t + j, none⟩ x ha).trans (h3 j hj)⟩
theorem darg_base {B : Nat} {w : World} {g n len c : Nat} (h : DArg B w (.slice (some ⟨g, 0, none⟩) len c) n) (_hl : 0 < (digs n).length) : B ≤ g := by
 rcases h with ⟨e, _⟩ | ⟨b, cap, e, _, hB, _⟩
 · cases e
 · cases e; exact hB
theorem sgn_abs (neg : Bool) (n : Nat) : (sgn neg n).natAbs = n := by cases neg <;> simp [sgn]
theorem sgn_fix {neg : Bool} {n m : Nat} (h : 0 < n) : fixN (sgn neg n) m = sgn neg m := by
 cases neg
 · show (if (n : Int) < 0 then _ else _) = (m : Int)
   rw [if_neg (by omega)]
 · show (if -(n : Int) < 0 then _ else _) = -(m : Int)
   rw [if_pos (by omega)]
theorem sgn_ne {neg : Bool} {n : Nat} (h : 0 < n) : sgn neg n ≠ 0 := by
 unfold sgn
 split <;> omega
theorem DOff.drew {w : World} {v : Value} {g t n : Nat} (h : DOff w v g t n) : DOff w.drew v g t n := h
def FtPost (w : World) (P : Nat) (z : Int) (den : Nat) (e : Ending) (w' : World) : Prop := ∃ N Q c : Int, (e = .returned (.tuple #[valV 3 N Q ⟨#[]⟩, .int .i64 c]) ∧ Below w.heap.size w w') ∧ FltR P z den N Q c
theorem ftPost_mk {w w' : World} {P den : Nat} {z N Q c : Int} (h : FltR P z den N Q c) (hb : Below w.heap.size w w') : FtPost w P z den (.returned (.tuple #[valV 3 N Q ⟨#[]⟩, .int .i64 c])) w' := ⟨N, Q, c, ⟨rfl, hb⟩, h⟩
set_option maxRecDepth 100000 in
set_option maxHeartbeats 8000000 in
theorem float_n {B : Nat} {w : World} {u : Value} {neg : Bool} {num den P : Nat} {q n : Int} {vy : Bool} {pic : ByteArray} (hx : RArg B w u neg num den) (hn : 0 < num) (hd : 0 < den) (hP : 1 ≤ P) (hP2 : P ≤ 15) (ln : (digs num).length ≤ 1000) (ld : (digs den).length ≤ 1000) :
   Calls Tryz.prog 66 #[u, tyV 3 (P : Int) q n vy pic] w (FtPost w P (sgn neg num) den) := by
 obtain ⟨vn, vd, rfl, Dn, Dd⟩ := hx
 obtain ⟨pn, kn, rfl⟩ := Dn.slice
 obtain ⟨pd, kd, rfl⟩ := Dd.slice
 have hEx := expE_of hn hd
 have e1 := expE_le num den
 have e2 := expE_ge num den
 have p1 := digs_len_pos hn
 have p2 := digs_len_pos hd
 obtain ⟨E, hE⟩ : ∃ E, expE num den = E := ⟨_, rfl⟩
 rw [hE] at hEx e1 e2
 obtain ⟨Ks, hKs⟩ : ∃ Ks : Int, (P : Int) - 1 - E = Ks := ⟨_, rfl⟩
 have HFE : Hid (∀ i j : Nat, (i : Int) - j = Ks → 10 ^ (P - 1) * (den * 10 ^ j) ≤ num * 10 ^ i ∧ num * 10 ^ i < 10 ^ P * (den * 10 ^ j)) := Lib.hid fun i j h => hEx.flo hP (by omega)
 have HFW : Hid (∀ i j : Nat, (i : Int) - j < Ks → num * 10 ^ i < den * 10 ^ j * 10 ^ (P - 1)) := Lib.hid fun i j h => hEx.few hP (by omega)
 have HFR : Hid (∀ i j : Nat, (i : Int) - j = Ks → FloR P num den ((i : Int) - j) (rndN (num * 10 ^ i) (den * 10 ^ j)) ∧ 0 < rndN (num * 10 ^ i) (den * 10 ^ j) ∧ rndN (num * 10 ^ i) (den * 10 ^ j) ≤ 10 ^ P) := Lib.hid fun i j h => by
   obtain ⟨h1, h2⟩ := HFE.out i j h
   have h3 : FloR P num den ((i : Int) - j) (rndN (num * 10 ^ i) (den * 10 ^ j)) := ⟨i, j, rfl, h1, h2, rfl⟩
   exact ⟨h3, h3.bound hd⟩
 obtain ⟨L1, hL1⟩ : ∃ L1 : Nat, (digs num).length = L1 := ⟨_, rfl⟩
 obtain ⟨L2, hL2⟩ : ∃ L2 : Nat, (digs den).length = L2 := ⟨_, rfl⟩
 obtain ⟨k0, hk0⟩ : ∃ k0 : Int, (P : Int) - ((L1 : Int) - L2) - 1 = k0 := ⟨_, rfl⟩
 rw [hL1] at e1 e2 ln p1
 rw [hL2] at e1 e2 ld p2
 have hk1 : k0 ≤ Ks := by omega
 have hkb : -1100 ≤ k0 ∧ Ks ≤ 1100 := by omega
 have hw1 : IntKind.i64.wrap ((L1 : Int) - (L2 : Int)) = (L1 : Int) - L2 := IntWalk.i64_in _ (by omega)
 have hw2 : IntKind.i64.wrap ((P : Int) - ((L1 : Int) - (L2 : Int))) = (P : Int) - ((L1 : Int) - (L2 : Int)) := IntWalk.i64_in _ (by omega)
 have hw3 : IntKind.i64.wrap ((P : Int) - ((L1 : Int) - (L2 : Int)) - 1) = k0 := by rw [hk0]; exact IntWalk.i64_in _ (by omega)
 have hl1 : ((L1 : Int) == 0) = false := by rw [beq_eq_false_iff_ne]; omega
 rw [hL1] at Dn ⊢
 rw [hL2] at Dd ⊢
 have HDn := Lib.hid Dn
 have HDd := Lib.hid Dd
 have HL1 := Lib.hid hL1
 have HL2 := Lib.hid hL2
 have RX := (((Row.new w #[.bool neg, .slice pn L1 kn, .slice pd L2 kd] 52).alloc (.cells #[.int .i64 3, .int .i64 (P : Int), .int .i64 q, .int .i64 n, .bool vy, .string pic] 25)).alloc (.cells #[.int .i64 0, .int .i64 0, .int .i64 0, .string ⟨#[]⟩] 23)).alloc (.cells #[.int .i64 3, .int .i64 0, .int .i64 0, .string ⟨#[]⟩] 23)
 have RT := ((Row.new2 w (.cells #[.bool neg, .slice pn L1 kn, .slice pd L2 kd] 52) #[.int .i64 3, .int .i64 (P : Int), .int .i64 q, .int .i64 n, .bool vy, .string pic] 25).alloc (.cells #[.int .i64 0, .int .i64 0, .int .i64 0, .string ⟨#[]⟩] 23)).alloc (.cells #[.int .i64 3, .int .i64 0, .int .i64 0, .string ⟨#[]⟩] 23)
 have RZ := (Row.new3 w (.cells #[.bool neg, .slice pn L1 kn, .slice pd L2 kd] 52) (.cells #[.int .i64 3, .int .i64 (P : Int), .int .i64 q, .int .i64 n, .bool vy, .string pic] 25) #[.int .i64 0, .int .i64 0, .int .i64 0, .string ⟨#[]⟩] 23).alloc (.cells #[.int .i64 3, .int .i64 0, .int .i64 0, .string ⟨#[]⟩] 23)
 have RV := row_n3 w (.cells #[.bool neg, .slice pn L1 kn, .slice pd L2 kd] 52) (.cells #[.int .i64 3, .int .i64 (P : Int), .int .i64 q, .int .i64 n, .bool vy, .string pic] 25) (.cells #[.int .i64 0, .int .i64 0, .int .i64 0, .string ⟨#[]⟩] 23) #[.int .i64 3, .int .i64 0, .int .i64 0, .string ⟨#[]⟩] 23
 clear hE hEx e1 e2 Dn Dd hL1 hL2 hKs p1 p2
 go_enter Tryz.func66, Tryz.ntmps66
 go_wp2_with fail
 generalize hw : (((w.alloc (.cells #[.bool neg, .slice pn L1 kn, .slice pd L2 kd] 52)).alloc (.cells #[.int .i64 3, .int .i64 (P : Int), .int .i64 q, .int .i64 n, .bool vy, .string pic] 25)).alloc (.cells #[.int .i64 0, .int .i64 0, .int .i64 0, .string ⟨#[]⟩] 23)).alloc (.cells #[.int .i64 3, .int .i64 0, .int .i64 0, .string ⟨#[]⟩] 23) = W at *
 have B0 : Hid (Below w.heap.size w W) := by show Below _ _ _; rw [← hw]; go_grown
 have hsz : w.heap.size + 1 + 1 + 1 + 1 ≤ W.heap.size := by rw [← hw]; simp
 clear hw
 obtain ⟨x0, x1, x2⟩ := RX.ex
 go_quiet (fail)
 have RX := RX.drewN nq
 have RT := RT.drewN nq
 have RZ := RZ.drewN nq
 have RV := RV.drewN nq
 have B0 := Lib.hid (bl_dN B0.out nq)
 have hsz : w.heap.size + 1 + 1 + 1 + 1 ≤ (W.drewN nq).heap.size := hsz
 generalize W.drewN nq = W at *
 have DN0 := Lib.hid (HDn.out.keep B0.out (Nat.le_refl _))
 have DD0 := Lib.hid (HDd.out.keep B0.out (Nat.le_refl _))
 clear x0 x1 x2 HDn HDd
 have HPW : ∀ k : Int, 0 ≤ k → k ≤ 1100 → Hid (∀ W, Calls Tryz.prog 53 #[.int .i64 10, .int .i64 k] W (Gives W (10 ^ k.toNat))) := fun k h1 h2 => Lib.hid fun W => by
   have := pow10_d k.toNat W (by omega)
   rwa [Int.toNat_of_nonneg h1] at this
 go_upto_if 35 with (fail)
 go_cut [8, 9] (fun s8 s9 wx => ∃ (i J : Nat) (p8 p9 : Option Addr) (k8 k9 : Nat), s8 = .slice p8 (digs (num * 10 ^ i)).length k8 ∧ s9 = .slice p9 (digs (den * 10 ^ J)).length k9 ∧ Hid (k0 = (i : Int) - J ∧ J ≤ 1100) ∧ Hid (FtInv w wx num den i J s8 s9 #[.bool neg, .slice pn L1 kn, .slice pd L2 kd] #[.int .i64 3, .int .i64 (P : Int), .int .i64 q, .int .i64 n, .bool vy, .string pic] #[.int .i64 0, .int .i64 0, .int .i64 0, .string ⟨#[]⟩] #[.int .i64 3, .int .i64 0, .int .i64 0, .string ⟨#[]⟩]))
 case first =>
   by_cases hk : 0 ≤ k0
   · have HP0 := HPW k0 hk (by omega)
     have HM0 : Hid (∀ (B C : Nat) (v1 v2 : Value) (W : World), DArg B W v1 num → DArg C W v2 (10 ^ k0.toNat) → Calls Tryz.prog 54 #[v1, v2] W (Gives W (num * 10 ^ k0.toNat))) := Lib.hid fun B C v1 v2 W h1 h2 => mul_d h1 h2 (by rw [HL1.out]; omega) (by rw [digs_len_pow10]; omega)
     go_wp2_with (first
       | (go_at_call 53; (with_reducible refine (HP0.out _).mono ?_); rintro e w1 ⟨v1, rfl, D1, hb1⟩; have RX1 := RX.keep hb1; have RT1 := RT.keep hb1; have RZ1 := RZ.keep hb1; have RV1 := RV.keep hb1; have BW1 := Lib.hid (bl_then B0.out hb1); have DN1 := Lib.hid (DN0.out.keep hb1 (Nat.le_refl _)); have DD1 := Lib.hid (DD0.out.keep hb1 (Nat.le_refl _)); have D1 := Lib.hid D1; obtain ⟨p1, k1, rfl⟩ := D1.out.slice; clear hb1)
       | (go_at_call 54; (with_reducible refine (HM0.out _ _ _ _ _ DN1.out D1.out).mono ?_); rintro e w2 ⟨v2, rfl, D2, hb2⟩; have RX2 := RX1.keep hb2; have RT2 := RT1.keep hb2; have RZ2 := RZ1.keep hb2; have RV2 := RV1.keep hb2; have BW2 := Lib.hid (bl_then BW1.out hb2); have DD2 := Lib.hid (DD1.out.keep hb2 (Nat.le_refl _)); have D2 := Lib.hid D2; obtain ⟨p2, k2, rfl⟩ := D2.out.slice; clear hb2))
     go_meet
     have e0 : den * 10 ^ 0 = den := by rw [Nat.pow_zero, Nat.mul_one]
     exact ⟨k0.toNat, 0, p2, pd, k2, kd, rfl, by rw [e0, HL2.out], Lib.hid (by omega), Lib.hid ⟨RX2, D2.out.base (Nat.zero_le _), by rw [e0]; exact DD2.out.base (Nat.zero_le _), RT2, RZ2, RV2, BW2.out⟩⟩
   · obtain ⟨m, hm⟩ : ∃ m : Int, -k0 = m := ⟨_, rfl⟩
     have hwm : IntKind.i64.wrap (-k0) = m := by rw [hm]; exact IntWalk.i64_in _ (by omega)
     have HP0 := HPW m (by omega) (by omega)
     have HM0 : Hid (∀ (B C : Nat) (v1 v2 : Value) (W : World), DArg B W v1 den → DArg C W v2 (10 ^ m.toNat) → Calls Tryz.prog 54 #[v1, v2] W (Gives W (den * 10 ^ m.toNat))) := Lib.hid fun B C v1 v2 W h1 h2 => mul_d h1 h2 (by rw [HL2.out]; omega) (by rw [digs_len_pow10]; omega)
     have HM := Lib.hid hm
     clear hm
     go_wp2_with (first
       | (go_at_call 53; (with_reducible refine (HP0.out _).mono ?_); rintro e w1 ⟨v1, rfl, D1, hb1⟩; have RX1 := RX.keep hb1; have RT1 := RT.keep hb1; have RZ1 := RZ.keep hb1; have RV1 := RV.keep hb1; have BW1 := Lib.hid (bl_then B0.out hb1); have DN1 := Lib.hid (DN0.out.keep hb1 (Nat.le_refl _)); have DD1 := Lib.hid (DD0.out.keep hb1 (Nat.le_refl _)); have D1 := Lib.hid D1; obtain ⟨p1, k1, rfl⟩ := D1.out.slice; clear hb1)
       | (go_at_call 54; (with_reducible refine (HM0.out _ _ _ _ _ DD1.out D1.out).mono ?_); rintro e w2 ⟨v2, rfl, D2, hb2⟩; have RX2 := RX1.keep hb2; have RT2 := RT1.keep hb2; have RZ2 := RZ1.keep hb2; have RV2 := RV1.keep hb2; have BW2 := Lib.hid (bl_then BW1.out hb2); have DN2 := Lib.hid (DN1.out.keep hb2 (Nat.le_refl _)); have D2 := Lib.hid D2; obtain ⟨p2, k2, rfl⟩ := D2.out.slice; clear hb2))
     go_meet
     have e0 : num * 10 ^ 0 = num := by rw [Nat.pow_zero, Nat.mul_one]
     exact ⟨0, m.toNat, pn, p2, kn, k2, by rw [e0, HL1.out], rfl, Lib.hid (by have := HM.out; omega), Lib.hid ⟨RX2, by rw [e0]; exact DN2.out.base (Nat.zero_le _), D2.out.base (Nat.zero_le _), RT2, RZ2, RV2, BW2.out⟩⟩
 case rest =>
   obtain ⟨w2, rfl⟩ : ∃ w2 : World, w2 = wc := ⟨_, rfl⟩
   obtain ⟨i0, J, p2, p9, k2, k9, rfl, rfl, HJ, HI0⟩ := hcut
   clear DN0 DD0 RX RT RZ RV B0 HPW
   go_wp2_with fail
   go_loopw [7, 8] (fun k nu wr => ∃ (i : Nat) (kk : Int), k = .int .i64 kk ∧ Hid (kk = (i : Int) - J ∧ kk ≤ Ks ∧ -1100 ≤ kk) ∧ Hid (FtInv w wr num den i J nu (.slice p9 (digs (den * 10 ^ J)).length k9) #[.bool neg, .slice pn L1 kn, .slice pd L2 kd] #[.int .i64 3, .int .i64 (P : Int), .int .i64 q, .int .i64 n, .bool vy, .string pic] #[.int .i64 0, .int .i64 0, .int .i64 0, .string ⟨#[]⟩] #[.int .i64 3, .int .i64 0, .int .i64 0, .string ⟨#[]⟩])) (fun k _ _ => (Ks - intOf k).toNat)
   case atStart => exact ⟨i0, k0, rfl, Lib.hid ⟨HJ.out.1, hk1, by omega⟩, HI0⟩
   case round =>
     clear HI0
     obtain ⟨i, kk, rfl, HK, HI⟩ := hrel
     have HB : Hid ((digs (num * 10 ^ i)).length ≤ 4000 ∧ (digs (den * 10 ^ J)).length ≤ 3000 ∧ (digs (den * 10 ^ J * 10 ^ (P - 1))).length ≤ 4000 ∧ (digs (den * 10 ^ J * 10 ^ P)).length ≤ 4000) := Lib.hid (by
       have h1 := HK.out
       have h2 := HJ.out
       have g1 := digs_len_mul num (10 ^ i)
       have g2 := digs_len_mul den (10 ^ J)
       have g3 := digs_len_mul (den * 10 ^ J) (10 ^ (P - 1))
       have g4 := digs_len_mul (den * 10 ^ J) (10 ^ P)
       rw [HL1.out, digs_len_pow10] at g1
       rw [HL2.out, digs_len_pow10] at g2
       rw [digs_len_pow10] at g3 g4
       omega)
     obtain ⟨I0, I1, I2, I3, I4, I5, I6⟩ := HI.out
     have hwP : IntKind.i64.wrap ((P : Int) - 1) = ((P - 1 : Nat) : Int) := by rw [IntWalk.i64_in _ (by omega)]; omega
     have HP1 : Hid (∀ W, Calls Tryz.prog 53 #[.int .i64 10, .int .i64 ((P - 1 : Nat) : Int)] W (Gives W (10 ^ (P - 1)))) := Lib.hid fun W => pow10_d (P - 1) W (by omega)
     have HM1 : Hid (∀ (B C : Nat) (v1 v2 : Value) (W : World), DArg B W v1 (den * 10 ^ J) → DArg C W v2 (10 ^ (P - 1)) → Calls Tryz.prog 54 #[v1, v2] W (Gives W (den * 10 ^ J * 10 ^ (P - 1)))) := Lib.hid fun B C v1 v2 W h1 h2 => mul_d h1 h2 (by have := HB.out; omega) (by rw [digs_len_pow10]; omega)
     have HC1 : Hid (∀ (B C : Nat) (v1 v2 : Value) (W : World), DArg B W v1 (num * 10 ^ i) → DArg C W v2 (den * 10 ^ J * 10 ^ (P - 1)) → Calls Tryz.prog 70 #[v1, v2] W fun e w' => e = .returned (.int .i64 (ord (num * 10 ^ i) (den * 10 ^ J * 10 ^ (P - 1)))) ∧ Below W.heap.size W w') := Lib.hid fun B C v1 v2 W h1 h2 => cmp_d h1 h2 (by have := HB.out; omega) (by have := HB.out; omega)
     obtain ⟨c, hc⟩ : ∃ c, ord (num * 10 ^ i) (den * 10 ^ J * 10 ^ (P - 1)) = c := ⟨_, rfl⟩
     rw [hc] at HC1
     have HIN := Lib.hid I1
     have HID := Lib.hid I2
     have BI := Lib.hid I6
     obtain ⟨pN, kN, rfl⟩ := I1.slice
     obtain ⟨t0, t1, t2, t3, t4, t5⟩ := I3.six
     clear I1 I2 I6 HI
     by_cases hlt : kk < Ks
     · have hcn : c < 0 := by rw [← hc]; exact ord_neg (HFW.out _ _ (by have := HK.out; omega))
       have hwk : IntKind.i64.wrap (kk + 1) = kk + 1 := IntWalk.i64_in _ (by have := HK.out; omega)
       have HP2 : Hid (∀ W, Calls Tryz.prog 53 #[.int .i64 10, .int .i64 1] W (Gives W (10 ^ 1))) := Lib.hid fun W => pow10_d 1 W (by omega)
       have HM2 : Hid (∀ (B C : Nat) (v1 v2 : Value) (W : World), DArg B W v1 (num * 10 ^ i) → DArg C W v2 (10 ^ 1) → Calls Tryz.prog 54 #[v1, v2] W (Gives W (num * 10 ^ i * 10 ^ 1))) := Lib.hid fun B C v1 v2 W h1 h2 => mul_d h1 h2 (by have := HB.out; omega) (by rw [digs_len_pow10]; omega)
       rw [show num * 10 ^ i * 10 ^ 1 = num * 10 ^ (i + 1) by rw [Nat.mul_assoc, ← Nat.pow_add]] at HM2
       clear hc
       go_wp2_with (first
         | (go_at_call 53; (with_reducible refine (HP1.out _).mono ?_); rintro e w3 ⟨v3, rfl, D3, hb3⟩; have RX3 := I0.keep hb3; have RT3 := I3.keep hb3; have RZ3 := I4.keep hb3; have RV3 := I5.keep hb3; have BW3 := Lib.hid (bl_then BI.out hb3); have N3 := Lib.hid (HIN.out.keep hb3 (Nat.le_refl _)); have U3 := Lib.hid (HID.out.keep hb3 (Nat.le_refl _)); have D3 := Lib.hid D3; obtain ⟨p3, k3, rfl⟩ := D3.out.slice; clear hb3)
         | (go_at_call 54; (with_reducible refine (HM1.out _ _ _ _ _ U3.out D3.out).mono ?_); rintro e w4 ⟨v4, rfl, D4, hb4⟩; have RX4 := RX3.keep hb4; have RT4 := RT3.keep hb4; have RZ4 := RZ3.keep hb4; have RV4 := RV3.keep hb4; have BW4 := Lib.hid (bl_then BW3.out hb4); have N4 := Lib.hid (N3.out.keep hb4 (Nat.le_refl _)); have U4 := Lib.hid (U3.out.keep hb4 (Nat.le_refl _)); have D4 := Lib.hid D4; obtain ⟨p4, k4, rfl⟩ := D4.out.slice; clear hb4)
         | (go_at_call 70; (with_reducible refine (HC1.out _ _ _ _ _ N4.out D4.out).mono ?_); rintro e w5 ⟨rfl, hb5⟩; have RX5 := RX4.keep hb5; have RT5 := RT4.keep hb5; have RZ5 := RZ4.keep hb5; have RV5 := RV4.keep hb5; have BW5 := Lib.hid (bl_then BW4.out hb5); have N5 := Lib.hid (N4.out.keep hb5 (Nat.le_refl _)); have U5 := Lib.hid (U4.out.keep hb5 (Nat.le_refl _)); clear hb5)
         | (go_at_call 53; (with_reducible refine (HP2.out _).mono ?_); rintro e w6 ⟨v6, rfl, D6, hb6⟩; have RX6 := RX5.keep hb6; have RT6 := RT5.keep hb6; have RZ6 := RZ5.keep hb6; have RV6 := RV5.keep hb6; have BW6 := Lib.hid (bl_then BW5.out hb6); have N6 := Lib.hid (N5.out.keep hb6 (Nat.le_refl _)); have U6 := Lib.hid (U5.out.keep hb6 (Nat.le_refl _)); have D6 := Lib.hid D6; obtain ⟨p6, k6, rfl⟩ := D6.out.slice; clear hb6)
         | (go_at_call 54; (with_reducible refine (HM2.out _ _ _ _ _ N6.out D6.out).mono ?_); rintro e w7 ⟨v7, rfl, D7, hb7⟩; have RX7 := RX6.keep hb7; have RT7 := RT6.keep hb7; have RZ7 := RZ6.keep hb7; have RV7 := RV6.keep hb7; have BW7 := Lib.hid (bl_then BW6.out hb7); have U7 := Lib.hid (U6.out.keep hb7 (Nat.le_refl _)); have D7 := Lib.hid D7; obtain ⟨p7, k7, rfl⟩ := D7.out.slice; clear hb7))
       case roundEnd =>
         refine ⟨⟨i + 1, kk + 1, rfl, Lib.hid (by have := HK.out; omega), Lib.hid ⟨RX7, D7.out.base (Nat.zero_le _), U7.out, RT7, RZ7, RV7, BW7.out⟩⟩, ?_⟩
         simp [intOf]; omega
     · have hcn : ¬ c < 0 := by rw [← hc]; exact ord_pos (by rw [Nat.mul_comm]; exact (HFE.out _ _ (by have := HK.out; omega)).1)
       clear hc
       go_wp2_with (first
         | (go_at_call 53; (with_reducible refine (HP1.out _).mono ?_); rintro e w3 ⟨v3, rfl, D3, hb3⟩; have RX3 := I0.keep hb3; have RT3 := I3.keep hb3; have RZ3 := I4.keep hb3; have RV3 := I5.keep hb3; have BW3 := Lib.hid (bl_then BI.out hb3); have N3 := Lib.hid (HIN.out.keep hb3 (Nat.le_refl _)); have U3 := Lib.hid (HID.out.keep hb3 (Nat.le_refl _)); have D3 := Lib.hid D3; obtain ⟨p3, k3, rfl⟩ := D3.out.slice; clear hb3)
         | (go_at_call 54; (with_reducible refine (HM1.out _ _ _ _ _ U3.out D3.out).mono ?_); rintro e w4 ⟨v4, rfl, D4, hb4⟩; have RX4 := RX3.keep hb4; have RT4 := RT3.keep hb4; have RZ4 := RZ3.keep hb4; have RV4 := RV3.keep hb4; have BW4 := Lib.hid (bl_then BW3.out hb4); have N4 := Lib.hid (N3.out.keep hb4 (Nat.le_refl _)); have U4 := Lib.hid (U3.out.keep hb4 (Nat.le_refl _)); have D4 := Lib.hid D4; obtain ⟨p4, k4, rfl⟩ := D4.out.slice; clear hb4)
         | (go_at_call 70; (with_reducible refine (HC1.out _ _ _ _ _ N4.out D4.out).mono ?_); rintro e w5 ⟨rfl, hb5⟩; have RX5 := RX4.keep hb5; have RT5 := RT4.keep hb5; have RZ5 := RZ4.keep hb5; have RV5 := RV4.keep hb5; have BW5 := Lib.hid (bl_then BW4.out hb5); have N5 := Lib.hid (N4.out.keep hb5 (Nat.le_refl _)); have U5 := Lib.hid (U4.out.keep hb5 (Nat.le_refl _)); clear hb5))
       have HI5 : Hid (FtInv w w5 num den i J (.slice pN (digs (num * 10 ^ i)).length kN) (.slice p9 (digs (den * 10 ^ J)).length k9) #[.bool neg, .slice pn L1 kn, .slice pd L2 kd] #[.int .i64 3, .int .i64 (P : Int), .int .i64 q, .int .i64 n, .bool vy, .string pic] #[.int .i64 0, .int .i64 0, .int .i64 0, .string ⟨#[]⟩] #[.int .i64 3, .int .i64 0, .int .i64 0, .string ⟨#[]⟩]) := Lib.hid ⟨RX5, N5.out, U5.out, RT5, RZ5, RV5, BW5.out⟩
       clear N3 N4 N5 U3 U4 U5 D3 D4 RX3 RX4 RX5 RT3 RT4 RT5 RZ3 RZ4 RZ5 RV3 RV4 RV5 BW3 BW4 BW5 HIN HID BI I0 I3 I4 I5 t0 t1 t2 t3 t4 t5 HP1 HM1 HC1 hcn
       go_loopw [7, 9] (fun k de wr => k = .int .i64 kk ∧ de = (.slice p9 (digs (den * 10 ^ J)).length k9) ∧ Hid (FtInv w wr num den i J (.slice pN (digs (num * 10 ^ i)).length kN) (.slice p9 (digs (den * 10 ^ J)).length k9) #[.bool neg, .slice pn L1 kn, .slice pd L2 kd] #[.int .i64 3, .int .i64 (P : Int), .int .i64 q, .int .i64 n, .bool vy, .string pic] #[.int .i64 0, .int .i64 0, .int .i64 0, .string ⟨#[]⟩] #[.int .i64 3, .int .i64 0, .int .i64 0, .string ⟨#[]⟩])) (fun _ _ _ => 0)
       case atStart => exact ⟨rfl, rfl, HI5⟩
       case round =>
         obtain ⟨rfl, rfl, HI⟩ := hrel
         obtain ⟨I0, I1, I2, I3, I4, I5, I6⟩ := HI.out
         have HP1 : Hid (∀ W, Calls Tryz.prog 53 #[.int .i64 10, .int .i64 (P : Int)] W (Gives W (10 ^ P))) := Lib.hid fun W => pow10_d P W (by omega)
         have HM1 : Hid (∀ (B C : Nat) (v1 v2 : Value) (W : World), DArg B W v1 (den * 10 ^ J) → DArg C W v2 (10 ^ P) → Calls Tryz.prog 54 #[v1, v2] W (Gives W (den * 10 ^ J * 10 ^ P))) := Lib.hid fun B C v1 v2 W h1 h2 => mul_d h1 h2 (by have := HB.out; omega) (by rw [digs_len_pow10]; omega)
         have HC1 : Hid (∀ (B C : Nat) (v1 v2 : Value) (W : World), DArg B W v1 (num * 10 ^ i) → DArg C W v2 (den * 10 ^ J * 10 ^ P) → Calls Tryz.prog 70 #[v1, v2] W fun e w' => e = .returned (.int .i64 (ord (num * 10 ^ i) (den * 10 ^ J * 10 ^ P))) ∧ Below W.heap.size W w') := Lib.hid fun B C v1 v2 W h1 h2 => cmp_d h1 h2 (by have := HB.out; omega) (by have := HB.out; omega)
         obtain ⟨c, hc⟩ : ∃ c, ord (num * 10 ^ i) (den * 10 ^ J * 10 ^ P) = c := ⟨_, rfl⟩
         rw [hc] at HC1
         have hcn : ¬ 0 ≤ c := by rw [← hc]; exact ord_not (by rw [Nat.mul_comm (den * 10 ^ J)]; exact (HFE.out _ _ (by have := HK.out; omega)).2)
         have HIN := Lib.hid I1
         have HID := Lib.hid I2
         have BI := Lib.hid I6
         obtain ⟨t0, t1, t2, t3, t4, t5⟩ := I3.six
         clear I1 I2 I6 HI hc
         have HBD : Hid (0 < rndN (num * 10 ^ i) (den * 10 ^ J) ∧ rndN (num * 10 ^ i) (den * 10 ^ J) ≤ 10 ^ P) := Lib.hid (HFR.out i J (by have := HK.out; omega)).2
         have HFRD : Hid (FloR P num den ((i : Int) - J) (rndN (num * 10 ^ i) (den * 10 ^ J))) := Lib.hid (HFR.out i J (by have := HK.out; omega)).1
         have HDV : Hid (∀ (B C : Nat) (v1 v2 : Value) (W : World), DArg B W v1 (num * 10 ^ i) → DArg C W v2 (den * 10 ^ J) → Calls Tryz.prog 67 #[v1, v2] W (Gives2 W (num * 10 ^ i / (den * 10 ^ J)) (num * 10 ^ i % (den * 10 ^ J)))) := Lib.hid fun B C v1 v2 W h1 h2 => div_d h1 h2 (Nat.mul_pos hd (Nat.pow_pos (by decide))) (by have := HB.out; omega) (by have := HB.out; omega)
         have lq : (digs (num * 10 ^ i / (den * 10 ^ J))).length ≤ 4000 := Nat.le_trans (digs_len_mono (Nat.div_le_self _ _)) HB.out.1
         have lr : (digs (num * 10 ^ i % (den * 10 ^ J))).length ≤ 4000 := Nat.le_trans (digs_len_mono (Nat.mod_le _ _)) HB.out.1
         have lU : (digs (den * 10 ^ J)).length ≤ 3000 := HB.out.2.1
         obtain ⟨dq, hdq⟩ : ∃ x, num * 10 ^ i / (den * 10 ^ J) = x := ⟨_, rfl⟩
         obtain ⟨dr, hdr⟩ : ∃ x, num * 10 ^ i % (den * 10 ^ J) = x := ⟨_, rfl⟩
         unfold rndN at HBD HFRD
         unfold Gives2 at HDV
         rw [hdq, hdr] at HDV HBD HFRD
         rw [hdq] at lq
         rw [hdr] at lr
         obtain ⟨dD, hdD⟩ : ∃ x, dq + (if den * 10 ^ J ≤ 2 * dr then 1 else 0) = x := ⟨_, rfl⟩
         rw [hdD] at HBD HFRD
         have hcas : (den * 10 ^ J ≤ 2 * dr ∧ dq + 1 = dD) ∨ (¬ den * 10 ^ J ≤ 2 * dr ∧ dq = dD) := by
           by_cases h : den * 10 ^ J ≤ 2 * dr
           · rw [if_pos h] at hdD; exact .inl ⟨h, hdD⟩
           · rw [if_neg h] at hdD; exact .inr ⟨h, hdD⟩
         have HCAS := Lib.hid hcas
         have HSR : Hid (∀ (B C : Nat) (v1 v2 : Value) (W : World), DArg B W v1 dr → DArg C W v2 dr → Calls Tryz.prog 71 #[v1, v2] W (Gives W (dr + dr))) := Lib.hid fun B C v1 v2 W h1 h2 => plus_d h1 h2 (by omega) (by omega)
         have hl2 := digs_len_add dr dr
         have HC2 : Hid (∀ (B C : Nat) (v1 v2 : Value) (W : World), DArg B W v1 (dr + dr) → DArg C W v2 (den * 10 ^ J) → Calls Tryz.prog 70 #[v1, v2] W fun e w' => e = .returned (.int .i64 (ord (dr + dr) (den * 10 ^ J))) ∧ Below W.heap.size W w') := Lib.hid fun B C v1 v2 W h1 h2 => cmp_d h1 h2 (by omega) (by omega)
         have HSQ : Hid (∀ (B C : Nat) (v1 v2 : Value) (W : World), DArg B W v1 dq → DArg C W v2 1 → Calls Tryz.prog 71 #[v1, v2] W (Gives W (dq + 1))) := Lib.hid fun B C v1 v2 W h1 h2 => plus_d h1 h2 (by omega) (by rw [digs_one]; decide)
         obtain ⟨d2, hd2⟩ : ∃ x, dr + dr = x := ⟨_, rfl⟩
         have HD2 := Lib.hid hd2
         rw [hd2] at HSR HC2
         obtain ⟨c2, hc2⟩ : ∃ c, ord d2 (den * 10 ^ J) = c := ⟨_, rfl⟩
         have HCC := Lib.hid hc2
         rw [hc2] at HC2
         clear hcas hdD hdq hdr hd2 hc2 hl2 lq lr lU
         go_upto_if 83 with (first
           | (go_at_call 53; (with_reducible refine (HP1.out _).mono ?_); rintro e w3 ⟨v3, rfl, D3, hb3⟩; have RX3 := I0.keep hb3; have RT3 := I3.keep hb3; have RZ3 := I4.keep hb3; have RV3 := I5.keep hb3; have BW3 := Lib.hid (bl_then BI.out hb3); have N3 := Lib.hid (HIN.out.keep hb3 (Nat.le_refl _)); have U3 := Lib.hid (HID.out.keep hb3 (Nat.le_refl _)); have D3 := Lib.hid D3; obtain ⟨p3, k3, rfl⟩ := D3.out.slice; clear hb3)
           | (go_at_call 54; (with_reducible refine (HM1.out _ _ _ _ _ U3.out D3.out).mono ?_); rintro e w4 ⟨v4, rfl, D4, hb4⟩; have RX4 := RX3.keep hb4; have RT4 := RT3.keep hb4; have RZ4 := RZ3.keep hb4; have RV4 := RV3.keep hb4; have BW4 := Lib.hid (bl_then BW3.out hb4); have N4 := Lib.hid (N3.out.keep hb4 (Nat.le_refl _)); have U4 := Lib.hid (U3.out.keep hb4 (Nat.le_refl _)); have D4 := Lib.hid D4; obtain ⟨p4, k4, rfl⟩ := D4.out.slice; clear hb4)
           | (go_at_call 70; (with_reducible refine (HC1.out _ _ _ _ _ N4.out D4.out).mono ?_); rintro e w5 ⟨rfl, hb5⟩; have RX5 := RX4.keep hb5; have RT5 := RT4.keep hb5; have RZ5 := RZ4.keep hb5; have RV5 := RV4.keep hb5; have BW5 := Lib.hid (bl_then BW4.out hb5); have N5 := Lib.hid (N4.out.keep hb5 (Nat.le_refl _)); have U5 := Lib.hid (U4.out.keep hb5 (Nat.le_refl _)); clear hb5)
           | (go_at_call 67; (with_reducible refine (HDV.out _ _ _ _ _ N5.out U5.out).mono ?_); rintro e w6 ⟨v6, y6, rfl, D6, E6, hb6⟩; have RX6 := RX5.keep hb6; have RT6 := RT5.keep hb6; have RZ6 := RZ5.keep hb6; have RV6 := RV5.keep hb6; have BW6 := Lib.hid (bl_then BW5.out hb6); have U6 := Lib.hid (U5.out.keep hb6 (Nat.le_refl _)); have D6 := Lib.hid D6; have E6 := Lib.hid E6; obtain ⟨p6, k6, rfl⟩ := D6.out.slice; obtain ⟨r6, l6, rfl⟩ := E6.out.slice; clear hb6)
           | (go_at_call 71; (with_reducible refine (HSR.out _ _ _ _ _ E6.out E6.out).mono ?_); rintro e w7 ⟨v7, rfl, D7, hb7⟩; have RX7 := RX6.keep hb7; have RT7 := RT6.keep hb7; have RZ7 := RZ6.keep hb7; have RV7 := RV6.keep hb7; have BW7 := Lib.hid (bl_then BW6.out hb7); have U7 := Lib.hid (U6.out.keep hb7 (Nat.le_refl _)); have Q7 := Lib.hid (D6.out.keep hb7 (Nat.le_refl _)); have D7 := Lib.hid D7; obtain ⟨p7, k7, rfl⟩ := D7.out.slice; clear hb7)
           | (go_at_call 70; (with_reducible refine (HC2.out _ _ _ _ _ D7.out U7.out).mono ?_); rintro e w8 ⟨rfl, hb8⟩; have RX8 := RX7.keep hb8; have RT8 := RT7.keep hb8; have RZ8 := RZ7.keep hb8; have RV8 := RV7.keep hb8; have BW8 := Lib.hid (bl_then BW7.out hb8); have Q8 := Lib.hid (Q7.out.keep hb8 (Nat.le_refl _)); clear hb8))
         go_cut [10] (fun s10 wx => ∃ (pD : Option Addr) (kD : Nat), s10 = .slice pD (digs dD).length kD ∧ Hid (DArg (w.heap.size + 1 + 1 + 1 + 1) wx s10 dD) ∧ Hid (Row wx (w.heap.size + 1 + 1) #[.int .i64 0, .int .i64 0, .int .i64 0, .string ⟨#[]⟩] 23 ∧ Row wx (w.heap.size + 1 + 1 + 1) #[.int .i64 3, .int .i64 0, .int .i64 0, .string ⟨#[]⟩] 23 ∧ Row wx w.heap.size #[.bool neg, .slice pn L1 kn, .slice pd L2 kd] 52 ∧ Below w.heap.size w wx))
         case first =>
           rcases HCAS.out with ⟨h1, h2⟩ | ⟨h1, h2⟩
           · have hc2 : 0 ≤ c2 := by rw [← HCC.out]; exact ord_yes (by have := HD2.out; omega)
             rw [h2] at HSQ
             clear h1 h2
             have A9 := Row.new w8 #[.int .i64 1] 3
             have D1 : Hid (DArg 0 (w8.alloc (.cells #[.int .i64 1] 3)) (.slice (some ⟨w8.heap.size, 0, none⟩) 1 1) 1) := Lib.hid (darg_one (Nat.zero_le _) (by simp) A9.one)
             have Q9 : Hid (DArg 0 (w8.alloc (.cells #[.int .i64 1] 3)) _ dq) := Lib.hid ((Q8.out.base (Nat.zero_le _)).keep ((Below.refl _ w8).alloc (Nat.le_refl _) _) (Nat.le_refl _))
             go_wp2_with (go_at_call 71; (refine (HSQ.out _ _ _ _ _ Q9.out D1.out).mono ?_); rintro e w9 ⟨v9, rfl, D9, hb9⟩; have RX9 := (RX8.alloc _).keep hb9; have RZ9 := (RZ8.alloc _).keep hb9; have RV9 := (RV8.alloc _).keep hb9; have BW9 := Lib.hid (bl_box BW8.out hb9); have D9 := Lib.hid D9; obtain ⟨p9', k9', rfl⟩ := D9.out.slice; clear hb9)
             go_meet
             exact ⟨_, _, rfl, Lib.hid (D9.out.base (show w.heap.size + 1 + 1 + 1 + 1 ≤ (w8.alloc (.cells #[.int .i64 1] 3)).heap.size by have := RV8.lt; simp; omega)), Lib.hid ⟨RZ9, RV9, RX9, BW9.out⟩⟩
           · have hc2 : ¬ 0 ≤ c2 := by rw [← HCC.out]; exact ord_not (by have := HD2.out; omega)
             clear h1
             subst h2
             go_wp2_with fail
             go_meet
             exact ⟨_, _, rfl, Lib.hid (Q8.out.base (show w.heap.size + 1 + 1 + 1 + 1 ≤ w5.heap.size from RV5.lt)), Lib.hid ⟨RZ8, RV8, RX8, BW8.out⟩⟩
         case rest =>
           obtain ⟨w9, rfl⟩ : ∃ w9 : World, w9 = wc := ⟨_, rfl⟩
           obtain ⟨pD, kD, rfl, HDD, HRR⟩ := hcut
           obtain ⟨RZ9, RV9, RX9, BB9⟩ := HRR.out
           obtain ⟨pD', g, kD', eD, g1, g2, g3, g4⟩ := HDD.out.parts
           have gl := digs_len_pos HBD.out.1
           obtain rfl := g1 gl
           injection eD with eD1 eD2 eD3
           subst eD1
           subst eD3
           have gB : w.heap.size + 1 + 1 + 1 + 1 ≤ g := darg_base HDD.out gl
           have hgs : g < w9.heap.size := g4 gl
           have HO9 : Hid (DOff w9 (.slice (some ⟨g, 0, none⟩) (digs dD).length kD) g 0 dD) := Lib.hid ⟨kD, rfl, g2, hgs, fun j hj => by rw [Nat.zero_add]; exact g3 j hj⟩
           obtain ⟨v0, v1, v2, v3⟩ := RV9.four
           have f2 := RV9.free 2
           have hwk : IntKind.i64.wrap (-kk) = -kk := IntWalk.i64_in _ (by have := HK.out; have := HJ.out; omega)
           clear g1 g2 g3 g4 gl eD2 HCAS HSR HC2 HSQ HD2 HCC HP1 HM1 HC1 hcn HIN HID BI HDV
           go_wp2_with fail
           have nvg : ¬ w.heap.size + 1 + 1 + 1 = g := by omega
           have ngv : ¬ g = w.heap.size + 1 + 1 + 1 := by omega
           have HZZ : Hid (tz dD < 16 ∧ dD ≤ 1000000000000000) := Lib.hid ⟨tz_lt HBD.out.1 (show dD < 10 ^ 16 by have := Nat.le_trans HBD.out.2 (Nat.pow_le_pow_right (by decide : 0 < 10) hP2); omega), Nat.le_trans HBD.out.2 (Nat.le_trans (Nat.pow_le_pow_right (by decide) hP2) (by decide))⟩
           go_loopw [10] (fun s10 wr => ∃ (t Dt m c : Nat) (Qv : Int), s10 = .slice (some ⟨g, t, none⟩) (m + 1) c ∧ Hid (tz Dt + t = tz dD ∧ cutz Dt = cutz dD ∧ 0 < Dt ∧ Qv = (t : Int) - kk ∧ Dt ≤ dD ∧ m + 1 = (digs Dt).length ∧ m + 1 ≤ c) ∧ Hid (DOff wr (.slice (some ⟨g, t, none⟩) (m + 1) c) g t Dt) ∧ Hid (Row wr (w.heap.size + 1 + 1) #[.int .i64 0, .int .i64 0, .int .i64 0, .string ⟨#[]⟩] 23 ∧ Row wr (w.heap.size + 1 + 1 + 1) #[.int .i64 3, .int .i64 0, .int .i64 Qv, .string ⟨#[]⟩] 23 ∧ Row wr w.heap.size #[.bool neg, .slice pn L1 kn, .slice pd L2 kd] 52 ∧ Below w.heap.size w wr)) (fun s10 _ => slLen s10)
           case atStart =>
             have gl := digs_len_pos HBD.out.1
             have hm : (digs dD).length = ((digs dD).length - 1) + 1 := by omega
             refine ⟨0, dD, (digs dD).length - 1, kD, -kk, by rw [← hm], Lib.hid ⟨by omega, rfl, HBD.out.1, by omega, Nat.le_refl _, by omega, ?_⟩, Lib.hid ?_, Lib.hid ⟨RZ9.set (by simp), RV9.putq _, RX9.set (by simp <;> omega), BB9.setCell (by simp; omega) _⟩⟩
             · obtain ⟨cap, e, h1, _⟩ := HO9.out
               injection e with _ _ e3
               omega
             · rw [← hm]; exact HO9.out.set _ (by simpa using nvg)
           case round =>
             obtain ⟨t, Dt, m, c, Qv, rfl, HF, HO, HR⟩ := hrel
             obtain ⟨R1, R2, R3, R4⟩ := HR.out
             obtain ⟨F1, F2, F3, F4, F5, F6, F7⟩ := HF.out
             have hc0 := HO.out.head F3
             obtain ⟨v0, v1, v2, v3⟩ := R2.four
             have f2 := R2.free 2
             by_cases hz : Dt % 10 = 0
             · have hDt : 10 ≤ Dt := by omega
               have hl1 := digs_pos Dt F3
               have hl2 := digs_len_pos (n := Dt / 10) (by omega)
               obtain ⟨m', rfl⟩ : ∃ m', m = m' + 1 := ⟨m - 1, by rw [hl1] at F6; simp at F6; omega⟩
               obtain ⟨HO2, hm2⟩ := HO.out.next F3
               rw [hz] at hc0
               have hc0 : wr.cell? ⟨g, t, none⟩ = some (.int .i64 0) := hc0
               have hwq : IntKind.i64.wrap (Qv + 1) = Qv + 1 := IntWalk.i64_in _ (by have := HZZ.out; have := HK.out; have := HJ.out; omega)
               have HN : Hid (tz (Dt / 10) + (t + 1) = tz dD ∧ cutz (Dt / 10) = cutz dD ∧ 0 < Dt / 10 ∧ Qv + 1 = ((t + 1 : Nat) : Int) - kk ∧ Dt / 10 ≤ dD ∧ m' + 1 = (digs (Dt / 10)).length ∧ m' + 1 ≤ c - 1) := Lib.hid ⟨by rw [tz_step (by omega) hz] at F1; omega, by rw [cutz_step (by omega) hz]; exact F2, by omega, by omega, by omega, hm2, by omega⟩
               have HO2 := Lib.hid HO2
               have HO3 : Hid (DOff (wr.setCell ⟨w.heap.size + 1 + 1 + 1, 2, none⟩ (.int .i64 (Qv + 1))).drew (.slice (some ⟨g, t + 1, none⟩) (m' + 1) (c - 1)) g (t + 1) (Dt / 10)) := Lib.hid ((HO2.out.set (x := .int .i64 (Qv + 1)) ⟨w.heap.size + 1 + 1 + 1, 2, none⟩ nvg).drew)
               have RQ2 := Lib.hid (R2.putq (.int .i64 (Qv + 1)))
               have RZ2 := Lib.hid (R1.set (a := ⟨w.heap.size + 1 + 1 + 1, 2, none⟩) (v := .int .i64 (Qv + 1)) (by simp))
               have RX2 := Lib.hid (R3.set (a := ⟨w.heap.size + 1 + 1 + 1, 2, none⟩) (v := .int .i64 (Qv + 1)) (by simp <;> omega))
               have RB2 := Lib.hid (R4.setCell (p := ⟨w.heap.size + 1 + 1 + 1, 2, none⟩) (by simp; omega) (.int .i64 (Qv + 1)))
               clear F1 F2 F3 F4 F5 F6 hl1 hl2 hm2 hDt R1 R2 R3 R4 HF HR
               obtain ⟨Ln, hLn⟩ : ∃ Ln, m' + 1 + 1 = Ln := ⟨_, rfl⟩
               have HL := Lib.hid hLn
               rw [hLn] at HO F7 ⊢
               have hL0 : 0 < Ln := by omega
               have hL1 : 1 ≤ Ln := by omega
               have hc1 : ¬ c = 1 := by omega
               clear hLn
               go_wp2_with fail
               go_region
               iterate 6 (first | go_values | go_skip | go_guarded | go_step | go_upon | go_simp | skip)
               case roundEnd =>
                 refine ⟨⟨t + 1, Dt / 10, m', c - 1, ⟨rfl, by have := HL.out; omega, rfl⟩, Qv + 1, HN, HO3, Lib.hid ⟨RZ2.out, RQ2.out, RX2.out, RB2.out.drew⟩⟩, ?_⟩
                 show Ln - 1 < Ln
                 omega
             · have hq0 : (((Dt % 10 : Nat) : Int) == 0) = false := by rw [beq_eq_false_iff_ne]; omega
               obtain ⟨dg, hdg⟩ : ∃ x : Int, ((Dt % 10 : Nat) : Int) = x := ⟨_, rfl⟩
               rw [hdg] at hc0 hq0
               have HT : Hid (t = tz dD ∧ Dt = cutz dD) := Lib.hid ⟨by rw [tz_stop hz] at F1; omega, by rw [cutz_stop hz] at F2; exact F2⟩
               have HRR2 : Hid (∀ N Q c, FltE (sgn neg num) ((i : Int) - J) dD N Q c → FltR P (sgn neg num) den N Q c) := Lib.hid fun N Q c h => .inr ⟨sgn_ne hn, _, _, by rw [sgn_abs]; exact HFRD.out, h⟩
               unfold FltE at HRR2
               have hE1 : ((tz dD : Int) - ((i : Int) - J)) = Qv := by have := HT.out; have := HK.out; omega
               have hE2 : (digs (cutz dD)).length = m + 1 := by rw [← HT.out.2]; exact F6.symm
               rw [hE1, hE2, ← HT.out.2, sgn_fix hn] at HRR2
               have h18 : (digs Dt).length ≤ 18 := Nat.le_trans (digs_length Dt 16 (by have := HZZ.out; omega)) (by decide)
               have HSG : Hid (∀ W : World, DOff W (.slice (some ⟨g, t, none⟩) (m + 1) c) g t Dt → Calls Tryz.prog 69 #[.slice (some ⟨g, t, none⟩) (m + 1) c, .bool neg] W fun e w' => e = .returned (.int .i64 (sgn neg Dt)) ∧ W = w') := Lib.hid fun W h => signed_off neg h h18
               obtain ⟨V, hV⟩ : ∃ V, sgn neg Dt = V := ⟨_, rfl⟩
               rw [hV] at HSG HRR2
               rw [← F6] at h18
               have hQ : -1200 ≤ Qv ∧ Qv ≤ 1200 := by have := HZZ.out; have := HK.out; have := HJ.out; omega
               obtain ⟨Ln, hLn⟩ : ∃ Ln, m + 1 = Ln := ⟨_, rfl⟩
               rw [hLn] at HSG HRR2 h18 HO ⊢
               have hL0 : 0 < Ln := by omega
               obtain ⟨ex, hex⟩ : ∃ ex : Int, (Ln : Int) + Qv - 1 = ex := ⟨_, rfl⟩
               rw [show Qv + (Ln : Int) - 1 = ex by omega] at HRR2
               have hw1 : IntKind.i64.wrap ((Ln : Int) + Qv) = (Ln : Int) + Qv := IntWalk.i64_in _ (by omega)
               have hw2 : IntKind.i64.wrap ((Ln : Int) + Qv - 1) = ex := by rw [hex]; exact IntWalk.i64_in _ (by omega)
               have hcase : 75 < ex ∨ (¬ 75 < ex ∧ ex < -75) ∨ (¬ 75 < ex ∧ ¬ ex < -75) := by omega
               have f1 := R2.free 1
               obtain ⟨x0, x1, x2⟩ := R3.ex
               have RZa := R1.set (a := ⟨w.heap.size + 1 + 1 + 1, 1, none⟩) (v := .int .i64 V) (by simp)
               have RVa := R2.putn (.int .i64 V)
               have BBR := Lib.hid (R4.setCell (p := ⟨w.heap.size + 1 + 1 + 1, 1, none⟩) (by simp; omega) (.int .i64 V))
               clear F1 F2 F3 F4 F5 F6 F7 hz hdg hV hQ hLn hex h18 R1 R3 R4 HT hE1 hE2 HF HR
               rcases hcase with h1 | ⟨h1, h2⟩ | ⟨h1, h2⟩
               all_goals
                 go_upto_region 20 with (go_at_call 69; (with_reducible refine (HSG.out _ HO.out).mono ?_); rintro e w10 ⟨rfl, rfl⟩)
                 generalize wr.setCell ⟨w.heap.size + 1 + 1 + 1, 1, none⟩ (.int .i64 V) = w11 at *
                 clear HO hc0 v0 v1 v2 v3 f1 f2 x0 x1 x2 HSG
                 obtain ⟨y0, y1, y2, y3⟩ := RZa.four
                 have g0 := RZa.free 0
                 have g1 := RZa.free 1
                 have g2 := RZa.free 2
                 have g3 := RZa.free 3
                 obtain ⟨v0, v1, v2, v3⟩ := RVa.four
                 iterate 90 (first | go_values | go_skip | go_guarded | go_step | go_upon | go_simp | skip)
               · refine bodyPost_ret (v := .tuple #[valV 3 0 0 ⟨#[]⟩, .int .i64 3]) (by simp [results, Tryz.results66, go_sem, y0, y1, y2, y3]) rfl (ftPost_mk (HRR2.out _ _ _ (.inl ⟨h1, rfl, rfl, rfl⟩)) ?_)
                 (repeat refine Below.setCell ?_ (by simp <;> omega) _)
                 exact BBR.out
               · refine bodyPost_ret (v := .tuple #[valV 3 0 0 ⟨#[]⟩, .int .i64 8]) (by simp [results, Tryz.results66, go_sem, y0, y1, y2, y3]) rfl (ftPost_mk (HRR2.out _ _ _ (.inr (.inl ⟨h2, rfl, rfl, rfl⟩))) ?_)
                 (repeat refine Below.setCell ?_ (by simp <;> omega) _)
                 exact BBR.out
               · refine bodyPost_ret (v := .tuple #[valV 3 V Qv ⟨#[]⟩, .int .i64 0]) (by simp [results, Tryz.results66, go_sem, y0, y1, y2, y3]) rfl (ftPost_mk (HRR2.out _ _ _ (.inr (.inr ⟨by omega, by omega, rfl, rfl, rfl⟩))) ?_)
                 (repeat refine Below.setCell ?_ (by simp <;> omega) _)
                 exact BBR.out
set_option maxRecDepth 100000 in
set_option maxHeartbeats 4000000 in
theorem float_0 {B : Nat} {w : World} {u : Value} {neg : Bool} {num den : Nat} {P q n : Int} {vy : Bool} {pic : ByteArray} (hx : RArg B w u neg num den) (hn : num = 0) :
   Calls Tryz.prog 66 #[u, tyV 3 P q n vy pic] w fun e w' => e = .returned (.tuple #[valV 3 0 0 ⟨#[]⟩, .int .i64 0]) ∧ Below w.heap.size w w' := by
 obtain ⟨vn, vd, rfl, Dn, Dd⟩ := hx
 obtain ⟨pn, kn, rfl⟩ := Dn.slice
 obtain ⟨pd, kd, rfl⟩ := Dd.slice
 have hl : (digs num).length = 0 := by rw [hn, digs_zero]; rfl
 rw [hl]
 clear Dn Dd hl hn
 have RX := (((Row.new w #[.bool neg, .slice pn 0 kn, .slice pd (digs den).length kd] 52).alloc (.cells #[.int .i64 3, .int .i64 P, .int .i64 q, .int .i64 n, .bool vy, .string pic] 25)).alloc (.cells #[.int .i64 0, .int .i64 0, .int .i64 0, .string ⟨#[]⟩] 23)).alloc (.cells #[.int .i64 3, .int .i64 0, .int .i64 0, .string ⟨#[]⟩] 23)
 have RZ := (Row.new3 w (.cells #[.bool neg, .slice pn 0 kn, .slice pd (digs den).length kd] 52) (.cells #[.int .i64 3, .int .i64 P, .int .i64 q, .int .i64 n, .bool vy, .string pic] 25) #[.int .i64 0, .int .i64 0, .int .i64 0, .string ⟨#[]⟩] 23).alloc (.cells #[.int .i64 3, .int .i64 0, .int .i64 0, .string ⟨#[]⟩] 23)
 have RV := row_n3 w (.cells #[.bool neg, .slice pn 0 kn, .slice pd (digs den).length kd] 52) (.cells #[.int .i64 3, .int .i64 P, .int .i64 q, .int .i64 n, .bool vy, .string pic] 25) (.cells #[.int .i64 0, .int .i64 0, .int .i64 0, .string ⟨#[]⟩] 23) #[.int .i64 3, .int .i64 0, .int .i64 0, .string ⟨#[]⟩] 23
 go_enter Tryz.func66, Tryz.ntmps66
 go_upto_region 2 with (fail)
 generalize hw : (((w.alloc (.cells #[.bool neg, .slice pn 0 kn, .slice pd (digs den).length kd] 52)).alloc (.cells #[.int .i64 3, .int .i64 P, .int .i64 q, .int .i64 n, .bool vy, .string pic] 25)).alloc (.cells #[.int .i64 0, .int .i64 0, .int .i64 0, .string ⟨#[]⟩] 23)).alloc (.cells #[.int .i64 3, .int .i64 0, .int .i64 0, .string ⟨#[]⟩] 23) = W at *
 have B0 : Hid (Below w.heap.size w W) := by show Below _ _ _; rw [← hw]; go_grown
 clear hw
 obtain ⟨x0, x1, x2⟩ := RX.ex
 obtain ⟨y0, y1, y2, y3⟩ := RZ.four
 obtain ⟨v0, v1, v2, v3⟩ := RV.four
 have g0 := RZ.free 0
 have g1 := RZ.free 1
 have g2 := RZ.free 2
 have g3 := RZ.free 3
 iterate 60 (first | go_values | go_skip | go_guarded | go_step | go_upon | go_simp | skip)
 refine bodyPost_ret (v := .tuple #[valV 3 0 0 ⟨#[]⟩, .int .i64 0]) (by simp [results, Tryz.results66, go_sem, y0, y1, y2, y3]) rfl ⟨rfl, ?_⟩
 (repeat refine Below.setCell ?_ (by simp <;> omega) _)
 exact B0.out
def FixR (β P q : Nat) (L z : Int) (u : Nat) (N Q c : Int) : Prop := Q = q ∧ N = fixN z (z.natAbs * β ^ q / u % β ^ P) ∧ c = if β ^ P ≤ z.natAbs * β ^ q / u then L else 0
def FitR (k : Int) (P q : Nat) (L z : Int) (u : Nat) (N Q c : Int) : Prop := (k = 1 ∧ FixR 2 P q L z u N Q c) ∨ (k = 2 ∧ FixR 10 P q L z u N Q c) ∨ (k = 3 ∧ FltR P z u N Q c)
def NumT (k : Int) (P q : Nat) : Prop := (k = 1 ∧ 1 ≤ P ∧ P ≤ 31 ∧ q ≤ 31) ∨ (k = 2 ∧ 1 ≤ P ∧ P ≤ 15 ∧ q ≤ 31) ∨ (k = 3 ∧ 1 ≤ P ∧ P ≤ 15 ∧ q = 0)
theorem fix_same {z z' : Int} {m : Nat} (h : (z < 0) = (z' < 0)) : fixN z m = fixN z' m := by unfold fixN; simp only [h]
theorem FixR.same {β P q : Nat} {L z z' : Int} {u u' : Nat} {N Q c N' Q' c' : Int} (h : FixR β P q L z u N Q c) (h' : FixR β P q L z' u' N' Q' c') (hu : 0 < u) (hu' : 0 < u') (hx : z * u' = z' * u) : N = N' ∧ Q = Q' ∧ c = c' := by
 obtain ⟨s1, s2, s3⟩ := sign_same hu hu' hx
 obtain ⟨rfl, rfl, rfl⟩ := h
 obtain ⟨rfl, rfl, rfl⟩ := h'
 have e : z.natAbs * β ^ q / u = z'.natAbs * β ^ q / u' := by
   have e1 : z.natAbs * β ^ q / u = z.natAbs * β ^ q * u' / (u * u') := by rw [Nat.mul_div_mul_right _ _ hu']
   have e2 : z'.natAbs * β ^ q / u' = z'.natAbs * β ^ q * u / (u' * u) := by rw [Nat.mul_div_mul_right _ _ hu]
   rw [e1, e2, Nat.mul_right_comm z.natAbs, Nat.mul_right_comm z'.natAbs, s3, Nat.mul_comm u u']
 rw [e]
 exact ⟨fix_same s1, rfl, rfl⟩
theorem FitR.same {k : Int} {P q : Nat} {L z z' : Int} {u u' : Nat} {N Q c N' Q' c' : Int} (h : FitR k P q L z u N Q c) (h' : FitR k P q L z' u' N' Q' c') (hT : NumT k P q) (hu : 0 < u) (hu' : 0 < u') (hx : z * u' = z' * u) : N = N' ∧ Q = Q' ∧ c = c' := by
 rcases h with ⟨e, h⟩ | ⟨e, h⟩ | ⟨e, h⟩ <;> rcases h' with ⟨e', h'⟩ | ⟨e', h'⟩ | ⟨e', h'⟩ <;> first | (exfalso; omega) | skip
 · exact h.same h' hu hu' hx
 · exact h.same h' hu hu' hx
 · refine h.same h' ?_ hu hu' hx
   rcases hT with ⟨_, h1, _⟩ | ⟨_, h1, _⟩ | ⟨_, h1, _⟩ <;> exact h1
theorem flt_ex (P : Nat) (z : Int) {u : Nat} (hu : 0 < u) (hP : 1 ≤ P) : ∃ N Q c, FltR P z u N Q c := by
 by_cases hz : z = 0
 · exact ⟨0, 0, 0, .inl ⟨hz, rfl, rfl, rfl⟩⟩
 · have hF := flo_shift hz hP (expE_of (a := z.natAbs) (by omega) hu)
   generalize -(expE z.natAbs u - P + 1) = K at hF
   generalize rndN (shN z K).natAbs (shU u K) = D at hF
   have key : ∀ N Q c, FltE z K D N Q c → ∃ N Q c, FltR P z u N Q c := fun N Q c h => ⟨N, Q, c, .inr ⟨hz, K, D, hF, h⟩⟩
   by_cases h1 : 75 < ((tz D : Int) - K) + (digs (cutz D)).length - 1
   · exact key _ _ _ (.inl ⟨h1, rfl, rfl, rfl⟩)
   · by_cases h2 : ((tz D : Int) - K) + (digs (cutz D)).length - 1 < -75
     · exact key _ _ _ (.inr (.inl ⟨h2, rfl, rfl, rfl⟩))
     · exact key _ _ _ (.inr (.inr ⟨by omega, by omega, rfl, rfl, rfl⟩))
theorem sgn_fix' {neg : Bool} {n m : Nat} (h : neg = true → 0 < n) : fixN (sgn neg n) m = sgn neg m := by
 cases neg
 · show (if (n : Int) < 0 then _ else _) = (m : Int)
   rw [if_neg (by omega)]
 · exact sgn_fix (h rfl)
def FitPost (w : World) (k : Int) (P q : Nat) (L z : Int) (u : Nat) (e : Ending) (w' : World) : Prop := ∃ N Q c : Int, (e = .returned (.tuple #[valV k N Q ⟨#[]⟩, .int .i64 c]) ∧ Below w.heap.size w w') ∧ FitR k P q L z u N Q c
set_option maxRecDepth 100000 in
set_option maxHeartbeats 4000000 in
theorem fitTo_3 {B : Nat} {w : World} {u : Value} {neg : Bool} {num den P q : Nat} {L : Int} (hx : RArg B w u neg num den) (hd : 0 < den) (hn : neg = true → 0 < num) (hP : 1 ≤ P) (hP2 : P ≤ 15) (ln : (digs num).length ≤ 1000) (ld : (digs den).length ≤ 1000) :
   Calls Tryz.prog 36 #[u, tyV 3 (P : Int) (q : Int) 0 false ⟨#[]⟩, .int .i64 L] w (FitPost w 3 P q L (sgn neg num) den) := by
 have HF : Hid (∀ (v : Value) (W : World), RArg 0 W v neg num den → Calls Tryz.prog 66 #[v, tyV 3 (P : Int) (q : Int) 0 false ⟨#[]⟩] W (FtPost W P (sgn neg num) den)) := Lib.hid fun v W h => by
   by_cases h0 : 0 < num
   · exact float_n h h0 hd hP hP2 ln ld
   · have h00 : num = 0 := by omega
     refine (float_0 h h00).mono fun e w' ⟨he, hb⟩ => ⟨0, 0, 0, ⟨he, hb⟩, .inl ⟨?_, rfl, rfl, rfl⟩⟩
     rw [h00]; cases neg <;> rfl
 obtain ⟨z, hz⟩ : ∃ z, sgn neg num = z := ⟨_, rfl⟩
 rw [hz] at HF ⊢
 obtain ⟨vn, vd, rfl, Dn, Dd⟩ := hx
 obtain ⟨pn, kn, rfl⟩ := Dn.slice
 obtain ⟨pd, kd, rfl⟩ := Dd.slice
 have HR : Hid (RArg 0 w (reV neg (.slice pn (digs num).length kn) (.slice pd (digs den).length kd)) neg num den) := Lib.hid ⟨_, _, rfl, Dn.base (Nat.zero_le _), Dd.base (Nat.zero_le _)⟩
 clear Dn Dd hz hd hn hP hP2 ln ld
 have RX := ((Row.new w #[.bool neg, .slice pn (digs num).length kn, .slice pd (digs den).length kd] 52).alloc (.cells #[.int .i64 3, .int .i64 (P : Int), .int .i64 (q : Int), .int .i64 0, .bool false, .string ⟨#[]⟩] 25)).alloc (.cells #[.int .i64 0, .int .i64 0, .int .i64 0, .string ⟨#[]⟩] 23)
 have RT := (Row.new2 w (.cells #[.bool neg, .slice pn (digs num).length kn, .slice pd (digs den).length kd] 52) #[.int .i64 3, .int .i64 (P : Int), .int .i64 (q : Int), .int .i64 0, .bool false, .string ⟨#[]⟩] 25).alloc (.cells #[.int .i64 0, .int .i64 0, .int .i64 0, .string ⟨#[]⟩] 23)
 have RZ := Row.new3 w (.cells #[.bool neg, .slice pn (digs num).length kn, .slice pd (digs den).length kd] 52) (.cells #[.int .i64 3, .int .i64 (P : Int), .int .i64 (q : Int), .int .i64 0, .bool false, .string ⟨#[]⟩] 25) #[.int .i64 0, .int .i64 0, .int .i64 0, .string ⟨#[]⟩] 23
 go_enter Tryz.func36, Tryz.ntmps36
 go_upto_region 1 with (fail)
 generalize hw : ((w.alloc (.cells #[.bool neg, .slice pn (digs num).length kn, .slice pd (digs den).length kd] 52)).alloc (.cells #[.int .i64 3, .int .i64 (P : Int), .int .i64 (q : Int), .int .i64 0, .bool false, .string ⟨#[]⟩] 25)).alloc (.cells #[.int .i64 0, .int .i64 0, .int .i64 0, .string ⟨#[]⟩] 23) = W at *
 have B0 : Hid (Below w.heap.size w W) := by show Below _ _ _; rw [← hw]; go_grown
 clear hw
 obtain ⟨x0, x1, x2⟩ := RX.ex
 obtain ⟨t0, t1, t2, t3, t4, t5⟩ := RT.six
 have HR2 := Lib.hid (HR.out.keep B0.out (Nat.le_refl _))
 go_wp2_with (go_at_call 66; (refine (HF.out _ _ HR2.out).mono ?_); rintro e w1 ⟨N, Q, c, ⟨rfl, hb1⟩, hR⟩; have HQ := Lib.hid hR; have BW := Lib.hid (bl_then B0.out hb1); obtain ⟨y0, y1, y2, y3⟩ := (RZ.keep hb1).four; have g0 := (RZ.keep hb1).free 0; have g1 := (RZ.keep hb1).free 1; have g2 := (RZ.keep hb1).free 2; have g3 := (RZ.keep hb1).free 3; clear hR hb1)
 refine bodyPost_ret (v := .tuple #[valV 3 N Q ⟨#[]⟩, .int .i64 c]) (by simp [results, Tryz.results36, go_sem, y0, y1, y2, y3]) rfl ⟨N, Q, c, ⟨rfl, ?_⟩, .inr (.inr ⟨rfl, HQ.out⟩)⟩
 (repeat refine Below.setCell ?_ (by simp <;> omega) _)
 exact BW.out
theorem fitTo_d {B : Nat} {w : World} {u : Value} {neg : Bool} {num den P q : Nat} {k L : Int} (hT : NumT k P q) (hx : RArg B w u neg num den) (hd : 0 < den) (hn : neg = true → 0 < num) (ln : (digs num).length ≤ 1000) (ld : (digs den).length ≤ 1000) :
   Calls Tryz.prog 36 #[u, tyV k (P : Int) (q : Int) 0 false ⟨#[]⟩, .int .i64 L] w (FitPost w k P q L (sgn neg num) den) := by
 rcases hT with ⟨rfl, h1, h2, h3⟩ | ⟨rfl, h1, h2, h3⟩ | ⟨rfl, h1, h2, h3⟩
 · by_cases hf : num * 2 ^ q / den < 2 ^ P
   · refine (fit_1_in (big := L) hx hd ln ld h2 (by omega) _ rfl hf).mono fun e w' ⟨he, hb⟩ => ⟨_, _, _, ⟨he, hb⟩, .inl ⟨rfl, rfl, ?_, ?_⟩⟩
     · rw [sgn_abs, sgn_fix' hn]
     · rw [sgn_abs, if_neg (by omega)]
   · refine (fit_1_out (big := L) hx hd ln ld h2 (by omega) _ rfl (by omega)).mono fun e w' ⟨he, hb⟩ => ⟨_, _, _, ⟨he, hb⟩, .inl ⟨rfl, rfl, ?_, ?_⟩⟩
     · rw [sgn_abs, sgn_fix' hn]
     · rw [sgn_abs, if_pos (by omega)]
 · by_cases hf : num * 10 ^ q / den < 10 ^ P
   · refine (fit_2_in (big := L) hx hd ln ld h2 (by omega) _ rfl hf).mono fun e w' ⟨he, hb⟩ => ⟨_, _, _, ⟨he, hb⟩, .inr (.inl ⟨rfl, rfl, ?_, ?_⟩)⟩
     · rw [sgn_abs, sgn_fix' hn]
     · rw [sgn_abs, if_neg (by omega)]
   · refine (fit_2_out (big := L) hx hd ln ld h2 (by omega) _ rfl (by omega)).mono fun e w' ⟨he, hb⟩ => ⟨_, _, _, ⟨he, hb⟩, .inr (.inl ⟨rfl, rfl, ?_, ?_⟩)⟩
     · rw [sgn_abs, sgn_fix' hn]
     · rw [sgn_abs, if_pos (by omega)]
 · exact fitTo_3 hx hd hn h1 h2 ln ld
end Go.Proofs.YtpdoddhieblooaaGreatDoor
