/- digit.fitFixed: its closure: a fraction, cut, in a fixed type. -/
import Derived.Test.YtfoegnddlaemgaaGreatDoorWrdFit1
import Derived.Test.YtfoegnddlaemgaaGreatDoorWrdDiv1
import Derived.Test.YtfoegnddlaemgaaGreatDoorWrdInt
import Derived.Test.YtfoegnddlaemgaaGreatDoorWrdExs
namespace Go.Proofs.YtfoegnddlaemgaaGreatDoor
open Go.RowKit

/-- A magnitude with a number's sign. -/
def fixN (z : Int) (m : Nat) : Int := if z < 0 then -(m : Int) else m

set_option maxRecDepth 100000 in
set_option maxHeartbeats 8000000 in
theorem fit1_fit {z : Int} {u : Nat} {vx : Value} {w : World} {cap : Array Value} {k n L : Int} {p q S Bd M Q R : Nat} {vy : Bool} {pic : ByteArray} (HC : FixCap w cap k n p q vy pic S Bd L) (hX : XArg 0 w vx z u) (la : (wrds z.natAbs).length ≤ 4000) (lS : (wrds S).length ≤ 4000) (hM : z.natAbs * S = M) (hQ : M / u = Q) (hD : DivOK M u) (hB : Bd ≤ 4611686018427387904) (lM : (wrds Q).length ≤ 10000) (hR : Q = R) (hlt : R < Bd) :
    Calls Tryz.prog 89 (#[vx] ++ cap) w fun e w' => e = .returned (.tuple #[vaV k (fixN z R) q ⟨#[]⟩, .int .i64 0]) ∧ Below w.heap.size w w' := by
  obtain ⟨px, kx, qx, mx, rfl⟩ := hX.open
  have HX := Lib.hid hX
  obtain ⟨bS, bE, bB, bL, bT, v1, v2, rfl, R1, R2, A1, A2, R5, R6, R7⟩ := HC
  obtain ⟨p1, k1, rfl⟩ := A1.slice
  obtain ⟨p2, k2, rfl⟩ := A2.slice
  have HA1 := Lib.hid A1
  have HA2 := Lib.hid A2
  have hs1 := R1.lt; have hs2 := R2.lt; have hs5 := R5.lt; have hs6 := R6.lt; have hs7 := R7.lt
  have HPR : Hid (∀ W, Below w.heap.size w W → Calls Tryz.prog 86 #[.slice px (wrds z.natAbs).length kx, .slice p1 (wrds S).length k1] W (GivesW W M)) := Lib.hid fun W hW => by
    rw [← hM]; exact product_d (HX.out.args.1.keep hW (Nat.le_refl _)) (HA1.out.keep hW (Nat.le_refl _)) (by omega) (by omega)
  have HEN : Hid (∀ (B C : Nat) (va vu : Value) (W : World), WArg B W va M → WArg C W vu u → Calls Tryz.prog 74 #[va, vu, .int .i64 0] W (GivesW W Q)) := Lib.hid fun B C va vu W h1 h2 => by
    rw [← hQ]; exact ended_cut hD h1 h2
  have lBd : (wrds Bd).length ≤ 10000 := Nat.le_trans (wrds_length Bd 2 (by omega)) (by decide)
  have hcz : cmpZ R Bd < 0 := by rw [cmpZ_lt (by omega)]; decide
  have hRl := hlt
  rw [hR] at HEN lM
  have HCM : Hid (∀ (B : Nat) (va : Value) (W : World), WArg B W va R → Below w.heap.size w W → Calls Tryz.prog 87 #[va, .slice p2 (wrds Bd).length k2] W fun e w' => e = .returned (.int .i64 (cmpZ R Bd)) ∧ Below W.heap.size W w') := Lib.hid fun B va W h1 hW => compare_d h1 (HA2.out.keep hW (Nat.le_refl _)) (by omega) (by omega)
  obtain ⟨cz, hcze⟩ : ∃ c, cmpZ R Bd = c := ⟨_, rfl⟩
  rw [hcze] at HCM hcz
  have HSG : Hid (∀ (B : Nat) (v : Value) (W : World), WArg B W v R → Calls Tryz.prog 75 #[v, .bool (decide (z < 0))] W fun e w' => ∃ s, e = .returned s ∧ LArg B w' s (fixN z R) ∧ Below W.heap.size W w') := Lib.hid fun B v W h => by
    have := signed_l h (by have := wrds_length R 2 (by omega); omega) (decide (z < 0))
    simpa [fixN] using this
  have hfN : -9223372036854775808 < fixN z R ∧ fixN z R < 9223372036854775808 := by unfold fixN; split <;> omega
  have HIN : Hid (∀ (B : Nat) (v : Value) (W : World), LArg B W v (fixN z R) → Calls Tryz.prog 76 #[v] W fun e w' => e = .returned (.int .i64 (fixN z R)) ∧ Below W.heap.size W w') := Lib.hid fun B v W h => int_l h hfN.1 hfN.2
  obtain ⟨V, hV⟩ : ∃ V, fixN z R = V := ⟨_, rfl⟩
  obtain ⟨dz, hdz⟩ : ∃ d, decide (z < 0) = d := ⟨_, rfl⟩
  rw [hV] at HIN HSG ⊢
  rw [hdz] at HX HSG ⊢
  have HXu := Lib.hid (HX.out.args.2.1)
  clear hX HX hM hQ hD hV hdz hfN A1 A2 hR la lS lM hB lBd hcze HA1 hlt
  have RX := (Row.new w (exC (.slice px (wrds z.natAbs).length kx) dz (.slice qx (wrds u).length mx)) 52).alloc (.cells (vaC 0 0 0 ⟨#[]⟩) 23)
  have RZ := Row.new2 w (.cells (exC (.slice px (wrds z.natAbs).length kx) dz (.slice qx (wrds u).length mx)) 52) (vaC 0 0 0 ⟨#[]⟩) 23
  have R1 := (R1.alloc (.cells (exC (.slice px (wrds z.natAbs).length kx) dz (.slice qx (wrds u).length mx)) 52)).alloc (.cells (vaC 0 0 0 ⟨#[]⟩) 23)
  have R2 := (R2.alloc (.cells (exC (.slice px (wrds z.natAbs).length kx) dz (.slice qx (wrds u).length mx)) 52)).alloc (.cells (vaC 0 0 0 ⟨#[]⟩) 23)
  have R5 := (R5.alloc (.cells (exC (.slice px (wrds z.natAbs).length kx) dz (.slice qx (wrds u).length mx)) 52)).alloc (.cells (vaC 0 0 0 ⟨#[]⟩) 23)
  have R6 := (R6.alloc (.cells (exC (.slice px (wrds z.natAbs).length kx) dz (.slice qx (wrds u).length mx)) 52)).alloc (.cells (vaC 0 0 0 ⟨#[]⟩) 23)
  have R7 := (R7.alloc (.cells (exC (.slice px (wrds z.natAbs).length kx) dz (.slice qx (wrds u).length mx)) 52)).alloc (.cells (vaC 0 0 0 ⟨#[]⟩) 23)
  go_enter Tryz.func89, Tryz.ntmps89
  go_wp2
  generalize hw : (w.alloc (.cells (exC (.slice px (wrds z.natAbs).length kx) dz (.slice qx (wrds u).length mx)) 52)).alloc (.cells (vaC 0 0 0 ⟨#[]⟩) 23) = W at *
  have B0 : Hid (Below w.heap.size w W) := by show Below _ _ _; rw [← hw]; go_grown
  have hsz : w.heap.size + 1 + 1 ≤ W.heap.size := by rw [← hw]; simp
  clear hw
  have nT : ¬ bT = w.heap.size + 1 := by omega
  have nT' : ¬ w.heap.size + 1 = bT := by omega
  obtain ⟨x0, x1, x2⟩ := RX.ex
  have c1 := R1.one
  have c5 := R5.one
  go_region_held3 (fun w' => (w'.cell? ⟨w.heap.size, 0, none⟩ = some (.slice px (wrds z.natAbs).length kx) ∧ w'.cell? ⟨w.heap.size, 1, none⟩ = some (.bool dz) ∧ w'.cell? ⟨w.heap.size, 2, none⟩ = some (.slice qx (wrds u).length mx)) ∧ w'.cell? ⟨bS, 0, none⟩ = some (.slice p1 (wrds S).length k1) ∧ w'.cell? ⟨bE, 0, none⟩ = some (.int .i64 0))
    (first | go_keep | exact ⟨RX3.ex, R13.one, R53.one⟩ | exact ⟨RX2.ex, R12.one, R52.one⟩ | ((try dsimp only); (repeat' apply And.intro) <;> go_keep))
    (first
      | (go_at_call 86; (with_reducible refine (HPR.out _ B0.out.drew).mono ?_); rintro e w2 ⟨v2, rfl, W2, hb2⟩; have RX2 := RX.keep (bl_drew hb2); have RZ2 := RZ.keep (bl_drew hb2); have R12 := R1.keep (bl_drew hb2); have R22 := R2.keep (bl_drew hb2); have R52 := R5.keep (bl_drew hb2); have R62 := R6.keep (bl_drew hb2); have R72 := R7.keep (bl_drew hb2); have BW2 := Lib.hid (bl_then B0.out (bl_drew hb2)))
      | (go_at_call 74; (with_reducible refine (HEN.out _ _ _ _ _ W2 (HXu.out.keep BW2.out (Nat.le_refl _))).mono ?_); rintro e w3 ⟨v3, rfl, W3, hb3⟩; have RX3 := RX2.keep hb3; have RZ3 := RZ2.keep hb3; have R13 := R12.keep hb3; have R23 := R22.keep hb3; have R53 := R52.keep hb3; have R63 := R62.keep hb3; have R73 := R72.keep hb3; have BW3 := Lib.hid (bl_then BW2.out hb3); have W3' := Lib.hid W3; obtain ⟨p3, k3, rfl⟩ := W3.slice; clear W3))
  have c2 := R23.one
  clear x0 x1 x2 c1 c5
  go_wp2_with (go_at_call 87; (with_reducible refine (HCM.out _ _ _ W3'.out BW3.out).mono ?_); rintro e w4 ⟨rfl, hb4⟩; have RX4 := RX3.keep hb4; have RZ4 := RZ3.keep hb4; have R14 := R13.keep hb4; have R24 := R23.keep hb4; have R54 := R53.keep hb4; have R64 := R63.keep hb4; have R74 := R73.keep hb4; have BW4 := Lib.hid (bl_then BW3.out hb4); have W4' := Lib.hid (W3'.out.keep hb4 (Nat.le_refl _)); have c2 := R24.one; have c6 := R64.one)
  obtain ⟨x0, x1, x2⟩ := RX4.ex
  have t0 := R74.at 0
  have t2 := R74.at 2
  have t0 : w4.cell? ⟨bT, 0, none⟩ = some (.int .i64 k) := t0
  have t2 : w4.cell? ⟨bT, 2, none⟩ = some (.int .i64 (q : Int)) := t2
  go_region_held3 (fun w' => (w'.cell? ⟨w.heap.size, 0, none⟩ = some (.slice px (wrds z.natAbs).length kx) ∧ w'.cell? ⟨w.heap.size, 1, none⟩ = some (.bool dz) ∧ w'.cell? ⟨w.heap.size, 2, none⟩ = some (.slice qx (wrds u).length mx)) ∧ w'.cell? ⟨bT, 0, none⟩ = some (.int .i64 k) ∧ w'.cell? ⟨bT, 2, none⟩ = some (.int .i64 (q : Int)))
    (first | go_keep | exact ⟨RX7.ex, R77.at 0, R77.at 2⟩ | exact ⟨RX6.ex, R76.at 0, R76.at 2⟩ | ((try dsimp only); (repeat' apply And.intro) <;> go_keep))
    (first
      | (go_at_call 75; (with_reducible refine (HSG.out _ _ _ (W4'.out.keep ((Below.refl _ _).drew) (Nat.le_refl _))).mono ?_); rintro e w6 ⟨v6, rfl, L6, hb6⟩; have RX6 := RX4.keep (bl_drew hb6); have RZ6 := RZ4.keep (bl_drew hb6); have R16 := R14.keep (bl_drew hb6); have R26 := R24.keep (bl_drew hb6); have R56 := R54.keep (bl_drew hb6); have R66 := R64.keep (bl_drew hb6); have R76 := R74.keep (bl_drew hb6); have BW6 := Lib.hid (bl_then BW4.out (bl_drew hb6)))
      | (go_at_call 76; (with_reducible refine (HIN.out _ _ _ L6).mono ?_); rintro e w7 ⟨rfl, hb7⟩; have RX7 := RX6.keep hb7; have RZ7 := RZ6.keep hb7; have R17 := R16.keep hb7; have R27 := R26.keep hb7; have R57 := R56.keep hb7; have R67 := R66.keep hb7; have R77 := R76.keep hb7; have BW7 := Lib.hid (bl_then BW6.out hb7); obtain ⟨z0, z1, z2, z3⟩ := RZ7.four; have f0 := RZ7.free 0; have f1 := RZ7.free 1; have f2 := RZ7.free 2; have f3 := RZ7.free 3))
  go_wp2
  refine bodyPost_ret (v := .tuple #[vaV k V q ⟨#[]⟩, .int .i64 0]) (by simp [results, Tryz.results89, go_sem, z0, z1, z2, z3]) rfl ⟨rfl, ?_⟩
  (repeat refine Below.setCell ?_ (by simp <;> omega) _)
  exact BW7.out

set_option maxRecDepth 100000 in
set_option maxHeartbeats 8000000 in
theorem fit1_big {z : Int} {u : Nat} {vx : Value} {w : World} {cap : Array Value} {k n L : Int} {p q S Bd M Q R : Nat} {vy : Bool} {pic : ByteArray} (HC : FixCap w cap k n p q vy pic S Bd L) (hX : XArg 0 w vx z u) (la : (wrds z.natAbs).length ≤ 4000) (lS : (wrds S).length ≤ 4000) (hM : z.natAbs * S = M) (hQ : M / u = Q) (hD : DivOK M u) (hB : Bd ≤ 4611686018427387904) (lM : (wrds Q).length ≤ 10000) (hge : Bd ≤ Q) (hD2 : DivOK Q Bd) (hBp : 0 < Bd) (hR : Q % Bd = R) :
    Calls Tryz.prog 89 (#[vx] ++ cap) w fun e w' => e = .returned (.tuple #[vaV k (fixN z R) q ⟨#[]⟩, .int .i64 L]) ∧ Below w.heap.size w w' := by
  obtain ⟨px, kx, qx, mx, rfl⟩ := hX.open
  have HX := Lib.hid hX
  obtain ⟨bS, bE, bB, bL, bT, v1, v2, rfl, R1, R2, A1, A2, R5, R6, R7⟩ := HC
  obtain ⟨p1, k1, rfl⟩ := A1.slice
  obtain ⟨p2, k2, rfl⟩ := A2.slice
  have HA1 := Lib.hid A1
  have HA2 := Lib.hid A2
  have hs1 := R1.lt; have hs2 := R2.lt; have hs5 := R5.lt; have hs6 := R6.lt; have hs7 := R7.lt
  have HPR : Hid (∀ W, Below w.heap.size w W → Calls Tryz.prog 86 #[.slice px (wrds z.natAbs).length kx, .slice p1 (wrds S).length k1] W (GivesW W M)) := Lib.hid fun W hW => by
    rw [← hM]; exact product_d (HX.out.args.1.keep hW (Nat.le_refl _)) (HA1.out.keep hW (Nat.le_refl _)) (by omega) (by omega)
  have HEN : Hid (∀ (B C : Nat) (va vu : Value) (W : World), WArg B W va M → WArg C W vu u → Calls Tryz.prog 74 #[va, vu, .int .i64 0] W (GivesW W Q)) := Lib.hid fun B C va vu W h1 h2 => by
    rw [← hQ]; exact ended_cut hD h1 h2
  have lBd : (wrds Bd).length ≤ 10000 := Nat.le_trans (wrds_length Bd 2 (by omega)) (by decide)
  have hcz : ¬ cmpZ Q Bd < 0 := by
    by_cases h : Q = Bd
    · rw [cmpZ_eq (by omega)]; decide
    · rw [cmpZ_gt (by omega)]; decide
  have hcz0 : (0 : Int) ≤ cmpZ Q Bd := by omega
  have hRl : R < Bd := by rw [← hR]; exact Nat.mod_lt _ hBp
  have HDV : Hid (∀ (B C : Nat) (va vu : Value) (W : World), WArg B W va Q → WArg C W vu Bd → Calls Tryz.prog 90 #[va, vu] W fun e w' => ∃ vq vr, e = .returned (.tuple #[vq, vr]) ∧ WArg W.heap.size w' vr R ∧ (∃ pq kq, vq = .slice pq (wrds (Q / Bd)).length kq) ∧ Below W.heap.size W w') := Lib.hid fun B C va vu W h1 h2 =>
    (hD2 B C va vu W h1 h2).mono fun _ _ ⟨vq, vr, he, g1, g2, g3⟩ => ⟨vq, vr, he, by rw [← hR]; exact g2, by obtain ⟨a, b, e⟩ := g1.slice; exact ⟨a, b, e⟩, g3⟩
  have HCM : Hid (∀ (B : Nat) (va : Value) (W : World), WArg B W va Q → Below w.heap.size w W → Calls Tryz.prog 87 #[va, .slice p2 (wrds Bd).length k2] W fun e w' => e = .returned (.int .i64 (cmpZ Q Bd)) ∧ Below W.heap.size W w') := Lib.hid fun B va W h1 hW => compare_d h1 (HA2.out.keep hW (Nat.le_refl _)) (by omega) (by omega)
  obtain ⟨cz, hcze⟩ : ∃ c, cmpZ Q Bd = c := ⟨_, rfl⟩
  rw [hcze] at HCM hcz hcz0
  have HSG : Hid (∀ (B : Nat) (v : Value) (W : World), WArg B W v R → Calls Tryz.prog 75 #[v, .bool (decide (z < 0))] W fun e w' => ∃ s, e = .returned s ∧ LArg B w' s (fixN z R) ∧ Below W.heap.size W w') := Lib.hid fun B v W h => by
    have := signed_l h (by have := wrds_length R 2 (by omega); omega) (decide (z < 0))
    simpa [fixN] using this
  have hfN : -9223372036854775808 < fixN z R ∧ fixN z R < 9223372036854775808 := by unfold fixN; split <;> omega
  have HIN : Hid (∀ (B : Nat) (v : Value) (W : World), LArg B W v (fixN z R) → Calls Tryz.prog 76 #[v] W fun e w' => e = .returned (.int .i64 (fixN z R)) ∧ Below W.heap.size W w') := Lib.hid fun B v W h => int_l h hfN.1 hfN.2
  obtain ⟨V, hV⟩ : ∃ V, fixN z R = V := ⟨_, rfl⟩
  obtain ⟨dz, hdz⟩ : ∃ d, decide (z < 0) = d := ⟨_, rfl⟩
  rw [hV] at HIN HSG ⊢
  rw [hdz] at HX HSG ⊢
  have HXu := Lib.hid (HX.out.args.2.1)
  clear hX HX hM hQ hD hV hdz hfN A1 A2 hR la lS lM hB lBd hcze HA1 hge hD2 hBp
  have RX := (Row.new w (exC (.slice px (wrds z.natAbs).length kx) dz (.slice qx (wrds u).length mx)) 52).alloc (.cells (vaC 0 0 0 ⟨#[]⟩) 23)
  have RZ := Row.new2 w (.cells (exC (.slice px (wrds z.natAbs).length kx) dz (.slice qx (wrds u).length mx)) 52) (vaC 0 0 0 ⟨#[]⟩) 23
  have R1 := (R1.alloc (.cells (exC (.slice px (wrds z.natAbs).length kx) dz (.slice qx (wrds u).length mx)) 52)).alloc (.cells (vaC 0 0 0 ⟨#[]⟩) 23)
  have R2 := (R2.alloc (.cells (exC (.slice px (wrds z.natAbs).length kx) dz (.slice qx (wrds u).length mx)) 52)).alloc (.cells (vaC 0 0 0 ⟨#[]⟩) 23)
  have R5 := (R5.alloc (.cells (exC (.slice px (wrds z.natAbs).length kx) dz (.slice qx (wrds u).length mx)) 52)).alloc (.cells (vaC 0 0 0 ⟨#[]⟩) 23)
  have R6 := (R6.alloc (.cells (exC (.slice px (wrds z.natAbs).length kx) dz (.slice qx (wrds u).length mx)) 52)).alloc (.cells (vaC 0 0 0 ⟨#[]⟩) 23)
  have R7 := (R7.alloc (.cells (exC (.slice px (wrds z.natAbs).length kx) dz (.slice qx (wrds u).length mx)) 52)).alloc (.cells (vaC 0 0 0 ⟨#[]⟩) 23)
  go_enter Tryz.func89, Tryz.ntmps89
  go_wp2
  generalize hw : (w.alloc (.cells (exC (.slice px (wrds z.natAbs).length kx) dz (.slice qx (wrds u).length mx)) 52)).alloc (.cells (vaC 0 0 0 ⟨#[]⟩) 23) = W at *
  have B0 : Hid (Below w.heap.size w W) := by show Below _ _ _; rw [← hw]; go_grown
  have hsz : w.heap.size + 1 + 1 ≤ W.heap.size := by rw [← hw]; simp
  clear hw
  have nT : ¬ bT = w.heap.size + 1 := by omega
  have nT' : ¬ w.heap.size + 1 = bT := by omega
  obtain ⟨x0, x1, x2⟩ := RX.ex
  have c1 := R1.one
  have c5 := R5.one
  go_region_held3 (fun w' => (w'.cell? ⟨w.heap.size, 0, none⟩ = some (.slice px (wrds z.natAbs).length kx) ∧ w'.cell? ⟨w.heap.size, 1, none⟩ = some (.bool dz) ∧ w'.cell? ⟨w.heap.size, 2, none⟩ = some (.slice qx (wrds u).length mx)) ∧ w'.cell? ⟨bS, 0, none⟩ = some (.slice p1 (wrds S).length k1) ∧ w'.cell? ⟨bE, 0, none⟩ = some (.int .i64 0))
    (first | go_keep | exact ⟨RX3.ex, R13.one, R53.one⟩ | exact ⟨RX2.ex, R12.one, R52.one⟩ | ((try dsimp only); (repeat' apply And.intro) <;> go_keep))
    (first
      | (go_at_call 86; (with_reducible refine (HPR.out _ B0.out.drew).mono ?_); rintro e w2 ⟨v2, rfl, W2, hb2⟩; have RX2 := RX.keep (bl_drew hb2); have RZ2 := RZ.keep (bl_drew hb2); have R12 := R1.keep (bl_drew hb2); have R22 := R2.keep (bl_drew hb2); have R52 := R5.keep (bl_drew hb2); have R62 := R6.keep (bl_drew hb2); have R72 := R7.keep (bl_drew hb2); have BW2 := Lib.hid (bl_then B0.out (bl_drew hb2)))
      | (go_at_call 74; (with_reducible refine (HEN.out _ _ _ _ _ W2 (HXu.out.keep BW2.out (Nat.le_refl _))).mono ?_); rintro e w3 ⟨v3, rfl, W3, hb3⟩; have RX3 := RX2.keep hb3; have RZ3 := RZ2.keep hb3; have R13 := R12.keep hb3; have R23 := R22.keep hb3; have R53 := R52.keep hb3; have R63 := R62.keep hb3; have R73 := R72.keep hb3; have BW3 := Lib.hid (bl_then BW2.out hb3); have W3' := Lib.hid W3; obtain ⟨p3, k3, rfl⟩ := W3.slice; clear W3))
  have c2 := R23.one
  clear x0 x1 x2 c1 c5
  go_wp2_with (first
    | (go_at_call 87; (with_reducible refine (HCM.out _ _ _ W3'.out BW3.out).mono ?_); rintro e w4 ⟨rfl, hb4⟩; have RX4 := RX3.keep hb4; have RZ4 := RZ3.keep hb4; have R14 := R13.keep hb4; have R24 := R23.keep hb4; have R54 := R53.keep hb4; have R64 := R63.keep hb4; have R74 := R73.keep hb4; have BW4 := Lib.hid (bl_then BW3.out hb4); have W4' := Lib.hid (W3'.out.keep hb4 (Nat.le_refl _)); have c2 := R24.one; have c6 := R64.one)
    | (go_at_call 90; (with_reducible refine (HDV.out _ _ _ _ _ W4'.out (HA2.out.keep BW4.out (Nat.le_refl _))).mono ?_); rintro e w5 ⟨vq, v5, rfl, W5, ⟨pq, kq, rfl⟩, hb5⟩; have RX5 := RX4.keep hb5; have RZ5 := RZ4.keep hb5; have R15 := R14.keep hb5; have R25 := R24.keep hb5; have R55 := R54.keep hb5; have R65 := R64.keep hb5; have R75 := R74.keep hb5; have BW5 := Lib.hid (bl_then BW4.out hb5); have W5' := Lib.hid W5; obtain ⟨p5, k5, rfl⟩ := W5.slice; clear W5; have c6 := R65.one))
  obtain ⟨x0, x1, x2⟩ := RX5.ex
  have t0 := R75.at 0
  have t2 := R75.at 2
  have t0 : w5.cell? ⟨bT, 0, none⟩ = some (.int .i64 k) := t0
  have t2 : w5.cell? ⟨bT, 2, none⟩ = some (.int .i64 (q : Int)) := t2
  go_region_held3 (fun w' => (w'.cell? ⟨w.heap.size, 0, none⟩ = some (.slice px (wrds z.natAbs).length kx) ∧ w'.cell? ⟨w.heap.size, 1, none⟩ = some (.bool dz) ∧ w'.cell? ⟨w.heap.size, 2, none⟩ = some (.slice qx (wrds u).length mx)) ∧ w'.cell? ⟨bT, 0, none⟩ = some (.int .i64 k) ∧ w'.cell? ⟨bT, 2, none⟩ = some (.int .i64 (q : Int)))
    (first | go_keep | exact ⟨RX7.ex, R77.at 0, R77.at 2⟩ | exact ⟨RX6.ex, R76.at 0, R76.at 2⟩ | ((try dsimp only); (repeat' apply And.intro) <;> go_keep))
    (first
      | (go_at_call 75; (with_reducible refine (HSG.out _ _ _ (W5'.out.keep ((Below.refl _ _).drew) (Nat.le_refl _))).mono ?_); rintro e w6 ⟨v6, rfl, L6, hb6⟩; have RX6 := RX5.keep (bl_drew hb6); have RZ6 := RZ5.keep (bl_drew hb6); have R16 := R15.keep (bl_drew hb6); have R26 := R25.keep (bl_drew hb6); have R56 := R55.keep (bl_drew hb6); have R66 := R65.keep (bl_drew hb6); have R76 := R75.keep (bl_drew hb6); have BW6 := Lib.hid (bl_then BW5.out (bl_drew hb6)))
      | (go_at_call 76; (with_reducible refine (HIN.out _ _ _ L6).mono ?_); rintro e w7 ⟨rfl, hb7⟩; have RX7 := RX6.keep hb7; have RZ7 := RZ6.keep hb7; have R17 := R16.keep hb7; have R27 := R26.keep hb7; have R57 := R56.keep hb7; have R67 := R66.keep hb7; have R77 := R76.keep hb7; have BW7 := Lib.hid (bl_then BW6.out hb7); obtain ⟨z0, z1, z2, z3⟩ := RZ7.four; have f0 := RZ7.free 0; have f1 := RZ7.free 1; have f2 := RZ7.free 2; have f3 := RZ7.free 3))
  go_wp2
  refine bodyPost_ret (v := .tuple #[vaV k V q ⟨#[]⟩, .int .i64 L]) (by simp [results, Tryz.results89, go_sem, z0, z1, z2, z3]) rfl ⟨rfl, ?_⟩
  (repeat refine Below.setCell ?_ (by simp <;> omega) _)
  exact BW7.out
end Go.Proofs.YtfoegnddlaemgaaGreatDoor
