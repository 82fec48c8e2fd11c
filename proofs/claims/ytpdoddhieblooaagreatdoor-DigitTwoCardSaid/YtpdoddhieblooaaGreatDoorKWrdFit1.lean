/- digit.fitFixed: what its closure captures. digit.fitFixed: its closure: a fraction, cut, in a fixed type. digit.fitting of fixed types, and its closure. -/
import Derived.Test.YtpdoddhieblooaaGreatDoorKWrdMid
import Derived.Test.YtpdoddhieblooaaGreatDoorKFltMod
import Derived.Test.YtpdoddhieblooaaGreatDoorKTwoLaw
import Derived.Laws.EntriesVeiled
import Derived.Deep.RegionWith
namespace Go.Proofs.YtpdoddhieblooaaGreatDoor
open Go.RowKit

def FixRel (W : World) (S Bd : Nat) (s9 s10 : Value) (wx : World) : Prop :=
 ∃ bS bB v1 v2, s9 = ptD bS ∧ s10 = ptD bB ∧ Row wx bS #[v1] 39 ∧ Row wx bB #[v2] 39 ∧ WArg 0 wx v1 S ∧ WArg 0 wx v2 Bd ∧ Below W.heap.size W wx
theorem fixRel_mk {W wx w2 w3 : World} {S Bd bS bB B2 B3 : Nat} {v1 v2 : Value} (h1 : Row wx bS #[v1] 39) (h2 : Row wx bB #[v2] 39) (h3 : WArg B2 w2 v1 S) (h4 : WArg B3 w3 v2 Bd) (m2 : Mid B2 w2 wx) (m3 : Mid B3 w3 wx) (hB : Below W.heap.size W wx) :
   FixRel W S Bd (ptD bS) (ptD bB) wx := ⟨bS, bB, v1, v2, rfl, rfl, h1, h2, (h3.mid m2).base (Nat.zero_le _), (h4.mid m3).base (Nat.zero_le _), hB⟩
def FixCap (w : World) (cap : Array Value) (k n : Int) (p q : Nat) (vy : Bool) (pic : ByteArray) (S Bd : Nat) (L : Int) : Prop :=
 ∃ bS bE bB bL bT v1 v2, cap = #[ptD bS, ptD bE, ptD bB, ptD bL, ptD bT] ∧ Row w bS #[v1] 39 ∧ Row w bB #[v2] 39 ∧ WArg 0 w v1 S ∧ WArg 0 w v2 Bd ∧ Row w bE #[.int .i64 0] 84 ∧ Row w bL #[.int .i64 L] 3 ∧ Row w bT #[.int .i64 k, .int .i64 (p : Int), .int .i64 (q : Int), .int .i64 n, .bool vy, .string pic] 25
theorem FixCap.later {w w' : World} {cap : Array Value} {k n : Int} {p q : Nat} {vy : Bool} {pic : ByteArray} {S Bd : Nat} {L : Int} (h : FixCap w cap k n p q vy pic S Bd L) (hb : Below w.heap.size w w') : FixCap w' cap k n p q vy pic S Bd L := by
 obtain ⟨bS, bE, bB, bL, bT, v1, v2, e, h1, h2, h3, h4, h5, h6, h7⟩ := h
 exact ⟨bS, bE, bB, bL, bT, v1, v2, e, h1.keep hb, h2.keep hb, h3.keep hb (Nat.le_refl _), h4.keep hb (Nat.le_refl _), h5.keep hb, h6.keep hb, h7.keep hb⟩
set_option maxRecDepth 100000 in
set_option maxHeartbeats 4000000 in
theorem fitFixed_c (k n L : Int) (p q b S Bd : Nat) (vy : Bool) (pic : ByteArray) (w : World) (hS : ∀ W, Calls Tryz.prog 122 #[.int .i64 (b : Int), .int .i64 (q : Int)] W (GivesW W S)) (hBd : ∀ W, Calls Tryz.prog 122 #[.int .i64 (b : Int), .int .i64 (p : Int)] W (GivesW W Bd)) :
   Calls Tryz.prog 123 #[.agg #[.int .i64 k, .int .i64 (p : Int), .int .i64 (q : Int), .int .i64 n, .bool vy, .string pic], .int .i64 (b : Int), .int .i64 0, .int .i64 L] w fun e w' => ∃ cap, e = .returned (.func (.func 151) #[] cap) ∧ FixCap w' cap k n p q vy pic S Bd L ∧ Below w.heap.size w w' := by
 have hmf : ∀ (fn : Fn) (first cap : Array Value) (w : World), (Instr.makeFunc fn first cap).run Tryz.prog w = .ok (.func fn first cap) w := fun _ _ _ _ => rfl
 have HS := Lib.hid hS
 have HBd := Lib.hid hBd
 clear hS hBd
 have RT := ((Row.new w #[.int .i64 k, .int .i64 (p : Int), .int .i64 (q : Int), .int .i64 n, .bool vy, .string pic] 25).alloc (.cells #[.int .i64 0] 84)).alloc (.cells #[.int .i64 L] 3)
 have RE := (Row.new2 w (.cells #[.int .i64 k, .int .i64 (p : Int), .int .i64 (q : Int), .int .i64 n, .bool vy, .string pic] 25) #[.int .i64 0] 84).alloc (.cells #[.int .i64 L] 3)
 have RL := Row.new3 w (.cells #[.int .i64 k, .int .i64 (p : Int), .int .i64 (q : Int), .int .i64 n, .bool vy, .string pic] 25) (.cells #[.int .i64 0] 84) #[.int .i64 L] 3
 go_enter Tryz.func123, Tryz.ntmps123
 go_wp2
 generalize hw : ((w.alloc (.cells #[.int .i64 k, .int .i64 (p : Int), .int .i64 (q : Int), .int .i64 n, .bool vy, .string pic] 25)).alloc (.cells #[.int .i64 0] 84)).alloc (.cells #[.int .i64 L] 3) = W at *
 have B0 : Hid (Below w.heap.size w W) := by show Below _ _ _; rw [← hw]; go_grown
 clear hw
 have x1 := RT.at 1
 have x2 := RT.at 2
 have x1 : W.cell? ⟨w.heap.size, 1, none⟩ = some (.int .i64 (p : Int)) := x1
 have x2 : W.cell? ⟨w.heap.size, 2, none⟩ = some (.int .i64 (q : Int)) := x2
 have KS : Hid (∀ w', Below W.heap.size W w' → Below W.heap.size W w' ∧ w'.cell? ⟨w.heap.size, 1, none⟩ = some (.int .i64 (p : Int)) ∧ w'.cell? ⟨w.heap.size, 2, none⟩ = some (.int .i64 (q : Int))) := by
   show ∀ _, _
   exact fun w' h => ⟨h, (RT.keep h).at 1, (RT.keep h).at 2⟩
 go_cut [9, 10] (fun s9 s10 wx => FixRel W S Bd s9 s10 wx)
 case first =>
   go_region_held3 (fun w' => Below W.heap.size W w' ∧ w'.cell? ⟨w.heap.size, 1, none⟩ = some (.int .i64 (p : Int)) ∧ w'.cell? ⟨w.heap.size, 2, none⟩ = some (.int .i64 (q : Int)))
     (exact KS.out _ (by (repeat' (with_reducible first | assumption | exact Below.refl _ _ | exact (Below.refl _ _).drew | refine Below.drew ?_ | refine Below.alloc ?_ (by first | omega | (simp; omega) | simp) _ | refine Below.setCell ?_ (by first | omega | (simp; omega) | simp) _))))
     (first
       | (go_at_call 122; first
         | ((with_reducible refine (HS.out _).mono ?_); rintro e w2 ⟨v2, rfl, W2, hb2⟩; have C2 : Below W.heap.size W w2 := (by refine bl_then ?_ hb2; (repeat' (with_reducible first | assumption | exact Below.refl _ _ | exact (Below.refl _ _).drew | refine Below.drew ?_ | refine Below.alloc ?_ (by first | omega | (simp; omega) | simp) _ | refine Below.setCell ?_ (by first | omega | (simp; omega) | simp) _))); have z2 := C2.size; have W2' := Lib.hid W2; obtain ⟨pp2, k2, rfl⟩ := W2.slice; clear W2; (try have P2 : Row w2 W.heap.size #[.slice none 0 0] 39 := (by first | exact Row.keep (Row.new W _ _).drew hb2 | exact Row.keep ((Row.new W _ _).alloc _).drew hb2)); (try have Q2 : Row w2 (W.heap.size + 1) #[.slice none 0 0] 39 := Row.keep (Row.new2 W _ _ _).drew hb2))
         | ((with_reducible refine (HBd.out _).mono ?_); rintro e w3 ⟨v3, rfl, W3, hb3⟩; have C3 : Below W.heap.size W w3 := (by refine bl_then ?_ hb3; (repeat' (with_reducible first | assumption | exact Below.refl _ _ | exact (Below.refl _ _).drew | refine Below.drew ?_ | refine Below.alloc ?_ (by first | omega | (simp; omega) | simp) _ | refine Below.setCell ?_ (by first | omega | (simp; omega) | simp) _))); have z3 := C3.size; have W3' := Lib.hid W3; obtain ⟨pp3, k3, rfl⟩ := W3.slice; clear W3; (try have P3 : Row w3 W.heap.size #[.slice none 0 0] 39 := (by first | exact Row.keep P2 hb3 | exact Row.keep (P2.alloc _) hb3)); (try have Q3 : Row w3 (W.heap.size + 1) #[.slice none 0 0] 39 := Row.keep Q2 hb3); (try have U3 : Row w3 w2.heap.size #[.slice none 0 0] 39 := (by first | exact Row.keep (Row.new w2 _ _) hb3 | exact Row.keep ((Row.new w2 _ _).alloc _) hb3)); (try have V3 : Row w3 (w2.heap.size + 1) #[.slice none 0 0] 39 := Row.keep (Row.new2 w2 _ _ _) hb3); (try have p0 := P3.one); (try have pf := P3.free 0); (try have q0 := Q3.one); (try have qf := Q3.free 0); (try have u0 := U3.one); (try have uf := U3.free 0); (try have v0 := V3.one); (try have vf := V3.free 0); have hb3z := hb3.size; have hb2z := hb2.size; (try simp at hb3z); (try simp at hb2z); (try have lp := P3.lt); (try have lq := Q3.lt); (try have lu := U3.lt); (try have lv := V3.lt); (try have lp2 := P2.lt); (try have ne1 : ¬ W.heap.size = w2.heap.size := (by omega)); (try have ne2 : ¬ w2.heap.size = W.heap.size := (by omega)))))
   all_goals
     go_wp2_with fail
     go_meet
     refine fixRel_mk (w2 := w2) (w3 := w3) ?_ ?_ W2'.out W3'.out ?_ ?_ ?_
     case refine_5 => (repeat' (with_reducible first | assumption | exact Below.refl _ _ | exact (Below.refl _ _).drew | refine Below.drew ?_ | refine Below.alloc ?_ (by first | omega | (simp; omega) | simp) _ | refine Below.setCell ?_ (by first | omega | (simp; omega) | simp) _))
     case refine_3 => (repeat' (with_reducible first | exact Mid.refl _ _ | refine Mid.alloc ?_ _ | refine Mid.setCell ?_ (by first | omega | (simp; done) | (simp; omega) | (left; simp; omega) | (right; simp; omega)) _ | refine Mid.drew ?_ | refine Mid.call ?_ hb3))
     case refine_4 => (repeat' (with_reducible first | exact Mid.refl _ _ | refine Mid.alloc ?_ _ | refine Mid.setCell ?_ (by first | omega | (simp; done) | (simp; omega) | (left; simp; omega) | (right; simp; omega)) _ | refine Mid.drew ?_ | refine Mid.call ?_ hb3))
     all_goals (repeat' (with_reducible first | assumption | exact Row.new _ _ _ | exact row_newc _ _ _ _ _ | exact Row.new2 _ _ _ _ | refine Row.alloc ?_ _ | refine row_put0 ?_ | refine Row.set ?_ (by simp only [ne_eq]; omega)))
 case rest =>
   obtain ⟨W1, rfl⟩ : ∃ W1 : World, W1 = wc := ⟨_, rfl⟩
   obtain ⟨bS, bB, v1, v2, rfl, rfl, R1, R2, A1, A2, BB⟩ := hcut
   have HC : Hid (FixCap W1 #[ptD bS, ptD (w.heap.size + 1), ptD bB, ptD (w.heap.size + 1 + 1), ptD w.heap.size] k n p q vy pic S Bd L) := Lib.hid ⟨_, _, _, _, _, _, _, rfl, R1, R2, A1, A2, RE.keep BB, RL.keep BB, RT.keep BB⟩
   have HB := Lib.hid (bl_then B0.out BB)
   clear RT RE RL R1 R2 A1 A2 BB
   go_wp2
   go_ret
   exact ⟨_, rfl, HC.out, HB.out⟩
end Go.Proofs.YtpdoddhieblooaaGreatDoor
namespace Go.Proofs.YtpdoddhieblooaaGreatDoor
open Go.RowKit

def fixN (z : Int) (m : Nat) : Int := if z < 0 then -(m : Int) else m
set_option maxRecDepth 100000 in
set_option maxHeartbeats 8000000 in
theorem fit1_fit {z : Int} {u : Nat} {vx : Value} {w : World} {cap : Array Value} {k n L : Int} {p q S Bd M Q R : Nat} {vy : Bool} {pic : ByteArray} (HC : FixCap w cap k n p q vy pic S Bd L) (hX : XArg 0 w vx z u) (la : (wrds z.natAbs).length ≤ 4000) (lS : (wrds S).length ≤ 4000) (hM : z.natAbs * S = M) (hQ : M / u = Q) (hD : DivOK M u) (hB : Bd ≤ 4611686018427387904) (lM : (wrds Q).length ≤ 10000) (hR : Q = R) (hlt : R < Bd) :
   Calls Tryz.prog 151 (#[vx] ++ cap) w fun e w' => e = .returned (.tuple #[vaV k (fixN z R) q ⟨#[]⟩, .int .i64 0]) ∧ Below w.heap.size w w' := by
 obtain ⟨px, kx, qx, mx, rfl⟩ := hX.open
 have HX := Lib.hid hX
 obtain ⟨bS, bE, bB, bL, bT, v1, v2, rfl, R1, R2, A1, A2, R5, R6, R7⟩ := HC
 obtain ⟨p1, k1, rfl⟩ := A1.slice
 obtain ⟨p2, k2, rfl⟩ := A2.slice
 have HA1 := Lib.hid A1
 have HA2 := Lib.hid A2
 have hs1 := R1.lt; have hs2 := R2.lt; have hs5 := R5.lt; have hs6 := R6.lt; have hs7 := R7.lt
 have HPR : Hid (∀ W, Below w.heap.size w W → Calls Tryz.prog 61 #[.slice px (wrds z.natAbs).length kx, .slice p1 (wrds S).length k1] W (GivesW W M)) := Lib.hid fun W hW => by
   rw [← hM]; exact product_d (HX.out.args.1.keep hW (Nat.le_refl _)) (HA1.out.keep hW (Nat.le_refl _)) (by omega) (by omega)
 have HEN : Hid (∀ (B C : Nat) (va vu : Value) (W : World), WArg B W va M → WArg C W vu u → Calls Tryz.prog 133 #[va, vu, .int .i64 0] W (GivesW W Q)) := Lib.hid fun B C va vu W h1 h2 => by
   rw [← hQ]; exact ended_cut hD h1 h2
 have lBd : (wrds Bd).length ≤ 10000 := Nat.le_trans (wrds_length Bd 2 (by omega)) (by decide)
 have hcz : cmpZ R Bd < 0 := by rw [cmpZ_lt (by omega)]; decide
 have hRl := hlt
 rw [hR] at HEN lM
 have HCM : Hid (∀ (B : Nat) (va : Value) (W : World), WArg B W va R → Below w.heap.size w W → Calls Tryz.prog 58 #[va, .slice p2 (wrds Bd).length k2] W fun e w' => e = .returned (.int .i64 (cmpZ R Bd)) ∧ Below W.heap.size W w') := Lib.hid fun B va W h1 hW => compare_d h1 (HA2.out.keep hW (Nat.le_refl _)) (by omega) (by omega)
 obtain ⟨cz, hcze⟩ : ∃ c, cmpZ R Bd = c := ⟨_, rfl⟩
 rw [hcze] at HCM hcz
 have HSG : Hid (∀ (B : Nat) (v : Value) (W : World), WArg B W v R → Calls Tryz.prog 62 #[v, .bool (decide (z < 0))] W fun e w' => ∃ s, e = .returned s ∧ LArg B w' s (fixN z R) ∧ Below W.heap.size W w') := Lib.hid fun B v W h => by
   have := signed_l h (by have := wrds_length R 2 (by omega); omega) (decide (z < 0))
   simpa [fixN] using this
 have hfN : -9223372036854775808 < fixN z R ∧ fixN z R < 9223372036854775808 := by unfold fixN; split <;> omega
 have HIN : Hid (∀ (B : Nat) (v : Value) (W : World), LArg B W v (fixN z R) → Calls Tryz.prog 134 #[v] W fun e w' => e = .returned (.int .i64 (fixN z R)) ∧ Below W.heap.size W w') := Lib.hid fun B v W h => int_l h hfN.1 hfN.2
 obtain ⟨V, hV⟩ : ∃ V, fixN z R = V := ⟨_, rfl⟩
 obtain ⟨dz, hdz⟩ : ∃ d, decide (z < 0) = d := ⟨_, rfl⟩
 rw [hV] at HIN HSG ⊢
 rw [hdz] at HX HSG ⊢
 have HXu := Lib.hid (HX.out.args.2.1)
 clear hX HX hM hQ hD hV hdz hfN A1 A2 hR la lS lM hB lBd hcze HA1 hlt
 have RX := (Row.new w (exC (.slice px (wrds z.natAbs).length kx) dz (.slice qx (wrds u).length mx)) 43).alloc (.cells (vaC 0 0 0 ⟨#[]⟩) 23)
 have RZ := Row.new2 w (.cells (exC (.slice px (wrds z.natAbs).length kx) dz (.slice qx (wrds u).length mx)) 43) (vaC 0 0 0 ⟨#[]⟩) 23
 have R1 := (R1.alloc (.cells (exC (.slice px (wrds z.natAbs).length kx) dz (.slice qx (wrds u).length mx)) 43)).alloc (.cells (vaC 0 0 0 ⟨#[]⟩) 23)
 have R2 := (R2.alloc (.cells (exC (.slice px (wrds z.natAbs).length kx) dz (.slice qx (wrds u).length mx)) 43)).alloc (.cells (vaC 0 0 0 ⟨#[]⟩) 23)
 have R5 := (R5.alloc (.cells (exC (.slice px (wrds z.natAbs).length kx) dz (.slice qx (wrds u).length mx)) 43)).alloc (.cells (vaC 0 0 0 ⟨#[]⟩) 23)
 have R6 := (R6.alloc (.cells (exC (.slice px (wrds z.natAbs).length kx) dz (.slice qx (wrds u).length mx)) 43)).alloc (.cells (vaC 0 0 0 ⟨#[]⟩) 23)
 have R7 := (R7.alloc (.cells (exC (.slice px (wrds z.natAbs).length kx) dz (.slice qx (wrds u).length mx)) 43)).alloc (.cells (vaC 0 0 0 ⟨#[]⟩) 23)
 go_enter Tryz.func151, Tryz.ntmps151
 go_wp2
 generalize hw : (w.alloc (.cells (exC (.slice px (wrds z.natAbs).length kx) dz (.slice qx (wrds u).length mx)) 43)).alloc (.cells (vaC 0 0 0 ⟨#[]⟩) 23) = W at *
 have B0 : Hid (Below w.heap.size w W) := by show Below _ _ _; rw [← hw]; go_grown
 have hsz : w.heap.size + 1 + 1 ≤ W.heap.size := by rw [← hw]; simp
 clear hw
 have nT : ¬ bT = w.heap.size + 1 := by omega
 have nT' : ¬ w.heap.size + 1 = bT := by omega
 obtain ⟨x0, x1, x2⟩ := RX.ex
 have c1 := R1.one
 have c5 := R5.one
 go_region_held3 (fun w' => (w'.cell? ⟨w.heap.size, 0, none⟩ = some (.slice px (wrds z.natAbs).length kx) ∧ w'.cell? ⟨w.heap.size, 1, none⟩ = some (.bool dz) ∧ w'.cell? ⟨w.heap.size, 2, none⟩ = some (.slice qx (wrds u).length mx)) ∧ w'.cell? ⟨bS, 0, none⟩ = some (.slice p1 (wrds S).length k1) ∧ w'.cell? ⟨bE, 0, none⟩ = some (.int .i64 0))
   (first | go_keep | exact ⟨RX3.ex, R13.one, R53.one⟩ | exact ⟨RX2.ex, R12.one, R52.one⟩ | ((try dsimp only); (repeat' apply And.intro) <;> go_keep))
   (first
     | (go_at_call 61; (with_reducible refine (HPR.out _ B0.out.drew).mono ?_); rintro e w2 ⟨v2, rfl, W2, hb2⟩; have RX2 := RX.keep (bl_drew hb2); have RZ2 := RZ.keep (bl_drew hb2); have R12 := R1.keep (bl_drew hb2); have R22 := R2.keep (bl_drew hb2); have R52 := R5.keep (bl_drew hb2); have R62 := R6.keep (bl_drew hb2); have R72 := R7.keep (bl_drew hb2); have BW2 := Lib.hid (bl_then B0.out (bl_drew hb2)))
     | (go_at_call 133; (with_reducible refine (HEN.out _ _ _ _ _ W2 (HXu.out.keep BW2.out (Nat.le_refl _))).mono ?_); rintro e w3 ⟨v3, rfl, W3, hb3⟩; have RX3 := RX2.keep hb3; have RZ3 := RZ2.keep hb3; have R13 := R12.keep hb3; have R23 := R22.keep hb3; have R53 := R52.keep hb3; have R63 := R62.keep hb3; have R73 := R72.keep hb3; have BW3 := Lib.hid (bl_then BW2.out hb3); have W3' := Lib.hid W3; obtain ⟨p3, k3, rfl⟩ := W3.slice; clear W3))
 have c2 := R23.one
 clear x0 x1 x2 c1 c5
 go_wp2_with (go_at_call 58; (with_reducible refine (HCM.out _ _ _ W3'.out BW3.out).mono ?_); rintro e w4 ⟨rfl, hb4⟩; have RX4 := RX3.keep hb4; have RZ4 := RZ3.keep hb4; have R14 := R13.keep hb4; have R24 := R23.keep hb4; have R54 := R53.keep hb4; have R64 := R63.keep hb4; have R74 := R73.keep hb4; have BW4 := Lib.hid (bl_then BW3.out hb4); have W4' := Lib.hid (W3'.out.keep hb4 (Nat.le_refl _)); have c2 := R24.one; have c6 := R64.one)
 obtain ⟨x0, x1, x2⟩ := RX4.ex
 have t0 := R74.at 0
 have t2 := R74.at 2
 have t0 : w4.cell? ⟨bT, 0, none⟩ = some (.int .i64 k) := t0
 have t2 : w4.cell? ⟨bT, 2, none⟩ = some (.int .i64 (q : Int)) := t2
 go_region_held3 (fun w' => (w'.cell? ⟨w.heap.size, 0, none⟩ = some (.slice px (wrds z.natAbs).length kx) ∧ w'.cell? ⟨w.heap.size, 1, none⟩ = some (.bool dz) ∧ w'.cell? ⟨w.heap.size, 2, none⟩ = some (.slice qx (wrds u).length mx)) ∧ w'.cell? ⟨bT, 0, none⟩ = some (.int .i64 k) ∧ w'.cell? ⟨bT, 2, none⟩ = some (.int .i64 (q : Int)))
   (first | go_keep | exact ⟨RX7.ex, R77.at 0, R77.at 2⟩ | exact ⟨RX6.ex, R76.at 0, R76.at 2⟩ | ((try dsimp only); (repeat' apply And.intro) <;> go_keep))
   (first
     | (go_at_call 62; (with_reducible refine (HSG.out _ _ _ (W4'.out.keep ((Below.refl _ _).drew) (Nat.le_refl _))).mono ?_); rintro e w6 ⟨v6, rfl, L6, hb6⟩; have RX6 := RX4.keep (bl_drew hb6); have RZ6 := RZ4.keep (bl_drew hb6); have R16 := R14.keep (bl_drew hb6); have R26 := R24.keep (bl_drew hb6); have R56 := R54.keep (bl_drew hb6); have R66 := R64.keep (bl_drew hb6); have R76 := R74.keep (bl_drew hb6); have BW6 := Lib.hid (bl_then BW4.out (bl_drew hb6)))
     | (go_at_call 134; (with_reducible refine (HIN.out _ _ _ L6).mono ?_); rintro e w7 ⟨rfl, hb7⟩; have RX7 := RX6.keep hb7; have RZ7 := RZ6.keep hb7; have R17 := R16.keep hb7; have R27 := R26.keep hb7; have R57 := R56.keep hb7; have R67 := R66.keep hb7; have R77 := R76.keep hb7; have BW7 := Lib.hid (bl_then BW6.out hb7); obtain ⟨z0, z1, z2, z3⟩ := RZ7.four; have f0 := RZ7.free 0; have f1 := RZ7.free 1; have f2 := RZ7.free 2; have f3 := RZ7.free 3))
 go_wp2
 refine bodyPost_ret (v := .tuple #[vaV k V q ⟨#[]⟩, .int .i64 0]) (by simp [results, Tryz.results151, go_sem, z0, z1, z2, z3]) rfl ⟨rfl, ?_⟩
 (repeat refine Below.setCell ?_ (by simp <;> omega) _)
 exact BW7.out
set_option maxRecDepth 100000 in
set_option maxHeartbeats 8000000 in
theorem fit1_big {z : Int} {u : Nat} {vx : Value} {w : World} {cap : Array Value} {k n L : Int} {p q S Bd M Q R : Nat} {vy : Bool} {pic : ByteArray} (HC : FixCap w cap k n p q vy pic S Bd L) (hX : XArg 0 w vx z u) (la : (wrds z.natAbs).length ≤ 4000) (lS : (wrds S).length ≤ 4000) (hM : z.natAbs * S = M) (hQ : M / u = Q) (hD : DivOK M u) (hB : Bd ≤ 4611686018427387904) (lM : (wrds Q).length ≤ 10000) (hge : Bd ≤ Q) (hD2 : DivOK Q Bd) (hBp : 0 < Bd) (hR : Q % Bd = R) :
   Calls Tryz.prog 151 (#[vx] ++ cap) w fun e w' => e = .returned (.tuple #[vaV k (fixN z R) q ⟨#[]⟩, .int .i64 L]) ∧ Below w.heap.size w w' := by
 obtain ⟨px, kx, qx, mx, rfl⟩ := hX.open
 have HX := Lib.hid hX
 obtain ⟨bS, bE, bB, bL, bT, v1, v2, rfl, R1, R2, A1, A2, R5, R6, R7⟩ := HC
 obtain ⟨p1, k1, rfl⟩ := A1.slice
 obtain ⟨p2, k2, rfl⟩ := A2.slice
 have HA1 := Lib.hid A1
 have HA2 := Lib.hid A2
 have hs1 := R1.lt; have hs2 := R2.lt; have hs5 := R5.lt; have hs6 := R6.lt; have hs7 := R7.lt
 have HPR : Hid (∀ W, Below w.heap.size w W → Calls Tryz.prog 61 #[.slice px (wrds z.natAbs).length kx, .slice p1 (wrds S).length k1] W (GivesW W M)) := Lib.hid fun W hW => by
   rw [← hM]; exact product_d (HX.out.args.1.keep hW (Nat.le_refl _)) (HA1.out.keep hW (Nat.le_refl _)) (by omega) (by omega)
 have HEN : Hid (∀ (B C : Nat) (va vu : Value) (W : World), WArg B W va M → WArg C W vu u → Calls Tryz.prog 133 #[va, vu, .int .i64 0] W (GivesW W Q)) := Lib.hid fun B C va vu W h1 h2 => by
   rw [← hQ]; exact ended_cut hD h1 h2
 have lBd : (wrds Bd).length ≤ 10000 := Nat.le_trans (wrds_length Bd 2 (by omega)) (by decide)
 have hcz : ¬ cmpZ Q Bd < 0 := by
   by_cases h : Q = Bd
   · rw [cmpZ_eq (by omega)]; decide
   · rw [cmpZ_gt (by omega)]; decide
 have hcz0 : (0 : Int) ≤ cmpZ Q Bd := by omega
 have hRl : R < Bd := by rw [← hR]; exact Nat.mod_lt _ hBp
 have HDV : Hid (∀ (B C : Nat) (va vu : Value) (W : World), WArg B W va Q → WArg C W vu Bd → Calls Tryz.prog 116 #[va, vu] W fun e w' => ∃ vq vr, e = .returned (.tuple #[vq, vr]) ∧ WArg W.heap.size w' vr R ∧ (∃ pq kq, vq = .slice pq (wrds (Q / Bd)).length kq) ∧ Below W.heap.size W w') := Lib.hid fun B C va vu W h1 h2 =>
   (hD2 B C va vu W h1 h2).mono fun _ _ ⟨vq, vr, he, g1, g2, g3⟩ => ⟨vq, vr, he, by rw [← hR]; exact g2, by obtain ⟨a, b, e⟩ := g1.slice; exact ⟨a, b, e⟩, g3⟩
 have HCM : Hid (∀ (B : Nat) (va : Value) (W : World), WArg B W va Q → Below w.heap.size w W → Calls Tryz.prog 58 #[va, .slice p2 (wrds Bd).length k2] W fun e w' => e = .returned (.int .i64 (cmpZ Q Bd)) ∧ Below W.heap.size W w') := Lib.hid fun B va W h1 hW => compare_d h1 (HA2.out.keep hW (Nat.le_refl _)) (by omega) (by omega)
 obtain ⟨cz, hcze⟩ : ∃ c, cmpZ Q Bd = c := ⟨_, rfl⟩
 rw [hcze] at HCM hcz hcz0
 have HSG : Hid (∀ (B : Nat) (v : Value) (W : World), WArg B W v R → Calls Tryz.prog 62 #[v, .bool (decide (z < 0))] W fun e w' => ∃ s, e = .returned s ∧ LArg B w' s (fixN z R) ∧ Below W.heap.size W w') := Lib.hid fun B v W h => by
   have := signed_l h (by have := wrds_length R 2 (by omega); omega) (decide (z < 0))
   simpa [fixN] using this
 have hfN : -9223372036854775808 < fixN z R ∧ fixN z R < 9223372036854775808 := by unfold fixN; split <;> omega
 have HIN : Hid (∀ (B : Nat) (v : Value) (W : World), LArg B W v (fixN z R) → Calls Tryz.prog 134 #[v] W fun e w' => e = .returned (.int .i64 (fixN z R)) ∧ Below W.heap.size W w') := Lib.hid fun B v W h => int_l h hfN.1 hfN.2
 obtain ⟨V, hV⟩ : ∃ V, fixN z R = V := ⟨_, rfl⟩
 obtain ⟨dz, hdz⟩ : ∃ d, decide (z < 0) = d := ⟨_, rfl⟩
 rw [hV] at HIN HSG ⊢
 rw [hdz] at HX HSG ⊢
 have HXu := Lib.hid (HX.out.args.2.1)
 clear hX HX hM hQ hD hV hdz hfN A1 A2 hR la lS lM hB lBd hcze HA1 hge hD2 hBp
 have RX := (Row.new w (exC (.slice px (wrds z.natAbs).length kx) dz (.slice qx (wrds u).length mx)) 43).alloc (.cells (vaC 0 0 0 ⟨#[]⟩) 23)
 have RZ := Row.new2 w (.cells (exC (.slice px (wrds z.natAbs).length kx) dz (.slice qx (wrds u).length mx)) 43) (vaC 0 0 0 ⟨#[]⟩) 23
 have R1 := (R1.alloc (.cells (exC (.slice px (wrds z.natAbs).length kx) dz (.slice qx (wrds u).length mx)) 43)).alloc (.cells (vaC 0 0 0 ⟨#[]⟩) 23)
 have R2 := (R2.alloc (.cells (exC (.slice px (wrds z.natAbs).length kx) dz (.slice qx (wrds u).length mx)) 43)).alloc (.cells (vaC 0 0 0 ⟨#[]⟩) 23)
 have R5 := (R5.alloc (.cells (exC (.slice px (wrds z.natAbs).length kx) dz (.slice qx (wrds u).length mx)) 43)).alloc (.cells (vaC 0 0 0 ⟨#[]⟩) 23)
 have R6 := (R6.alloc (.cells (exC (.slice px (wrds z.natAbs).length kx) dz (.slice qx (wrds u).length mx)) 43)).alloc (.cells (vaC 0 0 0 ⟨#[]⟩) 23)
 have R7 := (R7.alloc (.cells (exC (.slice px (wrds z.natAbs).length kx) dz (.slice qx (wrds u).length mx)) 43)).alloc (.cells (vaC 0 0 0 ⟨#[]⟩) 23)
 go_enter Tryz.func151, Tryz.ntmps151
 go_wp2
 generalize hw : (w.alloc (.cells (exC (.slice px (wrds z.natAbs).length kx) dz (.slice qx (wrds u).length mx)) 43)).alloc (.cells (vaC 0 0 0 ⟨#[]⟩) 23) = W at *
 have B0 : Hid (Below w.heap.size w W) := by show Below _ _ _; rw [← hw]; go_grown
 have hsz : w.heap.size + 1 + 1 ≤ W.heap.size := by rw [← hw]; simp
 clear hw
 have nT : ¬ bT = w.heap.size + 1 := by omega
 have nT' : ¬ w.heap.size + 1 = bT := by omega
 obtain ⟨x0, x1, x2⟩ := RX.ex
 have c1 := R1.one
 have c5 := R5.one
 go_region_held3 (fun w' => (w'.cell? ⟨w.heap.size, 0, none⟩ = some (.slice px (wrds z.natAbs).length kx) ∧ w'.cell? ⟨w.heap.size, 1, none⟩ = some (.bool dz) ∧ w'.cell? ⟨w.heap.size, 2, none⟩ = some (.slice qx (wrds u).length mx)) ∧ w'.cell? ⟨bS, 0, none⟩ = some (.slice p1 (wrds S).length k1) ∧ w'.cell? ⟨bE, 0, none⟩ = some (.int .i64 0))
   (first | go_keep | exact ⟨RX3.ex, R13.one, R53.one⟩ | exact ⟨RX2.ex, R12.one, R52.one⟩ | ((try dsimp only); (repeat' apply And.intro) <;> go_keep))
   (first
     | (go_at_call 61; (with_reducible refine (HPR.out _ B0.out.drew).mono ?_); rintro e w2 ⟨v2, rfl, W2, hb2⟩; have RX2 := RX.keep (bl_drew hb2); have RZ2 := RZ.keep (bl_drew hb2); have R12 := R1.keep (bl_drew hb2); have R22 := R2.keep (bl_drew hb2); have R52 := R5.keep (bl_drew hb2); have R62 := R6.keep (bl_drew hb2); have R72 := R7.keep (bl_drew hb2); have BW2 := Lib.hid (bl_then B0.out (bl_drew hb2)))
     | (go_at_call 133; (with_reducible refine (HEN.out _ _ _ _ _ W2 (HXu.out.keep BW2.out (Nat.le_refl _))).mono ?_); rintro e w3 ⟨v3, rfl, W3, hb3⟩; have RX3 := RX2.keep hb3; have RZ3 := RZ2.keep hb3; have R13 := R12.keep hb3; have R23 := R22.keep hb3; have R53 := R52.keep hb3; have R63 := R62.keep hb3; have R73 := R72.keep hb3; have BW3 := Lib.hid (bl_then BW2.out hb3); have W3' := Lib.hid W3; obtain ⟨p3, k3, rfl⟩ := W3.slice; clear W3))
 have c2 := R23.one
 clear x0 x1 x2 c1 c5
 go_wp2_with (first
   | (go_at_call 58; (with_reducible refine (HCM.out _ _ _ W3'.out BW3.out).mono ?_); rintro e w4 ⟨rfl, hb4⟩; have RX4 := RX3.keep hb4; have RZ4 := RZ3.keep hb4; have R14 := R13.keep hb4; have R24 := R23.keep hb4; have R54 := R53.keep hb4; have R64 := R63.keep hb4; have R74 := R73.keep hb4; have BW4 := Lib.hid (bl_then BW3.out hb4); have W4' := Lib.hid (W3'.out.keep hb4 (Nat.le_refl _)); have c2 := R24.one; have c6 := R64.one)
   | (go_at_call 116; (with_reducible refine (HDV.out _ _ _ _ _ W4'.out (HA2.out.keep BW4.out (Nat.le_refl _))).mono ?_); rintro e w5 ⟨vq, v5, rfl, W5, ⟨pq, kq, rfl⟩, hb5⟩; have RX5 := RX4.keep hb5; have RZ5 := RZ4.keep hb5; have R15 := R14.keep hb5; have R25 := R24.keep hb5; have R55 := R54.keep hb5; have R65 := R64.keep hb5; have R75 := R74.keep hb5; have BW5 := Lib.hid (bl_then BW4.out hb5); have W5' := Lib.hid W5; obtain ⟨p5, k5, rfl⟩ := W5.slice; clear W5; have c6 := R65.one))
 obtain ⟨x0, x1, x2⟩ := RX5.ex
 have t0 := R75.at 0
 have t2 := R75.at 2
 have t0 : w5.cell? ⟨bT, 0, none⟩ = some (.int .i64 k) := t0
 have t2 : w5.cell? ⟨bT, 2, none⟩ = some (.int .i64 (q : Int)) := t2
 go_region_held3 (fun w' => (w'.cell? ⟨w.heap.size, 0, none⟩ = some (.slice px (wrds z.natAbs).length kx) ∧ w'.cell? ⟨w.heap.size, 1, none⟩ = some (.bool dz) ∧ w'.cell? ⟨w.heap.size, 2, none⟩ = some (.slice qx (wrds u).length mx)) ∧ w'.cell? ⟨bT, 0, none⟩ = some (.int .i64 k) ∧ w'.cell? ⟨bT, 2, none⟩ = some (.int .i64 (q : Int)))
   (first | go_keep | exact ⟨RX7.ex, R77.at 0, R77.at 2⟩ | exact ⟨RX6.ex, R76.at 0, R76.at 2⟩ | ((try dsimp only); (repeat' apply And.intro) <;> go_keep))
   (first
     | (go_at_call 62; (with_reducible refine (HSG.out _ _ _ (W5'.out.keep ((Below.refl _ _).drew) (Nat.le_refl _))).mono ?_); rintro e w6 ⟨v6, rfl, L6, hb6⟩; have RX6 := RX5.keep (bl_drew hb6); have RZ6 := RZ5.keep (bl_drew hb6); have R16 := R15.keep (bl_drew hb6); have R26 := R25.keep (bl_drew hb6); have R56 := R55.keep (bl_drew hb6); have R66 := R65.keep (bl_drew hb6); have R76 := R75.keep (bl_drew hb6); have BW6 := Lib.hid (bl_then BW5.out (bl_drew hb6)))
     | (go_at_call 134; (with_reducible refine (HIN.out _ _ _ L6).mono ?_); rintro e w7 ⟨rfl, hb7⟩; have RX7 := RX6.keep hb7; have RZ7 := RZ6.keep hb7; have R17 := R16.keep hb7; have R27 := R26.keep hb7; have R57 := R56.keep hb7; have R67 := R66.keep hb7; have R77 := R76.keep hb7; have BW7 := Lib.hid (bl_then BW6.out hb7); obtain ⟨z0, z1, z2, z3⟩ := RZ7.four; have f0 := RZ7.free 0; have f1 := RZ7.free 1; have f2 := RZ7.free 2; have f3 := RZ7.free 3))
 go_wp2
 refine bodyPost_ret (v := .tuple #[vaV k V q ⟨#[]⟩, .int .i64 L]) (by simp [results, Tryz.results151, go_sem, z0, z1, z2, z3]) rfl ⟨rfl, ?_⟩
 (repeat refine Below.setCell ?_ (by simp <;> omega) _)
 exact BW7.out
end Go.Proofs.YtpdoddhieblooaaGreatDoor
namespace Go.Proofs.YtpdoddhieblooaaGreatDoor
open Go.RowKit

theorem row_six {w : World} {b : Nat} {a0 a1 a2 a3 a4 a5 : Value} {t : TypeId} (h : Row w b #[a0, a1, a2, a3, a4, a5] t) :
   w.cell? ⟨b, 0, none⟩ = some a0 ∧ w.cell? ⟨b, 1, none⟩ = some a1 ∧ w.cell? ⟨b, 2, none⟩ = some a2 ∧ w.cell? ⟨b, 3, none⟩ = some a3 ∧ w.cell? ⟨b, 4, none⟩ = some a4 ∧ w.cell? ⟨b, 5, none⟩ = some a5 :=
 ⟨h.at 0, h.at 1, h.at 2, h.at 3, h.at 4, h.at 5⟩
set_option maxRecDepth 100000 in
set_option maxHeartbeats 1000000 in
theorem fitDec_c (k n L : Int) (p q : Nat) (vy : Bool) (pic : ByteArray) (w : World) (hp : p ≤ 10000) (hq : q ≤ 10000) :
   Calls Tryz.prog 84 #[.agg #[.int .i64 k, .int .i64 (p : Int), .int .i64 (q : Int), .int .i64 n, .bool vy, .string pic], .int .i64 0, .int .i64 L] w fun e w' => ∃ cap, e = .returned (.func (.func 151) #[] cap) ∧ FixCap w' cap k n p q vy pic (10 ^ q) (10 ^ p) L ∧ Below w.heap.size w w' := by
 have HF : Hid (∀ W, Calls Tryz.prog 123 #[.agg #[.int .i64 k, .int .i64 (p : Int), .int .i64 (q : Int), .int .i64 n, .bool vy, .string pic], .int .i64 10, .int .i64 0, .int .i64 L] W fun e w' => ∃ cap, e = .returned (.func (.func 151) #[] cap) ∧ FixCap w' cap k n p q vy pic (10 ^ q) (10 ^ p) L ∧ Below W.heap.size W w') := Lib.hid fun W =>
   fitFixed_c k n L p q 10 _ _ vy pic W (fun W => power_d 10 q W (by decide) (by decide) (by omega) (pow_room (by decide) (by omega))) (fun W => power_d 10 p W (by decide) (by decide) (by omega) (pow_room (by decide) (by omega)))
 go_enter Tryz.func84, Tryz.ntmps84
 go_wp2_with (go_at_call 123; (with_reducible refine (HF.out _).mono ?_); rintro e w2 ⟨cap, rfl, HC, hb2⟩)
 go_ret
 exact ⟨_, rfl, HC, by first | exact hb2 | exact bl_box (Below.refl _ w) hb2⟩
set_option maxRecDepth 100000 in
set_option maxHeartbeats 1000000 in
theorem fitBin_c (k n L : Int) (p q : Nat) (vy : Bool) (pic : ByteArray) (w : World) (hp : p ≤ 10000) (hq : q ≤ 10000) :
   Calls Tryz.prog 78 #[.agg #[.int .i64 k, .int .i64 (p : Int), .int .i64 (q : Int), .int .i64 n, .bool vy, .string pic], .int .i64 0, .int .i64 L] w fun e w' => ∃ cap, e = .returned (.func (.func 151) #[] cap) ∧ FixCap w' cap k n p q vy pic (2 ^ q) (2 ^ p) L ∧ Below w.heap.size w w' := by
 have HF : Hid (∀ W, Calls Tryz.prog 123 #[.agg #[.int .i64 k, .int .i64 (p : Int), .int .i64 (q : Int), .int .i64 n, .bool vy, .string pic], .int .i64 2, .int .i64 0, .int .i64 L] W fun e w' => ∃ cap, e = .returned (.func (.func 151) #[] cap) ∧ FixCap w' cap k n p q vy pic (2 ^ q) (2 ^ p) L ∧ Below W.heap.size W w') := Lib.hid fun W =>
   fitFixed_c k n L p q 2 _ _ vy pic W (fun W => power_d 2 q W (by decide) (by decide) (by omega) (pow_room (by decide) (by omega))) (fun W => power_d 2 p W (by decide) (by decide) (by omega) (pow_room (by decide) (by omega)))
 go_enter Tryz.func78, Tryz.ntmps78
 go_wp2_with (go_at_call 123; (with_reducible refine (HF.out _).mono ?_); rintro e w2 ⟨cap, rfl, HC, hb2⟩)
 go_ret
 exact ⟨_, rfl, HC, by first | exact hb2 | exact bl_box (Below.refl _ w) hb2⟩
set_option maxRecDepth 100000 in
set_option maxHeartbeats 1000000 in
theorem fitting_1 (n L : Int) (p q : Nat) (vy : Bool) (pic : ByteArray) (w : World) (hp : p ≤ 10000) (hq : q ≤ 10000) :
   Calls Tryz.prog 57 #[.agg #[.int .i64 1, .int .i64 (p : Int), .int .i64 (q : Int), .int .i64 n, .bool vy, .string pic], .int .i64 0, .int .i64 L] w fun e w' => ∃ bt bf cap, e = .returned (.func (.func 109) #[] #[ptD bt, ptD bf]) ∧ Row w' bt #[.int .i64 1, .int .i64 (p : Int), .int .i64 (q : Int), .int .i64 n, .bool vy, .string pic] 25 ∧ Row w' bf #[.func (.func 151) #[] cap] 83 ∧ FixCap w' cap 1 n p q vy pic (2 ^ q) (2 ^ p) L ∧ Below w.heap.size w w' := by
 have hmf : ∀ (fn : Fn) (first cap : Array Value) (w : World), (Instr.makeFunc fn first cap).run Tryz.prog w = .ok (.func fn first cap) w := fun _ _ _ _ => rfl
 have q5 := fld_5
 have qe : ∀ (f : Nat) (w : World), (binOp .eql 69 (fnv f) .nilFunc).run Tryz.prog w = .ok (.bool false) w := fun _ _ => by kernel_rfl
 have RT := Row.new w #[.int .i64 1, .int .i64 (p : Int), .int .i64 (q : Int), .int .i64 n, .bool vy, .string pic] 25
 have HF : Hid (∀ W, Calls Tryz.prog 78 #[.agg #[.int .i64 1, .int .i64 (p : Int), .int .i64 (q : Int), .int .i64 n, .bool vy, .string pic], .int .i64 0, .int .i64 L] W fun e w' => ∃ cap, e = .returned (.func (.func 151) #[] cap) ∧ FixCap w' cap 1 n p q vy pic (2 ^ q) (2 ^ p) L ∧ Below W.heap.size W w') := Lib.hid fun W => fitBin_c _ n L p q vy pic W hp hq
 clear hp hq
 have t0 := RT.at 0
 have t0 : (w.alloc (.cells #[.int .i64 1, .int .i64 (p : Int), .int .i64 (q : Int), .int .i64 n, .bool vy, .string pic] 25)).cell? ⟨w.heap.size, 0, none⟩ = some (.int .i64 1) := t0
 go_enter Tryz.func57, Tryz.ntmps57
 go_wp2_with (first
   | (go_at_call 44; refine (rules_1 _).mono ?_; rintro e w2 ⟨rfl, hb2⟩; have T2 := RT.keep hb2; have B2 := Lib.hid (bl_box (Below.refl _ w) hb2); obtain ⟨y0, y1, y2, y3, y4, y5⟩ := row_six T2)
   | (go_at_call 78; (with_reducible refine (HF.out _).mono ?_); rintro e w3 ⟨cap, rfl, HC, hb3⟩; have T3 := Lib.hid (T2.keep hb3); have B3 := Lib.hid (bl_then B2.out hb3); have HC3 := Lib.hid HC; clear HC))
 go_ret
 exact ⟨_, _, cap, rfl, T3.out.alloc _, Row.new _ _ _, HC3.out.later ((Below.refl _ _).alloc (Nat.le_refl _) _), B3.out.alloc B3.out.size _⟩
set_option maxRecDepth 100000 in
set_option maxHeartbeats 1000000 in
theorem fitting_2 (n L : Int) (p q : Nat) (vy : Bool) (pic : ByteArray) (w : World) (hp : p ≤ 10000) (hq : q ≤ 10000) :
   Calls Tryz.prog 57 #[.agg #[.int .i64 2, .int .i64 (p : Int), .int .i64 (q : Int), .int .i64 n, .bool vy, .string pic], .int .i64 0, .int .i64 L] w fun e w' => ∃ bt bf cap, e = .returned (.func (.func 109) #[] #[ptD bt, ptD bf]) ∧ Row w' bt #[.int .i64 2, .int .i64 (p : Int), .int .i64 (q : Int), .int .i64 n, .bool vy, .string pic] 25 ∧ Row w' bf #[.func (.func 151) #[] cap] 83 ∧ FixCap w' cap 2 n p q vy pic (10 ^ q) (10 ^ p) L ∧ Below w.heap.size w w' := by
 have hmf : ∀ (fn : Fn) (first cap : Array Value) (w : World), (Instr.makeFunc fn first cap).run Tryz.prog w = .ok (.func fn first cap) w := fun _ _ _ _ => rfl
 have q5 := fld_5
 have qe : ∀ (f : Nat) (w : World), (binOp .eql 69 (fnv f) .nilFunc).run Tryz.prog w = .ok (.bool false) w := fun _ _ => by kernel_rfl
 have RT := Row.new w #[.int .i64 2, .int .i64 (p : Int), .int .i64 (q : Int), .int .i64 n, .bool vy, .string pic] 25
 have HF : Hid (∀ W, Calls Tryz.prog 84 #[.agg #[.int .i64 2, .int .i64 (p : Int), .int .i64 (q : Int), .int .i64 n, .bool vy, .string pic], .int .i64 0, .int .i64 L] W fun e w' => ∃ cap, e = .returned (.func (.func 151) #[] cap) ∧ FixCap w' cap 2 n p q vy pic (10 ^ q) (10 ^ p) L ∧ Below W.heap.size W w') := Lib.hid fun W => fitDec_c _ n L p q vy pic W hp hq
 clear hp hq
 have t0 := RT.at 0
 have t0 : (w.alloc (.cells #[.int .i64 2, .int .i64 (p : Int), .int .i64 (q : Int), .int .i64 n, .bool vy, .string pic] 25)).cell? ⟨w.heap.size, 0, none⟩ = some (.int .i64 2) := t0
 go_enter Tryz.func57, Tryz.ntmps57
 go_wp2_with (first
   | (go_at_call 44; refine (rules_2 _).mono ?_; rintro e w2 ⟨rfl, hb2⟩; have T2 := RT.keep hb2; have B2 := Lib.hid (bl_box (Below.refl _ w) hb2); obtain ⟨y0, y1, y2, y3, y4, y5⟩ := row_six T2)
   | (go_at_call 84; (with_reducible refine (HF.out _).mono ?_); rintro e w3 ⟨cap, rfl, HC, hb3⟩; have T3 := Lib.hid (T2.keep hb3); have B3 := Lib.hid (bl_then B2.out hb3); have HC3 := Lib.hid HC; clear HC))
 go_ret
 exact ⟨_, _, cap, rfl, T3.out.alloc _, Row.new _ _ _, HC3.out.later ((Below.refl _ _).alloc (Nat.le_refl _) _), B3.out.alloc B3.out.size _⟩
set_option maxRecDepth 100000 in
set_option maxHeartbeats 2000000 in
theorem fitting1_x {z : Int} {u : Nat} {vx : Value} {w : World} {bt bf fn : Nat} {cap : Array Value} {k N q c : Int} {s : ByteArray} (hcf : ∀ (args : Array Value) (W : World), (callFunc fn args).run Tryz.prog W = .ok (.enter fn args) W) (Rf : Row w bf #[.func (.func fn) #[] cap] 83) (hX : XArg 0 w vx z u) (lu : (wrds u).length ≤ 1000000) (hu : u ≠ 0)
   (hF : ∀ W, Below w.heap.size w W → Calls Tryz.prog fn (#[vx] ++ cap) W fun e w' => e = .returned (.tuple #[vaV k N q s, .int .i64 c]) ∧ Below W.heap.size W w') :
   Calls Tryz.prog 109 #[vx, ptD bt, ptD bf] w fun e w' => e = .returned (.tuple #[vaV k N q s, .int .i64 c]) ∧ Below w.heap.size w w' := by
 obtain ⟨px, kx, qx, mx, rfl⟩ := hX.open
 have HXu := Lib.hid hX.args.2.1
 have HF := Lib.hid hF
 have HZ : Hid (∀ W, Below w.heap.size w W → Calls Tryz.prog 49 #[.slice qx (wrds u).length mx] W fun e w' => e = .returned (.bool false) ∧ W = w') := Lib.hid fun W hW => by
   have := isZero_d (HXu.out.keep hW (Nat.le_refl _)) lu
   rwa [decide_eq_false hu] at this
 clear hX hF hu
 have RX := (Row.new w (exC (.slice px (wrds z.natAbs).length kx) (decide (z < 0)) (.slice qx (wrds u).length mx)) 43).alloc (.cells (vaC 0 0 0 ⟨#[]⟩) 23)
 have RZ := Row.new2 w (.cells (exC (.slice px (wrds z.natAbs).length kx) (decide (z < 0)) (.slice qx (wrds u).length mx)) 43) (vaC 0 0 0 ⟨#[]⟩) 23
 have RF := (Rf.alloc (.cells (exC (.slice px (wrds z.natAbs).length kx) (decide (z < 0)) (.slice qx (wrds u).length mx)) 43)).alloc (.cells (vaC 0 0 0 ⟨#[]⟩) 23)
 go_enter Tryz.func109, Tryz.ntmps109
 go_wp2_with fail
 generalize hw : (w.alloc (.cells (exC (.slice px (wrds z.natAbs).length kx) (decide (z < 0)) (.slice qx (wrds u).length mx)) 43)).alloc (.cells (vaC 0 0 0 ⟨#[]⟩) 23) = W at *
 have B0 : Hid (Below w.heap.size w W) := by show Below _ _ _; rw [← hw]; go_grown
 clear hw
 obtain ⟨x0, x1, x2⟩ := RX.ex
 have c1 := RF.one
 go_wp2_with (first
   | (go_at_call 49; (with_reducible refine (HZ.out _ B0.out).mono ?_); rintro e w1 ⟨rfl, rfl⟩)
   | ((refine (HF.out _ B0.out).mono ?_); rintro e w2 ⟨rfl, hb2⟩; have Z2 := RZ.keep hb2; have B2 := Lib.hid (bl_then B0.out hb2); obtain ⟨z0, z1, z2, z3⟩ := Z2.four; have f0 := Z2.free 0; have f1 := Z2.free 1; have f2 := Z2.free 2; have f3 := Z2.free 3))
 refine bodyPost_ret (v := .tuple #[vaV k N q s, .int .i64 c]) (by simp [results, Tryz.results109, go_sem, z0, z1, z2, z3]) rfl ⟨rfl, ?_⟩
 (repeat refine Below.setCell ?_ (by simp <;> omega) _)
 exact B2.out
end Go.Proofs.YtpdoddhieblooaaGreatDoor
