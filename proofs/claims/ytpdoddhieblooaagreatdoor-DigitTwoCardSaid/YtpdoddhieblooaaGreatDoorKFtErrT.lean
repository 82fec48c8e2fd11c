/- digit.reckoned: its closure, over any operator and whatever fits. digit.reckoned, over any operator and whatever fits. digit: exact numbers: over. digit.Divide of one by three, in fifteen digits. digit.reckoned where its closure panics. digit.reckoned$1 where fitting refuses a type. -/
import Derived.Test.YtpdoddhieblooaaGreatDoorKWrdFit1
import Derived.Test.YtpdoddhieblooaaGreatDoorKTwoLaw
import Derived.Test.YtpdoddhieblooaaGreatDoorKWrdCompare
import Derived.Test.YtpdoddhieblooaaGreatDoorKWrdMid
import Derived.BigRegion
import Derived.Test.YtpdoddhieblooaaGreatDoorKWrdXs
namespace Go.Proofs.YtpdoddhieblooaaGreatDoor
open Go.RowKit

theorem row_newc3 (w : World) (a b c : Addr) (v v' v'' : Value) (cs : Array Value) (t : TypeId) : Row ((((w.setCell a v).setCell b v').setCell c v'').alloc (.cells cs t)) w.heap.size cs t := by
 have h := Row.new (((w.setCell a v).setCell b v').setCell c v'') cs t
 have e : (((w.setCell a v).setCell b v').setCell c v'').heap.size = w.heap.size := by simp [World.setCell]
 rwa [e] at h
theorem row_put3 {w : World} {b : Nat} {v0 v1 v2 : Value} {t : TypeId} (h : Row w b (exC (.slice none 0 0) false (.slice none 0 0)) t) : Row (((w.setCell ⟨b, 0, none⟩ v0).setCell ⟨b, 1, none⟩ v1).setCell ⟨b, 2, none⟩ v2) b #[v0, v1, v2] t :=
 ((h.putv 0 v0).putv 1 v1).putv 2 v2
theorem XArg.mid {B : Nat} {w w' : World} {v : Value} {z : Int} {u : Nat} (h : XArg B w v z u) (hm : Mid B w w') : XArg B w' v z u := by
 obtain ⟨sl, s2, e, h1, h2⟩ := h; exact ⟨sl, s2, e, h1.mid hm, h2.mid hm⟩
def TwoX (W : World) (za zb : Int) (ua ub : Nat) (s7 s8 : Value) (wx : World) : Prop :=
 ∃ bX bY px kx qx mx py ky qy my, s7 = ptD bX ∧ s8 = ptD bY ∧ Row wx bX (exC (.slice px (wrds za.natAbs).length kx) (decide (za < 0)) (.slice qx (wrds ua).length mx)) 43 ∧ Row wx bY (exC (.slice py (wrds zb.natAbs).length ky) (decide (zb < 0)) (.slice qy (wrds ub).length my)) 43 ∧
   XArg 0 wx (exV (.slice px (wrds za.natAbs).length kx) (decide (za < 0)) (.slice qx (wrds ua).length mx)) za ua ∧ XArg 0 wx (exV (.slice py (wrds zb.natAbs).length ky) (decide (zb < 0)) (.slice qy (wrds ub).length my)) zb ub ∧ Below W.heap.size W wx ∧ W.heap.size ≤ bX ∧ W.heap.size ≤ bY
theorem twoX_mk {W wx w2 w3 : World} {za zb : Int} {ua ub bX bY B2 B3 kx mx ky my : Nat} {px qx py qy : Option Addr}
   (h1 : Row wx bX (exC (.slice px (wrds za.natAbs).length kx) (decide (za < 0)) (.slice qx (wrds ua).length mx)) 43) (h2 : Row wx bY (exC (.slice py (wrds zb.natAbs).length ky) (decide (zb < 0)) (.slice qy (wrds ub).length my)) 43)
   (h3 : XArg B2 w2 (exV (.slice px (wrds za.natAbs).length kx) (decide (za < 0)) (.slice qx (wrds ua).length mx)) za ua) (h4 : XArg B3 w3 (exV (.slice py (wrds zb.natAbs).length ky) (decide (zb < 0)) (.slice qy (wrds ub).length my)) zb ub) (m2 : Mid B2 w2 wx) (m3 : Mid B3 w3 wx) (hB : Below W.heap.size W wx) (l1 : W.heap.size ≤ bX) (l2 : W.heap.size ≤ bY) :
   TwoX W za zb ua ub (ptD bX) (ptD bY) wx := ⟨bX, bY, px, kx, qx, mx, py, ky, qy, my, rfl, rfl, h1, h2, (h3.mid m2).base (Nat.zero_le _), (h4.mid m3).base (Nat.zero_le _), hB, l1, l2⟩
theorem row_put4 {w : World} {b : Nat} {u0 u1 u2 u3 v0 v1 v2 v3 : Value} {t : TypeId} (h : Row w b #[u0, u1, u2, u3] t) : Row ((((w.setCell ⟨b, 0, none⟩ v0).setCell ⟨b, 1, none⟩ v1).setCell ⟨b, 2, none⟩ v2).setCell ⟨b, 3, none⟩ v3) b #[v0, v1, v2, v3] t :=
 (((h.putv 0 v0).putv 1 v1).putv 2 v2).putv 3 v3
theorem row_put1v {w : World} {b : Nat} {u0 v0 : Value} {t : TypeId} (h : Row w b #[u0] t) : Row (w.setCell ⟨b, 0, none⟩ v0) b #[v0] t := h.putv 0 v0
def RecEnd (bV bC : Nat) (k N Q c : Int) (s : ByteArray) (w w' : World) : Prop := Row w' bV (vaC k N Q s) 23 ∧ Row w' bC #[.int .i64 c] 3 ∧ But bV bC w w'
theorem recEnd_mk {bV bC : Nat} {k N Q c : Int} {s : ByteArray} {w w6 : World} {u0 u1 u2 u3 u4 : Value} (V6 : Row w6 bV #[u0, u1, u2, u3] 23) (D6 : Row w6 bC #[u4] 3) (h1 : ¬ bC = bV) (h2 : ¬ bV = bC) (hB : Below w.heap.size w w6) : RecEnd bV bC k N Q c s w (((((w6.setCell ⟨bV, 0, none⟩ (.int .i64 k)).setCell ⟨bV, 1, none⟩ (.int .i64 N)).setCell ⟨bV, 2, none⟩ (.int .i64 Q)).setCell ⟨bV, 3, none⟩ (.string s)).setCell ⟨bC, 0, none⟩ (.int .i64 c)) :=
 ⟨(row_put4 V6).set h1, row_put1v ((((D6.set h2).set h2).set h2).set h2), by
   exact But.setC (But.setV (But.setV (But.setV (But.setV (But.of hB) 0 _) 1 _) 2 _) 3 _) 0 _⟩
set_option maxRecDepth 100000 in
set_option maxHeartbeats 8000000 in
theorem rec1_x {bA bB bT bL bO bV bC opf : Nat} {ka na qa kb nb qb k p q n L za zb Z N Q c : Int} {ua ub U : Nat} {sa sb pic s : ByteArray} {vy : Bool} {w : World} {F : World → Array Value → Prop}
   (RA : Row w bA (vaC ka na qa sa) 23) (RB : Row w bB (vaC kb nb qb sb) 23) (RT : Row w bT #[.int .i64 k, .int .i64 p, .int .i64 q, .int .i64 n, .bool vy, .string pic] 25) (RL : Row w bL #[.int .i64 L] 3) (RO : Row w bO #[fnv opf] 55) (RV : Row w bV (vaC 0 0 0 ⟨#[]⟩) 23) (RC : Row w bC #[.int .i64 0] 3)
   (hcf : ∀ (args : Array Value) (W : World), (callFunc opf args).run Tryz.prog W = .ok (.enter opf args) W)
   (hne : bV ≠ bC) (hVT : bV ≠ bT) (hVL : bV ≠ bL) (hVO : bV ≠ bO) (hCT : bC ≠ bT) (hCL : bC ≠ bL) (hCO : bC ≠ bO)
   (hDR : ∀ t ∈ [Va.mk ka na qa sa, Va.mk kb nb qb sb], ∀ W : World, Calls Tryz.prog 46 #[t.v] W (YesD W))
   (hDV : ∀ W, Calls Tryz.prog 56 #[.agg #[.int .i64 k, .int .i64 p, .int .i64 q, .int .i64 n, .bool vy, .string pic]] W fun e w' => e = .returned (.tuple #[]) ∧ Below W.heap.size W w')
   (hXA : ∀ W, Calls Tryz.prog 22 #[vaV ka na qa sa] W fun e w' => ∃ y, e = .returned y ∧ XArg W.heap.size w' y za ua ∧ Below W.heap.size W w')
   (hXB : ∀ W, Calls Tryz.prog 22 #[vaV kb nb qb sb] W fun e w' => ∃ y, e = .returned y ∧ XArg W.heap.size w' y zb ub ∧ Below W.heap.size W w')
   (hFL : ∀ {w w' : World} {cap : Array Value}, F w cap → Below w.heap.size w w' → F w' cap)
   (hFT : ∀ W, Calls Tryz.prog 57 #[.agg #[.int .i64 k, .int .i64 p, .int .i64 q, .int .i64 n, .bool vy, .string pic], .int .i64 0, .int .i64 L] W fun e w' => ∃ cap, e = .returned (.func (.func 109) #[] cap) ∧ F w' cap ∧ Below W.heap.size W w')
   (hOP : ∀ W vx vy, XArg 0 W vx za ua → XArg 0 W vy zb ub → Calls Tryz.prog opf #[vx, vy] W fun e w' => ∃ y, e = .returned y ∧ XArg 0 w' y Z U ∧ Below W.heap.size W w')
   (hFX : ∀ W cap vx, F W cap → XArg 0 W vx Z U → Calls Tryz.prog 109 (#[vx] ++ cap) W fun e w' => e = .returned (.tuple #[vaV k N Q s, .int .i64 c]) ∧ Below W.heap.size W w') :
   Calls Tryz.prog 55 #[ptD bA, ptD bB, ptD bT, ptD bL, ptD bO, ptD bV, ptD bC] w fun e w' => e = .returned (.tuple #[]) ∧ RecEnd bV bC k N Q c s w w' := by
 have hcg : ∀ (args : Array Value) (W : World), (callFunc 109 args).run Tryz.prog W = .ok (.enter 109 args) W := fun _ _ => by kernel_rfl
 have HDV := Lib.hid hDV; have HXA := Lib.hid hXA; have HXB := Lib.hid hXB; have HFT := Lib.hid hFT; have HOP := Lib.hid hOP; have HFX := Lib.hid hFX; have HDR := Lib.hid hDR
 have HFL : Hid (∀ (w w' : World) (cap : Array Value), F w cap → Below w.heap.size w w' → F w' cap) := Lib.hid fun _ _ _ h hb => hFL h hb
 clear hDV hXA hXB hFT hOP hFX hDR hFL
 obtain ⟨a0, a1, a2, a3⟩ := RA.four
 obtain ⟨b0, b1, b2, b3⟩ := RB.four
 have lA := RA.lt; have lB := RB.lt; have lT := RT.lt; have lL := RL.lt; have lO := RO.lt; have lV := RV.lt; have lC := RC.lt
 have RN := Row.new w #[.int .i64 ka, .int .i64 na, .int .i64 qa, .string sa, .int .i64 kb, .int .i64 nb, .int .i64 qb, .string sb] 23
 go_enter Tryz.func55, Tryz.ntmps55
 go_wp2_with (first
   | (go_at_call 21; refine (demRight_yes [⟨ka, na, qa, sa⟩, ⟨kb, nb, qb, sb⟩] _ 0 _ _ (VasAt.two RN) (by simp) RN.lt HDR.out).mono ?_; rintro e w1 ⟨rfl, hb1⟩; have HB1 := Lib.hid (bl_box (Below.refl _ w) hb1); clear hb1; obtain ⟨t0, t1, t2, t3, t4, t5⟩ := row_six (RT.keep HB1.out))
   | (go_at_call 56; (with_reducible refine (HDV.out _).mono ?_); rintro e W ⟨rfl, hb2⟩; have HB2 := Lib.hid (bl_then HB1.out hb2); clear hb2))
 have RA := RA.keep HB2.out
 have RB := RB.keep HB2.out
 have RT := RT.keep HB2.out
 have RL := RL.keep HB2.out
 have RO := RO.keep HB2.out
 have RV := RV.keep HB2.out
 have RC := RC.keep HB2.out
 have hsW := HB2.out.size
 clear a0 a1 a2 a3 b0 b1 b2 b3 t0 t1 t2 t3 t4 t5 RN
 obtain ⟨a0, a1, a2, a3⟩ := RA.four
 obtain ⟨b0, b1, b2, b3⟩ := RB.four
 have KS : Hid (∀ w', Below W.heap.size W w' → Below W.heap.size W w' ∧ (w'.cell? ⟨bA, 0, none⟩ = some (.int .i64 ka) ∧ w'.cell? ⟨bA, 1, none⟩ = some (.int .i64 na) ∧ w'.cell? ⟨bA, 2, none⟩ = some (.int .i64 qa) ∧ w'.cell? ⟨bA, 3, none⟩ = some (.string sa)) ∧ (w'.cell? ⟨bB, 0, none⟩ = some (.int .i64 kb) ∧ w'.cell? ⟨bB, 1, none⟩ = some (.int .i64 nb) ∧ w'.cell? ⟨bB, 2, none⟩ = some (.int .i64 qb) ∧ w'.cell? ⟨bB, 3, none⟩ = some (.string sb))) := by
   show ∀ _, _
   exact fun w' h => ⟨h, (RA.keep h).four, (RB.keep h).four⟩
 go_cut [7, 8] (fun s7 s8 wx => TwoX W za zb ua ub s7 s8 wx)
 case first =>
   go_region_held3 (fun w' => Below W.heap.size W w' ∧ (w'.cell? ⟨bA, 0, none⟩ = some (.int .i64 ka) ∧ w'.cell? ⟨bA, 1, none⟩ = some (.int .i64 na) ∧ w'.cell? ⟨bA, 2, none⟩ = some (.int .i64 qa) ∧ w'.cell? ⟨bA, 3, none⟩ = some (.string sa)) ∧ (w'.cell? ⟨bB, 0, none⟩ = some (.int .i64 kb) ∧ w'.cell? ⟨bB, 1, none⟩ = some (.int .i64 nb) ∧ w'.cell? ⟨bB, 2, none⟩ = some (.int .i64 qb) ∧ w'.cell? ⟨bB, 3, none⟩ = some (.string sb)))
     (exact KS.out _ (by (repeat' (with_reducible first | assumption | exact Below.refl _ _ | exact (Below.refl _ _).drew | refine Below.drew ?_ | refine Below.alloc ?_ (by first | omega | (simp; omega) | simp) _ | refine Below.setCell ?_ (by first | omega | (simp; omega) | simp) _))))
     (first
       | (go_at_call 22; first
         | ((with_reducible refine (HXA.out _).mono ?_); rintro e w2 ⟨v2, rfl, X2, hb2⟩; have C2 : Below W.heap.size W w2 := (by refine bl_then ?_ hb2; (repeat' (with_reducible first | assumption | exact Below.refl _ _ | exact (Below.refl _ _).drew | refine Below.drew ?_ | refine Below.alloc ?_ (by first | omega | (simp; omega) | simp) _ | refine Below.setCell ?_ (by first | omega | (simp; omega) | simp) _))); have z2 := C2.size; have X2' := Lib.hid X2; obtain ⟨px, kx, qx, mx, rfl⟩ := X2.open; clear X2; (try have P2 : Row w2 W.heap.size (exC (.slice none 0 0) false (.slice none 0 0)) 43 := (by first | exact Row.keep (Row.new W _ _).drew hb2 | exact Row.keep ((Row.new W _ _).alloc _).drew hb2)); (try have Q2 : Row w2 (W.heap.size + 1) (exC (.slice none 0 0) false (.slice none 0 0)) 43 := Row.keep (Row.new2 W _ _ _).drew hb2))
         | ((with_reducible refine (HXB.out _).mono ?_); rintro e w3 ⟨v3, rfl, X3, hb3⟩; have C3 : Below W.heap.size W w3 := (by refine bl_then ?_ hb3; (repeat' (with_reducible first | assumption | exact Below.refl _ _ | exact (Below.refl _ _).drew | refine Below.drew ?_ | refine Below.alloc ?_ (by first | omega | (simp; omega) | simp) _ | refine Below.setCell ?_ (by first | omega | (simp; omega) | simp) _))); have z3 := C3.size; have X3' := Lib.hid X3; obtain ⟨py, ky, qy, my, rfl⟩ := X3.open; clear X3; (try have P3 : Row w3 W.heap.size (exC (.slice none 0 0) false (.slice none 0 0)) 43 := (by first | exact Row.keep P2 hb3 | exact Row.keep (P2.alloc _) hb3)); (try have Q3 : Row w3 (W.heap.size + 1) (exC (.slice none 0 0) false (.slice none 0 0)) 43 := Row.keep Q2 hb3); (try have U3 : Row w3 w2.heap.size (exC (.slice none 0 0) false (.slice none 0 0)) 43 := (by first | exact Row.keep (Row.new w2 _ _) hb3 | exact Row.keep ((Row.new w2 _ _).alloc _) hb3)); (try have V3 : Row w3 (w2.heap.size + 1) (exC (.slice none 0 0) false (.slice none 0 0)) 43 := Row.keep (Row.new2 w2 _ _ _) hb3); (try obtain ⟨p0, p1, p2⟩ := P3.ex); (try have pf0 := P3.free 0); (try have pf1 := P3.free 1); (try have pf2 := P3.free 2); (try obtain ⟨q0, q1, q2⟩ := Q3.ex); (try have qf0 := Q3.free 0); (try have qf1 := Q3.free 1); (try have qf2 := Q3.free 2); (try obtain ⟨u0, u1, u2⟩ := U3.ex); (try have uf0 := U3.free 0); (try have uf1 := U3.free 1); (try have uf2 := U3.free 2); (try obtain ⟨v0, v1, v2⟩ := V3.ex); (try have vf0 := V3.free 0); (try have vf1 := V3.free 1); (try have vf2 := V3.free 2); have hb3z := hb3.size; have hb2z := hb2.size; (try simp at hb3z); (try simp at hb2z); (try have lp := P3.lt); (try have lq := Q3.lt); (try have lu := U3.lt); (try have lv := V3.lt); (try have lp2 := P2.lt); (try have ne1 : ¬ W.heap.size = w2.heap.size := (by omega)); (try have ne2 : ¬ w2.heap.size = W.heap.size := (by omega)))))
   all_goals
     go_wp2_with fail
     go_meet
     refine twoX_mk (w2 := w2) (w3 := w3) ?_ ?_ X2'.out X3'.out ?_ ?_ ?_ ?_ ?_
     case refine_5 => (repeat' (with_reducible first | assumption | exact Below.refl _ _ | exact (Below.refl _ _).drew | refine Below.drew ?_ | refine Below.alloc ?_ (by first | omega | (simp; omega) | simp) _ | refine Below.setCell ?_ (by first | omega | (simp; omega) | simp) _))
     case refine_3 => (repeat' (with_reducible first | exact Mid.refl _ _ | refine Mid.alloc ?_ _ | refine Mid.setCell ?_ (by first | omega | (simp; done) | (simp; omega) | (left; simp; omega) | (right; simp; omega)) _ | refine Mid.drew ?_ | refine Mid.call ?_ hb3))
     case refine_4 => (repeat' (with_reducible first | exact Mid.refl _ _ | refine Mid.alloc ?_ _ | refine Mid.setCell ?_ (by first | omega | (simp; done) | (simp; omega) | (left; simp; omega) | (right; simp; omega)) _ | refine Mid.drew ?_ | refine Mid.call ?_ hb3))
     case refine_6 => first | omega | (simp; omega) | simp
     case refine_7 => first | omega | (simp; omega) | simp
     all_goals (repeat' (with_reducible first | assumption | exact Row.new _ _ _ | exact row_newc3 _ _ _ _ _ _ _ _ _ | exact Row.new2 _ _ _ _ | refine Row.alloc ?_ _ | refine row_put3 ?_ | refine Row.set ?_ (by simp only [ne_eq]; omega)))
 case rest =>
   obtain ⟨W1, rfl⟩ : ∃ W1 : World, W1 = wc := ⟨_, rfl⟩
   obtain ⟨bX, bY, px, kx, qx, mx, py, ky, qy, my, rfl, rfl, RX, RY, X1, Y1, BB, lX, lY⟩ := hcut
   have RT := RT.keep BB
   have RL := RL.keep BB
   have RO := RO.keep BB
   have RV := RV.keep BB
   have RC := RC.keep BB
   have HB3 := Lib.hid (bl_then HB2.out BB)
   have HX1 := Lib.hid X1
   have HY1 := Lib.hid Y1
   clear RA RB a0 a1 a2 a3 b0 b1 b2 b3 KS BB X1 Y1
   have n1 : ¬ bV = bX := by omega
   have n1' : ¬ bX = bV := by omega
   have n2 : ¬ bV = bY := by omega
   have n2' : ¬ bY = bV := by omega
   have n3 : ¬ bC = bX := by omega
   have n3' : ¬ bX = bC := by omega
   have n4 : ¬ bC = bY := by omega
   have n4' : ¬ bY = bC := by omega
   have n5 : ¬ bT = bV := fun h => hVT h.symm
   have n6 : ¬ bL = bV := fun h => hVL h.symm
   have n7 : ¬ bO = bV := fun h => hVO h.symm
   have n8 : ¬ bT = bC := fun h => hCT h.symm
   have n9 : ¬ bL = bC := fun h => hCL h.symm
   have n10 : ¬ bO = bC := fun h => hCO h.symm
   have n11 : ¬ bC = bV := fun h => hne h.symm
   clear lA lB lT lL lO lV lC hsW lX lY HDR HDV HXA HXB HB1
   obtain ⟨t0, t1, t2, t3, t4, t5⟩ := row_six RT
   have l0 := RL.one
   have o0 := RO.one
   obtain ⟨x0, x1, x2⟩ := RX.ex
   obtain ⟨y0, y1, y2⟩ := RY.ex
   go_wp2_with fail
   go_region_held3 (fun w' => (w'.cell? ⟨bT, 0, none⟩ = some (.int .i64 k) ∧ w'.cell? ⟨bT, 1, none⟩ = some (.int .i64 p) ∧ w'.cell? ⟨bT, 2, none⟩ = some (.int .i64 q) ∧ w'.cell? ⟨bT, 3, none⟩ = some (.int .i64 n) ∧ w'.cell? ⟨bT, 4, none⟩ = some (.bool vy) ∧ w'.cell? ⟨bT, 5, none⟩ = some (.string pic)) ∧ w'.cell? ⟨bL, 0, none⟩ = some (.int .i64 L) ∧ w'.cell? ⟨bO, 0, none⟩ = some (fnv opf) ∧ (w'.cell? ⟨bX, 0, none⟩ = some (.slice px (wrds za.natAbs).length kx) ∧ w'.cell? ⟨bX, 1, none⟩ = some (.bool (decide (za < 0))) ∧ w'.cell? ⟨bX, 2, none⟩ = some (.slice qx (wrds ua).length mx)) ∧ (w'.cell? ⟨bY, 0, none⟩ = some (.slice py (wrds zb.natAbs).length ky) ∧ w'.cell? ⟨bY, 1, none⟩ = some (.bool (decide (zb < 0))) ∧ w'.cell? ⟨bY, 2, none⟩ = some (.slice qy (wrds ub).length my)))
     (first | go_keep | exact ⟨row_six T6, L6.one, O6.one, X6.ex, Y6.ex⟩ | exact ⟨row_six T5, L5.one, O5.one, X5.ex, Y5.ex⟩ | exact ⟨row_six T4, L4.one, O4.one, X4.ex, Y4.ex⟩ | ((try dsimp only); (repeat' apply And.intro) <;> go_keep))
     (first
       | (go_at_call 57; (with_reducible refine (HFT.out _).mono ?_); rintro e w4 ⟨cap, rfl, F4, hb4⟩; have T4 := RT.keep (bl_drew hb4); have L4 := RL.keep (bl_drew hb4); have O4 := RO.keep (bl_drew hb4); have X4 := RX.keep (bl_drew hb4); have Y4 := RY.keep (bl_drew hb4); have V4 := RV.keep (bl_drew hb4); have D4 := RC.keep (bl_drew hb4); have BW4 := Lib.hid (bl_drew hb4); have HF4 := Lib.hid F4; clear F4)
       | ((refine (HOP.out _ _ _ (HX1.out.keep BW4.out (Nat.le_refl _)) (HY1.out.keep BW4.out (Nat.le_refl _))).mono ?_); rintro e w5 ⟨y5, rfl, Z5, hb5⟩; have T5 := T4.keep hb5; have L5 := L4.keep hb5; have O5 := O4.keep hb5; have X5 := X4.keep hb5; have Y5 := Y4.keep hb5; have V5 := V4.keep hb5; have D5 := D4.keep hb5; have BW5 := Lib.hid (bl_then BW4.out hb5); have HF5 := Lib.hid (HFL.out _ _ _ HF4.out hb5); have HZ5 := Lib.hid Z5; obtain ⟨pz, kz, qz, mz, rfl⟩ := Z5.open; clear Z5)
       | ((refine (HFX.out _ _ _ HF5.out HZ5.out).mono ?_); rintro e w6 ⟨rfl, hb6⟩; have T6 := T5.keep hb6; have L6 := L5.keep hb6; have O6 := O5.keep hb6; have X6 := X5.keep hb6; have Y6 := Y5.keep hb6; have V6 := V5.keep hb6; have D6 := D5.keep hb6; have BW6 := Lib.hid (bl_then BW5.out hb6); obtain ⟨v0, v1, v2, v3⟩ := V6.four; have f0 := V6.free 0; have f1 := V6.free 1; have f2 := V6.free 2; have f3 := V6.free 3; have d0 := D6.one; have g0 := D6.free 0))
   all_goals
     have BB6 := bl_then HB3.out BW6.out
     have n11' : ¬ bV = bC := hne
     clear RX RY RT RL RO RV RC T4 T5 T6 L4 L5 L6 O4 O5 O6 X4 X5 X6 Y4 Y5 Y6 V4 V5 D4 D5 HX1 HY1 HOP HFX HFT HFL HF4 HF5 HZ5 BW4 BW5 BW6 hb4 hb5 hb6 v0 v1 v2 v3 f0 f1 f2 f3 d0 g0
     have HEND : RecEnd bV bC k N Q c s w (((((w6.setCell ⟨bV, 0, none⟩ (.int .i64 k)).setCell ⟨bV, 1, none⟩ (.int .i64 N)).setCell ⟨bV, 2, none⟩ (.int .i64 Q)).setCell ⟨bV, 3, none⟩ (.string s)).setCell ⟨bC, 0, none⟩ (.int .i64 c)) := recEnd_mk V6 D6 n11 n11' BB6
     generalize (((((w6.setCell ⟨bV, 0, none⟩ (.int .i64 k)).setCell ⟨bV, 1, none⟩ (.int .i64 N)).setCell ⟨bV, 2, none⟩ (.int .i64 Q)).setCell ⟨bV, 3, none⟩ (.string s)).setCell ⟨bC, 0, none⟩ (.int .i64 c)) = w7 at HEND ⊢
     have HE := Lib.hid HEND
     clear HEND V6 D6
     go_wp2
     go_end0
     exact ⟨rfl, HE.out⟩
end Go.Proofs.YtpdoddhieblooaaGreatDoor
namespace Go.Proofs.YtpdoddhieblooaaGreatDoor
open Go.RowKit

theorem row_n0 (w : World) (cs : Array Value) (t : TypeId) : Row (w.alloc (.cells cs t)) (w.heap.size) cs t := by
 have := Row.new w cs t
 exact this
theorem row_n1 (w : World) (o0 : Obj) (cs : Array Value) (t : TypeId) : Row ((w.alloc o0).alloc (.cells cs t)) (w.heap.size + 1) cs t := by
 have := Row.new (w.alloc o0) cs t
 rw [World.size_alloc] at this
 exact this
theorem row_n2 (w : World) (o0 : Obj) (o1 : Obj) (cs : Array Value) (t : TypeId) : Row (((w.alloc o0).alloc o1).alloc (.cells cs t)) (w.heap.size + 1 + 1) cs t := by
 have := Row.new ((w.alloc o0).alloc o1) cs t
 rw [World.size_alloc, World.size_alloc] at this
 exact this
theorem row_n3 (w : World) (o0 : Obj) (o1 : Obj) (o2 : Obj) (cs : Array Value) (t : TypeId) : Row ((((w.alloc o0).alloc o1).alloc o2).alloc (.cells cs t)) (w.heap.size + 1 + 1 + 1) cs t := by
 have := Row.new (((w.alloc o0).alloc o1).alloc o2) cs t
 rw [World.size_alloc, World.size_alloc, World.size_alloc] at this
 exact this
theorem row_n4 (w : World) (o0 : Obj) (o1 : Obj) (o2 : Obj) (o3 : Obj) (cs : Array Value) (t : TypeId) : Row (((((w.alloc o0).alloc o1).alloc o2).alloc o3).alloc (.cells cs t)) (w.heap.size + 1 + 1 + 1 + 1) cs t := by
 have := Row.new ((((w.alloc o0).alloc o1).alloc o2).alloc o3) cs t
 rw [World.size_alloc, World.size_alloc, World.size_alloc, World.size_alloc] at this
 exact this
theorem row_n5 (w : World) (o0 : Obj) (o1 : Obj) (o2 : Obj) (o3 : Obj) (o4 : Obj) (cs : Array Value) (t : TypeId) : Row ((((((w.alloc o0).alloc o1).alloc o2).alloc o3).alloc o4).alloc (.cells cs t)) (w.heap.size + 1 + 1 + 1 + 1 + 1) cs t := by
 have := Row.new (((((w.alloc o0).alloc o1).alloc o2).alloc o3).alloc o4) cs t
 rw [World.size_alloc, World.size_alloc, World.size_alloc, World.size_alloc, World.size_alloc] at this
 exact this
theorem row_n6 (w : World) (o0 : Obj) (o1 : Obj) (o2 : Obj) (o3 : Obj) (o4 : Obj) (o5 : Obj) (cs : Array Value) (t : TypeId) : Row (((((((w.alloc o0).alloc o1).alloc o2).alloc o3).alloc o4).alloc o5).alloc (.cells cs t)) (w.heap.size + 1 + 1 + 1 + 1 + 1 + 1) cs t := by
 have := Row.new ((((((w.alloc o0).alloc o1).alloc o2).alloc o3).alloc o4).alloc o5) cs t
 rw [World.size_alloc, World.size_alloc, World.size_alloc, World.size_alloc, World.size_alloc, World.size_alloc] at this
 exact this
theorem row_n7 (w : World) (o0 : Obj) (o1 : Obj) (o2 : Obj) (o3 : Obj) (o4 : Obj) (o5 : Obj) (o6 : Obj) (cs : Array Value) (t : TypeId) : Row ((((((((w.alloc o0).alloc o1).alloc o2).alloc o3).alloc o4).alloc o5).alloc o6).alloc (.cells cs t)) (w.heap.size + 1 + 1 + 1 + 1 + 1 + 1 + 1) cs t := by
 have := Row.new (((((((w.alloc o0).alloc o1).alloc o2).alloc o3).alloc o4).alloc o5).alloc o6) cs t
 rw [World.size_alloc, World.size_alloc, World.size_alloc, World.size_alloc, World.size_alloc, World.size_alloc, World.size_alloc] at this
 exact this
theorem rec_guard {opf : Nat} {ka na qa kb nb qb k p q n L za zb Z N Q c : Int} {ua ub U : Nat} {sa sb pic s : ByteArray} {vy : Bool} {w : World} {F : World → Array Value → Prop}
   (hcf : ∀ (args : Array Value) (W : World), (callFunc opf args).run Tryz.prog W = .ok (.enter opf args) W)
   (hDR : ∀ t ∈ [Va.mk ka na qa sa, Va.mk kb nb qb sb], ∀ W : World, Calls Tryz.prog 46 #[t.v] W (YesD W))
   (hDV : ∀ W, Calls Tryz.prog 56 #[.agg #[.int .i64 k, .int .i64 p, .int .i64 q, .int .i64 n, .bool vy, .string pic]] W fun e w' => e = .returned (.tuple #[]) ∧ Below W.heap.size W w')
   (hXA : ∀ W, Calls Tryz.prog 22 #[vaV ka na qa sa] W fun e w' => ∃ y, e = .returned y ∧ XArg W.heap.size w' y za ua ∧ Below W.heap.size W w')
   (hXB : ∀ W, Calls Tryz.prog 22 #[vaV kb nb qb sb] W fun e w' => ∃ y, e = .returned y ∧ XArg W.heap.size w' y zb ub ∧ Below W.heap.size W w')
   (hFL : ∀ {w w' : World} {cap : Array Value}, F w cap → Below w.heap.size w w' → F w' cap)
   (hFT : ∀ W, Calls Tryz.prog 57 #[.agg #[.int .i64 k, .int .i64 p, .int .i64 q, .int .i64 n, .bool vy, .string pic], .int .i64 0, .int .i64 L] W fun e w' => ∃ cap, e = .returned (.func (.func 109) #[] cap) ∧ F w' cap ∧ Below W.heap.size W w')
   (hOP : ∀ W vx vy, XArg 0 W vx za ua → XArg 0 W vy zb ub → Calls Tryz.prog opf #[vx, vy] W fun e w' => ∃ y, e = .returned y ∧ XArg 0 w' y Z U ∧ Below W.heap.size W w')
   (hFX : ∀ W cap vx, F W cap → XArg 0 W vx Z U → Calls Tryz.prog 109 (#[vx] ++ cap) W fun e w' => e = .returned (.tuple #[vaV k N Q s, .int .i64 c]) ∧ Below W.heap.size W w') :
   Calls Tryz.prog 19 #[.func (.func 55) #[] #[ptD (w.heap.size), ptD (w.heap.size + 1), ptD (w.heap.size + 1 + 1), ptD (w.heap.size + 1 + 1 + 1 + 1), ptD (w.heap.size + 1 + 1 + 1), ptD (w.heap.size + 1 + 1 + 1 + 1 + 1), ptD (w.heap.size + 1 + 1 + 1 + 1 + 1 + 1)]] (((((((w.alloc (.cells (vaC ka na qa sa) 23)).alloc (.cells (vaC kb nb qb sb) 23)).alloc (.cells #[.int .i64 k, .int .i64 p, .int .i64 q, .int .i64 n, .bool vy, .string pic] 25)).alloc (.cells #[fnv opf] 55)).alloc (.cells #[.int .i64 L] 3)).alloc (.cells (vaC 0 0 0 ⟨#[]⟩) 23)).alloc (.cells #[.int .i64 0] 3)) fun e w' => e = .returned (.int .i64 0) ∧ Row w' (w.heap.size + 1 + 1 + 1 + 1 + 1) (vaC k N Q s) 23 ∧ Row w' (w.heap.size + 1 + 1 + 1 + 1 + 1 + 1) #[.int .i64 c] 3 ∧ Below w.heap.size w w' := by
 have hcr : ∀ W : World, (callFunc 55 #[ptD (w.heap.size), ptD (w.heap.size + 1), ptD (w.heap.size + 1 + 1), ptD (w.heap.size + 1 + 1 + 1 + 1), ptD (w.heap.size + 1 + 1 + 1), ptD (w.heap.size + 1 + 1 + 1 + 1 + 1), ptD (w.heap.size + 1 + 1 + 1 + 1 + 1 + 1)]).run Tryz.prog W = .ok (.enter 55 #[ptD (w.heap.size), ptD (w.heap.size + 1), ptD (w.heap.size + 1 + 1), ptD (w.heap.size + 1 + 1 + 1 + 1), ptD (w.heap.size + 1 + 1 + 1), ptD (w.heap.size + 1 + 1 + 1 + 1 + 1), ptD (w.heap.size + 1 + 1 + 1 + 1 + 1 + 1)]) W := fun W => enters_of Tryz.func55 (by kernel_rfl) rfl _ W
 have Rw0 : Row ((((((((w.alloc (.cells (vaC ka na qa sa) 23)).alloc (.cells (vaC kb nb qb sb) 23)).alloc (.cells #[.int .i64 k, .int .i64 p, .int .i64 q, .int .i64 n, .bool vy, .string pic] 25)).alloc (.cells #[fnv opf] 55)).alloc (.cells #[.int .i64 L] 3)).alloc (.cells (vaC 0 0 0 ⟨#[]⟩) 23)).alloc (.cells #[.int .i64 0] 3)).alloc (.cells #[.int .i64 0] 28)) (w.heap.size) _ _ := ((((((((row_n0 w  (vaC ka na qa sa) 23).alloc (.cells (vaC kb nb qb sb) 23)).alloc (.cells #[.int .i64 k, .int .i64 p, .int .i64 q, .int .i64 n, .bool vy, .string pic] 25)).alloc (.cells #[fnv opf] 55)).alloc (.cells #[.int .i64 L] 3)).alloc (.cells (vaC 0 0 0 ⟨#[]⟩) 23)).alloc (.cells #[.int .i64 0] 3)).alloc (.cells #[.int .i64 0] 28))
 have Rw1 : Row ((((((((w.alloc (.cells (vaC ka na qa sa) 23)).alloc (.cells (vaC kb nb qb sb) 23)).alloc (.cells #[.int .i64 k, .int .i64 p, .int .i64 q, .int .i64 n, .bool vy, .string pic] 25)).alloc (.cells #[fnv opf] 55)).alloc (.cells #[.int .i64 L] 3)).alloc (.cells (vaC 0 0 0 ⟨#[]⟩) 23)).alloc (.cells #[.int .i64 0] 3)).alloc (.cells #[.int .i64 0] 28)) (w.heap.size + 1) _ _ := (((((((row_n1 w (.cells (vaC ka na qa sa) 23) (vaC kb nb qb sb) 23).alloc (.cells #[.int .i64 k, .int .i64 p, .int .i64 q, .int .i64 n, .bool vy, .string pic] 25)).alloc (.cells #[fnv opf] 55)).alloc (.cells #[.int .i64 L] 3)).alloc (.cells (vaC 0 0 0 ⟨#[]⟩) 23)).alloc (.cells #[.int .i64 0] 3)).alloc (.cells #[.int .i64 0] 28))
 have Rw2 : Row ((((((((w.alloc (.cells (vaC ka na qa sa) 23)).alloc (.cells (vaC kb nb qb sb) 23)).alloc (.cells #[.int .i64 k, .int .i64 p, .int .i64 q, .int .i64 n, .bool vy, .string pic] 25)).alloc (.cells #[fnv opf] 55)).alloc (.cells #[.int .i64 L] 3)).alloc (.cells (vaC 0 0 0 ⟨#[]⟩) 23)).alloc (.cells #[.int .i64 0] 3)).alloc (.cells #[.int .i64 0] 28)) (w.heap.size + 1 + 1) _ _ := ((((((row_n2 w (.cells (vaC ka na qa sa) 23) (.cells (vaC kb nb qb sb) 23) #[.int .i64 k, .int .i64 p, .int .i64 q, .int .i64 n, .bool vy, .string pic] 25).alloc (.cells #[fnv opf] 55)).alloc (.cells #[.int .i64 L] 3)).alloc (.cells (vaC 0 0 0 ⟨#[]⟩) 23)).alloc (.cells #[.int .i64 0] 3)).alloc (.cells #[.int .i64 0] 28))
 have Rw3 : Row ((((((((w.alloc (.cells (vaC ka na qa sa) 23)).alloc (.cells (vaC kb nb qb sb) 23)).alloc (.cells #[.int .i64 k, .int .i64 p, .int .i64 q, .int .i64 n, .bool vy, .string pic] 25)).alloc (.cells #[fnv opf] 55)).alloc (.cells #[.int .i64 L] 3)).alloc (.cells (vaC 0 0 0 ⟨#[]⟩) 23)).alloc (.cells #[.int .i64 0] 3)).alloc (.cells #[.int .i64 0] 28)) (w.heap.size + 1 + 1 + 1) _ _ := (((((row_n3 w (.cells (vaC ka na qa sa) 23) (.cells (vaC kb nb qb sb) 23) (.cells #[.int .i64 k, .int .i64 p, .int .i64 q, .int .i64 n, .bool vy, .string pic] 25) #[fnv opf] 55).alloc (.cells #[.int .i64 L] 3)).alloc (.cells (vaC 0 0 0 ⟨#[]⟩) 23)).alloc (.cells #[.int .i64 0] 3)).alloc (.cells #[.int .i64 0] 28))
 have Rw4 : Row ((((((((w.alloc (.cells (vaC ka na qa sa) 23)).alloc (.cells (vaC kb nb qb sb) 23)).alloc (.cells #[.int .i64 k, .int .i64 p, .int .i64 q, .int .i64 n, .bool vy, .string pic] 25)).alloc (.cells #[fnv opf] 55)).alloc (.cells #[.int .i64 L] 3)).alloc (.cells (vaC 0 0 0 ⟨#[]⟩) 23)).alloc (.cells #[.int .i64 0] 3)).alloc (.cells #[.int .i64 0] 28)) (w.heap.size + 1 + 1 + 1 + 1) _ _ := ((((row_n4 w (.cells (vaC ka na qa sa) 23) (.cells (vaC kb nb qb sb) 23) (.cells #[.int .i64 k, .int .i64 p, .int .i64 q, .int .i64 n, .bool vy, .string pic] 25) (.cells #[fnv opf] 55) #[.int .i64 L] 3).alloc (.cells (vaC 0 0 0 ⟨#[]⟩) 23)).alloc (.cells #[.int .i64 0] 3)).alloc (.cells #[.int .i64 0] 28))
 have Rw5 : Row ((((((((w.alloc (.cells (vaC ka na qa sa) 23)).alloc (.cells (vaC kb nb qb sb) 23)).alloc (.cells #[.int .i64 k, .int .i64 p, .int .i64 q, .int .i64 n, .bool vy, .string pic] 25)).alloc (.cells #[fnv opf] 55)).alloc (.cells #[.int .i64 L] 3)).alloc (.cells (vaC 0 0 0 ⟨#[]⟩) 23)).alloc (.cells #[.int .i64 0] 3)).alloc (.cells #[.int .i64 0] 28)) (w.heap.size + 1 + 1 + 1 + 1 + 1) _ _ := (((row_n5 w (.cells (vaC ka na qa sa) 23) (.cells (vaC kb nb qb sb) 23) (.cells #[.int .i64 k, .int .i64 p, .int .i64 q, .int .i64 n, .bool vy, .string pic] 25) (.cells #[fnv opf] 55) (.cells #[.int .i64 L] 3) (vaC 0 0 0 ⟨#[]⟩) 23).alloc (.cells #[.int .i64 0] 3)).alloc (.cells #[.int .i64 0] 28))
 have Rw6 : Row ((((((((w.alloc (.cells (vaC ka na qa sa) 23)).alloc (.cells (vaC kb nb qb sb) 23)).alloc (.cells #[.int .i64 k, .int .i64 p, .int .i64 q, .int .i64 n, .bool vy, .string pic] 25)).alloc (.cells #[fnv opf] 55)).alloc (.cells #[.int .i64 L] 3)).alloc (.cells (vaC 0 0 0 ⟨#[]⟩) 23)).alloc (.cells #[.int .i64 0] 3)).alloc (.cells #[.int .i64 0] 28)) (w.heap.size + 1 + 1 + 1 + 1 + 1 + 1) _ _ := ((row_n6 w (.cells (vaC ka na qa sa) 23) (.cells (vaC kb nb qb sb) 23) (.cells #[.int .i64 k, .int .i64 p, .int .i64 q, .int .i64 n, .bool vy, .string pic] 25) (.cells #[fnv opf] 55) (.cells #[.int .i64 L] 3) (.cells (vaC 0 0 0 ⟨#[]⟩) 23) #[.int .i64 0] 3).alloc (.cells #[.int .i64 0] 28))
 have Rw7 : Row ((((((((w.alloc (.cells (vaC ka na qa sa) 23)).alloc (.cells (vaC kb nb qb sb) 23)).alloc (.cells #[.int .i64 k, .int .i64 p, .int .i64 q, .int .i64 n, .bool vy, .string pic] 25)).alloc (.cells #[fnv opf] 55)).alloc (.cells #[.int .i64 L] 3)).alloc (.cells (vaC 0 0 0 ⟨#[]⟩) 23)).alloc (.cells #[.int .i64 0] 3)).alloc (.cells #[.int .i64 0] 28)) (w.heap.size + 1 + 1 + 1 + 1 + 1 + 1 + 1) _ _ := (row_n7 w (.cells (vaC ka na qa sa) 23) (.cells (vaC kb nb qb sb) 23) (.cells #[.int .i64 k, .int .i64 p, .int .i64 q, .int .i64 n, .bool vy, .string pic] 25) (.cells #[fnv opf] 55) (.cells #[.int .i64 L] 3) (.cells (vaC 0 0 0 ⟨#[]⟩) 23) (.cells #[.int .i64 0] 3) #[.int .i64 0] 28)
 have hs : (((((((w.alloc (.cells (vaC ka na qa sa) 23)).alloc (.cells (vaC kb nb qb sb) 23)).alloc (.cells #[.int .i64 k, .int .i64 p, .int .i64 q, .int .i64 n, .bool vy, .string pic] 25)).alloc (.cells #[fnv opf] 55)).alloc (.cells #[.int .i64 L] 3)).alloc (.cells (vaC 0 0 0 ⟨#[]⟩) 23)).alloc (.cells #[.int .i64 0] 3)).heap.size = w.heap.size + 1 + 1 + 1 + 1 + 1 + 1 + 1 := by simp
 have hB : Below w.heap.size w ((((((((w.alloc (.cells (vaC ka na qa sa) 23)).alloc (.cells (vaC kb nb qb sb) 23)).alloc (.cells #[.int .i64 k, .int .i64 p, .int .i64 q, .int .i64 n, .bool vy, .string pic] 25)).alloc (.cells #[fnv opf] 55)).alloc (.cells #[.int .i64 L] 3)).alloc (.cells (vaC 0 0 0 ⟨#[]⟩) 23)).alloc (.cells #[.int .i64 0] 3)).alloc (.cells #[.int .i64 0] 28)) := by go_grown
 have hs8 : ((((((((w.alloc (.cells (vaC ka na qa sa) 23)).alloc (.cells (vaC kb nb qb sb) 23)).alloc (.cells #[.int .i64 k, .int .i64 p, .int .i64 q, .int .i64 n, .bool vy, .string pic] 25)).alloc (.cells #[fnv opf] 55)).alloc (.cells #[.int .i64 L] 3)).alloc (.cells (vaC 0 0 0 ⟨#[]⟩) 23)).alloc (.cells #[.int .i64 0] 3)).alloc (.cells #[.int .i64 0] 28)).heap.size = w.heap.size + 1 + 1 + 1 + 1 + 1 + 1 + 1 + 1 := by simp
 refine (guard_ok (R := fun w' => Row w' (w.heap.size + 1 + 1 + 1 + 1 + 1) (vaC k N Q s) 23 ∧ Row w' (w.heap.size + 1 + 1 + 1 + 1 + 1 + 1) #[.int .i64 c] 3 ∧ Below w.heap.size w w') _ _ _ hcr ?_).mono ?_
 · refine (rec1_x (F := F) Rw0 Rw1 Rw2 Rw4 Rw3 Rw5 Rw6 hcf (by omega) (by omega) (by omega) (by omega) (by omega) (by omega) (by omega) hDR hDV hXA hXB @hFL hFT hOP hFX).mono ?_
   rintro e w' ⟨rfl, h5, h6, hbut⟩
   have hg := hbut.row Rw7 (by omega) (by omega)
   refine ⟨rfl, ?_, ?_, h5, h6, hbut.below hB (by omega) (by omega) (by omega)⟩
   · rw [hs]; exact hg.one
   · rw [hs]; exact hg.free 0
 · rintro e w' ⟨rfl, w1, ⟨h5, h6, hb⟩, rfl⟩
   refine ⟨rfl, h5.set (by rw [hs]; simp <;> omega), h6.set (by rw [hs]; simp <;> omega), hb.setCell (by rw [hs]; simp <;> omega) _⟩
set_option maxRecDepth 100000 in
set_option maxHeartbeats 4000000 in
theorem rec_x {opf : Nat} {ka na qa kb nb qb k p q n L za zb Z N Q c : Int} {ua ub U : Nat} {sa sb pic s : ByteArray} {vy : Bool} {w : World} {F : World → Array Value → Prop}
   (hcf : ∀ (args : Array Value) (W : World), (callFunc opf args).run Tryz.prog W = .ok (.enter opf args) W)
   (hDR : ∀ t ∈ [Va.mk ka na qa sa, Va.mk kb nb qb sb], ∀ W : World, Calls Tryz.prog 46 #[t.v] W (YesD W))
   (hDV : ∀ W, Calls Tryz.prog 56 #[.agg #[.int .i64 k, .int .i64 p, .int .i64 q, .int .i64 n, .bool vy, .string pic]] W fun e w' => e = .returned (.tuple #[]) ∧ Below W.heap.size W w')
   (hXA : ∀ W, Calls Tryz.prog 22 #[vaV ka na qa sa] W fun e w' => ∃ y, e = .returned y ∧ XArg W.heap.size w' y za ua ∧ Below W.heap.size W w')
   (hXB : ∀ W, Calls Tryz.prog 22 #[vaV kb nb qb sb] W fun e w' => ∃ y, e = .returned y ∧ XArg W.heap.size w' y zb ub ∧ Below W.heap.size W w')
   (hFL : ∀ {w w' : World} {cap : Array Value}, F w cap → Below w.heap.size w w' → F w' cap)
   (hFT : ∀ W, Calls Tryz.prog 57 #[.agg #[.int .i64 k, .int .i64 p, .int .i64 q, .int .i64 n, .bool vy, .string pic], .int .i64 0, .int .i64 L] W fun e w' => ∃ cap, e = .returned (.func (.func 109) #[] cap) ∧ F w' cap ∧ Below W.heap.size W w')
   (hOP : ∀ W vx vy, XArg 0 W vx za ua → XArg 0 W vy zb ub → Calls Tryz.prog opf #[vx, vy] W fun e w' => ∃ y, e = .returned y ∧ XArg 0 w' y Z U ∧ Below W.heap.size W w')
   (hFX : ∀ W cap vx, F W cap → XArg 0 W vx Z U → Calls Tryz.prog 109 (#[vx] ++ cap) W fun e w' => e = .returned (.tuple #[vaV k N Q s, .int .i64 c]) ∧ Below W.heap.size W w') :
   Calls Tryz.prog 28 #[vaV ka na qa sa, vaV kb nb qb sb, .agg #[.int .i64 k, .int .i64 p, .int .i64 q, .int .i64 n, .bool vy, .string pic], fnv opf, .int .i64 L] w fun e w' => e = .returned (.tuple #[vaV k N Q s, .int .i64 c, .int .i64 0]) ∧ Below w.heap.size w w' := by
 have hmf : ∀ (fn : Fn) (first cap : Array Value) (w : World), (Instr.makeFunc fn first cap).run Tryz.prog w = .ok (.func fn first cap) w := fun _ _ _ _ => rfl
 have HG := Lib.hid (rec_guard (w := w) (F := F) hcf hDR hDV hXA hXB @hFL hFT hOP hFX)
 clear hcf hDR hDV hXA hXB hFL hFT hOP hFX
 go_enter Tryz.func28, Tryz.ntmps28
 go_wp2_with (go_at_call 19; refine HG.out.mono ?_; rintro e w1 ⟨rfl, h5, h6, hb⟩; have HB := Lib.hid hb; clear hb; obtain ⟨v0, v1, v2, v3⟩ := h5.four; have f0 := h5.free 0; have f1 := h5.free 1; have f2 := h5.free 2; have f3 := h5.free 3; have c0 := h6.one; have g0 := h6.free 0)
 have hV : w.heap.size ≤ w.heap.size + 1 + 1 + 1 + 1 + 1 := by omega
 have HN : w1.heap.size = w1.heap.size := rfl
 clear HG HN
 generalize w.heap.size + 1 + 1 + 1 + 1 + 1 = bV at *
 have n1 : ¬ bV + 1 = bV := by omega
 have n2 : ¬ bV = bV + 1 := by omega
 go_region
 have HE := recEnd_mk (c := c) (k := k) (N := N) (Q := Q) (s := s) h5 h6 n1 n2 (Below.refl _ w1)
 have HW : Below w.heap.size w (((((w1.setCell ⟨bV, 0, none⟩ (.int .i64 k)).setCell ⟨bV, 1, none⟩ (.int .i64 N)).setCell ⟨bV, 2, none⟩ (.int .i64 Q)).setCell ⟨bV, 3, none⟩ (.string s)).setCell ⟨bV + 1, 0, none⟩ (.int .i64 c)).drew := (HE.2.2.below HB.out hV (Nat.le_succ_of_le hV) HB.out.size).drew
 have HE1 : Row (((((w1.setCell ⟨bV, 0, none⟩ (.int .i64 k)).setCell ⟨bV, 1, none⟩ (.int .i64 N)).setCell ⟨bV, 2, none⟩ (.int .i64 Q)).setCell ⟨bV, 3, none⟩ (.string s)).setCell ⟨bV + 1, 0, none⟩ (.int .i64 c)).drew bV (vaC k N Q s) 23 := HE.1.drewN 1
 have HE2 : Row (((((w1.setCell ⟨bV, 0, none⟩ (.int .i64 k)).setCell ⟨bV, 1, none⟩ (.int .i64 N)).setCell ⟨bV, 2, none⟩ (.int .i64 Q)).setCell ⟨bV, 3, none⟩ (.string s)).setCell ⟨bV + 1, 0, none⟩ (.int .i64 c)).drew (bV + 1) #[.int .i64 c] 3 := HE.2.1.drewN 1
 clear HE HB h5 h6 v0 v1 v2 v3 f0 f1 f2 f3 c0 g0
 generalize (((((w1.setCell ⟨bV, 0, none⟩ (.int .i64 k)).setCell ⟨bV, 1, none⟩ (.int .i64 N)).setCell ⟨bV, 2, none⟩ (.int .i64 Q)).setCell ⟨bV, 3, none⟩ (.string s)).setCell ⟨bV + 1, 0, none⟩ (.int .i64 c)).drew = w7 at HW HE1 HE2 ⊢
 have HW := Lib.hid HW
 obtain ⟨z0, z1, z2, z3⟩ := HE1.four
 have z4 := HE2.one
 clear HE1 HE2
 go_wp2
 refine bodyPost_ret (v := .tuple #[vaV k N Q s, .int .i64 c, .int .i64 0]) (by simp [results, Tryz.results28, go_sem, z0, z1, z2, z3, z4]) rfl ⟨rfl, HW.out⟩
end Go.Proofs.YtpdoddhieblooaaGreatDoor
namespace Go.Proofs.YtpdoddhieblooaaGreatDoor
open Go.RowKit

def ovN (a b : Int) (t : Nat) : Int := if b < 0 then -(a * t) else a * t
theorem ovN_abs (a b : Int) (t : Nat) : (ovN a b t).natAbs = a.natAbs * t := by
 unfold ovN
 split
 · rw [Int.natAbs_neg, Int.natAbs_mul, Int.natAbs_natCast]
 · rw [Int.natAbs_mul, Int.natAbs_natCast]
theorem ovN_neg (a b : Int) (t : Nat) (h : ovN a b t ≠ 0) : (decide (a < 0) != decide (b < 0)) = decide (ovN a b t < 0) := by
 have ha : a ≠ 0 := by rintro rfl; apply h; unfold ovN; split <;> simp
 have ht : t ≠ 0 := by rintro rfl; apply h; unfold ovN; split <;> simp
 have hp : 0 < (t : Int) := by omega
 have hs : a * t < 0 ↔ a < 0 := by
   constructor
   · intro h1
     rcases Int.lt_or_lt_of_ne ha with h2 | h2
     · exact h2
     · have := Int.mul_pos h2 hp; omega
   · intro h1; exact Int.mul_neg_of_neg_of_pos h1 hp
 have hz : a * t ≠ 0 := Int.mul_ne_zero ha (by omega)
 unfold ovN
 by_cases hb : b < 0
 · rw [if_pos hb, decide_eq_true hb]
   by_cases h2 : a < 0
   · have h3 := hs.2 h2
     rw [decide_eq_true h2, decide_eq_false (by omega)]; rfl
   · have h3 : ¬ a * t < 0 := fun x => h2 (hs.1 x)
     rw [decide_eq_false h2, decide_eq_true (by omega)]; rfl
 · rw [if_neg hb, decide_eq_false hb]
   by_cases h2 : a < 0
   · rw [decide_eq_true h2, decide_eq_true (hs.2 h2)]; rfl
   · rw [decide_eq_false h2, decide_eq_false (fun x => h2 (hs.1 x))]; rfl
set_option maxRecDepth 100000 in
set_option maxHeartbeats 8000000 in
theorem over_x {P : Nat → Prop} {a b : Int} {u t : Nat} {va vb : Value} {w : World} (hX : XArgP P w va a u) (hY : XArgP P w vb b t) (hP : ∀ c, w.heap.size ≤ c → P c) (la : (wrds a.natAbs).length ≤ 4000) (lb : (wrds b.natAbs).length ≤ 4000) (lu : (wrds u).length ≤ 4000) (lt : (wrds t).length ≤ 4000) :
   Calls Tryz.prog 32 #[va, vb] w fun e w' => ∃ y, e = .returned y ∧ XArgP P w' y (ovN a b t) (u * b.natAbs) ∧ Below w.heap.size w w' := by
 obtain ⟨pa, ka, qa, ma, rfl⟩ := hX.x.open
 obtain ⟨pb, kb, qb, mb, rfl⟩ := hY.x.open
 have HX := Lib.hid hX.x
 have HY := Lib.hid hY.x
 have HPP := Lib.hid hP
 clear hX hY hP
 have hng := ovN_neg a b t
 have hab := ovN_abs a b t
 have k1 := wrds_mul_len a.natAbs t
 have k2 := wrds_mul_len u b.natAbs
 obtain ⟨Z, hZ⟩ : ∃ Z : Int, ovN a b t = Z := ⟨_, rfl⟩
 obtain ⟨U, hU⟩ : ∃ U : Nat, u * b.natAbs = U := ⟨_, rfl⟩
 rw [hZ] at hng hab ⊢
 obtain ⟨da, hda⟩ : ∃ d, decide (a < 0) = d := ⟨_, rfl⟩
 obtain ⟨db, hdb⟩ : ∃ d, decide (b < 0) = d := ⟨_, rfl⟩
 rw [hda] at HX hng ⊢
 rw [hdb] at HY hng ⊢
 obtain ⟨dx, hdx⟩ : ∃ d, (da != db) = d := ⟨_, rfl⟩
 rw [hdx] at hng
 have HPA : Hid (∀ (W : World), Below w.heap.size w W → Calls Tryz.prog 61 #[.slice pa (wrds a.natAbs).length ka, .slice qb (wrds t).length mb] W (GivesW W Z.natAbs)) := Lib.hid fun W hW => by
   rw [hab]; exact product_d (HX.out.args.1.keep hW (Nat.le_refl _)) (HY.out.args.2.1.keep hW (Nat.le_refl _)) (by omega) (by omega)
 have HPU : Hid (∀ (W : World), Below w.heap.size w W → Calls Tryz.prog 61 #[.slice qa (wrds u).length ma, .slice pb (wrds b.natAbs).length kb] W (GivesW W U)) := Lib.hid fun W hW => by
   rw [← hU]; exact product_d (HX.out.args.2.1.keep hW (Nat.le_refl _)) (HY.out.args.1.keep hW (Nat.le_refl _)) (by omega) (by omega)
 have HSG : Hid (∀ (B : Nat) (v : Value) (W : World), WArg B W v Z.natAbs → Calls Tryz.prog 62 #[v, .bool dx] W fun e w' => ∃ s, e = .returned s ∧ LArg B w' s Z ∧ Below W.heap.size W w') := Lib.hid fun B v W h => signed_z h (by rw [hab]; omega) hng
 rw [hU]
 have hqn : ∀ W, (binOp .neq 4 (.bool da) (.bool db)).run Tryz.prog W = .ok (.bool dx) W := fun W => by
   rw [← hdx]; cases da <;> cases db <;> kernel_rfl
 clear hda hdb hZ hU hng hab k1 k2 HX HY hdx
 have RA := ((Row.new w (exC (.slice pa (wrds a.natAbs).length ka) da (.slice qa (wrds u).length ma)) 43).alloc (.cells (exC (.slice pb (wrds b.natAbs).length kb) db (.slice qb (wrds t).length mb)) 43)).alloc (.cells (exC (.slice none 0 0) false (.slice none 0 0)) 43)
 have RC := (Row.new2 w (.cells (exC (.slice pa (wrds a.natAbs).length ka) da (.slice qa (wrds u).length ma)) 43) (exC (.slice pb (wrds b.natAbs).length kb) db (.slice qb (wrds t).length mb)) 43).alloc (.cells (exC (.slice none 0 0) false (.slice none 0 0)) 43)
 have RZ := Row.new3 w (.cells (exC (.slice pa (wrds a.natAbs).length ka) da (.slice qa (wrds u).length ma)) 43) (.cells (exC (.slice pb (wrds b.natAbs).length kb) db (.slice qb (wrds t).length mb)) 43) (exC (.slice none 0 0) false (.slice none 0 0)) 43
 go_enter Tryz.func32, Tryz.ntmps32
 go_wp2_with fail
 generalize hw : ((w.alloc (.cells (exC (.slice pa (wrds a.natAbs).length ka) da (.slice qa (wrds u).length ma)) 43)).alloc (.cells (exC (.slice pb (wrds b.natAbs).length kb) db (.slice qb (wrds t).length mb)) 43)).alloc (.cells (exC (.slice none 0 0) false (.slice none 0 0)) 43) = W at *
 have B0 : Hid (Below w.heap.size w W) := by show Below _ _ _; rw [← hw]; go_grown
 have hsz : w.heap.size + 1 + 1 + 1 ≤ W.heap.size := by rw [← hw]; simp
 clear hw
 have n1 : ¬ w.heap.size + 1 + 1 = w.heap.size := by omega
 have n2 : ¬ w.heap.size = w.heap.size + 1 + 1 := by omega
 have n3 : ¬ w.heap.size + 1 + 1 = w.heap.size + 1 := by omega
 have n4 : ¬ w.heap.size + 1 = w.heap.size + 1 + 1 := by omega
 obtain ⟨x0, x1, x2⟩ := RA.ex
 obtain ⟨y0, y1, y2⟩ := RC.ex
 go_wp2_with (go_at_call 61; (with_reducible refine (HPA.out _ B0.out).mono ?_); rintro e w1 ⟨v1, rfl, W1, hb1⟩; have RA := RA.keep hb1; have RC := RC.keep hb1; have RZ := RZ.keep hb1; have W1 := W1.base hsz; have B0 := Lib.hid (bl_then B0.out hb1); have hsz := Nat.le_trans hsz hb1.size; obtain ⟨x0, x1, x2⟩ := RA.ex; obtain ⟨y0, y1, y2⟩ := RC.ex; have W1' := Lib.hid W1; obtain ⟨p1, k1, rfl⟩ := W1.slice; clear hb1 W1)
 go_region_held3 (fun w' => (w'.cell? ⟨w.heap.size, 0, none⟩ = some (.slice pa (wrds a.natAbs).length ka) ∧ w'.cell? ⟨w.heap.size, 1, none⟩ = some (.bool da) ∧ w'.cell? ⟨w.heap.size, 2, none⟩ = some (.slice qa (wrds u).length ma)) ∧ (w'.cell? ⟨w.heap.size + 1, 0, none⟩ = some (.slice pb (wrds b.natAbs).length kb) ∧ w'.cell? ⟨w.heap.size + 1, 1, none⟩ = some (.bool db) ∧ w'.cell? ⟨w.heap.size + 1, 2, none⟩ = some (.slice qb (wrds t).length mb)))
   (first | go_keep | exact ⟨A3.ex, C3.ex⟩ | exact ⟨A2.ex, C2.ex⟩ | ((try dsimp only); (repeat' apply And.intro) <;> go_keep))
   (first
     | (go_at_call 62; (with_reducible refine (HSG.out _ _ _ (W1'.out.keep ((Below.refl _ _).drew) (Nat.le_refl _))).mono ?_); rintro e w2 ⟨v2, rfl, L2, hb2⟩; have A2 := RA.keep (bl_drew hb2); have C2 := RC.keep (bl_drew hb2); have Z2 := RZ.keep (bl_drew hb2); have BW2 := Lib.hid (bl_then B0.out (bl_drew hb2)); have hs2 := Nat.le_trans hsz (bl_drew hb2).size; have L2' := Lib.hid L2; obtain ⟨p2, k2, rfl⟩ := L2.open; clear L2)
     | (go_at_call 61; (with_reducible refine (HPU.out _ BW2.out).mono ?_); rintro e w3 ⟨v3, rfl, W3, hb3⟩; have A3 := A2.keep hb3; have C3 := C2.keep hb3; have Z3 := Z2.keep hb3; have W3' := Lib.hid (W3.base hs2); obtain ⟨p3, k3, rfl⟩ := W3.slice; clear W3; obtain ⟨z0, z1, z2⟩ := Z3.ex; have f0 := Z3.free 0; have f1 := Z3.free 1; have f2 := Z3.free 2))
 go_wp2
 refine bodyPost_ret (v := exV (.slice p2 (wrds Z.natAbs).length k2) (decide (Z < 0)) (.slice p3 (wrds U).length k3)) (by simp [results, Tryz.results32, go_sem, z0, z1, z2]) rfl ⟨_, rfl, ?_, ?_⟩
 · have h2 := L2'.out.keep hb3 (Nat.le_refl _)
   exact plusx_mk (((h2.put _ _ (by simp)).put _ _ (by simp)).put _ _ (by simp)) (fun c hc => HPP.out c (by omega)) ((((W3'.out.setCell _ (by simp)).setCell _ (by simp)).setCell _ (by simp)).inP fun c hc _ => HPP.out c (by omega))
 · (repeat refine Below.setCell ?_ (by simp <;> omega) _)
   exact bl_then BW2.out hb3
end Go.Proofs.YtpdoddhieblooaaGreatDoor
namespace Go.Proofs.YtpdoddhieblooaaGreatDoor
open Go.RowKit

theorem exactly_from (n : Int) (q : Nat) (s : ByteArray) (W : World) (h1 : -9223372036854775807 ≤ n) (h2 : n ≤ 9223372036854775807) (hq : q ≤ 10000) :
   Calls Tryz.prog 22 #[vaV 2 n (q : Int) s] W fun e w' => ∃ y, e = .returned y ∧ XArg W.heap.size w' y n (10 ^ q) ∧ Below W.heap.size W w' :=
 (exactly_2 (P := fun c => W.heap.size ≤ c) n q s W (fun _ h => h) h1 h2 hq).mono fun _ _ ⟨y, he, hx, hb⟩ => ⟨y, he, hx, hb⟩
def FitCap (k n : Int) (p q : Nat) (vy : Bool) (pic : ByteArray) (S Bd : Nat) (L : Int) (w : World) (cap : Array Value) : Prop :=
 ∃ bt bf c, cap = #[ptD bt, ptD bf] ∧ Row w bf #[.func (.func 151) #[] c] 83 ∧ FixCap w c k n p q vy pic S Bd L
theorem FitCap.later {k n : Int} {p q : Nat} {vy : Bool} {pic : ByteArray} {S Bd : Nat} {L : Int} {w w' : World} {cap : Array Value} (h : FitCap k n p q vy pic S Bd L w cap) (hb : Below w.heap.size w w') : FitCap k n p q vy pic S Bd L w' cap := by
 obtain ⟨bt, bf, c, e, h1, h2⟩ := h
 exact ⟨bt, bf, c, e, h1.keep hb, h2.later hb⟩
theorem fitting_2c (n L : Int) (p q : Nat) (vy : Bool) (pic : ByteArray) (W : World) (hp : p ≤ 10000) (hq : q ≤ 10000) :
   Calls Tryz.prog 57 #[.agg #[.int .i64 2, .int .i64 (p : Int), .int .i64 (q : Int), .int .i64 n, .bool vy, .string pic], .int .i64 0, .int .i64 L] W fun e w' => ∃ cap, e = .returned (.func (.func 109) #[] cap) ∧ FitCap 2 n p q vy pic (10 ^ q) (10 ^ p) L w' cap ∧ Below W.heap.size W w' :=
 (fitting_2 n L p q vy pic W hp hq).mono fun _ _ ⟨bt, bf, c, he, _, h2, h3, hb⟩ => ⟨_, he, ⟨bt, bf, c, rfl, h2, h3⟩, hb⟩
theorem fit_hcf : ∀ (args : Array Value) (W : World), (callFunc 151 args).run Tryz.prog W = .ok (.enter 151 args) W := fun _ _ => by kernel_rfl
theorem over_hcf : ∀ (args : Array Value) (W : World), (callFunc 32 args).run Tryz.prog W = .ok (.enter 32 args) W := fun _ _ => by kernel_rfl
theorem over_0 {a b : Int} {u t : Nat} {va vb : Value} {w : World} (hX : XArg 0 w va a u) (hY : XArg 0 w vb b t) (la : (wrds a.natAbs).length ≤ 4000) (lb : (wrds b.natAbs).length ≤ 4000) (lu : (wrds u).length ≤ 4000) (lt : (wrds t).length ≤ 4000) :
   Calls Tryz.prog 32 #[va, vb] w fun e w' => ∃ y, e = .returned y ∧ XArg 0 w' y (ovN a b t) (u * b.natAbs) ∧ Below w.heap.size w w' :=
 (over_x (P := fun c => 0 ≤ c) hX hY (fun _ _ => Nat.zero_le _) la lb lu lt).mono fun _ _ ⟨y, he, hx, hb⟩ => ⟨y, he, hx, hb⟩
theorem third_rec (w : World) :
   Calls Tryz.prog 28 #[vaV 2 1 0 emp, vaV 2 3 0 emp, .agg #[.int .i64 2, .int .i64 15, .int .i64 14, .int .i64 0, .bool false, .string emp], fnv 32, .int .i64 2] w fun e w' => e = .returned (.tuple #[vaV 2 33333333333333 14 emp, .int .i64 0, .int .i64 0]) ∧ Below w.heap.size w w' := by
 refine rec_x (F := FitCap 2 0 15 14 false emp (10 ^ 14) (10 ^ 15) 2) (za := 1) (ua := 10 ^ 0) (zb := 3) (ub := 10 ^ 0) (Z := 1) (U := 3) over_hcf ?_ ?_ ?_ ?_ ?_ ?_ ?_ ?_
 · intro t ht W
   rcases List.mem_cons.1 ht with rfl | ht
   · exact right_2_yes 1 0 W (by decide) (by decide)
   · rw [List.mem_singleton.1 ht]
     exact right_2_yes 3 0 W (by decide) (by decide)
 · exact fun W => demValid_yes 2 15 14 0 false emp W (by decide) (by simp [validS, validFixedS, Lib.toList_data])
 · exact fun W => exactly_from 1 0 emp W (by decide) (by decide) (by decide)
 · exact fun W => exactly_from 3 0 emp W (by decide) (by decide) (by decide)
 · exact fun h hb => h.later hb
 · exact fun W => fitting_2c 0 2 15 14 false emp W (by decide) (by decide)
 · intro W vx vy hX hY
   exact over_0 hX hY (Nat.le_trans (wrds_length _ 1 (by decide)) (by decide)) (Nat.le_trans (wrds_length _ 1 (by decide)) (by decide)) (Nat.le_trans (wrds_length _ 1 (by decide)) (by decide)) (Nat.le_trans (wrds_length _ 1 (by decide)) (by decide))
 · rintro W cap vx ⟨bt, bf, c, rfl, hR, hC⟩ hX
   refine fitting1_x fit_hcf hR hX (Nat.le_trans (wrds_length 3 1 (by decide)) (by decide)) (by decide) fun W' hW' => ?_
   exact fit1_fit (M := 100000000000000) (Q := 33333333333333) (R := 33333333333333) (hC.later hW') (hX.keep hW' (Nat.le_refl _)) (Nat.le_trans (wrds_length _ 1 (by decide)) (by decide)) (Nat.le_trans (wrds_length _ 2 (by decide)) (by decide)) (by decide) (by decide) (divided_1 (by decide) (by decide) (by decide) (Nat.le_trans (wrds_length _ 2 (by decide)) (by decide))) (by decide) (Nat.le_trans (wrds_length _ 2 (by decide)) (by decide)) rfl (by decide)
set_option maxRecDepth 100000 in
set_option maxHeartbeats 1000000 in
theorem third (w : World) :
   Calls Tryz.prog 14 #[vaV 2 1 0 emp, vaV 2 3 0 emp, .agg #[.int .i64 2, .int .i64 15, .int .i64 14, .int .i64 0, .bool false, .string emp]] w fun e w' => e = .returned (.tuple #[vaV 2 33333333333333 14 emp, .int .i64 0, .int .i64 0]) ∧ Below w.heap.size w w' := by
 have HR : Hid (∀ W, Calls Tryz.prog 28 #[vaV 2 1 0 emp, vaV 2 3 0 emp, .agg #[.int .i64 2, .int .i64 15, .int .i64 14, .int .i64 0, .bool false, .string emp], fnv 32, .int .i64 2] W fun e w' => e = .returned (.tuple #[vaV 2 33333333333333 14 emp, .int .i64 0, .int .i64 0]) ∧ Below W.heap.size W w') := Lib.hid third_rec
 have RZ := row_n3 w (.cells (vaC 2 1 0 emp) 23) (.cells (vaC 2 3 0 emp) 23) (.cells #[.int .i64 2, .int .i64 15, .int .i64 14, .int .i64 0, .bool false, .string emp] 25) (vaC 0 0 0 emp) 23
 go_enter Tryz.func14, Tryz.ntmps14
 go_wp2_with (go_at_call 28; (refine (HR.out _).mono ?_); rintro e w2 ⟨rfl, hb2⟩; have Z2 := RZ.keep hb2; have B2 := Lib.hid (bl_box (Below.refl _ w |>.alloc (Nat.le_refl _) _ |>.alloc (by simp) _ |>.alloc (by simp; omega) _) hb2); obtain ⟨z0, z1, z2, z3⟩ := Z2.four; have f0 := Z2.free 0; have f1 := Z2.free 1; have f2 := Z2.free 2; have f3 := Z2.free 3)
 refine bodyPost_ret (v := .tuple #[vaV 2 33333333333333 14 emp, .int .i64 0, .int .i64 0]) (by simp [results, Tryz.results14, go_sem, z0, z1, z2, z3]) rfl ⟨rfl, ?_⟩
 (repeat refine Below.setCell ?_ (by simp <;> omega) _)
 exact B2.out
end Go.Proofs.YtpdoddhieblooaaGreatDoor
namespace Go.Proofs.YtpdoddhieblooaaGreatDoor
open Go.RowKit
set_option maxRecDepth 100000 in
set_option maxHeartbeats 8000000 in
theorem rec_guard_e {opf : Nat} {ka na qa kb nb qb k p q n L E : Int} {sa sb pic : ByteArray} {vy : Bool} {w : World}
   (h1 : ∀ (bA bB bT bL bO bV bC : Nat) (W : World), Row W bA (vaC ka na qa sa) 23 → Row W bB (vaC kb nb qb sb) 23 → Row W bT #[.int .i64 k, .int .i64 p, .int .i64 q, .int .i64 n, .bool vy, .string pic] 25 → Row W bL #[.int .i64 L] 3 → Row W bO #[fnv opf] 55 → Row W bV (vaC 0 0 0 ⟨#[]⟩) 23 → Row W bC #[.int .i64 0] 3 → bA < bB → bB < bT → bT < bO → bO < bL → bL < bV → bV < bC → Calls Tryz.prog 55 #[ptD bA, ptD bB, ptD bT, ptD bL, ptD bO, ptD bV, ptD bC] W fun e w' => e = dRef E ∧ Below W.heap.size W w') :
   Calls Tryz.prog 19 #[.func (.func 55) #[] #[ptD (w.heap.size), ptD (w.heap.size + 1), ptD (w.heap.size + 1 + 1), ptD (w.heap.size + 1 + 1 + 1 + 1), ptD (w.heap.size + 1 + 1 + 1), ptD (w.heap.size + 1 + 1 + 1 + 1 + 1), ptD (w.heap.size + 1 + 1 + 1 + 1 + 1 + 1)]] (((((((w.alloc (.cells (vaC ka na qa sa) 23)).alloc (.cells (vaC kb nb qb sb) 23)).alloc (.cells #[.int .i64 k, .int .i64 p, .int .i64 q, .int .i64 n, .bool vy, .string pic] 25)).alloc (.cells #[fnv opf] 55)).alloc (.cells #[.int .i64 L] 3)).alloc (.cells (vaC 0 0 0 ⟨#[]⟩) 23)).alloc (.cells #[.int .i64 0] 3)) fun e w' => e = .returned (.int .i64 E) ∧ Row w' (w.heap.size + 1 + 1 + 1 + 1 + 1) (vaC 0 0 0 ⟨#[]⟩) 23 ∧ Row w' (w.heap.size + 1 + 1 + 1 + 1 + 1 + 1) #[.int .i64 0] 3 ∧ Below w.heap.size w w' := by
 have hcr : ∀ W : World, (callFunc 55 #[ptD (w.heap.size), ptD (w.heap.size + 1), ptD (w.heap.size + 1 + 1), ptD (w.heap.size + 1 + 1 + 1 + 1), ptD (w.heap.size + 1 + 1 + 1), ptD (w.heap.size + 1 + 1 + 1 + 1 + 1), ptD (w.heap.size + 1 + 1 + 1 + 1 + 1 + 1)]).run Tryz.prog W = .ok (.enter 55 #[ptD (w.heap.size), ptD (w.heap.size + 1), ptD (w.heap.size + 1 + 1), ptD (w.heap.size + 1 + 1 + 1 + 1), ptD (w.heap.size + 1 + 1 + 1), ptD (w.heap.size + 1 + 1 + 1 + 1 + 1), ptD (w.heap.size + 1 + 1 + 1 + 1 + 1 + 1)]) W := fun W => enters_of Tryz.func55 (by kernel_rfl) rfl _ W
 have Rw0 : Row ((((((((w.alloc (.cells (vaC ka na qa sa) 23)).alloc (.cells (vaC kb nb qb sb) 23)).alloc (.cells #[.int .i64 k, .int .i64 p, .int .i64 q, .int .i64 n, .bool vy, .string pic] 25)).alloc (.cells #[fnv opf] 55)).alloc (.cells #[.int .i64 L] 3)).alloc (.cells (vaC 0 0 0 ⟨#[]⟩) 23)).alloc (.cells #[.int .i64 0] 3)).alloc (.cells #[.int .i64 0] 28)) (w.heap.size) _ _ := ((((((((row_n0 w  (vaC ka na qa sa) 23).alloc (.cells (vaC kb nb qb sb) 23)).alloc (.cells #[.int .i64 k, .int .i64 p, .int .i64 q, .int .i64 n, .bool vy, .string pic] 25)).alloc (.cells #[fnv opf] 55)).alloc (.cells #[.int .i64 L] 3)).alloc (.cells (vaC 0 0 0 ⟨#[]⟩) 23)).alloc (.cells #[.int .i64 0] 3)).alloc (.cells #[.int .i64 0] 28))
 have Rw1 : Row ((((((((w.alloc (.cells (vaC ka na qa sa) 23)).alloc (.cells (vaC kb nb qb sb) 23)).alloc (.cells #[.int .i64 k, .int .i64 p, .int .i64 q, .int .i64 n, .bool vy, .string pic] 25)).alloc (.cells #[fnv opf] 55)).alloc (.cells #[.int .i64 L] 3)).alloc (.cells (vaC 0 0 0 ⟨#[]⟩) 23)).alloc (.cells #[.int .i64 0] 3)).alloc (.cells #[.int .i64 0] 28)) (w.heap.size + 1) _ _ := (((((((row_n1 w (.cells (vaC ka na qa sa) 23) (vaC kb nb qb sb) 23).alloc (.cells #[.int .i64 k, .int .i64 p, .int .i64 q, .int .i64 n, .bool vy, .string pic] 25)).alloc (.cells #[fnv opf] 55)).alloc (.cells #[.int .i64 L] 3)).alloc (.cells (vaC 0 0 0 ⟨#[]⟩) 23)).alloc (.cells #[.int .i64 0] 3)).alloc (.cells #[.int .i64 0] 28))
 have Rw2 : Row ((((((((w.alloc (.cells (vaC ka na qa sa) 23)).alloc (.cells (vaC kb nb qb sb) 23)).alloc (.cells #[.int .i64 k, .int .i64 p, .int .i64 q, .int .i64 n, .bool vy, .string pic] 25)).alloc (.cells #[fnv opf] 55)).alloc (.cells #[.int .i64 L] 3)).alloc (.cells (vaC 0 0 0 ⟨#[]⟩) 23)).alloc (.cells #[.int .i64 0] 3)).alloc (.cells #[.int .i64 0] 28)) (w.heap.size + 1 + 1) _ _ := ((((((row_n2 w (.cells (vaC ka na qa sa) 23) (.cells (vaC kb nb qb sb) 23) #[.int .i64 k, .int .i64 p, .int .i64 q, .int .i64 n, .bool vy, .string pic] 25).alloc (.cells #[fnv opf] 55)).alloc (.cells #[.int .i64 L] 3)).alloc (.cells (vaC 0 0 0 ⟨#[]⟩) 23)).alloc (.cells #[.int .i64 0] 3)).alloc (.cells #[.int .i64 0] 28))
 have Rw3 : Row ((((((((w.alloc (.cells (vaC ka na qa sa) 23)).alloc (.cells (vaC kb nb qb sb) 23)).alloc (.cells #[.int .i64 k, .int .i64 p, .int .i64 q, .int .i64 n, .bool vy, .string pic] 25)).alloc (.cells #[fnv opf] 55)).alloc (.cells #[.int .i64 L] 3)).alloc (.cells (vaC 0 0 0 ⟨#[]⟩) 23)).alloc (.cells #[.int .i64 0] 3)).alloc (.cells #[.int .i64 0] 28)) (w.heap.size + 1 + 1 + 1) _ _ := (((((row_n3 w (.cells (vaC ka na qa sa) 23) (.cells (vaC kb nb qb sb) 23) (.cells #[.int .i64 k, .int .i64 p, .int .i64 q, .int .i64 n, .bool vy, .string pic] 25) #[fnv opf] 55).alloc (.cells #[.int .i64 L] 3)).alloc (.cells (vaC 0 0 0 ⟨#[]⟩) 23)).alloc (.cells #[.int .i64 0] 3)).alloc (.cells #[.int .i64 0] 28))
 have Rw4 : Row ((((((((w.alloc (.cells (vaC ka na qa sa) 23)).alloc (.cells (vaC kb nb qb sb) 23)).alloc (.cells #[.int .i64 k, .int .i64 p, .int .i64 q, .int .i64 n, .bool vy, .string pic] 25)).alloc (.cells #[fnv opf] 55)).alloc (.cells #[.int .i64 L] 3)).alloc (.cells (vaC 0 0 0 ⟨#[]⟩) 23)).alloc (.cells #[.int .i64 0] 3)).alloc (.cells #[.int .i64 0] 28)) (w.heap.size + 1 + 1 + 1 + 1) _ _ := ((((row_n4 w (.cells (vaC ka na qa sa) 23) (.cells (vaC kb nb qb sb) 23) (.cells #[.int .i64 k, .int .i64 p, .int .i64 q, .int .i64 n, .bool vy, .string pic] 25) (.cells #[fnv opf] 55) #[.int .i64 L] 3).alloc (.cells (vaC 0 0 0 ⟨#[]⟩) 23)).alloc (.cells #[.int .i64 0] 3)).alloc (.cells #[.int .i64 0] 28))
 have Rw5 : Row ((((((((w.alloc (.cells (vaC ka na qa sa) 23)).alloc (.cells (vaC kb nb qb sb) 23)).alloc (.cells #[.int .i64 k, .int .i64 p, .int .i64 q, .int .i64 n, .bool vy, .string pic] 25)).alloc (.cells #[fnv opf] 55)).alloc (.cells #[.int .i64 L] 3)).alloc (.cells (vaC 0 0 0 ⟨#[]⟩) 23)).alloc (.cells #[.int .i64 0] 3)).alloc (.cells #[.int .i64 0] 28)) (w.heap.size + 1 + 1 + 1 + 1 + 1) _ _ := (((row_n5 w (.cells (vaC ka na qa sa) 23) (.cells (vaC kb nb qb sb) 23) (.cells #[.int .i64 k, .int .i64 p, .int .i64 q, .int .i64 n, .bool vy, .string pic] 25) (.cells #[fnv opf] 55) (.cells #[.int .i64 L] 3) (vaC 0 0 0 ⟨#[]⟩) 23).alloc (.cells #[.int .i64 0] 3)).alloc (.cells #[.int .i64 0] 28))
 have Rw6 : Row ((((((((w.alloc (.cells (vaC ka na qa sa) 23)).alloc (.cells (vaC kb nb qb sb) 23)).alloc (.cells #[.int .i64 k, .int .i64 p, .int .i64 q, .int .i64 n, .bool vy, .string pic] 25)).alloc (.cells #[fnv opf] 55)).alloc (.cells #[.int .i64 L] 3)).alloc (.cells (vaC 0 0 0 ⟨#[]⟩) 23)).alloc (.cells #[.int .i64 0] 3)).alloc (.cells #[.int .i64 0] 28)) (w.heap.size + 1 + 1 + 1 + 1 + 1 + 1) _ _ := ((row_n6 w (.cells (vaC ka na qa sa) 23) (.cells (vaC kb nb qb sb) 23) (.cells #[.int .i64 k, .int .i64 p, .int .i64 q, .int .i64 n, .bool vy, .string pic] 25) (.cells #[fnv opf] 55) (.cells #[.int .i64 L] 3) (.cells (vaC 0 0 0 ⟨#[]⟩) 23) #[.int .i64 0] 3).alloc (.cells #[.int .i64 0] 28))
 have Rw7 : Row ((((((((w.alloc (.cells (vaC ka na qa sa) 23)).alloc (.cells (vaC kb nb qb sb) 23)).alloc (.cells #[.int .i64 k, .int .i64 p, .int .i64 q, .int .i64 n, .bool vy, .string pic] 25)).alloc (.cells #[fnv opf] 55)).alloc (.cells #[.int .i64 L] 3)).alloc (.cells (vaC 0 0 0 ⟨#[]⟩) 23)).alloc (.cells #[.int .i64 0] 3)).alloc (.cells #[.int .i64 0] 28)) (w.heap.size + 1 + 1 + 1 + 1 + 1 + 1 + 1) _ _ := (row_n7 w (.cells (vaC ka na qa sa) 23) (.cells (vaC kb nb qb sb) 23) (.cells #[.int .i64 k, .int .i64 p, .int .i64 q, .int .i64 n, .bool vy, .string pic] 25) (.cells #[fnv opf] 55) (.cells #[.int .i64 L] 3) (.cells (vaC 0 0 0 ⟨#[]⟩) 23) (.cells #[.int .i64 0] 3) #[.int .i64 0] 28)
 have hs : (((((((w.alloc (.cells (vaC ka na qa sa) 23)).alloc (.cells (vaC kb nb qb sb) 23)).alloc (.cells #[.int .i64 k, .int .i64 p, .int .i64 q, .int .i64 n, .bool vy, .string pic] 25)).alloc (.cells #[fnv opf] 55)).alloc (.cells #[.int .i64 L] 3)).alloc (.cells (vaC 0 0 0 ⟨#[]⟩) 23)).alloc (.cells #[.int .i64 0] 3)).heap.size = w.heap.size + 1 + 1 + 1 + 1 + 1 + 1 + 1 := by simp
 have hB : Below w.heap.size w ((((((((w.alloc (.cells (vaC ka na qa sa) 23)).alloc (.cells (vaC kb nb qb sb) 23)).alloc (.cells #[.int .i64 k, .int .i64 p, .int .i64 q, .int .i64 n, .bool vy, .string pic] 25)).alloc (.cells #[fnv opf] 55)).alloc (.cells #[.int .i64 L] 3)).alloc (.cells (vaC 0 0 0 ⟨#[]⟩) 23)).alloc (.cells #[.int .i64 0] 3)).alloc (.cells #[.int .i64 0] 28)) := by go_grown
 have hs8 : ((((((((w.alloc (.cells (vaC ka na qa sa) 23)).alloc (.cells (vaC kb nb qb sb) 23)).alloc (.cells #[.int .i64 k, .int .i64 p, .int .i64 q, .int .i64 n, .bool vy, .string pic] 25)).alloc (.cells #[fnv opf] 55)).alloc (.cells #[.int .i64 L] 3)).alloc (.cells (vaC 0 0 0 ⟨#[]⟩) 23)).alloc (.cells #[.int .i64 0] 3)).alloc (.cells #[.int .i64 0] 28)).heap.size = w.heap.size + 1 + 1 + 1 + 1 + 1 + 1 + 1 + 1 := by simp
 refine (guard_no (n := E) (R := fun w' => Row w' (w.heap.size + 1 + 1 + 1 + 1 + 1) (vaC 0 0 0 ⟨#[]⟩) 23 ∧ Row w' (w.heap.size + 1 + 1 + 1 + 1 + 1 + 1) #[.int .i64 0] 3 ∧ Below w.heap.size w w') _ _ _ hcr ?_).mono ?_
 · refine (h1 _ _ _ _ _ _ _ _ Rw0 Rw1 Rw2 Rw4 Rw3 Rw5 Rw6 (by omega) (by omega) (by omega) (by omega) (by omega) (by omega)).mono ?_
   rintro e w' ⟨rfl, hb⟩
   have hg := Rw7.keep hb
   refine ⟨rfl, ?_, ?_, Rw5.keep hb, Rw6.keep hb, hB.trans (hb.mono (by rw [hs8]; omega))⟩
   · rw [hs]; exact hg.one
   · rw [hs]; exact hg.free 0
 · rintro e w' ⟨rfl, w1, ⟨h5, h6, hb⟩, rfl⟩
   exact ⟨rfl, h5.set (by rw [hs]; simp <;> omega), h6.set (by rw [hs]; simp <;> omega), hb.setCell (by rw [hs]; simp <;> omega) _⟩
set_option maxRecDepth 100000 in
set_option maxHeartbeats 8000000 in
theorem rec_e {opf : Nat} {ka na qa kb nb qb k p q n L E : Int} {sa sb pic : ByteArray} {vy : Bool} {w : World}
   (h1 : ∀ (bA bB bT bL bO bV bC : Nat) (W : World), Row W bA (vaC ka na qa sa) 23 → Row W bB (vaC kb nb qb sb) 23 → Row W bT #[.int .i64 k, .int .i64 p, .int .i64 q, .int .i64 n, .bool vy, .string pic] 25 → Row W bL #[.int .i64 L] 3 → Row W bO #[fnv opf] 55 → Row W bV (vaC 0 0 0 ⟨#[]⟩) 23 → Row W bC #[.int .i64 0] 3 → bA < bB → bB < bT → bT < bO → bO < bL → bL < bV → bV < bC → Calls Tryz.prog 55 #[ptD bA, ptD bB, ptD bT, ptD bL, ptD bO, ptD bV, ptD bC] W fun e w' => e = dRef E ∧ Below W.heap.size W w') :
   Calls Tryz.prog 28 #[vaV ka na qa sa, vaV kb nb qb sb, tyV k p q n vy pic, fnv opf, .int .i64 L] w fun e w' => e = .returned (.tuple #[vaV 0 0 0 ⟨#[]⟩, .int .i64 0, .int .i64 E]) ∧ Below w.heap.size w w' := by
 have hmf : ∀ (fn : Fn) (first cap : Array Value) (w : World), (Instr.makeFunc fn first cap).run Tryz.prog w = .ok (.func fn first cap) w := fun _ _ _ _ => rfl
 have HG := Lib.hid (rec_guard_e (w := w) h1)
 clear h1
 go_enter Tryz.func28, Tryz.ntmps28
 go_wp2_with (go_at_call 19; refine HG.out.mono ?_; rintro e w1 ⟨rfl, h5, h6, hb⟩; have HB := Lib.hid hb; clear hb; obtain ⟨v0, v1, v2, v3⟩ := h5.four; have f0 := h5.free 0; have f1 := h5.free 1; have f2 := h5.free 2; have f3 := h5.free 3; have c0 := h6.one; have g0 := h6.free 0)
 have hV : w.heap.size ≤ w.heap.size + 1 + 1 + 1 + 1 + 1 := by omega
 have HN : w1.heap.size = w1.heap.size := rfl
 clear HG HN
 generalize w.heap.size + 1 + 1 + 1 + 1 + 1 = bV at *
 have n1 : ¬ bV + 1 = bV := by omega
 have n2 : ¬ bV = bV + 1 := by omega
 go_region
 have HE := recEnd_mk (c := 0) (k := 0) (N := 0) (Q := 0) (s := ⟨#[]⟩) h5 h6 n1 n2 (Below.refl _ w1)
 have HW : Below w.heap.size w (((((w1.setCell ⟨bV, 0, none⟩ (.int .i64 0)).setCell ⟨bV, 1, none⟩ (.int .i64 0)).setCell ⟨bV, 2, none⟩ (.int .i64 0)).setCell ⟨bV, 3, none⟩ (.string ⟨#[]⟩)).setCell ⟨bV + 1, 0, none⟩ (.int .i64 0)).drew := (HE.2.2.below HB.out hV (Nat.le_succ_of_le hV) HB.out.size).drew
 have HE1 : Row (((((w1.setCell ⟨bV, 0, none⟩ (.int .i64 0)).setCell ⟨bV, 1, none⟩ (.int .i64 0)).setCell ⟨bV, 2, none⟩ (.int .i64 0)).setCell ⟨bV, 3, none⟩ (.string ⟨#[]⟩)).setCell ⟨bV + 1, 0, none⟩ (.int .i64 0)).drew bV (vaC 0 0 0 ⟨#[]⟩) 23 := HE.1.drewN 1
 have HE2 : Row (((((w1.setCell ⟨bV, 0, none⟩ (.int .i64 0)).setCell ⟨bV, 1, none⟩ (.int .i64 0)).setCell ⟨bV, 2, none⟩ (.int .i64 0)).setCell ⟨bV, 3, none⟩ (.string ⟨#[]⟩)).setCell ⟨bV + 1, 0, none⟩ (.int .i64 0)).drew (bV + 1) #[.int .i64 0] 3 := HE.2.1.drewN 1
 clear HE HB h5 h6 v0 v1 v2 v3 f0 f1 f2 f3 c0 g0
 generalize (((((w1.setCell ⟨bV, 0, none⟩ (.int .i64 0)).setCell ⟨bV, 1, none⟩ (.int .i64 0)).setCell ⟨bV, 2, none⟩ (.int .i64 0)).setCell ⟨bV, 3, none⟩ (.string ⟨#[]⟩)).setCell ⟨bV + 1, 0, none⟩ (.int .i64 0)).drew = w7 at HW HE1 HE2 ⊢
 have HW := Lib.hid HW
 obtain ⟨z0, z1, z2, z3⟩ := HE1.four
 have z4 := HE2.one
 clear HE1 HE2
 go_wp2
 refine bodyPost_ret (v := .tuple #[vaV 0 0 0 ⟨#[]⟩, .int .i64 0, .int .i64 E]) (by simp [results, Tryz.results28, go_sem, z0, z1, z2, z3, z4]) rfl ⟨rfl, HW.out⟩
set_option maxRecDepth 100000 in
set_option maxHeartbeats 8000000 in
theorem rec1_eT {bA bB bT bL bO bV bC opf : Nat} {ka na qa kb nb qb k p q n L za zb E : Int} {ua ub : Nat} {sa sb pic : ByteArray} {vy : Bool} {w : World}
   (RA : Row w bA (vaC ka na qa sa) 23) (RB : Row w bB (vaC kb nb qb sb) 23) (RT : Row w bT #[.int .i64 k, .int .i64 p, .int .i64 q, .int .i64 n, .bool vy, .string pic] 25) (RL : Row w bL #[.int .i64 L] 3) (RO : Row w bO #[fnv opf] 55) (RV : Row w bV (vaC 0 0 0 ⟨#[]⟩) 23) (RC : Row w bC #[.int .i64 0] 3)
   (hDR : ∀ t ∈ [Va.mk ka na qa sa, Va.mk kb nb qb sb], ∀ W : World, Calls Tryz.prog 46 #[t.v] W (YesD W))
   (hDV : ∀ W, Calls Tryz.prog 56 #[.agg #[.int .i64 k, .int .i64 p, .int .i64 q, .int .i64 n, .bool vy, .string pic]] W fun e w' => e = .returned (.tuple #[]) ∧ Below W.heap.size W w')
   (hXA : ∀ W, Calls Tryz.prog 22 #[vaV ka na qa sa] W fun e w' => ∃ y, e = .returned y ∧ XArg W.heap.size w' y za ua ∧ Below W.heap.size W w')
   (hXB : ∀ W, Calls Tryz.prog 22 #[vaV kb nb qb sb] W fun e w' => ∃ y, e = .returned y ∧ XArg W.heap.size w' y zb ub ∧ Below W.heap.size W w')
   (hFT : ∀ W, Calls Tryz.prog 57 #[.agg #[.int .i64 k, .int .i64 p, .int .i64 q, .int .i64 n, .bool vy, .string pic], .int .i64 0, .int .i64 L] W fun e w' => e = dRef E ∧ Below W.heap.size W w') :
   Calls Tryz.prog 55 #[ptD bA, ptD bB, ptD bT, ptD bL, ptD bO, ptD bV, ptD bC] w fun e w' => e = dRef E ∧ Below w.heap.size w w' := by
 have HDV := Lib.hid hDV; have HXA := Lib.hid hXA; have HXB := Lib.hid hXB; have HFT := Lib.hid hFT; have HDR := Lib.hid hDR
 clear hDV hXA hXB hFT hDR
 obtain ⟨a0, a1, a2, a3⟩ := RA.four
 obtain ⟨b0, b1, b2, b3⟩ := RB.four
 have lA := RA.lt; have lB := RB.lt; have lT := RT.lt; have lL := RL.lt; have lO := RO.lt; have lV := RV.lt; have lC := RC.lt
 have RN := Row.new w #[.int .i64 ka, .int .i64 na, .int .i64 qa, .string sa, .int .i64 kb, .int .i64 nb, .int .i64 qb, .string sb] 23
 go_enter Tryz.func55, Tryz.ntmps55
 go_wp2_with (first
   | (go_at_call 21; refine (demRight_yes [⟨ka, na, qa, sa⟩, ⟨kb, nb, qb, sb⟩] _ 0 _ _ (VasAt.two RN) (by simp) RN.lt HDR.out).mono ?_; rintro e w1 ⟨rfl, hb1⟩; have HB1 := Lib.hid (bl_box (Below.refl _ w) hb1); clear hb1; obtain ⟨t0, t1, t2, t3, t4, t5⟩ := row_six (RT.keep HB1.out))
   | (go_at_call 56; (with_reducible refine (HDV.out _).mono ?_); rintro e W ⟨rfl, hb2⟩; have HB2 := Lib.hid (bl_then HB1.out hb2); clear hb2))
 have RA := RA.keep HB2.out
 have RB := RB.keep HB2.out
 have RT := RT.keep HB2.out
 have RL := RL.keep HB2.out
 have RO := RO.keep HB2.out
 have RV := RV.keep HB2.out
 have RC := RC.keep HB2.out
 have hsW := HB2.out.size
 clear a0 a1 a2 a3 b0 b1 b2 b3 t0 t1 t2 t3 t4 t5 RN
 obtain ⟨a0, a1, a2, a3⟩ := RA.four
 obtain ⟨b0, b1, b2, b3⟩ := RB.four
 have KS : Hid (∀ w', Below W.heap.size W w' → Below W.heap.size W w' ∧ (w'.cell? ⟨bA, 0, none⟩ = some (.int .i64 ka) ∧ w'.cell? ⟨bA, 1, none⟩ = some (.int .i64 na) ∧ w'.cell? ⟨bA, 2, none⟩ = some (.int .i64 qa) ∧ w'.cell? ⟨bA, 3, none⟩ = some (.string sa)) ∧ (w'.cell? ⟨bB, 0, none⟩ = some (.int .i64 kb) ∧ w'.cell? ⟨bB, 1, none⟩ = some (.int .i64 nb) ∧ w'.cell? ⟨bB, 2, none⟩ = some (.int .i64 qb) ∧ w'.cell? ⟨bB, 3, none⟩ = some (.string sb))) := by
   show ∀ _, _
   exact fun w' h => ⟨h, (RA.keep h).four, (RB.keep h).four⟩
 go_cut [7, 8] (fun s7 s8 wx => TwoX W za zb ua ub s7 s8 wx)
 case first =>
   go_region_held3 (fun w' => Below W.heap.size W w' ∧ (w'.cell? ⟨bA, 0, none⟩ = some (.int .i64 ka) ∧ w'.cell? ⟨bA, 1, none⟩ = some (.int .i64 na) ∧ w'.cell? ⟨bA, 2, none⟩ = some (.int .i64 qa) ∧ w'.cell? ⟨bA, 3, none⟩ = some (.string sa)) ∧ (w'.cell? ⟨bB, 0, none⟩ = some (.int .i64 kb) ∧ w'.cell? ⟨bB, 1, none⟩ = some (.int .i64 nb) ∧ w'.cell? ⟨bB, 2, none⟩ = some (.int .i64 qb) ∧ w'.cell? ⟨bB, 3, none⟩ = some (.string sb)))
     (exact KS.out _ (by (repeat' (with_reducible first | assumption | exact Below.refl _ _ | exact (Below.refl _ _).drew | refine Below.drew ?_ | refine Below.alloc ?_ (by first | omega | (simp; omega) | simp) _ | refine Below.setCell ?_ (by first | omega | (simp; omega) | simp) _))))
     (first
       | (go_at_call 22; first
         | ((with_reducible refine (HXA.out _).mono ?_); rintro e w2 ⟨v2, rfl, X2, hb2⟩; have C2 : Below W.heap.size W w2 := (by refine bl_then ?_ hb2; (repeat' (with_reducible first | assumption | exact Below.refl _ _ | exact (Below.refl _ _).drew | refine Below.drew ?_ | refine Below.alloc ?_ (by first | omega | (simp; omega) | simp) _ | refine Below.setCell ?_ (by first | omega | (simp; omega) | simp) _))); have z2 := C2.size; have X2' := Lib.hid X2; obtain ⟨px, kx, qx, mx, rfl⟩ := X2.open; clear X2; (try have P2 : Row w2 W.heap.size (exC (.slice none 0 0) false (.slice none 0 0)) 43 := (by first | exact Row.keep (Row.new W _ _).drew hb2 | exact Row.keep ((Row.new W _ _).alloc _).drew hb2)); (try have Q2 : Row w2 (W.heap.size + 1) (exC (.slice none 0 0) false (.slice none 0 0)) 43 := Row.keep (Row.new2 W _ _ _).drew hb2))
         | ((with_reducible refine (HXB.out _).mono ?_); rintro e w3 ⟨v3, rfl, X3, hb3⟩; have C3 : Below W.heap.size W w3 := (by refine bl_then ?_ hb3; (repeat' (with_reducible first | assumption | exact Below.refl _ _ | exact (Below.refl _ _).drew | refine Below.drew ?_ | refine Below.alloc ?_ (by first | omega | (simp; omega) | simp) _ | refine Below.setCell ?_ (by first | omega | (simp; omega) | simp) _))); have z3 := C3.size; have X3' := Lib.hid X3; obtain ⟨py, ky, qy, my, rfl⟩ := X3.open; clear X3; (try have P3 : Row w3 W.heap.size (exC (.slice none 0 0) false (.slice none 0 0)) 43 := (by first | exact Row.keep P2 hb3 | exact Row.keep (P2.alloc _) hb3)); (try have Q3 : Row w3 (W.heap.size + 1) (exC (.slice none 0 0) false (.slice none 0 0)) 43 := Row.keep Q2 hb3); (try have U3 : Row w3 w2.heap.size (exC (.slice none 0 0) false (.slice none 0 0)) 43 := (by first | exact Row.keep (Row.new w2 _ _) hb3 | exact Row.keep ((Row.new w2 _ _).alloc _) hb3)); (try have V3 : Row w3 (w2.heap.size + 1) (exC (.slice none 0 0) false (.slice none 0 0)) 43 := Row.keep (Row.new2 w2 _ _ _) hb3); (try obtain ⟨p0, p1, p2⟩ := P3.ex); (try have pf0 := P3.free 0); (try have pf1 := P3.free 1); (try have pf2 := P3.free 2); (try obtain ⟨q0, q1, q2⟩ := Q3.ex); (try have qf0 := Q3.free 0); (try have qf1 := Q3.free 1); (try have qf2 := Q3.free 2); (try obtain ⟨u0, u1, u2⟩ := U3.ex); (try have uf0 := U3.free 0); (try have uf1 := U3.free 1); (try have uf2 := U3.free 2); (try obtain ⟨v0, v1, v2⟩ := V3.ex); (try have vf0 := V3.free 0); (try have vf1 := V3.free 1); (try have vf2 := V3.free 2); have hb3z := hb3.size; have hb2z := hb2.size; (try simp at hb3z); (try simp at hb2z); (try have lp := P3.lt); (try have lq := Q3.lt); (try have lu := U3.lt); (try have lv := V3.lt); (try have lp2 := P2.lt); (try have ne1 : ¬ W.heap.size = w2.heap.size := (by omega)); (try have ne2 : ¬ w2.heap.size = W.heap.size := (by omega)))))
   all_goals
     go_wp2_with fail
     go_meet
     refine twoX_mk (w2 := w2) (w3 := w3) ?_ ?_ X2'.out X3'.out ?_ ?_ ?_ ?_ ?_
     case refine_5 => (repeat' (with_reducible first | assumption | exact Below.refl _ _ | exact (Below.refl _ _).drew | refine Below.drew ?_ | refine Below.alloc ?_ (by first | omega | (simp; omega) | simp) _ | refine Below.setCell ?_ (by first | omega | (simp; omega) | simp) _))
     case refine_3 => (repeat' (with_reducible first | exact Mid.refl _ _ | refine Mid.alloc ?_ _ | refine Mid.setCell ?_ (by first | omega | (simp; done) | (simp; omega) | (left; simp; omega) | (right; simp; omega)) _ | refine Mid.drew ?_ | refine Mid.call ?_ hb3))
     case refine_4 => (repeat' (with_reducible first | exact Mid.refl _ _ | refine Mid.alloc ?_ _ | refine Mid.setCell ?_ (by first | omega | (simp; done) | (simp; omega) | (left; simp; omega) | (right; simp; omega)) _ | refine Mid.drew ?_ | refine Mid.call ?_ hb3))
     case refine_6 => first | omega | (simp; omega) | simp
     case refine_7 => first | omega | (simp; omega) | simp
     all_goals (repeat' (with_reducible first | assumption | exact Row.new _ _ _ | exact row_newc3 _ _ _ _ _ _ _ _ _ | exact Row.new2 _ _ _ _ | refine Row.alloc ?_ _ | refine row_put3 ?_ | refine Row.set ?_ (by simp only [ne_eq]; omega)))
 case rest =>
   obtain ⟨W1, rfl⟩ : ∃ W1 : World, W1 = wc := ⟨_, rfl⟩
   obtain ⟨bX, bY, px, kx, qx, mx, py, ky, qy, my, rfl, rfl, RX, RY, X1, Y1, BB, lX, lY⟩ := hcut
   have RT := RT.keep BB
   have RL := RL.keep BB
   have RO := RO.keep BB
   have RV := RV.keep BB
   have RC := RC.keep BB
   have HB3 := Lib.hid (bl_then HB2.out BB)
   have HX1 := Lib.hid X1
   have HY1 := Lib.hid Y1
   clear RA RB a0 a1 a2 a3 b0 b1 b2 b3 KS BB X1 Y1
   clear lA lB lT lL lO lV lC hsW lX lY HDR HDV HXA HXB HB1
   go_wp2_with fail
   refine wp_region_held_drew (S := fun w' => (w'.cell? ⟨bT, 0, none⟩ = some (.int .i64 k) ∧ w'.cell? ⟨bT, 1, none⟩ = some (.int .i64 p) ∧ w'.cell? ⟨bT, 2, none⟩ = some (.int .i64 q) ∧ w'.cell? ⟨bT, 3, none⟩ = some (.int .i64 n) ∧ w'.cell? ⟨bT, 4, none⟩ = some (.bool vy) ∧ w'.cell? ⟨bT, 5, none⟩ = some (.string pic)) ∧ w'.cell? ⟨bL, 0, none⟩ = some (.int .i64 L) ∧ w'.cell? ⟨bO, 0, none⟩ = some (fnv opf) ∧ (w'.cell? ⟨bX, 0, none⟩ = some (.slice px (wrds za.natAbs).length kx) ∧ w'.cell? ⟨bX, 1, none⟩ = some (.bool (decide (za < 0))) ∧ w'.cell? ⟨bX, 2, none⟩ = some (.slice qx (wrds ua).length mx)) ∧ (w'.cell? ⟨bY, 0, none⟩ = some (.slice py (wrds zb.natAbs).length ky) ∧ w'.cell? ⟨bY, 1, none⟩ = some (.bool (decide (zb < 0))) ∧ w'.cell? ⟨bY, 2, none⟩ = some (.slice qy (wrds ub).length my))) (by kernel_rfl) ?_ (fun hHeld => ?_)
   · exact ⟨row_six RT, RL.one, RO.one, RX.ex, RY.ex⟩
   first
     | (refine wpAnyH_take (i := 0) (v := undef) rfl (by kernel_rfl) (by kernel_rfl) (by kernel_rfl) (fun _ _ _ h => h) (Or.inr ⟨by rfl, rfl⟩) (by assumption) ?_)
     | (refine wpAnyH_take (i := 0) (v := ?_) rfl (by kernel_rfl) (by kernel_rfl) (by kernel_rfl) (fun _ _ _ h => h) (Or.inl ⟨by rfl, ?_⟩) (by assumption) ?_; rotate_left; (· intro w hSw; (try dsimp only at hSw); go_simp; (try with_reducible rfl)))
     | fail "TK 0"
   try simp only [Act.put, List.setIfInBounds_toArray, List.set_cons_zero, List.set_cons_succ, List.getElem_toArray, List.getElem_cons_zero]
   first
     | (refine wpAnyH_take (i := 1) (v := undef) rfl (by kernel_rfl) (by kernel_rfl) (by kernel_rfl) (fun _ _ _ h => h) (Or.inr ⟨by rfl, rfl⟩) (by assumption) ?_)
     | (refine wpAnyH_take (i := 1) (v := ?_) rfl (by kernel_rfl) (by kernel_rfl) (by kernel_rfl) (fun _ _ _ h => h) (Or.inl ⟨by rfl, ?_⟩) (by assumption) ?_; rotate_left; (· intro w hSw; (try dsimp only at hSw); go_simp; (try with_reducible rfl)))
     | fail "TK 1"
   try simp only [Act.put, List.setIfInBounds_toArray, List.set_cons_zero, List.set_cons_succ, List.getElem_toArray, List.getElem_cons_succ, List.getElem_cons_zero]
   first
     | (refine wpAnyH_take (i := 3) (v := undef) rfl (by kernel_rfl) (by kernel_rfl) (by kernel_rfl) (fun _ _ _ h => h) (Or.inr ⟨by rfl, rfl⟩) (by assumption) ?_)
     | (refine wpAnyH_take (i := 3) (v := ?_) rfl (by kernel_rfl) (by kernel_rfl) (by kernel_rfl) (fun _ _ _ h => h) (Or.inl ⟨by rfl, ?_⟩) (by assumption) ?_; rotate_left; (· intro w hSw; (try dsimp only at hSw); go_simp; (try with_reducible rfl)))
     | fail "TK 3"
   try simp only [Act.put, List.setIfInBounds_toArray, List.set_cons_zero, List.set_cons_succ, List.getElem_toArray, List.getElem_cons_succ, List.getElem_cons_zero]
   first
     | (refine wpAnyH_take (i := 4) (v := undef) rfl (by kernel_rfl) (by kernel_rfl) (by kernel_rfl) (fun _ _ _ h => h) (Or.inr ⟨by rfl, rfl⟩) (by assumption) ?_)
     | (refine wpAnyH_take (i := 4) (v := ?_) rfl (by kernel_rfl) (by kernel_rfl) (by kernel_rfl) (fun _ _ _ h => h) (Or.inl ⟨by rfl, ?_⟩) (by assumption) ?_; rotate_left; (· intro w hSw; (try dsimp only at hSw); go_simp; (try with_reducible rfl)))
     | fail "TK 4"
   try simp only [Act.put, List.setIfInBounds_toArray, List.set_cons_zero, List.set_cons_succ, List.getElem_toArray, List.getElem_cons_succ, List.getElem_cons_zero]
   first
     | (refine wpAnyH_take (i := 5) (v := undef) rfl (by kernel_rfl) (by kernel_rfl) (by kernel_rfl) (fun _ _ _ h => h) (Or.inr ⟨by rfl, rfl⟩) (by assumption) ?_)
     | (refine wpAnyH_take (i := 5) (v := ?_) rfl (by kernel_rfl) (by kernel_rfl) (by kernel_rfl) (fun _ _ _ h => h) (Or.inl ⟨by rfl, ?_⟩) (by assumption) ?_; rotate_left; (· intro w hSw; (try dsimp only at hSw); go_simp; (try with_reducible rfl)))
     | fail "TK 5"
   try simp only [Act.put, List.setIfInBounds_toArray, List.set_cons_zero, List.set_cons_succ, List.getElem_toArray, List.getElem_cons_succ, List.getElem_cons_zero]
   refine wpAnyH_ready (rs := [2]) (by kernel_rfl) (by simp) ?_
   refine AllReadyH.cons rfl (fun K hK => ?_) AllReadyH.nil
   try simp only [List.getElem_toArray, List.getElem_cons_succ, List.getElem_cons_zero]
   first
     | (go_at_call 57; refine (HFT.out _).mono ?_; rintro e w4 ⟨rfl, hb4⟩; have HE := Lib.hid (bl_then HB3.out (bl_drew hb4)); clear hb4)
     | (go_simp; (go_at_call 57; refine (HFT.out _).mono ?_; rintro e w4 ⟨rfl, hb4⟩; have HE := Lib.hid (bl_then HB3.out (bl_drew hb4)); clear hb4))
     | fail "CALL"
   first
     | exact ⟨rfl, HE.out⟩
     | exact ⟨rfl, rfl, HE.out⟩
     | (go_wp2_with fail; exact ⟨rfl, HE.out⟩)
     | (go_wp2_with fail; exact ⟨rfl, rfl, HE.out⟩)
end Go.Proofs.YtpdoddhieblooaaGreatDoor
