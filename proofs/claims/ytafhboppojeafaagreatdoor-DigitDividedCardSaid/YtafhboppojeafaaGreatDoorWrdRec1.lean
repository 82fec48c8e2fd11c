/- digit.reckoned: its closure, over any operator and whatever fits. digit.reckoned, over any operator and whatever fits. -/
import Derived.Test.YtafhboppojeafaaGreatDoorWrdFit1
import Derived.Test.YtafhboppojeafaaGreatDoorWrdYes
import Derived.Test.YtafhboppojeafaaGreatDoorWrdCompare
import Derived.Test.YtafhboppojeafaaGreatDoorWrdMid
import Derived.Test.YtafhboppojeafaaGreatDoorWrdGuard
import Derived.BigRegion
namespace Go.Proofs.YtafhboppojeafaaGreatDoor
open Go.RowKit

theorem row_newc3 (w : World) (a b c : Addr) (v v' v'' : Value) (cs : Array Value) (t : TypeId) : Row ((((w.setCell a v).setCell b v').setCell c v'').alloc (.cells cs t)) w.heap.size cs t := by
  have h := Row.new (((w.setCell a v).setCell b v').setCell c v'') cs t
  have e : (((w.setCell a v).setCell b v').setCell c v'').heap.size = w.heap.size := by simp [World.setCell]
  rwa [e] at h
theorem row_put3 {w : World} {b : Nat} {v0 v1 v2 : Value} {t : TypeId} (h : Row w b (exC (.slice none 0 0) false (.slice none 0 0)) t) : Row (((w.setCell ⟨b, 0, none⟩ v0).setCell ⟨b, 1, none⟩ v1).setCell ⟨b, 2, none⟩ v2) b #[v0, v1, v2] t :=
  ((h.putv 0 v0).putv 1 v1).putv 2 v2
theorem XArg.mid {B : Nat} {w w' : World} {v : Value} {z : Int} {u : Nat} (h : XArg B w v z u) (hm : Mid B w w') : XArg B w' v z u := by
  obtain ⟨sl, s2, e, h1, h2⟩ := h; exact ⟨sl, s2, e, h1.mid hm, h2.mid hm⟩
/-- What stands behind the two exact numbers: their boxes. -/
def TwoX (W : World) (za zb : Int) (ua ub : Nat) (s7 s8 : Value) (wx : World) : Prop :=
  ∃ bX bY px kx qx mx py ky qy my, s7 = ptD bX ∧ s8 = ptD bY ∧ Row wx bX (exC (.slice px (wrds za.natAbs).length kx) (decide (za < 0)) (.slice qx (wrds ua).length mx)) 52 ∧ Row wx bY (exC (.slice py (wrds zb.natAbs).length ky) (decide (zb < 0)) (.slice qy (wrds ub).length my)) 52 ∧
    XArg 0 wx (exV (.slice px (wrds za.natAbs).length kx) (decide (za < 0)) (.slice qx (wrds ua).length mx)) za ua ∧ XArg 0 wx (exV (.slice py (wrds zb.natAbs).length ky) (decide (zb < 0)) (.slice qy (wrds ub).length my)) zb ub ∧ Below W.heap.size W wx ∧ W.heap.size ≤ bX ∧ W.heap.size ≤ bY
theorem twoX_mk {W wx w2 w3 : World} {za zb : Int} {ua ub bX bY B2 B3 kx mx ky my : Nat} {px qx py qy : Option Addr}
    (h1 : Row wx bX (exC (.slice px (wrds za.natAbs).length kx) (decide (za < 0)) (.slice qx (wrds ua).length mx)) 52) (h2 : Row wx bY (exC (.slice py (wrds zb.natAbs).length ky) (decide (zb < 0)) (.slice qy (wrds ub).length my)) 52)
    (h3 : XArg B2 w2 (exV (.slice px (wrds za.natAbs).length kx) (decide (za < 0)) (.slice qx (wrds ua).length mx)) za ua) (h4 : XArg B3 w3 (exV (.slice py (wrds zb.natAbs).length ky) (decide (zb < 0)) (.slice qy (wrds ub).length my)) zb ub) (m2 : Mid B2 w2 wx) (m3 : Mid B3 w3 wx) (hB : Below W.heap.size W wx) (l1 : W.heap.size ≤ bX) (l2 : W.heap.size ≤ bY) :
    TwoX W za zb ua ub (ptD bX) (ptD bY) wx := ⟨bX, bY, px, kx, qx, mx, py, ky, qy, my, rfl, rfl, h1, h2, (h3.mid m2).base (Nat.zero_le _), (h4.mid m3).base (Nat.zero_le _), hB, l1, l2⟩
theorem row_put4 {w : World} {b : Nat} {u0 u1 u2 u3 v0 v1 v2 v3 : Value} {t : TypeId} (h : Row w b #[u0, u1, u2, u3] t) : Row ((((w.setCell ⟨b, 0, none⟩ v0).setCell ⟨b, 1, none⟩ v1).setCell ⟨b, 2, none⟩ v2).setCell ⟨b, 3, none⟩ v3) b #[v0, v1, v2, v3] t :=
  (((h.putv 0 v0).putv 1 v1).putv 2 v2).putv 3 v3
theorem row_put1v {w : World} {b : Nat} {u0 v0 : Value} {t : TypeId} (h : Row w b #[u0] t) : Row (w.setCell ⟨b, 0, none⟩ v0) b #[v0] t := h.putv 0 v0

/-- How the closure ends: the value and the condition are laid. -/
def RecEnd (bV bC : Nat) (k N Q c : Int) (s : ByteArray) (w w' : World) : Prop := Row w' bV (vaC k N Q s) 23 ∧ Row w' bC #[.int .i64 c] 3 ∧ But bV bC w w'
theorem recEnd_mk {bV bC : Nat} {k N Q c : Int} {s : ByteArray} {w w6 : World} {u0 u1 u2 u3 u4 : Value} (V6 : Row w6 bV #[u0, u1, u2, u3] 23) (D6 : Row w6 bC #[u4] 3) (h1 : ¬ bC = bV) (h2 : ¬ bV = bC) (hB : Below w.heap.size w w6) : RecEnd bV bC k N Q c s w (((((w6.setCell ⟨bV, 0, none⟩ (.int .i64 k)).setCell ⟨bV, 1, none⟩ (.int .i64 N)).setCell ⟨bV, 2, none⟩ (.int .i64 Q)).setCell ⟨bV, 3, none⟩ (.string s)).setCell ⟨bC, 0, none⟩ (.int .i64 c)) :=
  ⟨(row_put4 V6).set h1, row_put1v ((((D6.set h2).set h2).set h2).set h2), by
    exact But.setC (But.setV (But.setV (But.setV (But.setV (But.of hB) 0 _) 1 _) 2 _) 3 _) 0 _⟩

set_option maxRecDepth 100000 in
set_option maxHeartbeats 8000000 in
theorem rec1_x {bA bB bT bL bO bV bC opf : Nat} {ka na qa kb nb qb k p q n L za zb Z N Q c : Int} {ua ub U : Nat} {sa sb pic s : ByteArray} {vy : Bool} {w : World} {F : World → Array Value → Prop}
    (RA : Row w bA (vaC ka na qa sa) 23) (RB : Row w bB (vaC kb nb qb sb) 23) (RT : Row w bT #[.int .i64 k, .int .i64 p, .int .i64 q, .int .i64 n, .bool vy, .string pic] 25) (RL : Row w bL #[.int .i64 L] 3) (RO : Row w bO #[fnv opf] 45) (RV : Row w bV (vaC 0 0 0 ⟨#[]⟩) 23) (RC : Row w bC #[.int .i64 0] 3)
    (hcf : ∀ (args : Array Value) (W : World), (callFunc opf args).run Tryz.prog W = .ok (.enter opf args) W)
    (hne : bV ≠ bC) (hVT : bV ≠ bT) (hVL : bV ≠ bL) (hVO : bV ≠ bO) (hCT : bC ≠ bT) (hCL : bC ≠ bL) (hCO : bC ≠ bO)
    (hDR : ∀ t ∈ [Va.mk ka na qa sa, Va.mk kb nb qb sb], ∀ W : World, Calls Tryz.prog 39 #[t.v] W (YesD W))
    (hDV : ∀ W, Calls Tryz.prog 32 #[.agg #[.int .i64 k, .int .i64 p, .int .i64 q, .int .i64 n, .bool vy, .string pic]] W fun e w' => e = .returned (.tuple #[]) ∧ Below W.heap.size W w')
    (hXA : ∀ W, Calls Tryz.prog 33 #[vaV ka na qa sa] W fun e w' => ∃ y, e = .returned y ∧ XArg W.heap.size w' y za ua ∧ Below W.heap.size W w')
    (hXB : ∀ W, Calls Tryz.prog 33 #[vaV kb nb qb sb] W fun e w' => ∃ y, e = .returned y ∧ XArg W.heap.size w' y zb ub ∧ Below W.heap.size W w')
    (hFL : ∀ {w w' : World} {cap : Array Value}, F w cap → Below w.heap.size w w' → F w' cap)
    (hFT : ∀ W, Calls Tryz.prog 34 #[.agg #[.int .i64 k, .int .i64 p, .int .i64 q, .int .i64 n, .bool vy, .string pic], .int .i64 0, .int .i64 L] W fun e w' => ∃ cap, e = .returned (.func (.func 73) #[] cap) ∧ F w' cap ∧ Below W.heap.size W w')
    (hOP : ∀ W vx vy, XArg 0 W vx za ua → XArg 0 W vy zb ub → Calls Tryz.prog opf #[vx, vy] W fun e w' => ∃ y, e = .returned y ∧ XArg 0 w' y Z U ∧ Below W.heap.size W w')
    (hFX : ∀ W cap vx, F W cap → XArg 0 W vx Z U → Calls Tryz.prog 73 (#[vx] ++ cap) W fun e w' => e = .returned (.tuple #[vaV k N Q s, .int .i64 c]) ∧ Below W.heap.size W w') :
    Calls Tryz.prog 31 #[ptD bA, ptD bB, ptD bT, ptD bL, ptD bO, ptD bV, ptD bC] w fun e w' => e = .returned (.tuple #[]) ∧ RecEnd bV bC k N Q c s w w' := by
  have hcg : ∀ (args : Array Value) (W : World), (callFunc 73 args).run Tryz.prog W = .ok (.enter 73 args) W := fun _ _ => by kernel_rfl
  have HDV := Lib.hid hDV; have HXA := Lib.hid hXA; have HXB := Lib.hid hXB; have HFT := Lib.hid hFT; have HOP := Lib.hid hOP; have HFX := Lib.hid hFX; have HDR := Lib.hid hDR
  have HFL : Hid (∀ (w w' : World) (cap : Array Value), F w cap → Below w.heap.size w w' → F w' cap) := Lib.hid fun _ _ _ h hb => hFL h hb
  clear hDV hXA hXB hFT hOP hFX hDR hFL
  obtain ⟨a0, a1, a2, a3⟩ := RA.four
  obtain ⟨b0, b1, b2, b3⟩ := RB.four
  have lA := RA.lt; have lB := RB.lt; have lT := RT.lt; have lL := RL.lt; have lO := RO.lt; have lV := RV.lt; have lC := RC.lt
  have RN := Row.new w #[.int .i64 ka, .int .i64 na, .int .i64 qa, .string sa, .int .i64 kb, .int .i64 nb, .int .i64 qb, .string sb] 23
  go_enter Tryz.func31, Tryz.ntmps31
  go_wp2_with (first
    | (go_at_call 28; refine (demRight_yes [⟨ka, na, qa, sa⟩, ⟨kb, nb, qb, sb⟩] _ 0 _ _ (VasAt.two RN) (by simp) RN.lt HDR.out).mono ?_; rintro e w1 ⟨rfl, hb1⟩; have HB1 := Lib.hid (bl_box (Below.refl _ w) hb1); clear hb1; obtain ⟨t0, t1, t2, t3, t4, t5⟩ := row_six (RT.keep HB1.out))
    | (go_at_call 32; (with_reducible refine (HDV.out _).mono ?_); rintro e W ⟨rfl, hb2⟩; have HB2 := Lib.hid (bl_then HB1.out hb2); clear hb2))
  have RA := RA.keep HB2.out
  have RB := RB.keep HB2.out
  have RT := RT.keep HB2.out
  have RL := RL.keep HB2.out
  have RO := RO.keep HB2.out
  have RV := RV.keep HB2.out
  have RC := RC.keep HB2.out
  have hsW := HB2.out.size
  clear a0 a1 a2 a3 b0 b1 b2 b3 t0 t1 t2 t3 t4 t5 RN
  obtain ⟨a0, a1, a2, a3⟩ := RA.four
  obtain ⟨b0, b1, b2, b3⟩ := RB.four
  have KS : Hid (∀ w', Below W.heap.size W w' → Below W.heap.size W w' ∧ (w'.cell? ⟨bA, 0, none⟩ = some (.int .i64 ka) ∧ w'.cell? ⟨bA, 1, none⟩ = some (.int .i64 na) ∧ w'.cell? ⟨bA, 2, none⟩ = some (.int .i64 qa) ∧ w'.cell? ⟨bA, 3, none⟩ = some (.string sa)) ∧ (w'.cell? ⟨bB, 0, none⟩ = some (.int .i64 kb) ∧ w'.cell? ⟨bB, 1, none⟩ = some (.int .i64 nb) ∧ w'.cell? ⟨bB, 2, none⟩ = some (.int .i64 qb) ∧ w'.cell? ⟨bB, 3, none⟩ = some (.string sb))) := by
    show ∀ _, _
    exact fun w' h => ⟨h, (RA.keep h).four, (RB.keep h).four⟩
  go_cut [7, 8] (fun s7 s8 wx => TwoX W za zb ua ub s7 s8 wx)
  case first =>
    go_region_held3 (fun w' => Below W.heap.size W w' ∧ (w'.cell? ⟨bA, 0, none⟩ = some (.int .i64 ka) ∧ w'.cell? ⟨bA, 1, none⟩ = some (.int .i64 na) ∧ w'.cell? ⟨bA, 2, none⟩ = some (.int .i64 qa) ∧ w'.cell? ⟨bA, 3, none⟩ = some (.string sa)) ∧ (w'.cell? ⟨bB, 0, none⟩ = some (.int .i64 kb) ∧ w'.cell? ⟨bB, 1, none⟩ = some (.int .i64 nb) ∧ w'.cell? ⟨bB, 2, none⟩ = some (.int .i64 qb) ∧ w'.cell? ⟨bB, 3, none⟩ = some (.string sb)))
      (exact KS.out _ (by (repeat' (with_reducible first | assumption | exact Below.refl _ _ | exact (Below.refl _ _).drew | refine Below.drew ?_ | refine Below.alloc ?_ (by first | omega | (simp; omega) | simp) _ | refine Below.setCell ?_ (by first | omega | (simp; omega) | simp) _))))
      (first
        | (go_at_call 33; first
          | ((with_reducible refine (HXA.out _).mono ?_); rintro e w2 ⟨v2, rfl, X2, hb2⟩; have C2 : Below W.heap.size W w2 := (by refine bl_then ?_ hb2; (repeat' (with_reducible first | assumption | exact Below.refl _ _ | exact (Below.refl _ _).drew | refine Below.drew ?_ | refine Below.alloc ?_ (by first | omega | (simp; omega) | simp) _ | refine Below.setCell ?_ (by first | omega | (simp; omega) | simp) _))); have z2 := C2.size; have X2' := Lib.hid X2; obtain ⟨px, kx, qx, mx, rfl⟩ := X2.open; clear X2; (try have P2 : Row w2 W.heap.size (exC (.slice none 0 0) false (.slice none 0 0)) 52 := (by first | exact Row.keep (Row.new W _ _).drew hb2 | exact Row.keep ((Row.new W _ _).alloc _).drew hb2)); (try have Q2 : Row w2 (W.heap.size + 1) (exC (.slice none 0 0) false (.slice none 0 0)) 52 := Row.keep (Row.new2 W _ _ _).drew hb2))
          | ((with_reducible refine (HXB.out _).mono ?_); rintro e w3 ⟨v3, rfl, X3, hb3⟩; have C3 : Below W.heap.size W w3 := (by refine bl_then ?_ hb3; (repeat' (with_reducible first | assumption | exact Below.refl _ _ | exact (Below.refl _ _).drew | refine Below.drew ?_ | refine Below.alloc ?_ (by first | omega | (simp; omega) | simp) _ | refine Below.setCell ?_ (by first | omega | (simp; omega) | simp) _))); have z3 := C3.size; have X3' := Lib.hid X3; obtain ⟨py, ky, qy, my, rfl⟩ := X3.open; clear X3; (try have P3 : Row w3 W.heap.size (exC (.slice none 0 0) false (.slice none 0 0)) 52 := (by first | exact Row.keep P2 hb3 | exact Row.keep (P2.alloc _) hb3)); (try have Q3 : Row w3 (W.heap.size + 1) (exC (.slice none 0 0) false (.slice none 0 0)) 52 := Row.keep Q2 hb3); (try have U3 : Row w3 w2.heap.size (exC (.slice none 0 0) false (.slice none 0 0)) 52 := (by first | exact Row.keep (Row.new w2 _ _) hb3 | exact Row.keep ((Row.new w2 _ _).alloc _) hb3)); (try have V3 : Row w3 (w2.heap.size + 1) (exC (.slice none 0 0) false (.slice none 0 0)) 52 := Row.keep (Row.new2 w2 _ _ _) hb3); (try obtain ⟨p0, p1, p2⟩ := P3.ex); (try have pf0 := P3.free 0); (try have pf1 := P3.free 1); (try have pf2 := P3.free 2); (try obtain ⟨q0, q1, q2⟩ := Q3.ex); (try have qf0 := Q3.free 0); (try have qf1 := Q3.free 1); (try have qf2 := Q3.free 2); (try obtain ⟨u0, u1, u2⟩ := U3.ex); (try have uf0 := U3.free 0); (try have uf1 := U3.free 1); (try have uf2 := U3.free 2); (try obtain ⟨v0, v1, v2⟩ := V3.ex); (try have vf0 := V3.free 0); (try have vf1 := V3.free 1); (try have vf2 := V3.free 2); have hb3z := hb3.size; have hb2z := hb2.size; (try simp at hb3z); (try simp at hb2z); (try have lp := P3.lt); (try have lq := Q3.lt); (try have lu := U3.lt); (try have lv := V3.lt); (try have lp2 := P2.lt); (try have ne1 : ¬ W.heap.size = w2.heap.size := (by omega)); (try have ne2 : ¬ w2.heap.size = W.heap.size := (by omega)))))
    all_goals
      go_wp2_with fail
      go_meet
      refine twoX_mk (w2 := w2) (w3 := w3) ?_ ?_ X2'.out X3'.out ?_ ?_ ?_ ?_ ?_
      case refine_5 => (repeat' (with_reducible first | assumption | exact Below.refl _ _ | exact (Below.refl _ _).drew | refine Below.drew ?_ | refine Below.alloc ?_ (by first | omega | (simp; omega) | simp) _ | refine Below.setCell ?_ (by first | omega | (simp; omega) | simp) _))
      case refine_3 => (repeat' (with_reducible first | exact Mid.refl _ _ | refine Mid.alloc ?_ _ | refine Mid.setCell ?_ (by first | omega | (simp; done) | (simp; omega) | (left; simp; omega) | (right; simp; omega)) _ | refine Mid.drew ?_ | refine Mid.call ?_ hb3))
      case refine_4 => (repeat' (with_reducible first | exact Mid.refl _ _ | refine Mid.alloc ?_ _ | refine Mid.setCell ?_ (by first | omega | (simp; done) | (simp; omega) | (left; simp; omega) | (right; simp; omega)) _ | refine Mid.drew ?_ | refine Mid.call ?_ hb3))
      case refine_6 => first | omega | (simp; omega) | simp
      case refine_7 => first | omega | (simp; omega) | simp
      all_goals (repeat' (with_reducible first | assumption | exact Row.new _ _ _ | exact row_newc3 _ _ _ _ _ _ _ _ _ | exact Row.new2 _ _ _ _ | refine Row.alloc ?_ _ | refine row_put3 ?_ | refine Row.set ?_ (by simp only [ne_eq]; omega)))
  case rest =>
    obtain ⟨W1, rfl⟩ : ∃ W1 : World, W1 = wc := ⟨_, rfl⟩
    obtain ⟨bX, bY, px, kx, qx, mx, py, ky, qy, my, rfl, rfl, RX, RY, X1, Y1, BB, lX, lY⟩ := hcut
    have RT := RT.keep BB
    have RL := RL.keep BB
    have RO := RO.keep BB
    have RV := RV.keep BB
    have RC := RC.keep BB
    have HB3 := Lib.hid (bl_then HB2.out BB)
    have HX1 := Lib.hid X1
    have HY1 := Lib.hid Y1
    clear RA RB a0 a1 a2 a3 b0 b1 b2 b3 KS BB X1 Y1
    have n1 : ¬ bV = bX := by omega
    have n1' : ¬ bX = bV := by omega
    have n2 : ¬ bV = bY := by omega
    have n2' : ¬ bY = bV := by omega
    have n3 : ¬ bC = bX := by omega
    have n3' : ¬ bX = bC := by omega
    have n4 : ¬ bC = bY := by omega
    have n4' : ¬ bY = bC := by omega
    have n5 : ¬ bT = bV := fun h => hVT h.symm
    have n6 : ¬ bL = bV := fun h => hVL h.symm
    have n7 : ¬ bO = bV := fun h => hVO h.symm
    have n8 : ¬ bT = bC := fun h => hCT h.symm
    have n9 : ¬ bL = bC := fun h => hCL h.symm
    have n10 : ¬ bO = bC := fun h => hCO h.symm
    have n11 : ¬ bC = bV := fun h => hne h.symm
    clear lA lB lT lL lO lV lC hsW lX lY HDR HDV HXA HXB HB1
    obtain ⟨t0, t1, t2, t3, t4, t5⟩ := row_six RT
    have l0 := RL.one
    have o0 := RO.one
    obtain ⟨x0, x1, x2⟩ := RX.ex
    obtain ⟨y0, y1, y2⟩ := RY.ex
    go_wp2_with fail
    go_region_held3 (fun w' => (w'.cell? ⟨bT, 0, none⟩ = some (.int .i64 k) ∧ w'.cell? ⟨bT, 1, none⟩ = some (.int .i64 p) ∧ w'.cell? ⟨bT, 2, none⟩ = some (.int .i64 q) ∧ w'.cell? ⟨bT, 3, none⟩ = some (.int .i64 n) ∧ w'.cell? ⟨bT, 4, none⟩ = some (.bool vy) ∧ w'.cell? ⟨bT, 5, none⟩ = some (.string pic)) ∧ w'.cell? ⟨bL, 0, none⟩ = some (.int .i64 L) ∧ w'.cell? ⟨bO, 0, none⟩ = some (fnv opf) ∧ (w'.cell? ⟨bX, 0, none⟩ = some (.slice px (wrds za.natAbs).length kx) ∧ w'.cell? ⟨bX, 1, none⟩ = some (.bool (decide (za < 0))) ∧ w'.cell? ⟨bX, 2, none⟩ = some (.slice qx (wrds ua).length mx)) ∧ (w'.cell? ⟨bY, 0, none⟩ = some (.slice py (wrds zb.natAbs).length ky) ∧ w'.cell? ⟨bY, 1, none⟩ = some (.bool (decide (zb < 0))) ∧ w'.cell? ⟨bY, 2, none⟩ = some (.slice qy (wrds ub).length my)))
      (first | go_keep | exact ⟨row_six T6, L6.one, O6.one, X6.ex, Y6.ex⟩ | exact ⟨row_six T5, L5.one, O5.one, X5.ex, Y5.ex⟩ | exact ⟨row_six T4, L4.one, O4.one, X4.ex, Y4.ex⟩ | ((try dsimp only); (repeat' apply And.intro) <;> go_keep))
      (first
        | (go_at_call 34; (with_reducible refine (HFT.out _).mono ?_); rintro e w4 ⟨cap, rfl, F4, hb4⟩; have T4 := RT.keep (bl_drew hb4); have L4 := RL.keep (bl_drew hb4); have O4 := RO.keep (bl_drew hb4); have X4 := RX.keep (bl_drew hb4); have Y4 := RY.keep (bl_drew hb4); have V4 := RV.keep (bl_drew hb4); have D4 := RC.keep (bl_drew hb4); have BW4 := Lib.hid (bl_drew hb4); have HF4 := Lib.hid F4; clear F4)
        | ((refine (HOP.out _ _ _ (HX1.out.keep BW4.out (Nat.le_refl _)) (HY1.out.keep BW4.out (Nat.le_refl _))).mono ?_); rintro e w5 ⟨y5, rfl, Z5, hb5⟩; have T5 := T4.keep hb5; have L5 := L4.keep hb5; have O5 := O4.keep hb5; have X5 := X4.keep hb5; have Y5 := Y4.keep hb5; have V5 := V4.keep hb5; have D5 := D4.keep hb5; have BW5 := Lib.hid (bl_then BW4.out hb5); have HF5 := Lib.hid (HFL.out _ _ _ HF4.out hb5); have HZ5 := Lib.hid Z5; obtain ⟨pz, kz, qz, mz, rfl⟩ := Z5.open; clear Z5)
        | ((refine (HFX.out _ _ _ HF5.out HZ5.out).mono ?_); rintro e w6 ⟨rfl, hb6⟩; have T6 := T5.keep hb6; have L6 := L5.keep hb6; have O6 := O5.keep hb6; have X6 := X5.keep hb6; have Y6 := Y5.keep hb6; have V6 := V5.keep hb6; have D6 := D5.keep hb6; have BW6 := Lib.hid (bl_then BW5.out hb6); obtain ⟨v0, v1, v2, v3⟩ := V6.four; have f0 := V6.free 0; have f1 := V6.free 1; have f2 := V6.free 2; have f3 := V6.free 3; have d0 := D6.one; have g0 := D6.free 0))
    all_goals
      have BB6 := bl_then HB3.out BW6.out
      have n11' : ¬ bV = bC := hne
      clear RX RY RT RL RO RV RC T4 T5 T6 L4 L5 L6 O4 O5 O6 X4 X5 X6 Y4 Y5 Y6 V4 V5 D4 D5 HX1 HY1 HOP HFX HFT HFL HF4 HF5 HZ5 BW4 BW5 BW6 hb4 hb5 hb6 v0 v1 v2 v3 f0 f1 f2 f3 d0 g0
      have HEND : RecEnd bV bC k N Q c s w (((((w6.setCell ⟨bV, 0, none⟩ (.int .i64 k)).setCell ⟨bV, 1, none⟩ (.int .i64 N)).setCell ⟨bV, 2, none⟩ (.int .i64 Q)).setCell ⟨bV, 3, none⟩ (.string s)).setCell ⟨bC, 0, none⟩ (.int .i64 c)) := recEnd_mk V6 D6 n11 n11' BB6
      generalize (((((w6.setCell ⟨bV, 0, none⟩ (.int .i64 k)).setCell ⟨bV, 1, none⟩ (.int .i64 N)).setCell ⟨bV, 2, none⟩ (.int .i64 Q)).setCell ⟨bV, 3, none⟩ (.string s)).setCell ⟨bC, 0, none⟩ (.int .i64 c)) = w7 at HEND ⊢
      have HE := Lib.hid HEND
      clear HEND V6 D6
      go_wp2
      go_end0
      exact ⟨rfl, HE.out⟩
end Go.Proofs.YtafhboppojeafaaGreatDoor
namespace Go.Proofs.YtafhboppojeafaaGreatDoor
open Go.RowKit

theorem row_n0 (w : World) (cs : Array Value) (t : TypeId) : Row (w.alloc (.cells cs t)) (w.heap.size) cs t := by
  have := Row.new w cs t
  exact this
theorem row_n1 (w : World) (o0 : Obj) (cs : Array Value) (t : TypeId) : Row ((w.alloc o0).alloc (.cells cs t)) (w.heap.size + 1) cs t := by
  have := Row.new (w.alloc o0) cs t
  rw [World.size_alloc] at this
  exact this
theorem row_n2 (w : World) (o0 : Obj) (o1 : Obj) (cs : Array Value) (t : TypeId) : Row (((w.alloc o0).alloc o1).alloc (.cells cs t)) (w.heap.size + 1 + 1) cs t := by
  have := Row.new ((w.alloc o0).alloc o1) cs t
  rw [World.size_alloc, World.size_alloc] at this
  exact this
theorem row_n3 (w : World) (o0 : Obj) (o1 : Obj) (o2 : Obj) (cs : Array Value) (t : TypeId) : Row ((((w.alloc o0).alloc o1).alloc o2).alloc (.cells cs t)) (w.heap.size + 1 + 1 + 1) cs t := by
  have := Row.new (((w.alloc o0).alloc o1).alloc o2) cs t
  rw [World.size_alloc, World.size_alloc, World.size_alloc] at this
  exact this
theorem row_n4 (w : World) (o0 : Obj) (o1 : Obj) (o2 : Obj) (o3 : Obj) (cs : Array Value) (t : TypeId) : Row (((((w.alloc o0).alloc o1).alloc o2).alloc o3).alloc (.cells cs t)) (w.heap.size + 1 + 1 + 1 + 1) cs t := by
  have := Row.new ((((w.alloc o0).alloc o1).alloc o2).alloc o3) cs t
  rw [World.size_alloc, World.size_alloc, World.size_alloc, World.size_alloc] at this
  exact this
theorem row_n5 (w : World) (o0 : Obj) (o1 : Obj) (o2 : Obj) (o3 : Obj) (o4 : Obj) (cs : Array Value) (t : TypeId) : Row ((((((w.alloc o0).alloc o1).alloc o2).alloc o3).alloc o4).alloc (.cells cs t)) (w.heap.size + 1 + 1 + 1 + 1 + 1) cs t := by
  have := Row.new (((((w.alloc o0).alloc o1).alloc o2).alloc o3).alloc o4) cs t
  rw [World.size_alloc, World.size_alloc, World.size_alloc, World.size_alloc, World.size_alloc] at this
  exact this
theorem row_n6 (w : World) (o0 : Obj) (o1 : Obj) (o2 : Obj) (o3 : Obj) (o4 : Obj) (o5 : Obj) (cs : Array Value) (t : TypeId) : Row (((((((w.alloc o0).alloc o1).alloc o2).alloc o3).alloc o4).alloc o5).alloc (.cells cs t)) (w.heap.size + 1 + 1 + 1 + 1 + 1 + 1) cs t := by
  have := Row.new ((((((w.alloc o0).alloc o1).alloc o2).alloc o3).alloc o4).alloc o5) cs t
  rw [World.size_alloc, World.size_alloc, World.size_alloc, World.size_alloc, World.size_alloc, World.size_alloc] at this
  exact this
theorem row_n7 (w : World) (o0 : Obj) (o1 : Obj) (o2 : Obj) (o3 : Obj) (o4 : Obj) (o5 : Obj) (o6 : Obj) (cs : Array Value) (t : TypeId) : Row ((((((((w.alloc o0).alloc o1).alloc o2).alloc o3).alloc o4).alloc o5).alloc o6).alloc (.cells cs t)) (w.heap.size + 1 + 1 + 1 + 1 + 1 + 1 + 1) cs t := by
  have := Row.new (((((((w.alloc o0).alloc o1).alloc o2).alloc o3).alloc o4).alloc o5).alloc o6) cs t
  rw [World.size_alloc, World.size_alloc, World.size_alloc, World.size_alloc, World.size_alloc, World.size_alloc, World.size_alloc] at this
  exact this

theorem rec_guard {opf : Nat} {ka na qa kb nb qb k p q n L za zb Z N Q c : Int} {ua ub U : Nat} {sa sb pic s : ByteArray} {vy : Bool} {w : World} {F : World → Array Value → Prop}
    (hcf : ∀ (args : Array Value) (W : World), (callFunc opf args).run Tryz.prog W = .ok (.enter opf args) W)
    (hDR : ∀ t ∈ [Va.mk ka na qa sa, Va.mk kb nb qb sb], ∀ W : World, Calls Tryz.prog 39 #[t.v] W (YesD W))
    (hDV : ∀ W, Calls Tryz.prog 32 #[.agg #[.int .i64 k, .int .i64 p, .int .i64 q, .int .i64 n, .bool vy, .string pic]] W fun e w' => e = .returned (.tuple #[]) ∧ Below W.heap.size W w')
    (hXA : ∀ W, Calls Tryz.prog 33 #[vaV ka na qa sa] W fun e w' => ∃ y, e = .returned y ∧ XArg W.heap.size w' y za ua ∧ Below W.heap.size W w')
    (hXB : ∀ W, Calls Tryz.prog 33 #[vaV kb nb qb sb] W fun e w' => ∃ y, e = .returned y ∧ XArg W.heap.size w' y zb ub ∧ Below W.heap.size W w')
    (hFL : ∀ {w w' : World} {cap : Array Value}, F w cap → Below w.heap.size w w' → F w' cap)
    (hFT : ∀ W, Calls Tryz.prog 34 #[.agg #[.int .i64 k, .int .i64 p, .int .i64 q, .int .i64 n, .bool vy, .string pic], .int .i64 0, .int .i64 L] W fun e w' => ∃ cap, e = .returned (.func (.func 73) #[] cap) ∧ F w' cap ∧ Below W.heap.size W w')
    (hOP : ∀ W vx vy, XArg 0 W vx za ua → XArg 0 W vy zb ub → Calls Tryz.prog opf #[vx, vy] W fun e w' => ∃ y, e = .returned y ∧ XArg 0 w' y Z U ∧ Below W.heap.size W w')
    (hFX : ∀ W cap vx, F W cap → XArg 0 W vx Z U → Calls Tryz.prog 73 (#[vx] ++ cap) W fun e w' => e = .returned (.tuple #[vaV k N Q s, .int .i64 c]) ∧ Below W.heap.size W w') :
    Calls Tryz.prog 26 #[.func (.func 31) #[] #[ptD (w.heap.size), ptD (w.heap.size + 1), ptD (w.heap.size + 1 + 1), ptD (w.heap.size + 1 + 1 + 1 + 1), ptD (w.heap.size + 1 + 1 + 1), ptD (w.heap.size + 1 + 1 + 1 + 1 + 1), ptD (w.heap.size + 1 + 1 + 1 + 1 + 1 + 1)]] (((((((w.alloc (.cells (vaC ka na qa sa) 23)).alloc (.cells (vaC kb nb qb sb) 23)).alloc (.cells #[.int .i64 k, .int .i64 p, .int .i64 q, .int .i64 n, .bool vy, .string pic] 25)).alloc (.cells #[fnv opf] 45)).alloc (.cells #[.int .i64 L] 3)).alloc (.cells (vaC 0 0 0 ⟨#[]⟩) 23)).alloc (.cells #[.int .i64 0] 3)) fun e w' => e = .returned (.int .i64 0) ∧ Row w' (w.heap.size + 1 + 1 + 1 + 1 + 1) (vaC k N Q s) 23 ∧ Row w' (w.heap.size + 1 + 1 + 1 + 1 + 1 + 1) #[.int .i64 c] 3 ∧ Below w.heap.size w w' := by
  have hcr : ∀ W : World, (callFunc 31 #[ptD (w.heap.size), ptD (w.heap.size + 1), ptD (w.heap.size + 1 + 1), ptD (w.heap.size + 1 + 1 + 1 + 1), ptD (w.heap.size + 1 + 1 + 1), ptD (w.heap.size + 1 + 1 + 1 + 1 + 1), ptD (w.heap.size + 1 + 1 + 1 + 1 + 1 + 1)]).run Tryz.prog W = .ok (.enter 31 #[ptD (w.heap.size), ptD (w.heap.size + 1), ptD (w.heap.size + 1 + 1), ptD (w.heap.size + 1 + 1 + 1 + 1), ptD (w.heap.size + 1 + 1 + 1), ptD (w.heap.size + 1 + 1 + 1 + 1 + 1), ptD (w.heap.size + 1 + 1 + 1 + 1 + 1 + 1)]) W := fun W => enters_of Tryz.func31 (by kernel_rfl) rfl _ W
  have Rw0 : Row ((((((((w.alloc (.cells (vaC ka na qa sa) 23)).alloc (.cells (vaC kb nb qb sb) 23)).alloc (.cells #[.int .i64 k, .int .i64 p, .int .i64 q, .int .i64 n, .bool vy, .string pic] 25)).alloc (.cells #[fnv opf] 45)).alloc (.cells #[.int .i64 L] 3)).alloc (.cells (vaC 0 0 0 ⟨#[]⟩) 23)).alloc (.cells #[.int .i64 0] 3)).alloc (.cells #[.int .i64 0] 30)) (w.heap.size) _ _ := ((((((((row_n0 w  (vaC ka na qa sa) 23).alloc (.cells (vaC kb nb qb sb) 23)).alloc (.cells #[.int .i64 k, .int .i64 p, .int .i64 q, .int .i64 n, .bool vy, .string pic] 25)).alloc (.cells #[fnv opf] 45)).alloc (.cells #[.int .i64 L] 3)).alloc (.cells (vaC 0 0 0 ⟨#[]⟩) 23)).alloc (.cells #[.int .i64 0] 3)).alloc (.cells #[.int .i64 0] 30))
  have Rw1 : Row ((((((((w.alloc (.cells (vaC ka na qa sa) 23)).alloc (.cells (vaC kb nb qb sb) 23)).alloc (.cells #[.int .i64 k, .int .i64 p, .int .i64 q, .int .i64 n, .bool vy, .string pic] 25)).alloc (.cells #[fnv opf] 45)).alloc (.cells #[.int .i64 L] 3)).alloc (.cells (vaC 0 0 0 ⟨#[]⟩) 23)).alloc (.cells #[.int .i64 0] 3)).alloc (.cells #[.int .i64 0] 30)) (w.heap.size + 1) _ _ := (((((((row_n1 w (.cells (vaC ka na qa sa) 23) (vaC kb nb qb sb) 23).alloc (.cells #[.int .i64 k, .int .i64 p, .int .i64 q, .int .i64 n, .bool vy, .string pic] 25)).alloc (.cells #[fnv opf] 45)).alloc (.cells #[.int .i64 L] 3)).alloc (.cells (vaC 0 0 0 ⟨#[]⟩) 23)).alloc (.cells #[.int .i64 0] 3)).alloc (.cells #[.int .i64 0] 30))
  have Rw2 : Row ((((((((w.alloc (.cells (vaC ka na qa sa) 23)).alloc (.cells (vaC kb nb qb sb) 23)).alloc (.cells #[.int .i64 k, .int .i64 p, .int .i64 q, .int .i64 n, .bool vy, .string pic] 25)).alloc (.cells #[fnv opf] 45)).alloc (.cells #[.int .i64 L] 3)).alloc (.cells (vaC 0 0 0 ⟨#[]⟩) 23)).alloc (.cells #[.int .i64 0] 3)).alloc (.cells #[.int .i64 0] 30)) (w.heap.size + 1 + 1) _ _ := ((((((row_n2 w (.cells (vaC ka na qa sa) 23) (.cells (vaC kb nb qb sb) 23) #[.int .i64 k, .int .i64 p, .int .i64 q, .int .i64 n, .bool vy, .string pic] 25).alloc (.cells #[fnv opf] 45)).alloc (.cells #[.int .i64 L] 3)).alloc (.cells (vaC 0 0 0 ⟨#[]⟩) 23)).alloc (.cells #[.int .i64 0] 3)).alloc (.cells #[.int .i64 0] 30))
  have Rw3 : Row ((((((((w.alloc (.cells (vaC ka na qa sa) 23)).alloc (.cells (vaC kb nb qb sb) 23)).alloc (.cells #[.int .i64 k, .int .i64 p, .int .i64 q, .int .i64 n, .bool vy, .string pic] 25)).alloc (.cells #[fnv opf] 45)).alloc (.cells #[.int .i64 L] 3)).alloc (.cells (vaC 0 0 0 ⟨#[]⟩) 23)).alloc (.cells #[.int .i64 0] 3)).alloc (.cells #[.int .i64 0] 30)) (w.heap.size + 1 + 1 + 1) _ _ := (((((row_n3 w (.cells (vaC ka na qa sa) 23) (.cells (vaC kb nb qb sb) 23) (.cells #[.int .i64 k, .int .i64 p, .int .i64 q, .int .i64 n, .bool vy, .string pic] 25) #[fnv opf] 45).alloc (.cells #[.int .i64 L] 3)).alloc (.cells (vaC 0 0 0 ⟨#[]⟩) 23)).alloc (.cells #[.int .i64 0] 3)).alloc (.cells #[.int .i64 0] 30))
  have Rw4 : Row ((((((((w.alloc (.cells (vaC ka na qa sa) 23)).alloc (.cells (vaC kb nb qb sb) 23)).alloc (.cells #[.int .i64 k, .int .i64 p, .int .i64 q, .int .i64 n, .bool vy, .string pic] 25)).alloc (.cells #[fnv opf] 45)).alloc (.cells #[.int .i64 L] 3)).alloc (.cells (vaC 0 0 0 ⟨#[]⟩) 23)).alloc (.cells #[.int .i64 0] 3)).alloc (.cells #[.int .i64 0] 30)) (w.heap.size + 1 + 1 + 1 + 1) _ _ := ((((row_n4 w (.cells (vaC ka na qa sa) 23) (.cells (vaC kb nb qb sb) 23) (.cells #[.int .i64 k, .int .i64 p, .int .i64 q, .int .i64 n, .bool vy, .string pic] 25) (.cells #[fnv opf] 45) #[.int .i64 L] 3).alloc (.cells (vaC 0 0 0 ⟨#[]⟩) 23)).alloc (.cells #[.int .i64 0] 3)).alloc (.cells #[.int .i64 0] 30))
  have Rw5 : Row ((((((((w.alloc (.cells (vaC ka na qa sa) 23)).alloc (.cells (vaC kb nb qb sb) 23)).alloc (.cells #[.int .i64 k, .int .i64 p, .int .i64 q, .int .i64 n, .bool vy, .string pic] 25)).alloc (.cells #[fnv opf] 45)).alloc (.cells #[.int .i64 L] 3)).alloc (.cells (vaC 0 0 0 ⟨#[]⟩) 23)).alloc (.cells #[.int .i64 0] 3)).alloc (.cells #[.int .i64 0] 30)) (w.heap.size + 1 + 1 + 1 + 1 + 1) _ _ := (((row_n5 w (.cells (vaC ka na qa sa) 23) (.cells (vaC kb nb qb sb) 23) (.cells #[.int .i64 k, .int .i64 p, .int .i64 q, .int .i64 n, .bool vy, .string pic] 25) (.cells #[fnv opf] 45) (.cells #[.int .i64 L] 3) (vaC 0 0 0 ⟨#[]⟩) 23).alloc (.cells #[.int .i64 0] 3)).alloc (.cells #[.int .i64 0] 30))
  have Rw6 : Row ((((((((w.alloc (.cells (vaC ka na qa sa) 23)).alloc (.cells (vaC kb nb qb sb) 23)).alloc (.cells #[.int .i64 k, .int .i64 p, .int .i64 q, .int .i64 n, .bool vy, .string pic] 25)).alloc (.cells #[fnv opf] 45)).alloc (.cells #[.int .i64 L] 3)).alloc (.cells (vaC 0 0 0 ⟨#[]⟩) 23)).alloc (.cells #[.int .i64 0] 3)).alloc (.cells #[.int .i64 0] 30)) (w.heap.size + 1 + 1 + 1 + 1 + 1 + 1) _ _ := ((row_n6 w (.cells (vaC ka na qa sa) 23) (.cells (vaC kb nb qb sb) 23) (.cells #[.int .i64 k, .int .i64 p, .int .i64 q, .int .i64 n, .bool vy, .string pic] 25) (.cells #[fnv opf] 45) (.cells #[.int .i64 L] 3) (.cells (vaC 0 0 0 ⟨#[]⟩) 23) #[.int .i64 0] 3).alloc (.cells #[.int .i64 0] 30))
  have Rw7 : Row ((((((((w.alloc (.cells (vaC ka na qa sa) 23)).alloc (.cells (vaC kb nb qb sb) 23)).alloc (.cells #[.int .i64 k, .int .i64 p, .int .i64 q, .int .i64 n, .bool vy, .string pic] 25)).alloc (.cells #[fnv opf] 45)).alloc (.cells #[.int .i64 L] 3)).alloc (.cells (vaC 0 0 0 ⟨#[]⟩) 23)).alloc (.cells #[.int .i64 0] 3)).alloc (.cells #[.int .i64 0] 30)) (w.heap.size + 1 + 1 + 1 + 1 + 1 + 1 + 1) _ _ := (row_n7 w (.cells (vaC ka na qa sa) 23) (.cells (vaC kb nb qb sb) 23) (.cells #[.int .i64 k, .int .i64 p, .int .i64 q, .int .i64 n, .bool vy, .string pic] 25) (.cells #[fnv opf] 45) (.cells #[.int .i64 L] 3) (.cells (vaC 0 0 0 ⟨#[]⟩) 23) (.cells #[.int .i64 0] 3) #[.int .i64 0] 30)
  have hs : (((((((w.alloc (.cells (vaC ka na qa sa) 23)).alloc (.cells (vaC kb nb qb sb) 23)).alloc (.cells #[.int .i64 k, .int .i64 p, .int .i64 q, .int .i64 n, .bool vy, .string pic] 25)).alloc (.cells #[fnv opf] 45)).alloc (.cells #[.int .i64 L] 3)).alloc (.cells (vaC 0 0 0 ⟨#[]⟩) 23)).alloc (.cells #[.int .i64 0] 3)).heap.size = w.heap.size + 1 + 1 + 1 + 1 + 1 + 1 + 1 := by simp
  have hB : Below w.heap.size w ((((((((w.alloc (.cells (vaC ka na qa sa) 23)).alloc (.cells (vaC kb nb qb sb) 23)).alloc (.cells #[.int .i64 k, .int .i64 p, .int .i64 q, .int .i64 n, .bool vy, .string pic] 25)).alloc (.cells #[fnv opf] 45)).alloc (.cells #[.int .i64 L] 3)).alloc (.cells (vaC 0 0 0 ⟨#[]⟩) 23)).alloc (.cells #[.int .i64 0] 3)).alloc (.cells #[.int .i64 0] 30)) := by go_grown
  have hs8 : ((((((((w.alloc (.cells (vaC ka na qa sa) 23)).alloc (.cells (vaC kb nb qb sb) 23)).alloc (.cells #[.int .i64 k, .int .i64 p, .int .i64 q, .int .i64 n, .bool vy, .string pic] 25)).alloc (.cells #[fnv opf] 45)).alloc (.cells #[.int .i64 L] 3)).alloc (.cells (vaC 0 0 0 ⟨#[]⟩) 23)).alloc (.cells #[.int .i64 0] 3)).alloc (.cells #[.int .i64 0] 30)).heap.size = w.heap.size + 1 + 1 + 1 + 1 + 1 + 1 + 1 + 1 := by simp
  refine (guard_ok (R := fun w' => Row w' (w.heap.size + 1 + 1 + 1 + 1 + 1) (vaC k N Q s) 23 ∧ Row w' (w.heap.size + 1 + 1 + 1 + 1 + 1 + 1) #[.int .i64 c] 3 ∧ Below w.heap.size w w') _ _ _ hcr ?_).mono ?_
  · refine (rec1_x (F := F) Rw0 Rw1 Rw2 Rw4 Rw3 Rw5 Rw6 hcf (by omega) (by omega) (by omega) (by omega) (by omega) (by omega) (by omega) hDR hDV hXA hXB @hFL hFT hOP hFX).mono ?_
    rintro e w' ⟨rfl, h5, h6, hbut⟩
    have hg := hbut.row Rw7 (by omega) (by omega)
    refine ⟨rfl, ?_, ?_, h5, h6, hbut.below hB (by omega) (by omega) (by omega)⟩
    · rw [hs]; exact hg.one
    · rw [hs]; exact hg.free 0
  · rintro e w' ⟨rfl, w1, ⟨h5, h6, hb⟩, rfl⟩
    refine ⟨rfl, h5.set (by rw [hs]; simp <;> omega), h6.set (by rw [hs]; simp <;> omega), hb.setCell (by rw [hs]; simp <;> omega) _⟩

set_option maxRecDepth 100000 in
set_option maxHeartbeats 4000000 in
theorem rec_x {opf : Nat} {ka na qa kb nb qb k p q n L za zb Z N Q c : Int} {ua ub U : Nat} {sa sb pic s : ByteArray} {vy : Bool} {w : World} {F : World → Array Value → Prop}
    (hcf : ∀ (args : Array Value) (W : World), (callFunc opf args).run Tryz.prog W = .ok (.enter opf args) W)
    (hDR : ∀ t ∈ [Va.mk ka na qa sa, Va.mk kb nb qb sb], ∀ W : World, Calls Tryz.prog 39 #[t.v] W (YesD W))
    (hDV : ∀ W, Calls Tryz.prog 32 #[.agg #[.int .i64 k, .int .i64 p, .int .i64 q, .int .i64 n, .bool vy, .string pic]] W fun e w' => e = .returned (.tuple #[]) ∧ Below W.heap.size W w')
    (hXA : ∀ W, Calls Tryz.prog 33 #[vaV ka na qa sa] W fun e w' => ∃ y, e = .returned y ∧ XArg W.heap.size w' y za ua ∧ Below W.heap.size W w')
    (hXB : ∀ W, Calls Tryz.prog 33 #[vaV kb nb qb sb] W fun e w' => ∃ y, e = .returned y ∧ XArg W.heap.size w' y zb ub ∧ Below W.heap.size W w')
    (hFL : ∀ {w w' : World} {cap : Array Value}, F w cap → Below w.heap.size w w' → F w' cap)
    (hFT : ∀ W, Calls Tryz.prog 34 #[.agg #[.int .i64 k, .int .i64 p, .int .i64 q, .int .i64 n, .bool vy, .string pic], .int .i64 0, .int .i64 L] W fun e w' => ∃ cap, e = .returned (.func (.func 73) #[] cap) ∧ F w' cap ∧ Below W.heap.size W w')
    (hOP : ∀ W vx vy, XArg 0 W vx za ua → XArg 0 W vy zb ub → Calls Tryz.prog opf #[vx, vy] W fun e w' => ∃ y, e = .returned y ∧ XArg 0 w' y Z U ∧ Below W.heap.size W w')
    (hFX : ∀ W cap vx, F W cap → XArg 0 W vx Z U → Calls Tryz.prog 73 (#[vx] ++ cap) W fun e w' => e = .returned (.tuple #[vaV k N Q s, .int .i64 c]) ∧ Below W.heap.size W w') :
    Calls Tryz.prog 16 #[vaV ka na qa sa, vaV kb nb qb sb, .agg #[.int .i64 k, .int .i64 p, .int .i64 q, .int .i64 n, .bool vy, .string pic], fnv opf, .int .i64 L] w fun e w' => e = .returned (.tuple #[vaV k N Q s, .int .i64 c, .int .i64 0]) ∧ Below w.heap.size w w' := by
  have hmf : ∀ (fn : Fn) (first cap : Array Value) (w : World), (Instr.makeFunc fn first cap).run Tryz.prog w = .ok (.func fn first cap) w := fun _ _ _ _ => rfl
  have HG := Lib.hid (rec_guard (w := w) (F := F) hcf hDR hDV hXA hXB @hFL hFT hOP hFX)
  clear hcf hDR hDV hXA hXB hFL hFT hOP hFX
  go_enter Tryz.func16, Tryz.ntmps16
  go_wp2_with (go_at_call 26; refine HG.out.mono ?_; rintro e w1 ⟨rfl, h5, h6, hb⟩; have HB := Lib.hid hb; clear hb; obtain ⟨v0, v1, v2, v3⟩ := h5.four; have f0 := h5.free 0; have f1 := h5.free 1; have f2 := h5.free 2; have f3 := h5.free 3; have c0 := h6.one; have g0 := h6.free 0)
  have hV : w.heap.size ≤ w.heap.size + 1 + 1 + 1 + 1 + 1 := by omega
  have HN : w1.heap.size = w1.heap.size := rfl
  clear HG HN
  generalize w.heap.size + 1 + 1 + 1 + 1 + 1 = bV at *
  have n1 : ¬ bV + 1 = bV := by omega
  have n2 : ¬ bV = bV + 1 := by omega
  go_region
  have HE := recEnd_mk (c := c) (k := k) (N := N) (Q := Q) (s := s) h5 h6 n1 n2 (Below.refl _ w1)
  have HW : Below w.heap.size w (((((w1.setCell ⟨bV, 0, none⟩ (.int .i64 k)).setCell ⟨bV, 1, none⟩ (.int .i64 N)).setCell ⟨bV, 2, none⟩ (.int .i64 Q)).setCell ⟨bV, 3, none⟩ (.string s)).setCell ⟨bV + 1, 0, none⟩ (.int .i64 c)).drew := (HE.2.2.below HB.out hV (Nat.le_succ_of_le hV) HB.out.size).drew
  have HE1 : Row (((((w1.setCell ⟨bV, 0, none⟩ (.int .i64 k)).setCell ⟨bV, 1, none⟩ (.int .i64 N)).setCell ⟨bV, 2, none⟩ (.int .i64 Q)).setCell ⟨bV, 3, none⟩ (.string s)).setCell ⟨bV + 1, 0, none⟩ (.int .i64 c)).drew bV (vaC k N Q s) 23 := HE.1.drewN 1
  have HE2 : Row (((((w1.setCell ⟨bV, 0, none⟩ (.int .i64 k)).setCell ⟨bV, 1, none⟩ (.int .i64 N)).setCell ⟨bV, 2, none⟩ (.int .i64 Q)).setCell ⟨bV, 3, none⟩ (.string s)).setCell ⟨bV + 1, 0, none⟩ (.int .i64 c)).drew (bV + 1) #[.int .i64 c] 3 := HE.2.1.drewN 1
  clear HE HB h5 h6 v0 v1 v2 v3 f0 f1 f2 f3 c0 g0
  generalize (((((w1.setCell ⟨bV, 0, none⟩ (.int .i64 k)).setCell ⟨bV, 1, none⟩ (.int .i64 N)).setCell ⟨bV, 2, none⟩ (.int .i64 Q)).setCell ⟨bV, 3, none⟩ (.string s)).setCell ⟨bV + 1, 0, none⟩ (.int .i64 c)).drew = w7 at HW HE1 HE2 ⊢
  have HW := Lib.hid HW
  obtain ⟨z0, z1, z2, z3⟩ := HE1.four
  have z4 := HE2.one
  clear HE1 HE2
  go_wp2
  refine bodyPost_ret (v := .tuple #[vaV k N Q s, .int .i64 c, .int .i64 0]) (by simp [results, Tryz.results16, go_sem, z0, z1, z2, z3, z4]) rfl ⟨rfl, HW.out⟩
end Go.Proofs.YtafhboppojeafaaGreatDoor
