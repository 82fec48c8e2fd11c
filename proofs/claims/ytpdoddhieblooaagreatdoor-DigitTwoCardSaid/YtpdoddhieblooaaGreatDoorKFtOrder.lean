/- ironbarkref01.Both: like signs, and a positive number less a smaller one. ironbarkref01.Both: other signs. ironbarkref01.Both: a sum of two exact numbers, of any signs. ironbarkref01.Order, of two numbers that are the same one. ironbarkref01.Order, of two numbers from 0 on. ironbarkref01.Order of two numbers of any signs. -/
import Derived.Test.YtpdoddhieblooaaGreatDoorKFtOutB
import Derived.Test.YtpdoddhieblooaaGreatDoorKExTurn
import Derived.Deep.DeepCutAuto
namespace Go.Proofs.YtpdoddhieblooaaGreatDoor
open Go.RowKit

set_option maxRecDepth 100000 in
set_option maxHeartbeats 8000000 in
theorem both_ff {B C : Nat} {w : World} {u v : Value} {a b c d : Nat} (hx : RArg B w u false a b) (hy : RArg C w v false c d)
   (la : (digs a).length ≤ 4000) (lb : (digs b).length ≤ 4000) (lc : (digs c).length ≤ 4000) (ld : (digs d).length ≤ 4000) :
   Calls Tryz.prog 37 #[u, v] w (GivesR w false (a * d + c * b) (b * d)) := by
 obtain ⟨va, vb, rfl, Da, Db⟩ := hx
 obtain ⟨vc, vd, rfl, Dc, Dd⟩ := hy
 obtain ⟨pa, ka, rfl⟩ := Da.slice
 obtain ⟨pb, kb, rfl⟩ := Db.slice
 obtain ⟨pc, kc, rfl⟩ := Dc.slice
 obtain ⟨pd, kd, rfl⟩ := Dd.slice
 have q1 := s2
 have q2 := s2'
 have q3 := l2
 have q4 := l3
 have DA := Lib.hid Da
 have DB := Lib.hid Db
 have DC := Lib.hid Dc
 have DD := Lib.hid Dd
 clear Da Db Dc Dd
 go_enter Tryz.func37, Tryz.ntmps37
 go_wp2
 go_region_held3 (fun w' => (w'.cell? ⟨w.heap.size, 1, none⟩ = some (.slice pa (digs a).length ka) ∧ w'.cell? ⟨w.heap.size, 2, none⟩ = some (.slice pb (digs b).length kb)) ∧
     (w'.cell? ⟨w.heap.size + 1, 1, none⟩ = some (.slice pc (digs c).length kc) ∧ w'.cell? ⟨w.heap.size + 1, 2, none⟩ = some (.slice pd (digs d).length kd)))
   (first | go_keep | (go_split_ands; refine ⟨⟨?_, ?_⟩, ?_, ?_⟩ <;> first | assumption | (rw [hb2.cell (by simp <;> omega)]; assumption)))
   (first
     | (go_at_call_of 54 (Value.slice pa (digs a).length ka); refine (mul_d (DA.out.keep (C := w.heap.size) (by go_grown) (Nat.le_refl _)) (DD.out.keep (C := w.heap.size) (by go_grown) (Nat.le_refl _)) (by omega) (by omega)).mono ?_; rintro e w1 ⟨v1, rfl, D1, hb1⟩; obtain ⟨p1, k1, rfl⟩ := D1.slice; obtain ⟨HX, HY, HR, hz, hw1⟩ := three (undrew hb1); obtain ⟨x0, x1, x2, xf⟩ := hcells HX; obtain ⟨y0, y1, y2, yf⟩ := hcells HY; have D1 := Lib.hid D1; have HX := Lib.hid HX; have HY := Lib.hid HY; have HR := Lib.hid HR; clear hb1; have M2 := Lib.hid (mul_d (DC.out.keep hw1 (Nat.le_refl _)) (DB.out.keep hw1 (Nat.le_refl _)) (by omega) (by omega)))
     | (go_at_call_of 54 (Value.slice pc (digs c).length kc); refine M2.out.mono ?_; rintro e w2 ⟨v2, rfl, D2, hb2⟩; obtain ⟨p2, k2, rfl⟩ := D2.slice; have D1' := Lib.hid (D1.out.keep hb2 (Nat.le_refl _)); have HX' := Lib.hid (hx_keep HX.out hb2); have HY' := Lib.hid (hx_keep HY.out hb2); have HR' := Lib.hid (hx_keep HR.out hb2)))
 have hw2 : Below w.heap.size w w2 := hw1.trans (hb2.mono hw1.size)
 have hz2 : w.heap.size + 1 + 1 < w2.heap.size := by have := hb2.size; omega
 have M3 := Lib.hid (mul_d (DB.out.keep hw2 (Nat.le_refl _)) (DD.out.keep hw2 (Nat.le_refl _)) (by omega) (by omega))
 clear x0 x1 x2 xf y0 y1 y2 yf hz
 obtain ⟨x0, x1, x2, xf⟩ := hcells HX'.out
 obtain ⟨y0, y1, y2, yf⟩ := hcells HY'.out
 clear hb2
 have hl1 := digs_len_mul a d
 have hl2 := digs_len_mul c b
 go_wp2_with (go_at_call 54; refine M3.out.mono ?_; rintro e w3 ⟨v3, rfl, D3, hb3⟩; obtain ⟨p3, k3, rfl⟩ := D3.slice; clear x0 x1 x2 xf y0 y1 y2 yf; obtain ⟨x0, x1, x2, xf⟩ := hcells (hx_keep HX'.out hb3); obtain ⟨y0, y1, y2, yf⟩ := hcells (hx_keep HY'.out hb3); have hz3 := hb3.size; have g0 : w.heap.size < w3.heap.size := (by omega); have g1 : w.heap.size + 1 < w3.heap.size := (by omega); have g2 : ¬ w3.heap.size = w.heap.size := (by omega); have g3 : ¬ w.heap.size = w3.heap.size := (by omega); have g4 : ¬ w3.heap.size = w.heap.size + 1 + 1 := (by omega); have g5 : ¬ w.heap.size + 1 + 1 = w3.heap.size := (by omega); have g6 : w.heap.size + 1 + 1 < w3.heap.size := (by omega); have g7 : ¬ w3.heap.size = w.heap.size + 1 := (by omega); have g8 : ¬ w.heap.size + 1 = w3.heap.size := (by omega); have D3 := Lib.hid D3; have HR3 := Lib.hid (hx_keep HR'.out hb3); have hw3 := hw2.trans (hb3.mono hw2.size); have D13 := Lib.hid (D1'.out.keep hb3 (Nat.le_refl _)); have D23 := Lib.hid (D2.keep hb3 (Nat.le_refl _)); clear hb3)
 go_region_held3 (fun w' => w'.cell? ⟨w.heap.size, 0, none⟩ = some (.bool false))
   (first | go_keep | (exact (hb4.cell (by simp <;> omega)).trans ((World.cell?_alloc_past _ _ _ (by exact g0)).trans x0)))
   (first
     | (go_at_call 71; refine (plus_d (D13.out.keep (C := w3.heap.size) (by go_grown) (Nat.le_refl _)) (D23.out.keep (C := w3.heap.size) (by go_grown) (Nat.le_refl _)) (by omega) (by omega)).mono ?_; rintro e w4 ⟨v4, rfl, D4, hb4⟩; obtain ⟨p4, k4, rfl⟩ := D4.slice; have hb4 := undrew hb4; obtain ⟨c0, c1, c2, cf⟩ := hcells (hx_keep (hx_last w3 _ _ rfl) hb4); obtain ⟨r0, r1, r2, rf⟩ := hcells (hx_keep (hx_old HR3.out) hb4); have hw34 := ((Below.refl w3.heap.size w3).alloc (Nat.le_refl _) _).trans (hb4.mono (by simp)); have D4 := Lib.hid D4; have hz4 := hb4.size))
 go_wp2
 have hz34 := hw34.size
 have hw4 := hw3.trans (hw34.mono hw3.size)
 refine bodyPost_ret (v := reV false (.slice p4 (digs (a * d + c * b)).length k4) (.slice p3 (digs (b * d)).length k3)) (by simp [results, Tryz.results37, go_sem, r0, r1, r2]) rfl ⟨_, rfl, ⟨_, _, rfl, ?_, ?_⟩, ?_⟩
 · exact ((((((D4.out.setCell _ (by simp <;> omega)).setCell _ (by simp <;> omega)).setCell _ (by simp <;> omega)).setCell _ (by simp <;> omega)).setCell _ (by simp <;> omega)).setCell _ (by simp <;> omega)).base (by simp <;> omega)
 · have e3 := D3.out.keep (((hw34.setCell (p := ⟨w3.heap.size, 0, none⟩) (Nat.le_refl _) (.bool false)).setCell (p := ⟨w3.heap.size, 1, none⟩) (Nat.le_refl _) (.slice p4 (digs (a * d + c * b)).length k4)).setCell (p := ⟨w3.heap.size, 0, none⟩) (Nat.le_refl _) (.bool false)) (Nat.le_refl _)
   exact (((e3.setCell _ (by simp <;> omega)).setCell _ (by simp <;> omega)).setCell _ (by simp <;> omega)).base (by omega)
 · exact (((((hw4.setCell (by simp <;> omega) _).setCell (by simp <;> omega) _).setCell (by simp <;> omega) _).setCell (by simp <;> omega) _).setCell (by simp <;> omega) _).setCell (by simp <;> omega) _
set_option maxRecDepth 100000 in
set_option maxHeartbeats 8000000 in
theorem both_tt1 {B C : Nat} {w : World} {u v : Value} {a b c d : Nat} (hx : RArg B w u true a b) (hy : RArg C w v true c d)
   (la : (digs a).length ≤ 4000) (lb : (digs b).length ≤ 4000) (lc : (digs c).length ≤ 4000) (ld : (digs d).length ≤ 4000) (hpos : 0 < a * d + c * b) :
   Calls Tryz.prog 37 #[u, v] w (GivesR w true (a * d + c * b) (b * d)) := by
 obtain ⟨va, vb, rfl, Da, Db⟩ := hx
 obtain ⟨vc, vd, rfl, Dc, Dd⟩ := hy
 obtain ⟨pa, ka, rfl⟩ := Da.slice
 obtain ⟨pb, kb, rfl⟩ := Db.slice
 obtain ⟨pc, kc, rfl⟩ := Dc.slice
 obtain ⟨pd, kd, rfl⟩ := Dd.slice
 have q1 := s2
 have q2 := s2'
 have q3 := l2
 have q4 := l3
 have DA := Lib.hid Da
 have DB := Lib.hid Db
 have DC := Lib.hid Dc
 have DD := Lib.hid Dd
 have hp := digs_len_pos hpos
 clear Da Db Dc Dd
 go_enter Tryz.func37, Tryz.ntmps37
 go_wp2
 go_region_held3 (fun w' => (w'.cell? ⟨w.heap.size, 1, none⟩ = some (.slice pa (digs a).length ka) ∧ w'.cell? ⟨w.heap.size, 2, none⟩ = some (.slice pb (digs b).length kb)) ∧
     (w'.cell? ⟨w.heap.size + 1, 1, none⟩ = some (.slice pc (digs c).length kc) ∧ w'.cell? ⟨w.heap.size + 1, 2, none⟩ = some (.slice pd (digs d).length kd)))
   (first | go_keep | (go_split_ands; refine ⟨⟨?_, ?_⟩, ?_, ?_⟩ <;> first | assumption | (rw [hb2.cell (by simp <;> omega)]; assumption)))
   (first
     | (go_at_call_of 54 (Value.slice pa (digs a).length ka); refine (mul_d (DA.out.keep (C := w.heap.size) (by go_grown) (Nat.le_refl _)) (DD.out.keep (C := w.heap.size) (by go_grown) (Nat.le_refl _)) (by omega) (by omega)).mono ?_; rintro e w1 ⟨v1, rfl, D1, hb1⟩; obtain ⟨p1, k1, rfl⟩ := D1.slice; obtain ⟨HX, HY, HR, hz, hw1⟩ := three (undrew hb1); obtain ⟨x0, x1, x2, xf⟩ := hcells HX; obtain ⟨y0, y1, y2, yf⟩ := hcells HY; have D1 := Lib.hid D1; have HX := Lib.hid HX; have HY := Lib.hid HY; have HR := Lib.hid HR; clear hb1; have M2 := Lib.hid (mul_d (DC.out.keep hw1 (Nat.le_refl _)) (DB.out.keep hw1 (Nat.le_refl _)) (by omega) (by omega)))
     | (go_at_call_of 54 (Value.slice pc (digs c).length kc); refine M2.out.mono ?_; rintro e w2 ⟨v2, rfl, D2, hb2⟩; obtain ⟨p2, k2, rfl⟩ := D2.slice; have D1' := Lib.hid (D1.out.keep hb2 (Nat.le_refl _)); have HX' := Lib.hid (hx_keep HX.out hb2); have HY' := Lib.hid (hx_keep HY.out hb2); have HR' := Lib.hid (hx_keep HR.out hb2)))
 have hw2 : Below w.heap.size w w2 := hw1.trans (hb2.mono hw1.size)
 have hz2 : w.heap.size + 1 + 1 < w2.heap.size := by have := hb2.size; omega
 have M3 := Lib.hid (mul_d (DB.out.keep hw2 (Nat.le_refl _)) (DD.out.keep hw2 (Nat.le_refl _)) (by omega) (by omega))
 clear x0 x1 x2 xf y0 y1 y2 yf hz
 obtain ⟨x0, x1, x2, xf⟩ := hcells HX'.out
 obtain ⟨y0, y1, y2, yf⟩ := hcells HY'.out
 clear hb2
 have hl1 := digs_len_mul a d
 have hl2 := digs_len_mul c b
 go_wp2_with (go_at_call 54; refine M3.out.mono ?_; rintro e w3 ⟨v3, rfl, D3, hb3⟩; obtain ⟨p3, k3, rfl⟩ := D3.slice; clear x0 x1 x2 xf y0 y1 y2 yf; obtain ⟨x0, x1, x2, xf⟩ := hcells (hx_keep HX'.out hb3); obtain ⟨y0, y1, y2, yf⟩ := hcells (hx_keep HY'.out hb3); have hz3 := hb3.size; have g0 : w.heap.size < w3.heap.size := (by omega); have g1 : w.heap.size + 1 < w3.heap.size := (by omega); have g2 : ¬ w3.heap.size = w.heap.size := (by omega); have g3 : ¬ w.heap.size = w3.heap.size := (by omega); have g4 : ¬ w3.heap.size = w.heap.size + 1 + 1 := (by omega); have g5 : ¬ w.heap.size + 1 + 1 = w3.heap.size := (by omega); have g6 : w.heap.size + 1 + 1 < w3.heap.size := (by omega); have g7 : ¬ w3.heap.size = w.heap.size + 1 := (by omega); have g8 : ¬ w.heap.size + 1 = w3.heap.size := (by omega); have D3 := Lib.hid D3; have HR3 := Lib.hid (hx_keep HR'.out hb3); have hw3 := hw2.trans (hb3.mono hw2.size); have D13 := Lib.hid (D1'.out.keep hb3 (Nat.le_refl _)); have D23 := Lib.hid (D2.keep hb3 (Nat.le_refl _)); clear hb3)
 go_region_held3 (fun w' => w'.cell? ⟨w.heap.size, 0, none⟩ = some (.bool true))
   (first | go_keep | (exact (hb4.cell (by simp <;> omega)).trans ((World.cell?_alloc_past _ _ _ (by exact g0)).trans x0)))
   (first
     | (go_at_call 71; refine (plus_d (D13.out.keep (C := w3.heap.size) (by go_grown) (Nat.le_refl _)) (D23.out.keep (C := w3.heap.size) (by go_grown) (Nat.le_refl _)) (by omega) (by omega)).mono ?_; rintro e w4 ⟨v4, rfl, D4, hb4⟩; obtain ⟨p4, k4, rfl⟩ := D4.slice; have hb4 := undrew hb4; obtain ⟨c0, c1, c2, cf⟩ := hcells (hx_keep (hx_last w3 _ _ rfl) hb4); obtain ⟨r0, r1, r2, rf⟩ := hcells (hx_keep (hx_old HR3.out) hb4); have hw34 := ((Below.refl w3.heap.size w3).alloc (Nat.le_refl _) _).trans (hb4.mono (by simp)); have D4 := Lib.hid D4; have hz4 := hb4.size))
 go_wp2
 have hz34 := hw34.size
 have hw4 := hw3.trans (hw34.mono hw3.size)
 refine bodyPost_ret (v := reV true (.slice p4 (digs (a * d + c * b)).length k4) (.slice p3 (digs (b * d)).length k3)) (by simp [results, Tryz.results37, go_sem, r0, r1, r2]) rfl ⟨_, rfl, ⟨_, _, rfl, ?_, ?_⟩, ?_⟩
 · exact ((((((D4.out.setCell _ (by simp <;> omega)).setCell _ (by simp <;> omega)).setCell _ (by simp <;> omega)).setCell _ (by simp <;> omega)).setCell _ (by simp <;> omega)).setCell _ (by simp <;> omega)).base (by simp <;> omega)
 · have e3 := D3.out.keep (((hw34.setCell (p := ⟨w3.heap.size, 0, none⟩) (Nat.le_refl _) (.bool true)).setCell (p := ⟨w3.heap.size, 1, none⟩) (Nat.le_refl _) (.slice p4 (digs (a * d + c * b)).length k4)).setCell (p := ⟨w3.heap.size, 0, none⟩) (Nat.le_refl _) (.bool true)) (Nat.le_refl _)
   exact (((e3.setCell _ (by simp <;> omega)).setCell _ (by simp <;> omega)).setCell _ (by simp <;> omega)).base (by omega)
 · exact (((((hw4.setCell (by simp <;> omega) _).setCell (by simp <;> omega) _).setCell (by simp <;> omega) _).setCell (by simp <;> omega) _).setCell (by simp <;> omega) _).setCell (by simp <;> omega) _
set_option maxRecDepth 100000 in
set_option maxHeartbeats 8000000 in
theorem both_tt0 {B C : Nat} {w : World} {u v : Value} {a b c d : Nat} (hx : RArg B w u true a b) (hy : RArg C w v true c d)
   (la : (digs a).length ≤ 4000) (lb : (digs b).length ≤ 4000) (lc : (digs c).length ≤ 4000) (ld : (digs d).length ≤ 4000) (hpos : ¬ 0 < a * d + c * b) :
   Calls Tryz.prog 37 #[u, v] w (GivesR w false (a * d + c * b) (b * d)) := by
 obtain ⟨va, vb, rfl, Da, Db⟩ := hx
 obtain ⟨vc, vd, rfl, Dc, Dd⟩ := hy
 obtain ⟨pa, ka, rfl⟩ := Da.slice
 obtain ⟨pb, kb, rfl⟩ := Db.slice
 obtain ⟨pc, kc, rfl⟩ := Dc.slice
 obtain ⟨pd, kd, rfl⟩ := Dd.slice
 have q1 := s2
 have q2 := s2'
 have q3 := l2
 have q4 := l3
 have DA := Lib.hid Da
 have DB := Lib.hid Db
 have DC := Lib.hid Dc
 have DD := Lib.hid Dd
 have hp := digs_len_not hpos
 clear Da Db Dc Dd
 go_enter Tryz.func37, Tryz.ntmps37
 go_wp2
 go_region_held3 (fun w' => (w'.cell? ⟨w.heap.size, 1, none⟩ = some (.slice pa (digs a).length ka) ∧ w'.cell? ⟨w.heap.size, 2, none⟩ = some (.slice pb (digs b).length kb)) ∧
     (w'.cell? ⟨w.heap.size + 1, 1, none⟩ = some (.slice pc (digs c).length kc) ∧ w'.cell? ⟨w.heap.size + 1, 2, none⟩ = some (.slice pd (digs d).length kd)))
   (first | go_keep | (go_split_ands; refine ⟨⟨?_, ?_⟩, ?_, ?_⟩ <;> first | assumption | (rw [hb2.cell (by simp <;> omega)]; assumption)))
   (first
     | (go_at_call_of 54 (Value.slice pa (digs a).length ka); refine (mul_d (DA.out.keep (C := w.heap.size) (by go_grown) (Nat.le_refl _)) (DD.out.keep (C := w.heap.size) (by go_grown) (Nat.le_refl _)) (by omega) (by omega)).mono ?_; rintro e w1 ⟨v1, rfl, D1, hb1⟩; obtain ⟨p1, k1, rfl⟩ := D1.slice; obtain ⟨HX, HY, HR, hz, hw1⟩ := three (undrew hb1); obtain ⟨x0, x1, x2, xf⟩ := hcells HX; obtain ⟨y0, y1, y2, yf⟩ := hcells HY; have D1 := Lib.hid D1; have HX := Lib.hid HX; have HY := Lib.hid HY; have HR := Lib.hid HR; clear hb1; have M2 := Lib.hid (mul_d (DC.out.keep hw1 (Nat.le_refl _)) (DB.out.keep hw1 (Nat.le_refl _)) (by omega) (by omega)))
     | (go_at_call_of 54 (Value.slice pc (digs c).length kc); refine M2.out.mono ?_; rintro e w2 ⟨v2, rfl, D2, hb2⟩; obtain ⟨p2, k2, rfl⟩ := D2.slice; have D1' := Lib.hid (D1.out.keep hb2 (Nat.le_refl _)); have HX' := Lib.hid (hx_keep HX.out hb2); have HY' := Lib.hid (hx_keep HY.out hb2); have HR' := Lib.hid (hx_keep HR.out hb2)))
 have hw2 : Below w.heap.size w w2 := hw1.trans (hb2.mono hw1.size)
 have hz2 : w.heap.size + 1 + 1 < w2.heap.size := by have := hb2.size; omega
 have M3 := Lib.hid (mul_d (DB.out.keep hw2 (Nat.le_refl _)) (DD.out.keep hw2 (Nat.le_refl _)) (by omega) (by omega))
 clear x0 x1 x2 xf y0 y1 y2 yf hz
 obtain ⟨x0, x1, x2, xf⟩ := hcells HX'.out
 obtain ⟨y0, y1, y2, yf⟩ := hcells HY'.out
 clear hb2
 have hl1 := digs_len_mul a d
 have hl2 := digs_len_mul c b
 go_wp2_with (go_at_call 54; refine M3.out.mono ?_; rintro e w3 ⟨v3, rfl, D3, hb3⟩; obtain ⟨p3, k3, rfl⟩ := D3.slice; clear x0 x1 x2 xf y0 y1 y2 yf; obtain ⟨x0, x1, x2, xf⟩ := hcells (hx_keep HX'.out hb3); obtain ⟨y0, y1, y2, yf⟩ := hcells (hx_keep HY'.out hb3); have hz3 := hb3.size; have g0 : w.heap.size < w3.heap.size := (by omega); have g1 : w.heap.size + 1 < w3.heap.size := (by omega); have g2 : ¬ w3.heap.size = w.heap.size := (by omega); have g3 : ¬ w.heap.size = w3.heap.size := (by omega); have g4 : ¬ w3.heap.size = w.heap.size + 1 + 1 := (by omega); have g5 : ¬ w.heap.size + 1 + 1 = w3.heap.size := (by omega); have g6 : w.heap.size + 1 + 1 < w3.heap.size := (by omega); have g7 : ¬ w3.heap.size = w.heap.size + 1 := (by omega); have g8 : ¬ w.heap.size + 1 = w3.heap.size := (by omega); have D3 := Lib.hid D3; have HR3 := Lib.hid (hx_keep HR'.out hb3); have hw3 := hw2.trans (hb3.mono hw2.size); have D13 := Lib.hid (D1'.out.keep hb3 (Nat.le_refl _)); have D23 := Lib.hid (D2.keep hb3 (Nat.le_refl _)); clear hb3)
 go_region_held3 (fun w' => w'.cell? ⟨w.heap.size, 0, none⟩ = some (.bool true))
   (first | go_keep | (exact (hb4.cell (by simp <;> omega)).trans ((World.cell?_alloc_past _ _ _ (by exact g0)).trans x0)))
   (first
     | (go_at_call 71; refine (plus_d (D13.out.keep (C := w3.heap.size) (by go_grown) (Nat.le_refl _)) (D23.out.keep (C := w3.heap.size) (by go_grown) (Nat.le_refl _)) (by omega) (by omega)).mono ?_; rintro e w4 ⟨v4, rfl, D4, hb4⟩; obtain ⟨p4, k4, rfl⟩ := D4.slice; have hb4 := undrew hb4; obtain ⟨c0, c1, c2, cf⟩ := hcells (hx_keep (hx_last w3 _ _ rfl) hb4); obtain ⟨r0, r1, r2, rf⟩ := hcells (hx_keep (hx_old HR3.out) hb4); have hw34 := ((Below.refl w3.heap.size w3).alloc (Nat.le_refl _) _).trans (hb4.mono (by simp)); have D4 := Lib.hid D4; have hz4 := hb4.size))
 go_wp2
 have hz34 := hw34.size
 have hw4 := hw3.trans (hw34.mono hw3.size)
 refine bodyPost_ret (v := reV false (.slice p4 (digs (a * d + c * b)).length k4) (.slice p3 (digs (b * d)).length k3)) (by simp [results, Tryz.results37, go_sem, r0, r1, r2]) rfl ⟨_, rfl, ⟨_, _, rfl, ?_, ?_⟩, ?_⟩
 · exact ((((((D4.out.setCell _ (by simp <;> omega)).setCell _ (by simp <;> omega)).setCell _ (by simp <;> omega)).setCell _ (by simp <;> omega)).setCell _ (by simp <;> omega)).setCell _ (by simp <;> omega)).base (by simp <;> omega)
 · have e3 := D3.out.keep (((hw34.setCell (p := ⟨w3.heap.size, 0, none⟩) (Nat.le_refl _) (.bool true)).setCell (p := ⟨w3.heap.size, 1, none⟩) (Nat.le_refl _) (.slice p4 (digs (a * d + c * b)).length k4)).setCell (p := ⟨w3.heap.size, 0, none⟩) (Nat.le_refl _) (.bool false)) (Nat.le_refl _)
   exact (((e3.setCell _ (by simp <;> omega)).setCell _ (by simp <;> omega)).setCell _ (by simp <;> omega)).base (by omega)
 · exact (((((hw4.setCell (by simp <;> omega) _).setCell (by simp <;> omega) _).setCell (by simp <;> omega) _).setCell (by simp <;> omega) _).setCell (by simp <;> omega) _).setCell (by simp <;> omega) _
set_option maxRecDepth 100000 in
set_option maxHeartbeats 8000000 in
theorem both_ft_ge {B C : Nat} {w : World} {u v : Value} {a b c d : Nat} (hx : RArg B w u false a b) (hy : RArg C w v true c d)
   (la : (digs a).length ≤ 4000) (lb : (digs b).length ≤ 4000) (lc : (digs c).length ≤ 4000) (ld : (digs d).length ≤ 4000) (hge : c * b ≤ a * d) (hA : 0 < a * d) :
   Calls Tryz.prog 37 #[u, v] w (GivesR w false (a * d - c * b) (b * d)) := by
 obtain ⟨va, vb, rfl, Da, Db⟩ := hx
 obtain ⟨vc, vd, rfl, Dc, Dd⟩ := hy
 obtain ⟨pa, ka, rfl⟩ := Da.slice
 obtain ⟨pb, kb, rfl⟩ := Db.slice
 obtain ⟨pc, kc, rfl⟩ := Dc.slice
 obtain ⟨pd, kd, rfl⟩ := Dd.slice
 have q1 := s2
 have q2 := s2'
 have q3 := l2
 have q4 := l3
 have DA := Lib.hid Da
 have DB := Lib.hid Db
 have DC := Lib.hid Dc
 have DD := Lib.hid Dd
 have hord : 0 ≤ ord (a * d) (c * b) := ord_ge hge
 clear Da Db Dc Dd
 go_enter Tryz.func37, Tryz.ntmps37
 go_wp2
 go_region_held3 (fun w' => (w'.cell? ⟨w.heap.size, 1, none⟩ = some (.slice pa (digs a).length ka) ∧ w'.cell? ⟨w.heap.size, 2, none⟩ = some (.slice pb (digs b).length kb)) ∧
     (w'.cell? ⟨w.heap.size + 1, 1, none⟩ = some (.slice pc (digs c).length kc) ∧ w'.cell? ⟨w.heap.size + 1, 2, none⟩ = some (.slice pd (digs d).length kd)))
   (first | go_keep | (go_split_ands; refine ⟨⟨?_, ?_⟩, ?_, ?_⟩ <;> first | assumption | (rw [hb2.cell (by simp <;> omega)]; assumption)))
   (first
     | (go_at_call_of 54 (Value.slice pa (digs a).length ka); refine (mul_d (DA.out.keep (C := w.heap.size) (by go_grown) (Nat.le_refl _)) (DD.out.keep (C := w.heap.size) (by go_grown) (Nat.le_refl _)) (by omega) (by omega)).mono ?_; rintro e w1 ⟨v1, rfl, D1, hb1⟩; obtain ⟨p1, k1, rfl⟩ := D1.slice; obtain ⟨HX, HY, HR, hz, hw1⟩ := three (undrew hb1); obtain ⟨x0, x1, x2, xf⟩ := hcells HX; obtain ⟨y0, y1, y2, yf⟩ := hcells HY; have D1 := Lib.hid D1; have HX := Lib.hid HX; have HY := Lib.hid HY; have HR := Lib.hid HR; clear hb1; have M2 := Lib.hid (mul_d (DC.out.keep hw1 (Nat.le_refl _)) (DB.out.keep hw1 (Nat.le_refl _)) (by omega) (by omega)))
     | (go_at_call_of 54 (Value.slice pc (digs c).length kc); refine M2.out.mono ?_; rintro e w2 ⟨v2, rfl, D2, hb2⟩; obtain ⟨p2, k2, rfl⟩ := D2.slice; have D1' := Lib.hid (D1.out.keep hb2 (Nat.le_refl _)); have HX' := Lib.hid (hx_keep HX.out hb2); have HY' := Lib.hid (hx_keep HY.out hb2); have HR' := Lib.hid (hx_keep HR.out hb2)))
 have hw2 : Below w.heap.size w w2 := hw1.trans (hb2.mono hw1.size)
 have hz2 : w.heap.size + 1 + 1 < w2.heap.size := by have := hb2.size; omega
 have M3 := Lib.hid (mul_d (DB.out.keep hw2 (Nat.le_refl _)) (DD.out.keep hw2 (Nat.le_refl _)) (by omega) (by omega))
 clear x0 x1 x2 xf y0 y1 y2 yf hz
 obtain ⟨x0, x1, x2, xf⟩ := hcells HX'.out
 obtain ⟨y0, y1, y2, yf⟩ := hcells HY'.out
 clear hb2
 have hl1 := digs_len_mul a d
 have hl2 := digs_len_mul c b
 go_wp2_with (first
   | (go_at_call 54; refine M3.out.mono ?_; rintro e w3 ⟨v3, rfl, D3, hb3⟩; obtain ⟨p3, k3, rfl⟩ := D3.slice; clear x0 x1 x2 xf y0 y1 y2 yf; obtain ⟨x0, x1, x2, xf⟩ := hcells (hx_keep HX'.out hb3); obtain ⟨y0, y1, y2, yf⟩ := hcells (hx_keep HY'.out hb3); have hz3 := hb3.size; have g0 : w.heap.size < w3.heap.size := (by omega); have g1 : w.heap.size + 1 < w3.heap.size := (by omega); have g2 : ¬ w3.heap.size = w.heap.size := (by omega); have g3 : ¬ w.heap.size = w3.heap.size := (by omega); have g4 : ¬ w3.heap.size = w.heap.size + 1 + 1 := (by omega); have g5 : ¬ w.heap.size + 1 + 1 = w3.heap.size := (by omega); have g6 : w.heap.size + 1 + 1 < w3.heap.size := (by omega); have g7 : ¬ w3.heap.size = w.heap.size + 1 := (by omega); have g8 : ¬ w.heap.size + 1 = w3.heap.size := (by omega); have D3 := Lib.hid D3; have HR3 := Lib.hid (hx_keep HR'.out hb3); have hw3 := hw2.trans (hb3.mono hw2.size); have D13 := Lib.hid (D1'.out.keep hb3 (Nat.le_refl _)); have D23 := Lib.hid (D2.keep hb3 (Nat.le_refl _)); have HX3 := Lib.hid (hx_keep HX'.out hb3); have HY3 := Lib.hid (hx_keep HY'.out hb3); have CM := Lib.hid (cmp_d (D13.out.keep ((Below.refl w3.heap.size w3).alloc (Nat.le_refl _) (.cells #[.bool false, .slice none 0 0, .slice p3 (digs (b * d)).length k3] 52)) (Nat.le_refl _)) (D23.out.keep ((Below.refl w3.heap.size w3).alloc (Nat.le_refl _) (.cells #[.bool false, .slice none 0 0, .slice p3 (digs (b * d)).length k3] 52)) (Nat.le_refl _)) (by omega) (by omega)); clear hb3)
   | (go_at_call 70; refine CM.out.mono ?_; rintro e w5 ⟨rfl, hb5⟩; clear x0 x1 x2 xf y0 y1 y2 yf; obtain ⟨x0, x1, x2, xf⟩ := hcells (hx_keep (hx_old HX3.out) hb5); obtain ⟨y0, y1, y2, yf⟩ := hcells (hx_keep (hx_old HY3.out) hb5); have B5 := Lib.hid hb5; clear hb5))
 have HZ5 := Lib.hid (hx_keep (hx_last w3 _ _ rfl) B5.out)
 have HR5 := Lib.hid (hx_keep (hx_old HR3.out) B5.out)
 have hw35 := ((Below.refl w3.heap.size w3).alloc (Nat.le_refl _) _).trans (B5.out.mono (by simp))
 have hz5 := hw35.size
 have hz5' : w3.heap.size < w5.heap.size := hx_lt HZ5.out
 go_region_held3 (fun w' => w'.cell? ⟨w.heap.size, 0, none⟩ = some (.bool false))
   (first | go_keep | (exact (hb4.cell (by simp <;> omega)).trans x0))
   (first
     | (go_at_call 72; refine (less_d (D13.out.keep (hw35.drew) (Nat.le_refl _)) (D23.out.keep (hw35.drew) (Nat.le_refl _)) hge hA (by omega)).mono ?_; rintro e w4 ⟨v4, rfl, D4, hb4⟩; obtain ⟨p4, k4, rfl⟩ := D4.slice; have hb4 := undrew hb4; obtain ⟨c0, c1, c2, cf⟩ := hcells (hx_keep HZ5.out hb4); obtain ⟨r0, r1, r2, rf⟩ := hcells (hx_keep HR5.out hb4); have hw34 := hw35.trans (hb4.mono hz5); have D4 := Lib.hid D4; have hz4 := hb4.size))
 go_wp2
 have hz34 := hw34.size
 have hw4 := hw3.trans (hw34.mono hw3.size)
 refine bodyPost_ret (v := reV false (.slice p4 (digs (a * d - c * b)).length k4) (.slice p3 (digs (b * d)).length k3)) (by simp [results, Tryz.results37, go_sem, r0, r1, r2]) rfl ⟨_, rfl, ⟨_, _, rfl, ?_, ?_⟩, ?_⟩
 · exact ((((((D4.out.setCell _ (by simp <;> omega)).setCell _ (by simp <;> omega)).setCell _ (by simp <;> omega)).setCell _ (by simp <;> omega)).setCell _ (by simp <;> omega)).setCell _ (by simp <;> omega)).base (by simp <;> omega)
 · have e3 := D3.out.keep (((hw34.setCell (p := ⟨w3.heap.size, 0, none⟩) (Nat.le_refl _) (.bool false)).setCell (p := ⟨w3.heap.size, 1, none⟩) (Nat.le_refl _) (.slice p4 (digs (a * d - c * b)).length k4)).setCell (p := ⟨w3.heap.size, 0, none⟩) (Nat.le_refl _) (.bool false)) (Nat.le_refl _)
   exact (((e3.setCell _ (by simp <;> omega)).setCell _ (by simp <;> omega)).setCell _ (by simp <;> omega)).base (by omega)
 · exact (((((hw4.setCell (by simp <;> omega) _).setCell (by simp <;> omega) _).setCell (by simp <;> omega) _).setCell (by simp <;> omega) _).setCell (by simp <;> omega) _).setCell (by simp <;> omega) _
end Go.Proofs.YtpdoddhieblooaaGreatDoor
namespace Go.Proofs.YtpdoddhieblooaaGreatDoor
open Go.RowKit

set_option maxRecDepth 100000 in
set_option maxHeartbeats 8000000 in
theorem both_ft_lt {B C : Nat} {w : World} {u v : Value} {a b c d : Nat} (hx : RArg B w u false a b) (hy : RArg C w v true c d)
   (la : (digs a).length ≤ 4000) (lb : (digs b).length ≤ 4000) (lc : (digs c).length ≤ 4000) (ld : (digs d).length ≤ 4000) (hlt : a * d < c * b) :
   Calls Tryz.prog 37 #[u, v] w (GivesR w true (c * b - a * d) (b * d)) := by
 obtain ⟨va, vb, rfl, Da, Db⟩ := hx
 obtain ⟨vc, vd, rfl, Dc, Dd⟩ := hy
 obtain ⟨pa, ka, rfl⟩ := Da.slice
 obtain ⟨pb, kb, rfl⟩ := Db.slice
 obtain ⟨pc, kc, rfl⟩ := Dc.slice
 obtain ⟨pd, kd, rfl⟩ := Dd.slice
 have q1 := s2
 have q2 := s2'
 have q3 := l2
 have q4 := l3
 have DA := Lib.hid Da
 have DB := Lib.hid Db
 have DC := Lib.hid Dc
 have DD := Lib.hid Dd
 have hord : ¬ 0 ≤ ord (a * d) (c * b) := ord_not hlt
 have hp := digs_len_pos (show 0 < c * b - a * d by omega)
 clear Da Db Dc Dd
 go_enter Tryz.func37, Tryz.ntmps37
 go_wp2
 go_region_held3 (fun w' => (w'.cell? ⟨w.heap.size, 1, none⟩ = some (.slice pa (digs a).length ka) ∧ w'.cell? ⟨w.heap.size, 2, none⟩ = some (.slice pb (digs b).length kb)) ∧
     (w'.cell? ⟨w.heap.size + 1, 1, none⟩ = some (.slice pc (digs c).length kc) ∧ w'.cell? ⟨w.heap.size + 1, 2, none⟩ = some (.slice pd (digs d).length kd)))
   (first | go_keep | (go_split_ands; refine ⟨⟨?_, ?_⟩, ?_, ?_⟩ <;> first | assumption | (rw [hb2.cell (by simp <;> omega)]; assumption)))
   (first
     | (go_at_call_of 54 (Value.slice pa (digs a).length ka); refine (mul_d (DA.out.keep (C := w.heap.size) (by go_grown) (Nat.le_refl _)) (DD.out.keep (C := w.heap.size) (by go_grown) (Nat.le_refl _)) (by omega) (by omega)).mono ?_; rintro e w1 ⟨v1, rfl, D1, hb1⟩; obtain ⟨p1, k1, rfl⟩ := D1.slice; obtain ⟨HX, HY, HR, hz, hw1⟩ := three (undrew hb1); obtain ⟨x0, x1, x2, xf⟩ := hcells HX; obtain ⟨y0, y1, y2, yf⟩ := hcells HY; have D1 := Lib.hid D1; have HX := Lib.hid HX; have HY := Lib.hid HY; have HR := Lib.hid HR; clear hb1; have M2 := Lib.hid (mul_d (DC.out.keep hw1 (Nat.le_refl _)) (DB.out.keep hw1 (Nat.le_refl _)) (by omega) (by omega)))
     | (go_at_call_of 54 (Value.slice pc (digs c).length kc); refine M2.out.mono ?_; rintro e w2 ⟨v2, rfl, D2, hb2⟩; obtain ⟨p2, k2, rfl⟩ := D2.slice; have D1' := Lib.hid (D1.out.keep hb2 (Nat.le_refl _)); have HX' := Lib.hid (hx_keep HX.out hb2); have HY' := Lib.hid (hx_keep HY.out hb2); have HR' := Lib.hid (hx_keep HR.out hb2)))
 have hw2 : Below w.heap.size w w2 := hw1.trans (hb2.mono hw1.size)
 have hz2 : w.heap.size + 1 + 1 < w2.heap.size := by have := hb2.size; omega
 have M3 := Lib.hid (mul_d (DB.out.keep hw2 (Nat.le_refl _)) (DD.out.keep hw2 (Nat.le_refl _)) (by omega) (by omega))
 clear x0 x1 x2 xf y0 y1 y2 yf hz
 obtain ⟨x0, x1, x2, xf⟩ := hcells HX'.out
 obtain ⟨y0, y1, y2, yf⟩ := hcells HY'.out
 clear hb2
 have hl1 := digs_len_mul a d
 have hl2 := digs_len_mul c b
 go_wp2_with (first
   | (go_at_call 54; refine M3.out.mono ?_; rintro e w3 ⟨v3, rfl, D3, hb3⟩; obtain ⟨p3, k3, rfl⟩ := D3.slice; clear x0 x1 x2 xf y0 y1 y2 yf; obtain ⟨x0, x1, x2, xf⟩ := hcells (hx_keep HX'.out hb3); obtain ⟨y0, y1, y2, yf⟩ := hcells (hx_keep HY'.out hb3); have hz3 := hb3.size; have g0 : w.heap.size < w3.heap.size := (by omega); have g1 : w.heap.size + 1 < w3.heap.size := (by omega); have g2 : ¬ w3.heap.size = w.heap.size := (by omega); have g3 : ¬ w.heap.size = w3.heap.size := (by omega); have g4 : ¬ w3.heap.size = w.heap.size + 1 + 1 := (by omega); have g5 : ¬ w.heap.size + 1 + 1 = w3.heap.size := (by omega); have g6 : w.heap.size + 1 + 1 < w3.heap.size := (by omega); have g7 : ¬ w3.heap.size = w.heap.size + 1 := (by omega); have g8 : ¬ w.heap.size + 1 = w3.heap.size := (by omega); have D3 := Lib.hid D3; have HR3 := Lib.hid (hx_keep HR'.out hb3); have hw3 := hw2.trans (hb3.mono hw2.size); have D13 := Lib.hid (D1'.out.keep hb3 (Nat.le_refl _)); have D23 := Lib.hid (D2.keep hb3 (Nat.le_refl _)); have HX3 := Lib.hid (hx_keep HX'.out hb3); have HY3 := Lib.hid (hx_keep HY'.out hb3); have CM := Lib.hid (cmp_d (D13.out.keep ((Below.refl w3.heap.size w3).alloc (Nat.le_refl _) (.cells #[.bool false, .slice none 0 0, .slice p3 (digs (b * d)).length k3] 52)) (Nat.le_refl _)) (D23.out.keep ((Below.refl w3.heap.size w3).alloc (Nat.le_refl _) (.cells #[.bool false, .slice none 0 0, .slice p3 (digs (b * d)).length k3] 52)) (Nat.le_refl _)) (by omega) (by omega)); clear hb3)
   | (go_at_call 70; refine CM.out.mono ?_; rintro e w5 ⟨rfl, hb5⟩; clear x0 x1 x2 xf y0 y1 y2 yf; obtain ⟨x0, x1, x2, xf⟩ := hcells (hx_keep (hx_old HX3.out) hb5); obtain ⟨y0, y1, y2, yf⟩ := hcells (hx_keep (hx_old HY3.out) hb5); have B5 := Lib.hid hb5; clear hb5))
 have HZ5 := Lib.hid (hx_keep (hx_last w3 _ _ rfl) B5.out)
 have HR5 := Lib.hid (hx_keep (hx_old HR3.out) B5.out)
 have hw35 := ((Below.refl w3.heap.size w3).alloc (Nat.le_refl _) _).trans (B5.out.mono (by simp))
 have hz5 := hw35.size
 have hz5' : w3.heap.size < w5.heap.size := hx_lt HZ5.out
 go_region_held3 (fun w' => w'.cell? ⟨w.heap.size + 1, 0, none⟩ = some (.bool true))
   (first | go_keep | (exact (hb4.cell (by simp <;> omega)).trans y0))
   (first
     | (go_at_call 72; refine (less_d (D23.out.keep (hw35.drew) (Nat.le_refl _)) (D13.out.keep (hw35.drew) (Nat.le_refl _)) (by omega) (by omega) (by omega)).mono ?_; rintro e w4 ⟨v4, rfl, D4, hb4⟩; obtain ⟨p4, k4, rfl⟩ := D4.slice; have hb4 := undrew hb4; obtain ⟨c0, c1, c2, cf⟩ := hcells (hx_keep HZ5.out hb4); obtain ⟨r0, r1, r2, rf⟩ := hcells (hx_keep HR5.out hb4); have hw34 := hw35.trans (hb4.mono hz5); have D4 := Lib.hid D4; have hz4 := hb4.size))
 go_wp2
 have hz34 := hw34.size
 have hw4 := hw3.trans (hw34.mono hw3.size)
 refine bodyPost_ret (v := reV true (.slice p4 (digs (c * b - a * d)).length k4) (.slice p3 (digs (b * d)).length k3)) (by simp [results, Tryz.results37, go_sem, r0, r1, r2]) rfl ⟨_, rfl, ⟨_, _, rfl, ?_, ?_⟩, ?_⟩
 · exact ((((((D4.out.setCell _ (by simp <;> omega)).setCell _ (by simp <;> omega)).setCell _ (by simp <;> omega)).setCell _ (by simp <;> omega)).setCell _ (by simp <;> omega)).setCell _ (by simp <;> omega)).base (by simp <;> omega)
 · have e3 := D3.out.keep (((hw34.setCell (p := ⟨w3.heap.size, 0, none⟩) (Nat.le_refl _) (.bool true)).setCell (p := ⟨w3.heap.size, 1, none⟩) (Nat.le_refl _) (.slice p4 (digs (c * b - a * d)).length k4)).setCell (p := ⟨w3.heap.size, 0, none⟩) (Nat.le_refl _) (.bool true)) (Nat.le_refl _)
   exact (((e3.setCell _ (by simp <;> omega)).setCell _ (by simp <;> omega)).setCell _ (by simp <;> omega)).base (by omega)
 · exact (((((hw4.setCell (by simp <;> omega) _).setCell (by simp <;> omega) _).setCell (by simp <;> omega) _).setCell (by simp <;> omega) _).setCell (by simp <;> omega) _).setCell (by simp <;> omega) _
set_option maxRecDepth 100000 in
set_option maxHeartbeats 8000000 in
theorem both_tf_ge1 {B C : Nat} {w : World} {u v : Value} {a b c d : Nat} (hx : RArg B w u true a b) (hy : RArg C w v false c d)
   (la : (digs a).length ≤ 4000) (lb : (digs b).length ≤ 4000) (lc : (digs c).length ≤ 4000) (ld : (digs d).length ≤ 4000) (hge : c * b ≤ a * d) (hA : 0 < a * d) (hpos : 0 < a * d - c * b) :
   Calls Tryz.prog 37 #[u, v] w (GivesR w true (a * d - c * b) (b * d)) := by
 obtain ⟨va, vb, rfl, Da, Db⟩ := hx
 obtain ⟨vc, vd, rfl, Dc, Dd⟩ := hy
 obtain ⟨pa, ka, rfl⟩ := Da.slice
 obtain ⟨pb, kb, rfl⟩ := Db.slice
 obtain ⟨pc, kc, rfl⟩ := Dc.slice
 obtain ⟨pd, kd, rfl⟩ := Dd.slice
 have q1 := s2
 have q2 := s2'
 have q3 := l2
 have q4 := l3
 have DA := Lib.hid Da
 have DB := Lib.hid Db
 have DC := Lib.hid Dc
 have DD := Lib.hid Dd
 have hord : 0 ≤ ord (a * d) (c * b) := ord_ge hge
 have hp := digs_len_pos hpos
 clear Da Db Dc Dd
 go_enter Tryz.func37, Tryz.ntmps37
 go_wp2
 go_region_held3 (fun w' => (w'.cell? ⟨w.heap.size, 1, none⟩ = some (.slice pa (digs a).length ka) ∧ w'.cell? ⟨w.heap.size, 2, none⟩ = some (.slice pb (digs b).length kb)) ∧
     (w'.cell? ⟨w.heap.size + 1, 1, none⟩ = some (.slice pc (digs c).length kc) ∧ w'.cell? ⟨w.heap.size + 1, 2, none⟩ = some (.slice pd (digs d).length kd)))
   (first | go_keep | (go_split_ands; refine ⟨⟨?_, ?_⟩, ?_, ?_⟩ <;> first | assumption | (rw [hb2.cell (by simp <;> omega)]; assumption)))
   (first
     | (go_at_call_of 54 (Value.slice pa (digs a).length ka); refine (mul_d (DA.out.keep (C := w.heap.size) (by go_grown) (Nat.le_refl _)) (DD.out.keep (C := w.heap.size) (by go_grown) (Nat.le_refl _)) (by omega) (by omega)).mono ?_; rintro e w1 ⟨v1, rfl, D1, hb1⟩; obtain ⟨p1, k1, rfl⟩ := D1.slice; obtain ⟨HX, HY, HR, hz, hw1⟩ := three (undrew hb1); obtain ⟨x0, x1, x2, xf⟩ := hcells HX; obtain ⟨y0, y1, y2, yf⟩ := hcells HY; have D1 := Lib.hid D1; have HX := Lib.hid HX; have HY := Lib.hid HY; have HR := Lib.hid HR; clear hb1; have M2 := Lib.hid (mul_d (DC.out.keep hw1 (Nat.le_refl _)) (DB.out.keep hw1 (Nat.le_refl _)) (by omega) (by omega)))
     | (go_at_call_of 54 (Value.slice pc (digs c).length kc); refine M2.out.mono ?_; rintro e w2 ⟨v2, rfl, D2, hb2⟩; obtain ⟨p2, k2, rfl⟩ := D2.slice; have D1' := Lib.hid (D1.out.keep hb2 (Nat.le_refl _)); have HX' := Lib.hid (hx_keep HX.out hb2); have HY' := Lib.hid (hx_keep HY.out hb2); have HR' := Lib.hid (hx_keep HR.out hb2)))
 have hw2 : Below w.heap.size w w2 := hw1.trans (hb2.mono hw1.size)
 have hz2 : w.heap.size + 1 + 1 < w2.heap.size := by have := hb2.size; omega
 have M3 := Lib.hid (mul_d (DB.out.keep hw2 (Nat.le_refl _)) (DD.out.keep hw2 (Nat.le_refl _)) (by omega) (by omega))
 clear x0 x1 x2 xf y0 y1 y2 yf hz
 obtain ⟨x0, x1, x2, xf⟩ := hcells HX'.out
 obtain ⟨y0, y1, y2, yf⟩ := hcells HY'.out
 clear hb2
 have hl1 := digs_len_mul a d
 have hl2 := digs_len_mul c b
 go_wp2_with (first
   | (go_at_call 54; refine M3.out.mono ?_; rintro e w3 ⟨v3, rfl, D3, hb3⟩; obtain ⟨p3, k3, rfl⟩ := D3.slice; clear x0 x1 x2 xf y0 y1 y2 yf; obtain ⟨x0, x1, x2, xf⟩ := hcells (hx_keep HX'.out hb3); obtain ⟨y0, y1, y2, yf⟩ := hcells (hx_keep HY'.out hb3); have hz3 := hb3.size; have g0 : w.heap.size < w3.heap.size := (by omega); have g1 : w.heap.size + 1 < w3.heap.size := (by omega); have g2 : ¬ w3.heap.size = w.heap.size := (by omega); have g3 : ¬ w.heap.size = w3.heap.size := (by omega); have g4 : ¬ w3.heap.size = w.heap.size + 1 + 1 := (by omega); have g5 : ¬ w.heap.size + 1 + 1 = w3.heap.size := (by omega); have g6 : w.heap.size + 1 + 1 < w3.heap.size := (by omega); have g7 : ¬ w3.heap.size = w.heap.size + 1 := (by omega); have g8 : ¬ w.heap.size + 1 = w3.heap.size := (by omega); have D3 := Lib.hid D3; have HR3 := Lib.hid (hx_keep HR'.out hb3); have hw3 := hw2.trans (hb3.mono hw2.size); have D13 := Lib.hid (D1'.out.keep hb3 (Nat.le_refl _)); have D23 := Lib.hid (D2.keep hb3 (Nat.le_refl _)); have HX3 := Lib.hid (hx_keep HX'.out hb3); have HY3 := Lib.hid (hx_keep HY'.out hb3); have CM := Lib.hid (cmp_d (D13.out.keep ((Below.refl w3.heap.size w3).alloc (Nat.le_refl _) (.cells #[.bool false, .slice none 0 0, .slice p3 (digs (b * d)).length k3] 52)) (Nat.le_refl _)) (D23.out.keep ((Below.refl w3.heap.size w3).alloc (Nat.le_refl _) (.cells #[.bool false, .slice none 0 0, .slice p3 (digs (b * d)).length k3] 52)) (Nat.le_refl _)) (by omega) (by omega)); clear hb3)
   | (go_at_call 70; refine CM.out.mono ?_; rintro e w5 ⟨rfl, hb5⟩; clear x0 x1 x2 xf y0 y1 y2 yf; obtain ⟨x0, x1, x2, xf⟩ := hcells (hx_keep (hx_old HX3.out) hb5); obtain ⟨y0, y1, y2, yf⟩ := hcells (hx_keep (hx_old HY3.out) hb5); have B5 := Lib.hid hb5; clear hb5))
 have HZ5 := Lib.hid (hx_keep (hx_last w3 _ _ rfl) B5.out)
 have HR5 := Lib.hid (hx_keep (hx_old HR3.out) B5.out)
 have hw35 := ((Below.refl w3.heap.size w3).alloc (Nat.le_refl _) _).trans (B5.out.mono (by simp))
 have hz5 := hw35.size
 have hz5' : w3.heap.size < w5.heap.size := hx_lt HZ5.out
 go_region_held3 (fun w' => w'.cell? ⟨w.heap.size, 0, none⟩ = some (.bool true))
   (first | go_keep | (exact (hb4.cell (by simp <;> omega)).trans x0))
   (first
     | (go_at_call 72; refine (less_d (D13.out.keep (hw35.drew) (Nat.le_refl _)) (D23.out.keep (hw35.drew) (Nat.le_refl _)) hge hA (by omega)).mono ?_; rintro e w4 ⟨v4, rfl, D4, hb4⟩; obtain ⟨p4, k4, rfl⟩ := D4.slice; have hb4 := undrew hb4; obtain ⟨c0, c1, c2, cf⟩ := hcells (hx_keep HZ5.out hb4); obtain ⟨r0, r1, r2, rf⟩ := hcells (hx_keep HR5.out hb4); have hw34 := hw35.trans (hb4.mono hz5); have D4 := Lib.hid D4; have hz4 := hb4.size))
 go_wp2
 have hz34 := hw34.size
 have hw4 := hw3.trans (hw34.mono hw3.size)
 refine bodyPost_ret (v := reV true (.slice p4 (digs (a * d - c * b)).length k4) (.slice p3 (digs (b * d)).length k3)) (by simp [results, Tryz.results37, go_sem, r0, r1, r2]) rfl ⟨_, rfl, ⟨_, _, rfl, ?_, ?_⟩, ?_⟩
 · exact ((((((D4.out.setCell _ (by simp <;> omega)).setCell _ (by simp <;> omega)).setCell _ (by simp <;> omega)).setCell _ (by simp <;> omega)).setCell _ (by simp <;> omega)).setCell _ (by simp <;> omega)).base (by simp <;> omega)
 · have e3 := D3.out.keep (((hw34.setCell (p := ⟨w3.heap.size, 0, none⟩) (Nat.le_refl _) (.bool true)).setCell (p := ⟨w3.heap.size, 1, none⟩) (Nat.le_refl _) (.slice p4 (digs (a * d - c * b)).length k4)).setCell (p := ⟨w3.heap.size, 0, none⟩) (Nat.le_refl _) (.bool true)) (Nat.le_refl _)
   exact (((e3.setCell _ (by simp <;> omega)).setCell _ (by simp <;> omega)).setCell _ (by simp <;> omega)).base (by omega)
 · exact (((((hw4.setCell (by simp <;> omega) _).setCell (by simp <;> omega) _).setCell (by simp <;> omega) _).setCell (by simp <;> omega) _).setCell (by simp <;> omega) _).setCell (by simp <;> omega) _
set_option maxRecDepth 100000 in
set_option maxHeartbeats 8000000 in
theorem both_tf_ge0 {B C : Nat} {w : World} {u v : Value} {a b c d : Nat} (hx : RArg B w u true a b) (hy : RArg C w v false c d)
   (la : (digs a).length ≤ 4000) (lb : (digs b).length ≤ 4000) (lc : (digs c).length ≤ 4000) (ld : (digs d).length ≤ 4000) (hge : c * b ≤ a * d) (hA : 0 < a * d) (hpos : ¬ 0 < a * d - c * b) :
   Calls Tryz.prog 37 #[u, v] w (GivesR w false (a * d - c * b) (b * d)) := by
 obtain ⟨va, vb, rfl, Da, Db⟩ := hx
 obtain ⟨vc, vd, rfl, Dc, Dd⟩ := hy
 obtain ⟨pa, ka, rfl⟩ := Da.slice
 obtain ⟨pb, kb, rfl⟩ := Db.slice
 obtain ⟨pc, kc, rfl⟩ := Dc.slice
 obtain ⟨pd, kd, rfl⟩ := Dd.slice
 have q1 := s2
 have q2 := s2'
 have q3 := l2
 have q4 := l3
 have DA := Lib.hid Da
 have DB := Lib.hid Db
 have DC := Lib.hid Dc
 have DD := Lib.hid Dd
 have hord : 0 ≤ ord (a * d) (c * b) := ord_ge hge
 have hp := digs_len_not hpos
 clear Da Db Dc Dd
 go_enter Tryz.func37, Tryz.ntmps37
 go_wp2
 go_region_held3 (fun w' => (w'.cell? ⟨w.heap.size, 1, none⟩ = some (.slice pa (digs a).length ka) ∧ w'.cell? ⟨w.heap.size, 2, none⟩ = some (.slice pb (digs b).length kb)) ∧
     (w'.cell? ⟨w.heap.size + 1, 1, none⟩ = some (.slice pc (digs c).length kc) ∧ w'.cell? ⟨w.heap.size + 1, 2, none⟩ = some (.slice pd (digs d).length kd)))
   (first | go_keep | (go_split_ands; refine ⟨⟨?_, ?_⟩, ?_, ?_⟩ <;> first | assumption | (rw [hb2.cell (by simp <;> omega)]; assumption)))
   (first
     | (go_at_call_of 54 (Value.slice pa (digs a).length ka); refine (mul_d (DA.out.keep (C := w.heap.size) (by go_grown) (Nat.le_refl _)) (DD.out.keep (C := w.heap.size) (by go_grown) (Nat.le_refl _)) (by omega) (by omega)).mono ?_; rintro e w1 ⟨v1, rfl, D1, hb1⟩; obtain ⟨p1, k1, rfl⟩ := D1.slice; obtain ⟨HX, HY, HR, hz, hw1⟩ := three (undrew hb1); obtain ⟨x0, x1, x2, xf⟩ := hcells HX; obtain ⟨y0, y1, y2, yf⟩ := hcells HY; have D1 := Lib.hid D1; have HX := Lib.hid HX; have HY := Lib.hid HY; have HR := Lib.hid HR; clear hb1; have M2 := Lib.hid (mul_d (DC.out.keep hw1 (Nat.le_refl _)) (DB.out.keep hw1 (Nat.le_refl _)) (by omega) (by omega)))
     | (go_at_call_of 54 (Value.slice pc (digs c).length kc); refine M2.out.mono ?_; rintro e w2 ⟨v2, rfl, D2, hb2⟩; obtain ⟨p2, k2, rfl⟩ := D2.slice; have D1' := Lib.hid (D1.out.keep hb2 (Nat.le_refl _)); have HX' := Lib.hid (hx_keep HX.out hb2); have HY' := Lib.hid (hx_keep HY.out hb2); have HR' := Lib.hid (hx_keep HR.out hb2)))
 have hw2 : Below w.heap.size w w2 := hw1.trans (hb2.mono hw1.size)
 have hz2 : w.heap.size + 1 + 1 < w2.heap.size := by have := hb2.size; omega
 have M3 := Lib.hid (mul_d (DB.out.keep hw2 (Nat.le_refl _)) (DD.out.keep hw2 (Nat.le_refl _)) (by omega) (by omega))
 clear x0 x1 x2 xf y0 y1 y2 yf hz
 obtain ⟨x0, x1, x2, xf⟩ := hcells HX'.out
 obtain ⟨y0, y1, y2, yf⟩ := hcells HY'.out
 clear hb2
 have hl1 := digs_len_mul a d
 have hl2 := digs_len_mul c b
 go_wp2_with (first
   | (go_at_call 54; refine M3.out.mono ?_; rintro e w3 ⟨v3, rfl, D3, hb3⟩; obtain ⟨p3, k3, rfl⟩ := D3.slice; clear x0 x1 x2 xf y0 y1 y2 yf; obtain ⟨x0, x1, x2, xf⟩ := hcells (hx_keep HX'.out hb3); obtain ⟨y0, y1, y2, yf⟩ := hcells (hx_keep HY'.out hb3); have hz3 := hb3.size; have g0 : w.heap.size < w3.heap.size := (by omega); have g1 : w.heap.size + 1 < w3.heap.size := (by omega); have g2 : ¬ w3.heap.size = w.heap.size := (by omega); have g3 : ¬ w.heap.size = w3.heap.size := (by omega); have g4 : ¬ w3.heap.size = w.heap.size + 1 + 1 := (by omega); have g5 : ¬ w.heap.size + 1 + 1 = w3.heap.size := (by omega); have g6 : w.heap.size + 1 + 1 < w3.heap.size := (by omega); have g7 : ¬ w3.heap.size = w.heap.size + 1 := (by omega); have g8 : ¬ w.heap.size + 1 = w3.heap.size := (by omega); have D3 := Lib.hid D3; have HR3 := Lib.hid (hx_keep HR'.out hb3); have hw3 := hw2.trans (hb3.mono hw2.size); have D13 := Lib.hid (D1'.out.keep hb3 (Nat.le_refl _)); have D23 := Lib.hid (D2.keep hb3 (Nat.le_refl _)); have HX3 := Lib.hid (hx_keep HX'.out hb3); have HY3 := Lib.hid (hx_keep HY'.out hb3); have CM := Lib.hid (cmp_d (D13.out.keep ((Below.refl w3.heap.size w3).alloc (Nat.le_refl _) (.cells #[.bool false, .slice none 0 0, .slice p3 (digs (b * d)).length k3] 52)) (Nat.le_refl _)) (D23.out.keep ((Below.refl w3.heap.size w3).alloc (Nat.le_refl _) (.cells #[.bool false, .slice none 0 0, .slice p3 (digs (b * d)).length k3] 52)) (Nat.le_refl _)) (by omega) (by omega)); clear hb3)
   | (go_at_call 70; refine CM.out.mono ?_; rintro e w5 ⟨rfl, hb5⟩; clear x0 x1 x2 xf y0 y1 y2 yf; obtain ⟨x0, x1, x2, xf⟩ := hcells (hx_keep (hx_old HX3.out) hb5); obtain ⟨y0, y1, y2, yf⟩ := hcells (hx_keep (hx_old HY3.out) hb5); have B5 := Lib.hid hb5; clear hb5))
 have HZ5 := Lib.hid (hx_keep (hx_last w3 _ _ rfl) B5.out)
 have HR5 := Lib.hid (hx_keep (hx_old HR3.out) B5.out)
 have hw35 := ((Below.refl w3.heap.size w3).alloc (Nat.le_refl _) _).trans (B5.out.mono (by simp))
 have hz5 := hw35.size
 have hz5' : w3.heap.size < w5.heap.size := hx_lt HZ5.out
 go_region_held3 (fun w' => w'.cell? ⟨w.heap.size, 0, none⟩ = some (.bool true))
   (first | go_keep | (exact (hb4.cell (by simp <;> omega)).trans x0))
   (first
     | (go_at_call 72; refine (less_d (D13.out.keep (hw35.drew) (Nat.le_refl _)) (D23.out.keep (hw35.drew) (Nat.le_refl _)) hge hA (by omega)).mono ?_; rintro e w4 ⟨v4, rfl, D4, hb4⟩; obtain ⟨p4, k4, rfl⟩ := D4.slice; have hb4 := undrew hb4; obtain ⟨c0, c1, c2, cf⟩ := hcells (hx_keep HZ5.out hb4); obtain ⟨r0, r1, r2, rf⟩ := hcells (hx_keep HR5.out hb4); have hw34 := hw35.trans (hb4.mono hz5); have D4 := Lib.hid D4; have hz4 := hb4.size))
 go_wp2
 have hz34 := hw34.size
 have hw4 := hw3.trans (hw34.mono hw3.size)
 refine bodyPost_ret (v := reV false (.slice p4 (digs (a * d - c * b)).length k4) (.slice p3 (digs (b * d)).length k3)) (by simp [results, Tryz.results37, go_sem, r0, r1, r2]) rfl ⟨_, rfl, ⟨_, _, rfl, ?_, ?_⟩, ?_⟩
 · exact ((((((D4.out.setCell _ (by simp <;> omega)).setCell _ (by simp <;> omega)).setCell _ (by simp <;> omega)).setCell _ (by simp <;> omega)).setCell _ (by simp <;> omega)).setCell _ (by simp <;> omega)).base (by simp <;> omega)
 · have e3 := D3.out.keep (((hw34.setCell (p := ⟨w3.heap.size, 0, none⟩) (Nat.le_refl _) (.bool true)).setCell (p := ⟨w3.heap.size, 1, none⟩) (Nat.le_refl _) (.slice p4 (digs (a * d - c * b)).length k4)).setCell (p := ⟨w3.heap.size, 0, none⟩) (Nat.le_refl _) (.bool false)) (Nat.le_refl _)
   exact (((e3.setCell _ (by simp <;> omega)).setCell _ (by simp <;> omega)).setCell _ (by simp <;> omega)).base (by omega)
 · exact (((((hw4.setCell (by simp <;> omega) _).setCell (by simp <;> omega) _).setCell (by simp <;> omega) _).setCell (by simp <;> omega) _).setCell (by simp <;> omega) _).setCell (by simp <;> omega) _
set_option maxRecDepth 100000 in
set_option maxHeartbeats 8000000 in
theorem both_tf_lt {B C : Nat} {w : World} {u v : Value} {a b c d : Nat} (hx : RArg B w u true a b) (hy : RArg C w v false c d)
   (la : (digs a).length ≤ 4000) (lb : (digs b).length ≤ 4000) (lc : (digs c).length ≤ 4000) (ld : (digs d).length ≤ 4000) (hlt : a * d < c * b) :
   Calls Tryz.prog 37 #[u, v] w (GivesR w false (c * b - a * d) (b * d)) := by
 obtain ⟨va, vb, rfl, Da, Db⟩ := hx
 obtain ⟨vc, vd, rfl, Dc, Dd⟩ := hy
 obtain ⟨pa, ka, rfl⟩ := Da.slice
 obtain ⟨pb, kb, rfl⟩ := Db.slice
 obtain ⟨pc, kc, rfl⟩ := Dc.slice
 obtain ⟨pd, kd, rfl⟩ := Dd.slice
 have q1 := s2
 have q2 := s2'
 have q3 := l2
 have q4 := l3
 have DA := Lib.hid Da
 have DB := Lib.hid Db
 have DC := Lib.hid Dc
 have DD := Lib.hid Dd
 have hord : ¬ 0 ≤ ord (a * d) (c * b) := ord_not hlt
 clear Da Db Dc Dd
 go_enter Tryz.func37, Tryz.ntmps37
 go_wp2
 go_region_held3 (fun w' => (w'.cell? ⟨w.heap.size, 1, none⟩ = some (.slice pa (digs a).length ka) ∧ w'.cell? ⟨w.heap.size, 2, none⟩ = some (.slice pb (digs b).length kb)) ∧
     (w'.cell? ⟨w.heap.size + 1, 1, none⟩ = some (.slice pc (digs c).length kc) ∧ w'.cell? ⟨w.heap.size + 1, 2, none⟩ = some (.slice pd (digs d).length kd)))
   (first | go_keep | (go_split_ands; refine ⟨⟨?_, ?_⟩, ?_, ?_⟩ <;> first | assumption | (rw [hb2.cell (by simp <;> omega)]; assumption)))
   (first
     | (go_at_call_of 54 (Value.slice pa (digs a).length ka); refine (mul_d (DA.out.keep (C := w.heap.size) (by go_grown) (Nat.le_refl _)) (DD.out.keep (C := w.heap.size) (by go_grown) (Nat.le_refl _)) (by omega) (by omega)).mono ?_; rintro e w1 ⟨v1, rfl, D1, hb1⟩; obtain ⟨p1, k1, rfl⟩ := D1.slice; obtain ⟨HX, HY, HR, hz, hw1⟩ := three (undrew hb1); obtain ⟨x0, x1, x2, xf⟩ := hcells HX; obtain ⟨y0, y1, y2, yf⟩ := hcells HY; have D1 := Lib.hid D1; have HX := Lib.hid HX; have HY := Lib.hid HY; have HR := Lib.hid HR; clear hb1; have M2 := Lib.hid (mul_d (DC.out.keep hw1 (Nat.le_refl _)) (DB.out.keep hw1 (Nat.le_refl _)) (by omega) (by omega)))
     | (go_at_call_of 54 (Value.slice pc (digs c).length kc); refine M2.out.mono ?_; rintro e w2 ⟨v2, rfl, D2, hb2⟩; obtain ⟨p2, k2, rfl⟩ := D2.slice; have D1' := Lib.hid (D1.out.keep hb2 (Nat.le_refl _)); have HX' := Lib.hid (hx_keep HX.out hb2); have HY' := Lib.hid (hx_keep HY.out hb2); have HR' := Lib.hid (hx_keep HR.out hb2)))
 have hw2 : Below w.heap.size w w2 := hw1.trans (hb2.mono hw1.size)
 have hz2 : w.heap.size + 1 + 1 < w2.heap.size := by have := hb2.size; omega
 have M3 := Lib.hid (mul_d (DB.out.keep hw2 (Nat.le_refl _)) (DD.out.keep hw2 (Nat.le_refl _)) (by omega) (by omega))
 clear x0 x1 x2 xf y0 y1 y2 yf hz
 obtain ⟨x0, x1, x2, xf⟩ := hcells HX'.out
 obtain ⟨y0, y1, y2, yf⟩ := hcells HY'.out
 clear hb2
 have hl1 := digs_len_mul a d
 have hl2 := digs_len_mul c b
 go_wp2_with (first
   | (go_at_call 54; refine M3.out.mono ?_; rintro e w3 ⟨v3, rfl, D3, hb3⟩; obtain ⟨p3, k3, rfl⟩ := D3.slice; clear x0 x1 x2 xf y0 y1 y2 yf; obtain ⟨x0, x1, x2, xf⟩ := hcells (hx_keep HX'.out hb3); obtain ⟨y0, y1, y2, yf⟩ := hcells (hx_keep HY'.out hb3); have hz3 := hb3.size; have g0 : w.heap.size < w3.heap.size := (by omega); have g1 : w.heap.size + 1 < w3.heap.size := (by omega); have g2 : ¬ w3.heap.size = w.heap.size := (by omega); have g3 : ¬ w.heap.size = w3.heap.size := (by omega); have g4 : ¬ w3.heap.size = w.heap.size + 1 + 1 := (by omega); have g5 : ¬ w.heap.size + 1 + 1 = w3.heap.size := (by omega); have g6 : w.heap.size + 1 + 1 < w3.heap.size := (by omega); have g7 : ¬ w3.heap.size = w.heap.size + 1 := (by omega); have g8 : ¬ w.heap.size + 1 = w3.heap.size := (by omega); have D3 := Lib.hid D3; have HR3 := Lib.hid (hx_keep HR'.out hb3); have hw3 := hw2.trans (hb3.mono hw2.size); have D13 := Lib.hid (D1'.out.keep hb3 (Nat.le_refl _)); have D23 := Lib.hid (D2.keep hb3 (Nat.le_refl _)); have HX3 := Lib.hid (hx_keep HX'.out hb3); have HY3 := Lib.hid (hx_keep HY'.out hb3); have CM := Lib.hid (cmp_d (D13.out.keep ((Below.refl w3.heap.size w3).alloc (Nat.le_refl _) (.cells #[.bool false, .slice none 0 0, .slice p3 (digs (b * d)).length k3] 52)) (Nat.le_refl _)) (D23.out.keep ((Below.refl w3.heap.size w3).alloc (Nat.le_refl _) (.cells #[.bool false, .slice none 0 0, .slice p3 (digs (b * d)).length k3] 52)) (Nat.le_refl _)) (by omega) (by omega)); clear hb3)
   | (go_at_call 70; refine CM.out.mono ?_; rintro e w5 ⟨rfl, hb5⟩; clear x0 x1 x2 xf y0 y1 y2 yf; obtain ⟨x0, x1, x2, xf⟩ := hcells (hx_keep (hx_old HX3.out) hb5); obtain ⟨y0, y1, y2, yf⟩ := hcells (hx_keep (hx_old HY3.out) hb5); have B5 := Lib.hid hb5; clear hb5))
 have HZ5 := Lib.hid (hx_keep (hx_last w3 _ _ rfl) B5.out)
 have HR5 := Lib.hid (hx_keep (hx_old HR3.out) B5.out)
 have hw35 := ((Below.refl w3.heap.size w3).alloc (Nat.le_refl _) _).trans (B5.out.mono (by simp))
 have hz5 := hw35.size
 have hz5' : w3.heap.size < w5.heap.size := hx_lt HZ5.out
 go_region_held3 (fun w' => w'.cell? ⟨w.heap.size + 1, 0, none⟩ = some (.bool false))
   (first | go_keep | (exact (hb4.cell (by simp <;> omega)).trans y0))
   (first
     | (go_at_call 72; refine (less_d (D23.out.keep (hw35.drew) (Nat.le_refl _)) (D13.out.keep (hw35.drew) (Nat.le_refl _)) (by omega) (by omega) (by omega)).mono ?_; rintro e w4 ⟨v4, rfl, D4, hb4⟩; obtain ⟨p4, k4, rfl⟩ := D4.slice; have hb4 := undrew hb4; obtain ⟨c0, c1, c2, cf⟩ := hcells (hx_keep HZ5.out hb4); obtain ⟨r0, r1, r2, rf⟩ := hcells (hx_keep HR5.out hb4); have hw34 := hw35.trans (hb4.mono hz5); have D4 := Lib.hid D4; have hz4 := hb4.size))
 go_wp2
 have hz34 := hw34.size
 have hw4 := hw3.trans (hw34.mono hw3.size)
 refine bodyPost_ret (v := reV false (.slice p4 (digs (c * b - a * d)).length k4) (.slice p3 (digs (b * d)).length k3)) (by simp [results, Tryz.results37, go_sem, r0, r1, r2]) rfl ⟨_, rfl, ⟨_, _, rfl, ?_, ?_⟩, ?_⟩
 · exact ((((((D4.out.setCell _ (by simp <;> omega)).setCell _ (by simp <;> omega)).setCell _ (by simp <;> omega)).setCell _ (by simp <;> omega)).setCell _ (by simp <;> omega)).setCell _ (by simp <;> omega)).base (by simp <;> omega)
 · have e3 := D3.out.keep (((hw34.setCell (p := ⟨w3.heap.size, 0, none⟩) (Nat.le_refl _) (.bool false)).setCell (p := ⟨w3.heap.size, 1, none⟩) (Nat.le_refl _) (.slice p4 (digs (c * b - a * d)).length k4)).setCell (p := ⟨w3.heap.size, 0, none⟩) (Nat.le_refl _) (.bool false)) (Nat.le_refl _)
   exact (((e3.setCell _ (by simp <;> omega)).setCell _ (by simp <;> omega)).setCell _ (by simp <;> omega)).base (by omega)
 · exact (((((hw4.setCell (by simp <;> omega) _).setCell (by simp <;> omega) _).setCell (by simp <;> omega) _).setCell (by simp <;> omega) _).setCell (by simp <;> omega) _).setCell (by simp <;> omega) _
end Go.Proofs.YtpdoddhieblooaaGreatDoor
namespace Go.Proofs.YtpdoddhieblooaaGreatDoor
open Go.RowKit

theorem both_d {B C : Nat} {w : World} {u v : Value} {na nb : Bool} {a b c d : Nat} (hx : RArg B w u na a b) (hy : RArg C w v nb c d)
   (la : (digs a).length ≤ 4000) (lb : (digs b).length ≤ 4000) (lc : (digs c).length ≤ 4000) (ld : (digs d).length ≤ 4000)
   (hb : 0 < b) (hd : 0 < d) (hna : na = true → 0 < a) (hnb : nb = true → 0 < c) :
   Calls Tryz.prog 37 #[u, v] w (GivesR w (bothNeg na nb (a * d) (c * b)) (bothNum na nb (a * d) (c * b)) (b * d)) := by
 cases na <;> cases nb
 · (rw [show bothNeg false false (a * d) (c * b) = false by (unfold bothNeg; rw [if_pos rfl]; rfl), show bothNum false false (a * d) (c * b) = a * d + c * b by (unfold bothNum; rw [if_pos rfl])])
   exact both_ff hx hy la lb lc ld
 · have hC : 0 < c * b := Nat.mul_pos (hnb rfl) hb
   by_cases h : c * b ≤ a * d
   · (rw [show bothNeg false true (a * d) (c * b) = false by (unfold bothNeg; rw [if_neg (show ¬ false = true by decide), if_pos h]; rfl), show bothNum false true (a * d) (c * b) = a * d - c * b by (unfold bothNum; rw [if_neg (show ¬ false = true by decide), if_pos h])])
     exact both_ft_ge hx hy la lb lc ld h (by omega)
   · (rw [show bothNeg false true (a * d) (c * b) = true by (unfold bothNeg; rw [if_neg (show ¬ false = true by decide), if_neg h]), show bothNum false true (a * d) (c * b) = c * b - a * d by (unfold bothNum; rw [if_neg (show ¬ false = true by decide), if_neg h])])
     exact both_ft_lt hx hy la lb lc ld (by omega)
 · have hA : 0 < a * d := Nat.mul_pos (hna rfl) hd
   by_cases h : c * b ≤ a * d
   · by_cases hp : 0 < a * d - c * b
     · (rw [show bothNeg true false (a * d) (c * b) = true by (unfold bothNeg; rw [if_neg (show ¬ true = false by decide), if_pos h, decide_eq_true hp]; rfl), show bothNum true false (a * d) (c * b) = a * d - c * b by (unfold bothNum; rw [if_neg (show ¬ true = false by decide), if_pos h])])
       exact both_tf_ge1 hx hy la lb lc ld h hA hp
     · (rw [show bothNeg true false (a * d) (c * b) = false by (unfold bothNeg; rw [if_neg (show ¬ true = false by decide), if_pos h, decide_eq_false hp]; rfl), show bothNum true false (a * d) (c * b) = a * d - c * b by (unfold bothNum; rw [if_neg (show ¬ true = false by decide), if_pos h])])
       exact both_tf_ge0 hx hy la lb lc ld h hA hp
   · (rw [show bothNeg true false (a * d) (c * b) = false by (unfold bothNeg; rw [if_neg (show ¬ true = false by decide), if_neg h]), show bothNum true false (a * d) (c * b) = c * b - a * d by (unfold bothNum; rw [if_neg (show ¬ true = false by decide), if_neg h])])
     exact both_tf_lt hx hy la lb lc ld (by omega)
 · by_cases hp : 0 < a * d + c * b
   · (rw [show bothNeg true true (a * d) (c * b) = true by (unfold bothNeg; rw [if_pos rfl, decide_eq_true hp]; rfl), show bothNum true true (a * d) (c * b) = a * d + c * b by (unfold bothNum; rw [if_pos rfl])])
     exact both_tt1 hx hy la lb lc ld hp
   · (rw [show bothNeg true true (a * d) (c * b) = false by (unfold bothNeg; rw [if_pos rfl, decide_eq_false hp]; rfl), show bothNum true true (a * d) (c * b) = a * d + c * b by (unfold bothNum; rw [if_pos rfl])])
     exact both_tt0 hx hy la lb lc ld hp
end Go.Proofs.YtpdoddhieblooaaGreatDoor
namespace Go.Proofs.YtpdoddhieblooaaGreatDoor
open Go.RowKit

end Go.Proofs.YtpdoddhieblooaaGreatDoor
namespace Go.Proofs.YtpdoddhieblooaaGreatDoor
open Go.RowKit
set_option maxRecDepth 100000 in
set_option maxHeartbeats 4000000 in
theorem order_x {B C : Nat} {w : World} {u v : Value} {na nb NT : Bool} {a b c d LN : Nat} {G : Bool} {o : Int} (hx : RArg B w u na a b) (hy : RArg C w v nb c d)
   (la : (digs a).length ≤ 4000) (lb : (digs b).length ≤ 4000) (lc : (digs c).length ≤ 4000) (ld : (digs d).length ≤ 4000)
   (hb : 0 < b) (hd : 0 < d) (hna : na = true → 0 < a) (hnt : NT = true → 0 < c) (hNT : (!nb && decide (0 < c)) = NT) (hL : (digs (bothNum na NT (a * d) (c * b))).length = LN) (hG : bothNeg na NT (a * d) (c * b) = G) (ho : o = if LN = 0 then 0 else if G = true then -1 else 1) :
   Calls Tryz.prog 26 #[u, v] w fun e w' => e = .returned (.int .i64 o) ∧ Below w.heap.size w w' := by
 obtain ⟨va, vb, rfl, Da, Db⟩ := hx
 obtain ⟨vc, vd, rfl, Dc, Dd⟩ := hy
 obtain ⟨pa, ka, rfl⟩ := Da.slice
 obtain ⟨pb, kb, rfl⟩ := Db.slice
 obtain ⟨pc, kc, rfl⟩ := Dc.slice
 obtain ⟨pd, kd, rfl⟩ := Dd.slice
 have HT : Hid (∀ (v : Value) (W : World), RArg C W v nb c d → Calls Tryz.prog 38 #[v] W fun e w' => ∃ v', e = .returned v' ∧ RArg C w' v' NT c d ∧ Below W.heap.size W w') := Lib.hid fun v W h => by rw [← hNT]; exact turn_d h
 have HNA := Lib.hid hna
 have HNT := Lib.hid hnt
 clear hna hnt hNT
 have q1 := s2
 have q2 := s2'
 have q3 := l2
 have q4 := l3
 go_enter Tryz.func26, Tryz.ntmps26
 go_upto_region 1 with fail
 have HX : ((w.alloc (.cells #[.bool na, .slice pa (digs a).length ka, .slice pb (digs b).length kb] 52)).alloc (.cells #[.bool nb, .slice pc (digs c).length kc, .slice pd (digs d).length kd] 52)).heap[w.heap.size]? = some (.cells #[.bool na, .slice pa (digs a).length ka, .slice pb (digs b).length kb] 52) := hx_old (hx_last w _ _ rfl)
 have HY : ((w.alloc (.cells #[.bool na, .slice pa (digs a).length ka, .slice pb (digs b).length kb] 52)).alloc (.cells #[.bool nb, .slice pc (digs c).length kc, .slice pd (digs d).length kd] 52)).heap[w.heap.size + 1]? = some (.cells #[.bool nb, .slice pc (digs c).length kc, .slice pd (digs d).length kd] 52) := hx_last _ _ _ (by simp)
 have hw0 : Below w.heap.size w ((w.alloc (.cells #[.bool na, .slice pa (digs a).length ka, .slice pb (digs b).length kb] 52)).alloc (.cells #[.bool nb, .slice pc (digs c).length kc, .slice pd (digs d).length kd] 52)) := ((Below.refl _ w).alloc (Nat.le_refl _) _).alloc (by simp) _
 generalize ((w.alloc (.cells #[.bool na, .slice pa (digs a).length ka, .slice pb (digs b).length kb] 52)).alloc (.cells #[.bool nb, .slice pc (digs c).length kc, .slice pd (digs d).length kd] 52)) = W0 at *
 have hz0 : w.heap.size + 1 < W0.heap.size := hx_lt HY
 have XA : Hid (RArg B W0 (reV na (.slice pa (digs a).length ka) (.slice pb (digs b).length kb)) na a b) := Lib.hid ⟨_, _, rfl, Da.keep hw0 (Nat.le_refl _), Db.keep hw0 (Nat.le_refl _)⟩
 have YA : Hid (RArg C W0 (reV nb (.slice pc (digs c).length kc) (.slice pd (digs d).length kd)) nb c d) := Lib.hid ⟨_, _, rfl, Dc.keep hw0 (Nat.le_refl _), Dd.keep hw0 (Nat.le_refl _)⟩
 obtain ⟨x0, x1, x2, xf⟩ := hcells HX
 obtain ⟨y0, y1, y2, yf⟩ := hcells HY
 have KX := Lib.hid HX
 have KY := Lib.hid HY
 have e1 : ¬ W0.heap.size = w.heap.size := by omega
 have e2 : ¬ w.heap.size = W0.heap.size := by omega
 have e3 : ¬ W0.heap.size = w.heap.size + 1 := by omega
 have e4 : ¬ w.heap.size + 1 = W0.heap.size := by omega
 have e5 : w.heap.size < W0.heap.size := by omega
 have EL := Lib.hid hL
 have EG := Lib.hid hG
 have HP := Lib.hid hb
 have HD := Lib.hid hd
 have HO := Lib.hid ho
 clear HX HY Da Db Dc Dd hb hd hL hG ho
 go_cut [5] (fun s5 wx => ∃ (g k : Nat) (p : Option Addr), s5 = .pointer (some ⟨g, 0, none⟩) ∧ wx.cell? ⟨g, 0, none⟩ = some (.bool G) ∧ wx.cell? ⟨g, 1, none⟩ = some (.slice p LN k) ∧ Below w.heap.size w wx)
 case first =>
   go_region_held3 (fun w' => (w'.cell? ⟨w.heap.size, 0, none⟩ = some (.bool na) ∧ w'.cell? ⟨w.heap.size, 1, none⟩ = some (.slice pa (digs a).length ka) ∧ w'.cell? ⟨w.heap.size, 2, none⟩ = some (.slice pb (digs b).length kb)) ∧
       (w'.cell? ⟨w.heap.size + 1, 0, none⟩ = some (.bool nb) ∧ w'.cell? ⟨w.heap.size + 1, 1, none⟩ = some (.slice pc (digs c).length kc) ∧ w'.cell? ⟨w.heap.size + 1, 2, none⟩ = some (.slice pd (digs d).length kd)))
     (first | go_keep | (go_split_ands; refine ⟨⟨?_, ?_, ?_⟩, ?_, ?_, ?_⟩ <;> first | assumption | (rw [b2.cell (by simp <;> omega)]; assumption) | (rw [b1.cell (by simp <;> omega)]; assumption)))
     (first
       | (go_at_call 38; refine (HT.out _ _ (YA.out.keep (C := W0.heap.size) (by go_grown) (Nat.le_refl _))).mono ?_; rintro e w1 ⟨v1, rfl, ⟨vn, vd, rfl, T1, T2⟩, hb1⟩; have Z1 := Lib.hid (hx_keep (hx_last W0 _ _ rfl) (undrew hb1)); have b1 : Below W0.heap.size W0 w1 := Below.trans (by go_grown) (hb1.mono (by simp)); obtain ⟨pn, kn, rfl⟩ := T1.slice; obtain ⟨pm, km, rfl⟩ := T2.slice; have TT : Hid (RArg C w1 (reV NT (.slice pn (digs c).length kn) (.slice pm (digs d).length km)) NT c d) := Lib.hid ⟨_, _, rfl, T1, T2⟩; clear T1 T2 hb1; have z1 := b1.size; have f1 : ¬ w1.heap.size = w.heap.size := (by omega); have f2 : ¬ w.heap.size = w1.heap.size := (by omega); have f3 : ¬ w1.heap.size = w.heap.size + 1 := (by omega); have f4 : ¬ w.heap.size + 1 = w1.heap.size := (by omega); have f5 : w.heap.size < w1.heap.size := (by omega); have f6 : w.heap.size + 1 < w1.heap.size := (by omega))
       | (go_at_call 38; refine (HT.out _ _ (YA.out.keep (C := W0.heap.size) (by go_grown) (Nat.le_refl _))).mono ?_; rintro e w1 ⟨v1, rfl, ⟨vn, vd, rfl, T1, T2⟩, hb1⟩; have b1 : Below W0.heap.size W0 w1 := Below.trans (by go_grown) (hb1.mono (by simp)); obtain ⟨pn, kn, rfl⟩ := T1.slice; obtain ⟨pm, km, rfl⟩ := T2.slice; have TT : Hid (RArg C w1 (reV NT (.slice pn (digs c).length kn) (.slice pm (digs d).length km)) NT c d) := Lib.hid ⟨_, _, rfl, T1, T2⟩; clear T1 T2 hb1; have z1 := b1.size; have f1 : ¬ w1.heap.size = w.heap.size := (by omega); have f2 : ¬ w.heap.size = w1.heap.size := (by omega); have f3 : ¬ w1.heap.size = w.heap.size + 1 := (by omega); have f4 : ¬ w.heap.size + 1 = w1.heap.size := (by omega); have f5 : w.heap.size < w1.heap.size := (by omega); have f6 : w.heap.size + 1 < w1.heap.size := (by omega))
       | (go_at_call 37; refine (both_d (XA.out.keep (C := W0.heap.size) (by first | exact b1 | exact b1.alloc b1.size _) (Nat.le_refl _)) (TT.out.keep (C := w1.heap.size) (by go_grown) (Nat.le_refl _)) la lb lc ld HP.out HD.out HNA.out HNT.out).mono ?_; rintro e w2 ⟨v2, rfl, ⟨vn2, vd2, rfl, R2, R3⟩, hb2⟩; have cc := hcells (hx_keep Z1.out hb2); obtain ⟨c0, c1, c2, cf⟩ := cc; obtain ⟨p2, k2, rfl⟩ := R2.slice; obtain ⟨p3, k3, rfl⟩ := R3.slice; (try rw [EG.out]); (try rw [EL.out]); have b2 : Below W0.heap.size W0 w2 := Below.trans (by first | exact b1 | exact b1.alloc b1.size _) (hb2.mono (by first | exact b1.size | (simp; have := b1.size; omega))); have z2 := b2.size; have h1 : w.heap.size < w2.heap.size := (by omega); have h2 : w.heap.size + 1 < w2.heap.size := (by omega); have X2 := hcells (hx_keep KX.out b2); have Y2 := hcells (hx_keep KY.out b2); obtain ⟨i0, i1, i2, i3⟩ := X2; obtain ⟨j0, j1, j2, j3⟩ := Y2)
       | (go_at_call 37; refine (both_d (XA.out.keep (C := W0.heap.size) (by first | exact b1 | exact b1.alloc b1.size _) (Nat.le_refl _)) (TT.out.keep (C := w1.heap.size) (by go_grown) (Nat.le_refl _)) la lb lc ld HP.out HD.out HNA.out HNT.out).mono ?_; rintro e w2 ⟨v2, rfl, ⟨vn2, vd2, rfl, R2, R3⟩, hb2⟩; have cc := hcells (hx_keep (hx_last w1 _ _ rfl) hb2); obtain ⟨c0, c1, c2, cf⟩ := cc; obtain ⟨p2, k2, rfl⟩ := R2.slice; obtain ⟨p3, k3, rfl⟩ := R3.slice; (try rw [EG.out]); (try rw [EL.out]); have b2 : Below W0.heap.size W0 w2 := Below.trans (by first | exact b1 | exact b1.alloc b1.size _) (hb2.mono (by first | exact b1.size | (simp; have := b1.size; omega))); have z2 := b2.size; have h1 : w.heap.size < w2.heap.size := (by omega); have h2 : w.heap.size + 1 < w2.heap.size := (by omega); have X2 := hcells (hx_keep KX.out b2); have Y2 := hcells (hx_keep KY.out b2); obtain ⟨i0, i1, i2, i3⟩ := X2; obtain ⟨j0, j1, j2, j3⟩ := Y2)
       | (go_at_call 37; refine (both_d (XA.out.keep (C := W0.heap.size) (by first | exact b1 | exact b1.alloc b1.size _) (Nat.le_refl _)) (TT.out.keep (C := w1.heap.size) (by go_grown) (Nat.le_refl _)) la lb lc ld HP.out HD.out HNA.out HNT.out).mono ?_; rintro e w2 ⟨v2, rfl, ⟨vn2, vd2, rfl, R2, R3⟩, hb2⟩; obtain ⟨p2, k2, rfl⟩ := R2.slice; obtain ⟨p3, k3, rfl⟩ := R3.slice; (try rw [EG.out]); (try rw [EL.out]); have b2 : Below W0.heap.size W0 w2 := Below.trans (by first | exact b1 | exact b1.alloc b1.size _) (hb2.mono (by first | exact b1.size | (simp; have := b1.size; omega))); have z2 := b2.size; have h1 : w.heap.size < w2.heap.size := (by omega); have h2 : w.heap.size + 1 < w2.heap.size := (by omega); have X2 := hcells (hx_keep KX.out b2); have Y2 := hcells (hx_keep KY.out b2); obtain ⟨i0, i1, i2, i3⟩ := X2; obtain ⟨j0, j1, j2, j3⟩ := Y2))
   all_goals
     have b02 := hw0.trans (b2.mono hw0.size)
     go_wp2_with fail
     go_meet
     first
       | exact ⟨W0.heap.size, k2, p2, rfl, by simp [go_sem, *], by simp [go_sem, *], ((b02.setCell (by first | omega | (simp <;> omega)) _).setCell (by first | omega | (simp <;> omega)) _).setCell (by first | omega | (simp <;> omega)) _⟩
       | exact ⟨w1.heap.size, k2, p2, rfl, by simp [go_sem, *], by simp [go_sem, *], ((b02.setCell (by first | omega | (simp <;> omega)) _).setCell (by first | omega | (simp <;> omega)) _).setCell (by first | omega | (simp <;> omega)) _⟩
       | exact ⟨w2.heap.size, k2, p2, rfl, by simp [go_sem], by simp [go_sem], b02.alloc (by omega) _⟩
 case rest =>
   obtain ⟨g, k, p, rfl, g0, g1, hW⟩ := hcut
   have HW := Lib.hid hW
   clear hW
   by_cases h0 : LN = 0
   · subst h0
     have ho := HO.out
     rw [if_pos rfl] at ho
     subst ho
     go_wp2
     go_ret
     exact ⟨rfl, HW.out⟩
   · have ho := HO.out
     rw [if_neg h0] at ho
     cases G with
     | true =>
       rw [if_pos rfl] at ho
       subst ho
       go_wp2
       go_ret
       exact ⟨rfl, HW.out⟩
     | false =>
       rw [if_neg (by decide)] at ho
       subst ho
       go_wp2
       go_ret
       exact ⟨rfl, HW.out⟩
end Go.Proofs.YtpdoddhieblooaaGreatDoor
