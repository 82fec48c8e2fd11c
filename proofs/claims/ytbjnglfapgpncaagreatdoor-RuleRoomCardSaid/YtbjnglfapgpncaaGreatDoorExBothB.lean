/- ironbarkref01.Both: other signs. -/
import Derived.Test.YtbjnglfapgpncaaGreatDoorExFit0
namespace Go.Proofs.YtbjnglfapgpncaaGreatDoor
open Go.RowKit

set_option maxRecDepth 100000 in
set_option maxHeartbeats 8000000 in
theorem both_ft_lt {B C : Nat} {w : World} {u v : Value} {a b c d : Nat} (hx : XArg B w u false a b) (hy : XArg C w v true c d)
    (la : (digs a).length ≤ 1000) (lb : (digs b).length ≤ 1000) (lc : (digs c).length ≤ 1000) (ld : (digs d).length ≤ 1000) (hlt : a * d < c * b) :
    Calls Tryz.prog 8 #[u, v] w (GivesX w true (c * b - a * d) (b * d)) := by
  obtain ⟨va, vb, rfl, Da, Db⟩ := hx
  obtain ⟨vc, vd, rfl, Dc, Dd⟩ := hy
  obtain ⟨pa, ka, rfl⟩ := Da.slice
  obtain ⟨pb, kb, rfl⟩ := Db.slice
  obtain ⟨pc, kc, rfl⟩ := Dc.slice
  obtain ⟨pd, kd, rfl⟩ := Dd.slice
  have q1 := s2
  have q2 := s2'
  have q3 := l2
  have q4 := l3
  have DA := Lib.hid Da
  have DB := Lib.hid Db
  have DC := Lib.hid Dc
  have DD := Lib.hid Dd
  have hord : ¬ 0 ≤ ord (a * d) (c * b) := ord_not hlt
  have hp := digs_len_pos (show 0 < c * b - a * d by omega)
  clear Da Db Dc Dd
  go_enter Tryz.func8, Tryz.ntmps8
  go_wp2
  go_region_held3 (fun w' => (w'.cell? ⟨w.heap.size, 1, none⟩ = some (.slice pa (digs a).length ka) ∧ w'.cell? ⟨w.heap.size, 2, none⟩ = some (.slice pb (digs b).length kb)) ∧
      (w'.cell? ⟨w.heap.size + 1, 1, none⟩ = some (.slice pc (digs c).length kc) ∧ w'.cell? ⟨w.heap.size + 1, 2, none⟩ = some (.slice pd (digs d).length kd)))
    (first | go_keep | (go_split_ands; refine ⟨⟨?_, ?_⟩, ?_, ?_⟩ <;> first | assumption | (rw [hb2.cell (by simp <;> omega)]; assumption)))
    (first
      | (go_at_call_of 26 (Value.slice pa (digs a).length ka); refine (mul_d (DA.out.keep (C := w.heap.size) (by go_grown) (Nat.le_refl _)) (DD.out.keep (C := w.heap.size) (by go_grown) (Nat.le_refl _)) (by omega) (by omega)).mono ?_; rintro e w1 ⟨v1, rfl, D1, hb1⟩; obtain ⟨p1, k1, rfl⟩ := D1.slice; obtain ⟨HX, HY, HR, hz, hw1⟩ := three (undrew hb1); obtain ⟨x0, x1, x2, xf⟩ := hcells HX; obtain ⟨y0, y1, y2, yf⟩ := hcells HY; have D1 := Lib.hid D1; have HX := Lib.hid HX; have HY := Lib.hid HY; have HR := Lib.hid HR; clear hb1; have M2 := Lib.hid (mul_d (DC.out.keep hw1 (Nat.le_refl _)) (DB.out.keep hw1 (Nat.le_refl _)) (by omega) (by omega)))
      | (go_at_call_of 26 (Value.slice pc (digs c).length kc); refine M2.out.mono ?_; rintro e w2 ⟨v2, rfl, D2, hb2⟩; obtain ⟨p2, k2, rfl⟩ := D2.slice; have D1' := Lib.hid (D1.out.keep hb2 (Nat.le_refl _)); have HX' := Lib.hid (hx_keep HX.out hb2); have HY' := Lib.hid (hx_keep HY.out hb2); have HR' := Lib.hid (hx_keep HR.out hb2)))
  have hw2 : Below w.heap.size w w2 := hw1.trans (hb2.mono hw1.size)
  have hz2 : w.heap.size + 1 + 1 < w2.heap.size := by have := hb2.size; omega
  have M3 := Lib.hid (mul_d (DB.out.keep hw2 (Nat.le_refl _)) (DD.out.keep hw2 (Nat.le_refl _)) (by omega) (by omega))
  clear x0 x1 x2 xf y0 y1 y2 yf hz
  obtain ⟨x0, x1, x2, xf⟩ := hcells HX'.out
  obtain ⟨y0, y1, y2, yf⟩ := hcells HY'.out
  clear hb2
  have hl1 := digs_len_mul a d
  have hl2 := digs_len_mul c b
  go_wp2_with (first
    | (go_at_call 26; refine M3.out.mono ?_; rintro e w3 ⟨v3, rfl, D3, hb3⟩; obtain ⟨p3, k3, rfl⟩ := D3.slice; clear x0 x1 x2 xf y0 y1 y2 yf; obtain ⟨x0, x1, x2, xf⟩ := hcells (hx_keep HX'.out hb3); obtain ⟨y0, y1, y2, yf⟩ := hcells (hx_keep HY'.out hb3); have hz3 := hb3.size; have g0 : w.heap.size < w3.heap.size := (by omega); have g1 : w.heap.size + 1 < w3.heap.size := (by omega); have g2 : ¬ w3.heap.size = w.heap.size := (by omega); have g3 : ¬ w.heap.size = w3.heap.size := (by omega); have g4 : ¬ w3.heap.size = w.heap.size + 1 + 1 := (by omega); have g5 : ¬ w.heap.size + 1 + 1 = w3.heap.size := (by omega); have g6 : w.heap.size + 1 + 1 < w3.heap.size := (by omega); have g7 : ¬ w3.heap.size = w.heap.size + 1 := (by omega); have g8 : ¬ w.heap.size + 1 = w3.heap.size := (by omega); have D3 := Lib.hid D3; have HR3 := Lib.hid (hx_keep HR'.out hb3); have hw3 := hw2.trans (hb3.mono hw2.size); have D13 := Lib.hid (D1'.out.keep hb3 (Nat.le_refl _)); have D23 := Lib.hid (D2.keep hb3 (Nat.le_refl _)); have HX3 := Lib.hid (hx_keep HX'.out hb3); have HY3 := Lib.hid (hx_keep HY'.out hb3); have CM := Lib.hid (cmp_d (D13.out.keep ((Below.refl w3.heap.size w3).alloc (Nat.le_refl _) (.cells #[.bool false, .slice none 0 0, .slice p3 (digs (b * d)).length k3] 35)) (Nat.le_refl _)) (D23.out.keep ((Below.refl w3.heap.size w3).alloc (Nat.le_refl _) (.cells #[.bool false, .slice none 0 0, .slice p3 (digs (b * d)).length k3] 35)) (Nat.le_refl _)) (by omega) (by omega)); clear hb3)
    | (go_at_call 17; refine CM.out.mono ?_; rintro e w5 ⟨rfl, hb5⟩; clear x0 x1 x2 xf y0 y1 y2 yf; obtain ⟨x0, x1, x2, xf⟩ := hcells (hx_keep (hx_old HX3.out) hb5); obtain ⟨y0, y1, y2, yf⟩ := hcells (hx_keep (hx_old HY3.out) hb5); have B5 := Lib.hid hb5; clear hb5))
  have HZ5 := Lib.hid (hx_keep (hx_last w3 _ _ rfl) B5.out)
  have HR5 := Lib.hid (hx_keep (hx_old HR3.out) B5.out)
  have hw35 := ((Below.refl w3.heap.size w3).alloc (Nat.le_refl _) _).trans (B5.out.mono (by simp))
  have hz5 := hw35.size
  have hz5' : w3.heap.size < w5.heap.size := hx_lt HZ5.out
  go_region_held3 (fun w' => w'.cell? ⟨w.heap.size + 1, 0, none⟩ = some (.bool true))
    (first | go_keep | (exact (hb4.cell (by simp <;> omega)).trans y0))
    (first
      | (go_at_call 29; refine (less_d (D23.out.keep (hw35.drew) (Nat.le_refl _)) (D13.out.keep (hw35.drew) (Nat.le_refl _)) (by omega) (by omega) (by omega)).mono ?_; rintro e w4 ⟨v4, rfl, D4, hb4⟩; obtain ⟨p4, k4, rfl⟩ := D4.slice; have hb4 := undrew hb4; obtain ⟨c0, c1, c2, cf⟩ := hcells (hx_keep HZ5.out hb4); obtain ⟨r0, r1, r2, rf⟩ := hcells (hx_keep HR5.out hb4); have hw34 := hw35.trans (hb4.mono hz5); have D4 := Lib.hid D4; have hz4 := hb4.size))
  go_wp2
  have hz34 := hw34.size
  have hw4 := hw3.trans (hw34.mono hw3.size)
  refine bodyPost_ret (v := exV true (.slice p4 (digs (c * b - a * d)).length k4) (.slice p3 (digs (b * d)).length k3)) (by simp [results, Tryz.results8, go_sem, r0, r1, r2]) rfl ⟨_, rfl, ⟨_, _, rfl, ?_, ?_⟩, ?_⟩
  · exact ((((((D4.out.setCell _ (by simp <;> omega)).setCell _ (by simp <;> omega)).setCell _ (by simp <;> omega)).setCell _ (by simp <;> omega)).setCell _ (by simp <;> omega)).setCell _ (by simp <;> omega)).base (by simp <;> omega)
  · have e3 := D3.out.keep (((hw34.setCell (p := ⟨w3.heap.size, 0, none⟩) (Nat.le_refl _) (.bool true)).setCell (p := ⟨w3.heap.size, 1, none⟩) (Nat.le_refl _) (.slice p4 (digs (c * b - a * d)).length k4)).setCell (p := ⟨w3.heap.size, 0, none⟩) (Nat.le_refl _) (.bool true)) (Nat.le_refl _)
    exact (((e3.setCell _ (by simp <;> omega)).setCell _ (by simp <;> omega)).setCell _ (by simp <;> omega)).base (by omega)
  · exact (((((hw4.setCell (by simp <;> omega) _).setCell (by simp <;> omega) _).setCell (by simp <;> omega) _).setCell (by simp <;> omega) _).setCell (by simp <;> omega) _).setCell (by simp <;> omega) _

set_option maxRecDepth 100000 in
set_option maxHeartbeats 8000000 in
theorem both_tf_ge1 {B C : Nat} {w : World} {u v : Value} {a b c d : Nat} (hx : XArg B w u true a b) (hy : XArg C w v false c d)
    (la : (digs a).length ≤ 1000) (lb : (digs b).length ≤ 1000) (lc : (digs c).length ≤ 1000) (ld : (digs d).length ≤ 1000) (hge : c * b ≤ a * d) (hA : 0 < a * d) (hpos : 0 < a * d - c * b) :
    Calls Tryz.prog 8 #[u, v] w (GivesX w true (a * d - c * b) (b * d)) := by
  obtain ⟨va, vb, rfl, Da, Db⟩ := hx
  obtain ⟨vc, vd, rfl, Dc, Dd⟩ := hy
  obtain ⟨pa, ka, rfl⟩ := Da.slice
  obtain ⟨pb, kb, rfl⟩ := Db.slice
  obtain ⟨pc, kc, rfl⟩ := Dc.slice
  obtain ⟨pd, kd, rfl⟩ := Dd.slice
  have q1 := s2
  have q2 := s2'
  have q3 := l2
  have q4 := l3
  have DA := Lib.hid Da
  have DB := Lib.hid Db
  have DC := Lib.hid Dc
  have DD := Lib.hid Dd
  have hord : 0 ≤ ord (a * d) (c * b) := ord_ge hge
  have hp := digs_len_pos hpos
  clear Da Db Dc Dd
  go_enter Tryz.func8, Tryz.ntmps8
  go_wp2
  go_region_held3 (fun w' => (w'.cell? ⟨w.heap.size, 1, none⟩ = some (.slice pa (digs a).length ka) ∧ w'.cell? ⟨w.heap.size, 2, none⟩ = some (.slice pb (digs b).length kb)) ∧
      (w'.cell? ⟨w.heap.size + 1, 1, none⟩ = some (.slice pc (digs c).length kc) ∧ w'.cell? ⟨w.heap.size + 1, 2, none⟩ = some (.slice pd (digs d).length kd)))
    (first | go_keep | (go_split_ands; refine ⟨⟨?_, ?_⟩, ?_, ?_⟩ <;> first | assumption | (rw [hb2.cell (by simp <;> omega)]; assumption)))
    (first
      | (go_at_call_of 26 (Value.slice pa (digs a).length ka); refine (mul_d (DA.out.keep (C := w.heap.size) (by go_grown) (Nat.le_refl _)) (DD.out.keep (C := w.heap.size) (by go_grown) (Nat.le_refl _)) (by omega) (by omega)).mono ?_; rintro e w1 ⟨v1, rfl, D1, hb1⟩; obtain ⟨p1, k1, rfl⟩ := D1.slice; obtain ⟨HX, HY, HR, hz, hw1⟩ := three (undrew hb1); obtain ⟨x0, x1, x2, xf⟩ := hcells HX; obtain ⟨y0, y1, y2, yf⟩ := hcells HY; have D1 := Lib.hid D1; have HX := Lib.hid HX; have HY := Lib.hid HY; have HR := Lib.hid HR; clear hb1; have M2 := Lib.hid (mul_d (DC.out.keep hw1 (Nat.le_refl _)) (DB.out.keep hw1 (Nat.le_refl _)) (by omega) (by omega)))
      | (go_at_call_of 26 (Value.slice pc (digs c).length kc); refine M2.out.mono ?_; rintro e w2 ⟨v2, rfl, D2, hb2⟩; obtain ⟨p2, k2, rfl⟩ := D2.slice; have D1' := Lib.hid (D1.out.keep hb2 (Nat.le_refl _)); have HX' := Lib.hid (hx_keep HX.out hb2); have HY' := Lib.hid (hx_keep HY.out hb2); have HR' := Lib.hid (hx_keep HR.out hb2)))
  have hw2 : Below w.heap.size w w2 := hw1.trans (hb2.mono hw1.size)
  have hz2 : w.heap.size + 1 + 1 < w2.heap.size := by have := hb2.size; omega
  have M3 := Lib.hid (mul_d (DB.out.keep hw2 (Nat.le_refl _)) (DD.out.keep hw2 (Nat.le_refl _)) (by omega) (by omega))
  clear x0 x1 x2 xf y0 y1 y2 yf hz
  obtain ⟨x0, x1, x2, xf⟩ := hcells HX'.out
  obtain ⟨y0, y1, y2, yf⟩ := hcells HY'.out
  clear hb2
  have hl1 := digs_len_mul a d
  have hl2 := digs_len_mul c b
  go_wp2_with (first
    | (go_at_call 26; refine M3.out.mono ?_; rintro e w3 ⟨v3, rfl, D3, hb3⟩; obtain ⟨p3, k3, rfl⟩ := D3.slice; clear x0 x1 x2 xf y0 y1 y2 yf; obtain ⟨x0, x1, x2, xf⟩ := hcells (hx_keep HX'.out hb3); obtain ⟨y0, y1, y2, yf⟩ := hcells (hx_keep HY'.out hb3); have hz3 := hb3.size; have g0 : w.heap.size < w3.heap.size := (by omega); have g1 : w.heap.size + 1 < w3.heap.size := (by omega); have g2 : ¬ w3.heap.size = w.heap.size := (by omega); have g3 : ¬ w.heap.size = w3.heap.size := (by omega); have g4 : ¬ w3.heap.size = w.heap.size + 1 + 1 := (by omega); have g5 : ¬ w.heap.size + 1 + 1 = w3.heap.size := (by omega); have g6 : w.heap.size + 1 + 1 < w3.heap.size := (by omega); have g7 : ¬ w3.heap.size = w.heap.size + 1 := (by omega); have g8 : ¬ w.heap.size + 1 = w3.heap.size := (by omega); have D3 := Lib.hid D3; have HR3 := Lib.hid (hx_keep HR'.out hb3); have hw3 := hw2.trans (hb3.mono hw2.size); have D13 := Lib.hid (D1'.out.keep hb3 (Nat.le_refl _)); have D23 := Lib.hid (D2.keep hb3 (Nat.le_refl _)); have HX3 := Lib.hid (hx_keep HX'.out hb3); have HY3 := Lib.hid (hx_keep HY'.out hb3); have CM := Lib.hid (cmp_d (D13.out.keep ((Below.refl w3.heap.size w3).alloc (Nat.le_refl _) (.cells #[.bool false, .slice none 0 0, .slice p3 (digs (b * d)).length k3] 35)) (Nat.le_refl _)) (D23.out.keep ((Below.refl w3.heap.size w3).alloc (Nat.le_refl _) (.cells #[.bool false, .slice none 0 0, .slice p3 (digs (b * d)).length k3] 35)) (Nat.le_refl _)) (by omega) (by omega)); clear hb3)
    | (go_at_call 17; refine CM.out.mono ?_; rintro e w5 ⟨rfl, hb5⟩; clear x0 x1 x2 xf y0 y1 y2 yf; obtain ⟨x0, x1, x2, xf⟩ := hcells (hx_keep (hx_old HX3.out) hb5); obtain ⟨y0, y1, y2, yf⟩ := hcells (hx_keep (hx_old HY3.out) hb5); have B5 := Lib.hid hb5; clear hb5))
  have HZ5 := Lib.hid (hx_keep (hx_last w3 _ _ rfl) B5.out)
  have HR5 := Lib.hid (hx_keep (hx_old HR3.out) B5.out)
  have hw35 := ((Below.refl w3.heap.size w3).alloc (Nat.le_refl _) _).trans (B5.out.mono (by simp))
  have hz5 := hw35.size
  have hz5' : w3.heap.size < w5.heap.size := hx_lt HZ5.out
  go_region_held3 (fun w' => w'.cell? ⟨w.heap.size, 0, none⟩ = some (.bool true))
    (first | go_keep | (exact (hb4.cell (by simp <;> omega)).trans x0))
    (first
      | (go_at_call 29; refine (less_d (D13.out.keep (hw35.drew) (Nat.le_refl _)) (D23.out.keep (hw35.drew) (Nat.le_refl _)) hge hA (by omega)).mono ?_; rintro e w4 ⟨v4, rfl, D4, hb4⟩; obtain ⟨p4, k4, rfl⟩ := D4.slice; have hb4 := undrew hb4; obtain ⟨c0, c1, c2, cf⟩ := hcells (hx_keep HZ5.out hb4); obtain ⟨r0, r1, r2, rf⟩ := hcells (hx_keep HR5.out hb4); have hw34 := hw35.trans (hb4.mono hz5); have D4 := Lib.hid D4; have hz4 := hb4.size))
  go_wp2
  have hz34 := hw34.size
  have hw4 := hw3.trans (hw34.mono hw3.size)
  refine bodyPost_ret (v := exV true (.slice p4 (digs (a * d - c * b)).length k4) (.slice p3 (digs (b * d)).length k3)) (by simp [results, Tryz.results8, go_sem, r0, r1, r2]) rfl ⟨_, rfl, ⟨_, _, rfl, ?_, ?_⟩, ?_⟩
  · exact ((((((D4.out.setCell _ (by simp <;> omega)).setCell _ (by simp <;> omega)).setCell _ (by simp <;> omega)).setCell _ (by simp <;> omega)).setCell _ (by simp <;> omega)).setCell _ (by simp <;> omega)).base (by simp <;> omega)
  · have e3 := D3.out.keep (((hw34.setCell (p := ⟨w3.heap.size, 0, none⟩) (Nat.le_refl _) (.bool true)).setCell (p := ⟨w3.heap.size, 1, none⟩) (Nat.le_refl _) (.slice p4 (digs (a * d - c * b)).length k4)).setCell (p := ⟨w3.heap.size, 0, none⟩) (Nat.le_refl _) (.bool true)) (Nat.le_refl _)
    exact (((e3.setCell _ (by simp <;> omega)).setCell _ (by simp <;> omega)).setCell _ (by simp <;> omega)).base (by omega)
  · exact (((((hw4.setCell (by simp <;> omega) _).setCell (by simp <;> omega) _).setCell (by simp <;> omega) _).setCell (by simp <;> omega) _).setCell (by simp <;> omega) _).setCell (by simp <;> omega) _

set_option maxRecDepth 100000 in
set_option maxHeartbeats 8000000 in
theorem both_tf_ge0 {B C : Nat} {w : World} {u v : Value} {a b c d : Nat} (hx : XArg B w u true a b) (hy : XArg C w v false c d)
    (la : (digs a).length ≤ 1000) (lb : (digs b).length ≤ 1000) (lc : (digs c).length ≤ 1000) (ld : (digs d).length ≤ 1000) (hge : c * b ≤ a * d) (hA : 0 < a * d) (hpos : ¬ 0 < a * d - c * b) :
    Calls Tryz.prog 8 #[u, v] w (GivesX w false (a * d - c * b) (b * d)) := by
  obtain ⟨va, vb, rfl, Da, Db⟩ := hx
  obtain ⟨vc, vd, rfl, Dc, Dd⟩ := hy
  obtain ⟨pa, ka, rfl⟩ := Da.slice
  obtain ⟨pb, kb, rfl⟩ := Db.slice
  obtain ⟨pc, kc, rfl⟩ := Dc.slice
  obtain ⟨pd, kd, rfl⟩ := Dd.slice
  have q1 := s2
  have q2 := s2'
  have q3 := l2
  have q4 := l3
  have DA := Lib.hid Da
  have DB := Lib.hid Db
  have DC := Lib.hid Dc
  have DD := Lib.hid Dd
  have hord : 0 ≤ ord (a * d) (c * b) := ord_ge hge
  have hp := digs_len_not hpos
  clear Da Db Dc Dd
  go_enter Tryz.func8, Tryz.ntmps8
  go_wp2
  go_region_held3 (fun w' => (w'.cell? ⟨w.heap.size, 1, none⟩ = some (.slice pa (digs a).length ka) ∧ w'.cell? ⟨w.heap.size, 2, none⟩ = some (.slice pb (digs b).length kb)) ∧
      (w'.cell? ⟨w.heap.size + 1, 1, none⟩ = some (.slice pc (digs c).length kc) ∧ w'.cell? ⟨w.heap.size + 1, 2, none⟩ = some (.slice pd (digs d).length kd)))
    (first | go_keep | (go_split_ands; refine ⟨⟨?_, ?_⟩, ?_, ?_⟩ <;> first | assumption | (rw [hb2.cell (by simp <;> omega)]; assumption)))
    (first
      | (go_at_call_of 26 (Value.slice pa (digs a).length ka); refine (mul_d (DA.out.keep (C := w.heap.size) (by go_grown) (Nat.le_refl _)) (DD.out.keep (C := w.heap.size) (by go_grown) (Nat.le_refl _)) (by omega) (by omega)).mono ?_; rintro e w1 ⟨v1, rfl, D1, hb1⟩; obtain ⟨p1, k1, rfl⟩ := D1.slice; obtain ⟨HX, HY, HR, hz, hw1⟩ := three (undrew hb1); obtain ⟨x0, x1, x2, xf⟩ := hcells HX; obtain ⟨y0, y1, y2, yf⟩ := hcells HY; have D1 := Lib.hid D1; have HX := Lib.hid HX; have HY := Lib.hid HY; have HR := Lib.hid HR; clear hb1; have M2 := Lib.hid (mul_d (DC.out.keep hw1 (Nat.le_refl _)) (DB.out.keep hw1 (Nat.le_refl _)) (by omega) (by omega)))
      | (go_at_call_of 26 (Value.slice pc (digs c).length kc); refine M2.out.mono ?_; rintro e w2 ⟨v2, rfl, D2, hb2⟩; obtain ⟨p2, k2, rfl⟩ := D2.slice; have D1' := Lib.hid (D1.out.keep hb2 (Nat.le_refl _)); have HX' := Lib.hid (hx_keep HX.out hb2); have HY' := Lib.hid (hx_keep HY.out hb2); have HR' := Lib.hid (hx_keep HR.out hb2)))
  have hw2 : Below w.heap.size w w2 := hw1.trans (hb2.mono hw1.size)
  have hz2 : w.heap.size + 1 + 1 < w2.heap.size := by have := hb2.size; omega
  have M3 := Lib.hid (mul_d (DB.out.keep hw2 (Nat.le_refl _)) (DD.out.keep hw2 (Nat.le_refl _)) (by omega) (by omega))
  clear x0 x1 x2 xf y0 y1 y2 yf hz
  obtain ⟨x0, x1, x2, xf⟩ := hcells HX'.out
  obtain ⟨y0, y1, y2, yf⟩ := hcells HY'.out
  clear hb2
  have hl1 := digs_len_mul a d
  have hl2 := digs_len_mul c b
  go_wp2_with (first
    | (go_at_call 26; refine M3.out.mono ?_; rintro e w3 ⟨v3, rfl, D3, hb3⟩; obtain ⟨p3, k3, rfl⟩ := D3.slice; clear x0 x1 x2 xf y0 y1 y2 yf; obtain ⟨x0, x1, x2, xf⟩ := hcells (hx_keep HX'.out hb3); obtain ⟨y0, y1, y2, yf⟩ := hcells (hx_keep HY'.out hb3); have hz3 := hb3.size; have g0 : w.heap.size < w3.heap.size := (by omega); have g1 : w.heap.size + 1 < w3.heap.size := (by omega); have g2 : ¬ w3.heap.size = w.heap.size := (by omega); have g3 : ¬ w.heap.size = w3.heap.size := (by omega); have g4 : ¬ w3.heap.size = w.heap.size + 1 + 1 := (by omega); have g5 : ¬ w.heap.size + 1 + 1 = w3.heap.size := (by omega); have g6 : w.heap.size + 1 + 1 < w3.heap.size := (by omega); have g7 : ¬ w3.heap.size = w.heap.size + 1 := (by omega); have g8 : ¬ w.heap.size + 1 = w3.heap.size := (by omega); have D3 := Lib.hid D3; have HR3 := Lib.hid (hx_keep HR'.out hb3); have hw3 := hw2.trans (hb3.mono hw2.size); have D13 := Lib.hid (D1'.out.keep hb3 (Nat.le_refl _)); have D23 := Lib.hid (D2.keep hb3 (Nat.le_refl _)); have HX3 := Lib.hid (hx_keep HX'.out hb3); have HY3 := Lib.hid (hx_keep HY'.out hb3); have CM := Lib.hid (cmp_d (D13.out.keep ((Below.refl w3.heap.size w3).alloc (Nat.le_refl _) (.cells #[.bool false, .slice none 0 0, .slice p3 (digs (b * d)).length k3] 35)) (Nat.le_refl _)) (D23.out.keep ((Below.refl w3.heap.size w3).alloc (Nat.le_refl _) (.cells #[.bool false, .slice none 0 0, .slice p3 (digs (b * d)).length k3] 35)) (Nat.le_refl _)) (by omega) (by omega)); clear hb3)
    | (go_at_call 17; refine CM.out.mono ?_; rintro e w5 ⟨rfl, hb5⟩; clear x0 x1 x2 xf y0 y1 y2 yf; obtain ⟨x0, x1, x2, xf⟩ := hcells (hx_keep (hx_old HX3.out) hb5); obtain ⟨y0, y1, y2, yf⟩ := hcells (hx_keep (hx_old HY3.out) hb5); have B5 := Lib.hid hb5; clear hb5))
  have HZ5 := Lib.hid (hx_keep (hx_last w3 _ _ rfl) B5.out)
  have HR5 := Lib.hid (hx_keep (hx_old HR3.out) B5.out)
  have hw35 := ((Below.refl w3.heap.size w3).alloc (Nat.le_refl _) _).trans (B5.out.mono (by simp))
  have hz5 := hw35.size
  have hz5' : w3.heap.size < w5.heap.size := hx_lt HZ5.out
  go_region_held3 (fun w' => w'.cell? ⟨w.heap.size, 0, none⟩ = some (.bool true))
    (first | go_keep | (exact (hb4.cell (by simp <;> omega)).trans x0))
    (first
      | (go_at_call 29; refine (less_d (D13.out.keep (hw35.drew) (Nat.le_refl _)) (D23.out.keep (hw35.drew) (Nat.le_refl _)) hge hA (by omega)).mono ?_; rintro e w4 ⟨v4, rfl, D4, hb4⟩; obtain ⟨p4, k4, rfl⟩ := D4.slice; have hb4 := undrew hb4; obtain ⟨c0, c1, c2, cf⟩ := hcells (hx_keep HZ5.out hb4); obtain ⟨r0, r1, r2, rf⟩ := hcells (hx_keep HR5.out hb4); have hw34 := hw35.trans (hb4.mono hz5); have D4 := Lib.hid D4; have hz4 := hb4.size))
  go_wp2
  have hz34 := hw34.size
  have hw4 := hw3.trans (hw34.mono hw3.size)
  refine bodyPost_ret (v := exV false (.slice p4 (digs (a * d - c * b)).length k4) (.slice p3 (digs (b * d)).length k3)) (by simp [results, Tryz.results8, go_sem, r0, r1, r2]) rfl ⟨_, rfl, ⟨_, _, rfl, ?_, ?_⟩, ?_⟩
  · exact ((((((D4.out.setCell _ (by simp <;> omega)).setCell _ (by simp <;> omega)).setCell _ (by simp <;> omega)).setCell _ (by simp <;> omega)).setCell _ (by simp <;> omega)).setCell _ (by simp <;> omega)).base (by simp <;> omega)
  · have e3 := D3.out.keep (((hw34.setCell (p := ⟨w3.heap.size, 0, none⟩) (Nat.le_refl _) (.bool true)).setCell (p := ⟨w3.heap.size, 1, none⟩) (Nat.le_refl _) (.slice p4 (digs (a * d - c * b)).length k4)).setCell (p := ⟨w3.heap.size, 0, none⟩) (Nat.le_refl _) (.bool false)) (Nat.le_refl _)
    exact (((e3.setCell _ (by simp <;> omega)).setCell _ (by simp <;> omega)).setCell _ (by simp <;> omega)).base (by omega)
  · exact (((((hw4.setCell (by simp <;> omega) _).setCell (by simp <;> omega) _).setCell (by simp <;> omega) _).setCell (by simp <;> omega) _).setCell (by simp <;> omega) _).setCell (by simp <;> omega) _

set_option maxRecDepth 100000 in
set_option maxHeartbeats 8000000 in
theorem both_tf_lt {B C : Nat} {w : World} {u v : Value} {a b c d : Nat} (hx : XArg B w u true a b) (hy : XArg C w v false c d)
    (la : (digs a).length ≤ 1000) (lb : (digs b).length ≤ 1000) (lc : (digs c).length ≤ 1000) (ld : (digs d).length ≤ 1000) (hlt : a * d < c * b) :
    Calls Tryz.prog 8 #[u, v] w (GivesX w false (c * b - a * d) (b * d)) := by
  obtain ⟨va, vb, rfl, Da, Db⟩ := hx
  obtain ⟨vc, vd, rfl, Dc, Dd⟩ := hy
  obtain ⟨pa, ka, rfl⟩ := Da.slice
  obtain ⟨pb, kb, rfl⟩ := Db.slice
  obtain ⟨pc, kc, rfl⟩ := Dc.slice
  obtain ⟨pd, kd, rfl⟩ := Dd.slice
  have q1 := s2
  have q2 := s2'
  have q3 := l2
  have q4 := l3
  have DA := Lib.hid Da
  have DB := Lib.hid Db
  have DC := Lib.hid Dc
  have DD := Lib.hid Dd
  have hord : ¬ 0 ≤ ord (a * d) (c * b) := ord_not hlt
  clear Da Db Dc Dd
  go_enter Tryz.func8, Tryz.ntmps8
  go_wp2
  go_region_held3 (fun w' => (w'.cell? ⟨w.heap.size, 1, none⟩ = some (.slice pa (digs a).length ka) ∧ w'.cell? ⟨w.heap.size, 2, none⟩ = some (.slice pb (digs b).length kb)) ∧
      (w'.cell? ⟨w.heap.size + 1, 1, none⟩ = some (.slice pc (digs c).length kc) ∧ w'.cell? ⟨w.heap.size + 1, 2, none⟩ = some (.slice pd (digs d).length kd)))
    (first | go_keep | (go_split_ands; refine ⟨⟨?_, ?_⟩, ?_, ?_⟩ <;> first | assumption | (rw [hb2.cell (by simp <;> omega)]; assumption)))
    (first
      | (go_at_call_of 26 (Value.slice pa (digs a).length ka); refine (mul_d (DA.out.keep (C := w.heap.size) (by go_grown) (Nat.le_refl _)) (DD.out.keep (C := w.heap.size) (by go_grown) (Nat.le_refl _)) (by omega) (by omega)).mono ?_; rintro e w1 ⟨v1, rfl, D1, hb1⟩; obtain ⟨p1, k1, rfl⟩ := D1.slice; obtain ⟨HX, HY, HR, hz, hw1⟩ := three (undrew hb1); obtain ⟨x0, x1, x2, xf⟩ := hcells HX; obtain ⟨y0, y1, y2, yf⟩ := hcells HY; have D1 := Lib.hid D1; have HX := Lib.hid HX; have HY := Lib.hid HY; have HR := Lib.hid HR; clear hb1; have M2 := Lib.hid (mul_d (DC.out.keep hw1 (Nat.le_refl _)) (DB.out.keep hw1 (Nat.le_refl _)) (by omega) (by omega)))
      | (go_at_call_of 26 (Value.slice pc (digs c).length kc); refine M2.out.mono ?_; rintro e w2 ⟨v2, rfl, D2, hb2⟩; obtain ⟨p2, k2, rfl⟩ := D2.slice; have D1' := Lib.hid (D1.out.keep hb2 (Nat.le_refl _)); have HX' := Lib.hid (hx_keep HX.out hb2); have HY' := Lib.hid (hx_keep HY.out hb2); have HR' := Lib.hid (hx_keep HR.out hb2)))
  have hw2 : Below w.heap.size w w2 := hw1.trans (hb2.mono hw1.size)
  have hz2 : w.heap.size + 1 + 1 < w2.heap.size := by have := hb2.size; omega
  have M3 := Lib.hid (mul_d (DB.out.keep hw2 (Nat.le_refl _)) (DD.out.keep hw2 (Nat.le_refl _)) (by omega) (by omega))
  clear x0 x1 x2 xf y0 y1 y2 yf hz
  obtain ⟨x0, x1, x2, xf⟩ := hcells HX'.out
  obtain ⟨y0, y1, y2, yf⟩ := hcells HY'.out
  clear hb2
  have hl1 := digs_len_mul a d
  have hl2 := digs_len_mul c b
  go_wp2_with (first
    | (go_at_call 26; refine M3.out.mono ?_; rintro e w3 ⟨v3, rfl, D3, hb3⟩; obtain ⟨p3, k3, rfl⟩ := D3.slice; clear x0 x1 x2 xf y0 y1 y2 yf; obtain ⟨x0, x1, x2, xf⟩ := hcells (hx_keep HX'.out hb3); obtain ⟨y0, y1, y2, yf⟩ := hcells (hx_keep HY'.out hb3); have hz3 := hb3.size; have g0 : w.heap.size < w3.heap.size := (by omega); have g1 : w.heap.size + 1 < w3.heap.size := (by omega); have g2 : ¬ w3.heap.size = w.heap.size := (by omega); have g3 : ¬ w.heap.size = w3.heap.size := (by omega); have g4 : ¬ w3.heap.size = w.heap.size + 1 + 1 := (by omega); have g5 : ¬ w.heap.size + 1 + 1 = w3.heap.size := (by omega); have g6 : w.heap.size + 1 + 1 < w3.heap.size := (by omega); have g7 : ¬ w3.heap.size = w.heap.size + 1 := (by omega); have g8 : ¬ w.heap.size + 1 = w3.heap.size := (by omega); have D3 := Lib.hid D3; have HR3 := Lib.hid (hx_keep HR'.out hb3); have hw3 := hw2.trans (hb3.mono hw2.size); have D13 := Lib.hid (D1'.out.keep hb3 (Nat.le_refl _)); have D23 := Lib.hid (D2.keep hb3 (Nat.le_refl _)); have HX3 := Lib.hid (hx_keep HX'.out hb3); have HY3 := Lib.hid (hx_keep HY'.out hb3); have CM := Lib.hid (cmp_d (D13.out.keep ((Below.refl w3.heap.size w3).alloc (Nat.le_refl _) (.cells #[.bool false, .slice none 0 0, .slice p3 (digs (b * d)).length k3] 35)) (Nat.le_refl _)) (D23.out.keep ((Below.refl w3.heap.size w3).alloc (Nat.le_refl _) (.cells #[.bool false, .slice none 0 0, .slice p3 (digs (b * d)).length k3] 35)) (Nat.le_refl _)) (by omega) (by omega)); clear hb3)
    | (go_at_call 17; refine CM.out.mono ?_; rintro e w5 ⟨rfl, hb5⟩; clear x0 x1 x2 xf y0 y1 y2 yf; obtain ⟨x0, x1, x2, xf⟩ := hcells (hx_keep (hx_old HX3.out) hb5); obtain ⟨y0, y1, y2, yf⟩ := hcells (hx_keep (hx_old HY3.out) hb5); have B5 := Lib.hid hb5; clear hb5))
  have HZ5 := Lib.hid (hx_keep (hx_last w3 _ _ rfl) B5.out)
  have HR5 := Lib.hid (hx_keep (hx_old HR3.out) B5.out)
  have hw35 := ((Below.refl w3.heap.size w3).alloc (Nat.le_refl _) _).trans (B5.out.mono (by simp))
  have hz5 := hw35.size
  have hz5' : w3.heap.size < w5.heap.size := hx_lt HZ5.out
  go_region_held3 (fun w' => w'.cell? ⟨w.heap.size + 1, 0, none⟩ = some (.bool false))
    (first | go_keep | (exact (hb4.cell (by simp <;> omega)).trans y0))
    (first
      | (go_at_call 29; refine (less_d (D23.out.keep (hw35.drew) (Nat.le_refl _)) (D13.out.keep (hw35.drew) (Nat.le_refl _)) (by omega) (by omega) (by omega)).mono ?_; rintro e w4 ⟨v4, rfl, D4, hb4⟩; obtain ⟨p4, k4, rfl⟩ := D4.slice; have hb4 := undrew hb4; obtain ⟨c0, c1, c2, cf⟩ := hcells (hx_keep HZ5.out hb4); obtain ⟨r0, r1, r2, rf⟩ := hcells (hx_keep HR5.out hb4); have hw34 := hw35.trans (hb4.mono hz5); have D4 := Lib.hid D4; have hz4 := hb4.size))
  go_wp2
  have hz34 := hw34.size
  have hw4 := hw3.trans (hw34.mono hw3.size)
  refine bodyPost_ret (v := exV false (.slice p4 (digs (c * b - a * d)).length k4) (.slice p3 (digs (b * d)).length k3)) (by simp [results, Tryz.results8, go_sem, r0, r1, r2]) rfl ⟨_, rfl, ⟨_, _, rfl, ?_, ?_⟩, ?_⟩
  · exact ((((((D4.out.setCell _ (by simp <;> omega)).setCell _ (by simp <;> omega)).setCell _ (by simp <;> omega)).setCell _ (by simp <;> omega)).setCell _ (by simp <;> omega)).setCell _ (by simp <;> omega)).base (by simp <;> omega)
  · have e3 := D3.out.keep (((hw34.setCell (p := ⟨w3.heap.size, 0, none⟩) (Nat.le_refl _) (.bool false)).setCell (p := ⟨w3.heap.size, 1, none⟩) (Nat.le_refl _) (.slice p4 (digs (c * b - a * d)).length k4)).setCell (p := ⟨w3.heap.size, 0, none⟩) (Nat.le_refl _) (.bool false)) (Nat.le_refl _)
    exact (((e3.setCell _ (by simp <;> omega)).setCell _ (by simp <;> omega)).setCell _ (by simp <;> omega)).base (by omega)
  · exact (((((hw4.setCell (by simp <;> omega) _).setCell (by simp <;> omega) _).setCell (by simp <;> omega) _).setCell (by simp <;> omega) _).setCell (by simp <;> omega) _).setCell (by simp <;> omega) _

end Go.Proofs.YtbjnglfapgpncaaGreatDoor
