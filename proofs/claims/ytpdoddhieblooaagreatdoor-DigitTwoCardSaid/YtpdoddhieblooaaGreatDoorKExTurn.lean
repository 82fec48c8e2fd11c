/- ironbarkref01.Turn and Times. -/
import Derived.Test.YtpdoddhieblooaaGreatDoorKExact
import Derived.BigGuardPart
namespace Go.Proofs.YtpdoddhieblooaaGreatDoor
open Go.RowKit

set_option maxRecDepth 100000 in
theorem turn_any (p1 p2 : Option Addr) (n1 n2 k1 k2 : Nat) (neg r : Bool) (w : World) (hr : r = (!neg && decide (0 < n1))) :
   Calls Tryz.prog 38 #[reV neg (.slice p1 n1 k1) (.slice p2 n2 k2)] w fun e w' => e = .returned (reV r (.slice p1 n1 k1) (.slice p2 n2 k2)) ∧ Below w.heap.size w w' := by
 subst hr
 by_cases h : 0 < n1
 · cases neg
   · go_enter Tryz.func38, Tryz.ntmps38
     go_wp2
     refine bodyPost_ret (v := reV true (.slice p1 n1 k1) (.slice p2 n2 k2)) (by simp [results, Tryz.results38, go_sem]) rfl ⟨by simp [h], ?_⟩
     exact ((Below.refl _ w).alloc (Nat.le_refl _) _).alloc (by simp) _
   · go_enter Tryz.func38, Tryz.ntmps38
     go_wp2
     refine bodyPost_ret (v := reV false (.slice p1 n1 k1) (.slice p2 n2 k2)) (by simp [results, Tryz.results38, go_sem]) rfl ⟨by simp [h], ?_⟩
     exact ((Below.refl _ w).alloc (Nat.le_refl _) _).alloc (by simp) _
 · cases neg
   · go_enter Tryz.func38, Tryz.ntmps38
     go_wp2
     refine bodyPost_ret (v := reV false (.slice p1 n1 k1) (.slice p2 n2 k2)) (by simp [results, Tryz.results38, go_sem]) rfl ⟨by simp [h], ?_⟩
     exact ((Below.refl _ w).alloc (Nat.le_refl _) _).alloc (by simp) _
   · go_enter Tryz.func38, Tryz.ntmps38
     go_wp2
     refine bodyPost_ret (v := reV false (.slice p1 n1 k1) (.slice p2 n2 k2)) (by simp [results, Tryz.results38, go_sem]) rfl ⟨by simp [h], ?_⟩
     exact ((Below.refl _ w).alloc (Nat.le_refl _) _).alloc (by simp) _
theorem turn_d {B : Nat} {w : World} {v : Value} {neg : Bool} {num den : Nat} (h : RArg B w v neg num den) :
   Calls Tryz.prog 38 #[v] w fun e w' => ∃ v', e = .returned v' ∧ RArg B w' v' (!neg && decide (0 < num)) num den ∧ Below w.heap.size w w' := by
 obtain ⟨vn, vd, rfl, Dn, Dd⟩ := h
 obtain ⟨pn, kn, rfl⟩ := Dn.slice
 obtain ⟨pd, kd, rfl⟩ := Dd.slice
 refine (turn_any pn pd _ _ kn kd neg _ w rfl).mono fun e w' ⟨he, hb⟩ => ⟨_, he, ?_, hb⟩
 have e1 : decide (0 < (digs num).length) = decide (0 < num) := by
   rcases Nat.eq_zero_or_pos num with h0 | h0
   · subst h0; rw [digs_zero]; rfl
   · rw [decide_eq_true (digs_len_pos h0), decide_eq_true h0]
 rw [e1]
 exact ⟨_, _, rfl, Dn.keep hb (Nat.le_refl _), Dd.keep hb (Nat.le_refl _)⟩
def timesN (a b : Bool) (n : Nat) : Bool := (a != b) && decide (0 < n)
set_option maxRecDepth 100000 in
set_option maxHeartbeats 4000000 in
theorem times_d {B C : Nat} {w : World} {u v : Value} {na nb : Bool} {a b c d : Nat} (hx : RArg B w u na a b) (hy : RArg C w v nb c d)
   (la : (digs a).length ≤ 10000) (lb : (digs b).length ≤ 10000) (lc : (digs c).length ≤ 10000) (ld : (digs d).length ≤ 10000) :
   Calls Tryz.prog 39 #[u, v] w (GivesR w (timesN na nb (a * c)) (a * c) (b * d)) := by
 obtain ⟨va, vb, rfl, Da, Db⟩ := hx
 obtain ⟨vc, vd, rfl, Dc, Dd⟩ := hy
 obtain ⟨pa, ka, rfl⟩ := Da.slice
 obtain ⟨pb, kb, rfl⟩ := Db.slice
 obtain ⟨pc, kc, rfl⟩ := Dc.slice
 obtain ⟨pd, kd, rfl⟩ := Dd.slice
 have q1 := s2
 have q2 := s2'
 have q3 := l2
 have q4 := l3
 have hp : 0 < a * c → 0 < (digs (a * c)).length := digs_len_pos
 by_cases hpos : 0 < a * c
 · have hl := hp hpos
   cases na <;> cases nb
   · go_enter Tryz.func39, Tryz.ntmps39
     go_wp2_with (first | (go_at_call 54; (with_reducible refine (mul_d (Da.keep (C := w.heap.size) (by go_grown) (Nat.le_refl _)) (Dc.keep (C := w.heap.size) (by go_grown) (Nat.le_refl _)) la lc).mono ?_); rintro e w1 ⟨v1, rfl, D1, hb1⟩; obtain ⟨p1, k1, rfl⟩ := D1.slice; obtain ⟨HX, HY, HR, hz, hw1⟩ := three hb1; obtain ⟨x0, x1, x2, xf⟩ := hcells HX; obtain ⟨y0, y1, y2, yf⟩ := hcells HY; have HX := Lib.hid HX; have HY := Lib.hid HY; have HR := Lib.hid HR; clear hb1; have M2 := Lib.hid (mul_d (Db.keep hw1 (Nat.le_refl _)) (Dd.keep hw1 (Nat.le_refl _)) lb ld)) | (go_at_call 54; refine M2.out.mono ?_; rintro e w2 ⟨v2, rfl, D2, hb2⟩; obtain ⟨p2, k2, rfl⟩ := D2.slice; obtain ⟨r0, r1, r2, rf⟩ := hcells (hx_keep HR.out hb2); have hz2 := hb2.size))
     refine bodyPost_ret (v := reV false (.slice p1 (digs (a * c)).length k1) (.slice p2 (digs (b * d)).length k2)) (by simp [results, Tryz.results39, go_sem, r0, r1, r2]) rfl ⟨_, rfl, ⟨_, _, by rw [timesN, decide_eq_true hpos]; rfl, ?_, ?_⟩, ?_⟩
     · exact ((((D1.keep hb2 (Nat.le_refl _)).setCell _ (by simp <;> omega)).setCell _ (by simp <;> omega)).setCell _ (by simp <;> omega)).base (by simp <;> omega)
     · exact (((D2.setCell _ (by simp <;> omega)).setCell _ (by simp <;> omega)).setCell _ (by simp <;> omega)).base (by omega)
     · have hs1 := hw1.size
       exact (((hw1.trans (hb2.mono hs1)).setCell (by simp <;> omega) _).setCell (by simp <;> omega) _).setCell (by simp <;> omega) _
   · go_enter Tryz.func39, Tryz.ntmps39
     go_wp2_with (first | (go_at_call 54; (with_reducible refine (mul_d (Da.keep (C := w.heap.size) (by go_grown) (Nat.le_refl _)) (Dc.keep (C := w.heap.size) (by go_grown) (Nat.le_refl _)) la lc).mono ?_); rintro e w1 ⟨v1, rfl, D1, hb1⟩; obtain ⟨p1, k1, rfl⟩ := D1.slice; obtain ⟨HX, HY, HR, hz, hw1⟩ := three hb1; obtain ⟨x0, x1, x2, xf⟩ := hcells HX; obtain ⟨y0, y1, y2, yf⟩ := hcells HY; have HX := Lib.hid HX; have HY := Lib.hid HY; have HR := Lib.hid HR; clear hb1; have M2 := Lib.hid (mul_d (Db.keep hw1 (Nat.le_refl _)) (Dd.keep hw1 (Nat.le_refl _)) lb ld)) | (go_at_call 54; refine M2.out.mono ?_; rintro e w2 ⟨v2, rfl, D2, hb2⟩; obtain ⟨p2, k2, rfl⟩ := D2.slice; obtain ⟨r0, r1, r2, rf⟩ := hcells (hx_keep HR.out hb2); have hz2 := hb2.size))
     refine bodyPost_ret (v := reV true (.slice p1 (digs (a * c)).length k1) (.slice p2 (digs (b * d)).length k2)) (by simp [results, Tryz.results39, go_sem, r0, r1, r2]) rfl ⟨_, rfl, ⟨_, _, by rw [timesN, decide_eq_true hpos]; rfl, ?_, ?_⟩, ?_⟩
     · exact ((((D1.keep hb2 (Nat.le_refl _)).setCell _ (by simp <;> omega)).setCell _ (by simp <;> omega)).setCell _ (by simp <;> omega)).base (by simp <;> omega)
     · exact (((D2.setCell _ (by simp <;> omega)).setCell _ (by simp <;> omega)).setCell _ (by simp <;> omega)).base (by omega)
     · have hs1 := hw1.size
       exact (((hw1.trans (hb2.mono hs1)).setCell (by simp <;> omega) _).setCell (by simp <;> omega) _).setCell (by simp <;> omega) _
   · go_enter Tryz.func39, Tryz.ntmps39
     go_wp2_with (first | (go_at_call 54; (with_reducible refine (mul_d (Da.keep (C := w.heap.size) (by go_grown) (Nat.le_refl _)) (Dc.keep (C := w.heap.size) (by go_grown) (Nat.le_refl _)) la lc).mono ?_); rintro e w1 ⟨v1, rfl, D1, hb1⟩; obtain ⟨p1, k1, rfl⟩ := D1.slice; obtain ⟨HX, HY, HR, hz, hw1⟩ := three hb1; obtain ⟨x0, x1, x2, xf⟩ := hcells HX; obtain ⟨y0, y1, y2, yf⟩ := hcells HY; have HX := Lib.hid HX; have HY := Lib.hid HY; have HR := Lib.hid HR; clear hb1; have M2 := Lib.hid (mul_d (Db.keep hw1 (Nat.le_refl _)) (Dd.keep hw1 (Nat.le_refl _)) lb ld)) | (go_at_call 54; refine M2.out.mono ?_; rintro e w2 ⟨v2, rfl, D2, hb2⟩; obtain ⟨p2, k2, rfl⟩ := D2.slice; obtain ⟨r0, r1, r2, rf⟩ := hcells (hx_keep HR.out hb2); have hz2 := hb2.size))
     refine bodyPost_ret (v := reV true (.slice p1 (digs (a * c)).length k1) (.slice p2 (digs (b * d)).length k2)) (by simp [results, Tryz.results39, go_sem, r0, r1, r2]) rfl ⟨_, rfl, ⟨_, _, by rw [timesN, decide_eq_true hpos]; rfl, ?_, ?_⟩, ?_⟩
     · exact ((((D1.keep hb2 (Nat.le_refl _)).setCell _ (by simp <;> omega)).setCell _ (by simp <;> omega)).setCell _ (by simp <;> omega)).base (by simp <;> omega)
     · exact (((D2.setCell _ (by simp <;> omega)).setCell _ (by simp <;> omega)).setCell _ (by simp <;> omega)).base (by omega)
     · have hs1 := hw1.size
       exact (((hw1.trans (hb2.mono hs1)).setCell (by simp <;> omega) _).setCell (by simp <;> omega) _).setCell (by simp <;> omega) _
   · go_enter Tryz.func39, Tryz.ntmps39
     go_wp2_with (first | (go_at_call 54; (with_reducible refine (mul_d (Da.keep (C := w.heap.size) (by go_grown) (Nat.le_refl _)) (Dc.keep (C := w.heap.size) (by go_grown) (Nat.le_refl _)) la lc).mono ?_); rintro e w1 ⟨v1, rfl, D1, hb1⟩; obtain ⟨p1, k1, rfl⟩ := D1.slice; obtain ⟨HX, HY, HR, hz, hw1⟩ := three hb1; obtain ⟨x0, x1, x2, xf⟩ := hcells HX; obtain ⟨y0, y1, y2, yf⟩ := hcells HY; have HX := Lib.hid HX; have HY := Lib.hid HY; have HR := Lib.hid HR; clear hb1; have M2 := Lib.hid (mul_d (Db.keep hw1 (Nat.le_refl _)) (Dd.keep hw1 (Nat.le_refl _)) lb ld)) | (go_at_call 54; refine M2.out.mono ?_; rintro e w2 ⟨v2, rfl, D2, hb2⟩; obtain ⟨p2, k2, rfl⟩ := D2.slice; obtain ⟨r0, r1, r2, rf⟩ := hcells (hx_keep HR.out hb2); have hz2 := hb2.size))
     refine bodyPost_ret (v := reV false (.slice p1 (digs (a * c)).length k1) (.slice p2 (digs (b * d)).length k2)) (by simp [results, Tryz.results39, go_sem, r0, r1, r2]) rfl ⟨_, rfl, ⟨_, _, by rw [timesN, decide_eq_true hpos]; rfl, ?_, ?_⟩, ?_⟩
     · exact ((((D1.keep hb2 (Nat.le_refl _)).setCell _ (by simp <;> omega)).setCell _ (by simp <;> omega)).setCell _ (by simp <;> omega)).base (by simp <;> omega)
     · exact (((D2.setCell _ (by simp <;> omega)).setCell _ (by simp <;> omega)).setCell _ (by simp <;> omega)).base (by omega)
     · have hs1 := hw1.size
       exact (((hw1.trans (hb2.mono hs1)).setCell (by simp <;> omega) _).setCell (by simp <;> omega) _).setCell (by simp <;> omega) _
 · have hl : ¬ 0 < (digs (a * c)).length := digs_len_not hpos
   cases na <;> cases nb
   · go_enter Tryz.func39, Tryz.ntmps39
     go_wp2_with (first | (go_at_call 54; (with_reducible refine (mul_d (Da.keep (C := w.heap.size) (by go_grown) (Nat.le_refl _)) (Dc.keep (C := w.heap.size) (by go_grown) (Nat.le_refl _)) la lc).mono ?_); rintro e w1 ⟨v1, rfl, D1, hb1⟩; obtain ⟨p1, k1, rfl⟩ := D1.slice; obtain ⟨HX, HY, HR, hz, hw1⟩ := three hb1; obtain ⟨x0, x1, x2, xf⟩ := hcells HX; obtain ⟨y0, y1, y2, yf⟩ := hcells HY; have HX := Lib.hid HX; have HY := Lib.hid HY; have HR := Lib.hid HR; clear hb1; have M2 := Lib.hid (mul_d (Db.keep hw1 (Nat.le_refl _)) (Dd.keep hw1 (Nat.le_refl _)) lb ld)) | (go_at_call 54; refine M2.out.mono ?_; rintro e w2 ⟨v2, rfl, D2, hb2⟩; obtain ⟨p2, k2, rfl⟩ := D2.slice; obtain ⟨r0, r1, r2, rf⟩ := hcells (hx_keep HR.out hb2); have hz2 := hb2.size))
     refine bodyPost_ret (v := reV false (.slice p1 (digs (a * c)).length k1) (.slice p2 (digs (b * d)).length k2)) (by simp [results, Tryz.results39, go_sem, r0, r1, r2]) rfl ⟨_, rfl, ⟨_, _, by rw [timesN, decide_eq_false hpos]; rfl, ?_, ?_⟩, ?_⟩
     · exact ((((D1.keep hb2 (Nat.le_refl _)).setCell _ (by simp <;> omega)).setCell _ (by simp <;> omega)).setCell _ (by simp <;> omega)).base (by simp <;> omega)
     · exact (((D2.setCell _ (by simp <;> omega)).setCell _ (by simp <;> omega)).setCell _ (by simp <;> omega)).base (by omega)
     · have hs1 := hw1.size
       exact (((hw1.trans (hb2.mono hs1)).setCell (by simp <;> omega) _).setCell (by simp <;> omega) _).setCell (by simp <;> omega) _
   · go_enter Tryz.func39, Tryz.ntmps39
     go_wp2_with (first | (go_at_call 54; (with_reducible refine (mul_d (Da.keep (C := w.heap.size) (by go_grown) (Nat.le_refl _)) (Dc.keep (C := w.heap.size) (by go_grown) (Nat.le_refl _)) la lc).mono ?_); rintro e w1 ⟨v1, rfl, D1, hb1⟩; obtain ⟨p1, k1, rfl⟩ := D1.slice; obtain ⟨HX, HY, HR, hz, hw1⟩ := three hb1; obtain ⟨x0, x1, x2, xf⟩ := hcells HX; obtain ⟨y0, y1, y2, yf⟩ := hcells HY; have HX := Lib.hid HX; have HY := Lib.hid HY; have HR := Lib.hid HR; clear hb1; have M2 := Lib.hid (mul_d (Db.keep hw1 (Nat.le_refl _)) (Dd.keep hw1 (Nat.le_refl _)) lb ld)) | (go_at_call 54; refine M2.out.mono ?_; rintro e w2 ⟨v2, rfl, D2, hb2⟩; obtain ⟨p2, k2, rfl⟩ := D2.slice; obtain ⟨r0, r1, r2, rf⟩ := hcells (hx_keep HR.out hb2); have hz2 := hb2.size))
     refine bodyPost_ret (v := reV false (.slice p1 (digs (a * c)).length k1) (.slice p2 (digs (b * d)).length k2)) (by simp [results, Tryz.results39, go_sem, r0, r1, r2]) rfl ⟨_, rfl, ⟨_, _, by rw [timesN, decide_eq_false hpos]; rfl, ?_, ?_⟩, ?_⟩
     · exact ((((D1.keep hb2 (Nat.le_refl _)).setCell _ (by simp <;> omega)).setCell _ (by simp <;> omega)).setCell _ (by simp <;> omega)).base (by simp <;> omega)
     · exact (((D2.setCell _ (by simp <;> omega)).setCell _ (by simp <;> omega)).setCell _ (by simp <;> omega)).base (by omega)
     · have hs1 := hw1.size
       exact (((hw1.trans (hb2.mono hs1)).setCell (by simp <;> omega) _).setCell (by simp <;> omega) _).setCell (by simp <;> omega) _
   · go_enter Tryz.func39, Tryz.ntmps39
     go_wp2_with (first | (go_at_call 54; (with_reducible refine (mul_d (Da.keep (C := w.heap.size) (by go_grown) (Nat.le_refl _)) (Dc.keep (C := w.heap.size) (by go_grown) (Nat.le_refl _)) la lc).mono ?_); rintro e w1 ⟨v1, rfl, D1, hb1⟩; obtain ⟨p1, k1, rfl⟩ := D1.slice; obtain ⟨HX, HY, HR, hz, hw1⟩ := three hb1; obtain ⟨x0, x1, x2, xf⟩ := hcells HX; obtain ⟨y0, y1, y2, yf⟩ := hcells HY; have HX := Lib.hid HX; have HY := Lib.hid HY; have HR := Lib.hid HR; clear hb1; have M2 := Lib.hid (mul_d (Db.keep hw1 (Nat.le_refl _)) (Dd.keep hw1 (Nat.le_refl _)) lb ld)) | (go_at_call 54; refine M2.out.mono ?_; rintro e w2 ⟨v2, rfl, D2, hb2⟩; obtain ⟨p2, k2, rfl⟩ := D2.slice; obtain ⟨r0, r1, r2, rf⟩ := hcells (hx_keep HR.out hb2); have hz2 := hb2.size))
     refine bodyPost_ret (v := reV false (.slice p1 (digs (a * c)).length k1) (.slice p2 (digs (b * d)).length k2)) (by simp [results, Tryz.results39, go_sem, r0, r1, r2]) rfl ⟨_, rfl, ⟨_, _, by rw [timesN, decide_eq_false hpos]; rfl, ?_, ?_⟩, ?_⟩
     · exact ((((D1.keep hb2 (Nat.le_refl _)).setCell _ (by simp <;> omega)).setCell _ (by simp <;> omega)).setCell _ (by simp <;> omega)).base (by simp <;> omega)
     · exact (((D2.setCell _ (by simp <;> omega)).setCell _ (by simp <;> omega)).setCell _ (by simp <;> omega)).base (by omega)
     · have hs1 := hw1.size
       exact (((hw1.trans (hb2.mono hs1)).setCell (by simp <;> omega) _).setCell (by simp <;> omega) _).setCell (by simp <;> omega) _
   · go_enter Tryz.func39, Tryz.ntmps39
     go_wp2_with (first | (go_at_call 54; (with_reducible refine (mul_d (Da.keep (C := w.heap.size) (by go_grown) (Nat.le_refl _)) (Dc.keep (C := w.heap.size) (by go_grown) (Nat.le_refl _)) la lc).mono ?_); rintro e w1 ⟨v1, rfl, D1, hb1⟩; obtain ⟨p1, k1, rfl⟩ := D1.slice; obtain ⟨HX, HY, HR, hz, hw1⟩ := three hb1; obtain ⟨x0, x1, x2, xf⟩ := hcells HX; obtain ⟨y0, y1, y2, yf⟩ := hcells HY; have HX := Lib.hid HX; have HY := Lib.hid HY; have HR := Lib.hid HR; clear hb1; have M2 := Lib.hid (mul_d (Db.keep hw1 (Nat.le_refl _)) (Dd.keep hw1 (Nat.le_refl _)) lb ld)) | (go_at_call 54; refine M2.out.mono ?_; rintro e w2 ⟨v2, rfl, D2, hb2⟩; obtain ⟨p2, k2, rfl⟩ := D2.slice; obtain ⟨r0, r1, r2, rf⟩ := hcells (hx_keep HR.out hb2); have hz2 := hb2.size))
     refine bodyPost_ret (v := reV false (.slice p1 (digs (a * c)).length k1) (.slice p2 (digs (b * d)).length k2)) (by simp [results, Tryz.results39, go_sem, r0, r1, r2]) rfl ⟨_, rfl, ⟨_, _, by rw [timesN, decide_eq_false hpos]; rfl, ?_, ?_⟩, ?_⟩
     · exact ((((D1.keep hb2 (Nat.le_refl _)).setCell _ (by simp <;> omega)).setCell _ (by simp <;> omega)).setCell _ (by simp <;> omega)).base (by simp <;> omega)
     · exact (((D2.setCell _ (by simp <;> omega)).setCell _ (by simp <;> omega)).setCell _ (by simp <;> omega)).base (by omega)
     · have hs1 := hw1.size
       exact (((hw1.trans (hb2.mono hs1)).setCell (by simp <;> omega) _).setCell (by simp <;> omega) _).setCell (by simp <;> omega) _
end Go.Proofs.YtpdoddhieblooaaGreatDoor
