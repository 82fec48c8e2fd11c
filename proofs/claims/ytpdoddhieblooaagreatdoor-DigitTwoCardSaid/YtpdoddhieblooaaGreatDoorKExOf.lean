/- ironbarkref01.Of, of fixed numbers. ironbarkref01.Of, of floats. -/
import Derived.Test.YtpdoddhieblooaaGreatDoorKExact
import Derived.Test.YtpdoddhieblooaaGreatDoorKFtGives
import Derived.Deep.RegionWith
namespace Go.Proofs.YtpdoddhieblooaaGreatDoor
open Go.RowKit

theorem vcells {X w2 : World} {b : Nat} {c0 c1 c2 c3 : Value} (hX : X.heap[b]? = some (.cells #[c0, c1, c2, c3] 23)) (hb : b < X.heap.size) (h : Below X.heap.size X w2) :
   w2.cell? ⟨b, 0, none⟩ = some c0 ∧ w2.cell? ⟨b, 1, none⟩ = some c1 ∧ w2.cell? ⟨b, 2, none⟩ = some c2 ∧ w2.cell? ⟨b, 3, none⟩ = some c3 ∧ ∀ j, w2.frozen? ⟨b, j, none⟩ = false := by
 have h2 := (h.block b hb).trans hX
 exact ⟨cell_of_row w2 b 0 _ _ _ h2, cell_of_row w2 b 1 _ _ _ h2, cell_of_row w2 b 2 _ _ _ h2, cell_of_row w2 b 3 _ _ _ h2, fun j => by simp [World.frozen?, h2]⟩
set_option maxRecDepth 100000 in
theorem of_1 (n : Int) (q : Nat) (s : ByteArray) (w : World) (h1 : -9223372036854775807 < n) (h2 : n < 9223372036854775807) (hq : q ≤ 100) :
   Calls Tryz.prog 27 #[valV 1 n (q : Int) s] w (GivesR w (decide (n < 0)) n.natAbs (2 ^ q)) := by
 have q1 := s2
 have q2 := s2'
 have q3 := l2
 have q4 := l3
 go_enter Tryz.func27, Tryz.ntmps27
 go_wp2_with (first | (go_at_call 52; refine (whole_d n _ h1 h2).mono ?_; rintro e w1 ⟨v1, rfl, ⟨vn, vd, rfl, Dn, Dd⟩, hb1⟩; obtain ⟨pn, kn, rfl⟩ := Dn.slice; obtain ⟨pd, kd, rfl⟩ := Dd.slice; have hz := hb1.size; have DN := Lib.hid Dn; have DD := Lib.hid Dd; clear Dn Dd; have HR := Lib.hid ((hb1.block (w.heap.size + 1) (by simp)).trans (hx_last _ _ (w.heap.size + 1) (by simp))); obtain ⟨a0, a1, a2, a3, af⟩ := vcells (hx_old (hx_last w _ _ rfl)) (hx_lt (hx_old (hx_last w _ _ rfl))) hb1; have g0 : w.heap.size < w1.heap.size := (by simp at hz; omega); have g1 : w.heap.size + 1 < w1.heap.size := (by simp at hz; omega); have g2 : ¬ w1.heap.size = w.heap.size + 1 := (by omega); have g3 : ¬ w.heap.size + 1 = w1.heap.size := (by omega)) | (go_at_call 53; refine (pow2_d q _ hq).mono ?_; rintro e w2 ⟨v2, rfl, D2, hb2⟩; obtain ⟨p2, k2, rfl⟩ := D2.slice; have hz2 := hb2.size; obtain ⟨r0, r1, r2, rf⟩ := ecells (hx_old HR.out) (hx_lt (hx_old HR.out)) hb2; obtain ⟨x0, x1, x2, xf⟩ := ecells (hx_last w1 _ _ rfl) (hx_lt (hx_last w1 _ _ rfl)) hb2))
 have hw2 : Below w1.heap.size w1 w2 := ((Below.refl _ w1).alloc (Nat.le_refl _) _).trans (hb2.mono (by simp))
 have hw1 : Below w.heap.size w w1 := (((Below.refl _ w).alloc (Nat.le_refl _) _).alloc (by simp <;> omega) _).trans (hb1.mono (by simp <;> omega))
 refine bodyPost_ret (v := reV (decide (n < 0)) (.slice pn (digs n.natAbs).length kn) (.slice p2 (digs (2 ^ q)).length k2)) (by simp [results, Tryz.results27, go_sem, r0, r1, r2]) rfl ⟨_, rfl, ⟨_, _, rfl, ?_, ?_⟩, ?_⟩
 · have d := DN.out.keep (hw2.setCell (p := ⟨w1.heap.size, 2, none⟩) (Nat.le_refl _) (.slice p2 (digs (2 ^ q)).length k2)) (Nat.le_refl _)
   exact (((d.setCell _ (by simp <;> omega)).setCell _ (by simp <;> omega)).setCell _ (by simp <;> omega)).base (by simp <;> omega)
 · exact ((((D2.setCell _ (by simp <;> omega)).setCell _ (by simp <;> omega)).setCell _ (by simp <;> omega)).setCell _ (by simp <;> omega)).base (by simp <;> omega)
 · have hs1 := hw1.size
   exact ((((hw1.trans (hw2.mono hs1)).setCell (by simp <;> omega) _).setCell (by simp <;> omega) _).setCell (by simp <;> omega) _).setCell (by simp <;> omega) _
set_option maxRecDepth 100000 in
theorem of_2 (n : Int) (q : Nat) (s : ByteArray) (w : World) (h1 : -9223372036854775807 < n) (h2 : n < 9223372036854775807) (hq : q ≤ 100) :
   Calls Tryz.prog 27 #[valV 2 n (q : Int) s] w (GivesR w (decide (n < 0)) n.natAbs (10 ^ q)) := by
 have q1 := s2
 have q2 := s2'
 have q3 := l2
 have q4 := l3
 go_enter Tryz.func27, Tryz.ntmps27
 go_wp2_with (first | (go_at_call 52; refine (whole_d n _ h1 h2).mono ?_; rintro e w1 ⟨v1, rfl, ⟨vn, vd, rfl, Dn, Dd⟩, hb1⟩; obtain ⟨pn, kn, rfl⟩ := Dn.slice; obtain ⟨pd, kd, rfl⟩ := Dd.slice; have hz := hb1.size; have DN := Lib.hid Dn; have DD := Lib.hid Dd; clear Dn Dd; have HR := Lib.hid ((hb1.block (w.heap.size + 1) (by simp)).trans (hx_last _ _ (w.heap.size + 1) (by simp))); obtain ⟨a0, a1, a2, a3, af⟩ := vcells (hx_old (hx_last w _ _ rfl)) (hx_lt (hx_old (hx_last w _ _ rfl))) hb1; have g0 : w.heap.size < w1.heap.size := (by simp at hz; omega); have g1 : w.heap.size + 1 < w1.heap.size := (by simp at hz; omega); have g2 : ¬ w1.heap.size = w.heap.size + 1 := (by omega); have g3 : ¬ w.heap.size + 1 = w1.heap.size := (by omega)) | (go_at_call 53; refine (pow10_d q _ (by omega)).mono ?_; rintro e w2 ⟨v2, rfl, D2, hb2⟩; obtain ⟨p2, k2, rfl⟩ := D2.slice; have hz2 := hb2.size; obtain ⟨r0, r1, r2, rf⟩ := ecells (hx_old HR.out) (hx_lt (hx_old HR.out)) hb2; obtain ⟨x0, x1, x2, xf⟩ := ecells (hx_last w1 _ _ rfl) (hx_lt (hx_last w1 _ _ rfl)) hb2))
 have hw2 : Below w1.heap.size w1 w2 := ((Below.refl _ w1).alloc (Nat.le_refl _) _).trans (hb2.mono (by simp))
 have hw1 : Below w.heap.size w w1 := (((Below.refl _ w).alloc (Nat.le_refl _) _).alloc (by simp <;> omega) _).trans (hb1.mono (by simp <;> omega))
 refine bodyPost_ret (v := reV (decide (n < 0)) (.slice pn (digs n.natAbs).length kn) (.slice p2 (digs (10 ^ q)).length k2)) (by simp [results, Tryz.results27, go_sem, r0, r1, r2]) rfl ⟨_, rfl, ⟨_, _, rfl, ?_, ?_⟩, ?_⟩
 · have d := DN.out.keep (hw2.setCell (p := ⟨w1.heap.size, 2, none⟩) (Nat.le_refl _) (.slice p2 (digs (10 ^ q)).length k2)) (Nat.le_refl _)
   exact (((d.setCell _ (by simp <;> omega)).setCell _ (by simp <;> omega)).setCell _ (by simp <;> omega)).base (by simp <;> omega)
 · exact ((((D2.setCell _ (by simp <;> omega)).setCell _ (by simp <;> omega)).setCell _ (by simp <;> omega)).setCell _ (by simp <;> omega)).base (by simp <;> omega)
 · have hs1 := hw1.size
   exact ((((hw1.trans (hw2.mono hs1)).setCell (by simp <;> omega) _).setCell (by simp <;> omega) _).setCell (by simp <;> omega) _).setCell (by simp <;> omega) _
end Go.Proofs.YtpdoddhieblooaaGreatDoor
namespace Go.Proofs.YtpdoddhieblooaaGreatDoor
open Go.RowKit

set_option maxRecDepth 100000 in
theorem of_3n (n : Int) (q : Nat) (s : ByteArray) (w : World) (h1 : -9223372036854775807 < n) (h2 : n < 9223372036854775807) (h0 : 0 < q) (hq : q ≤ 1000) :
   Calls Tryz.prog 27 #[valV 3 n (-(q : Int)) s] w (GivesR w (decide (n < 0)) n.natAbs (10 ^ q)) := by
 have q1 := s2
 have q2 := s2'
 have q3 := l2
 have q4 := l3
 go_enter Tryz.func27, Tryz.ntmps27
 go_wp2_with (first | (go_at_call 52; refine (whole_d n _ h1 h2).mono ?_; rintro e w1 ⟨v1, rfl, ⟨vn, vd, rfl, Dn, Dd⟩, hb1⟩; obtain ⟨pn, kn, rfl⟩ := Dn.slice; obtain ⟨pd, kd, rfl⟩ := Dd.slice; have hz := hb1.size; have DN := Lib.hid Dn; have DD := Lib.hid Dd; clear Dn Dd; have HR := Lib.hid ((hb1.block (w.heap.size + 1) (by simp)).trans (hx_last _ _ (w.heap.size + 1) (by simp))); obtain ⟨a0, a1, a2, a3, af⟩ := vcells (hx_old (hx_last w _ _ rfl)) (hx_lt (hx_old (hx_last w _ _ rfl))) hb1; have g0 : w.heap.size < w1.heap.size := (by simp at hz; omega); have g1 : w.heap.size + 1 < w1.heap.size := (by simp at hz; omega); have g2 : ¬ w1.heap.size = w.heap.size + 1 := (by omega); have g3 : ¬ w.heap.size + 1 = w1.heap.size := (by omega)) | (go_at_call 53; refine (pow10_d q _ (by omega)).mono ?_; rintro e w2 ⟨v2, rfl, D2, hb2⟩; obtain ⟨p2, k2, rfl⟩ := D2.slice; have hz2 := hb2.size; obtain ⟨r0, r1, r2, rf⟩ := ecells (hx_old HR.out) (hx_lt (hx_old HR.out)) hb2; obtain ⟨x0, x1, x2, xf⟩ := ecells (hx_last w1 _ _ rfl) (hx_lt (hx_last w1 _ _ rfl)) hb2))
 have hw2 : Below w1.heap.size w1 w2 := ((Below.refl _ w1).alloc (Nat.le_refl _) _).trans (hb2.mono (by simp))
 have hw1 : Below w.heap.size w w1 := (((Below.refl _ w).alloc (Nat.le_refl _) _).alloc (by simp <;> omega) _).trans (hb1.mono (by simp <;> omega))
 refine bodyPost_ret (v := reV (decide (n < 0)) (.slice pn (digs n.natAbs).length kn) (.slice p2 (digs (10 ^ q)).length k2)) (by simp [results, Tryz.results27, go_sem, r0, r1, r2]) rfl ⟨_, rfl, ⟨_, _, rfl, ?_, ?_⟩, ?_⟩
 · have d := DN.out.keep (hw2.setCell (p := ⟨w1.heap.size, 2, none⟩) (Nat.le_refl _) (.slice p2 (digs (10 ^ q)).length k2)) (Nat.le_refl _)
   exact (((d.setCell _ (by simp <;> omega)).setCell _ (by simp <;> omega)).setCell _ (by simp <;> omega)).base (by simp <;> omega)
 · exact ((((D2.setCell _ (by simp <;> omega)).setCell _ (by simp <;> omega)).setCell _ (by simp <;> omega)).setCell _ (by simp <;> omega)).base (by simp <;> omega)
 · have hs1 := hw1.size
   exact ((((hw1.trans (hw2.mono hs1)).setCell (by simp <;> omega) _).setCell (by simp <;> omega) _).setCell (by simp <;> omega) _).setCell (by simp <;> omega) _
end Go.Proofs.YtpdoddhieblooaaGreatDoor
