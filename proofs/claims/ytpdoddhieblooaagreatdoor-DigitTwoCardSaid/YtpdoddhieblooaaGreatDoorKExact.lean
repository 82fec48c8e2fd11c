/- ironbarkref01: exact numbers: whole, Turn, Times. -/
import Derived.Test.YtpdoddhieblooaaGreatDoorKDigArg
import Derived.Test.YtpdoddhieblooaaGreatDoorKTy
namespace Go.Proofs.YtpdoddhieblooaaGreatDoor
open Go.RowKit

abbrev reV (neg : Bool) (vn vd : Value) : Value := .agg #[.bool neg, vn, vd]
def RArg (B : Nat) (w : World) (v : Value) (neg : Bool) (num den : Nat) : Prop := ∃ vn vd, v = reV neg vn vd ∧ DArg B w vn num ∧ DArg B w vd den
theorem RArg.keep {B C : Nat} {w w' : World} {v : Value} {neg : Bool} {num den : Nat} (h : RArg B w v neg num den) (hb : Below C w w') (hC : w.heap.size ≤ C) : RArg B w' v neg num den := by
 obtain ⟨vn, vd, rfl, h1, h2⟩ := h
 exact ⟨vn, vd, rfl, h1.keep hb hC, h2.keep hb hC⟩
theorem RArg.base {B B' : Nat} {w : World} {v : Value} {neg : Bool} {num den : Nat} (h : RArg B w v neg num den) (hB : B' ≤ B) : RArg B' w v neg num den := by
 obtain ⟨vn, vd, rfl, h1, h2⟩ := h
 exact ⟨vn, vd, rfl, h1.base hB, h2.base hB⟩
def GivesR (w : World) (neg : Bool) (num den : Nat) (e : Ending) (w' : World) : Prop := ∃ v, e = .returned v ∧ RArg w.heap.size w' v neg num den ∧ Below w.heap.size w w'
theorem darg_one {B : Nat} {w : World} {b : Nat} (hB : B ≤ b) (hb : b < w.heap.size) (hc : w.cell? ⟨b, 0, none⟩ = some (.int .i64 1)) : DArg B w (.slice (some ⟨b, 0, none⟩) 1 1) 1 := by
 refine .inr ⟨b, 1, ?_, ?_, hB, hb, ?_⟩
 · rw [digs_one]; rfl
 · rw [digs_one]; decide
 · intro j h
   have e : digs 1 = [1] := digs_one
   have hj : j = 0 := by rw [e] at h; simpa using h
   subst hj
   rw [hc]; simp [e]
theorem ecells {X w2 : World} {b : Nat} {c0 c1 c2 : Value} (hX : X.heap[b]? = some (.cells #[c0, c1, c2] 52)) (hb : b < X.heap.size) (h : Below X.heap.size X w2) :
   w2.cell? ⟨b, 0, none⟩ = some c0 ∧ w2.cell? ⟨b, 1, none⟩ = some c1 ∧ w2.cell? ⟨b, 2, none⟩ = some c2 ∧ ∀ j, w2.frozen? ⟨b, j, none⟩ = false := by
 have h2 := (h.block b hb).trans hX
 exact ⟨cell_of_row w2 b 0 _ _ _ h2, cell_of_row w2 b 1 _ _ _ h2, cell_of_row w2 b 2 _ _ _ h2, fun j => by simp [World.frozen?, h2]⟩
theorem hcells {w2 : World} {b : Nat} {c0 c1 c2 : Value} (h2 : w2.heap[b]? = some (.cells #[c0, c1, c2] 52)) :
   w2.cell? ⟨b, 0, none⟩ = some c0 ∧ w2.cell? ⟨b, 1, none⟩ = some c1 ∧ w2.cell? ⟨b, 2, none⟩ = some c2 ∧ ∀ j, w2.frozen? ⟨b, j, none⟩ = false :=
 ⟨cell_of_row w2 b 0 _ _ _ h2, cell_of_row w2 b 1 _ _ _ h2, cell_of_row w2 b 2 _ _ _ h2, fun j => by simp [World.frozen?, h2]⟩
theorem hx_last (w : World) (o : Obj) (n : Nat) (h : w.heap.size = n) : (w.alloc o).heap[n]? = some o := by subst h; exact heap_alloc_new w o
theorem hx_old {w : World} {o x : Obj} {n : Nat} (h : w.heap[n]? = some x) : (w.alloc o).heap[n]? = some x := by
 rw [Go.heap_alloc_old _ _ (Array.getElem?_eq_some_iff.1 h).1]; exact h
theorem hx_lt {w : World} {x : Obj} {n : Nat} (h : w.heap[n]? = some x) : n < w.heap.size := (Array.getElem?_eq_some_iff.1 h).1
theorem hx_keep {X w2 : World} {n : Nat} {x : Obj} (h : X.heap[n]? = some x) (hb : Below X.heap.size X w2) : w2.heap[n]? = some x := (hb.block n (hx_lt h)).trans h
theorem three {w w1 : World} {A B C : Obj} (hb : Below (((w.alloc A).alloc B).alloc C).heap.size (((w.alloc A).alloc B).alloc C) w1) :
   w1.heap[w.heap.size]? = some A ∧ w1.heap[w.heap.size + 1]? = some B ∧ w1.heap[w.heap.size + 1 + 1]? = some C ∧ w.heap.size + 1 + 1 < w1.heap.size ∧ Below w.heap.size w w1 := by
 have hs := hb.size
 exact ⟨hx_keep (hx_old (hx_old (hx_last w A _ rfl))) hb, hx_keep (hx_old (hx_last (w.alloc A) B _ (by simp))) hb, hx_keep (hx_last ((w.alloc A).alloc B) C _ (by simp)) hb, by simp at hs; omega,
   ((((Below.refl _ w).alloc (Nat.le_refl _) _).alloc (by simp <;> omega) _).alloc (by simp <;> omega) _).trans (hb.mono (by simp <;> omega))⟩
theorem s2 (n : Nat) : ¬ n + 1 + 1 = n := by omega
theorem s2' (n : Nat) : ¬ n = n + 1 + 1 := by omega
theorem l2 (n : Nat) : n < n + 1 + 1 := by omega
theorem l3 (n : Nat) : n < n + 1 + 1 + 1 := by omega
set_option maxRecDepth 100000 in
theorem whole_pos (n : Nat) (w : World) (h : n < 9223372036854775807) :
   Calls Tryz.prog 52 #[.int .i64 (n : Int)] w (GivesR w false n 1) := by
 have hd : decide ((n : Int) < 0) = false := by simp
 have hn : ¬ (n : Int) < 0 := by omega
 have q1 := s2
 have q2 := s2'
 have q3 := l2
 have q4 := l3
 go_enter Tryz.func52, Tryz.ntmps52
 go_wp2_with (go_at_call 106; refine (from_d n _ (by omega)).mono ?_; rintro e w1 ⟨v1, rfl, D1, hb1⟩; obtain ⟨p1, k1, rfl⟩ := D1.slice; have hz := hb1.size; obtain ⟨r0, r1, r2, rf⟩ := ecells (hx_old (hx_old (hx_last w _ _ rfl))) (hx_lt (hx_old (hx_old (hx_last w _ _ rfl)))) hb1; obtain ⟨x0, x1, x2, xf⟩ := ecells (hx_last _ _ (w.heap.size + 1 + 1) (by simp)) (hx_lt (hx_last _ _ (w.heap.size + 1 + 1) (by simp))) hb1; obtain ⟨hc, hf⟩ := bcell hb1)
 refine bodyPost_ret (v := reV false (.slice p1 (digs n).length k1) (.slice (some ⟨w.heap.size + 1, 0, none⟩) 1 1)) (by simp [results, Tryz.results52, go_sem, r0, r1, r2]) rfl ⟨_, rfl, ⟨_, _, rfl, ?_, ?_⟩, ?_⟩
 · exact ((((D1.setCell _ (by simp <;> omega)).setCell _ (by simp <;> omega)).setCell _ (by simp <;> omega)).setCell _ (by simp <;> omega)).base (by simp <;> omega)
 · refine darg_one (by omega) (by simp at hz ⊢; omega) ?_
   have e1 := cell_of_row _ (w.heap.size + 1) 0 _ _ _ ((hb1.block _ (by simp <;> omega)).trans (hx_old (hx_last (w.alloc (.cells #[.bool false, .slice none 0 0, .slice none 0 0] 52)) (.cells #[.int .i64 1] 3) (w.heap.size + 1) (by simp))))
   simpa [go_sem, World.cell?_setCell_other] using e1
 · have hb0 : Below w.heap.size w w1 := ((((Below.refl _ w).alloc (Nat.le_refl _) _).alloc (by simp) _).alloc (by simp <;> omega) _).trans (hb1.mono (by simp <;> omega))
   exact ((((hb0.setCell (by simp <;> omega) _).setCell (by simp <;> omega) _).setCell (by simp <;> omega) _).setCell (by simp <;> omega) _)
set_option maxRecDepth 100000 in
theorem whole_neg (n : Nat) (w : World) (h0 : 0 < n) (h : n < 9223372036854775807) :
   Calls Tryz.prog 52 #[.int .i64 (-(n : Int))] w (GivesR w true n 1) := by
 have hd : decide (-(n : Int) < 0) = true := by simp; omega
 have hn : -(n : Int) < 0 := by omega
 have q1 := s2
 have q2 := s2'
 have q3 := l2
 have q4 := l3
 go_enter Tryz.func52, Tryz.ntmps52
 go_wp2_with (go_at_call 106; refine (from_d n _ (by omega)).mono ?_; rintro e w1 ⟨v1, rfl, D1, hb1⟩; obtain ⟨p1, k1, rfl⟩ := D1.slice; have hz := hb1.size; obtain ⟨r0, r1, r2, rf⟩ := ecells (hx_old (hx_old (hx_last w _ _ rfl))) (hx_lt (hx_old (hx_old (hx_last w _ _ rfl)))) hb1; obtain ⟨x0, x1, x2, xf⟩ := ecells (hx_last _ _ (w.heap.size + 1 + 1) (by simp)) (hx_lt (hx_last _ _ (w.heap.size + 1 + 1) (by simp))) hb1; obtain ⟨hc, hf⟩ := bcell hb1)
 refine bodyPost_ret (v := reV true (.slice p1 (digs n).length k1) (.slice (some ⟨w.heap.size + 1, 0, none⟩) 1 1)) (by simp [results, Tryz.results52, go_sem, r0, r1, r2]) rfl ⟨_, rfl, ⟨_, _, rfl, ?_, ?_⟩, ?_⟩
 · exact ((((D1.setCell _ (by simp <;> omega)).setCell _ (by simp <;> omega)).setCell _ (by simp <;> omega)).setCell _ (by simp <;> omega)).base (by simp <;> omega)
 · refine darg_one (by omega) (by simp at hz ⊢; omega) ?_
   have e1 := cell_of_row _ (w.heap.size + 1) 0 _ _ _ ((hb1.block _ (by simp <;> omega)).trans (hx_old (hx_last (w.alloc (.cells #[.bool false, .slice none 0 0, .slice none 0 0] 52)) (.cells #[.int .i64 1] 3) (w.heap.size + 1) (by simp))))
   simpa [go_sem, World.cell?_setCell_other] using e1
 · have hb0 : Below w.heap.size w w1 := ((((Below.refl _ w).alloc (Nat.le_refl _) _).alloc (by simp) _).alloc (by simp <;> omega) _).trans (hb1.mono (by simp <;> omega))
   exact ((((hb0.setCell (by simp <;> omega) _).setCell (by simp <;> omega) _).setCell (by simp <;> omega) _).setCell (by simp <;> omega) _)
theorem whole_d (n : Int) (w : World) (h1 : -9223372036854775807 < n) (h2 : n < 9223372036854775807) :
   Calls Tryz.prog 52 #[.int .i64 n] w (GivesR w (decide (n < 0)) n.natAbs 1) := by
 by_cases h : n < 0
 · have e : n = -(n.natAbs : Int) := by omega
   rw [decide_eq_true h]
   conv => arg 3; rw [e]
   exact whole_neg n.natAbs w (by omega) (by omega)
 · have e : n = (n.natAbs : Int) := by omega
   rw [decide_eq_false h]
   conv => arg 3; rw [e]
   exact whole_pos n.natAbs w (by omega)
end Go.Proofs.YtpdoddhieblooaaGreatDoor
