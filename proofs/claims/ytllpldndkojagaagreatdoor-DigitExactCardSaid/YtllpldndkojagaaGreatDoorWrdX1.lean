/- digit: exact numbers: sign, negated, plus, minus. -/
import Derived.Test.YtllpldndkojagaaGreatDoorWrdPlus
namespace Go.Proofs.YtllpldndkojagaaGreatDoor
open Go.RowKit

abbrev exC (v : Value) (b : Bool) (u : Value) : Array Value := #[v, .bool b, u]
abbrev exV (v : Value) (b : Bool) (u : Value) : Value := .agg #[v, .bool b, u]
theorem Row.ex {w : World} {b : Nat} {a0 a1 a2 : Value} {t : TypeId} (h : Row w b #[a0, a1, a2] t) : w.cell? ⟨b, 0, none⟩ = some a0 ∧ w.cell? ⟨b, 1, none⟩ = some a1 ∧ w.cell? ⟨b, 2, none⟩ = some a2 := ⟨h.at 0, h.at 1, h.at 2⟩
/-- A fraction: z over u, in blocks from B on. -/
def XArg (B : Nat) (w : World) (v : Value) (z : Int) (u : Nat) : Prop := ∃ sl s2, v = exV sl (decide (z < 0)) s2 ∧ WArg B w sl z.natAbs ∧ WArg B w s2 u
theorem XArg.keep {B C : Nat} {w w' : World} {v : Value} {z : Int} {u : Nat} (h : XArg B w v z u) (hb : Below C w w') (hC : w.heap.size ≤ C) : XArg B w' v z u := by
  obtain ⟨sl, s2, e, h1, h2⟩ := h; exact ⟨sl, s2, e, h1.keep hb hC, h2.keep hb hC⟩
theorem XArg.base {B B' : Nat} {w : World} {v : Value} {z : Int} {u : Nat} (h : XArg B w v z u) (hB : B' ≤ B) : XArg B' w v z u := by
  obtain ⟨sl, s2, e, h1, h2⟩ := h; exact ⟨sl, s2, e, h1.base hB, h2.base hB⟩
theorem XArg.put {B : Nat} {w : World} {v : Value} {z : Int} {u : Nat} (h : XArg B w v z u) (a : Addr) (x : Value) (ha : a.block < B) : XArg B (w.setCell a x) v z u := by
  obtain ⟨sl, s2, e, h1, h2⟩ := h; exact ⟨sl, s2, e, h1.setCell a ha, h2.setCell a ha⟩
theorem XArg.open {B : Nat} {w : World} {v : Value} {z : Int} {u : Nat} (h : XArg B w v z u) : ∃ p k q m, v = exV (.slice p (wrds z.natAbs).length k) (decide (z < 0)) (.slice q (wrds u).length m) := by
  obtain ⟨sl, s2, e, h1, h2⟩ := h
  obtain ⟨p, k, rfl⟩ := h1.slice
  obtain ⟨q, m, rfl⟩ := h2.slice
  exact ⟨p, k, q, m, e⟩
theorem XArg.args {B : Nat} {w : World} {sl s2 : Value} {b : Bool} {z : Int} {u : Nat} (h : XArg B w (exV sl b s2) z u) : WArg B w sl z.natAbs ∧ WArg B w s2 u ∧ b = decide (z < 0) := by
  obtain ⟨sl', s2', e, h1, h2⟩ := h
  cases e
  exact ⟨h1, h2, rfl⟩
theorem XArg.long {B : Nat} {w : World} {sl s2 : Value} {b : Bool} {z : Int} {u : Nat} (h : XArg B w (exV sl b s2) z u) : LArg B w (.agg #[sl, .bool b]) z := by
  obtain ⟨sl', s2', e, h1, h2⟩ := h
  cases e
  exact ⟨sl, rfl, h1⟩
def GivesX (w : World) (z : Int) (u : Nat) (e : Ending) (w' : World) : Prop := ∃ v, e = .returned v ∧ XArg w.heap.size w' v z u ∧ Below w.heap.size w w'

/-- The same of blocks of which P holds. -/
def WArgP (P : Nat → Prop) (w : World) (v : Value) (n : Nat) : Prop :=
  (v = .slice none 0 0 ∧ n = 0) ∨ ∃ b cap, v = .slice (some ⟨b, 0, none⟩) (wrds n).length cap ∧ (wrds n).length ≤ cap ∧ P b ∧ b < w.heap.size ∧
    ∀ j (h : j < (wrds n).length), w.cell? ⟨b, j, none⟩ = some (.int .u32 ((wrds n)[j] : Int))
theorem WArgP.arg {P : Nat → Prop} {w : World} {v : Value} {n : Nat} (h : WArgP P w v n) : WArg 0 w v n := by
  rcases h with h | ⟨b, cap, e, h1, _, h3, h4⟩
  · exact .inl h
  · exact .inr ⟨b, cap, e, h1, Nat.zero_le _, h3, h4⟩
theorem WArg.inP {P : Nat → Prop} {B : Nat} {w : World} {v : Value} {n : Nat} (h : WArg B w v n) (hP : ∀ b, B ≤ b → b < w.heap.size → P b) : WArgP P w v n := by
  rcases h with h | ⟨b, cap, e, h1, h2, h3, h4⟩
  · exact .inl h
  · exact .inr ⟨b, cap, e, h1, hP b h2 h3, h3, h4⟩
theorem WArgP.keep {P : Nat → Prop} {C : Nat} {w w' : World} {v : Value} {n : Nat} (h : WArgP P w v n) (hb : Below C w w') (hC : w.heap.size ≤ C) : WArgP P w' v n := by
  have hs := hb.size
  rcases h with h | ⟨b, cap, rfl, h1, h2, h3, h4⟩
  · exact .inl h
  · exact .inr ⟨b, cap, rfl, h1, h2, by omega, fun j hj => (hb.cell (p := ⟨b, j, none⟩) (show b < C by omega)).trans (h4 j hj)⟩
theorem WArgP.weak {P Q : Nat → Prop} {w : World} {v : Value} {n : Nat} (h : WArgP P w v n) (hq : ∀ b, b < w.heap.size → P b → Q b) : WArgP Q w v n := by
  rcases h with h | ⟨b, cap, e, h1, h2, h3, h4⟩
  · exact .inl h
  · exact .inr ⟨b, cap, e, h1, hq b h3 h2, h3, h4⟩
theorem WArgP.put {P : Nat → Prop} {w : World} {v : Value} {n : Nat} (h : WArgP P w v n) (a : Addr) (x : Value) (ha : ∀ b, P b → b ≠ a.block) : WArgP P (w.setCell a x) v n := by
  rcases h with h | ⟨b, cap, rfl, h1, h2, h3, h4⟩
  · exact .inl h
  · exact .inr ⟨b, cap, rfl, h1, h2, by simpa using h3, fun j hj => (World.cell?_setCell_far w a ⟨b, j, none⟩ x (show a.block ≠ b from fun e => ha b h2 e.symm)).trans (h4 j hj)⟩
def XArgP (P : Nat → Prop) (w : World) (v : Value) (z : Int) (u : Nat) : Prop := ∃ sl s2, v = exV sl (decide (z < 0)) s2 ∧ WArgP P w sl z.natAbs ∧ WArgP P w s2 u
theorem XArgP.x {P : Nat → Prop} {w : World} {v : Value} {z : Int} {u : Nat} (h : XArgP P w v z u) : XArg 0 w v z u := by
  obtain ⟨sl, s2, e, h1, h2⟩ := h; exact ⟨sl, s2, e, h1.arg, h2.arg⟩
theorem XArgP.keep {P : Nat → Prop} {C : Nat} {w w' : World} {v : Value} {z : Int} {u : Nat} (h : XArgP P w v z u) (hb : Below C w w') (hC : w.heap.size ≤ C) : XArgP P w' v z u := by
  obtain ⟨sl, s2, e, h1, h2⟩ := h; exact ⟨sl, s2, e, h1.keep hb hC, h2.keep hb hC⟩
theorem XArgP.weak {P Q : Nat → Prop} {w : World} {v : Value} {z : Int} {u : Nat} (h : XArgP P w v z u) (hq : ∀ b, b < w.heap.size → P b → Q b) : XArgP Q w v z u := by
  obtain ⟨sl, s2, e, h1, h2⟩ := h; exact ⟨sl, s2, e, h1.weak hq, h2.weak hq⟩
theorem XArgP.put {P : Nat → Prop} {w : World} {v : Value} {z : Int} {u : Nat} (h : XArgP P w v z u) (a : Addr) (x : Value) (ha : ∀ b, P b → b ≠ a.block) : XArgP P (w.setCell a x) v z u := by
  obtain ⟨sl, s2, e, h1, h2⟩ := h; exact ⟨sl, s2, e, h1.put a x ha, h2.put a x ha⟩
theorem XArgP.args {P : Nat → Prop} {w : World} {sl s2 : Value} {b : Bool} {z : Int} {u : Nat} (h : XArgP P w (exV sl b s2) z u) : WArgP P w sl z.natAbs ∧ WArgP P w s2 u := by
  obtain ⟨sl', s2', e, h1, h2⟩ := h
  cases e
  exact ⟨h1, h2⟩

def sgnZ (z : Int) : Int := if z < 0 then -1 else if z = 0 then 0 else 1
theorem neg_fin {P : Nat → Prop} {w w' : World} {sl s2 : Value} {d : Bool} {z Z : Int} {u : Nat} (h : XArgP P w (exV sl d s2) z u) (hZ : Z.natAbs = z.natAbs) (hB : Below w.heap.size w w') :
    ∃ y, Ending.returned (exV sl (decide (Z < 0)) s2) = .returned y ∧ XArgP P w' y Z u ∧ Below w.heap.size w w' :=
  ⟨_, rfl, ⟨sl, s2, rfl, by rw [hZ]; exact h.args.1.keep hB (Nat.le_refl _), h.args.2.keep hB (Nat.le_refl _)⟩, hB⟩
set_option maxRecDepth 100000 in
set_option maxHeartbeats 4000000 in
theorem negated_x {P : Nat → Prop} {z : Int} {u : Nat} {v : Value} {w : World} (hX : XArgP P w v z u) (la : (wrds z.natAbs).length ≤ 1000000) :
    Calls Tryz.prog 31 #[v] w fun e w' => ∃ y, e = .returned y ∧ XArgP P w' y (-z) u ∧ Below w.heap.size w w' := by
  obtain ⟨pz, kz, qz, mz, rfl⟩ := hX.x.open
  have HX := Lib.hid hX
  clear hX
  have LA := Lib.hid la
  have HS : Hid ((!decide (z < 0) && !decide (z.natAbs = 0)) = decide (-z < 0)) := by
    show _ = _
    by_cases h1 : z < 0
    · rw [decide_eq_true h1, decide_eq_false (show ¬ -z < 0 by omega)]; rfl
    · by_cases h0 : z = 0
      · subst h0; rfl
      · rw [decide_eq_false h1, decide_eq_true (show -z < 0 by omega), decide_eq_false (show ¬ z.natAbs = 0 by omega)]; rfl
  obtain ⟨dz, hd⟩ : ∃ d, decide (z < 0) = d := ⟨_, rfl⟩
  have HD := Lib.hid hd
  rw [hd] at HX HS ⊢
  have HM : Hid ((-z).natAbs = z.natAbs) := Lib.hid (Int.natAbs_neg z)
  obtain ⟨Z, hZ⟩ : ∃ Z : Int, -z = Z := ⟨_, rfl⟩
  rw [hZ] at HS HM ⊢
  clear hd hZ
  have RA := (Row.new w (exC (.slice pz (wrds z.natAbs).length kz) dz (.slice qz (wrds u).length mz)) 45).alloc (.cells (exC (.slice none 0 0) false (.slice none 0 0)) 45)
  have RZ := Row.new2 w (.cells (exC (.slice pz (wrds z.natAbs).length kz) dz (.slice qz (wrds u).length mz)) 45) (exC (.slice none 0 0) false (.slice none 0 0)) 45
  go_enter Tryz.func31, Tryz.ntmps31
  go_wp2
  generalize hw : (w.alloc (.cells (exC (.slice pz (wrds z.natAbs).length kz) dz (.slice qz (wrds u).length mz)) 45)).alloc (.cells (exC (.slice none 0 0) false (.slice none 0 0)) 45) = W at *
  have B0 : Hid (Below w.heap.size w W) := by show Below _ _ _; rw [← hw]; go_grown
  clear hw
  obtain ⟨x0, x1, x2⟩ := RA.ex
  go_region_held3 (fun w' => w'.cell? ⟨w.heap.size, 0, none⟩ = some (.slice pz (wrds z.natAbs).length kz) ∧ w'.cell? ⟨w.heap.size, 1, none⟩ = some (.bool dz) ∧ w'.cell? ⟨w.heap.size, 2, none⟩ = some (.slice qz (wrds u).length mz))
    (first | go_keep | exact A2.ex | ((try dsimp only); (repeat' apply And.intro) <;> go_keep))
    (first
      | (go_at_call 32; (with_reducible refine (signed_d (B := 0) (neg := !dz) (HX.out.args.1.arg.keep B0.out (Nat.le_refl _)).drew LA.out).mono ?_); rw [HS.out]; rintro e w2 ⟨rfl, hb2⟩; have A2 := RA.keep (bl_drew hb2); have Z2 := RZ.keep (bl_drew hb2); obtain ⟨z0, z1, z2⟩ := Z2.ex; have f0 := Z2.free 0; have f1 := Z2.free 1; have f2 := Z2.free 2))
  go_wp2
  refine bodyPost_ret (v := exV (.slice pz (wrds z.natAbs).length kz) (decide (Z < 0)) (.slice qz (wrds u).length mz)) (by simp [results, Tryz.results31, go_sem, z0, z1, z2]) rfl (neg_fin HX.out HM.out ?_)
  (repeat refine Below.setCell ?_ (by simp <;> omega) _)
  exact bl_then B0.out (bl_drew hb2)
end Go.Proofs.YtllpldndkojagaaGreatDoor
