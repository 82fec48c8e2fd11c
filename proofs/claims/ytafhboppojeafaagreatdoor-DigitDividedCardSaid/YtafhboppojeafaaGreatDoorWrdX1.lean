/- digit: (long).plus. digit: exact numbers: sign, negated, plus, minus. -/
import Derived.Test.YtafhboppojeafaaGreatDoorWrdLong
import Derived.Test.YtafhboppojeafaaGreatDoorWrdDiff
namespace Go.Proofs.YtafhboppojeafaaGreatDoor
open Go.RowKit

theorem wrds_add_len (a b : Nat) : (wrds (a + b)).length ≤ max (wrds a).length (wrds b).length + 1 := by
  apply wrds_len
  have ha := wval_lt (wrds a) (wrds_digs a)
  have hb := wval_lt (wrds b) (wrds_digs b)
  rw [wval_digs] at ha hb
  have h1 : 4294967296 ^ (wrds a).length ≤ 4294967296 ^ max (wrds a).length (wrds b).length := Nat.pow_le_pow_right (by decide) (Nat.le_max_left _ _)
  have h2 : 4294967296 ^ (wrds b).length ≤ 4294967296 ^ max (wrds a).length (wrds b).length := Nat.pow_le_pow_right (by decide) (Nat.le_max_right _ _)
  rw [Nat.pow_succ]
  omega
theorem wrds_le_len {a b : Nat} (h : a ≤ b) : (wrds a).length ≤ (wrds b).length := wlength_le_of_wval (wrds_digs b) (wrds_neat a) (by rw [wval_digs, wval_digs]; exact h)

end Go.Proofs.YtafhboppojeafaaGreatDoor
namespace Go.Proofs.YtafhboppojeafaaGreatDoor
open Go.RowKit

abbrev exC (v : Value) (b : Bool) (u : Value) : Array Value := #[v, .bool b, u]
abbrev exV (v : Value) (b : Bool) (u : Value) : Value := .agg #[v, .bool b, u]
theorem Row.ex {w : World} {b : Nat} {a0 a1 a2 : Value} {t : TypeId} (h : Row w b #[a0, a1, a2] t) : w.cell? ⟨b, 0, none⟩ = some a0 ∧ w.cell? ⟨b, 1, none⟩ = some a1 ∧ w.cell? ⟨b, 2, none⟩ = some a2 := ⟨h.at 0, h.at 1, h.at 2⟩
/-- A fraction: z over u, in blocks from B on. -/
def XArg (B : Nat) (w : World) (v : Value) (z : Int) (u : Nat) : Prop := ∃ sl s2, v = exV sl (decide (z < 0)) s2 ∧ WArg B w sl z.natAbs ∧ WArg B w s2 u
theorem XArg.keep {B C : Nat} {w w' : World} {v : Value} {z : Int} {u : Nat} (h : XArg B w v z u) (hb : Below C w w') (hC : w.heap.size ≤ C) : XArg B w' v z u := by
  obtain ⟨sl, s2, e, h1, h2⟩ := h; exact ⟨sl, s2, e, h1.keep hb hC, h2.keep hb hC⟩
theorem XArg.base {B B' : Nat} {w : World} {v : Value} {z : Int} {u : Nat} (h : XArg B w v z u) (hB : B' ≤ B) : XArg B' w v z u := by
  obtain ⟨sl, s2, e, h1, h2⟩ := h; exact ⟨sl, s2, e, h1.base hB, h2.base hB⟩
theorem XArg.put {B : Nat} {w : World} {v : Value} {z : Int} {u : Nat} (h : XArg B w v z u) (a : Addr) (x : Value) (ha : a.block < B) : XArg B (w.setCell a x) v z u := by
  obtain ⟨sl, s2, e, h1, h2⟩ := h; exact ⟨sl, s2, e, h1.setCell a ha, h2.setCell a ha⟩
theorem XArg.open {B : Nat} {w : World} {v : Value} {z : Int} {u : Nat} (h : XArg B w v z u) : ∃ p k q m, v = exV (.slice p (wrds z.natAbs).length k) (decide (z < 0)) (.slice q (wrds u).length m) := by
  obtain ⟨sl, s2, e, h1, h2⟩ := h
  obtain ⟨p, k, rfl⟩ := h1.slice
  obtain ⟨q, m, rfl⟩ := h2.slice
  exact ⟨p, k, q, m, e⟩
theorem XArg.args {B : Nat} {w : World} {sl s2 : Value} {b : Bool} {z : Int} {u : Nat} (h : XArg B w (exV sl b s2) z u) : WArg B w sl z.natAbs ∧ WArg B w s2 u ∧ b = decide (z < 0) := by
  obtain ⟨sl', s2', e, h1, h2⟩ := h
  cases e
  exact ⟨h1, h2, rfl⟩
theorem XArg.long {B : Nat} {w : World} {sl s2 : Value} {b : Bool} {z : Int} {u : Nat} (h : XArg B w (exV sl b s2) z u) : LArg B w (.agg #[sl, .bool b]) z := by
  obtain ⟨sl', s2', e, h1, h2⟩ := h
  cases e
  exact ⟨sl, rfl, h1⟩
def GivesX (w : World) (z : Int) (u : Nat) (e : Ending) (w' : World) : Prop := ∃ v, e = .returned v ∧ XArg w.heap.size w' v z u ∧ Below w.heap.size w w'

/-- The same of blocks of which P holds. -/
def WArgP (P : Nat → Prop) (w : World) (v : Value) (n : Nat) : Prop :=
  (v = .slice none 0 0 ∧ n = 0) ∨ ∃ b cap, v = .slice (some ⟨b, 0, none⟩) (wrds n).length cap ∧ (wrds n).length ≤ cap ∧ P b ∧ b < w.heap.size ∧
    ∀ j (h : j < (wrds n).length), w.cell? ⟨b, j, none⟩ = some (.int .u32 ((wrds n)[j] : Int))
theorem WArgP.arg {P : Nat → Prop} {w : World} {v : Value} {n : Nat} (h : WArgP P w v n) : WArg 0 w v n := by
  rcases h with h | ⟨b, cap, e, h1, _, h3, h4⟩
  · exact .inl h
  · exact .inr ⟨b, cap, e, h1, Nat.zero_le _, h3, h4⟩
theorem WArg.inP {P : Nat → Prop} {B : Nat} {w : World} {v : Value} {n : Nat} (h : WArg B w v n) (hP : ∀ b, B ≤ b → b < w.heap.size → P b) : WArgP P w v n := by
  rcases h with h | ⟨b, cap, e, h1, h2, h3, h4⟩
  · exact .inl h
  · exact .inr ⟨b, cap, e, h1, hP b h2 h3, h3, h4⟩
theorem WArgP.keep {P : Nat → Prop} {C : Nat} {w w' : World} {v : Value} {n : Nat} (h : WArgP P w v n) (hb : Below C w w') (hC : w.heap.size ≤ C) : WArgP P w' v n := by
  have hs := hb.size
  rcases h with h | ⟨b, cap, rfl, h1, h2, h3, h4⟩
  · exact .inl h
  · exact .inr ⟨b, cap, rfl, h1, h2, by omega, fun j hj => (hb.cell (p := ⟨b, j, none⟩) (show b < C by omega)).trans (h4 j hj)⟩
theorem WArgP.weak {P Q : Nat → Prop} {w : World} {v : Value} {n : Nat} (h : WArgP P w v n) (hq : ∀ b, b < w.heap.size → P b → Q b) : WArgP Q w v n := by
  rcases h with h | ⟨b, cap, e, h1, h2, h3, h4⟩
  · exact .inl h
  · exact .inr ⟨b, cap, e, h1, hq b h3 h2, h3, h4⟩
theorem WArgP.put {P : Nat → Prop} {w : World} {v : Value} {n : Nat} (h : WArgP P w v n) (a : Addr) (x : Value) (ha : ∀ b, P b → b ≠ a.block) : WArgP P (w.setCell a x) v n := by
  rcases h with h | ⟨b, cap, rfl, h1, h2, h3, h4⟩
  · exact .inl h
  · exact .inr ⟨b, cap, rfl, h1, h2, by simpa using h3, fun j hj => (World.cell?_setCell_far w a ⟨b, j, none⟩ x (show a.block ≠ b from fun e => ha b h2 e.symm)).trans (h4 j hj)⟩
def XArgP (P : Nat → Prop) (w : World) (v : Value) (z : Int) (u : Nat) : Prop := ∃ sl s2, v = exV sl (decide (z < 0)) s2 ∧ WArgP P w sl z.natAbs ∧ WArgP P w s2 u
theorem XArgP.x {P : Nat → Prop} {w : World} {v : Value} {z : Int} {u : Nat} (h : XArgP P w v z u) : XArg 0 w v z u := by
  obtain ⟨sl, s2, e, h1, h2⟩ := h; exact ⟨sl, s2, e, h1.arg, h2.arg⟩
theorem XArgP.keep {P : Nat → Prop} {C : Nat} {w w' : World} {v : Value} {z : Int} {u : Nat} (h : XArgP P w v z u) (hb : Below C w w') (hC : w.heap.size ≤ C) : XArgP P w' v z u := by
  obtain ⟨sl, s2, e, h1, h2⟩ := h; exact ⟨sl, s2, e, h1.keep hb hC, h2.keep hb hC⟩
theorem XArgP.weak {P Q : Nat → Prop} {w : World} {v : Value} {z : Int} {u : Nat} (h : XArgP P w v z u) (hq : ∀ b, b < w.heap.size → P b → Q b) : XArgP Q w v z u := by
  obtain ⟨sl, s2, e, h1, h2⟩ := h; exact ⟨sl, s2, e, h1.weak hq, h2.weak hq⟩
theorem XArgP.put {P : Nat → Prop} {w : World} {v : Value} {z : Int} {u : Nat} (h : XArgP P w v z u) (a : Addr) (x : Value) (ha : ∀ b, P b → b ≠ a.block) : XArgP P (w.setCell a x) v z u := by
  obtain ⟨sl, s2, e, h1, h2⟩ := h; exact ⟨sl, s2, e, h1.put a x ha, h2.put a x ha⟩
theorem XArgP.args {P : Nat → Prop} {w : World} {sl s2 : Value} {b : Bool} {z : Int} {u : Nat} (h : XArgP P w (exV sl b s2) z u) : WArgP P w sl z.natAbs ∧ WArgP P w s2 u := by
  obtain ⟨sl', s2', e, h1, h2⟩ := h
  cases e
  exact ⟨h1, h2⟩

def sgnZ (z : Int) : Int := if z < 0 then -1 else if z = 0 then 0 else 1
theorem neg_fin {P : Nat → Prop} {w w' : World} {sl s2 : Value} {d : Bool} {z Z : Int} {u : Nat} (h : XArgP P w (exV sl d s2) z u) (hZ : Z.natAbs = z.natAbs) (hB : Below w.heap.size w w') :
    ∃ y, Ending.returned (exV sl (decide (Z < 0)) s2) = .returned y ∧ XArgP P w' y Z u ∧ Below w.heap.size w w' :=
  ⟨_, rfl, ⟨sl, s2, rfl, by rw [hZ]; exact h.args.1.keep hB (Nat.le_refl _), h.args.2.keep hB (Nat.le_refl _)⟩, hB⟩
end Go.Proofs.YtafhboppojeafaaGreatDoor
