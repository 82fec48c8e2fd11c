/- Values of layer 5 in a slice: what lies there; the first of which a test is false. -/
import Derived.Test.YtljbkpnfjgnhnaaDoorBit2
namespace Go.Proofs.YtljbkpnfjgnhnaaDoor
open Go.RowKit

/-- A value, its fields. -/
structure Vl where
  k : Int
  n : Int
  q : Int
  s : ByteArray
abbrev Vl.v (t : Vl) : Value := vlV t.k t.n t.q t.s
abbrev Vl.cells (t : Vl) : List Value := [.int .i64 t.k, .int .i64 t.n, .int .i64 t.q, .string t.s]
def Vl.ok (t : Vl) : Bool := okV t.k t.n t.q t.s.data.toList

/-- The values lie in block b from offset o on, one behind the other. -/
def VlsAt (w : World) (b o : Nat) (vs : List Vl) : Prop := ∀ (i : Nat) (h : i < vs.length), w.rangeAt b (o + i * 4) (vs[i]).cells

theorem VlsAt.below {w w' : World} {b o : Nat} {vs : List Vl} (h : VlsAt w b o vs) (hb : b < w.heap.size) (hB : Below w.heap.size w w') : VlsAt w' b o vs := by
  intro i hi j v hv
  exact (hB.cell (p := ⟨b, o + i * 4 + j, none⟩) hb).trans (h i hi j v hv)
/-- What lies at place k, in the walk's own spelling. -/
theorem VlsAt.at {w : World} {b o : Nat} {vs : List Vl} (h : VlsAt w b o vs) (k : Nat) (hk : k < vs.length) :
    ∃ (kd n q : Int) (s : ByteArray), vs[k] = ⟨kd, n, q, s⟩ ∧
      w.cell? ⟨b, o + k * 4, none⟩ = some (.int .i64 kd) ∧ w.cell? ⟨b, o + k * 4 + 1, none⟩ = some (.int .i64 n) ∧ w.cell? ⟨b, o + k * 4 + 2, none⟩ = some (.int .i64 q) ∧
      w.cell? ⟨b, o + k * 4 + 3, none⟩ = some (.string s) :=
  ⟨_, _, _, _, rfl, h k hk 0 _ rfl, h k hk 1 _ rfl, h k hk 2 _ rfl, h k hk 3 _ rfl⟩
theorem vls_fails {vs : List Vl} {f : Vl → Bool} (h : ¬ ∀ v ∈ vs, f v = true) (k : Nat) (hk : ∀ (j : Nat) (h : j < vs.length), j < k → f (vs[j]) = true) : k < vs.length := by
  apply Decidable.byContradiction
  intro hn
  apply h
  intro t ht
  obtain ⟨j, hj, rfl⟩ := List.getElem_of_mem ht
  exact hk j hj (by omega)
theorem vls_step {vs : List Vl} {f : Vl → Bool} {k : Nat} (hk : ∀ (j : Nat) (h : j < vs.length), j < k → f (vs[j]) = true) (hlt : k < vs.length) (h : f (vs[k]) = true) : ∀ (j : Nat) (h : j < vs.length), j < k + 1 → f (vs[j]) = true := by
  intro j hj hjk
  by_cases e : j = k
  · subst e; exact h
  · exact hk j hj (by omega)

theorem VlsAt.one {w : World} {b : Nat} {t : Vl} (h : Row w b #[.int .i64 t.k, .int .i64 t.n, .int .i64 t.q, .string t.s] 23) : VlsAt w b 0 [t] := by
  intro i hi j v hv
  obtain rfl : i = 0 := by simp at hi; omega
  rw [h.at]
  simpa using hv
theorem VlsAt.two {w : World} {b : Nat} {t u : Vl} (h : Row w b #[.int .i64 t.k, .int .i64 t.n, .int .i64 t.q, .string t.s, .int .i64 u.k, .int .i64 u.n, .int .i64 u.q, .string u.s] 23) : VlsAt w b 0 [t, u] := by
  intro i hi j v hv
  have hi' : i = 0 ∨ i = 1 := by simp at hi; omega
  have hj : j < 4 := by rcases hi' with rfl | rfl <;> (have := (List.getElem?_eq_some_iff.1 hv).1; simpa using this)
  rw [h.at]
  rcases hi' with rfl | rfl
  all_goals
    obtain rfl | rfl | rfl | rfl : j = 0 ∨ j = 1 ∨ j = 2 ∨ j = 3 := by omega
    all_goals simpa using hv
theorem VlsAt.three {w : World} {b : Nat} {t u x : Vl} (h : Row w b #[.int .i64 t.k, .int .i64 t.n, .int .i64 t.q, .string t.s, .int .i64 u.k, .int .i64 u.n, .int .i64 u.q, .string u.s, .int .i64 x.k, .int .i64 x.n, .int .i64 x.q, .string x.s] 23) : VlsAt w b 0 [t, u, x] := by
  intro i hi j v hv
  have hi' : i = 0 ∨ i = 1 ∨ i = 2 := by simp at hi; omega
  have hj : j < 4 := by rcases hi' with rfl | rfl | rfl <;> (have := (List.getElem?_eq_some_iff.1 hv).1; simpa using this)
  rw [h.at]
  rcases hi' with rfl | rfl | rfl
  all_goals
    obtain rfl | rfl | rfl | rfl : j = 0 ∨ j = 1 ∨ j = 2 ∨ j = 3 := by omega
    all_goals simpa using hv
theorem vl1 {p : Vl → Prop} {t : Vl} (h : p t) : ∀ v ∈ [t], p v := by simpa using h
theorem vl2 {p : Vl → Prop} {t u : Vl} (h : p t) (h' : p u) : ∀ v ∈ [t, u], p v := by simpa using ⟨h, h'⟩
theorem vl3 {p : Vl → Prop} {t u x : Vl} (h : p t) (h' : p u) (h'' : p x) : ∀ v ∈ [t, u, x], p v := by simpa using ⟨h, h', h''⟩
end Go.Proofs.YtljbkpnfjgnhnaaDoor
