/- A slice that holds a number's digits, as an argument and as a result; the functions of digits in these words. -/
import Derived.Test.YtbjnglfapgpncaaGreatDoorDigMul
import Derived.Test.YtbjnglfapgpncaaGreatDoorDigCmp
import Derived.Deep.RegionHeld
namespace Go.Proofs.YtbjnglfapgpncaaGreatDoor
open Go.RowKit

/-- A slice that holds a number's digits, in a block from B on. -/
def DArg (B : Nat) (w : World) (v : Value) (n : Nat) : Prop :=
  (v = .slice none 0 0 ∧ n = 0) ∨ ∃ b cap, v = .slice (some ⟨b, 0, none⟩) (digs n).length cap ∧ (digs n).length ≤ cap ∧ B ≤ b ∧ b < w.heap.size ∧
    ∀ j (h : j < (digs n).length), w.cell? ⟨b, j, none⟩ = some (.int .i64 ((digs n)[j] : Int))

theorem DArg.of_own {B : Nat} {w : World} {v : Value} {n : Nat} (h : w.ownsRow B 3 1 v (digs n).length (dcells (digs n))) : DArg B w v n := by
  rcases h.2 with ⟨rfl, h0⟩ | ⟨g, cap, cur, rfl, hB, hg, hn, hm, hs, htk⟩
  · left
    refine ⟨rfl, ?_⟩
    have := List.length_eq_zero_iff.1 h0
    rw [← val_digs n, this]; rfl
  · right
    refine ⟨g, cap, rfl, hn, hB, (Array.getElem?_eq_some_iff.1 hg).1, ?_⟩
    intro j hj
    have := h.cells (g := g) rfl j (.int .i64 ((digs n)[j] : Int)) (by simp [dcells, List.getElem?_eq_getElem hj])
    rw [add_head] at this
    exact this

theorem DArg.parts {B : Nat} {w : World} {v : Value} {n : Nat} (h : DArg B w v n) :
    ∃ p b cap, v = .slice p (digs n).length cap ∧ (0 < (digs n).length → p = some ⟨b, 0, none⟩) ∧ (digs n).length ≤ cap ∧
      (∀ j (h : j < (digs n).length), w.cell? ⟨b, j, none⟩ = some (.int .i64 ((digs n)[j] : Int))) ∧ (0 < (digs n).length → b < w.heap.size) := by
  rcases h with ⟨rfl, rfl⟩ | ⟨b, cap, rfl, h1, h2, h3, h4⟩
  · have e : digs 0 = [] := digs_zero
    exact ⟨none, 0, 0, by rw [e]; rfl, fun h => by rw [e] at h; exact absurd h (by simp), by rw [e]; simp, fun j h => by rw [e] at h; exact absurd h (by simp), fun h => by rw [e] at h; exact absurd h (by simp)⟩
  · exact ⟨_, b, cap, rfl, fun _ => rfl, h1, h4, fun _ => h3⟩

theorem DArg.keep {B C : Nat} {w w' : World} {v : Value} {n : Nat} (h : DArg B w v n) (hb : Below C w w') (hC : w.heap.size ≤ C) : DArg B w' v n := by
  have hs := hb.size
  rcases h with h | ⟨b, cap, rfl, h1, h2, h3, h4⟩
  · exact .inl h
  · exact .inr ⟨b, cap, rfl, h1, h2, by omega, fun j hj => (hb.cell (p := ⟨b, j, none⟩) (show b < C by omega)).trans (h4 j hj)⟩

theorem DArg.base {B B' : Nat} {w : World} {v : Value} {n : Nat} (h : DArg B w v n) (hB : B' ≤ B) : DArg B' w v n := by
  rcases h with h | ⟨b, cap, rfl, h1, h2, h3, h4⟩
  · exact .inl h
  · exact .inr ⟨b, cap, rfl, h1, by omega, h3, h4⟩

theorem DArg.setCell {B : Nat} {w : World} {v x : Value} {n : Nat} (h : DArg B w v n) (q : Addr) (hq : q.block < B) : DArg B (w.setCell q x) v n := by
  rcases h with h | ⟨b, cap, rfl, h1, h2, h3, h4⟩
  · exact .inl h
  · exact .inr ⟨b, cap, rfl, h1, h2, by simpa using h3, fun j hj => (World.cell?_setCell_far w q ⟨b, j, none⟩ x (show q.block ≠ b by omega)).trans (h4 j hj)⟩

theorem DArg.drew {B : Nat} {w : World} {v : Value} {n : Nat} (h : DArg B w v n) : DArg B w.drew v n := h.keep (C := w.heap.size) ((Below.refl _ w).drew) (Nat.le_refl _)

/-- The value itself, opened. -/
theorem DArg.slice {B : Nat} {w : World} {v : Value} {n : Nat} (h : DArg B w v n) : ∃ p cap, v = .slice p (digs n).length cap := by
  obtain ⟨p, b, cap, rfl, _⟩ := h.parts
  exact ⟨p, cap, rfl⟩

/-- What a function of digits answers. -/
def Gives (w : World) (n : Nat) (e : Ending) (w' : World) : Prop := ∃ v, e = .returned v ∧ DArg w.heap.size w' v n ∧ Below w.heap.size w w'

theorem gives_of {w : World} {n : Nat} {e : Ending} {w' : World} (h : ∃ v, e = .returned v ∧ w'.ownsRow w.heap.size 3 1 v (digs n).length (dcells (digs n)) ∧ Below w.heap.size w w') : Gives w n e w' := by
  obtain ⟨v, he, ho, hb⟩ := h
  exact ⟨v, he, .of_own ho, hb⟩

theorem from_d (n : Nat) (w : World) (hn : n < 9223372036854775808) : Calls Tryz.prog 32 #[.int .i64 (n : Int)] w (Gives w n) :=
  (from_any n w hn).mono fun _ _ h => gives_of h

theorem plus_d {B C a b : Nat} {va vb : Value} {w : World} (hA : DArg B w va a) (hB : DArg C w vb b) (la : (digs a).length ≤ 100000) (lb : (digs b).length ≤ 100000) :
    Calls Tryz.prog 28 #[va, vb] w (Gives w (a + b)) := by
  obtain ⟨pa, ba, ca, rfl, a1, a2, a3, a4⟩ := hA.parts
  obtain ⟨pb, bb, cb, rfl, b1, b2, b3, b4⟩ := hB.parts
  have h := plus_any pa pb ba bb ca cb _ _ w (digs_digs a) (digs_digs b) a1 b1 a2 b2 a3 b3 la lb a4 b4
  rw [val_digs, val_digs] at h
  exact h.mono fun _ _ h => gives_of h

theorem mul_d {B C a b : Nat} {va vb : Value} {w : World} (hA : DArg B w va a) (hB : DArg C w vb b) (la : (digs a).length ≤ 10000) (lb : (digs b).length ≤ 10000) :
    Calls Tryz.prog 26 #[va, vb] w (Gives w (a * b)) := by
  obtain ⟨pa, ba, ca, rfl, a1, a2, a3, a4⟩ := hA.parts
  obtain ⟨pb, bb, cb, rfl, b1, b2, b3, b4⟩ := hB.parts
  have h := mul_any pa pb ba bb ca cb _ _ w (digs_digs a) (digs_digs b) a1 b1 a2 b2 a3 b3 la lb a4 b4
  rw [val_digs, val_digs] at h
  exact h.mono fun _ _ h => gives_of h

theorem pow2_d (n : Nat) (w : World) (hn : n ≤ 100) : Calls Tryz.prog 15 #[.int .i64 2, .int .i64 (n : Int)] w (Gives w (2 ^ n)) :=
  (pow2_any n w hn).mono fun _ _ h => gives_of h
theorem pow10_d (n : Nat) (w : World) (hn : n ≤ 100000) : Calls Tryz.prog 15 #[.int .i64 10, .int .i64 (n : Int)] w (Gives w (10 ^ n)) :=
  (pow10_any n w hn).mono fun _ _ h => gives_of h

theorem int_d {B n : Nat} {v : Value} {w : World} (h : DArg B w v n) (h18 : (digs n).length ≤ 18) :
    Calls Tryz.prog 39 #[v] w fun e w' => e = .returned (.int .i64 (n : Int)) ∧ w = w' := by
  obtain ⟨p, b, c, rfl, a1, a2, a3, a4⟩ := h.parts
  have h := int_any p b c _ w (digs_digs n) a1 a2 a3 h18
  rwa [val_digs] at h

theorem cmp_d {B C a b : Nat} {va vb : Value} {w : World} (hA : DArg B w va a) (hB : DArg C w vb b) (la : (digs a).length ≤ 100000) (lb : (digs b).length ≤ 100000) :
    Calls Tryz.prog 17 #[va, vb] w fun e w' => e = .returned (.int .i64 (ord a b)) ∧ Below w.heap.size w w' := by
  obtain ⟨pa, ba, ca, rfl, a1, a2, a3, a4⟩ := hA.parts
  obtain ⟨pb, bb, cb, rfl, b1, b2, b3, b4⟩ := hB.parts
  by_cases hl : (digs a).length = (digs b).length
  · have h := cmp_near pa pb ba bb ca cb _ _ w (digs_digs a) (digs_digs b) hl.symm a1 b1 a2 b2 a3 b3 (by omega) a4 (fun h => b4 (by omega))
    rw [val_digs, val_digs, hl] at h
    rw [hl]; exact h
  · have h := cmp_far pa pb ca cb _ _ w (digs_digs a) (digs_digs b) (digs_neat a) (digs_neat b) hl (by omega) (by omega)
    rw [val_digs, val_digs] at h
    exact h.mono fun _ _ ⟨he, hw⟩ => ⟨he, hw ▸ Below.refl _ _⟩

/-- How many digits sums, products and parts have. -/
theorem digs_len_mono {a b : Nat} (h : a ≤ b) : (digs a).length ≤ (digs b).length :=
  length_le_of_val (digs_digs b) (digs_neat a) (by rw [val_digs, val_digs]; exact h)
theorem digs_lt (n : Nat) : n < 10 ^ (digs n).length := by have := val_lt (digs n) (digs_digs n); rwa [val_digs] at this
theorem digs_len_mul (a b : Nat) : (digs (a * b)).length ≤ (digs a).length + (digs b).length := by
  refine digs_length _ _ ?_
  rw [Nat.pow_add]
  exact Nat.mul_lt_mul'' (digs_lt a) (digs_lt b)
theorem digs_len_add (a b : Nat) : (digs (a + b)).length ≤ max (digs a).length (digs b).length + 1 := by
  refine digs_length _ _ ?_
  have h1 := Nat.lt_of_lt_of_le (digs_lt a) (Nat.pow_le_pow_right (by decide : 10 > 0) (Nat.le_max_left (digs a).length (digs b).length))
  have h2 := Nat.lt_of_lt_of_le (digs_lt b) (Nat.pow_le_pow_right (by decide : 10 > 0) (Nat.le_max_right (digs a).length (digs b).length))
  rw [Nat.pow_succ]; omega
theorem digs_len_pow10 (n : Nat) : (digs (10 ^ n)).length = n + 1 := by rw [digs_ten]; simp
theorem digs_len_pow2 (n : Nat) : (digs (2 ^ n)).length ≤ n + 1 := by
  refine digs_length _ _ (Nat.lt_of_lt_of_le (Nat.pow_lt_pow_right (by decide : 1 < 2) (Nat.lt_succ_self n)) (Nat.pow_le_pow_left (by decide) _))
theorem digs_len_zero {n : Nat} (h : (digs n).length = 0) : n = 0 := by
  have := List.length_eq_zero_iff.1 h
  rw [← val_digs n, this]; rfl
theorem digs_len_pos {n : Nat} (h : 0 < n) : 0 < (digs n).length := by
  rcases Nat.eq_zero_or_pos (digs n).length with h0 | h0
  · have := digs_len_zero h0; omega
  · exact h0
theorem digs_len_not {n : Nat} (h : ¬ 0 < n) : ¬ 0 < (digs n).length := by
  have : n = 0 := by omega
  subst this
  rw [digs_zero]; simp
end Go.Proofs.YtbjnglfapgpncaaGreatDoor
