/- Package bits: demandAlike of two strings, and of three, with the error that it tells. -/
import Derived.Test.YtljbkpnfjgnhnaaDoorBitDem2
import Derived.Test.YtljbkpnfjgnhnaaDoorBitLow
namespace Go.Proofs.YtljbkpnfjgnhnaaDoor
open Go.RowKit

def alikeE (a b : Vl) : Int := if a.ok && b.ok then (if b.is a.k then 0 else 10) else 1
def alikeE3 (a b c : Vl) : Int := if a.ok && b.ok && c.ok then (if b.is a.k && c.is a.k then 0 else 10) else 1
theorem alikeE_ok {a b : Vl} (h : alikeE a b = 0) : a.ok = true ∧ b.ok = true ∧ b.k = a.k := by
  unfold alikeE at h
  split at h
  · rename_i h1
    simp only [Bool.and_eq_true] at h1
    split at h
    · rename_i h2
      exact ⟨h1.1, h1.2, by simpa [Vl.is] using h2⟩
    · cases h
  · cases h
theorem alikeE_of {a b : Vl} (ha : a.ok = true) (hb : b.ok = true) (hk : b.k = a.k) : alikeE a b = 0 := by simp [alikeE, ha, hb, Vl.is, hk]
theorem alikeE3_ok {a b c : Vl} (h : alikeE3 a b c = 0) : a.ok = true ∧ b.ok = true ∧ c.ok = true ∧ b.k = a.k ∧ c.k = a.k := by
  unfold alikeE3 at h
  split at h
  · rename_i h1
    simp only [Bool.and_eq_true] at h1
    split at h
    · rename_i h2
      simp only [Bool.and_eq_true] at h2
      exact ⟨h1.1.1, h1.1.2, h1.2, by simpa [Vl.is] using h2.1, by simpa [Vl.is] using h2.2⟩
    · cases h
  · cases h

theorem demAlike_any (a b : Vl) (bl cap : Nat) (w : World) (hs : a.s.size ≤ maxLen) (hs' : b.s.size ≤ maxLen) (hA : VlsAt w bl 0 [b]) (hb : bl < w.heap.size) :
    Calls Tryd.prog 37 #[a.v, .slice (some ⟨bl, 0, none⟩) 1 cap] w fun e w' => e = outE (alikeE a b) (.tuple #[]) ∧ Below w.heap.size w w' := by
  obtain ⟨k, n, q, s⟩ := a
  cases ha : okV k n q s.data.toList with
  | false =>
    have e : alikeE ⟨k, n, q, s⟩ b = 1 := by simp [alikeE, Vl.ok, ha]
    rw [e]; exact alike_1 k n q s [b] bl 0 cap w hs ha
  | true =>
    cases hb' : b.ok with
    | false =>
      have e : alikeE ⟨k, n, q, s⟩ b = 1 := by simp [alikeE, hb']
      rw [e]; exact alike_1' k n q s [b] bl 0 cap w hs ha hA (by simp) hb (vl1 hs') (by simp [hb'])
    | true =>
      cases hk : b.is k with
      | false =>
        have e : alikeE ⟨k, n, q, s⟩ b = 10 := by simp [alikeE, Vl.ok, ha, hk]; exact hb'
        rw [e]; exact alike_10 k n q s [b] bl 0 cap w hs ha hA (by simp) hb (vl1 hs') (vl1 hb') (by simp [hk])
      | true =>
        have e : alikeE ⟨k, n, q, s⟩ b = 0 := by simp [alikeE, Vl.ok, ha, hk]; exact hb'
        rw [e]; exact alike_ok k n q s [b] bl 0 cap w hs ha hA (by simp) hb (vl1 hs') (vl1 hb') (vl1 hk)

theorem demAlike3_any (a b c : Vl) (bl cap : Nat) (w : World) (hs : a.s.size ≤ maxLen) (hs' : b.s.size ≤ maxLen) (hs'' : c.s.size ≤ maxLen) (hA : VlsAt w bl 0 [b, c]) (hb : bl < w.heap.size) :
    Calls Tryd.prog 37 #[a.v, .slice (some ⟨bl, 0, none⟩) 2 cap] w fun e w' => e = outE (alikeE3 a b c) (.tuple #[]) ∧ Below w.heap.size w w' := by
  obtain ⟨k, n, q, s⟩ := a
  cases ha : okV k n q s.data.toList with
  | false =>
    have e : alikeE3 ⟨k, n, q, s⟩ b c = 1 := by simp [alikeE3, Vl.ok, ha]
    rw [e]; exact alike_1 k n q s [b, c] bl 0 cap w hs ha
  | true =>
    have ha' : (Vl.mk k n q s).ok = true := ha
    cases hb' : (b.ok && c.ok) with
    | false =>
      have e : alikeE3 ⟨k, n, q, s⟩ b c = 1 := by rw [alikeE3, ha', Bool.true_and, hb']; rfl
      rw [e]; exact alike_1' k n q s [b, c] bl 0 cap w hs ha hA (by simp) hb (vl2 hs' hs'') (by
        intro h
        have h1 := h b (by simp)
        have h2 := h c (by simp)
        rw [h1, h2] at hb'; cases hb')
    | true =>
      have hbc : b.ok = true ∧ c.ok = true := by simpa using hb'
      cases hk : (b.is k && c.is k) with
      | false =>
        have e : alikeE3 ⟨k, n, q, s⟩ b c = 10 := by rw [alikeE3, ha', Bool.true_and, hb', hk]; rfl
        rw [e]; exact alike_10 k n q s [b, c] bl 0 cap w hs ha hA (by simp) hb (vl2 hs' hs'') (vl2 hbc.1 hbc.2) (by
          intro h
          have h1 := h b (by simp)
          have h2 := h c (by simp)
          rw [h1, h2] at hk; cases hk)
      | true =>
        have hkk : b.is k = true ∧ c.is k = true := by simpa using hk
        have e : alikeE3 ⟨k, n, q, s⟩ b c = 0 := by rw [alikeE3, ha', Bool.true_and, hb', hk]; rfl
        rw [e]; exact alike_ok k n q s [b, c] bl 0 cap w hs ha hA (by simp) hb (vl2 hs' hs'') (vl2 hbc.1 hbc.2) (vl2 hkk.1 hkk.2)
end Go.Proofs.YtljbkpnfjgnhnaaDoor
