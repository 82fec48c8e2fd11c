/- The document's demand of layer 5, strings, with the error that it tells: of one string, of two, of three. -/
import Derived.Test.YtljbkpnfjgnhnaaDoorBitRef2
import Derived.Test.YtljbkpnfjgnhnaaDoorBitAlike
namespace Go.Proofs.YtljbkpnfjgnhnaaDoor
open Go.RowKit

def kindE1 (K : Int) (a : Vl) : Int := if a.ok then (if a.is K then 0 else 10) else 1
def kindE2 (K : Int) (a b : Vl) : Int := if a.ok && b.ok then (if a.is K && b.is K then 0 else 10) else 1
theorem kindE1_ok {K : Int} {a : Vl} (h : kindE1 K a = 0) : a.ok = true ∧ a.k = K := by
  unfold kindE1 at h
  split at h
  · rename_i h1
    split at h
    · rename_i h2; exact ⟨h1, by simpa [Vl.is] using h2⟩
    · cases h
  · cases h
theorem kindE2_ok {K : Int} {a b : Vl} (h : kindE2 K a b = 0) : a.ok = true ∧ b.ok = true ∧ a.k = K ∧ b.k = K := by
  unfold kindE2 at h
  split at h
  · rename_i h1
    simp only [Bool.and_eq_true] at h1
    split at h
    · rename_i h2
      simp only [Bool.and_eq_true] at h2
      exact ⟨h1.1, h1.2, by simpa [Vl.is] using h2.1, by simpa [Vl.is] using h2.2⟩
    · cases h
  · cases h

theorem rStr2_any (a b : Vl) (bl cap : Nat) (w : World) (hs : a.s.size ≤ maxLen) (hs' : b.s.size ≤ maxLen) (hA : VlsAt w bl 0 [a, b]) (hb : bl < w.heap.size) :
    Calls Tryd.prog 30 #[.slice (some ⟨bl, 0, none⟩) 2 cap, .int .i64 0] w fun e w' => e = .returned (.int .i64 (alikeE a b)) ∧ Below w.heap.size w w' := by
  cases ho : (a.ok && b.ok) with
  | false =>
    have e : alikeE a b = 1 := by rw [alikeE, ho]; rfl
    rw [e]; exact strs_1 0 [a, b] bl 0 cap w hA (by simp) hb (vl2 hs hs') (by
      intro h
      have h1 := h a (by simp)
      have h2 := h b (by simp)
      rw [h1, h2] at ho; cases ho)
  | true =>
    have hab : a.ok = true ∧ b.ok = true := by simpa using ho
    cases hk : b.is a.k with
    | false =>
      have e : alikeE a b = 10 := by rw [alikeE, ho, hk]; rfl
      rw [e]; exact strs_z10 a [a, b] bl 0 cap w hA (by simp) hb (vl2 hs hs') (vl2 hab.1 hab.2) rfl (by
        intro h
        have h2 := h b (by simp)
        simp only [Vl.alike, Bool.and_eq_true] at h2
        rw [Vl.is, h2.1] at hk; cases hk)
    | true =>
      have e : alikeE a b = 0 := by rw [alikeE, ho, hk]; rfl
      rw [e]; exact strs_zok a [a, b] bl 0 cap w hA (by simp) hb (vl2 hs hs') (vl2 hab.1 hab.2) rfl (vl2 (by simp [Vl.alike]) (by rw [Vl.is] at hk; simp [Vl.alike, hk]))

theorem rStr3_any (a b c : Vl) (bl cap : Nat) (w : World) (hs : a.s.size ≤ maxLen) (hs' : b.s.size ≤ maxLen) (hs'' : c.s.size ≤ maxLen) (hA : VlsAt w bl 0 [a, b, c]) (hb : bl < w.heap.size) :
    Calls Tryd.prog 30 #[.slice (some ⟨bl, 0, none⟩) 3 cap, .int .i64 0] w fun e w' => e = .returned (.int .i64 (alikeE3 a b c)) ∧ Below w.heap.size w w' := by
  cases ho : (a.ok && b.ok && c.ok) with
  | false =>
    have e : alikeE3 a b c = 1 := by rw [alikeE3, ho]; rfl
    rw [e]; exact strs_1 0 [a, b, c] bl 0 cap w hA (by simp) hb (vl3 hs hs' hs'') (by
      intro h
      have h1 := h a (by simp)
      have h2 := h b (by simp)
      have h3 := h c (by simp)
      rw [h1, h2, h3] at ho; cases ho)
  | true =>
    have hab : (a.ok = true ∧ b.ok = true) ∧ c.ok = true := by simpa using ho
    cases hk : (b.is a.k && c.is a.k) with
    | false =>
      have e : alikeE3 a b c = 10 := by rw [alikeE3, ho, hk]; rfl
      rw [e]; exact strs_z10 a [a, b, c] bl 0 cap w hA (by simp) hb (vl3 hs hs' hs'') (vl3 hab.1.1 hab.1.2 hab.2) rfl (by
        intro h
        have h2 := h b (by simp)
        have h3 := h c (by simp)
        simp only [Vl.alike, Bool.and_eq_true] at h2 h3
        rw [Vl.is, Vl.is, h2.1, h3.1] at hk; cases hk)
    | true =>
      have e : alikeE3 a b c = 0 := by rw [alikeE3, ho, hk]; rfl
      have hkk : b.is a.k = true ∧ c.is a.k = true := by simpa using hk
      rw [Vl.is, Vl.is] at hkk
      rw [e]; exact strs_zok a [a, b, c] bl 0 cap w hA (by simp) hb (vl3 hs hs' hs'') (vl3 hab.1.1 hab.1.2 hab.2) rfl (vl3 (by simp [Vl.alike]) (by simp [Vl.alike, hkk.1]) (by simp [Vl.alike, hkk.2]))

theorem rStr1k_any (K : Int) (hK : K ≠ 0) (a : Vl) (bl cap : Nat) (w : World) (hs : a.s.size ≤ maxLen) (hA : VlsAt w bl 0 [a]) (hb : bl < w.heap.size) :
    Calls Tryd.prog 30 #[.slice (some ⟨bl, 0, none⟩) 1 cap, .int .i64 K] w fun e w' => e = .returned (.int .i64 (kindE1 K a)) ∧ Below w.heap.size w w' := by
  cases ho : a.ok with
  | false =>
    have e : kindE1 K a = 1 := by rw [kindE1, ho]; rfl
    rw [e]; exact strs_1 K [a] bl 0 cap w hA (by simp) hb (vl1 hs) (by simp [ho])
  | true =>
    cases hk : a.is K with
    | false =>
      have e : kindE1 K a = 10 := by rw [kindE1, ho, hk]; rfl
      rw [e]; exact strs_k10 K a [a] bl 0 cap w hA (by simp) hb (vl1 hs) (vl1 ho) rfl hK (by
        rw [Vl.is] at hk
        simp [Vl.alike, hK]
        simpa using hk)
    | true =>
      have e : kindE1 K a = 0 := by rw [kindE1, ho, hk]; rfl
      rw [Vl.is] at hk
      rw [e]; exact strs_kok K a [a] bl 0 cap w hA (by simp) hb (vl1 hs) (vl1 ho) rfl hK (vl1 (by simp [Vl.alike, hk]))

theorem rStr2k_any (K : Int) (hK : K ≠ 0) (a b : Vl) (bl cap : Nat) (w : World) (hs : a.s.size ≤ maxLen) (hs' : b.s.size ≤ maxLen) (hA : VlsAt w bl 0 [a, b]) (hb : bl < w.heap.size) :
    Calls Tryd.prog 30 #[.slice (some ⟨bl, 0, none⟩) 2 cap, .int .i64 K] w fun e w' => e = .returned (.int .i64 (kindE2 K a b)) ∧ Below w.heap.size w w' := by
  cases ho : (a.ok && b.ok) with
  | false =>
    have e : kindE2 K a b = 1 := by rw [kindE2, ho]; rfl
    rw [e]; exact strs_1 K [a, b] bl 0 cap w hA (by simp) hb (vl2 hs hs') (by
      intro h
      have h1 := h a (by simp)
      have h2 := h b (by simp)
      rw [h1, h2] at ho; cases ho)
  | true =>
    have hab : a.ok = true ∧ b.ok = true := by simpa using ho
    cases hk : (a.is K && b.is K) with
    | false =>
      have e : kindE2 K a b = 10 := by rw [kindE2, ho, hk]; rfl
      rw [e]; exact strs_k10 K a [a, b] bl 0 cap w hA (by simp) hb (vl2 hs hs') (vl2 hab.1 hab.2) rfl hK (by
        intro h
        have h1 := h a (by simp)
        have h2 := h b (by simp)
        have h0 : (K == 0) = false := by simpa using hK
        simp only [Vl.alike, h0, Bool.false_or, Bool.and_eq_true] at h1 h2
        rw [Vl.is, Vl.is, h1.2, h2.2] at hk; cases hk)
    | true =>
      have e : kindE2 K a b = 0 := by rw [kindE2, ho, hk]; rfl
      have hkk : a.is K = true ∧ b.is K = true := by simpa using hk
      have h1 : a.k = K := by simpa [Vl.is] using hkk.1
      have h2 : b.k = K := by simpa [Vl.is] using hkk.2
      rw [e]; exact strs_kok K a [a, b] bl 0 cap w hA (by simp) hb (vl2 hs hs') (vl2 hab.1 hab.2) rfl hK (vl2 (by simp [Vl.alike, h1]) (by simp [Vl.alike, h1, h2]))
end Go.Proofs.YtljbkpnfjgnhnaaDoor
