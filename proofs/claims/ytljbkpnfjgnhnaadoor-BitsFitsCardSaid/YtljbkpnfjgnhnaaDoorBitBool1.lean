/- Package bits: demandKind of one bit string and of two; Some, Every, Not. -/
import Derived.Test.YtljbkpnfjgnhnaaDoorBitDem3
import Derived.Test.YtljbkpnfjgnhnaaDoorBitFitP
import Derived.Test.YtljbkpnfjgnhnaaDoorBitRefE
import Derived.Test.YtljbkpnfjgnhnaaDoorBitLib
namespace Go.Proofs.YtljbkpnfjgnhnaaDoor
open Go.RowKit

theorem demKind1_any (a : Vl) (bl cap : Nat) (w : World) (hs : a.s.size ≤ maxLen) (hA : VlsAt w bl 0 [a]) (hb : bl < w.heap.size) :
    Calls Tryd.prog 28 #[.iface 76 (.agg #[]), .slice (some ⟨bl, 0, none⟩) 1 cap] w fun e w' => e = outE (kindE1 5 a) (.tuple #[]) ∧ Below w.heap.size w w' := by
  cases ho : a.ok with
  | false =>
    have e : kindE1 5 a = 1 := by rw [kindE1, ho]; rfl
    rw [e]; exact demKind_1 5 [a] bl 0 cap w hA (by simp) hb (vl1 hs) (by simp [ho])
  | true =>
    cases hk : a.is 5 with
    | false =>
      have e : kindE1 5 a = 10 := by rw [kindE1, ho, hk]; rfl
      rw [e]; exact demKind_10 5 (.inr rfl) [a] bl 0 cap w hA (by simp) hb (vl1 hs) (vl1 ho) (by simp [hk])
    | true =>
      have e : kindE1 5 a = 0 := by rw [kindE1, ho, hk]; rfl
      rw [e]; exact demKind_yes 5 (.inr rfl) [a] bl 0 cap w hA (by simp) hb (vl1 hs) (vl1 ho) (vl1 hk)

theorem demKind2_any (a b : Vl) (bl cap : Nat) (w : World) (hs : a.s.size ≤ maxLen) (hs' : b.s.size ≤ maxLen) (hA : VlsAt w bl 0 [a, b]) (hb : bl < w.heap.size) :
    Calls Tryd.prog 28 #[.iface 76 (.agg #[]), .slice (some ⟨bl, 0, none⟩) 2 cap] w fun e w' => e = outE (kindE2 5 a b) (.tuple #[]) ∧ Below w.heap.size w w' := by
  cases ho : (a.ok && b.ok) with
  | false =>
    have e : kindE2 5 a b = 1 := by rw [kindE2, ho]; rfl
    rw [e]; exact demKind_1 5 [a, b] bl 0 cap w hA (by simp) hb (vl2 hs hs') (by
      intro h
      have h1 := h a (by simp)
      have h2 := h b (by simp)
      rw [h1, h2] at ho; cases ho)
  | true =>
    have hab : a.ok = true ∧ b.ok = true := by simpa using ho
    cases hk : (a.is 5 && b.is 5) with
    | false =>
      have e : kindE2 5 a b = 10 := by rw [kindE2, ho, hk]; rfl
      rw [e]; exact demKind_10 5 (.inr rfl) [a, b] bl 0 cap w hA (by simp) hb (vl2 hs hs') (vl2 hab.1 hab.2) (by
        intro h
        have h1 := h a (by simp)
        have h2 := h b (by simp)
        rw [h1, h2] at hk; cases hk)
    | true =>
      have hkk : a.is 5 = true ∧ b.is 5 = true := by simpa using hk
      have e : kindE2 5 a b = 0 := by rw [kindE2, ho, hk]; rfl
      rw [e]; exact demKind_yes 5 (.inr rfl) [a, b] bl 0 cap w hA (by simp) hb (vl2 hs hs') (vl2 hab.1 hab.2) (vl2 hkk.1 hkk.2)

def someB (a : Vl) : Bool := a.s.data.toList.contains 49
def zeroB (a : Vl) : Bool := a.s.data.toList.contains 48
def everyB (a : Vl) : Bool := !zeroB a

theorem notL_tell (s : ByteArray) : notL s.data.toList = tellL s.size (fun i => if getF 5 s.data.toList i = 48 then 49 else 48) := by unfold notL; rw [lsz]
end Go.Proofs.YtljbkpnfjgnhnaaDoor
