/- Package bits: Sub. -/
import Derived.Test.YtljbkpnfjgnhnaaDoorBitPart
import Derived.Test.YtljbkpnfjgnhnaaDoorBitFind
import Derived.Test.YtljbkpnfjgnhnaaDoorBitDem3
namespace Go.Proofs.YtljbkpnfjgnhnaaDoor
open Go.RowKit

/- Sub -/
def subE (a : Vl) (i m : Int) : Int := if a.ok then (if plainI i && plainI m then 0 else 7) else 1
theorem subE_ok {a : Vl} {i m : Int} (h : subE a i m = 0) : a.ok = true ∧ plainI i = true ∧ plainI m = true := by
  unfold subE at h
  split at h
  · rename_i h1
    split at h
    · rename_i h2
      simp only [Bool.and_eq_true] at h2
      exact ⟨h1, h2.1, h2.2⟩
    · cases h
  · cases h

theorem plain_in {i : Int} (h : plainI i = true) : -2000000000 ≤ i ∧ i ≤ 2000000000 := by have := plainI_yes h; omega
def subV (a : Vl) (i m : Int) : Value := tkV a.k 0 0 (bsz (subL a.s.data.toList i m)) (partC a.s.data.toList i m)

/-- What a call tells with an error. -/
def orV (E : Int) (k : Int) (l : List UInt8) : Value := vlV (if E = 0 then k else 0) 0 0 (if E = 0 then bsz l else ⟨#[]⟩)
def orI (E : Int) (c : Int) : Int := if E = 0 then c else 0

end Go.Proofs.YtljbkpnfjgnhnaaDoor
