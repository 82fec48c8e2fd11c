/- Package bits: Index, Tally, Verify, Search. -/
import Derived.Test.YtljbkpnfjgnhnaaDoorBitAlike
import Derived.Test.YtljbkpnfjgnhnaaDoorBitAsk
namespace Go.Proofs.YtljbkpnfjgnhnaaDoor
open Go.RowKit

theorem vl_le {a : Vl} (h : a.ok = true) : a.s.size ≤ 100000 := by
  have := okT_len (okV_eq h).2.2; rw [lsz] at this; omega


def indexV (a b : Vl) : Int := leastN (begsP a.s.data.toList b.s.data.toList) a.s.size
def tallyV (a b : Vl) : Int := manyN (begsP a.s.data.toList b.s.data.toList) a.s.size
def verifyV (a b : Vl) : Int := leastN (notP (inP a.s.data.toList b.s.data.toList)) a.s.size
def searchV (a b : Vl) : Int := leastN (inP a.s.data.toList b.s.data.toList) a.s.size
end Go.Proofs.YtljbkpnfjgnhnaaDoor
