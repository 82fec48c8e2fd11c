/- The document's Sub. -/
import Derived.Test.YtljbkpnfjgnhnaaDoorBitRefE
import Derived.Test.YtljbkpnfjgnhnaaDoorBitSub
import Derived.Test.YtljbkpnfjgnhnaaDoorBitCmp2
namespace Go.Proofs.YtljbkpnfjgnhnaaDoor
open Go.RowKit

theorem vl_room2 (a : Vl) (h : a.ok = true) : a.s.size ≤ 250 := by
  have := okT_len (okV_eq h).2.2; rwa [lsz] at this
theorem ext_one (s : ByteArray) (k : Nat) (h : k < s.size) : s.extract k (k + 1) = bsz [s[k]] := by
  have e : (s.extract k (k + 1)).data.toList = [s[k]] := by
    rw [Lib.extract_data, show k + 1 - k = 1 by omega, List.drop_eq_getElem_cons (by rw [lsz]; exact h)]
    rfl
  rw [← e]
theorem subTo_len (l : List UInt8) (i n : Int) (k : Nat) : (subTo l i n k).length ≤ l.length := by
  unfold subTo; simp; omega

end Go.Proofs.YtljbkpnfjgnhnaaDoor
