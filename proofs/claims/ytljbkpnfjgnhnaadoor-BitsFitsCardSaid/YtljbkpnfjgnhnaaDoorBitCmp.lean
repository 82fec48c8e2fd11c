/- Package bits: Compare; the document's Filled and Compare. -/
import Derived.Test.YtljbkpnfjgnhnaaDoorBitFind
import Derived.Test.YtljbkpnfjgnhnaaDoorBitTell3
import Derived.Test.YtljbkpnfjgnhnaaDoorBitRefE
import Derived.Laws.Concat
namespace Go.Proofs.YtljbkpnfjgnhnaaDoor
open Go.RowKit

theorem ret_str2 {a b : ByteArray} (h : a = b) : Ending.returned (.string a) = .returned (.string b) := by rw [h]
end Go.Proofs.YtljbkpnfjgnhnaaDoor
