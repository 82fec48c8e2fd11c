/- What a value of a type is, exactly; ironbarkref01.Has, of any type and value. -/
import Derived.Test.YtpdoddhieblooaaGreatDoorKGood
import Derived.Test.YtpdoddhieblooaaGreatDoorKFtOutB
namespace Go.Proofs.YtpdoddhieblooaaGreatDoor
open Go.RowKit

theorem gvalidB (b : Bool) (k p q n : Int) (vy : Bool) (pic : ByteArray) (w : World) (hs : pic.size ≤ maxLen) (h : validS k p q n vy pic = b) :
   Calls Tryz.prog 65 #[tyV k p q n vy pic] w fun e w' => e = .returned (.bool b) ∧ Below w.heap.size w w' := by subst h; exact refValid_any k p q n vy pic w hs
end Go.Proofs.YtpdoddhieblooaaGreatDoor
