/-
  DERIVED. GIVEN WITH THE SEED: THE CARDS: each row of YtllpldndkojagaaGreatDoorRows.lean that lists a variable, with what it lists TIED to the program's text (the seventh form; the later family's looks); each row that meets fmt, with fmt's text TOLD by the authors' own Lean function (tested against real Go, not proved from fmt's source: count such statements apart). THE CARD IS WHAT COUNTS. Prove the row's statement (the work); the ties are given (YtllpldndkojagaaGreatDoorTie.lean); close each card by the builder's one call (the guide's Derived/Test/ToyasCard.lean, 'card_holds'). Laid BY PROGRAM, IN A SANDBOX (cutbox-door.mjs). By AI agents, Wed Nov 11 2026. No macro, syntax, notation, axiom, sorry.
-/
import Derived.Test.YtllpldndkojagaaGreatDoorRows
import GoSem.ClaimSeven
namespace Go.Proofs.YtllpldndkojagaaGreatDoor
namespace Rows

/-- THE TIED CARD OF 'ironbarklaw01.DigitExact'. -/
def digitExactCard : Claim7 := { stood := { row := digitExactRow, standIns := [], harness := (true, "65cdd2a0fa59994685f4baec27f77694c53e43992ee280857397f23915de116e"), looks := true }, kinds := [], alts := [], laidByText := true, laidKinds := [.data, .data, .data, .data, .pinned], laidTests := true, laidLooks := .later }
def DigitExactCardSaid : Prop := Claim7.holds Tryz.pinned (.plain (OpenSpec.ofChange digitExactSpec)) digitExactCard

/-- THE SECOND FORM's CARD OF 'ironbarklaw01.DigitExact'. -/
def digitExactUptoCard : Claim7 := { stood := { row := digitExactUptoRow, standIns := [], harness := (true, "65cdd2a0fa59994685f4baec27f77694c53e43992ee280857397f23915de116e"), looks := true }, kinds := [], alts := [], laidByText := true, laidKinds := [.data, .data, .data, .data, .pinned], laidTests := true, laidLooks := .later }
def DigitExactUptoCardSaid : Prop := Claim7.holds Tryz.pinned (.plain (OpenSpec.upto digitExactSpec)) digitExactUptoCard
end Rows
end Go.Proofs.YtllpldndkojagaaGreatDoor
