/-
  DERIVED. GIVEN WITH THE SEED: THE CARDS: each row of YtafhboppojeafaaGreatDoorRows.lean that lists a variable, with what it lists TIED to the program's text (the seventh form; the later family's looks); each row that meets fmt, with fmt's text TOLD by the authors' own Lean function (tested against real Go, not proved from fmt's source: count such statements apart). THE CARD IS WHAT COUNTS. Prove the row's statement (the work); the ties are given (YtafhboppojeafaaGreatDoorTie.lean); close each card by the builder's one call (the guide's Derived/Test/ToyasCard.lean, 'card_holds'). Laid BY PROGRAM, IN A SANDBOX (cutbox-door.mjs). By AI agents, Wed Nov 11 2026. No macro, syntax, notation, axiom, sorry.
-/
import Derived.Test.YtafhboppojeafaaGreatDoorRows
import GoSem.ClaimSeven
namespace Go.Proofs.YtafhboppojeafaaGreatDoor
namespace Rows

/-- THE TIED CARD OF 'ironbarklaw01.DigitDivided'. -/
def digitDividedCard : Claim7 := { stood := { row := digitDividedRow, standIns := [], harness := (true, "4bc683010eef9202aa1d9a184a33c91384a0446d9fdc22314bdcef8b222d8c59"), looks := true }, kinds := [], alts := [], laidByText := true, laidKinds := [.data, .data, .data, .data, .pinned], laidTests := true, laidLooks := .later }
def DigitDividedCardSaid : Prop := Claim7.holds Tryz.pinned (.plain (OpenSpec.ofChange digitDividedSpec)) digitDividedCard

/-- THE SECOND FORM's CARD OF 'ironbarklaw01.DigitDivided'. -/
def digitDividedUptoCard : Claim7 := { stood := { row := digitDividedUptoRow, standIns := [], harness := (true, "4bc683010eef9202aa1d9a184a33c91384a0446d9fdc22314bdcef8b222d8c59"), looks := true }, kinds := [], alts := [], laidByText := true, laidKinds := [.data, .data, .data, .data, .pinned], laidTests := true, laidLooks := .later }
def DigitDividedUptoCardSaid : Prop := Claim7.holds Tryz.pinned (.plain (OpenSpec.upto digitDividedSpec)) digitDividedUptoCard
end Rows
end Go.Proofs.YtafhboppojeafaaGreatDoor
