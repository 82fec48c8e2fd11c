/-
  DERIVED. GIVEN WITH THE SEED: THE CARDS: each row of YtjdgefgdekanjaaGreatDoorRows.lean that lists a variable, with what it lists TIED to the program's text (the seventh form; the later family's looks); each row that meets fmt, with fmt's text TOLD by the authors' own Lean function (tested against real Go, not proved from fmt's source: count such statements apart). THE CARD IS WHAT COUNTS. Prove the row's statement (the work); the ties are given (YtjdgefgdekanjaaGreatDoorTie.lean); close each card by the builder's one call (the guide's Derived/Test/ToyasCard.lean, 'card_holds'). Laid BY PROGRAM, IN A SANDBOX (cutbox-door.mjs). By AI agents, Wed Nov 11 2026. No macro, syntax, notation, axiom, sorry.
-/
import Derived.Test.YtjdgefgdekanjaaGreatDoorRows
import GoSem.ClaimSeven
namespace Go.Proofs.YtjdgefgdekanjaaGreatDoor
namespace Rows

/-- THE TIED CARD OF 'ironbarklaw01.DigitValid'. -/
def digitValidCard : Claim7 := { stood := { row := digitValidRow, standIns := [], harness := (true, "52d062d21875ae95ced03dec11de488ea085198033ca580b152987bf89abad1b"), looks := true }, kinds := [], alts := [], laidByText := true, laidKinds := [.data, .data, .data, .data, .pinned], laidTests := true, laidLooks := .later }
def DigitValidCardSaid : Prop := Claim7.holds Tryz.pinned (.plain (OpenSpec.ofChange digitValidSpec)) digitValidCard

/-- THE SECOND FORM's CARD OF 'ironbarklaw01.DigitValid'. -/
def digitValidUptoCard : Claim7 := { stood := { row := digitValidUptoRow, standIns := [], harness := (true, "52d062d21875ae95ced03dec11de488ea085198033ca580b152987bf89abad1b"), looks := true }, kinds := [], alts := [], laidByText := true, laidKinds := [.data, .data, .data, .data, .pinned], laidTests := true, laidLooks := .later }
def DigitValidUptoCardSaid : Prop := Claim7.holds Tryz.pinned (.plain (OpenSpec.upto digitValidSpec)) digitValidUptoCard
end Rows
end Go.Proofs.YtjdgefgdekanjaaGreatDoor
