/-
  DERIVED. GIVEN WITH THE SEED: THE CARDS: each row of YtpdoddhieblooaaGreatDoorRows.lean that lists a variable, with what it lists TIED to the program's text (the seventh form; the later family's looks); each row that meets fmt, with fmt's text TOLD by the authors' own Lean function (tested against real Go, not proved from fmt's source: count such statements apart). THE CARD IS WHAT COUNTS. Prove the row's statement (the work); the ties are given (YtpdoddhieblooaaGreatDoorTie.lean); close each card by the builder's one call (the guide's Derived/Test/ToyasCard.lean, 'card_holds'). Laid BY PROGRAM, IN A SANDBOX (cutbox-door.mjs). By AI agents, Wed Nov 11 2026. No macro, syntax, notation, axiom, sorry.
-/
import Derived.Test.YtpdoddhieblooaaGreatDoorRows
import GoSem.ClaimSeven
namespace Go.Proofs.YtpdoddhieblooaaGreatDoor
namespace Rows

/-- THE TIED CARD OF 'ironbarklaw01.DigitTwo'. -/
def digitTwoCard : Claim7 := { stood := { row := digitTwoRow, standIns := [], harness := (true, "04195fba137801b7cad39361bdb0c8f1b20d0e26f9b6956e5e52a8a8a5e12a63"), looks := true }, kinds := [], alts := [], laidByText := true, laidKinds := [.data, .data, .data, .data, .pinned], laidTests := true, laidLooks := .later }
def DigitTwoCardSaid : Prop := Claim7.holds Tryz.pinned (.plain (OpenSpec.ofChange digitTwoSpec)) digitTwoCard

/-- THE SECOND FORM's CARD OF 'ironbarklaw01.DigitTwo'. -/
def digitTwoUptoCard : Claim7 := { stood := { row := digitTwoUptoRow, standIns := [], harness := (true, "04195fba137801b7cad39361bdb0c8f1b20d0e26f9b6956e5e52a8a8a5e12a63"), looks := true }, kinds := [], alts := [], laidByText := true, laidKinds := [.data, .data, .data, .data, .pinned], laidTests := true, laidLooks := .later }
def DigitTwoUptoCardSaid : Prop := Claim7.holds Tryz.pinned (.plain (OpenSpec.upto digitTwoSpec)) digitTwoUptoCard
end Rows
end Go.Proofs.YtpdoddhieblooaaGreatDoor
