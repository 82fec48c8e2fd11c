/-
  DERIVED. GIVEN WITH THE SEED: THE CARDS: each row of YtbjnglfapgpncaaGreatDoorRows.lean that lists a variable, with what it lists TIED to the program's text (the seventh form; the later family's looks); each row that meets fmt, with fmt's text TOLD by the authors' own Lean function (tested against real Go, not proved from fmt's source: count such statements apart). THE CARD IS WHAT COUNTS. Prove the row's statement (the work); the ties are given (YtbjnglfapgpncaaGreatDoorTie.lean); close each card by the builder's one call (the guide's Derived/Test/ToyasCard.lean, 'card_holds'). Laid BY PROGRAM, IN A SANDBOX (cutbox-door.mjs). By AI agents, Wed Nov 11 2026. No macro, syntax, notation, axiom, sorry.
-/
import Derived.Test.YtbjnglfapgpncaaGreatDoorRows
import GoSem.ClaimSeven
namespace Go.Proofs.YtbjnglfapgpncaaGreatDoor
namespace Rows

/-- THE TIED CARD OF 'ironbarklaw02.RuleRoom'. -/
def ruleRoomCard : Claim7 := { stood := { row := ruleRoomRow, standIns := [], harness := (true, "6389fae22b9cb6a4aa981f2bdf5a712c5a0e43409030c49ab6f294c8112f1e40"), looks := true }, kinds := [], alts := [], laidByText := true, laidKinds := [.data, .data, .data, .data, .pinned], laidTests := true, laidLooks := .later }
def RuleRoomCardSaid : Prop := Claim7.holds Tryz.pinned (.plain (OpenSpec.ofChange ruleRoomSpec)) ruleRoomCard

/-- THE SECOND FORM's CARD OF 'ironbarklaw02.RuleRoom'. -/
def ruleRoomUptoCard : Claim7 := { stood := { row := ruleRoomUptoRow, standIns := [], harness := (true, "6389fae22b9cb6a4aa981f2bdf5a712c5a0e43409030c49ab6f294c8112f1e40"), looks := true }, kinds := [], alts := [], laidByText := true, laidKinds := [.data, .data, .data, .data, .pinned], laidTests := true, laidLooks := .later }
def RuleRoomUptoCardSaid : Prop := Claim7.holds Tryz.pinned (.plain (OpenSpec.upto ruleRoomSpec)) ruleRoomUptoCard
end Rows
end Go.Proofs.YtbjnglfapgpncaaGreatDoor
