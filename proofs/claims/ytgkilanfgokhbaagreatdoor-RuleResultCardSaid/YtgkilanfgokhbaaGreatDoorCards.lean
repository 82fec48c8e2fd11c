/-
  DERIVED. GIVEN WITH THE SEED: THE CARDS: each row of YtgkilanfgokhbaaGreatDoorRows.lean that lists a variable, with what it lists TIED to the program's text (the seventh form; the later family's looks); each row that meets fmt, with fmt's text TOLD by the authors' own Lean function (tested against real Go, not proved from fmt's source: count such statements apart). THE CARD IS WHAT COUNTS. Prove the row's statement (the work); the ties are given (YtgkilanfgokhbaaGreatDoorTie.lean); close each card by the builder's one call (the guide's Derived/Test/ToyasCard.lean, 'card_holds'). Laid BY PROGRAM, IN A SANDBOX (cutbox-door.mjs). By AI agents, Wed Nov 11 2026. No macro, syntax, notation, axiom, sorry.
-/
import Derived.Test.YtgkilanfgokhbaaGreatDoorRows
import GoSem.ClaimSeven
namespace Go.Proofs.YtgkilanfgokhbaaGreatDoor
namespace Rows

/-- THE TIED CARD OF 'ironbarklaw02.RuleTurns'. -/
def ruleTurnsCard : Claim7 := { stood := { row := ruleTurnsRow, standIns := [], harness := (true, "f9fc9cbfe7c62718cf5d2fb3cbd6bbfad17e53d16ecfdc9628cd87868f710159"), looks := true }, kinds := [], alts := [], laidByText := true, laidKinds := [.data, .data, .data, .data, .pinned], laidTests := true, laidLooks := .later }
def RuleTurnsCardSaid : Prop := Claim7.holds Tryz.pinned (.plain (OpenSpec.ofChange ruleTurnsSpec)) ruleTurnsCard

/-- THE TIED CARD OF 'ironbarklaw02.RuleResult'. -/
def ruleResultCard : Claim7 := { stood := { row := ruleResultRow, standIns := [], harness := (true, "f9fc9cbfe7c62718cf5d2fb3cbd6bbfad17e53d16ecfdc9628cd87868f710159"), looks := true }, kinds := [], alts := [], laidByText := true, laidKinds := [.data, .data, .data, .data, .pinned], laidTests := true, laidLooks := .later }
def RuleResultCardSaid : Prop := Claim7.holds Tryz.pinned (.plain (OpenSpec.ofChange ruleResultSpec)) ruleResultCard

/-- THE TIED CARD OF 'ironbarklaw02.RuleCommon'. -/
def ruleCommonCard : Claim7 := { stood := { row := ruleCommonRow, standIns := [], harness := (true, "f9fc9cbfe7c62718cf5d2fb3cbd6bbfad17e53d16ecfdc9628cd87868f710159"), looks := true }, kinds := [], alts := [], laidByText := true, laidKinds := [.data, .data, .data, .data, .pinned], laidTests := true, laidLooks := .later }
def RuleCommonCardSaid : Prop := Claim7.holds Tryz.pinned (.plain (OpenSpec.ofChange ruleCommonSpec)) ruleCommonCard

/-- THE TIED CARD OF 'ironbarklaw02.RuleRoom'. -/
def ruleRoomCard : Claim7 := { stood := { row := ruleRoomRow, standIns := [], harness := (true, "f9fc9cbfe7c62718cf5d2fb3cbd6bbfad17e53d16ecfdc9628cd87868f710159"), looks := true }, kinds := [], alts := [], laidByText := true, laidKinds := [.data, .data, .data, .data, .pinned], laidTests := true, laidLooks := .later }
def RuleRoomCardSaid : Prop := Claim7.holds Tryz.pinned (.plain (OpenSpec.ofChange ruleRoomSpec)) ruleRoomCard

/-- THE TIED CARD OF 'ironbarklaw02.RuleTexts'. -/
def ruleTextsCard : Claim7 := { stood := { row := ruleTextsRow, standIns := [], harness := (true, "f9fc9cbfe7c62718cf5d2fb3cbd6bbfad17e53d16ecfdc9628cd87868f710159"), looks := true }, kinds := [], alts := [], laidByText := true, laidKinds := [.data, .data, .data, .data, .sentinel, .sentinel, .pinned], laidTests := true, laidLooks := .later }
def RuleTextsCardSaid : Prop := Claim7.holds Tryz.pinned (.plain (OpenSpec.ofChange ruleTextsSpec)) ruleTextsCard

/-- THE SECOND FORM's CARD OF 'ironbarklaw02.RuleTurns'. -/
def ruleTurnsUptoCard : Claim7 := { stood := { row := ruleTurnsUptoRow, standIns := [], harness := (true, "f9fc9cbfe7c62718cf5d2fb3cbd6bbfad17e53d16ecfdc9628cd87868f710159"), looks := true }, kinds := [], alts := [], laidByText := true, laidKinds := [.data, .data, .data, .data, .pinned], laidTests := true, laidLooks := .later }
def RuleTurnsUptoCardSaid : Prop := Claim7.holds Tryz.pinned (.plain (OpenSpec.upto ruleTurnsSpec)) ruleTurnsUptoCard

/-- THE SECOND FORM's CARD OF 'ironbarklaw02.RuleResult'. -/
def ruleResultUptoCard : Claim7 := { stood := { row := ruleResultUptoRow, standIns := [], harness := (true, "f9fc9cbfe7c62718cf5d2fb3cbd6bbfad17e53d16ecfdc9628cd87868f710159"), looks := true }, kinds := [], alts := [], laidByText := true, laidKinds := [.data, .data, .data, .data, .pinned], laidTests := true, laidLooks := .later }
def RuleResultUptoCardSaid : Prop := Claim7.holds Tryz.pinned (.plain (OpenSpec.upto ruleResultSpec)) ruleResultUptoCard

/-- THE SECOND FORM's CARD OF 'ironbarklaw02.RuleCommon'. -/
def ruleCommonUptoCard : Claim7 := { stood := { row := ruleCommonUptoRow, standIns := [], harness := (true, "f9fc9cbfe7c62718cf5d2fb3cbd6bbfad17e53d16ecfdc9628cd87868f710159"), looks := true }, kinds := [], alts := [], laidByText := true, laidKinds := [.data, .data, .data, .data, .pinned], laidTests := true, laidLooks := .later }
def RuleCommonUptoCardSaid : Prop := Claim7.holds Tryz.pinned (.plain (OpenSpec.upto ruleCommonSpec)) ruleCommonUptoCard

/-- THE SECOND FORM's CARD OF 'ironbarklaw02.RuleRoom'. -/
def ruleRoomUptoCard : Claim7 := { stood := { row := ruleRoomUptoRow, standIns := [], harness := (true, "f9fc9cbfe7c62718cf5d2fb3cbd6bbfad17e53d16ecfdc9628cd87868f710159"), looks := true }, kinds := [], alts := [], laidByText := true, laidKinds := [.data, .data, .data, .data, .pinned], laidTests := true, laidLooks := .later }
def RuleRoomUptoCardSaid : Prop := Claim7.holds Tryz.pinned (.plain (OpenSpec.upto ruleRoomSpec)) ruleRoomUptoCard

/-- THE SECOND FORM's CARD OF 'ironbarklaw02.RuleTexts'. -/
def ruleTextsUptoCard : Claim7 := { stood := { row := ruleTextsUptoRow, standIns := [], harness := (true, "f9fc9cbfe7c62718cf5d2fb3cbd6bbfad17e53d16ecfdc9628cd87868f710159"), looks := true }, kinds := [], alts := [], laidByText := true, laidKinds := [.data, .data, .data, .data, .sentinel, .sentinel, .pinned], laidTests := true, laidLooks := .later }
def RuleTextsUptoCardSaid : Prop := Claim7.holds Tryz.pinned (.plain (OpenSpec.upto ruleTextsSpec)) ruleTextsUptoCard
end Rows
end Go.Proofs.YtgkilanfgokhbaaGreatDoor
