/-
  DERIVED. GIVEN WITH THE SEED: THE CARDS: each row of YtcekphfmpjdbmaaGreatDoorRows.lean that lists a variable, with what it lists TIED to the program's text (the seventh form; the later family's looks); each row that meets fmt, with fmt's text TOLD by the authors' own Lean function (tested against real Go, not proved from fmt's source: count such statements apart). THE CARD IS WHAT COUNTS. Prove the row's statement (the work); the ties are given (YtcekphfmpjdbmaaGreatDoorTie.lean); close each card by the builder's one call (the guide's Derived/Test/ToyasCard.lean, 'card_holds'). Laid BY PROGRAM, IN A SANDBOX (cutbox-door.mjs). By AI agents, Wed Nov 11 2026. No macro, syntax, notation, axiom, sorry.
-/
import Derived.Test.YtcekphfmpjdbmaaGreatDoorRows
import GoSem.ClaimSeven
namespace Go.Proofs.YtcekphfmpjdbmaaGreatDoor
namespace Rows

/-- THE TIED CARD OF 'ironbarklaw02.RuleTurns'. -/
def ruleTurnsCard : Claim7 := { stood := { row := ruleTurnsRow, standIns := [], harness := (true, "fa6b544a109cf335ae7655297581eea649f95cfd7cfcc1d31215af71d702f38f"), looks := true }, kinds := [], alts := [], laidByText := true, laidKinds := [.data, .data, .data, .data, .pinned], laidTests := true, laidLooks := .later }
def RuleTurnsCardSaid : Prop := Claim7.holds Tryz.pinned (.plain (OpenSpec.ofChange ruleTurnsSpec)) ruleTurnsCard

/-- THE TIED CARD OF 'ironbarklaw02.RuleResult'. -/
def ruleResultCard : Claim7 := { stood := { row := ruleResultRow, standIns := [], harness := (true, "fa6b544a109cf335ae7655297581eea649f95cfd7cfcc1d31215af71d702f38f"), looks := true }, kinds := [], alts := [], laidByText := true, laidKinds := [.data, .data, .data, .data, .pinned], laidTests := true, laidLooks := .later }
def RuleResultCardSaid : Prop := Claim7.holds Tryz.pinned (.plain (OpenSpec.ofChange ruleResultSpec)) ruleResultCard

/-- THE TIED CARD OF 'ironbarklaw02.RuleCommon'. -/
def ruleCommonCard : Claim7 := { stood := { row := ruleCommonRow, standIns := [], harness := (true, "fa6b544a109cf335ae7655297581eea649f95cfd7cfcc1d31215af71d702f38f"), looks := true }, kinds := [], alts := [], laidByText := true, laidKinds := [.data, .data, .data, .data, .pinned], laidTests := true, laidLooks := .later }
def RuleCommonCardSaid : Prop := Claim7.holds Tryz.pinned (.plain (OpenSpec.ofChange ruleCommonSpec)) ruleCommonCard

/-- THE TIED CARD OF 'ironbarklaw02.RuleRoom'. -/
def ruleRoomCard : Claim7 := { stood := { row := ruleRoomRow, standIns := [], harness := (true, "fa6b544a109cf335ae7655297581eea649f95cfd7cfcc1d31215af71d702f38f"), looks := true }, kinds := [], alts := [], laidByText := true, laidKinds := [.data, .data, .data, .data, .pinned], laidTests := true, laidLooks := .later }
def RuleRoomCardSaid : Prop := Claim7.holds Tryz.pinned (.plain (OpenSpec.ofChange ruleRoomSpec)) ruleRoomCard

/-- THE TIED CARD OF 'ironbarklaw02.RuleTexts'. -/
def ruleTextsCard : Claim7 := { stood := { row := ruleTextsRow, standIns := [], harness := (true, "fa6b544a109cf335ae7655297581eea649f95cfd7cfcc1d31215af71d702f38f"), looks := true }, kinds := [], alts := [], laidByText := true, laidKinds := [.data, .data, .data, .data, .sentinel, .sentinel, .pinned], laidTests := true, laidLooks := .later }
def RuleTextsCardSaid : Prop := Claim7.holds Tryz.pinned (.plain (OpenSpec.ofChange ruleTextsSpec)) ruleTextsCard

/-- THE TIED CARD OF 'ironbarklaw03.ArithCompares'. -/
def arithComparesCard : Claim7 := { stood := { row := arithComparesRow, standIns := [], harness := (true, "fa6b544a109cf335ae7655297581eea649f95cfd7cfcc1d31215af71d702f38f"), looks := true }, kinds := [], alts := [], laidByText := true, laidKinds := [.data, .data, .data, .data, .pinned], laidTests := true, laidLooks := .later }
def ArithComparesCardSaid : Prop := Claim7.holds Tryz.pinned (.plain (OpenSpec.ofChange arithComparesSpec)) arithComparesCard

/-- THE TIED CARD OF 'ironbarklaw03.ArithSums'. -/
def arithSumsCard : Claim7 := { stood := { row := arithSumsRow, standIns := [], harness := (true, "fa6b544a109cf335ae7655297581eea649f95cfd7cfcc1d31215af71d702f38f"), looks := true }, kinds := [], alts := [], laidByText := true, laidKinds := [.data, .data, .data, .data, .pinned], laidTests := true, laidLooks := .later }
def ArithSumsCardSaid : Prop := Claim7.holds Tryz.pinned (.plain (OpenSpec.ofChange arithSumsSpec)) arithSumsCard

/-- THE TIED CARD OF 'ironbarklaw03.ArithInverse'. -/
def arithInverseCard : Claim7 := { stood := { row := arithInverseRow, standIns := [], harness := (true, "fa6b544a109cf335ae7655297581eea649f95cfd7cfcc1d31215af71d702f38f"), looks := true }, kinds := [], alts := [], laidByText := true, laidKinds := [.data, .data, .data, .data, .pinned], laidTests := true, laidLooks := .later }
def ArithInverseCardSaid : Prop := Claim7.holds Tryz.pinned (.plain (OpenSpec.ofChange arithInverseSpec)) arithInverseCard

/-- THE SECOND FORM's CARD OF 'ironbarklaw02.RuleTurns'. -/
def ruleTurnsUptoCard : Claim7 := { stood := { row := ruleTurnsUptoRow, standIns := [], harness := (true, "fa6b544a109cf335ae7655297581eea649f95cfd7cfcc1d31215af71d702f38f"), looks := true }, kinds := [], alts := [], laidByText := true, laidKinds := [.data, .data, .data, .data, .pinned], laidTests := true, laidLooks := .later }
def RuleTurnsUptoCardSaid : Prop := Claim7.holds Tryz.pinned (.plain (OpenSpec.upto ruleTurnsSpec)) ruleTurnsUptoCard

/-- THE SECOND FORM's CARD OF 'ironbarklaw02.RuleResult'. -/
def ruleResultUptoCard : Claim7 := { stood := { row := ruleResultUptoRow, standIns := [], harness := (true, "fa6b544a109cf335ae7655297581eea649f95cfd7cfcc1d31215af71d702f38f"), looks := true }, kinds := [], alts := [], laidByText := true, laidKinds := [.data, .data, .data, .data, .pinned], laidTests := true, laidLooks := .later }
def RuleResultUptoCardSaid : Prop := Claim7.holds Tryz.pinned (.plain (OpenSpec.upto ruleResultSpec)) ruleResultUptoCard

/-- THE SECOND FORM's CARD OF 'ironbarklaw02.RuleCommon'. -/
def ruleCommonUptoCard : Claim7 := { stood := { row := ruleCommonUptoRow, standIns := [], harness := (true, "fa6b544a109cf335ae7655297581eea649f95cfd7cfcc1d31215af71d702f38f"), looks := true }, kinds := [], alts := [], laidByText := true, laidKinds := [.data, .data, .data, .data, .pinned], laidTests := true, laidLooks := .later }
def RuleCommonUptoCardSaid : Prop := Claim7.holds Tryz.pinned (.plain (OpenSpec.upto ruleCommonSpec)) ruleCommonUptoCard

/-- THE SECOND FORM's CARD OF 'ironbarklaw02.RuleRoom'. -/
def ruleRoomUptoCard : Claim7 := { stood := { row := ruleRoomUptoRow, standIns := [], harness := (true, "fa6b544a109cf335ae7655297581eea649f95cfd7cfcc1d31215af71d702f38f"), looks := true }, kinds := [], alts := [], laidByText := true, laidKinds := [.data, .data, .data, .data, .pinned], laidTests := true, laidLooks := .later }
def RuleRoomUptoCardSaid : Prop := Claim7.holds Tryz.pinned (.plain (OpenSpec.upto ruleRoomSpec)) ruleRoomUptoCard

/-- THE SECOND FORM's CARD OF 'ironbarklaw02.RuleTexts'. -/
def ruleTextsUptoCard : Claim7 := { stood := { row := ruleTextsUptoRow, standIns := [], harness := (true, "fa6b544a109cf335ae7655297581eea649f95cfd7cfcc1d31215af71d702f38f"), looks := true }, kinds := [], alts := [], laidByText := true, laidKinds := [.data, .data, .data, .data, .sentinel, .sentinel, .pinned], laidTests := true, laidLooks := .later }
def RuleTextsUptoCardSaid : Prop := Claim7.holds Tryz.pinned (.plain (OpenSpec.upto ruleTextsSpec)) ruleTextsUptoCard

/-- THE SECOND FORM's CARD OF 'ironbarklaw03.ArithCompares'. -/
def arithComparesUptoCard : Claim7 := { stood := { row := arithComparesUptoRow, standIns := [], harness := (true, "fa6b544a109cf335ae7655297581eea649f95cfd7cfcc1d31215af71d702f38f"), looks := true }, kinds := [], alts := [], laidByText := true, laidKinds := [.data, .data, .data, .data, .pinned], laidTests := true, laidLooks := .later }
def ArithComparesUptoCardSaid : Prop := Claim7.holds Tryz.pinned (.plain (OpenSpec.upto arithComparesSpec)) arithComparesUptoCard

/-- THE SECOND FORM's CARD OF 'ironbarklaw03.ArithSums'. -/
def arithSumsUptoCard : Claim7 := { stood := { row := arithSumsUptoRow, standIns := [], harness := (true, "fa6b544a109cf335ae7655297581eea649f95cfd7cfcc1d31215af71d702f38f"), looks := true }, kinds := [], alts := [], laidByText := true, laidKinds := [.data, .data, .data, .data, .pinned], laidTests := true, laidLooks := .later }
def ArithSumsUptoCardSaid : Prop := Claim7.holds Tryz.pinned (.plain (OpenSpec.upto arithSumsSpec)) arithSumsUptoCard

/-- THE SECOND FORM's CARD OF 'ironbarklaw03.ArithInverse'. -/
def arithInverseUptoCard : Claim7 := { stood := { row := arithInverseUptoRow, standIns := [], harness := (true, "fa6b544a109cf335ae7655297581eea649f95cfd7cfcc1d31215af71d702f38f"), looks := true }, kinds := [], alts := [], laidByText := true, laidKinds := [.data, .data, .data, .data, .pinned], laidTests := true, laidLooks := .later }
def ArithInverseUptoCardSaid : Prop := Claim7.holds Tryz.pinned (.plain (OpenSpec.upto arithInverseSpec)) arithInverseUptoCard
end Rows
end Go.Proofs.YtcekphfmpjdbmaaGreatDoor
