/-
  DERIVED. GIVEN WITH THE SEED: THE CARDS: each row of YtoimgcjbcbhclaaGreatDoorRows.lean that lists a variable, with what it lists TIED to the program's text (the seventh form; the later family's looks); each row that meets fmt, with fmt's text TOLD by the authors' own Lean function (tested against real Go, not proved from fmt's source: count such statements apart). THE CARD IS WHAT COUNTS. Prove the row's statement (the work); the ties are given (YtoimgcjbcbhclaaGreatDoorTie.lean); close each card by the builder's one call (the guide's Derived/Test/ToyasCard.lean, 'card_holds'). Laid BY PROGRAM, IN A SANDBOX (cutbox-door.mjs). By AI agents, Wed Nov 11 2026. No macro, syntax, notation, axiom, sorry.
-/
import Derived.Test.YtoimgcjbcbhclaaGreatDoorRows
import GoSem.ClaimSeven
namespace Go.Proofs.YtoimgcjbcbhclaaGreatDoor
namespace Rows

/-- THE TIED CARD OF 'sloppykeep.TreeBack'. -/
def treeBackCard : Claim7 := { stood := { row := treeBackRow, standIns := [], harness := (true, "94a63c19e9212d2e83f7ae8259778cac17f666d387a9b448220702a9e3913d29"), looks := true }, kinds := [], alts := [], laidByText := true, laidKinds := [.data, .data, .data, .handle, .sentinel, .sentinel, .data, .data, .data, .data], laidTests := true, laidLooks := .later }
def TreeBackCardSaid : Prop := Claim7.holds Tryz.pinned (.plain (OpenSpec.ofChange treeBackSpec)) treeBackCard

/-- THE TIED CARD OF 'sloppylaw.HoistFree'. -/
def hoistFreeCard : Claim7 := { stood := { row := hoistFreeRow, standIns := [], harness := (true, "94a63c19e9212d2e83f7ae8259778cac17f666d387a9b448220702a9e3913d29"), looks := true }, kinds := [], alts := [], laidByText := true, laidKinds := [.data, .data, .data, .sentinel, .sentinel, .data, .data, .data, .widerDeep, .data, .data], laidTests := true, laidLooks := .later }
def HoistFreeCardSaid : Prop := Claim7.holds Tryz.pinned (.plain (OpenSpec.ofChange hoistFreeSpec)) hoistFreeCard

/-- THE TIED CARD OF 'sloppylaw.EarlyChecks'. -/
def earlyChecksCard : Claim7 := { stood := { row := earlyChecksRow, standIns := [], harness := (true, "94a63c19e9212d2e83f7ae8259778cac17f666d387a9b448220702a9e3913d29"), looks := true }, kinds := [], alts := [], laidByText := true, laidKinds := [.data, .data, .data, .handle, .sentinel, .sentinel, .data, .data, .data, .widerDeep, .data, .data], laidTests := true, laidLooks := .later }
def EarlyChecksCardSaid : Prop := Claim7.holds Tryz.pinned (.plain (OpenSpec.ofChange earlyChecksSpec)) earlyChecksCard

/-- THE TIED CARD OF 'sloppylaw.RunNumbers'. -/
def runNumbersCard : Claim7 := { stood := { row := runNumbersRow, standIns := [], harness := (true, "94a63c19e9212d2e83f7ae8259778cac17f666d387a9b448220702a9e3913d29"), looks := true }, kinds := [], alts := [], laidByText := true, laidKinds := [.data, .data, .data, .sentinel, .sentinel, .data, .data, .data, .widerDeep, .data, .data], laidTests := true, laidLooks := .later }
def RunNumbersCardSaid : Prop := Claim7.holds Tryz.pinned (.plain (OpenSpec.ofChange runNumbersSpec)) runNumbersCard

/-- THE TIED CARD OF 'sloppylaw.WhereTells'. -/
def whereTellsCard : Claim7 := { stood := { row := whereTellsRow, standIns := [], harness := (true, "94a63c19e9212d2e83f7ae8259778cac17f666d387a9b448220702a9e3913d29"), looks := true }, kinds := [], alts := [], laidByText := true, laidKinds := [.data, .data, .data, .sentinel, .sentinel, .data, .data, .data, .widerDeep, .data, .data], laidTests := true, laidLooks := .later }
def WhereTellsCardSaid : Prop := Claim7.holds Tryz.pinned (.plain (OpenSpec.ofChange whereTellsSpec)) whereTellsCard

/-- THE TIED CARD OF 'sloppykeep.WherePlain'. -/
def wherePlainCard : Claim7 := { stood := { row := wherePlainRow, standIns := [], harness := (true, "94a63c19e9212d2e83f7ae8259778cac17f666d387a9b448220702a9e3913d29"), looks := true }, kinds := [], alts := [], laidByText := true, laidKinds := [.data, .data, .data, .sentinel, .sentinel, .data, .data, .data, .data], laidTests := true, laidLooks := .later }
def WherePlainCardSaid : Prop := Claim7.holds Tryz.pinned (.plain (OpenSpec.ofChange wherePlainSpec)) wherePlainCard

/-- THE TIED CARD OF 'sloppylaw.AlphaOwns'. -/
def alphaOwnsCard : Claim7 := { stood := { row := alphaOwnsRow, standIns := [], harness := (true, "94a63c19e9212d2e83f7ae8259778cac17f666d387a9b448220702a9e3913d29"), looks := true }, kinds := [], alts := [], laidByText := true, laidKinds := [.data, .data, .data, .sentinel, .sentinel, .data, .data, .data, .widerDeep, .data, .data], laidTests := true, laidLooks := .later }
def AlphaOwnsCardSaid : Prop := Claim7.holds Tryz.pinned (.plain (OpenSpec.ofChange alphaOwnsSpec)) alphaOwnsCard

/-- THE TIED CARD OF 'sloppylaw.AlphaRenames'. -/
def alphaRenamesCard : Claim7 := { stood := { row := alphaRenamesRow, standIns := [], harness := (true, "94a63c19e9212d2e83f7ae8259778cac17f666d387a9b448220702a9e3913d29"), looks := true }, kinds := [], alts := [], laidByText := true, laidKinds := [.data, .data, .data, .handle, .sentinel, .sentinel, .data, .data, .data, .widerDeep, .data, .data], laidTests := true, laidLooks := .later }
def AlphaRenamesCardSaid : Prop := Claim7.holds Tryz.pinned (.plain (OpenSpec.ofChange alphaRenamesSpec)) alphaRenamesCard

/-- THE SECOND FORM's CARD OF 'sloppykeep.TreeBack'. -/
def treeBackUptoCard : Claim7 := { stood := { row := treeBackUptoRow, standIns := [], harness := (true, "94a63c19e9212d2e83f7ae8259778cac17f666d387a9b448220702a9e3913d29"), looks := true }, kinds := [], alts := [], laidByText := true, laidKinds := [.data, .data, .data, .handle, .sentinel, .sentinel, .data, .data, .data, .data], laidTests := true, laidLooks := .later }
def TreeBackUptoCardSaid : Prop := Claim7.holds Tryz.pinned (.plain (OpenSpec.upto treeBackSpec)) treeBackUptoCard

/-- THE SECOND FORM's CARD OF 'sloppylaw.HoistFree'. -/
def hoistFreeUptoCard : Claim7 := { stood := { row := hoistFreeUptoRow, standIns := [], harness := (true, "94a63c19e9212d2e83f7ae8259778cac17f666d387a9b448220702a9e3913d29"), looks := true }, kinds := [], alts := [], laidByText := true, laidKinds := [.data, .data, .data, .sentinel, .sentinel, .data, .data, .data, .widerDeep, .data, .data], laidTests := true, laidLooks := .later }
def HoistFreeUptoCardSaid : Prop := Claim7.holds Tryz.pinned (.plain (OpenSpec.upto hoistFreeSpec)) hoistFreeUptoCard

/-- THE SECOND FORM's CARD OF 'sloppylaw.EarlyChecks'. -/
def earlyChecksUptoCard : Claim7 := { stood := { row := earlyChecksUptoRow, standIns := [], harness := (true, "94a63c19e9212d2e83f7ae8259778cac17f666d387a9b448220702a9e3913d29"), looks := true }, kinds := [], alts := [], laidByText := true, laidKinds := [.data, .data, .data, .handle, .sentinel, .sentinel, .data, .data, .data, .widerDeep, .data, .data], laidTests := true, laidLooks := .later }
def EarlyChecksUptoCardSaid : Prop := Claim7.holds Tryz.pinned (.plain (OpenSpec.upto earlyChecksSpec)) earlyChecksUptoCard

/-- THE SECOND FORM's CARD OF 'sloppylaw.RunNumbers'. -/
def runNumbersUptoCard : Claim7 := { stood := { row := runNumbersUptoRow, standIns := [], harness := (true, "94a63c19e9212d2e83f7ae8259778cac17f666d387a9b448220702a9e3913d29"), looks := true }, kinds := [], alts := [], laidByText := true, laidKinds := [.data, .data, .data, .sentinel, .sentinel, .data, .data, .data, .widerDeep, .data, .data], laidTests := true, laidLooks := .later }
def RunNumbersUptoCardSaid : Prop := Claim7.holds Tryz.pinned (.plain (OpenSpec.upto runNumbersSpec)) runNumbersUptoCard

/-- THE SECOND FORM's CARD OF 'sloppylaw.WhereTells'. -/
def whereTellsUptoCard : Claim7 := { stood := { row := whereTellsUptoRow, standIns := [], harness := (true, "94a63c19e9212d2e83f7ae8259778cac17f666d387a9b448220702a9e3913d29"), looks := true }, kinds := [], alts := [], laidByText := true, laidKinds := [.data, .data, .data, .sentinel, .sentinel, .data, .data, .data, .widerDeep, .data, .data], laidTests := true, laidLooks := .later }
def WhereTellsUptoCardSaid : Prop := Claim7.holds Tryz.pinned (.plain (OpenSpec.upto whereTellsSpec)) whereTellsUptoCard

/-- THE SECOND FORM's CARD OF 'sloppykeep.WherePlain'. -/
def wherePlainUptoCard : Claim7 := { stood := { row := wherePlainUptoRow, standIns := [], harness := (true, "94a63c19e9212d2e83f7ae8259778cac17f666d387a9b448220702a9e3913d29"), looks := true }, kinds := [], alts := [], laidByText := true, laidKinds := [.data, .data, .data, .sentinel, .sentinel, .data, .data, .data, .data], laidTests := true, laidLooks := .later }
def WherePlainUptoCardSaid : Prop := Claim7.holds Tryz.pinned (.plain (OpenSpec.upto wherePlainSpec)) wherePlainUptoCard

/-- THE SECOND FORM's CARD OF 'sloppylaw.AlphaOwns'. -/
def alphaOwnsUptoCard : Claim7 := { stood := { row := alphaOwnsUptoRow, standIns := [], harness := (true, "94a63c19e9212d2e83f7ae8259778cac17f666d387a9b448220702a9e3913d29"), looks := true }, kinds := [], alts := [], laidByText := true, laidKinds := [.data, .data, .data, .sentinel, .sentinel, .data, .data, .data, .widerDeep, .data, .data], laidTests := true, laidLooks := .later }
def AlphaOwnsUptoCardSaid : Prop := Claim7.holds Tryz.pinned (.plain (OpenSpec.upto alphaOwnsSpec)) alphaOwnsUptoCard

/-- THE SECOND FORM's CARD OF 'sloppylaw.AlphaRenames'. -/
def alphaRenamesUptoCard : Claim7 := { stood := { row := alphaRenamesUptoRow, standIns := [], harness := (true, "94a63c19e9212d2e83f7ae8259778cac17f666d387a9b448220702a9e3913d29"), looks := true }, kinds := [], alts := [], laidByText := true, laidKinds := [.data, .data, .data, .handle, .sentinel, .sentinel, .data, .data, .data, .widerDeep, .data, .data], laidTests := true, laidLooks := .later }
def AlphaRenamesUptoCardSaid : Prop := Claim7.holds Tryz.pinned (.plain (OpenSpec.upto alphaRenamesSpec)) alphaRenamesUptoCard
end Rows
end Go.Proofs.YtoimgcjbcbhclaaGreatDoor
