/-
  DERIVED. GIVEN WITH THE SEED: THE CARDS: each row of YtodmgaikhbmlnaaGreatDoorRows.lean that lists a variable, with what it lists TIED to the program's text (the seventh form; the later family's looks); each row that meets fmt, with fmt's text TOLD by the authors' own Lean function (tested against real Go, not proved from fmt's source: count such statements apart). THE CARD IS WHAT COUNTS. Prove the row's statement (the work); the ties are given (YtodmgaikhbmlnaaGreatDoorTie.lean); close each card by the builder's one call (the guide's Derived/Test/ToyasCard.lean, 'card_holds'). Laid BY PROGRAM, IN A SANDBOX (cutbox-door.mjs). By AI agents, Wed Nov 11 2026. No macro, syntax, notation, axiom, sorry.
-/
import Derived.Test.YtodmgaikhbmlnaaGreatDoorRows
import GoSem.ClaimSeven
namespace Go.Proofs.YtodmgaikhbmlnaaGreatDoor
namespace Rows

/-- THE TIED CARD OF 'sloppylaw.TreeParses'. -/
def treeParsesCard : Claim7 := { stood := { row := treeParsesRow, standIns := [], harness := (true, "ed0946fa44e031e10eb29a89d8ef55daad093ae3f3127b6122e1afe9e8b3434f"), looks := true }, kinds := [], alts := [], laidByText := true, laidKinds := [.data, .data, .data, .handle, .sentinel, .sentinel, .data, .data, .data, .widerDeep, .data, .data], laidTests := true, laidLooks := .later }
def TreeParsesCardSaid : Prop := Claim7.holds Tryz.pinned (.plain (OpenSpec.ofChange treeParsesSpec)) treeParsesCard

/-- THE TIED CARD OF 'sloppylaw.TreeWalks'. -/
def treeWalksCard : Claim7 := { stood := { row := treeWalksRow, standIns := [], harness := (true, "ed0946fa44e031e10eb29a89d8ef55daad093ae3f3127b6122e1afe9e8b3434f"), looks := true }, kinds := [], alts := [], laidByText := true, laidKinds := [.data, .data, .data, .sentinel, .sentinel, .data, .data, .data, .widerDeep, .data, .data], laidTests := true, laidLooks := .later }
def TreeWalksCardSaid : Prop := Claim7.holds Tryz.pinned (.plain (OpenSpec.ofChange treeWalksSpec)) treeWalksCard

/-- THE TIED CARD OF 'sloppykeep.TreeBack'. -/
def treeBackCard : Claim7 := { stood := { row := treeBackRow, standIns := [], harness := (true, "ed0946fa44e031e10eb29a89d8ef55daad093ae3f3127b6122e1afe9e8b3434f"), looks := true }, kinds := [], alts := [], laidByText := true, laidKinds := [.data, .data, .data, .handle, .sentinel, .sentinel, .data, .data, .data, .data], laidTests := true, laidLooks := .later }
def TreeBackCardSaid : Prop := Claim7.holds Tryz.pinned (.plain (OpenSpec.ofChange treeBackSpec)) treeBackCard

/-- THE TIED CARD OF 'sloppykeep.TreeJoins'. -/
def treeJoinsCard : Claim7 := { stood := { row := treeJoinsRow, standIns := [], harness := (true, "ed0946fa44e031e10eb29a89d8ef55daad093ae3f3127b6122e1afe9e8b3434f"), looks := true }, kinds := [], alts := [], laidByText := true, laidKinds := [.data, .data, .data, .handle, .sentinel, .sentinel, .data, .data, .data, .data], laidTests := true, laidLooks := .later }
def TreeJoinsCardSaid : Prop := Claim7.holds Tryz.pinned (.plain (OpenSpec.ofChange treeJoinsSpec)) treeJoinsCard

/-- THE TIED CARD OF 'sloppylaw.HoistNames'. -/
def hoistNamesCard : Claim7 := { stood := { row := hoistNamesRow, standIns := [], harness := (true, "ed0946fa44e031e10eb29a89d8ef55daad093ae3f3127b6122e1afe9e8b3434f"), looks := true }, kinds := [], alts := [], laidByText := true, laidKinds := [.data, .data, .data, .sentinel, .sentinel, .data, .data, .data, .widerDeep, .data, .data], laidTests := true, laidLooks := .later }
def HoistNamesCardSaid : Prop := Claim7.holds Tryz.pinned (.plain (OpenSpec.ofChange hoistNamesSpec)) hoistNamesCard

/-- THE TIED CARD OF 'sloppylaw.HoistFree'. -/
def hoistFreeCard : Claim7 := { stood := { row := hoistFreeRow, standIns := [], harness := (true, "ed0946fa44e031e10eb29a89d8ef55daad093ae3f3127b6122e1afe9e8b3434f"), looks := true }, kinds := [], alts := [], laidByText := true, laidKinds := [.data, .data, .data, .sentinel, .sentinel, .data, .data, .data, .widerDeep, .data, .data], laidTests := true, laidLooks := .later }
def HoistFreeCardSaid : Prop := Claim7.holds Tryz.pinned (.plain (OpenSpec.ofChange hoistFreeSpec)) hoistFreeCard

/-- THE TIED CARD OF 'sloppykeep.HoistClosed'. -/
def hoistClosedCard : Claim7 := { stood := { row := hoistClosedRow, standIns := [], harness := (true, "ed0946fa44e031e10eb29a89d8ef55daad093ae3f3127b6122e1afe9e8b3434f"), looks := true }, kinds := [], alts := [], laidByText := true, laidKinds := [.data, .data, .data, .handle, .sentinel, .sentinel, .data, .data, .data, .data], laidTests := true, laidLooks := .later }
def HoistClosedCardSaid : Prop := Claim7.holds Tryz.pinned (.plain (OpenSpec.ofChange hoistClosedSpec)) hoistClosedCard

/-- THE TIED CARD OF 'sloppylaw.EarlyChecks'. -/
def earlyChecksCard : Claim7 := { stood := { row := earlyChecksRow, standIns := [], harness := (true, "ed0946fa44e031e10eb29a89d8ef55daad093ae3f3127b6122e1afe9e8b3434f"), looks := true }, kinds := [], alts := [], laidByText := true, laidKinds := [.data, .data, .data, .handle, .sentinel, .sentinel, .data, .data, .data, .widerDeep, .data, .data], laidTests := true, laidLooks := .later }
def EarlyChecksCardSaid : Prop := Claim7.holds Tryz.pinned (.plain (OpenSpec.ofChange earlyChecksSpec)) earlyChecksCard

/-- THE TIED CARD OF 'sloppykeep.EarlyMore'. -/
def earlyMoreCard : Claim7 := { stood := { row := earlyMoreRow, standIns := [], harness := (true, "ed0946fa44e031e10eb29a89d8ef55daad093ae3f3127b6122e1afe9e8b3434f"), looks := true }, kinds := [], alts := [], laidByText := true, laidKinds := [.data, .data, .data, .handle, .sentinel, .sentinel, .data, .data, .data, .data], laidTests := true, laidLooks := .later }
def EarlyMoreCardSaid : Prop := Claim7.holds Tryz.pinned (.plain (OpenSpec.ofChange earlyMoreSpec)) earlyMoreCard

/-- THE SECOND FORM's CARD OF 'sloppylaw.TreeParses'. -/
def treeParsesUptoCard : Claim7 := { stood := { row := treeParsesUptoRow, standIns := [], harness := (true, "ed0946fa44e031e10eb29a89d8ef55daad093ae3f3127b6122e1afe9e8b3434f"), looks := true }, kinds := [], alts := [], laidByText := true, laidKinds := [.data, .data, .data, .handle, .sentinel, .sentinel, .data, .data, .data, .widerDeep, .data, .data], laidTests := true, laidLooks := .later }
def TreeParsesUptoCardSaid : Prop := Claim7.holds Tryz.pinned (.plain (OpenSpec.upto treeParsesSpec)) treeParsesUptoCard

/-- THE SECOND FORM's CARD OF 'sloppylaw.TreeWalks'. -/
def treeWalksUptoCard : Claim7 := { stood := { row := treeWalksUptoRow, standIns := [], harness := (true, "ed0946fa44e031e10eb29a89d8ef55daad093ae3f3127b6122e1afe9e8b3434f"), looks := true }, kinds := [], alts := [], laidByText := true, laidKinds := [.data, .data, .data, .sentinel, .sentinel, .data, .data, .data, .widerDeep, .data, .data], laidTests := true, laidLooks := .later }
def TreeWalksUptoCardSaid : Prop := Claim7.holds Tryz.pinned (.plain (OpenSpec.upto treeWalksSpec)) treeWalksUptoCard

/-- THE SECOND FORM's CARD OF 'sloppykeep.TreeBack'. -/
def treeBackUptoCard : Claim7 := { stood := { row := treeBackUptoRow, standIns := [], harness := (true, "ed0946fa44e031e10eb29a89d8ef55daad093ae3f3127b6122e1afe9e8b3434f"), looks := true }, kinds := [], alts := [], laidByText := true, laidKinds := [.data, .data, .data, .handle, .sentinel, .sentinel, .data, .data, .data, .data], laidTests := true, laidLooks := .later }
def TreeBackUptoCardSaid : Prop := Claim7.holds Tryz.pinned (.plain (OpenSpec.upto treeBackSpec)) treeBackUptoCard

/-- THE SECOND FORM's CARD OF 'sloppykeep.TreeJoins'. -/
def treeJoinsUptoCard : Claim7 := { stood := { row := treeJoinsUptoRow, standIns := [], harness := (true, "ed0946fa44e031e10eb29a89d8ef55daad093ae3f3127b6122e1afe9e8b3434f"), looks := true }, kinds := [], alts := [], laidByText := true, laidKinds := [.data, .data, .data, .handle, .sentinel, .sentinel, .data, .data, .data, .data], laidTests := true, laidLooks := .later }
def TreeJoinsUptoCardSaid : Prop := Claim7.holds Tryz.pinned (.plain (OpenSpec.upto treeJoinsSpec)) treeJoinsUptoCard

/-- THE SECOND FORM's CARD OF 'sloppylaw.HoistNames'. -/
def hoistNamesUptoCard : Claim7 := { stood := { row := hoistNamesUptoRow, standIns := [], harness := (true, "ed0946fa44e031e10eb29a89d8ef55daad093ae3f3127b6122e1afe9e8b3434f"), looks := true }, kinds := [], alts := [], laidByText := true, laidKinds := [.data, .data, .data, .sentinel, .sentinel, .data, .data, .data, .widerDeep, .data, .data], laidTests := true, laidLooks := .later }
def HoistNamesUptoCardSaid : Prop := Claim7.holds Tryz.pinned (.plain (OpenSpec.upto hoistNamesSpec)) hoistNamesUptoCard

/-- THE SECOND FORM's CARD OF 'sloppylaw.HoistFree'. -/
def hoistFreeUptoCard : Claim7 := { stood := { row := hoistFreeUptoRow, standIns := [], harness := (true, "ed0946fa44e031e10eb29a89d8ef55daad093ae3f3127b6122e1afe9e8b3434f"), looks := true }, kinds := [], alts := [], laidByText := true, laidKinds := [.data, .data, .data, .sentinel, .sentinel, .data, .data, .data, .widerDeep, .data, .data], laidTests := true, laidLooks := .later }
def HoistFreeUptoCardSaid : Prop := Claim7.holds Tryz.pinned (.plain (OpenSpec.upto hoistFreeSpec)) hoistFreeUptoCard

/-- THE SECOND FORM's CARD OF 'sloppykeep.HoistClosed'. -/
def hoistClosedUptoCard : Claim7 := { stood := { row := hoistClosedUptoRow, standIns := [], harness := (true, "ed0946fa44e031e10eb29a89d8ef55daad093ae3f3127b6122e1afe9e8b3434f"), looks := true }, kinds := [], alts := [], laidByText := true, laidKinds := [.data, .data, .data, .handle, .sentinel, .sentinel, .data, .data, .data, .data], laidTests := true, laidLooks := .later }
def HoistClosedUptoCardSaid : Prop := Claim7.holds Tryz.pinned (.plain (OpenSpec.upto hoistClosedSpec)) hoistClosedUptoCard

/-- THE SECOND FORM's CARD OF 'sloppylaw.EarlyChecks'. -/
def earlyChecksUptoCard : Claim7 := { stood := { row := earlyChecksUptoRow, standIns := [], harness := (true, "ed0946fa44e031e10eb29a89d8ef55daad093ae3f3127b6122e1afe9e8b3434f"), looks := true }, kinds := [], alts := [], laidByText := true, laidKinds := [.data, .data, .data, .handle, .sentinel, .sentinel, .data, .data, .data, .widerDeep, .data, .data], laidTests := true, laidLooks := .later }
def EarlyChecksUptoCardSaid : Prop := Claim7.holds Tryz.pinned (.plain (OpenSpec.upto earlyChecksSpec)) earlyChecksUptoCard

/-- THE SECOND FORM's CARD OF 'sloppykeep.EarlyMore'. -/
def earlyMoreUptoCard : Claim7 := { stood := { row := earlyMoreUptoRow, standIns := [], harness := (true, "ed0946fa44e031e10eb29a89d8ef55daad093ae3f3127b6122e1afe9e8b3434f"), looks := true }, kinds := [], alts := [], laidByText := true, laidKinds := [.data, .data, .data, .handle, .sentinel, .sentinel, .data, .data, .data, .data], laidTests := true, laidLooks := .later }
def EarlyMoreUptoCardSaid : Prop := Claim7.holds Tryz.pinned (.plain (OpenSpec.upto earlyMoreSpec)) earlyMoreUptoCard
end Rows
end Go.Proofs.YtodmgaikhbmlnaaGreatDoor
