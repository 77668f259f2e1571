/-
  DERIVED. GIVEN WITH THE SEED: THE CARDS: each row of YticfnaiehdpbmaaGreatDoorRows.lean that lists a variable, with what it lists TIED to the program's text (the seventh form; the later family's looks); each row that meets fmt, with fmt's text TOLD by the authors' own Lean function (tested against real Go, not proved from fmt's source: count such statements apart). THE CARD IS WHAT COUNTS. Prove the row's statement (the work); the ties are given (YticfnaiehdpbmaaGreatDoorTie.lean); close each card by the builder's one call (the guide's Derived/Test/ToyasCard.lean, 'card_holds'). Laid BY PROGRAM, IN A SANDBOX (cutbox-door.mjs). By AI agents, Wed Nov 11 2026. No macro, syntax, notation, axiom, sorry.
-/
import Derived.Test.YticfnaiehdpbmaaGreatDoorRows
import GoSem.ClaimSeven
namespace Go.Proofs.YticfnaiehdpbmaaGreatDoor
namespace Rows

/-- THE TIED CARD OF 'sloppykeep.RunAgain'. -/
def runAgainCard : Claim7 := { stood := { row := runAgainRow, standIns := [], harness := (true, "cfffb0794ee4550208332c804ab8c33735f1149f7ed7d9d4acd7b803e54f3c32"), looks := true }, kinds := [], alts := [], laidByText := true, laidKinds := [.data, .data, .data, .handle, .sentinel, .sentinel, .data, .data, .data, .data, .sentinel], laidTests := true, laidLooks := .later }
def RunAgainCardSaid : Prop := Claim7.holds Tryz.pinned (.plain (OpenSpec.ofChange runAgainSpec)) runAgainCard

/-- THE TIED CARD OF 'sloppykeep.RunOn'. -/
def runOnCard : Claim7 := { stood := { row := runOnRow, standIns := [], harness := (true, "cfffb0794ee4550208332c804ab8c33735f1149f7ed7d9d4acd7b803e54f3c32"), looks := true }, kinds := [], alts := [], laidByText := true, laidKinds := [.data, .data, .data, .handle, .sentinel, .sentinel, .data, .data, .data, .data, .sentinel], laidTests := true, laidLooks := .later }
def RunOnCardSaid : Prop := Claim7.holds Tryz.pinned (.plain (OpenSpec.ofChange runOnSpec)) runOnCard

/-- THE TIED CARD OF 'sloppykeep.RunStricter'. -/
def runStricterCard : Claim7 := { stood := { row := runStricterRow, standIns := [], harness := (true, "cfffb0794ee4550208332c804ab8c33735f1149f7ed7d9d4acd7b803e54f3c32"), looks := true }, kinds := [], alts := [], laidByText := true, laidKinds := [.data, .data, .data, .handle, .sentinel, .sentinel, .data, .data, .data, .data, .sentinel], laidTests := true, laidLooks := .later }
def RunStricterCardSaid : Prop := Claim7.holds Tryz.pinned (.plain (OpenSpec.ofChange runStricterSpec)) runStricterCard

/-- THE TIED CARD OF 'sloppykeep.WhereSure'. -/
def whereSureCard : Claim7 := { stood := { row := whereSureRow, standIns := [], harness := (true, "cfffb0794ee4550208332c804ab8c33735f1149f7ed7d9d4acd7b803e54f3c32"), looks := true }, kinds := [], alts := [], laidByText := true, laidKinds := [.data, .data, .data, .handle, .sentinel, .sentinel, .data, .data, .data, .data, .sentinel], laidTests := true, laidLooks := .later }
def WhereSureCardSaid : Prop := Claim7.holds Tryz.pinned (.plain (OpenSpec.ofChange whereSureSpec)) whereSureCard

/-- THE TIED CARD OF 'sloppykeep.AlphaSame'. -/
def alphaSameCard : Claim7 := { stood := { row := alphaSameRow, standIns := [], harness := (true, "cfffb0794ee4550208332c804ab8c33735f1149f7ed7d9d4acd7b803e54f3c32"), looks := true }, kinds := [], alts := [], laidByText := true, laidKinds := [.data, .data, .data, .handle, .sentinel, .sentinel, .data, .data, .data, .data, .sentinel], laidTests := true, laidLooks := .later }
def AlphaSameCardSaid : Prop := Claim7.holds Tryz.pinned (.plain (OpenSpec.ofChange alphaSameSpec)) alphaSameCard

/-- THE TIED CARD OF 'sloppykeep.FoldSame'. -/
def foldSameCard : Claim7 := { stood := { row := foldSameRow, standIns := [], harness := (true, "cfffb0794ee4550208332c804ab8c33735f1149f7ed7d9d4acd7b803e54f3c32"), looks := true }, kinds := [], alts := [], laidByText := true, laidKinds := [.data, .data, .data, .handle, .sentinel, .sentinel, .data, .data, .data, .data, .data, .sentinel], laidTests := true, laidLooks := .later }
def FoldSameCardSaid : Prop := Claim7.holds Tryz.pinned (.plain (OpenSpec.ofChange foldSameSpec)) foldSameCard

/-- THE SECOND FORM's CARD OF 'sloppykeep.RunAgain'. -/
def runAgainUptoCard : Claim7 := { stood := { row := runAgainUptoRow, standIns := [], harness := (true, "cfffb0794ee4550208332c804ab8c33735f1149f7ed7d9d4acd7b803e54f3c32"), looks := true }, kinds := [], alts := [], laidByText := true, laidKinds := [.data, .data, .data, .handle, .sentinel, .sentinel, .data, .data, .data, .data, .sentinel], laidTests := true, laidLooks := .later }
def RunAgainUptoCardSaid : Prop := Claim7.holds Tryz.pinned (.plain (OpenSpec.upto runAgainSpec)) runAgainUptoCard

/-- THE SECOND FORM's CARD OF 'sloppykeep.RunOn'. -/
def runOnUptoCard : Claim7 := { stood := { row := runOnUptoRow, standIns := [], harness := (true, "cfffb0794ee4550208332c804ab8c33735f1149f7ed7d9d4acd7b803e54f3c32"), looks := true }, kinds := [], alts := [], laidByText := true, laidKinds := [.data, .data, .data, .handle, .sentinel, .sentinel, .data, .data, .data, .data, .sentinel], laidTests := true, laidLooks := .later }
def RunOnUptoCardSaid : Prop := Claim7.holds Tryz.pinned (.plain (OpenSpec.upto runOnSpec)) runOnUptoCard

/-- THE SECOND FORM's CARD OF 'sloppykeep.RunStricter'. -/
def runStricterUptoCard : Claim7 := { stood := { row := runStricterUptoRow, standIns := [], harness := (true, "cfffb0794ee4550208332c804ab8c33735f1149f7ed7d9d4acd7b803e54f3c32"), looks := true }, kinds := [], alts := [], laidByText := true, laidKinds := [.data, .data, .data, .handle, .sentinel, .sentinel, .data, .data, .data, .data, .sentinel], laidTests := true, laidLooks := .later }
def RunStricterUptoCardSaid : Prop := Claim7.holds Tryz.pinned (.plain (OpenSpec.upto runStricterSpec)) runStricterUptoCard

/-- THE SECOND FORM's CARD OF 'sloppykeep.WhereSure'. -/
def whereSureUptoCard : Claim7 := { stood := { row := whereSureUptoRow, standIns := [], harness := (true, "cfffb0794ee4550208332c804ab8c33735f1149f7ed7d9d4acd7b803e54f3c32"), looks := true }, kinds := [], alts := [], laidByText := true, laidKinds := [.data, .data, .data, .handle, .sentinel, .sentinel, .data, .data, .data, .data, .sentinel], laidTests := true, laidLooks := .later }
def WhereSureUptoCardSaid : Prop := Claim7.holds Tryz.pinned (.plain (OpenSpec.upto whereSureSpec)) whereSureUptoCard

/-- THE SECOND FORM's CARD OF 'sloppykeep.AlphaSame'. -/
def alphaSameUptoCard : Claim7 := { stood := { row := alphaSameUptoRow, standIns := [], harness := (true, "cfffb0794ee4550208332c804ab8c33735f1149f7ed7d9d4acd7b803e54f3c32"), looks := true }, kinds := [], alts := [], laidByText := true, laidKinds := [.data, .data, .data, .handle, .sentinel, .sentinel, .data, .data, .data, .data, .sentinel], laidTests := true, laidLooks := .later }
def AlphaSameUptoCardSaid : Prop := Claim7.holds Tryz.pinned (.plain (OpenSpec.upto alphaSameSpec)) alphaSameUptoCard

/-- THE SECOND FORM's CARD OF 'sloppykeep.FoldSame'. -/
def foldSameUptoCard : Claim7 := { stood := { row := foldSameUptoRow, standIns := [], harness := (true, "cfffb0794ee4550208332c804ab8c33735f1149f7ed7d9d4acd7b803e54f3c32"), looks := true }, kinds := [], alts := [], laidByText := true, laidKinds := [.data, .data, .data, .handle, .sentinel, .sentinel, .data, .data, .data, .data, .data, .sentinel], laidTests := true, laidLooks := .later }
def FoldSameUptoCardSaid : Prop := Claim7.holds Tryz.pinned (.plain (OpenSpec.upto foldSameSpec)) foldSameUptoCard
end Rows
end Go.Proofs.YticfnaiehdpbmaaGreatDoor
