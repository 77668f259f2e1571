/-
  DERIVED. GIVEN WITH THE SEED: THE CARDS: each row of YtopehplicnppfaaDoorRows.lean that lists a variable, with what it lists TIED to the program's text (the seventh form; the later family's looks); each row that meets fmt, with fmt's text TOLD by the authors' own Lean function (tested against real Go, not proved from fmt's source: count such statements apart). THE CARD IS WHAT COUNTS. Prove the row's statement (the work); the ties are given (YtopehplicnppfaaDoorTie.lean); close each card by the builder's one call (the guide's Derived/Test/ToyasCard.lean, 'card_holds'). Laid BY PROGRAM, IN A SANDBOX (cutbox-door.mjs). By AI agents, Wed Nov 11 2026. No macro, syntax, notation, axiom, sorry.
-/
import Derived.Test.YtopehplicnppfaaDoorRows
import GoSem.ClaimSeven
namespace Go.Proofs.YtopehplicnppfaaDoor
namespace Rows

/-- THE TIED CARD OF 'sloppylaw.HeapShows'. -/
def heapShowsCard : Claim7 := { stood := { row := heapShowsRow, standIns := [], harness := (true, "1c9e930c84df05e2e3a40327e04c2631b7e18364054b7e1be138793689c754d6"), looks := true }, kinds := [], alts := [], laidByText := true, laidKinds := [.data, .data, .data], laidTests := true, laidLooks := .later }
def HeapShowsCardSaid : Prop := Claim7.holds Tryd.pinned (.plain (OpenSpec.ofChange heapShowsSpec)) heapShowsCard

/-- THE TIED CARD OF 'sloppykeep.HeapLate'. -/
def heapLateCard : Claim7 := { stood := { row := heapLateRow, standIns := [], harness := (true, "1c9e930c84df05e2e3a40327e04c2631b7e18364054b7e1be138793689c754d6"), looks := true }, kinds := [], alts := [], laidByText := true, laidKinds := [.handle], laidTests := true, laidLooks := .later }
def HeapLateCardSaid : Prop := Claim7.holds Tryd.pinned (.plain (OpenSpec.ofChange heapLateSpec)) heapLateCard

/-- THE SECOND FORM's CARD OF 'sloppylaw.HeapShows'. -/
def heapShowsUptoCard : Claim7 := { stood := { row := heapShowsUptoRow, standIns := [], harness := (true, "1c9e930c84df05e2e3a40327e04c2631b7e18364054b7e1be138793689c754d6"), looks := true }, kinds := [], alts := [], laidByText := true, laidKinds := [.data, .data, .data], laidTests := true, laidLooks := .later }
def HeapShowsUptoCardSaid : Prop := Claim7.holds Tryd.pinned (.plain (OpenSpec.upto heapShowsSpec)) heapShowsUptoCard

/-- THE SECOND FORM's CARD OF 'sloppykeep.HeapLate'. -/
def heapLateUptoCard : Claim7 := { stood := { row := heapLateUptoRow, standIns := [], harness := (true, "1c9e930c84df05e2e3a40327e04c2631b7e18364054b7e1be138793689c754d6"), looks := true }, kinds := [], alts := [], laidByText := true, laidKinds := [.handle], laidTests := true, laidLooks := .later }
def HeapLateUptoCardSaid : Prop := Claim7.holds Tryd.pinned (.plain (OpenSpec.upto heapLateSpec)) heapLateUptoCard
end Rows
end Go.Proofs.YtopehplicnppfaaDoor
