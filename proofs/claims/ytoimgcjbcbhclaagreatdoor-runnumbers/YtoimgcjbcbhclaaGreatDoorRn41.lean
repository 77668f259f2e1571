/-
  RunNumbers: the closed facts of its row, one by one.
-/
import Derived.Test.YtoimgcjbcbhclaaGreatDoorCards
import Derived.Test.YtoimgcjbcbhclaaGreatDoorChecked
import Derived.ProofKit
import Derived.Stop.Joined
namespace Go.Proofs.YtoimgcjbcbhclaaGreatDoor
open Go.ChangeShapes Go.WideShapes Go.ChangeAt Go.WideMaps Go.WideElems Go.RowKit
namespace RnRow
theorem fInPlace : (Rows.runNumbersRow.inPlace == Tryz.pinned.checked.prog.inPlace 6) = true := by kernel_rfl
theorem fUnfollowed : (Rows.runNumbersRow.unfollowed == Tryz.pinned.checked.prog.unfollowed 6) = true := by kernel_rfl
theorem fRecurses : (Rows.runNumbersRow.recurses == Tryz.pinned.checked.prog.recurses 6) = true := by kernel_rfl
theorem fNamed : (Rows.runNumbersRow.named == Tryz.pinned.checked.prog.varsNamed 6) = true := by kernel_rfl
theorem closed : joinedFacts Tryz.pinned.checked.prog 6 Tryz.f6 Rows.runNumbersSpec Rows.runNumbersRow = true := by
 unfold joinedFacts
 rw [fInPlace, fUnfollowed, fRecurses, fNamed]
 kernel_rfl
end RnRow
end Go.Proofs.YtoimgcjbcbhclaaGreatDoor
