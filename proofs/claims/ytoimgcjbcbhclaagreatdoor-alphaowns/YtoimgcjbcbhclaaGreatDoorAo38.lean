/-
  AlphaOwns: the closed facts of its row, one by one.
-/
import Derived.Test.YtoimgcjbcbhclaaGreatDoorCards
import Derived.Test.YtoimgcjbcbhclaaGreatDoorChecked
import Derived.ProofKit
import Derived.Stop.Joined
namespace Go.Proofs.YtoimgcjbcbhclaaGreatDoor
open Go.ChangeShapes Go.WideShapes Go.ChangeAt Go.WideMaps Go.WideElems Go.RowKit
namespace AoRow
theorem fInPlace : (Rows.alphaOwnsRow.inPlace == Tryz.pinned.checked.prog.inPlace 9) = true := by kernel_rfl
theorem fUnfollowed : (Rows.alphaOwnsRow.unfollowed == Tryz.pinned.checked.prog.unfollowed 9) = true := by kernel_rfl
theorem fRecurses : (Rows.alphaOwnsRow.recurses == Tryz.pinned.checked.prog.recurses 9) = true := by kernel_rfl
theorem fNamed : (Rows.alphaOwnsRow.named == Tryz.pinned.checked.prog.varsNamed 9) = true := by kernel_rfl
theorem closed : joinedFacts Tryz.pinned.checked.prog 9 Tryz.f9 Rows.alphaOwnsSpec Rows.alphaOwnsRow = true := by
 unfold joinedFacts
 rw [fInPlace, fUnfollowed, fRecurses, fNamed]
 kernel_rfl
end AoRow
end Go.Proofs.YtoimgcjbcbhclaaGreatDoor
