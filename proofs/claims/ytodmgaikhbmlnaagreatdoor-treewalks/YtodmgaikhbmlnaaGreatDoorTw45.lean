/-
  TreeWalks: the closed facts of its row, one by one.
-/
import Derived.Test.YtodmgaikhbmlnaaGreatDoorCards
import Derived.Test.YtodmgaikhbmlnaaGreatDoorChecked
import Derived.ProofKit
import Derived.Stop.Joined
namespace Go.Proofs.YtodmgaikhbmlnaaGreatDoor
open Go.ChangeShapes Go.WideShapes Go.ChangeAt Go.WideMaps Go.WideElems Go.RowKit
namespace WalksRow
theorem fInPlace : (Rows.treeWalksRow.inPlace == Tryz.pinned.checked.prog.inPlace 4) = true := by kernel_rfl
theorem fUnfollowed : (Rows.treeWalksRow.unfollowed == Tryz.pinned.checked.prog.unfollowed 4) = true := by kernel_rfl
theorem fRecurses : (Rows.treeWalksRow.recurses == Tryz.pinned.checked.prog.recurses 4) = true := by kernel_rfl
theorem fNamed : (Rows.treeWalksRow.named == Tryz.pinned.checked.prog.varsNamed 4) = true := by kernel_rfl
theorem closed : joinedFacts Tryz.pinned.checked.prog 4 Tryz.f4 Rows.treeWalksSpec Rows.treeWalksRow = true := by
 unfold joinedFacts
 rw [fInPlace, fUnfollowed, fRecurses, fNamed]
 kernel_rfl
end WalksRow
end Go.Proofs.YtodmgaikhbmlnaaGreatDoor
