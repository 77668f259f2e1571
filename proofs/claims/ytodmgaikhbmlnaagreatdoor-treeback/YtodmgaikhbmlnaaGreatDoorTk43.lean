/-
  TreeBack: the closed facts of its row, one by one.
-/
import Derived.Test.YtodmgaikhbmlnaaGreatDoorCards
import Derived.Test.YtodmgaikhbmlnaaGreatDoorChecked
import Derived.ProofKit
import Derived.Stop.Joined
namespace Go.Proofs.YtodmgaikhbmlnaaGreatDoor
open Go.ChangeShapes Go.WideShapes Go.ChangeAt Go.WideMaps Go.WideElems Go.RowKit

namespace TbRow
theorem fInPlace : (Rows.treeBackRow.inPlace == Tryz.pinned.checked.prog.inPlace 5) = true := by kernel_rfl
theorem fUnfollowed : (Rows.treeBackRow.unfollowed == Tryz.pinned.checked.prog.unfollowed 5) = true := by kernel_rfl
theorem fRecurses : (Rows.treeBackRow.recurses == Tryz.pinned.checked.prog.recurses 5) = true := by kernel_rfl
theorem fNamed : (Rows.treeBackRow.named == Tryz.pinned.checked.prog.varsNamed 5) = true := by kernel_rfl
theorem closed : joinedFacts Tryz.pinned.checked.prog 5 Tryz.f5 Rows.treeBackSpec Rows.treeBackRow = true := by
  unfold joinedFacts
  rw [fInPlace, fUnfollowed, fRecurses, fNamed]
  kernel_rfl
end TbRow
end Go.Proofs.YtodmgaikhbmlnaaGreatDoor
