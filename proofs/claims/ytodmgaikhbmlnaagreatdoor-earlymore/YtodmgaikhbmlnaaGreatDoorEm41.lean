/-
  EarlyMore: the closed facts of its row, one by one.
-/
import Derived.Test.YtodmgaikhbmlnaaGreatDoorCards
import Derived.Test.YtodmgaikhbmlnaaGreatDoorChecked
import Derived.ProofKit
import Derived.Stop.Joined
namespace Go.Proofs.YtodmgaikhbmlnaaGreatDoor
open Go.ChangeShapes Go.WideShapes Go.ChangeAt Go.WideMaps Go.WideElems Go.RowKit

namespace MoreRow
theorem fInPlace : (Rows.earlyMoreRow.inPlace == Tryz.pinned.checked.prog.inPlace 11) = true := by kernel_rfl
theorem fUnfollowed : (Rows.earlyMoreRow.unfollowed == Tryz.pinned.checked.prog.unfollowed 11) = true := by kernel_rfl
theorem fRecurses : (Rows.earlyMoreRow.recurses == Tryz.pinned.checked.prog.recurses 11) = true := by kernel_rfl
theorem fNamed : (Rows.earlyMoreRow.named == Tryz.pinned.checked.prog.varsNamed 11) = true := by kernel_rfl
theorem closed : joinedFacts Tryz.pinned.checked.prog 11 Tryz.f11 Rows.earlyMoreSpec Rows.earlyMoreRow = true := by
  unfold joinedFacts
  rw [fInPlace, fUnfollowed, fRecurses, fNamed]
  kernel_rfl
end MoreRow
end Go.Proofs.YtodmgaikhbmlnaaGreatDoor
