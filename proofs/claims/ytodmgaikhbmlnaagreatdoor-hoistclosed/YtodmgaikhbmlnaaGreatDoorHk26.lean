/-
  HoistClosed: the closed facts of its row, one by one.
-/
import Derived.Test.YtodmgaikhbmlnaaGreatDoorCards
import Derived.Test.YtodmgaikhbmlnaaGreatDoorChecked
import Derived.ProofKit
import Derived.Stop.Joined
namespace Go.Proofs.YtodmgaikhbmlnaaGreatDoor
open Go.ChangeShapes Go.WideShapes Go.ChangeAt Go.WideMaps Go.WideElems Go.RowKit
namespace HkRow
theorem fInPlace : (Rows.hoistClosedRow.inPlace == Tryz.pinned.checked.prog.inPlace 9) = true := by kernel_rfl
theorem fUnfollowed : (Rows.hoistClosedRow.unfollowed == Tryz.pinned.checked.prog.unfollowed 9) = true := by kernel_rfl
theorem fRecurses : (Rows.hoistClosedRow.recurses == Tryz.pinned.checked.prog.recurses 9) = true := by kernel_rfl
theorem fNamed : (Rows.hoistClosedRow.named == Tryz.pinned.checked.prog.varsNamed 9) = true := by kernel_rfl
theorem closed : joinedFacts Tryz.pinned.checked.prog 9 Tryz.f9 Rows.hoistClosedSpec Rows.hoistClosedRow = true := by
 unfold joinedFacts
 rw [fInPlace, fUnfollowed, fRecurses, fNamed]
 kernel_rfl
end HkRow
end Go.Proofs.YtodmgaikhbmlnaaGreatDoor
