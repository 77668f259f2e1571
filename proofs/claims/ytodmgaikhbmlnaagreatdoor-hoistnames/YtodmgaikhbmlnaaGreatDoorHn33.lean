/-
  HoistNames: the closed facts of its row, one by one.
-/
import Derived.Test.YtodmgaikhbmlnaaGreatDoorCards
import Derived.Test.YtodmgaikhbmlnaaGreatDoorChecked
import Derived.ProofKit
import Derived.Stop.Joined
namespace Go.Proofs.YtodmgaikhbmlnaaGreatDoor
open Go.ChangeShapes Go.WideShapes Go.ChangeAt Go.WideMaps Go.WideElems Go.RowKit
namespace HnRow
theorem fInPlace : (Rows.hoistNamesRow.inPlace == Tryz.pinned.checked.prog.inPlace 7) = true := by kernel_rfl
theorem fUnfollowed : (Rows.hoistNamesRow.unfollowed == Tryz.pinned.checked.prog.unfollowed 7) = true := by kernel_rfl
theorem fRecurses : (Rows.hoistNamesRow.recurses == Tryz.pinned.checked.prog.recurses 7) = true := by kernel_rfl
theorem fNamed : (Rows.hoistNamesRow.named == Tryz.pinned.checked.prog.varsNamed 7) = true := by kernel_rfl
theorem closed : joinedFacts Tryz.pinned.checked.prog 7 Tryz.f7 Rows.hoistNamesSpec Rows.hoistNamesRow = true := by
 unfold joinedFacts
 rw [fInPlace, fUnfollowed, fRecurses, fNamed]
 kernel_rfl
end HnRow
end Go.Proofs.YtodmgaikhbmlnaaGreatDoor
