/-
  EarlyChecks: the closed facts of its row, one by one.
-/
import Derived.Test.YtodmgaikhbmlnaaGreatDoorCards
import Derived.Test.YtodmgaikhbmlnaaGreatDoorChecked
import Derived.ProofKit
import Derived.Stop.Joined
namespace Go.Proofs.YtodmgaikhbmlnaaGreatDoor
open Go.ChangeShapes Go.WideShapes Go.ChangeAt Go.WideMaps Go.WideElems Go.RowKit
namespace EcRow
theorem fInPlace : (Rows.earlyChecksRow.inPlace == Tryz.pinned.checked.prog.inPlace 10) = true := by kernel_rfl
theorem fUnfollowed : (Rows.earlyChecksRow.unfollowed == Tryz.pinned.checked.prog.unfollowed 10) = true := by kernel_rfl
theorem fRecurses : (Rows.earlyChecksRow.recurses == Tryz.pinned.checked.prog.recurses 10) = true := by kernel_rfl
theorem fNamed : (Rows.earlyChecksRow.named == Tryz.pinned.checked.prog.varsNamed 10) = true := by kernel_rfl
theorem closed : joinedFacts Tryz.pinned.checked.prog 10 Tryz.f10 Rows.earlyChecksSpec Rows.earlyChecksRow = true := by
 unfold joinedFacts
 rw [fInPlace, fUnfollowed, fRecurses, fNamed]
 kernel_rfl
end EcRow
end Go.Proofs.YtodmgaikhbmlnaaGreatDoor
