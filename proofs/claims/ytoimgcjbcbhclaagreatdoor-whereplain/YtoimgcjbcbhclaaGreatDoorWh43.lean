/-
  WherePlain: the closed facts of its row, one by one.
-/
import Derived.Test.YtoimgcjbcbhclaaGreatDoorCards
import Derived.Test.YtoimgcjbcbhclaaGreatDoorChecked
import Derived.ProofKit
import Derived.Stop.Joined
namespace Go.Proofs.YtoimgcjbcbhclaaGreatDoor
open Go.ChangeShapes Go.WideShapes Go.ChangeAt Go.WideMaps Go.WideElems Go.RowKit

namespace WpRow
theorem fInPlace : (Rows.wherePlainRow.inPlace == Tryz.pinned.checked.prog.inPlace 8) = true := by kernel_rfl
theorem fUnfollowed : (Rows.wherePlainRow.unfollowed == Tryz.pinned.checked.prog.unfollowed 8) = true := by kernel_rfl
theorem fRecurses : (Rows.wherePlainRow.recurses == Tryz.pinned.checked.prog.recurses 8) = true := by kernel_rfl
theorem fNamed : (Rows.wherePlainRow.named == Tryz.pinned.checked.prog.varsNamed 8) = true := by kernel_rfl
theorem closed : joinedFacts Tryz.pinned.checked.prog 8 Tryz.f8 Rows.wherePlainSpec Rows.wherePlainRow = true := by
  unfold joinedFacts
  rw [fInPlace, fUnfollowed, fRecurses, fNamed]
  kernel_rfl
end WpRow
end Go.Proofs.YtoimgcjbcbhclaaGreatDoor
