/-
  WhereTells: the closed facts of its row, one by one.
-/
import Derived.Test.YtoimgcjbcbhclaaGreatDoorCards
import Derived.Test.YtoimgcjbcbhclaaGreatDoorChecked
import Derived.ProofKit
import Derived.Stop.Joined
namespace Go.Proofs.YtoimgcjbcbhclaaGreatDoor
open Go.ChangeShapes Go.WideShapes Go.ChangeAt Go.WideMaps Go.WideElems Go.RowKit
namespace WtRow
theorem fInPlace:(Rows.whereTellsRow.inPlace==Tryz.pinned.checked.prog.inPlace 7)=true:=by kernel_rfl
theorem fUnfollowed:(Rows.whereTellsRow.unfollowed==Tryz.pinned.checked.prog.unfollowed 7)=true:=by kernel_rfl
theorem fRecurses:(Rows.whereTellsRow.recurses==Tryz.pinned.checked.prog.recurses 7)=true:=by kernel_rfl
theorem fNamed:(Rows.whereTellsRow.named==Tryz.pinned.checked.prog.varsNamed 7)=true:=by kernel_rfl
theorem closed:joinedFacts Tryz.pinned.checked.prog 7 Tryz.f7 Rows.whereTellsSpec Rows.whereTellsRow=true:=by
 unfold joinedFacts
 rw[fInPlace,fUnfollowed,fRecurses,fNamed]
 kernel_rfl
end WtRow
end Go.Proofs.YtoimgcjbcbhclaaGreatDoor
