import Derived.Test.YtoimgcjbcbhclaaGreatDoorCards
import Derived.Test.YtoimgcjbcbhclaaGreatDoorChecked
import Derived.ProofKit
import Derived.Stop.Joined
set_option maxRecDepth 100000
set_option maxHeartbeats 0
set_option linter.all false
namespace Go.Proofs.YtoimgcjbcbhclaaGreatDoor
open Go.ChangeShapes Go.WideShapes Go.ChangeAt Go.WideMaps Go.WideElems Go.RowKit
namespace aaz
theorem fInPlace:(Rows.alphaRenamesRow.inPlace==Tryz.pinned.checked.prog.inPlace 10)=true:=by kernel_rfl
theorem ae6:(Rows.alphaRenamesRow.unfollowed==Tryz.pinned.checked.prog.unfollowed 10)=true:=by kernel_rfl
theorem akC:(Rows.alphaRenamesRow.recurses==Tryz.pinned.checked.prog.recurses 10)=true:=by kernel_rfl
theorem asL:(Rows.alphaRenamesRow.named==Tryz.pinned.checked.prog.varsNamed 10)=true:=by kernel_rfl
theorem closed:joinedFacts Tryz.pinned.checked.prog 10 Tryz.f10 Rows.alphaRenamesSpec Rows.alphaRenamesRow=true:=by
 unfold joinedFacts;rw[fInPlace,ae6,akC,asL]
 kernel_rfl
