import Derived.Test.YticfnaiehdpbmaaGreatDoorCards
import Derived.Test.YticfnaiehdpbmaaGreatDoorChecked
import Derived.ProofKit
import Derived.Stop.Joined
set_option maxRecDepth 100000
set_option maxHeartbeats 0
set_option linter.all false
namespace Go.Proofs.YticfnaiehdpbmaaGreatDoor
open Go.ChangeShapes Go.WideShapes Go.ChangeAt Go.WideMaps Go.WideElems Go.RowKit
namespace rv
theorem m3:(Rows.foldSameRow.inPlace==Tryz.pinned.checked.prog.inPlace 8)=true:=by kernel_rfl
theorem Ww:(Rows.foldSameRow.unfollowed==Tryz.pinned.checked.prog.unfollowed 8)=true:=by kernel_rfl
theorem Rb:(Rows.foldSameRow.recurses==Tryz.pinned.checked.prog.recurses 8)=true:=by kernel_rfl
theorem azT:(Rows.foldSameRow.named==Tryz.pinned.checked.prog.varsNamed 8)=true:=by kernel_rfl
theorem closed:joinedFacts Tryz.pinned.checked.prog 8 Tryz.f8 Rows.foldSameSpec Rows.foldSameRow=true:=by
 unfold joinedFacts;rw[m3,Ww,Rb,azT]
 kernel_rfl
