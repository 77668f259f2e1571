import Derived.Test.YticfnaiehdpbmaaGreatDoorCards
import Derived.Test.YticfnaiehdpbmaaGreatDoorChecked
import Derived.ProofKit
import Derived.Stop.Joined
set_option maxRecDepth 100000
set_option maxHeartbeats 0
set_option linter.all false
namespace Go.Proofs.YticfnaiehdpbmaaGreatDoor
open Go.ChangeShapes Go.WideShapes Go.ChangeAt Go.WideMaps Go.WideElems Go.RowKit
namespace qv
theorem mz:(Rows.whereSureRow.inPlace==Tryz.pinned.checked.prog.inPlace 6)=true:=by kernel_rfl
theorem ajy:(Rows.whereSureRow.unfollowed==Tryz.pinned.checked.prog.unfollowed 6)=true:=by kernel_rfl
theorem Sn:(Rows.whereSureRow.recurses==Tryz.pinned.checked.prog.recurses 6)=true:=by kernel_rfl
theorem VS:(Rows.whereSureRow.named==Tryz.pinned.checked.prog.varsNamed 6)=true:=by kernel_rfl
theorem closed:joinedFacts Tryz.pinned.checked.prog 6 Tryz.f6 Rows.whereSureSpec Rows.whereSureRow=true:=by
 unfold joinedFacts;rw[mz,ajy,Sn,VS]
 kernel_rfl
