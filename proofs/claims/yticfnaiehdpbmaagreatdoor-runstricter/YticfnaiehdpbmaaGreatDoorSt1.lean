import Derived.Test.YticfnaiehdpbmaaGreatDoorCards
import Derived.Test.YticfnaiehdpbmaaGreatDoorChecked
import Derived.ProofKit
import Derived.Stop.Joined
set_option maxRecDepth 100000
set_option maxHeartbeats 8000000
set_option linter.all false
namespace Go.Proofs.YticfnaiehdpbmaaGreatDoor
open Go.ChangeShapes Go.WideShapes Go.ChangeAt Go.WideMaps Go.WideElems Go.RowKit
namespace acQ
theorem fInPlace:(Rows.runStricterRow.inPlace==Tryz.pinned.checked.prog.inPlace 5)=true:=by kernel_rfl
theorem ahZ:(Rows.runStricterRow.unfollowed==Tryz.pinned.checked.prog.unfollowed 5)=true:=by kernel_rfl
theorem anf:(Rows.runStricterRow.recurses==Tryz.pinned.checked.prog.recurses 5)=true:=by kernel_rfl
theorem ayR:(Rows.runStricterRow.named==Tryz.pinned.checked.prog.varsNamed 5)=true:=by kernel_rfl
theorem closed:joinedFacts Tryz.pinned.checked.prog 5 Tryz.f5 Rows.runStricterSpec Rows.runStricterRow=true:=by
 unfold joinedFacts;rw[fInPlace,ahZ,anf,ayR]
 kernel_rfl
