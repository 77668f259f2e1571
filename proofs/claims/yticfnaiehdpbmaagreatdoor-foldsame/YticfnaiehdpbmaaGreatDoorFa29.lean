/-
  FoldSame: a program done ahead runs as the program does. Conditions: the row's own (the package variables as the program's text lays them, which the card ties).
-/
import Derived.Test.YticfnaiehdpbmaaGreatDoorFa28
import Derived.Test.YticfnaiehdpbmaaGreatDoorFa1
set_option maxRecDepth 100000
set_option maxHeartbeats 0
set_option linter.all false
namespace Go.Proofs.YticfnaiehdpbmaaGreatDoor
open Go.ChangeShapes Go.WideShapes Go.ChangeAt Go.WideMaps Go.WideElems Go.RowKit
namespace rv
theorem said:Rows.FoldSameSaid:=
 OpenClaim.holds_of_wide 8 Tryz.f8 rfl rfl rfl rfl rfl rfl rfl ⟨rfl,rfl,rfl,rfl,rfl⟩ rfl rfl rfl rfl rfl Qs Tryz.func8 closed
  (kc Qs) (by unfold Func.isWrapper;first | (rw[fL (by decide +kernel)];kernel_rfl) | (rw[fK (by decide +kernel)];exact⟨rfl,rfl⟩))
  (λb started H a _=>lifted b started H a)
theorem plain (b : FuncId) (c : Func) (f : Tryz.pinned.checked.prog.funcNamed "sloppyscope/sloppykeep.FoldSame" = some b) (g : Tryz.pinned.checked.prog.funcs[b]? = some c) :
  true=Tryz.pinned.checked.prog.looks []/\∀ (e:Nat) a,c.params[e]? = some a->Tryz.pinned.checked.prog.wantsStandIn a=false:=by
 obtain rfl : b = 8 := gQ ((show Tryz.prog.funcNamed "sloppyscope/sloppykeep.FoldSame" = some 8 by kernel_rfl).symm.trans f) |>.symm; obtain rfl : c = Tryz.f8 := (gQ (Tryz.func8.symm.trans g)).symm; refine ⟨by kernel_rfl, λe a d => ?_⟩; rw [Tryz.params8] at d; obtain rfl : a = 9 := by simpa using Array.mem_of_getElem? d
 exact(show Tryz.prog.wantsStandIn 9=false by kernel_rfl)
end rv
theorem foldSame_card:Rows.FoldSameCardSaid:=
 Claim7.holds_tied_plain_at .later [] _ _ _ _ rv.said (λ_ h=>by cases h) Qs (λ_ h=>by cases h) foldSame_row_tie rfl ⟨rfl,rfl⟩ Qs rfl rv.plain Qs
#print axioms foldSame_card
