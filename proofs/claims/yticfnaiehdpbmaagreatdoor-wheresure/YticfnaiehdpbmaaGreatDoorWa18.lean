/-
  WhereSure: for every text the call returns true and the text reads as before: what is told of a name as sure is where a run finds it. Conditions: the row's own (the package variables as the program's text lays them, which the card ties).
-/
import Derived.Test.YticfnaiehdpbmaaGreatDoorWa17
import Derived.Test.YticfnaiehdpbmaaGreatDoorWa1
set_option maxRecDepth 100000
set_option maxHeartbeats 0
set_option linter.all false
namespace Go.Proofs.YticfnaiehdpbmaaGreatDoor
open Go.ChangeShapes Go.WideShapes Go.ChangeAt Go.WideMaps Go.WideElems Go.RowKit
namespace qv
theorem said:Rows.WhereSureSaid:=
 OpenClaim.holds_of_wide 6 Tryz.f6 rfl rfl rfl rfl rfl rfl rfl ⟨rfl,rfl,rfl,rfl,rfl⟩ rfl rfl rfl rfl rfl (by kernel_rfl) Tryz.func6 closed
  (of_decide_eq_true (by kernel_rfl)) (by unfold Func.isWrapper;first |(rw[fY (by decide +kernel)];kernel_rfl) |(rw[fT (by decide +kernel)];exact⟨rfl,rfl⟩))
  (λb started H a _=>lifted b started H a)
theorem plain (b : FuncId) (c : Func) (f : Tryz.pinned.checked.prog.funcNamed "sloppyscope/sloppykeep.WhereSure" = some b) (g : Tryz.pinned.checked.prog.funcs[b]? = some c) :
  true=Tryz.pinned.checked.prog.looks []/\∀(e:Nat) a,c.params[e]?=some a->Tryz.pinned.checked.prog.wantsStandIn a=false:=by
 obtain rfl : b = 6 := hb ((show Tryz.prog.funcNamed "sloppyscope/sloppykeep.WhereSure" = some 6 by kernel_rfl).symm.trans f) |>.symm; obtain rfl : c = Tryz.f6 := (hb (Tryz.func6.symm.trans g)).symm; refine ⟨by kernel_rfl, λe a d => ?_⟩; rw [Tryz.params6] at d; obtain rfl : a = 9 := by simpa using Array.mem_of_getElem? d
 exact(show Tryz.prog.wantsStandIn 9=false by kernel_rfl)
end qv
theorem whereSure_card:Rows.WhereSureCardSaid:=
 Claim7.holds_tied_plain_at .later [] _ _ _ _ qv.said (λ_ h=>by cases h) (by kernel_rfl) (λ_ h=>by cases h) whereSure_row_tie rfl ⟨rfl,rfl⟩ (by kernel_rfl) rfl qv.plain (by kernel_rfl)
#print axioms whereSure_card
