/-
  RunStricter: for every text the call returns true and the text reads as before: what ends well in strict code does the same elsewhere, without try, and without eval. Conditions: the row's own (the package variables as the program's text lays them, which the card ties).
-/
import Derived.Test.YticfnaiehdpbmaaGreatDoorSt17
import Derived.Test.YticfnaiehdpbmaaGreatDoorSt1
set_option maxRecDepth 100000
set_option maxHeartbeats 8000000
set_option linter.all false
namespace Go.Proofs.YticfnaiehdpbmaaGreatDoor
open Go.ChangeShapes Go.WideShapes Go.ChangeAt Go.WideMaps Go.WideElems Go.RowKit
namespace acQ
theorem said:Rows.RunStricterSaid:=
 OpenClaim.holds_of_wide 5 Tryz.f5 rfl rfl rfl rfl rfl rfl rfl ⟨rfl,rfl,rfl,rfl,rfl⟩ rfl rfl rfl rfl rfl Pe Tryz.func5 closed
  (of_decide_eq_true Pe) (by unfold Func.isWrapper;first | (rw[if_pos (by decide +kernel)];kernel_rfl) | (rw[if_neg (by decide +kernel)];exact⟨rfl,rfl⟩))
  (fun os started H enc _=>lifted os started H enc)
theorem plain (f : FuncId) (fn : Func) (aF : Tryz.pinned.checked.prog.funcNamed "sloppyscope/sloppykeep.RunStricter" = some f) (hv : Tryz.pinned.checked.prog.funcs[f]? = some fn) :
  true=Tryz.pinned.checked.prog.looks []/\∀ (j:Nat) t,fn.params[j]? = some t->Tryz.pinned.checked.prog.wantsStandIn t=false:=by
 obtain rfl : f = 5 := Option.some.inj ((show Tryz.prog.funcNamed "sloppyscope/sloppykeep.RunStricter" = some 5 by kernel_rfl).symm.trans aF) |>.symm; obtain rfl : fn = Tryz.f5 := (Option.some.inj (Tryz.func5.symm.trans hv)).symm; refine ⟨by kernel_rfl, fun j t aZ => ?_⟩; rw [Tryz.params5] at aZ; obtain rfl : t = 9 := by simpa using Array.mem_of_getElem? aZ
 exact(show Tryz.prog.wantsStandIn 9=false by kernel_rfl)
end acQ
theorem runStricter_card:Rows.RunStricterCardSaid:=
 Claim7.holds_tied_plain_at .later [] _ _ _ _ acQ.said (fun _ h=>by cases h) Pe (fun _ h=>by cases h) runStricter_row_tie rfl ⟨rfl,rfl⟩ Pe rfl acQ.plain Pe
#print axioms runStricter_card
