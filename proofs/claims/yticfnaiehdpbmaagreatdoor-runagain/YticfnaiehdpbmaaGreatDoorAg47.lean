/-
  RunAgain: for every text the call returns true and the text reads as before: a program does the same each time, and its steps are never more than there may be. Conditions: the row's own (the package variables as the program's text lays them, which the card ties).
-/
import Derived.Test.YticfnaiehdpbmaaGreatDoorAg46
import Derived.Test.YticfnaiehdpbmaaGreatDoorAg1
set_option maxRecDepth 100000
set_option maxHeartbeats 8000000
set_option linter.unusedVariables false
namespace Go.Proofs.YticfnaiehdpbmaaGreatDoor
open Go.ChangeShapes Go.WideShapes Go.ChangeAt Go.WideMaps Go.WideElems Go.RowKit
namespace aaq
theorem said:Rows.RunAgainSaid:=
 OpenClaim.holds_of_wide 3 Tryz.f3 rfl rfl rfl rfl rfl rfl rfl ⟨rfl,rfl,rfl,rfl,rfl⟩ rfl rfl rfl rfl rfl (by kernel_rfl) Tryz.func3 closed
  (of_decide_eq_true (by kernel_rfl)) (by unfold Func.isWrapper;first | (rw[if_pos (by decide +kernel)];kernel_rfl) | (rw[if_neg (by decide +kernel)];exact⟨rfl,rfl⟩))
  (fun os started H enc _=>lifted os started H enc)
theorem plain (f : FuncId) (fn : Func) (aG : Tryz.pinned.checked.prog.funcNamed "sloppyscope/sloppykeep.RunAgain" = some f) (hs : Tryz.pinned.checked.prog.funcs[f]? = some fn) :
  true=Tryz.pinned.checked.prog.looks []/\∀ (j:Nat) t,fn.params[j]? = some t->Tryz.pinned.checked.prog.wantsStandIn t=false:=by
 obtain rfl : f = 3 := Option.some.inj ((show Tryz.prog.funcNamed "sloppyscope/sloppykeep.RunAgain" = some 3 by kernel_rfl).symm.trans aG) |>.symm; obtain rfl : fn = Tryz.f3 := (Option.some.inj (Tryz.func3.symm.trans hs)).symm; refine ⟨by kernel_rfl, fun j t a' => ?_⟩; rw [Tryz.params3] at a'; obtain rfl : t = 9 := by simpa using Array.mem_of_getElem? a'
 exact(show Tryz.prog.wantsStandIn 9=false by kernel_rfl)
end aaq
theorem runAgain_card:Rows.RunAgainCardSaid:=
 Claim7.holds_tied_plain_at .later [] _ _ _ _ aaq.said (fun _ h=>by cases h) (by kernel_rfl) (fun _ h=>by cases h) runAgain_row_tie rfl ⟨rfl,rfl⟩ (by kernel_rfl) rfl aaq.plain (by kernel_rfl)
#print axioms runAgain_card
end Go.Proofs.YticfnaiehdpbmaaGreatDoor
