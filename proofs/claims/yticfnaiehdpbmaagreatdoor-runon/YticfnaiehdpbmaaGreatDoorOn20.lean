/-
  RunOn: for every text and number the call returns true and the text reads as before: what a program prints is the beginning of what it prints with one more statement behind it; if it did not end well, nothing more is done. Conditions: the row's own (the package variables as the program's text lays them, which the card ties).
-/
import Derived.Test.YticfnaiehdpbmaaGreatDoorOn19
import Derived.Test.YticfnaiehdpbmaaGreatDoorOn1
set_option maxRecDepth 100000
set_option maxHeartbeats 8000000
set_option linter.all false
namespace Go.Proofs.YticfnaiehdpbmaaGreatDoor
open Go.ChangeShapes Go.WideShapes Go.ChangeAt Go.WideMaps Go.WideElems Go.RowKit
namespace acY
theorem said:Rows.RunOnSaid:=
 OpenClaim.holds_of_wide 4 Tryz.f4 rfl rfl rfl rfl rfl rfl rfl ⟨rfl,rfl,rfl,rfl,rfl⟩ rfl rfl rfl rfl rfl PK Tryz.func4 closed
  (of_decide_eq_true PK) (by unfold Func.isWrapper;first | (rw[if_pos (by decide +kernel)];kernel_rfl) | (rw[if_neg (by decide +kernel)];exact⟨rfl,rfl⟩))
  (fun os started H enc _=>lifted os started H enc)
theorem plain (f : FuncId) (fn : Func) (aH : Tryz.pinned.checked.prog.funcNamed "sloppyscope/sloppykeep.RunOn" = some f) (hA : Tryz.pinned.checked.prog.funcs[f]? = some fn) :
  true=Tryz.pinned.checked.prog.looks []/\∀ (j:Nat) t,fn.params[j]? = some t->Tryz.pinned.checked.prog.wantsStandIn t=false:=by
 obtain rfl : f = 4 := Option.some.inj ((show Tryz.prog.funcNamed "sloppyscope/sloppykeep.RunOn" = some 4 by kernel_rfl).symm.trans aH) |>.symm; obtain rfl : fn = Tryz.f4 := (Option.some.inj (Tryz.func4.symm.trans hA)).symm; refine ⟨by kernel_rfl, fun j t bc => ?_⟩; rw [Tryz.params4] at bc; have JJ : t = 9 \/ t = 3 := by simpa using Array.mem_of_getElem? bc
 rcases JJ with rfl|rfl
 ·exact(show Tryz.prog.wantsStandIn 9=false by kernel_rfl)
 ·exact(show Tryz.prog.wantsStandIn 3=false by kernel_rfl)
end acY
theorem runOn_card:Rows.RunOnCardSaid:=
 Claim7.holds_tied_plain_at .later [] _ _ _ _ acY.said (fun _ h=>by cases h) PK (fun _ h=>by cases h) runOn_row_tie rfl ⟨rfl,rfl⟩ PK rfl acY.plain PK
#print axioms runOn_card
