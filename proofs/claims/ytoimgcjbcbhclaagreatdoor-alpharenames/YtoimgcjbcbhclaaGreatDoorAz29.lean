/-
  AlphaRenames: for every text, every number and every two texts of names the call returns true and all read as before: a program with a name of a scope changed, or why it may not be, is the document's, and the program itself stays. Conditions: the row's own (the package variables as the program's text lays them, which the card ties).
-/
import Derived.Test.YtoimgcjbcbhclaaGreatDoorAz28
import Derived.Test.YtoimgcjbcbhclaaGreatDoorAz1
set_option maxRecDepth 100000
set_option maxHeartbeats 0
set_option linter.all false
namespace Go.Proofs.YtoimgcjbcbhclaaGreatDoor
open Go.ChangeShapes Go.WideShapes Go.ChangeAt Go.WideMaps Go.WideElems Go.RowKit
namespace aaz
theorem said:Rows.AlphaRenamesSaid:=
 OpenClaim.holds_of_wide 10 Tryz.f10 rfl rfl rfl rfl rfl rfl rfl ⟨rfl,rfl,rfl,rfl,rfl⟩ rfl rfl rfl rfl rfl (by kernel_rfl) Tryz.func10 closed
  (of_decide_eq_true (by kernel_rfl)) (by unfold Func.isWrapper;first | (rw[zalak (by decide +kernel)];kernel_rfl) | (rw[zalah (by decide +kernel)];exact⟨rfl,rfl⟩))
  (λos started H enc _=>lifted os started H enc)
theorem plain (f : FuncId) (gq : Func) (an : Tryz.pinned.checked.prog.funcNamed "sloppyscope/sloppylaw.AlphaRenames" = some f) (iq : Tryz.pinned.checked.prog.funcs[f]? = some gq) :
  true=Tryz.pinned.checked.prog.looks []/\∀ (j:Nat) t,gq.params[j]? = some t->Tryz.pinned.checked.prog.wantsStandIn t=false:=by
 obtain rfl : f = 10 := zalbo ((show Tryz.prog.funcNamed "sloppyscope/sloppylaw.AlphaRenames" = some 10 by kernel_rfl).symm.trans an) |>.symm; obtain rfl : gq = Tryz.f10 := (zalbo (Tryz.func10.symm.trans iq)).symm; refine ⟨by kernel_rfl, λj t aH => ?_⟩; rw [Tryz.params10] at aH; have gh : t = 9 \/ t = 3 := by
  have:=Array.mem_of_getElem? aH;simp at this
  rcases this with h|h|h
  ·exact zalad h
  ·exact zalal h
  ·exact zalad h
 rcases gh with rfl|rfl
 ·exact(show Tryz.prog.wantsStandIn 9=false by kernel_rfl)
 ·exact(show Tryz.prog.wantsStandIn 3=false by kernel_rfl)
end aaz
theorem alphaRenames_card:Rows.AlphaRenamesCardSaid:=
 Claim7.holds_tied_plain_at .later [] _ _ _ _ aaz.said (λ_ h=>by cases h) (by kernel_rfl) (λ_ h=>by cases h) alphaRenames_row_tie rfl ⟨rfl,rfl⟩ (by kernel_rfl) rfl aaz.plain (by kernel_rfl)
#print axioms alphaRenames_card
