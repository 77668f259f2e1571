/-
  RunNumbers: for every text the call returns true and the text reads as before: each node's number is the document's. Conditions: the row's own (the package variables as the program's text lays them, which the card ties).
-/
import Derived.Test.YtoimgcjbcbhclaaGreatDoorRn40
import Derived.Test.YtoimgcjbcbhclaaGreatDoorRn41
namespace Go.Proofs.YtoimgcjbcbhclaaGreatDoor
open Go.ChangeShapes Go.WideShapes Go.ChangeAt Go.WideMaps Go.WideElems Go.RowKit
namespace RnRow
theorem said : Rows.RunNumbersSaid :=
 OpenClaim.holds_of_wide 6 Tryz.f6 rfl rfl rfl rfl rfl rfl rfl ⟨rfl, rfl, rfl, rfl, rfl⟩ rfl rfl rfl rfl rfl (by kernel_rfl) Tryz.func6 closed
  (of_decide_eq_true (by kernel_rfl)) (by unfold Func.isWrapper; first | (rw [if_pos (by decide +kernel)]; kernel_rfl) | (rw [if_neg (by decide +kernel)]; exact ⟨rfl, rfl⟩))
  (fun os started H enc _ => lifted os started H enc)
theorem plain (f : FuncId) (fn : Func) (hf : Tryz.pinned.checked.prog.funcNamed "sloppyscope/sloppylaw.RunNumbers" = some f) (hfn : Tryz.pinned.checked.prog.funcs[f]? = some fn) :
  true = Tryz.pinned.checked.prog.looks [] ∧ ∀ (j : Nat) t, fn.params[j]? = some t → Tryz.pinned.checked.prog.wantsStandIn t = false := by
 obtain rfl : f = 6 := Option.some.inj ((show Tryz.prog.funcNamed "sloppyscope/sloppylaw.RunNumbers" = some 6 by kernel_rfl).symm.trans hf) |>.symm
 obtain rfl : fn = Tryz.f6 := (Option.some.inj (Tryz.func6.symm.trans hfn)).symm
 refine ⟨by kernel_rfl, fun j t ht => ?_⟩
 rw [Tryz.params6] at ht
 obtain rfl : t = 9 := by simpa using Array.mem_of_getElem? ht
 exact (show Tryz.prog.wantsStandIn 9 = false by kernel_rfl)
end RnRow
theorem runNumbers_card : Rows.RunNumbersCardSaid :=
 Claim7.holds_tied_plain_at .later [] _ _ _ _ RnRow.said (fun _ h => by cases h) (by kernel_rfl) (fun _ h => by cases h) runNumbers_row_tie rfl ⟨rfl, rfl⟩ (by kernel_rfl) rfl RnRow.plain (by kernel_rfl)
#print axioms runNumbers_card
end Go.Proofs.YtoimgcjbcbhclaaGreatDoor
