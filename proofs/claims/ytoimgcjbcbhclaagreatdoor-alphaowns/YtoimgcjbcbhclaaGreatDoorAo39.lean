/-
  AlphaOwns: for every text and every number the call returns true and both read as before: the names of the scope that the node of that number has are the document's, and a copy is the same program. Conditions: the row's own (the package variables as the program's text lays them, which the card ties).
-/
import Derived.Test.YtoimgcjbcbhclaaGreatDoorAo37
import Derived.Test.YtoimgcjbcbhclaaGreatDoorAo38
namespace Go.Proofs.YtoimgcjbcbhclaaGreatDoor
open Go.ChangeShapes Go.WideShapes Go.ChangeAt Go.WideMaps Go.WideElems Go.RowKit
namespace AoRow
theorem said : Rows.AlphaOwnsSaid :=
 OpenClaim.holds_of_wide 9 Tryz.f9 rfl rfl rfl rfl rfl rfl rfl ⟨rfl, rfl, rfl, rfl, rfl⟩ rfl rfl rfl rfl rfl (by kernel_rfl) Tryz.func9 closed
  (of_decide_eq_true (by kernel_rfl)) (by unfold Func.isWrapper; first | (rw [if_pos (by decide +kernel)]; kernel_rfl) | (rw [if_neg (by decide +kernel)]; exact ⟨rfl, rfl⟩))
  (fun os started H enc _ => lifted os started H enc)
theorem plain (f : FuncId) (fn : Func) (hf : Tryz.pinned.checked.prog.funcNamed "sloppyscope/sloppylaw.AlphaOwns" = some f) (hfn : Tryz.pinned.checked.prog.funcs[f]? = some fn) :
  true = Tryz.pinned.checked.prog.looks [] ∧ ∀ (j : Nat) t, fn.params[j]? = some t → Tryz.pinned.checked.prog.wantsStandIn t = false := by
 obtain rfl : f = 9 := Option.some.inj ((show Tryz.prog.funcNamed "sloppyscope/sloppylaw.AlphaOwns" = some 9 by kernel_rfl).symm.trans hf) |>.symm
 obtain rfl : fn = Tryz.f9 := (Option.some.inj (Tryz.func9.symm.trans hfn)).symm
 refine ⟨by kernel_rfl, fun j t ht => ?_⟩
 rw [Tryz.params9] at ht
 have ht2 : t = 9 ∨ t = 3 := by simpa using Array.mem_of_getElem? ht
 rcases ht2 with rfl | rfl
 ·
  exact (show Tryz.prog.wantsStandIn 9 = false by kernel_rfl)
 ·
  exact (show Tryz.prog.wantsStandIn 3 = false by kernel_rfl)
end AoRow
theorem alphaOwns_card : Rows.AlphaOwnsCardSaid :=
 Claim7.holds_tied_plain_at .later [] _ _ _ _ AoRow.said (fun _ h => by cases h) (by kernel_rfl) (fun _ h => by cases h) alphaOwns_row_tie rfl ⟨rfl, rfl⟩ (by kernel_rfl) rfl AoRow.plain (by kernel_rfl)
#print axioms alphaOwns_card
end Go.Proofs.YtoimgcjbcbhclaaGreatDoor
