/-
  EarlyMore: for every text the call returns true and the text reads as before: what is right in strict code is right elsewhere, and what is right outside of functions is right within. Conditions: the row's own (the package variables as the program's text lays them, which the card ties).
-/
import Derived.Test.YtodmgaikhbmlnaaGreatDoorEm40
import Derived.Test.YtodmgaikhbmlnaaGreatDoorEm41
namespace Go.Proofs.YtodmgaikhbmlnaaGreatDoor
open Go.ChangeShapes Go.WideShapes Go.ChangeAt Go.WideMaps Go.WideElems Go.RowKit

namespace MoreRow
theorem said : Rows.EarlyMoreSaid :=
  OpenClaim.holds_of_wide 11 Tryz.f11 rfl rfl rfl rfl rfl rfl rfl ⟨rfl, rfl, rfl, rfl, rfl⟩ rfl rfl rfl rfl rfl (by kernel_rfl) Tryz.func11 closed
    (of_decide_eq_true (by kernel_rfl)) (by unfold Func.isWrapper; first | (rw [if_pos (by decide +kernel)]; kernel_rfl) | (rw [if_neg (by decide +kernel)]; exact ⟨rfl, rfl⟩))
    (fun os started H enc _ => lifted os started H enc)

theorem plain (f : FuncId) (fn : Func) (hf : Tryz.pinned.checked.prog.funcNamed "sloppyscope/sloppykeep.EarlyMore" = some f) (hfn : Tryz.pinned.checked.prog.funcs[f]? = some fn) :
    true = Tryz.pinned.checked.prog.looks [] ∧ ∀ (j : Nat) t, fn.params[j]? = some t → Tryz.pinned.checked.prog.wantsStandIn t = false := by
  obtain rfl : f = 11 := Option.some.inj ((show Tryz.prog.funcNamed "sloppyscope/sloppykeep.EarlyMore" = some 11 by kernel_rfl).symm.trans hf) |>.symm
  obtain rfl : fn = Tryz.f11 := (Option.some.inj (Tryz.func11.symm.trans hfn)).symm
  refine ⟨by kernel_rfl, fun j t ht => ?_⟩
  rw [Tryz.params11] at ht
  obtain rfl : t = 9 := by simpa using Array.mem_of_getElem? ht
  exact (show Tryz.prog.wantsStandIn 9 = false by kernel_rfl)
end MoreRow

theorem earlyMore_card : Rows.EarlyMoreCardSaid :=
  Claim7.holds_tied_plain_at .later [] _ _ _ _ MoreRow.said (fun _ h => by cases h) (by kernel_rfl) (fun _ h => by cases h) earlyMore_row_tie rfl ⟨rfl, rfl⟩ (by kernel_rfl) rfl MoreRow.plain (by kernel_rfl)
#print axioms earlyMore_card
end Go.Proofs.YtodmgaikhbmlnaaGreatDoor
