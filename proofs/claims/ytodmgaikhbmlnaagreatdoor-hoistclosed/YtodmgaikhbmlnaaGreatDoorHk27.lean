/-
  HoistClosed: for every text the call returns true and the text reads as before: with a var for each of its free names a program has none. Conditions: the row's own (the package variables as the program's text lays them, which the card ties).
-/
import Derived.Test.YtodmgaikhbmlnaaGreatDoorHk25
import Derived.Test.YtodmgaikhbmlnaaGreatDoorHk26
namespace Go.Proofs.YtodmgaikhbmlnaaGreatDoor
open Go.ChangeShapes Go.WideShapes Go.ChangeAt Go.WideMaps Go.WideElems Go.RowKit
namespace HkRow
theorem said : Rows.HoistClosedSaid :=
 OpenClaim.holds_of_wide 9 Tryz.f9 rfl rfl rfl rfl rfl rfl rfl ⟨rfl, rfl, rfl, rfl, rfl⟩ rfl rfl rfl rfl rfl (by kernel_rfl) Tryz.func9 closed
  (of_decide_eq_true (by kernel_rfl)) (by unfold Func.isWrapper; first | (rw [if_pos (by decide +kernel)]; kernel_rfl) | (rw [if_neg (by decide +kernel)]; exact ⟨rfl, rfl⟩))
  (fun os started H enc _ => lifted os started H enc)
theorem plain (f : FuncId) (fn : Func) (hf : Tryz.pinned.checked.prog.funcNamed "sloppyscope/sloppykeep.HoistClosed" = some f) (hfn : Tryz.pinned.checked.prog.funcs[f]? = some fn) :
  true = Tryz.pinned.checked.prog.looks [] ∧ ∀ (j : Nat) t, fn.params[j]? = some t → Tryz.pinned.checked.prog.wantsStandIn t = false := by
 obtain rfl : f = 9 := Option.some.inj ((show Tryz.prog.funcNamed "sloppyscope/sloppykeep.HoistClosed" = some 9 by kernel_rfl).symm.trans hf) |>.symm
 obtain rfl : fn = Tryz.f9 := (Option.some.inj (Tryz.func9.symm.trans hfn)).symm
 refine ⟨by kernel_rfl, fun j t ht => ?_⟩
 rw [Tryz.params9] at ht
 obtain rfl : t = 9 := by simpa using Array.mem_of_getElem? ht
 exact (show Tryz.prog.wantsStandIn 9 = false by kernel_rfl)
end HkRow
theorem hoistClosed_card : Rows.HoistClosedCardSaid :=
 Claim7.holds_tied_plain_at .later [] _ _ _ _ HkRow.said (fun _ h => by cases h) (by kernel_rfl) (fun _ h => by cases h) hoistClosed_row_tie rfl ⟨rfl, rfl⟩ (by kernel_rfl) rfl HkRow.plain (by kernel_rfl)
#print axioms hoistClosed_card
end Go.Proofs.YtodmgaikhbmlnaaGreatDoor
