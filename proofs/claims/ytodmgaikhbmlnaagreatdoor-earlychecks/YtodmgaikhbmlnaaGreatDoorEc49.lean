/-
  EarlyChecks: for every text, and either answer to 'strict' and 'inside', the call returns true and the arguments read as before: what is wrong first with a program, ahead of running, is what the document's own answer says. Conditions: the row's own (the package variables as the program's text lays them, which the card ties).
-/
import Derived.Test.YtodmgaikhbmlnaaGreatDoorEc47
import Derived.Test.YtodmgaikhbmlnaaGreatDoorEc48
namespace Go.Proofs.YtodmgaikhbmlnaaGreatDoor
open Go.ChangeShapes Go.WideShapes Go.ChangeAt Go.WideMaps Go.WideElems Go.RowKit
namespace EcRow
theorem said : Rows.EarlyChecksSaid :=
 OpenClaim.holds_of_wide 10 Tryz.f10 rfl rfl rfl rfl rfl rfl rfl ⟨rfl, rfl, rfl, rfl, rfl⟩ rfl rfl rfl rfl rfl (by kernel_rfl) Tryz.func10 closed
  (of_decide_eq_true (by kernel_rfl)) (by unfold Func.isWrapper; first | (rw [if_pos (by decide +kernel)]; kernel_rfl) | (rw [if_neg (by decide +kernel)]; exact ⟨rfl, rfl⟩))
  (fun os started H enc _ => lifted os started H enc)
theorem plain (f : FuncId) (fn : Func) (hf : Tryz.pinned.checked.prog.funcNamed "sloppyscope/sloppylaw.EarlyChecks" = some f) (hfn : Tryz.pinned.checked.prog.funcs[f]? = some fn) :
  true = Tryz.pinned.checked.prog.looks [] ∧ ∀ (j : Nat) t, fn.params[j]? = some t → Tryz.pinned.checked.prog.wantsStandIn t = false := by
 obtain rfl : f = 10 := Option.some.inj ((show Tryz.prog.funcNamed "sloppyscope/sloppylaw.EarlyChecks" = some 10 by kernel_rfl).symm.trans hf) |>.symm
 obtain rfl : fn = Tryz.f10 := (Option.some.inj (Tryz.func10.symm.trans hfn)).symm
 refine ⟨by kernel_rfl, fun j t ht => ?_⟩
 rw [Tryz.params10] at ht
 have hm : t = 9 ∨ t = 4 := by
  have := Array.mem_of_getElem? ht; simp at this; omega
 rcases hm with rfl | rfl
 ·
  exact (show Tryz.prog.wantsStandIn 9 = false by kernel_rfl)
 ·
  exact (show Tryz.prog.wantsStandIn 4 = false by kernel_rfl)
end EcRow
theorem earlyChecks_card : Rows.EarlyChecksCardSaid :=
 Claim7.holds_tied_plain_at .later [] _ _ _ _ EcRow.said (fun _ h => by cases h) (by kernel_rfl) (fun _ h => by cases h) earlyChecks_row_tie rfl ⟨rfl, rfl⟩ (by kernel_rfl) rfl EcRow.plain (by kernel_rfl)
#print axioms earlyChecks_card
end Go.Proofs.YtodmgaikhbmlnaaGreatDoor
