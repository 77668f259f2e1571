/-
  WhereTells: for every text the call returns true and the text reads as before: in which scope each name lies, as far as the text tells, and whether that is sure, is the document's. Conditions: the row's own (the package variables as the program's text lays them, which the card ties).
-/
import Derived.Test.YtoimgcjbcbhclaaGreatDoorWt41
import Derived.Test.YtoimgcjbcbhclaaGreatDoorWt42
namespace Go.Proofs.YtoimgcjbcbhclaaGreatDoor
open Go.ChangeShapes Go.WideShapes Go.ChangeAt Go.WideMaps Go.WideElems Go.RowKit
namespace WtRow
theorem said:Rows.WhereTellsSaid:=
 OpenClaim.holds_of_wide 7 Tryz.f7 rfl rfl rfl rfl rfl rfl rfl ⟨rfl,rfl,rfl,rfl,rfl⟩ rfl rfl rfl rfl rfl (by kernel_rfl) Tryz.func7 closed
  (of_decide_eq_true (by kernel_rfl)) (by unfold Func.isWrapper;first | (rw[if_pos (by decide +kernel)];kernel_rfl) | (rw[if_neg (by decide +kernel)];exact⟨rfl,rfl⟩))
  (fun os started H enc _=>lifted os started H enc)
theorem plain (f : FuncId) (fn : Func) (hf : Tryz.pinned.checked.prog.funcNamed "sloppyscope/sloppylaw.WhereTells" = some f) (hfn : Tryz.pinned.checked.prog.funcs[f]? = some fn) :
  true=Tryz.pinned.checked.prog.looks []∧∀ (j:Nat) t,fn.params[j]? = some t→Tryz.pinned.checked.prog.wantsStandIn t=false:=by
 obtain rfl : f = 7 := Option.some.inj ((show Tryz.prog.funcNamed "sloppyscope/sloppylaw.WhereTells" = some 7 by kernel_rfl).symm.trans hf) |>.symm
 obtain rfl:fn=Tryz.f7:=(Option.some.inj (Tryz.func7.symm.trans hfn)).symm
 refine⟨by kernel_rfl,fun j t ht=>?_⟩
 rw[Tryz.params7] at ht
 obtain rfl:t=9:=by simpa using Array.mem_of_getElem? ht
 exact(show Tryz.prog.wantsStandIn 9=false by kernel_rfl)
end WtRow
theorem whereTells_card:Rows.WhereTellsCardSaid:=
 Claim7.holds_tied_plain_at .later [] _ _ _ _ WtRow.said (fun _ h=>by cases h) (by kernel_rfl) (fun _ h=>by cases h) whereTells_row_tie rfl ⟨rfl,rfl⟩ (by kernel_rfl) rfl WtRow.plain (by kernel_rfl)
#print axioms whereTells_card
end Go.Proofs.YtoimgcjbcbhclaaGreatDoor
