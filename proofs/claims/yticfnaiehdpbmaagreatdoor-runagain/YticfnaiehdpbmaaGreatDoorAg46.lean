import Derived.Test.YticfnaiehdpbmaaGreatDoorCards
import Derived.Test.YticfnaiehdpbmaaGreatDoorTie
import Derived.Test.YticfnaiehdpbmaaGreatDoorAg44
import Derived.Test.YticfnaiehdpbmaaGreatDoorAg45
set_option maxRecDepth 100000
set_option maxHeartbeats 8000000
set_option linter.unusedVariables false
namespace Go.Proofs.YticfnaiehdpbmaaGreatDoor
open Go.ChangeShapes Go.WideShapes Go.ChangeAt Go.WideMaps Go.WideElems Go.RowKit
open Go.ChangeMaps (open_string shut_string)
namespace aaq
abbrev laid2:=Rows.runAgainRow.laid
def awF : List (String × DataW Unit) := [("math/bits.deBruijn32tab", Rows.laid_math_bits_deBruijn32tab), ("math/bits.deBruijn64tab", Rows.laid_math_bits_deBruijn64tab), ("internal/strconv.uint64pow10", Rows.laid_internal_strconv_uint64pow10), ("strconv.ErrRange", Rows.laid_strconv_ErrRange), ("strconv.ErrSyntax", Rows.laid_strconv_ErrSyntax), ("sloppyscope/lex.words", Rows.laid_sloppyscope_lex_words), ("sloppyscope/lex.signs", Rows.laid_sloppyscope_lex_signs), ("sloppyscope/tree.signs", Rows.laid_sloppyscope_tree_signs), ("sloppyscope/tree.heads", Rows.laid_sloppyscope_tree_heads), ("sloppyscope/run.errStopped", Rows.laid_sloppyscope_run_errStopped)]
theorem of_laid {W:World}(h:laidMetH Tryz.prog laid2 W):∃ es eb,Hp.Rw W es eb:=by
 have fj : laidMet Tryz.prog awF W /\ handlesMet Tryz.prog [("errors.errorType", Rows.laid_errors_errorType)] W := h; obtain ⟨hl, hh⟩ := fj; have rB := hl.tail.tail; have EN := rB.tail.tail.tail; exact awG (asR rB) (ajn hh) (aoH EN) (aoI EN.tail.tail.tail.tail)
theorem door_met (os:Os)(args:Array Value):laidMetH Tryz.prog laid2 ((World.doorLaid Tryz.prog 141 os).forCall (fun _ _=>0) ⟨#[],args,[]⟩).memory:=
 laidMetH_of_parts3 (fuel:=8) (laidMet_of_run' 8 (by kernel_rfl) (by kernel_rfl)) (by kernel_rfl) (by kernel_rfl)
theorem lifted (os:Os)(started:os.Started)(H:Type)(enc:TypeId × Value->H) :
  ReturnsInHanded {} Tryz.checked os 3 .any (fun w args=>(Rows.runAgainSpec.pre enc Tryz.prog Tryz.f3 [] false w args/\laidMetH Tryz.prog laid2 w)/\sizedMet enc Tryz.prog Tryz.f3 (OpenSpec.ofChange Rows.runAgainSpec) false w args)
   (Rows.runAgainSpec.post enc Tryz.prog Tryz.f3 false true false false):=by
 refine returnsInHanded_of_change_and (C:=Tryz.checked) (X:=fun w _=>laidMetH Tryz.prog laid2 w) (fun _ _ _ hh h=>h.of_heap hh) aDE started (by kernel_rfl) Tryz.func3
  (ChangeSpec.witness_shaped (enc:=enc) (C:=Tryz.checked) (os:=os) (X:=fun w _=>laidMetH Tryz.prog laid2 w) false (World.doorLaid Tryz.prog 141 os) #[.string ByteArray.empty] 8 rfl (World.shaped_of_RefB (by kernel_rfl) (by kernel_rfl)) (by kernel_rfl) (by kernel_rfl) (by kernel_rfl) (door_met os _)) ?_
 intro W base args a1 bH before hval0 a6 _ _ dz _;have hval:∀ (j:Nat) t v,Tryz.f3.params[j]? = some t->args[j]? = some v->Value.okWide Tryz.prog W .any base t v:=hval0;have DH:=a6;obtain⟨p,q,Dp,fV,rfl,ml,jd⟩:=a6;have dK:DataW.TrodAll enc Tryz.prog W 0 (fun _=>true) true Tryz.f3.params.toList args.toList a1 p:=Dp;rw[Tryz.params3] at dK hval;obtain⟨v0,gC,rfl,rfl,h0⟩:=trodAll_one dK;obtain⟨rfl,rfl⟩:=trodVars_none fV;obtain⟨s,rfl,rfl,rfl,ae⟩:=open_string Tryz.underlying9 (hval 0 9 v0 rfl rfl) h0;obtain⟨es,eb,H1⟩:=of_laid dz
 clear Dp hval0;simp only[List.append_nil] at DH;refine(Hp.aoG s H1).mono fun e CR ⟨au,Hi⟩=>?_;subst au;exact⟨_,rfl,_,_,_,[],[],[],DH,trodAll_mk1 (shut_bool Tryz.underlying4 _),trodAll_mk1 (shut_string Tryz.underlying9 ae),rfl,Hi.frame _,fun h=>by cases h⟩
end aaq
end Go.Proofs.YticfnaiehdpbmaaGreatDoor
