import Derived.Test.YticfnaiehdpbmaaGreatDoorCards
import Derived.Test.YticfnaiehdpbmaaGreatDoorTie
import Derived.Test.YticfnaiehdpbmaaGreatDoorSt16
set_option maxRecDepth 100000
set_option maxHeartbeats 8000000
set_option linter.all false
namespace Go.Proofs.YticfnaiehdpbmaaGreatDoor
open Go.ChangeShapes Go.WideShapes Go.ChangeAt Go.WideMaps Go.WideElems Go.RowKit
open Go.ChangeMaps (open_string shut_string)
namespace acQ
abbrev laid2:=Rows.runStricterRow.laid
def aFR : List (String × DataW Unit) := [("math/bits.deBruijn32tab", Rows.laid_math_bits_deBruijn32tab), ("math/bits.deBruijn64tab", Rows.laid_math_bits_deBruijn64tab), ("internal/strconv.uint64pow10", Rows.laid_internal_strconv_uint64pow10), ("strconv.ErrRange", Rows.laid_strconv_ErrRange), ("strconv.ErrSyntax", Rows.laid_strconv_ErrSyntax), ("sloppyscope/lex.words", Rows.laid_sloppyscope_lex_words), ("sloppyscope/lex.signs", Rows.laid_sloppyscope_lex_signs), ("sloppyscope/tree.signs", Rows.laid_sloppyscope_tree_signs), ("sloppyscope/tree.heads", Rows.laid_sloppyscope_tree_heads), ("sloppyscope/run.errStopped", Rows.laid_sloppyscope_run_errStopped)]
theorem of_laid {W:World}(h:laidMetH Tryz.prog laid2 W):∃ es eb,Hp.Rw W es eb:=by
 have fb : laidMet Tryz.prog aFR W /\ handlesMet Tryz.prog [("errors.errorType", Rows.laid_errors_errorType)] W := h; obtain ⟨hl, hh⟩ := fb; have mN := hl.tail.tail; have EQ := mN.tail.tail.tail; exact aDg (axA mN) (amF hh) (att EQ) (atw EQ.tail.tail.tail.tail)
theorem door_met (os:Os)(args:Array Value):laidMetH Tryz.prog laid2 ((World.doorLaid Tryz.prog 141 os).forCall (fun _ _=>0) ⟨#[],args,[]⟩).memory:=
 laidMetH_of_parts3 (fuel:=8) (laidMet_of_run' 8 Pe Pe) Pe Pe
theorem lifted (os:Os)(started:os.Started)(H:Type)(enc:TypeId × Value->H) :
  ReturnsInHanded {} Tryz.checked os 5 .any (fun w args=>(Rows.runStricterSpec.pre enc Tryz.prog Tryz.f5 [] false w args/\laidMetH Tryz.prog laid2 w)/\sizedMet enc Tryz.prog Tryz.f5 (OpenSpec.ofChange Rows.runStricterSpec) false w args)
   (Rows.runStricterSpec.post enc Tryz.prog Tryz.f5 false true false false):=by
 refine returnsInHanded_of_change_and (C:=Tryz.checked) (X:=fun w _=>laidMetH Tryz.prog laid2 w) (fun _ _ _ hh h=>h.of_heap hh) aGF started Pe Tryz.func5
  (ChangeSpec.witness_shaped (enc:=enc) (C:=Tryz.checked) (os:=os) (X:=fun w _=>laidMetH Tryz.prog laid2 w) false (World.doorLaid Tryz.prog 141 os) #[.string ByteArray.empty] 8 rfl (World.shaped_of_RefB Pe Pe) Pe Pe Pe (door_met os _)) ?_
 intro W base args aW gs before hval0 a6 _ _ dA _;have hval:∀ (j:Nat) t v,Tryz.f5.params[j]? = some t->args[j]? = some v->Value.okWide Tryz.prog W .any base t v:=hval0;have Dz:=a6;obtain⟨p,q,Di,fF,rfl,lq,ji⟩:=a6;have be:DataW.TrodAll enc Tryz.prog W 0 (fun _=>true) true Tryz.f5.params.toList args.toList aW p:=Di;rw[Tryz.params5] at be hval;obtain⟨v0,gH,rfl,rfl,h0⟩:=trodAll_one be;obtain⟨rfl,rfl⟩:=trodVars_none fF;obtain⟨s,rfl,rfl,rfl,ab⟩:=open_string Tryz.underlying9 (hval 0 9 v0 rfl rfl) h0;have⟨es,eb,H6⟩:=of_laid dA
 clear Di hval0;simp only[List.append_nil] at Dz;refine(Hp.aq5 s H6).mono fun e CU ⟨ao,Hn⟩=>?_;subst ao;exact⟨_,rfl,_,_,_,[],[],[],Dz,trodAll_mk1 (shut_bool Tryz.underlying4 _),trodAll_mk1 (shut_string Tryz.underlying9 ab),rfl,Hn.frame _,fun h=>by cases h⟩
