import Derived.Test.YticfnaiehdpbmaaGreatDoorCards
import Derived.Test.YticfnaiehdpbmaaGreatDoorTie
import Derived.Test.YticfnaiehdpbmaaGreatDoorOn18
set_option maxRecDepth 100000
set_option maxHeartbeats 8000000
set_option linter.all false
namespace Go.Proofs.YticfnaiehdpbmaaGreatDoor
open Go.ChangeShapes Go.WideShapes Go.ChangeAt Go.WideMaps Go.WideElems Go.RowKit
open Go.ChangeMaps (open_string shut_string)
namespace acY
abbrev laid2:=Rows.runOnRow.laid
def aFQ : List (String × DataW Unit) := [("math/bits.deBruijn32tab", Rows.laid_math_bits_deBruijn32tab), ("math/bits.deBruijn64tab", Rows.laid_math_bits_deBruijn64tab), ("internal/strconv.uint64pow10", Rows.laid_internal_strconv_uint64pow10), ("strconv.ErrRange", Rows.laid_strconv_ErrRange), ("strconv.ErrSyntax", Rows.laid_strconv_ErrSyntax), ("sloppyscope/lex.words", Rows.laid_sloppyscope_lex_words), ("sloppyscope/lex.signs", Rows.laid_sloppyscope_lex_signs), ("sloppyscope/tree.signs", Rows.laid_sloppyscope_tree_signs), ("sloppyscope/tree.heads", Rows.laid_sloppyscope_tree_heads), ("sloppyscope/run.errStopped", Rows.laid_sloppyscope_run_errStopped)]
theorem of_laid {W:World}(h:laidMetH Tryz.prog laid2 W):∃ es eb,Hp.Rw W es eb:=by
 have fq : laidMet Tryz.prog aFQ W /\ handlesMet Tryz.prog [("errors.errorType", Rows.laid_errors_errorType)] W := h; obtain ⟨hl, hh⟩ := fq; have o' := hl.tail.tail; have E6 := o'.tail.tail.tail; exact aDj (axI o') (amz hh) (atb E6) (ate E6.tail.tail.tail.tail)
theorem door_met (os:Os)(args:Array Value):laidMetH Tryz.prog laid2 ((World.doorLaid Tryz.prog 141 os).forCall (fun _ _=>0) ⟨#[],args,[]⟩).memory:=
 laidMetH_of_parts3 (fuel:=8) (laidMet_of_run' 8 PK PK) PK PK
theorem lifted (os:Os)(started:os.Started)(H:Type)(enc:TypeId × Value->H) :
  ReturnsInHanded {} Tryz.checked os 4 .any (fun w args=>(Rows.runOnSpec.pre enc Tryz.prog Tryz.f4 [] false w args/\laidMetH Tryz.prog laid2 w)/\sizedMet enc Tryz.prog Tryz.f4 (OpenSpec.ofChange Rows.runOnSpec) false w args)
   (Rows.runOnSpec.post enc Tryz.prog Tryz.f4 false true false false):=by
 refine returnsInHanded_of_change_and (C:=Tryz.checked) (X:=fun w _=>laidMetH Tryz.prog laid2 w) (fun _ _ _ hh h=>h.of_heap hh) aGJ started PK Tryz.func4
  (ChangeSpec.witness_shaped (enc:=enc) (C:=Tryz.checked) (os:=os) (X:=fun w _=>laidMetH Tryz.prog laid2 w) false (World.doorLaid Tryz.prog 141 os) #[.string ByteArray.empty,.int .i64 0] 8 rfl (World.shaped_of_RefB PK PK) PK PK PK (door_met os _)) ?_
 intro W base args a6 bb before hval0 a1 _ _ dr _;have hval:∀ (j:Nat) t v,Tryz.f4.params[j]? = some t->args[j]? = some v->Value.okWide Tryz.prog W .any base t v:=hval0;have DI:=a1;obtain⟨p,q,Dn,fZ,rfl,lj,jj⟩:=a1;have aO:DataW.TrodAll enc Tryz.prog W 0 (fun _=>true) true Tryz.f4.params.toList args.toList a6 p:=Dn;rw[Tryz.params4] at aO hval;obtain⟨v0,v1,gH,eq,aZ,p1,rfl,rfl,rfl,h0,h1⟩:=trodAll_two aO;obtain⟨rfl,rfl⟩:=trodVars_none fZ;obtain⟨s,rfl,rfl,rfl,ac⟩:=open_string Tryz.underlying9 (hval 0 9 v0 rfl rfl) h0
 obtain⟨a0,rfl,rfl,rfl,w0⟩:=open_int Tryz.underlying3 (hval 1 3 v1 rfl rfl) h1;obtain⟨es,eb,IA⟩:=of_laid dr;clear Dn hval0;simp only[List.append_nil] at DI;refine(Hp.aHv s a0 IA).mono fun e C2 ⟨aq,HJ⟩=>?_;subst aq;exact⟨_,rfl,_,_,_,[],[],[],DI,trodAll_mk1 (shut_bool Tryz.underlying4 _),trodAll_mk2 (shut_string Tryz.underlying9 ac) (shut_int Tryz.underlying3 w0),rfl,HJ.frame _,fun h=>by cases h⟩
