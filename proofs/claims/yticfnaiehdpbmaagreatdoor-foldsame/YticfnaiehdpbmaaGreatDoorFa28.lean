import Derived.Test.YticfnaiehdpbmaaGreatDoorCards
import Derived.Test.YticfnaiehdpbmaaGreatDoorTie
import Derived.Test.YticfnaiehdpbmaaGreatDoorFa27
set_option maxRecDepth 100000
set_option maxHeartbeats 0
set_option linter.all false
namespace Go.Proofs.YticfnaiehdpbmaaGreatDoor
open Go.ChangeShapes Go.WideShapes Go.ChangeAt Go.WideMaps Go.WideElems Go.RowKit
open Go.ChangeMaps (open_string shut_string)
namespace rv
abbrev ka:=Rows.foldSameRow.laid
def Q1 : List (String × DataW Unit) := [("math/bits.deBruijn32tab", Rows.laid_math_bits_deBruijn32tab), ("math/bits.deBruijn64tab", Rows.laid_math_bits_deBruijn64tab), ("internal/strconv.uint64pow10", Rows.laid_internal_strconv_uint64pow10), ("strconv.ErrRange", Rows.laid_strconv_ErrRange),  ("strconv.ErrSyntax", Rows.laid_strconv_ErrSyntax), ("sloppyscope/fold.literals", Rows.laid_sloppyscope_fold_literals), ("sloppyscope/lex.words", Rows.laid_sloppyscope_lex_words), ("sloppyscope/lex.signs", Rows.laid_sloppyscope_lex_signs), ("sloppyscope/tree.signs", Rows.laid_sloppyscope_tree_signs), ("sloppyscope/tree.heads", Rows.laid_sloppyscope_tree_heads), ("sloppyscope/run.errStopped", Rows.laid_sloppyscope_run_errStopped)]
theorem nR {a:World}(h:laidMetH Tryz.prog ka a):∃ d c,Hp.Rw a d c/\Hp.VQ a:=by
 have g : laidMet Tryz.prog Q1 a /\ handlesMet Tryz.prog [("errors.errorType", Rows.laid_errors_errorType)] a := h; obtain ⟨j, i⟩ := g; have e := j.tail.tail; have b := e.tail.tail.tail; obtain ⟨d, c, f⟩ := aEy (azU e) (aot i) (M1 b.tail) (avX b.tail.tail.tail.tail.tail); exact ⟨d, c, f, Sq b⟩
theorem mo (b:Os)(a:Array Value):laidMetH Tryz.prog ka ((World.doorLaid Tryz.prog 141 b).forCall (λ_ _=>0) ⟨#[],a,[]⟩).memory:=
 laidMetH_of_parts3 (fuel:=8) (laidMet_of_run' 8 Qs Qs) Qs Qs
theorem lifted (d:Os)(started:d.Started)(H:Type)(c:TypeId × Value->H) :
  ReturnsInHanded {} Tryz.checked d 8 .any (λa b=>(Rows.foldSameSpec.pre c Tryz.prog Tryz.f8 [] false a b/\laidMetH Tryz.prog ka a)/\sizedMet c Tryz.prog Tryz.f8 (OpenSpec.ofChange Rows.foldSameSpec) false a b)
   (Rows.foldSameSpec.post c Tryz.prog Tryz.f8 false true false false):=by
 refine returnsInHanded_of_change_and (C:=Tryz.checked) (X:=λa _=>laidMetH Tryz.prog ka a) (λ_ _ _ z h=>h.of_heap z) aLu started Qs Tryz.func8
  (ChangeSpec.witness_shaped (enc:=c) (C:=Tryz.checked) (os:=d) (X:=λa _=>laidMetH Tryz.prog ka a) false (World.doorLaid Tryz.prog 141 d) #[.string ByteArray.empty] 8 rfl (World.shaped_of_RefB Qs Qs) Qs Qs Qs (mo d _)) ?_
 intro g base b p F before hval0 i _ _ s _;have k:∀ (l:Nat) t v,Tryz.f8.params[l]? = some t->b[l]? = some v->Value.okWide Tryz.prog g .any base t v:=hval0;have f:=i;obtain⟨A,P,e,u,rfl,D,O⟩:=i;have j:DataW.TrodAll c Tryz.prog g 0 (λ_=>true) true Tryz.f8.params.toList b.toList p A:=e;rw[Tryz.params8] at j k;obtain⟨C,I,rfl,rfl,w⟩:=trodAll_one j;obtain⟨rfl,rfl⟩:=trodVars_none u;obtain⟨B,rfl,rfl,rfl,q⟩:=open_string zaldl (k 0 9 C rfl rfl) w;obtain⟨N,M,n,m⟩:=nR s
 clear e hval0;simp only[i8] at f;refine(aiG B n m).mono λL E ⟨r,o⟩=>?_;subst r;exact⟨_,rfl,_,_,_,[],[],[],f,trodAll_mk1 (shut_bool zalhs _),trodAll_mk1 (shut_string zaldl q),rfl,o.frame _,λh=>by cases h⟩
