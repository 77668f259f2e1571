import Derived.Test.YticfnaiehdpbmaaGreatDoorCards
import Derived.Test.YticfnaiehdpbmaaGreatDoorTie
import Derived.Test.YticfnaiehdpbmaaGreatDoorWa16
set_option maxRecDepth 100000
set_option maxHeartbeats 0
set_option linter.all false
namespace Go.Proofs.YticfnaiehdpbmaaGreatDoor
open Go.ChangeShapes Go.WideShapes Go.ChangeAt Go.WideMaps Go.WideElems Go.RowKit
open Go.ChangeMaps (open_string shut_string)
namespace qv
abbrev kn:=Rows.whereSureRow.laid
def aIk : List (String × DataW Unit) := [("math/bits.deBruijn32tab", Rows.laid_math_bits_deBruijn32tab), ("math/bits.deBruijn64tab", Rows.laid_math_bits_deBruijn64tab), ("internal/strconv.uint64pow10", Rows.laid_internal_strconv_uint64pow10), ("strconv.ErrRange", Rows.laid_strconv_ErrRange), ("strconv.ErrSyntax", Rows.laid_strconv_ErrSyntax), ("sloppyscope/lex.words", Rows.laid_sloppyscope_lex_words), ("sloppyscope/lex.signs", Rows.laid_sloppyscope_lex_signs), ("sloppyscope/tree.signs", Rows.laid_sloppyscope_tree_signs), ("sloppyscope/tree.heads", Rows.laid_sloppyscope_tree_heads), ("sloppyscope/run.errStopped", Rows.laid_sloppyscope_run_errStopped)]
theorem nY {W:World}(h:laidMetH Tryz.prog kn W):∃d c,Hp.Rw W d c:=by
 have e : laidMet Tryz.prog aIk W /\ handlesMet Tryz.prog [("errors.errorType", Rows.laid_errors_errorType)] W := h; obtain ⟨g, f⟩ := e; have b := g.tail.tail; have a := b.tail.tail.tail; exact Ww (W5 b) (W1 f) (T2 a) (SZ a.tail.tail.tail.tail)
theorem m6 (b:Os)(a:Array Value):laidMetH Tryz.prog kn ((World.doorLaid Tryz.prog 141 b).forCall (λ_ _=>0) ⟨#[],a,[]⟩).memory:=
 laidMetH_of_parts3 (fuel:=8) (laidMet_of_run' 8 Qz Qz) Qz Qz
theorem lifted (d:Os)(started:d.Started)(H:Type)(c:TypeId×Value->H) :
  ReturnsInHanded {} Tryz.checked d 6 .any (λa b=>(Rows.whereSureSpec.pre c Tryz.prog Tryz.f6 [] false a b/\laidMetH Tryz.prog kn a)/\sizedMet c Tryz.prog Tryz.f6 (OpenSpec.ofChange Rows.whereSureSpec) false a b)
   (Rows.whereSureSpec.post c Tryz.prog Tryz.f6 false true false false):=by
 refine returnsInHanded_of_change_and (C:=Tryz.checked) (X:=λa _=>laidMetH Tryz.prog kn a) (λ_ _ _ u h=>h.of_heap u) aJn started Qz Tryz.func6
  (ChangeSpec.witness_shaped (enc:=c) (C:=Tryz.checked) (os:=d) (X:=λa _=>laidMetH Tryz.prog kn a) false (World.doorLaid Tryz.prog 141 d) #[.string ByteArray.empty] 8 rfl (World.shaped_of_RefB Qz Qz) Qz Qz Qz (m6 d _)) ?_
 intro W base b n C before hval0 f _ _ q _;have i:∀(j:Nat) t v,Tryz.f6.params[j]?=some t->b[j]?=some v->Value.okWide Tryz.prog W .any base t v:=hval0;have e:=f;obtain⟨w,N,k,r,rfl,M,L⟩:=f;have g:DataW.TrodAll c Tryz.prog W 0 (λ_=>true) true Tryz.f6.params.toList b.toList n w:=k;rw[Tryz.params6] at g i;obtain⟨A,E,rfl,rfl,s⟩:=trodAll_one g;obtain⟨rfl,rfl⟩:=trodVars_none r;obtain⟨z,rfl,rfl,rfl,o⟩:=open_string zalea (i 0 9 A rfl rfl) s;obtain⟨I,F,m⟩:=nY q
 clear k hval0;simp only[iX] at e;refine(Hp.N1 z m).mono λD B ⟨p,l⟩=>?_;subst p;exact⟨_,rfl,_,_,_,[],[],[],e,trodAll_mk1 (shut_bool zalhj _),trodAll_mk1 (shut_string zalea o),rfl,l.frame _,λh=>by cases h⟩
