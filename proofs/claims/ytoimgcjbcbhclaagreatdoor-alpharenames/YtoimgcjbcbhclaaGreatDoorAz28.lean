import Derived.Test.YtoimgcjbcbhclaaGreatDoorCards
import Derived.Test.YtoimgcjbcbhclaaGreatDoorTie
import Derived.Test.YtoimgcjbcbhclaaGreatDoorAz27
import Derived.LaidHandle
import Derived.Carry
set_option maxRecDepth 100000
set_option maxHeartbeats 0
set_option linter.all false
namespace Go.Proofs.YtoimgcjbcbhclaaGreatDoor
open Go.ChangeShapes Go.WideShapes Go.ChangeAt Go.WideMaps Go.WideElems Go.RowKit
open Go.ChangeMaps (open_string shut_string)
namespace aaz
abbrev laid2:=Rows.alphaRenamesRow.laid
theorem aFm : Tryz.prog.globalNamed "errors.errorType" = some 0 := by kernel_rfl
theorem awL : (Tryz.prog.cutTypes.find? (·.1 == "internal/reflectlite.rtype")).map (·.2) = some 208 := by kernel_rfl
theorem oneRow:((List.range 336).filter λt=>Tryz.prog.rowNamed t [101,114,114,111,114])=[28]:=by kernel_rfl
theorem asM:Tryz.prog.types.size=336:=by kernel_rfl
theorem am6 : Tryz.prog.globalNamed "sloppyscope/sloppyref.Fine" = some 1 := by kernel_rfl
theorem awM:(Tryz.prog.globals[1]?).map (·.type)=some 86:=by kernel_rfl
theorem ahS:∀ i,i<19->(ML.getD i ByteArray.empty).size<=3:=by decide +kernel
theorem cells23:Tryz.prog.cellsOf 31=1:=by kernel_rfl
theorem cells25:Tryz.prog.cellsOf 86=2:=by kernel_rfl
theorem apE {L : World} {fuel : Nat} {bl : Array Value} {p : List MemPlace} (a0 : L.var? Tryz.prog "sloppyscope/sloppyref.Fine" = some bl)
  (h:DataW.trod (λ_=>()) Tryz.prog L 0 (λ_=>true) false fuel 86 bl.toList=some (.agg [.lit (.int .i64 0),.lit (.int .i64 (-1))],p)) :
  L.cell? ⟨1,0,none⟩=some (.int .i64 0)/\L.cell? ⟨1,1,none⟩=some (.int .i64 (-1)):=by
 have aJ:=zalgi am6 a0 0;have E:=zalgi am6 a0 1;obtain⟨ld,wv,n,af,ab,Di,Dj⟩:=trod_struct2 Tryz.underlying86 h;simp only[zaleb,zaler,zalfh,zalhy] at af;obtain⟨⟨oh,jk⟩,_⟩:=af;rw[cells25] at ab;obtain⟨k0,dH,f0,_⟩:=zalhx Tryz.underlying31 Di;obtain⟨a9,aW,f1,_⟩:=zalhx zalfx Dj;rw[f0] at oh;rw[f1] at jk;have Bs:List.take (Tryz.prog.cellsOf 31) (List.drop 0 bl.toList)=[.int .i64 k0]:=dH
 have Bt:List.take (Tryz.prog.cellsOf 3) (List.drop 1 bl.toList)=[.int .i64 a9]:=aW;rw[cells23] at Bs;rw[cells3] at Bt;(try clear dH aW Di Dj h);obtain⟨l⟩:=bl
 match l,ab,Bs,Bt with
 | [c0,c1],_,dH,aW=>
  simp at dH aW oh jk;subst dH aW;rw[aJ,E,<-oh,<-jk];exact⟨rfl,rfl⟩
theorem am7:∀ x ∈ YT,SA 2 x=none:=by decide +kernel
def awN : List (String × DataW Unit) := [("math/bits.deBruijn32tab", Rows.laid_math_bits_deBruijn32tab), ("math/bits.deBruijn64tab", Rows.laid_math_bits_deBruijn64tab), ("internal/strconv.uint64pow10", Rows.laid_internal_strconv_uint64pow10), ("strconv.ErrRange", Rows.laid_strconv_ErrRange), ("strconv.ErrSyntax", Rows.laid_strconv_ErrSyntax), ("sloppyscope/lex.words", Rows.laid_sloppyscope_lex_words), ("sloppyscope/lex.signs", Rows.laid_sloppyscope_lex_signs), ("sloppyscope/sloppyref.Fine", Rows.laid_sloppyscope_sloppyref_Fine), ("sloppyscope/sloppyref.words", Rows.laid_sloppyscope_sloppyref_words), ("sloppyscope/tree.signs", Rows.laid_sloppyscope_tree_signs), ("sloppyscope/tree.heads", Rows.laid_sloppyscope_tree_heads)]
theorem akD {L : World} (h : handlesMet Tryz.prog [("errors.errorType", Rows.laid_errors_errorType)] L) : QZ L := by
 obtain⟨name,u,eD,aW,a4,bO,ew,fA⟩:=h _ (zalaf.2 rfl);have F6:name=[101,114,114,111,114]:=(zalbo aW).symm;subst F6;obtain rfl:=zalbo (awL.symm.trans a4);have aA:eD ∈ (List.range 336).filter λt=>Tryz.prog.rowNamed t [101,114,114,111,114]:=zalcc.2 ⟨List.mem_range.2 (by rw[<-asM];exact bO),ew⟩
 rw[oneRow] at aA;obtain rfl:=zalaf.1 aA;have a2:typeHandle Tryz.prog 28=.pointer (some ⟨13,28,none⟩):=by kernel_rfl
 rw[a2] at fA;simpa using zalgi aFm fA 0
structure Found (L:World):Prop where
 ls:Lists YT ML L
 ts:Tabs L
 rs:Om YT L
 er:QZ L
theorem of_laid {L:World}(h:laidMetH Tryz.prog laid2 L):Found L:=by
 have cH : laidMet Tryz.prog awN L /\ handlesMet Tryz.prog [("errors.errorType", Rows.laid_errors_errorType)] L := h
 obtain⟨⟨ps,⟨_,_,_,_,_,_,_,_,_,_,⟨_,_,_,_,_,_,_,_,_,_,⟨_,_,_,_,_,_,_,_,_,_,⟨_,_,_,_,_,_,_,_,_,_,⟨_,_,_,_,_,_,_,_,_,_,⟨fN,cg,Bl,f0,bq,cn,qA,gg,tX,vK,⟨fc,ky,Bm,f1,ep,bC,gd,mw,tY,hf,⟨dn,gl,I7,gp,iC,dM,jc,gh,sd,iO,⟨hv,lX,I8,dR,mA,iE,dc,sc,og,yp,⟨iM,Dy,Bn,Bz,iD,oq,r0,HO,HW,GT,⟨xz,K5,Bo,JF,KZ,zA,r1,HP,HX,GU,_,_⟩,_⟩,_⟩,_⟩,_⟩,_⟩,_⟩,_⟩,_⟩,_⟩,_⟩,_⟩,Hh⟩:=cH;obtain rfl:=zalbo (am8.symm.trans qA)
 obtain rfl:=zalbo (am9.symm.trans gd);obtain rfl:=zalbo (am6.symm.trans jc);obtain rfl:=zalbo (akE.symm.trans dc);obtain rfl:=zalbo (ajr.symm.trans r0);obtain rfl:=zalbo (ajs.symm.trans r1);obtain rfl:=zalbo (asN.symm.trans gg);obtain rfl:=zalbo (asO.symm.trans mw);obtain rfl:=zalbo (awM.symm.trans gh);obtain rfl:=zalbo (akF.symm.trans sc);obtain rfl:=zalbo (apF.symm.trans HO)
 obtain rfl:=zalbo (apG.symm.trans HP);have dH:=Xy ahT rfl vK;have aW:=Xy ana rfl hf;obtain⟨a,cap,bO,hrow⟩:=abT ahT yp;have ew:=akG GT;have fA:=akH GU;obtain⟨u0,F9,Hd⟩:=Va am8 tX;obtain⟨u1,F',He⟩:=Va am9 tY;obtain⟨u4,xy,Hf⟩:=Va ajr HW;obtain⟨u5,Gb,Hg⟩:=Va ajs HX;have an:=apE sd iO
 refine⟨⟨aaA,XJ,ahS,⟨u0,F9,?_⟩,⟨u1,F',?_⟩⟩,⟨⟨u5,Gb,?_⟩,⟨u4,xy,?_⟩⟩,⟨aaA,⟨a,cap,?_,hrow⟩,an.1,an.2⟩,akD Hh⟩
 ·rw[Hd];have:Bl=(YT.map Value.string).toArray:=by
   obtain⟨l⟩:=Bl;exact zaldg List.toArray dH
  rw[this]
 ·rw[He];have:Bm=(ML.map Value.string).toArray:=by
   obtain⟨l⟩:=Bm;exact zaldg List.toArray aW
  rw[this]
 ·rw[Hg];have:Bo=Ue:=by
   obtain⟨l⟩:=Bo;exact zaldg List.toArray fA
  rw[this]
 ·rw[Hf];have:Bn=UC:=by
   obtain⟨l⟩:=Bn;exact zaldg List.toArray ew
  rw[this]
 ·have:=zalgi dc og 0;rw[Array.eq_one_of_toList bO] at this;exact this
theorem the_law (a:ByteArray)(i:Int)(gj iA:ByteArray)(L:World)(h:Found L):Calls Tryz.prog 10 #[.string a,.int .i64 i,.string gj,.string iA] L λe w'=>e=.returned (.bool true)/\Below L.heap.size L w':=
 asP YT ML a gj iA i L h.ls h.ts h.rs h.er rfl am7
theorem door_met (os:Os)(args:Array Value):laidMetH Tryz.prog laid2 ((World.doorLaid Tryz.prog 121 os).forCall (λ_ _=>0) ⟨#[],args,[]⟩).memory:=
 laidMetH_of_parts3 (fuel:=8) (laidMet_of_run' 8 (by kernel_rfl) (by kernel_rfl)) (by kernel_rfl) (by kernel_rfl)
theorem lifted (os:Os)(started:os.Started)(H:Type)(enc:TypeId × Value->H) :
  ReturnsInHanded {} Tryz.checked os 10 .any (λw args=>(Rows.alphaRenamesSpec.pre enc Tryz.prog Tryz.f10 [] false w args/\laidMetH Tryz.prog laid2 w)/\sizedMet enc Tryz.prog Tryz.f10 (OpenSpec.ofChange Rows.alphaRenamesSpec) false w args)
   (Rows.alphaRenamesSpec.post enc Tryz.prog Tryz.f10 false true false false):=by
 refine returnsInHanded_of_change_and (C:=Tryz.checked) (X:=λw _=>laidMetH Tryz.prog laid2 w) (λ_ _ _ a2 h=>h.of_heap a2) aFo started (by kernel_rfl) Tryz.func10
  (ChangeSpec.witness_shaped (enc:=enc) (C:=Tryz.checked) (os:=os) (X:=λw _=>laidMetH Tryz.prog laid2 w) false (World.doorLaid Tryz.prog 121 os) #[.string ByteArray.empty,.int .i64 0,.string ByteArray.empty,.string ByteArray.empty] 8 rfl (World.shaped_of_RefB (by kernel_rfl) (by kernel_rfl)) (by kernel_rfl) (by kernel_rfl) (by kernel_rfl) (door_met os _)) ?_
 intro L base args eQ bi before hval0 aO _ _ bm _;have hval:∀ (j:Nat) t v,Tryz.f10.params[j]? = some t->args[j]? = some v->Value.okWide Tryz.prog L .any base t v:=hval0;have vA:=aO;obtain⟨p,q,jB,e6,rfl,J8,vR⟩:=aO;have bv:DataW.TrodAll enc Tryz.prog L 0 (λ_=>true) true Tryz.f10.params.toList args.toList eQ p:=jB;rw[Tryz.params10] at bv hval;obtain⟨v0,v1,v2,v3,ct,d1,d2,fy,bq,ep,iC,mA,rfl,rfl,rfl,aJ,E,O,ao⟩:=trodAll_four bv;obtain⟨rfl,rfl⟩:=trodVars_none e6
 obtain⟨s,rfl,rfl,rfl,W⟩:=open_string zaldk (hval 0 9 v0 rfl rfl) aJ;obtain⟨s',rfl,rfl,rfl,w0⟩:=open_int zalfx (hval 1 3 v1 rfl rfl) E;obtain⟨e9,rfl,rfl,rfl,dV⟩:=open_string zaldk (hval 2 9 v2 rfl rfl) O;obtain⟨ot,rfl,rfl,rfl,g5⟩:=open_string zaldk (hval 3 9 v3 rfl rfl) ao;have GC:=of_laid bm;(try clear jB hval0);simp only[zalba] at vA;refine(the_law s s' e9 ot L GC).mono λe bJ ⟨he,bel⟩=>?_;subst he
 exact⟨_,rfl,_,_,_,[],[],[],vA,trodAll_mk1 (shut_bool Tryz.underlying4 _),trodAll_mk4 (shut_string zaldk W) (shut_int zalfx w0) (shut_string zaldk dV) (shut_string zaldk g5),rfl,bel.frame _,λh=>by cases h⟩
