import Derived.Test.YticfnaiehdpbmaaGreatDoorRows
import Derived.LaidMore
import Derived.Test.YticfnaiehdpbmaaGreatDoorOn12
import Derived.Lib.AppendIntMem
import Derived.Lib.ItoaLen
set_option maxRecDepth 100000
set_option maxHeartbeats 8000000
set_option linter.all false
namespace Go.Proofs.YticfnaiehdpbmaaGreatDoor
open Go.RowKit Go.Proofs.Tryz
section
open Go.ChangeShapes Go.WideShapes Go.ChangeAt Go.WideMaps Go.WideElems Go.RowKit
theorem aGJ:ownKnob Tryz.prog.godebug=none:=by kernel_rfl
theorem apQ : Tryz.prog.globalNamed "sloppyscope/lex.words" = some 6 := by kernel_rfl
theorem apR : Tryz.prog.globalNamed "sloppyscope/lex.signs" = some 2 := by kernel_rfl
theorem axE:(Tryz.prog.globals[6]?).map (·.type)=some 272:=by kernel_rfl
theorem axF:(Tryz.prog.globals[2]?).map (·.type)=some 272:=by kernel_rfl
theorem cells9:Tryz.prog.cellsOf 9=1:=by kernel_rfl
theorem cells53:Tryz.prog.cellsOf 272=19:=by kernel_rfl
theorem YV {W:World}{fuel:Nat}{cs:List Value}{p:List MemPlace}(L:List (List UInt8))(dr:L.length=19)
  (h:DataW.trod (fun _=>()) Tryz.prog W 0 (fun _=>true) false fuel 272 cs=some (.agg (L.map fun l=>.lit (.string l)),p)):cs=(L.map ofBytes).map Value.string:=by
 obtain⟨xs,m,rfl,ae,hlen,az,fk⟩:=DataW.trod_array Tryz.underlying272 h;simp only[Prod.mk.injEq,DataW.agg.injEq] at ae;rw[cells53] at hlen;refine List.ext_getElem (by simp[dr,hlen]) fun i h1 U=>?_;have am:i<19:=by omega
 have aq:=fk i am;rw[cells9,Nat.mul_one,List.getElem?_eq_getElem (by omega)] at aq;obtain⟨s,ay,bz,_⟩:=DataW.trod_string Tryz.underlying9 aq;have ez:(xs.map (·.1))[i]'(by simp[az];omega)=.lit (.string (L[i]'(by omega))):=by
  have hH:(xs.map (·.1))[i]? =(L.map fun l=>(DataW.lit (.string l):DataW Unit))[i]?:=by rw[ae.1]
  rw[List.getElem?_eq_getElem (by simp[az];omega),List.getElem?_eq_getElem (by simp;omega)] at hH
  simpa using hH
 rw[List.getElem_map,bz] at ez;have kg:s.data.toList=L[i]'(by omega):=by simpa using ez
 have vF:(cs.drop i)[0]? = some (.string s):=by
  have:((cs.drop i).take 1)[0]? = some (.string s):=by rw[ay];rfl
  simpa using this
 rw[List.getElem?_drop,Nat.add_zero,List.getElem?_eq_getElem h1] at vF;rw[Option.some.inj vF];simp[acG kg]
theorem WL {W:World}{n:String}{g:Nat}{cs:Array Value}(hg:Tryz.prog.globalNamed n=some g)(h:W.var? Tryz.prog n=some cs):∃ t fr,W.heap[g]? = some (.cells cs t fr):=by
 simp only[World.var?,hg,Option.bind_some] at h
 split at h
 ·rename_i LH t fr hh
  cases h;exact⟨t,fr,hh⟩
 ·
  cases h
end
section
open Go.ChangeShapes Go.WideShapes Go.ChangeAt Go.WideMaps Go.WideElems Go.RowKit
theorem akH : Tryz.prog.globalNamed "sloppyscope/tree.signs" = some 3 := by kernel_rfl
theorem akI : Tryz.prog.globalNamed "sloppyscope/tree.heads" = some 4 := by kernel_rfl
theorem atc:(Tryz.prog.globals[3]?).map (·.type)=some 276:=by kernel_rfl
theorem atd:(Tryz.prog.globals[4]?).map (·.type)=some 285:=by kernel_rfl
theorem ahm:Tryz.prog.cellsOf 275=4:=by kernel_rfl
theorem akJ:Tryz.prog.cellsOf 3=1:=by kernel_rfl
theorem apX:Tryz.prog.cellsOf 276=56:=by kernel_rfl
theorem akK:Tryz.prog.cellsOf 284=2:=by kernel_rfl
theorem apY:Tryz.prog.cellsOf 285=16:=by kernel_rfl
theorem aaz (k:Nat)(E:0<k):∀ (L:List (List Value)) (cs:List Value),(∀ l ∈ L,l.length=k)->cs.length=L.length * k->(∀ i (am:i<L.length),(cs.drop (i * k)).take k=L[i])->cs=L.flatten
 | [],cs,_,hl,_=>by
  have:cs.length=0:=by simpa using hl
  simpa using this
 | l::L,cs,h,hl,al=>by
  have h0:=al 0 (by simp);simp only[Nat.zero_mul,List.drop_zero,List.getElem_cons_zero] at h0;have h1:=aaz k E L (cs.drop k) (fun x ae=>h x (List.mem_cons_of_mem _ ae)) (by rw[List.length_drop,hl,List.length_cons,Nat.add_mul];omega) (fun i am=>by
   have:=al (i+1) (by simpa using am);rw[List.getElem_cons_succ] at this;rw[List.drop_drop,show k+i * k=(i+1) * k by rw[Nat.add_mul];omega]
   exact this)
  rw[List.flatten_cons,<-h0,<-h1,List.take_append_drop]
section
variable {W:World} {fuel:Nat} {cs:List Value}
include W fuel cs
theorem afm {bD:Int}{q:List MemPlace}(h:DataW.trod (fun _=>()) Tryz.prog W 0 (fun _=>true) false fuel 3 cs=some (.lit (.int .i64 bD),q)):cs=[.int .i64 bD]:=by
 obtain⟨k,e,f,_⟩:=DataW.trod_int Tryz.underlying3 h;simp only[Prod.mk.injEq,DataW.lit.injEq,Lit.int.injEq,true_and] at f;rw[e,<-f.1]
theorem text_of {l:List UInt8}{q:List MemPlace}(h:DataW.trod (fun _=>()) Tryz.prog W 0 (fun _=>true) false fuel 9 cs=some (.lit (.string l),q)):cs=[.string (ofBytes l)]:=by
 obtain⟨s,ay,bz,_⟩:=DataW.trod_string Tryz.underlying9 h;simp only[Prod.mk.injEq,DataW.lit.injEq,Lit.string.injEq] at bz;rw[ay,acG bz.1.symm]
end
theorem atf {cs:List Value}(hl:cs.length=4){a b c d:Value}(h0:(cs.drop 0).take 1=[a])(h1:(cs.drop 1).take 1=[b])(U:(cs.drop 2).take 1=[c])(aw:(cs.drop 3).take 1=[d]):cs=[a,b,c,d]:=by
 match cs,hl with
 | [x,y,bD,u],_=>simp at h0 h1 U aw;rw[h0,h1,U,aw]
theorem fields2 {cs:List Value}(hl:cs.length=2){a b:Value}(h0:(cs.drop 0).take 1=[a])(h1:(cs.drop 1).take 1=[b]):cs=[a,b]:=by
 match cs,hl with
 | [x,y],_=>simp at h0 h1;rw[h0,h1]
def sgD (l:List UInt8)(a b c:Int):DataW Unit:=.agg [.lit (.string l),.lit (.int .i64 a),.lit (.int .i64 b),.lit (.int .i64 c)]
def hdD (l:List UInt8)(a:Int):DataW Unit:=.agg [.lit (.string l),.lit (.int .i64 a)]
theorem Yo {H:Type}{xs:List (DataW H × List MemPlace)}{a6:List (DataW H)}(h:a6=xs.map (·.1))(i:Nat)(d:DataW H)(hd:a6[i]? = some d):∃ q,xs[i]? = some (d,q):=by
 subst h;rw[List.getElem?_map] at hd
 cases ae:xs[i]? with
 | none=>rw[ae] at hd;cases hd
 | some x=>
  rw[ae] at hd;exact⟨x.2,by rw[<-Option.some.inj hd]⟩
section
variable {W:World} {fuel:Nat} {cs:List Value} {l:List UInt8}
include W fuel cs l
theorem aDk {a b c:Int}{q:List MemPlace}(h:DataW.trod (fun _=>()) Tryz.prog W 0 (fun _=>true) false fuel 275 cs=some (sgD l a b c,q)) :
  cs=[.string (ofBytes l),.int .i64 a,.int .i64 b,.int .i64 c]:=by
 obtain⟨xs,n,_,ae,hl,az,fk⟩:=DataW.trod_struct Tryz.underlying275 h;simp only[Prod.mk.injEq,sgD,DataW.agg.injEq] at ae;rw[ahm] at hl;obtain⟨cG,fh⟩:=Yo ae.1 0 _ rfl;obtain⟨b4,cp⟩:=Yo ae.1 1 _ rfl;obtain⟨bT,dG⟩:=Yo ae.1 2 _ rfl;obtain⟨eg,jk⟩:=Yo ae.1 3 _ rfl;have q7:=fk 0 _ rfl;have d5:=fk 1 _ rfl;have dX:=fk 2 _ rfl;have fU:=fk 3 _ rfl;rw[fh] at q7;rw[cp] at d5;rw[dG] at dX;rw[jk] at fU;have cB:(cs.drop 0).take (Tryz.prog.cellsOf 9)=_:=text_of q7
 have b5:(cs.drop 1).take (Tryz.prog.cellsOf 3)=_:=afm d5;have ef:(cs.drop 2).take (Tryz.prog.cellsOf 3)=_:=afm dX;have d7:(cs.drop 3).take (Tryz.prog.cellsOf 3)=_:=afm fU;rw[cells9] at cB;rw[akJ] at b5 ef d7;exact atf hl cB b5 ef d7
theorem aDl {a:Int}{q:List MemPlace}(h:DataW.trod (fun _=>()) Tryz.prog W 0 (fun _=>true) false fuel 284 cs=some (hdD l a,q)) :
  cs=[.string (ofBytes l),.int .i64 a]:=by
 obtain⟨xs,n,_,ae,hl,az,fk⟩:=DataW.trod_struct Tryz.underlying284 h;simp only[Prod.mk.injEq,hdD,DataW.agg.injEq] at ae;rw[akK] at hl;obtain⟨cG,fh⟩:=Yo ae.1 0 _ rfl;obtain⟨b4,cp⟩:=Yo ae.1 1 _ rfl;have q7:=fk 0 _ rfl;have d5:=fk 1 _ rfl;rw[fh] at q7;rw[cp] at d5;have cB:(cs.drop 0).take (Tryz.prog.cellsOf 9)=_:=text_of q7;have b5:(cs.drop 1).take (Tryz.prog.cellsOf 3)=_:=afm d5;rw[cells9] at cB;rw[akJ] at b5;exact fields2 hl cB b5
end
def aDm:List (List UInt8 × Int × Int × Int):=sgs.map fun e=>(e.tx.data.toList,e.kd,e.parts,e.str)
def aDn:List (List UInt8 × Int):=hds.map fun e=>(e.1.data.toList,e.2)
section
variable {W:World} {fuel:Nat} {cs:List Value} {p:List MemPlace}
include W fuel cs p
theorem amA (h:DataW.trod (fun _=>()) Tryz.prog W 0 (fun _=>true) false fuel 276 cs=some (.agg (aDm.map fun e=>sgD e.1 e.2.1 e.2.2.1 e.2.2.2),p)):cs=WM.toList:=by
 obtain⟨xs,m,_,ae,hlen,az,fk⟩:=DataW.trod_array Tryz.underlying276 h;simp only[Prod.mk.injEq,DataW.agg.injEq] at ae;rw[apX] at hlen;have key:cs=(aDm.map fun e=>[Value.string (ofBytes e.1),.int .i64 e.2.1,.int .i64 e.2.2.1,.int .i64 e.2.2.2]).flatten:=by
  refine aaz 4 (by decide) _ cs ?_ (by rw[hlen];rfl) ?_
  ·intro l hl;obtain⟨e,_,rfl⟩:=List.mem_map.1 hl;rfl
  ·intro i am;rw[List.length_map] at am;have AQ:i<14:=am;have aq:=fk i AQ;rw[ahm] at aq;obtain⟨q,ag⟩:=Yo ae.1 i _ (by rw[List.getElem?_map,List.getElem?_eq_getElem am];rfl)
   rw[ag] at aq;rw[aDk aq,List.getElem_map]
 rw[key];rfl
theorem amB (h:DataW.trod (fun _=>()) Tryz.prog W 0 (fun _=>true) false fuel 285 cs=some (.agg (aDn.map fun e=>hdD e.1 e.2),p)):cs=VQ.toList:=by
 obtain⟨xs,m,_,ae,hlen,az,fk⟩:=DataW.trod_array Tryz.underlying285 h;simp only[Prod.mk.injEq,DataW.agg.injEq] at ae;rw[apY] at hlen;have key:cs=(aDn.map fun e=>[Value.string (ofBytes e.1),.int .i64 e.2]).flatten:=by
  refine aaz 2 (by decide) _ cs ?_ (by rw[hlen];rfl) ?_
  ·intro l hl;obtain⟨e,_,rfl⟩:=List.mem_map.1 hl;rfl
  ·intro i am;rw[List.length_map] at am;have AQ:i<8:=am;have aq:=fk i AQ;rw[akK] at aq;obtain⟨q,ag⟩:=Yo ae.1 i _ (by rw[List.getElem?_map,List.getElem?_eq_getElem am];rfl)
   rw[ag] at aq;rw[aDl aq,List.getElem_map]
 rw[key];rfl
end
end
namespace Hp
def YN (v:Va):List OG:=[Ol v.k,Ol v.n,OB v.s]
def ace (B:Nat)(w:Ov)(u:OG)(vs:List Va):Prop:=w.ownsRow B 65 3 u vs.length (vs.flatMap YN)
section
variable {w0:Ov} {mb af:Nat} {O:List Nat} {es aW aC aA aM:OG} {w w':Ov} {σ:St} {N:Nat} {F:Fx}
theorem ace.nil (B:Nat)(w:Ov):ace B w QD []:=⟨rfl,Or.inl ⟨rfl,rfl⟩⟩
theorem ace.keep {B:Nat}{u:OG}{vs:List Va}(h:ace B w u vs)(aH:O5 none mb w w'):ace B w' u vs:=row_of h fun _ _ _ hg=>aH.keep hg Oz
def auE (w0:Ov)(mb af:Nat)(O:List Nat)(es:OG)(w:Ov)(r:(List Va × Er) × St)(e:Ending)(w':Ov):Prop:=
 (∃ u ev,e=OQ (.tuple #[u,ev])/\ace w.heap.size w' u r.1.1/\Xm es w' ev r.1.2)/\Ms w0 mb af O w' r.2/\O5 none mb w w'
theorem awH:(prog.info? 65).map (fun i=>(i.zero,i.size,i.bytes))=some (some (.agg #[Ol 0,Ol 0,PN]),3,32):=by kernel_rfl
theorem amb (w:Ov)(H:Nat)(fs:w.heap.size=H)(v:Va)(j:Nat)(u:OG)(h:(YN v)[j]? = some u) :
  (w.alloc (.cells #[Ol v.k,Ol v.n,OB v.s] 65)).cell? (((Ot H 0):Addr).add j)=some u:=by
 subst fs;unfold YN at h
 rcases j with _|_|_|j <;> simp at h
 all_goals subst h;simp[Addr.add]
theorem val_one (v:Va):∀ u ∈ YN v,u.oneCell'=true:=by
 intro u aT;unfold YN at aT;simp at aT
 rcases aT with rfl|rfl|rfl <;> rfl
section
variable {p:Pl} {d:Nd} {a6:List Nd} {aX:List Va} {v:Va}
include p d a6 aX v
theorem aku {σ1:St}(h:F.v d p σ=((v,.no),σ1)):Vk F p (d::a6) aX σ=Vk F p a6 (aX++[v]) σ1:=by rw[Vk,h]
theorem akv {e:Er}{σ1:St}(h:F.v d p σ=((v,e),σ1))(aq:e≠.no):Vk F p (d::a6) aX σ=(([],e),σ1):=by
 rw[Vk,h];exact awI
end
theorem agS (ac:Zp es)(aJ:Ms w0 mb af O w σ){u:OG}{c9:List Ad}{a6:List Nd}(aa:TA 0 w u c9)(ft:Uo O w c9 a6)(hlen:a6.length<=1000000)(p:Pl)(aB:Option Addr)
  (P:St->Prop) (hP:P σ) (bq:∀ d ∈ a6,∀ σ,P σ->Ub w0 mb af O es σ d p (F.v d p σ)/\∀ v σ1,F.v d p σ=((v,.no),σ1)->P σ1) :
  OE 293 #[Oo mb,u,PU p aB] w (auE w0 mb af O es w (Vk F p a6 [] σ)):=by
 obtain⟨i0,dR,dA,b9,cn⟩:=info_parts awH;have bG:=aJ.lt;have z:=Oq (∀{G}(h:G:=by
 have dx:w.heap.size<=bf:=Ou;have fk:=Uo.len _ _ ft;obtain⟨rs,fO⟩:=xH (Vk F ⟨au,aG,st⟩ a6 [] σ);rw[<-fO.out];have cZ:=(aJ.later aF);have cu:=(O5.of (L:=none) aF (O0 bG));have b8:=hide be;have dj:=(aa.later aF);have nF:=(Uo.kp (Kp.of aF) _ _ ft);have ot:=hide hP;have ai:=hide bq;have hsz2:=aF.size;obtain⟨cV,dP,aT⟩:=aa.form;subst aT;have di:=cZ.lt;have pi:=hide fk;have D4:c9.length<=1000000:=Ou;clear be hP bq dx fk;go_enter func293,ntmps293;go_wp2_with fail;rw[<-bu.out,<-bV];clear bV
 go_loopw [8,15] (fun o i wr=>∃ (k:Nat) (aX:List Va) (dE:St),k<=c9.length/\i=Ol k/\aX.length=k/\ace w2.heap.size wr o aX/\Ms w0 mb af O wr dE/\P dE/\O5 none mb w2 wr/\rs=Vk F ⟨au,aG,st⟩ (a6.drop k) aX dE) (fun _ i _=>c9.length - (intOf i).toNat)
 case atStart=>exact⟨0,[],σ,Nat.zero_le _,rfl,rfl,ace.nil _ _,cZ,ot.out,O5.of QX (O0 di),fO.out⟩
 case round=>
  obtain⟨k,aX,dE,E,rfl,hacc,hrow,aJ,ld,ah,iY⟩:=hrel;have qY:=hrow;have ma:=hide ld;have je:=hide iY;have FA:=hide hacc;have h':=aJ.lt;obtain⟨yC,iS,aR⟩:=OX hrow;subst aR;have o3:=ah.below.size;clear ld iY hacc
  by_cases aQ:k<c9.length
  ·have bo:k<a6.length:=by rw[<-pi.out];exact aQ
   obtain⟨g,cap,av,hg,aj,az⟩:=(dj.kp ah.UD).cell k aQ;have z:=Oq (∀{G}(h:G:=by
   obtain⟨ci,iq⟩:=Om ai a6[k] (List.getElem_mem _) dE ma.out;have bJ:=(ci wr c9[k] aB aJ ((Uo.get _ _ nF k aQ bo).kp ah.UD));obtain⟨q,ag⟩:=xE ((c9[k]).p);rw[<-ag] at aj bJ
   rcases dm:F.v a6[k] ⟨au,aG,st⟩ dE with ⟨⟨v1,ay⟩,σ1⟩
   rw[dm] at bJ;have lH:=hide iq;have de:=hide dm;have lS:a6.drop k=a6[k]::a6.drop (k+1):=List.drop_eq_getElem_cons bo;have l6:=hide lS;obtain⟨aZ,p1,cK,cX,_,d2⟩:=cells4 (ah.keep b8.out Oz);have B1:Hid (aX.length=k):=FA;clear iq ag dm lS;go_wp2_with fail;refine cm bJ ?_;rintro e aE ⟨⟨ev,rfl,aD⟩,g4,gz⟩;have fl:=(ah.trans gz);have qc:=(qY.keep gz);have hB:=g4.lt;have iZ:wr.heap.size<=aE.heap.size:=gz.below.size;clear aZ p1 cK cX d2 aj
   by_cases aq:ay=.no
   ·subst aq;have bv:ev=Qp:=aD;subst bv;obtain⟨m,hmeq⟩:=xH aX.length;have ui:m=k:=by rw[hmeq.out];exact Om B1
    have hrw2:aE.ownsRow w2.heap.size 65 3 (.slice yC m iS) m (aX.flatMap YN):=by rw[hmeq.out];exact qc
    rw[<-hmeq.out];have A3:m<=1000000:=Ou;clear ui
    go_wp2_with (at_builtin;refine wpList_append_lies _ rfl _ _ 311 rfl w2.heap.size 65 i0 _ 3 32 underlying311 dR dA b9 cn rfl Oz _ _ _ rfl ((hrw2.alloc _).alloc _) (Ot (aE.heap.size+1) 0) 1 1 (YN v1) rfl rfl (amb (aE.alloc (.cells #[Ol v1.k,Ol v1.n,OB v1.s] 65)) _ O8 v1) (val_one v1) Oz (by unfold maxLen;omega) Ou Rh (aE.heap.size+2) O8 ?_)
    intro g2 cap' ap hown' hgrow iM _;have br:OD aE ((aE.alloc (.cells #[Ol v1.k,Ol v1.n,OB v1.s] 65)).alloc (.cells #[Ol v1.k,Ol v1.n,OB v1.s] 65)):=PO.alloc O8 _;have v8:Py [65] mb ((aE.alloc (.cells #[Ol v1.k,Ol v1.n,OB v1.s] 65)).alloc (.cells #[Ol v1.k,Ol v1.n,OB v1.s] 65)) ap:=Py.grown hgrow (by have:=br.size;omega) fun b D=>by
     obtain⟨c,aj⟩:=Qc ((hrw2.alloc _).alloc _) D;exact⟨by have:=(Qj hrw2 b D).2;omega,c,65,aj,by simp⟩
    have jG:=((g4.later br).YC v8 Oz);have cQ:O5 none mb w2 ap:=by
     refine⟨fl.below.trans ((br.mono (O0 hB)).trans v8.below),fun b c e D aq hl=>?_⟩;have h1:=stays br (fl.rest b c e D aq hl);refine(hgrow.block b (lt_of_heap h1) (fun e=>?_)).trans h1;have U:=(Qj hrw2 b e.symm).2;have aw:=lt_of_heap D;omega
    clear iM;go_wp2
    go_roundw
    case rel=>
     refine⟨k+1,aX++[v1],σ1,by omega,by go_num,by rw[List.length_append,B1.out];rfl,?_,jG,Om lH v1 σ1 de.out,cQ,?_⟩
     ·show World.ownsRow _ _ _ _ _ _ _
      rw[List.length_append,List.flatMap_append,<-hmeq.out];simpa using hown'
     ·rw[je.out,l6.out];exact aku de.out
    case measure=>simp[intOf];omega
   ·obtain⟨et,ex,bv⟩:=aD.WT aq ac;subst bv;have aK:rs=(([],ay),σ1):=by rw[je.out,l6.out];exact akv de.out aq
    have cI:=hide aK;clear aK aq;go_wp2_with fail;have d8:=(Below.refl aE.heap.size aE).alloc O6 (.cells #[Ol v1.k,Ol v1.n,OB v1.s] 65);refine UU (v:=.tuple #[QD,.iface et ex]) ?_;rw[cI.out];exact⟨⟨_,_,rfl,ace.nil _ _,aD.later d8⟩,g4.later d8,cu.trans (fl.trans (O5.of (L:=none) d8 (O0 hB)))⟩),G);exact awJ
  ·have cT:k=c9.length:=Ou;have aK:rs=((aX,.no),dE):=by rw[je.out,cT,pi.out,List.drop_length];rfl
   have cI:=hide aK;have h8:¬ (k:Int)<(c9.length:Int):=Ou;clear aK cT;go_wp2_with fail;refine UU (v:=.tuple #[.slice yC aX.length iS,Qp]) ?_;rw[cI.out];exact⟨⟨_,_,rfl,aiJ qY hsz2,rfl⟩,aJ,cu.trans ah⟩),G);exact zss
abbrev Y8 (w : Ov) : Prop := Lib.TabIs prog w "internal/strconv.uint64pow10" .u64 Lib.pow10Tab
theorem Ms.tab (h:Ms w0 mb af O w σ)(a8:Bs w0 mb af O es)(bc:Y8 w0):Y8 w:=Lib.tabBelow_of_tabIs bc w (by rw[a8.sz];exact h.below)
theorem agT (b:Bool)(w:Ov):OE 131 #[OC b] w fun e w'=>e=OQ (OB (if b then abK else Y2))/\w'=w:=by
 have h:OE 207 #[OC b] w fun e w'=>e=OQ (OB (if b then abK else Y2))/\w'=w:=by
  cases b
  all_goals
   go_enter func207,ntmps207;go_wp2;go_ret;exact⟨rfl,rfl⟩
 obtain⟨t,bc⟩:=xE ((if b then abK else Y2));rw[<-bc] at h ⊢;clear bc;go_enter func131,ntmps131;go_wp2_with fail;refine cm h ?_;exact awK
theorem aeV (aJ:Ms w0 mb af O w σ)(o:Int):OE 134 #[Oo mb,Ol o] w fun e w'=>e=OQ (OB (if σ.M.codeOf o≠0 then Qm else YA))/\w'=w:=by
 obtain⟨_,_,_,_,ae⟩:=aJ;obtain⟨c,aj⟩:=xE (σ.M.codeOf o);have ai:=(aiV ae.hh o);rw[<-aj] at ai ⊢;clear aj
 by_cases c0:c=0
 ·subst c0;rw[if_neg O8];go_enter func134,ntmps134;go_wp2_with fail;refine cm ai ?_;exact awK
 ·rw[if_pos c0];go_enter func134,ntmps134;go_wp2_with fail;refine cm ai ?_;exact awK
theorem aeW (a8:Bs w0 mb af O es)(bc:Y8 w0)(aJ:Ms w0 mb af O w σ)(v:Va)(az:-9223372036854775808<=v.n/\v.n<=9223372036854775807):OE 61 #[Oo mb,vA v] w fun e w'=>e=OQ (OB (σ.M.shw v))/\OD w w':=by
 have aF:=(Below.refl w.heap.size w).alloc O6 (.cells #[Ol v.k,Ol v.n,OB v.s] 65);have Dz:=aJ.later aF;have JL:=Dz.tab a8 bc;have dB:=hide az;clear az;obtain⟨k,n,t⟩:=v
 by_cases ce:k=0
 ·subst ce;have ay:σ.M.shw ⟨0,n,t⟩=RI:=rfl;exact asC
 by_cases bQ:k=1
 ·subst bQ;have ay:σ.M.shw ⟨1,n,t⟩=akh:=rfl;exact asC
 by_cases ds:k=2
 ·subst ds;obtain⟨tb,lp⟩:=xE (Va.tru ⟨2,n,t⟩);obtain⟨aC,jP⟩:=xE ((if tb then abK else Y2));have ay:σ.M.shw ⟨2,n,t⟩=aC:=by rw[jP,lp];rfl
  rw[ay];have eM:=(Xk ⟨2,n,t⟩ (w.alloc (.cells #[Ol 2,Ol n,OB t] 65)));rw[<-lp] at eM;have jY:=hide (fun X=>agT tb X);rw[<-jP] at jY;clear ay lp jP;go_enter func61,ntmps61;go_wp2_with fail;refine cm eM ?_;rintro e w1 ⟨rfl,b6⟩;have f3:=(aF.trans (b6.mono aF.size));go_wp2_with fail;refine cm (Om jY w1) ?_;rintro e ap ⟨rfl,rfl⟩;go_wp2;go_ret;exact⟨rfl,f3⟩
 by_cases iA:k=3
 ·subst iA;have ay:σ.M.shw ⟨3,n,t⟩=aaP n:=rfl;rw[ay];have gD:=(Tryz.strconv_Itoa n dB.out.1 dB.out.2 _ JL);obtain⟨aC,jP⟩:=xE (aaP n);have EJ:(⟨(Lib.itoa n).toArray⟩:OH)=aC:=by rw[jP];rfl
  rw[EJ] at gD;rw[<-jP];clear ay jP EJ;go_enter func61,ntmps61;go_wp2_with fail;refine cm gD ?_;rintro e w1 ⟨rfl,j7,os,wN⟩;have f3:OD w w1:=by
   show Below _ _ _
   rw[wN];exact aF.trans (Lib.below_grow _ _ aF.size j7 os)
  clear wN;go_wp2;go_ret;exact⟨rfl,f3⟩
 by_cases k4:k=4
 ·subst k4;have ay:σ.M.shw ⟨4,n,t⟩=t:=rfl;exact asC
 by_cases mG:k=5
 ·subst mG;have dw:=(aeV Dz n);obtain⟨aC,jP⟩:=xE ((if σ.M.codeOf n≠0 then Qm else YA));have ay:σ.M.shw ⟨5,n,t⟩=aC:=by rw[jP];rfl
  rw[ay];rw[<-jP] at dw;clear ay jP;go_enter func61,ntmps61;go_wp2_with fail;refine cm dw ?_;rintro e w1 ⟨rfl,wN⟩;rw[wN];clear wN;go_wp2;go_ret;exact⟨rfl,aF⟩
 have ay:σ.M.shw ⟨k,n,t⟩=Ox:=by unfold Mo.shw;simp[ce,bQ,ds,iA,k4,mG]
 exact asC
structure Ux (w:Ov)(u:OG)(vs:List Va):Prop where
 form:∃ aB cap,u=.slice aB vs.length cap
 at_:∀ (i:Nat) v,vs[i]? = some v->∃ g o cap c,u=.slice (some (Ot g o)) vs.length cap/\w.heap[g]? = some (O1 c 65)/\c[o+i * 3]? = some (Ol v.k)/\c[o+i * 3+1]? = some (Ol v.n)/\c[o+i * 3+2]? = some (OB v.s)
variable {L:Option Nat}{u:OG}{vs:List Va}
section
variable (h:Ux w u vs)
include h
theorem Ux.keep (E:∀ (b:Nat) c,w.heap[b]? = some (Obj.cells c 65 (0,0))->w'.heap[b]? = some (Obj.cells c 65 (0,0))):Ux w' u vs:=
 ⟨h.form,fun i v av=>by obtain⟨g,o,cap,c,h1,U,aw⟩:=h.at_ i v av;exact⟨g,o,cap,c,h1,E g c U,aw⟩⟩
theorem Ux.later (D:OD w w'):Ux w' u vs:=h.keep fun _ _ aj=>stays D aj
theorem Ux.frL (aH:O5 none mb w w'):Ux w' u vs:=h.keep fun _ _ aj=>aH.keep aj Oz
theorem Ux.cells {i:Nat}{v:Va}(av:vs[i]? = some v):∃ g o cap,u=.slice (some (Ot g o)) vs.length cap/\g<w.heap.size/\w.cell? (Ot g (o+i * 3))=some (Ol v.k)/\w.cell? (Ot g (o+i * 3+1))=some (Ol v.n)/\w.cell? (Ot g (o+i * 3+2))=some (OB v.s):=by
 obtain⟨g,o,cap,c,h1,U,aw,aL,bE⟩:=h.at_ i v av;refine⟨g,o,cap,h1,lt_of_heap U,?_,?_,?_⟩
 ·simp[World.cell?,U,aw]
 ·simp[World.cell?,U,aL]
 ·simp[World.cell?,U,bE]
end
theorem ag5 (x y:List UInt8)(r:List (List UInt8)):Lib.join (x::y::r) [32]=x++([32]++Lib.join (y::r) [32]):=by simp[Lib.join,List.intercalate,List.intersperse]
theorem ag6:∀ (l:List ByteArray),(⟨(Lib.join (l.map (·.data.toList)) [32]).toArray⟩:ByteArray)=XP l
 | []=>rfl
 | [a]=>by
  rw[XP,List.map_cons,List.map_nil,Lib.join_one]
 | a::b::l=>by
  have h:=ag6 (b::l);rw[XP,List.map_cons,List.map_cons,ag5,<-h];unfold Yg;simp;intro h;cases h
theorem join_le:∀ (l:List ByteArray),(∀ x ∈ l,x.size<=3000)->(Lib.join (l.map (·.data.toList)) [32]).length<=3001 * l.length
 | [],_=>by simp[Lib.join,List.intercalate]
 | [a],h=>by
  have:=h a List.mem_cons_self;rw[List.map_cons,List.map_nil,Lib.join_one];simp;omega
 | a::b::l,h=>by
  have h1:=join_le (b::l) (fun x ae=>h x (List.mem_cons_of_mem _ ae));have U:=h a List.mem_cons_self;have aw:a.data.toList.length=a.size:=by simp
  rw[List.map_cons,List.map_cons,ag5,List.length_append,List.length_append,aw];rw[List.map_cons] at h1;simp only[List.length_cons,List.length_nil] at h1 ⊢;omega
theorem apk {B:Nat}{l:List ByteArray}(h:Rx B w u l)(hl:l.length<=1000)(ac:∀ x ∈ l,x.size<=3000):OE 318 #[u,OB ⟨#[32]⟩] w fun e w'=>e=OQ (OB (XP l))/\OD w w':=by
 rcases Nat.eq_zero_or_pos l.length with h0|h0
 ·obtain⟨a,c,rfl⟩:=OX h;rw[h0];obtain rfl:=List.eq_nil_of_length_eq_zero h0;exact(Tryz.strings_Join_none a c ⟨#[32]⟩ w).mono fun e w' ⟨h1,U⟩=>⟨h1,by rw[U];exact QX⟩
 ·obtain⟨g,cap,rfl,hg,_⟩:=World.ownsRow.form h h0;have gn:l.length<=cap:=by
   rcases h.2 with ⟨h1,_⟩|⟨g2,cap',cj,h1,_,_,U,_⟩
   ·
    cases h1
   ·simp only[Value.slice.injEq] at h1;omega
  rw[<-ag6];exact Tryz.strings_Join g 0 cap l ⟨#[32]⟩ w (fun j x aN=>by
   rw[Nat.zero_add];have AR:=(List.getElem?_eq_some_iff.1 aN).1;rw[World.ownsRow.cellAt h j Ou];simp[aN]) (World.ownsRow.lt h g rfl).2 Ou gn (by have:=join_le l ac;show (Lib.join _ [32]).length<=_;omega)
theorem asR (a8:Bs w0 mb af O es)(bc:Y8 w0)(aJ:Ms w0 mb af O w σ)(aa:Ux w u vs)(hl:vs.length<=1000)(az:∀ v ∈ vs,(-9223372036854775808<=v.n/\v.n<=9223372036854775807)/\(σ.M.shw v).size<=3000)(yb:σ.log.length<=1000000000) :
  OE 299 #[Oo mb,u] w fun e w'=>e=OQ (.tuple #[])/\Ms w0 mb af O w' { σ with log:=σ.log++[XP (vs.map σ.M.shw)] }/\O5 none mb w w':=by
 obtain⟨i0,dR,dA,b9,cn⟩:=info_parts info9;have bG:=aJ.lt;have hW:=aJ;have dj:=aa;have a':=hide (fun(v:Va) (av:v ∈ vs) (X:Ov) (ak:OD w X)=>aeW a8 bc (aJ.later ak) v (az v av).1);have dB:=hide az;obtain⟨cV,dP,aT⟩:=aa.form;subst aT;clear az;go_enter func299,ntmps299;go_wp2_with fail
 go_loopw [4,9] (fun o i wr=>∃ k:Nat,k<=vs.length/\i=Ol k/\Rx w.heap.size wr o ((vs.take k).map σ.M.shw)/\OD w wr) (fun _ i _=>vs.length - (intOf i).toNat)
 case atStart=>exact⟨0,Nat.zero_le _,rfl,Yc _ _,QX⟩
 case round=>
  obtain⟨k,E,rfl,hown,hbel⟩:=hrel;have HOWN:=hown;have l4:=hbel;obtain⟨aB,iS,rfl⟩:=OX hown;have dd:=hbel.size
  by_cases aQ:k<vs.length
  ·obtain⟨v,av⟩:=xE (vs[k]);have mF:vs[k]? = some v:=by rw[av];exact List.getElem?_eq_getElem aQ
   obtain⟨g,o,cap,aT,hg,c0,c1,c2⟩:=(dj.later l4).cells mF;simp only[Value.slice.injEq] at aT;obtain⟨rfl,_,rfl⟩:=aT;have h8:(k:Int)<(vs.length:Int):=Ou;obtain⟨x,ae⟩:=xE (σ.M.shw v);have bJ:=hide (Om a' v (List.mem_of_getElem? mF));rw[<-ae] at bJ;have dQ:=hide ae;obtain⟨q6,dr⟩:=xE ((vs.take k).map σ.M.shw);have pE:q6.length=k:=by rw[dr];simp;omega
   have dU:=hide dr;rw[<-dr] at HOWN ⊢;have nK:World.ownsRow wr w.heap.size 9 1 (.slice aB k iS) k (q6.map Value.string):=by
    have h:World.ownsRow wr w.heap.size 9 1 (.slice aB q6.length iS) q6.length (q6.map Value.string):=HOWN;rw[pE] at h;exact h
   rw[pE];have pn:=hide pE;have zM:=hide mF;clear ae dr pE av mF;go_wp2_with fail;obtain⟨w2,da⟩:=xE (wr.alloc (.cells #[Ol v.k,Ol v.n,OB v.s] 65));obtain⟨vb,aV⟩:=xE wr.heap.size;have kY:w2.heap[vb]? = some (Y7 v):=by rw[da,aV];exact OA _ _
   have gh:=hide (cells3 kY);have cq:OD w w2:=by show Below _ _ _;rw[da];exact l4.alloc dd _
   have r3:=(Pe nK (show OD wr w2 by rw[da];exact PO))
   have MX:mb<w2.heap.size:=by have:=cq.size;omega
   have ia:=lt_of_heap kY;rw[<-da,<-aV];clear da aV kY c0 c1 c2 hg;refine TI 5 fun ab=>?_;refine uh 0 (.slice aB k iS) (ab) ?_;refine up 1 mb 0 ab ?_;refine up 2 mb 0 ab ?_;refine up 3 mb 0 ab ?_;refine uk3 4 gh.out ab ?_;refine P5 5 fun K A=>?_;go_simp;refine cm (Om bJ _ (cq.drew)) ?_;rintro e aE ⟨rfl,jg⟩;refine ko A ?_;clear A K;have B3:=(cq.drew.trans (jg.mono cq.drew.size));have CB:=(Pe r3 ((Below.refl _ w2).drew.trans jg));have JH:=B3.size;refine P5 6 fun K A=>?_;go_simp;refine ko A ?_;clear A K
   refine P5 7 fun K A=>?_;refine step_append_lies _ rfl _ _ 26 rfl w.heap.size 9 i0 (OB ByteArray.empty) 1 16 underlying26 dR dA b9 cn rfl Oz _ _ _ rfl (CB.alloc _) (Ot aE.heap.size 0) 1 1 [OB x] rfl rfl (Yd aE x _ rfl) (abS x) Oz (by unfold maxLen;omega) Ou Rh (aE.heap.size+1) O8 ?_
   intro g2 cap' ap hown' hgrow iM _;refine ko A ?_;clear A K;have d3:=((B3.alloc JH (.cells #[OB x] 9)).grown hgrow Rh (fun b D=>(Qj CB b D).2));clear iM;refine uz 8 (.slice (some (Ot g2 0)) (k+1) cap') ?_;refine Sl ?_ _;go_simp;go_wp2
   go_roundw
   case rel=>
    refine⟨k+1,by omega,by go_num,?_,d3⟩;have kg:vs.take (k+1)=vs.take k++[v]:=by
     rw[List.take_succ_eq_append_getElem aQ];have bX:=Om zM;rw[List.getElem?_eq_getElem aQ] at bX;cases bX;rfl
    rw[kg,List.map_append,<-dU.out]
    show World.ownsRow _ _ _ _ _ _ _
    rw[List.length_append,List.map_append,pn.out]
    show World.ownsRow _ _ _ _ _ _ (_++[Value.string (σ.M.shw v)])
    rw[<-dQ.out];exact hown'
   case measure=>simp[intOf];omega
  ·have cT:k=vs.length:=Ou;subst cT;have aN:=apk (Pe HOWN (Below.refl wr.heap.size wr).drew) (by rw[List.length_map,List.take_length];exact hl) (fun x ae=>by
    obtain⟨v,av,rfl⟩:=List.mem_map.1 ae;rw[List.take_length] at av;exact(Om dB v av).2)
   obtain⟨hm,x7⟩:=xE (XP ((vs.take vs.length).map σ.M.shw));obtain⟨vl,ia⟩:=xE (((vs.take vs.length).map σ.M.shw).length);rw[<-x7,<-ia] at aN;rw[<-ia];rw[List.take_length] at x7;have Ge:=hide x7;obtain⟨aW,aC,aA,aM,uv⟩:=hW;have jy:=uv.later l4;have h':=jy.lt;obtain⟨la,gs,qw⟩:=OX jy.lg;subst qw;have eX:=jy;obtain⟨c2,_⟩:=jy.hh.at_ 0 _ rfl;obtain⟨ln,kq⟩:=xE σ.log.length;rw[<-kq] at c2;have f4:=hide c2;have jc:=hide kq;have MR:ln<=1000000000:=Ou;clear x7 ia c2 kq;go_wp2_with fail
   refine TI 9 fun ab=>?_;have z:=Oq (∀{G}(h:G:=by
   refine up 3 mb 2 ab ?_;refine up 4 mb 2 ab ?_;refine uk 5 f4.out ab ?_;refine uh 6 (.slice aB vl iS) (ab) ?_;refine P5 7 fun K A=>?_;go_simp;refine cm aN ?_;rintro e aE ⟨rfl,jg⟩;have rd:OD wr aE:=(Below.refl _ wr).drew.trans jg;refine A.out _ _ (fun _=>rd) ?_;clear A K;refine P5 8 fun K A=>?_;go_simp;refine A.out _ _ (fun _=>rd.alloc rd.size _) ?_;clear A K;refine P5 9 fun K A=>?_;have lN:=(eX.later (rd.alloc rd.size (.cells #[OB hm] 9)));have yc:=lN.lg;rw[<-jc.out] at yc;have Nj:=rd.size
   refine step_append_lies _ rfl _ _ 26 rfl mb 9 i0 (OB ByteArray.empty) 1 16 underlying26 dR dA b9 cn rfl Oz _ _ _ rfl yc (Ot aE.heap.size 0) 1 1 [OB hm] rfl rfl (Yd aE hm _ rfl) (abS hm) Oz (by unfold maxLen;omega) Ou Rh (aE.heap.size+1) O8 ?_
   intro hJ hG bA hown4 kT na _;refine ko A ?_;clear A K;have hgr5:World.grownBy (aE.alloc (.cells #[OB hm] 9)) bA (Value.slice la σ.log.length gs).ownBlock:=by rw[<-jc.out];exact kT
   obtain⟨hR,hc⟩:=lN.aAU hm (lv':=.slice (some (Ot hJ 0)) (ln+1) hG) hgr5 (by rw[<-jc.out];exact hown4)
   obtain⟨LC,LU⟩:=(lN.hh.keep (T:=[9]) (B:=mb) (w':=bA) (Py.grown kT Rh fun k E=>by
    obtain⟨c,aj⟩:=Qc yc E;exact⟨(yc.lt k E).1,c,9,aj,by simp⟩) Oz Oz Oz Oz Oz).at_ 0 _ rfl
   have gu:=((O5.of (L:=none) l4 (O0 bG)).trans ((O5.of (L:=none) (rd.alloc rd.size (.cells #[OB hm] 9)) (O0 h')).trans hc));have gp:mb<bA.heap.size:=by have:=kT.size;simp at this;omega
   clear na;refine uz 10 (OM mb 0) ?_;refine uz 11 (OM mb 2) ?_;refine uz 12 (OM mb 2) ?_;refine P5 13 fun K A=>?_;go_simp;refine ko A ?_;clear A K;refine Sl ?_ _;go_simp;go_wp2
   go_end0
   have hL:=hR;rw[Ge.out] at hL;exact⟨rfl,⟨_,_,_,_,hL⟩,gu⟩),G);exact Un
theorem ao4 (a b:OH):a++b=Yg a b:=by
 apply ByteArray.ext;simp[Yg]
def ai4 (kd a b:Int):Va × Er:=if kd=28 then (Qi (decide (a<b)),.no) else if kd=29 then Ve (a+b) else if kd=30 then Ve (a - b) else Ve (a * b)
def acf (a b:OH):Va × Er:=if 500<a.size+b.size then (vU,bad UM) else (Wn (Yg a b),.no)
def ao5 (es:OG)(w:Ov)(r:Va × Er)(e:Ending)(w':Ov):Prop:=(∃ ev,e=OQ (.tuple #[vA r.1,ev])/\Xm es w' ev r.2)/\OD w w'
theorem acg (n:Int)(w:Ov):OE 314 #[Ol n] w (ao5 es w (Ve n)):=by
 by_cases h:n < -1000000000\/1000000000<n
 ·exact ai2 es n h w
 ·exact ama es n h w
theorem agU (kd a b:Int)(ax:-1000000000<=a/\a<=1000000000)(D:-1000000000<=b/\b<=1000000000)(w:Ov):OE 294 #[Ol kd,Ol a,Ol b] w (ao5 es w (ai4 kd a b)):=by
 obtain⟨j2,a2⟩:=ax;obtain⟨dq,b2⟩:=D;have z:=Oq (∀{G}(h:G:=by
 obtain⟨rs,eI⟩:=xE (ai4 kd a b);rw[<-eI]
 by_cases yr:kd=28
 ·subst yr
  by_cases aQ:a<b
  ·have fO:Hid (rs=(Qi true,.no)):=by show _=_;rw[eI];unfold ai4;rw[if_pos rfl,decide_eq_true aQ]
   clear eI;go_enter func294,ntmps294;go_wp2_with fail;rw[<-bu.out];refine cm (VL true w2) ?_;rintro e fy ⟨rfl,cC⟩;obtain⟨bP,dm⟩:=xE (Qi true);exact aBz
  ·have fO:Hid (rs=(Qi false,.no)):=by show _=_;rw[eI];unfold ai4;rw[if_pos rfl,decide_eq_false aQ]
   clear eI;go_enter func294,ntmps294;go_wp2_with fail;rw[<-bu.out];refine cm (VL false w2) ?_;rintro e fy ⟨rfl,cC⟩;obtain⟨bP,dm⟩:=xE (Qi false);exact aBz
 by_cases BJ:kd=29
 ·subst BJ;have fO:Hid (rs=Ve (a+b)):=by show _=_;rw[eI];rfl
  clear eI yr;go_enter func294,ntmps294;go_wp2_with fail;rw[<-bu.out];refine cm (acg (es:=es) (a+b) w2) ?_;rintro e fy ⟨⟨ev,rfl,aD⟩,cC⟩;obtain⟨bP,dm⟩:=xE ((Ve (a+b)).1);exact awL
 by_cases E5:kd=30
 ·subst E5;have fO:Hid (rs=Ve (a - b)):=by show _=_;rw[eI];rfl
  clear eI yr BJ;go_enter func294,ntmps294;go_wp2_with fail;rw[<-bu.out];refine cm (acg (es:=es) (a - b) w2) ?_;rintro e fy ⟨⟨ev,rfl,aD⟩,cC⟩;obtain⟨bP,dm⟩:=xE ((Ve (a - b)).1);exact awL
 have fO:Hid (rs=Ve (a * b)):=by show _=_;rw[eI];unfold ai4;rw[if_neg yr,if_neg BJ,if_neg E5]
 have hmul:-1000000000000000000<=a * b/\a * b<=1000000000000000000:=by
  have h1:(a * b).natAbs<=1000000000000000000:=by
   rw[Int.natAbs_mul];exact Nat.mul_le_mul (show a.natAbs<=1000000000 by omega) (show b.natAbs<=1000000000 by omega)
  omega
 have JX:IntKind.i64.wrap (a * b)=a * b:=IntWalk.i64_in _ Ou;clear eI;go_enter func294,ntmps294;go_wp2_with fail;rw[<-bu.out]
 try rw[JX]
 refine cm (acg (es:=es) (a * b) w2) ?_;rintro e fy ⟨⟨ev,rfl,aD⟩,cC⟩;obtain⟨bP,dm⟩:=xE ((Ve (a * b)).1);exact awL),G);exact aBA
theorem awM (a b:OH)(ax:a.size<=1000000)(D:b.size<=1000000)(w:Ov):OE 295 #[OB a,OB b] w (ao5 es w (acf a b)):=by
 have z:=Oq (∀{G}(h:G:=by
 obtain⟨rs,eI⟩:=xE (acf a b);rw[<-eI]
 by_cases bE:500<a.size+b.size
 ·have fO:Hid (rs=(vU,bad UM)):=by show _=_;rw[eI];unfold acf;rw[if_pos bE]
  have bX:(a.size:Int)+(b.size:Int) > 500:=Ou;clear eI bE;go_enter func295,ntmps295;go_wp2_with fail;rw[<-bu.out];refine cm (Xj UM w2) ?_;rintro e fy ⟨⟨tb,rfl,lp,aD⟩,cC⟩;have dH:Xm es fy (.iface 122 (OM tb 0)) (bad UM):=⟨tb,rfl,aD⟩;have z:=Oq (∀{G}(h:G:=by
  clear aD lp;go_wp2_with fail;obtain⟨b1,bx⟩:=xE (((fy.setCell (Ot w.heap.size 0) (Ol 0)).setCell (Ot w.heap.size 1) (Ol 0)).setCell (Ot w.heap.size 2) (PN));rw[<-bx];have d1:=ZJ d9.out (Ol 0) (Ol 0) (PN);have d8:=below3 hT O6 (Ol 0) (Ol 0) (PN);have bi:=RJ (mb:=w.heap.size) d9.out O6 (Ol 0) (Ol 0) (PN);rw[<-bx] at d1 d8 bi;obtain⟨cG,b4,bT,_,_⟩:=cells3 d1;refine Y9 (v:=.tuple #[vA vU,.iface 122 (OM tb 0)]) ?_;rw[fO.out];exact⟨⟨_,rfl,dH.Qw bi Oz⟩,d8⟩),G);exact awN
 ·have fO:Hid (rs=(Wn (Yg a b),.no)):=by show _=_;rw[eI];unfold acf;rw[if_neg bE]
  have bX:¬ (a.size:Int)+(b.size:Int) > 500:=Ou;clear eI bE;go_enter func295,ntmps295;go_wp2_with fail;rw[<-bu.out,ao4];refine cm (ZH (Yg a b) w2) ?_;rintro e fy ⟨rfl,cC⟩;obtain⟨bP,de⟩:=xH (Wn (Yg a b));rw[<-de.out];have d9:=hide (stays cC bj.out);have hT:=(aF.trans (cC.mono aF.size));obtain⟨dn,bR,c7,l1,l2,l3,nl⟩:=O7 d9.out;exact aBB),G);exact aBA
theorem ajf (t:Tr)(p:Nat)(w:Ov)(h:UA w t p):OE 355 #[Oo p] w fun e w'=>e=OQ (OC (decide (t.tx=tArgs)))/\OD w w':=by
 obtain⟨eP,_,c1,_⟩:=h.cells;obtain⟨tx,cD⟩:=xE t.tx;rw[<-cD] at c1 ⊢;clear cD h
 by_cases aq:tx=tArgs
 ·have ay:=V8 (b:=tArgs) rfl aq;rw[decide_eq_true aq];clear aq;go_enter func355,ntmps355;go_wp2;go_ret;exact⟨rfl,QX⟩
 ·have ay:=VJ (b:=tArgs) rfl aq;rw[decide_eq_false aq];clear aq;go_enter func355,ntmps355;go_wp2;go_ret;exact⟨rfl,QX⟩
theorem aB3:VR 355:=fun _ _=>by kernel_rfl
theorem ag7 {B:Nat}{ps:List Tr}{bl:Tr}{q:Nat}(al:UF B w u ps)(hl:ps.length<=90000)(D:UA w bl q)(aj:bl.count<=20000):OE 341 #[u,Oo q] w fun e w'=>e=OQ (OC (hasArgs ps bl))/\OD w w':=by
 have fs:=abz 355 (fun k=>decide (k.tx=tArgs)) aB3 ps u w al hl fun t _ p W _ h=>ajf t p W h;obtain⟨dq,b6⟩:=xE (ps.any fun k=>decide (k.tx=tArgs));rw[<-b6] at fs;have dB:=hide (fun X (ak:OD w X)=>aae bl q false X (D.later ak) aj);have ft:(namesT bl false).length<=100000:=by
  have h1:(namesT bl false).length<=((if false=true then P6 bl else [])++(TV bl).map Tr.tx++(Pv bl).map Tr.tx).length:=Zw _;have U:=abk bl;have aw:=Go.Proofs.YticfnaiehdpbmaaGreatDoor.TW bl;have aL:=Rf bl;simp at h1;omega
 obtain⟨cV,dP,aT⟩:=al.form;subst aT;have aK:hasArgs ps bl=(!dq && !hasB (namesT bl false) tArgs):=by rw[b6];rfl
 rw[aK];clear b6 aK
 cases dq with
 | true=>
  go_enter func341,ntmps341;go_wp2_with fail;refine cm fs ?_;rintro e w1 ⟨rfl,b6⟩;have f3:=b6;clear b6;go_wp2;go_ret;exact⟨rfl,f3⟩
 | false=>
  obtain⟨b2,aF⟩:=xE (hasB (namesT bl false) tArgs);rw[<-aF];go_enter func341,ntmps341;go_wp2_with fail;refine cm fs ?_;rintro e w1 ⟨rfl,b6⟩;have f3:=b6;clear b6;go_wp2_with fail;refine cm (Om dB w1 f3) ?_;rintro e w2 ⟨⟨gC,rfl,hr2⟩,cC⟩;have cq:=(f3.trans (cC.mono f3.size));obtain⟨a2,bT,wI⟩:=OX hr2;subst wI;have ai:=(VU (namesT bl false) tArgs _ w2 hr2 ft);rw[<-aF] at ai;go_wp2_with fail;refine cm ai ?_;rintro e ap ⟨rfl,rfl⟩;go_wp2;go_ret;exact⟨by rw[aF];simp,cq⟩
def WJ (o:Int)(vs:List Va)(k:Nat)(σ:St):St:=(vs.zipIdx.take k).foldl (fun σ (v,i)=>σ.RG o (Yg ⟨#[97]⟩ (aaP i)) v false) σ
theorem acv (o:Int)(vs:List Va)(k:Nat)(σ:St)(v:Va)(E:vs[k]? = some v):WJ o vs (k+1) σ=(WJ o vs k σ).RG o (Yg ⟨#[97]⟩ (aaP k)) v false:=by
 have hl:=(List.getElem?_eq_some_iff.1 E).1;have U:k<vs.zipIdx.length:=by rw[List.length_zipIdx];exact hl
 unfold WJ;rw[List.take_succ_eq_append_getElem U,List.foldl_append,List.getElem_zipIdx];rw[List.getElem?_eq_getElem hl] at E;cases E;simp
theorem Sz.WJ (o:Int)(vs:List Va):∀ (k:Nat) {σ:St},Sz N σ->k<=vs.length->Sz (N+k) (WJ o vs k σ)
 | 0,_,h,_=>h
 | k+1,σ,h,E=>by
  rw[acv o vs k σ _ (List.getElem?_eq_getElem Ou)];exact(Sz.WJ o vs k h Ou).RG _ _ _ _
theorem Q9.Xo {o f gU eH:OG}{w2:Ov}(h:Q9 mb o f gU eH w w')(k:Py Th mb w' w2):Q9 mb o f gU eH w w2:=h.trans (Q9.ofT k)
theorem ag8 (a8:Bs w0 mb af O es)(bc:Y8 w0)(ae:Mx w0 mb af O aW aC aA aM w σ)(aI:Sz N σ)(hN:N+2000<1000000000)(aa:Ux w u vs)(hl:vs.length<=1500) :
  OE 342 #[Oo mb,u] w fun e w'=>e=OQ (vA (Tq vs σ).1)/\Mx w0 mb af O aW aC aA aM w' (Tq vs σ).2/\Q9 mb aA aM aA aM w w':=by
 have bG:=ae.lt;have z:=Oq (∀{G}(h:G:=by
 obtain⟨o,aR⟩:=xE (σ.M.objs.length:Int);obtain⟨σ1,ic⟩:=xE ({ σ with M:=σ.M.Pz 0 }:St);obtain⟨cy,ge⟩:=xE (σ1.RG o YB (Xh vs.length) false:St);have b9:Sz (N+1) σ1:=by rw[ic];exact aI.heap (Nat.le_succ _) (aI.go.Pz 0) rfl
 have cn:Sz (N+2) cy:=by rw[ge];exact b9.RG _ _ _ _
 have aK:Tq vs σ=(Um o,WJ o vs vs.length cy):=by
  unfold Tq WJ;rw[ge,ic,<-aR,List.take_of_length_le (Nat.le_of_eq List.length_zipIdx)]
 rw[aK];have dw:=(aaq (ae.later aF) aI Ou 0);rw[<-aR,<-ic] at dw;have HP:=hide (fun X (ak:Mx w0 mb af O aW aC aA aM X σ1)=>YS ak b9 Ou o YB (Xh vs.length) false);rw[<-ge] at HP;have bj:=hide hr2;have dj:=(aa.later aF);have cu:=(Q9.of (o:=aA) (f:=aM) aF (O0 bG));have cR:=hide cL;obtain⟨cV,dP,aT⟩:=aa.form;subst aT;have gK:mb<=aU:=Ou;clear hr2 cL ic ge aK aR;go_enter func342,ntmps342;go_wp2_with fail;rw[<-bu.out,<-b0];clear b0;refine cm dw ?_;rintro e ap ⟨rfl,fc,cS⟩;have cQ:=(cu.Xo cS)
 have dp:=hide (cS.rest _ _ _ bj.out Oz);have GX:=(dj.keep fun b c D=>cS.rest b c 65 D Oz);have fD:=fc.lt;go_wp2_with fail;refine TI 7 fun ab=>?_;have z:=Oq (∀{G}(h:G:=by
 refine uh 3 (Ol o) (ab) ?_;refine uh 4 (.slice cV vs.length dP) (ab) ?_;refine uh 5 (Ol (vs.length:Int)) (ab) ?_;refine P5 6 fun K A=>?_;go_simp;refine cm (aeO (vs.length:Int) ap.drew) ?_;rintro e fe ⟨rfl,II⟩;have pG:OD ap fe:=(Below.refl _ ap).drew.trans II;refine A.out _ _ (fun _=>pG) ?_;clear A K;obtain⟨nv,n3⟩:=xE (Xh vs.length);rw[<-n3];rw[<-n3] at HP;have Hq:=(fc.later pG);have hV:=(cQ.trans (Q9.of pG (O0 fD)));have zz:=hide (stays pG dp.out);have GZ:=(GX.later pG);clear n3;refine P5 7 fun K A=>?_
 go_simp;refine cm (Om HP _ Hq) ?_;rintro e bA ⟨rfl,gS,h4⟩;refine ko A ?_;clear A K;have fF:=(hV.Xo h4);have gw:=hide (h4.rest _ _ _ zz.out Oz);have GY:=(GZ.keep fun b c D=>h4.rest b c 65 D Oz);have gp:=gS.lt;refine Sl ?_ _;go_simp;go_wp2_with fail
 go_loopw [22] (fun i wr=>∃ k:Nat,k<=vs.length/\i=Ol k/\Mx w0 mb af O aW aC aA aM wr (WJ o vs k cy)/\Q9 mb aA aM aA aM w wr/\wr.heap[aU]? = some (O1 #[Ol 0,Ol 0,PN] 65)/\Ux wr (.slice cV vs.length dP) vs) (fun i _=>vs.length - (intOf i).toNat)
 case atStart=>exact⟨0,Nat.zero_le _,rfl,gS,fF,gw.out,GY⟩
 case round=>
  obtain⟨k,E,rfl,jy,gb,kW,kx⟩:=hrel;have eX:=jy;have bW:=hide kW;have h':=jy.lt;clear kW
  by_cases aQ:k<vs.length
  ·obtain⟨v,av⟩:=xE (vs[k]);have mF:vs[k]? = some v:=by rw[av];exact List.getElem?_eq_getElem aQ
   obtain⟨g,i7,cap,aT,hg,c0,c1,c2⟩:=kx.cells mF;simp only[Value.slice.injEq] at aT;obtain⟨rfl,_,rfl⟩:=aT;have h8:(k:Int)<(vs.length:Int):=Ou;have zM:=hide mF;clear av mF;go_wp2_with fail;obtain⟨b7,hi⟩:=xE (wr.alloc (.cells #[Ol v.k,Ol v.n,OB v.s] 65));obtain⟨vb,aV⟩:=xE wr.heap.size;have kY:b7.heap[vb]? = some (Y7 v):=by rw[hi,aV];exact OA _ _
   have gh:=hide (cells3 kY);have e3:OD wr b7:=by rw[hi];exact PO
   have Jk:mb<b7.heap.size:=by have:=e3.size;omega
   have ia:=lt_of_heap kY;obtain⟨pf,zG⟩:=xH (aaP (k:Int));have EK:(⟨(Lib.itoa (k:Int)).toArray⟩:OH)=pf:=by rw[zG.out];rfl
   have JG:pf.size<=21:=by
    have h:=Lib.itoa_length_le (k:Int) Ou Ou;rw[zG.out];show (List.toArray _).size<=21;rw[List.size_toArray];exact h
   have gD:=(Tryz.strconv_Itoa (k:Int) Ou Ou b7.drew ((show Ms w0 mb af O b7.drew _ from ⟨_,_,_,_,(eX.later e3).later (Below.refl b7.heap.size b7).drew⟩).tab a8 bc));rw[EK] at gD;obtain⟨dE,nM⟩:=xH (WJ o vs k cy);rw[<-nM.out] at eX;have jT:Sz (N+2+k) dE:=by rw[nM.out];exact Sz.WJ o vs k cn Ou
   have HP:=hide (fun X (ak:Mx w0 mb af O aW aC aA aM X dE)=>YS ak jT Ou o (Yg ⟨#[97]⟩ pf) v false);have qp:¬ (9223372036854775807:Nat)<1+pf.size:=Ou;rw[<-hi,<-aV];clear hi aV kY c0 c1 c2 hg EK;refine TI 8 fun ab=>?_;have z:=Oq (∀{G}(h:G:=by
   refine uh 3 (Ol o) (ab) ?_;refine uh 4 (Ol (k:Int)) (ab) ?_;refine uk3 7 gh.out ab ?_;refine P5 5 fun K A=>?_;go_simp;refine cm gD ?_;rintro e fe ⟨rfl,j7,os,iz⟩;have pG:OD b7 fe:=by
    rw[iz];exact(Below.refl _ b7).drew.trans (Lib.below_grow b7.heap.size b7.drew (Below.refl b7.heap.size b7).drew.size j7 os)
   refine A.out _ _ (fun _=>pG) ?_;clear A K iz;refine uh 6 (OB (Yg ⟨#[97]⟩ pf)) (pG) ?_ (hy:=Or.inl ⟨by kernel_rfl,fun _ _=>by go_simp;rw[ao4]⟩)
   refine P5 8 fun K A=>?_;go_simp;refine cm (Om HP _ ((eX.later e3).later pG)) ?_;rintro e ch ⟨rfl,o5,ji⟩;refine ko A ?_;clear A K;have rc:OD wr fe:=e3.trans (pG.mono e3.size);have ke:=((gb.trans (Q9.of rc (O0 h'))).Xo ji);have g':=hide (ji.rest _ _ _ (stays rc bW.out) Oz);have q4:=((kx.later rc).keep fun b c D=>ji.rest b c 65 D Oz);refine Sl ?_ _;go_simp;go_wp2
   go_roundw
   case rel=>
    refine⟨k+1,by omega,by go_num,?_,ke,g'.out,q4⟩;rw[nM.out,zG.out,<-acv o vs k cy v zM.out] at o5;exact o5
   case measure=>simp[intOf];omega),G);exact Un
  ·have cT:k=vs.length:=Ou;subst cT;have h8:¬ (vs.length:Int)<(vs.length:Int):=Ou;obtain⟨bP,de⟩:=xH (Um o);have h6:=ZG o wr;rw[<-de.out] at h6;go_wp2_with fail;refine cm h6 ?_;rintro e fy ⟨rfl,cC⟩;have d9:=hide (stays cC bW.out);have vu:=(eX.later cC);have jY:=(gb.trans (Q9.of cC (O0 h')));obtain⟨dn,bR,c7,fw,nl⟩:=cells3 d9.out;have l1:=fw 0;have l2:=fw 1;have l3:=fw 2;clear fw;go_wp2_with fail
   obtain⟨b1,bx⟩:=xE (((fy.setCell (Ot aU 0) (Ol bP.k)).setCell (Ot aU 1) (Ol bP.n)).setCell (Ot aU 2) (OB bP.s));rw[<-bx];have d1:=ZJ d9.out (Ol bP.k) (Ol bP.n) (OB bP.s);have bi:=RJ d9.out gK (Ol bP.k) (Ol bP.n) (OB bP.s);have bF:=jY.new bi (Ua cR.out _ _ _);have bC:=vu.YC bi Oz;rw[<-bx] at d1 bF bC;obtain⟨cG,b4,bT,_,_⟩:=cells3 d1;refine WA (v:=vA bP) ?_;refine⟨?_,bC,bF⟩;rw[de.out]),G);exact Un),G);exact aB4
def Vj (au:Int)(ps:List Tr)(vs:List Va)(k:Nat)(σ:St):St:=(ps.zipIdx.take k).foldl (fun σ (k,i)=>settle au k.tx (vs.getD i vU) σ) σ
theorem adZ (au:Int)(ps:List Tr)(vs:List Va)(k:Nat)(σ:St)(hl:k<ps.length):Vj au ps vs (k+1) σ=settle au (ps[k]).tx (vs.getD k vU) (Vj au ps vs k σ):=by
 have U:k<ps.zipIdx.length:=by rw[List.length_zipIdx];exact hl
 unfold Vj;rw[List.take_succ_eq_append_getElem U,List.foldl_append,List.getElem_zipIdx];simp
theorem Sz.Vj (au:Int)(ps:List Tr)(vs:List Va):∀ (k:Nat) {σ:St},Sz N σ->k<=ps.length->Sz (N+k) (Vj au ps vs k σ)
 | 0,_,h,_=>h
 | k+1,σ,h,E=>by
  rw[adZ au ps vs k σ Ou];exact(Sz.Vj au ps vs k h Ou).settle _ _ _
def Zb (au:Int)(l:List OH)(k:Nat)(σ:St):St:=(l.take k).foldl (fun σ nm=>σ.dec au nm 0 vU) σ
theorem ad1 (au:Int)(l:List OH)(k:Nat)(σ:St)(hl:k<l.length):Zb au l (k+1) σ=(Zb au l k σ).dec au l[k] 0 vU:=by
 unfold Zb;exact apl
theorem Sz.Zb (au:Int)(l:List OH):∀ (k:Nat) {σ:St},Sz N σ->k<=l.length->Sz (N+k) (Zb au l k σ)
 | 0,_,h,_=>h
 | k+1,σ,h,E=>by
  rw[ad1 au l k σ Ou];exact(Sz.Zb au l k h Ou).dec _ _ _ _
theorem Sz.args {vs:List Va}(h:Sz N σ):Sz (N+2+vs.length) (Tq vs σ).2:=by
 have aK:(Tq vs σ).2=Hp.WJ σ.M.objs.length vs vs.length (({ σ with M:=σ.M.Pz 0 }:St).RG σ.M.objs.length YB (Xh vs.length) false):=by
  unfold Tq Hp.WJ;rw[List.take_of_length_le (Nat.le_of_eq List.length_zipIdx)]
 rw[aK];exact Sz.WJ _ _ _ ((h.heap (Nat.le_succ _) (h.go.Pz 0) rfl:Sz (N+1) _).RG _ _ _ _) O6
theorem OY.aGE {a:Ad}{d:Nd}{u:OG}(h:OY O w a d)(aj:w.cell? (Ot a.p 3)=some u)(E:Kp w w'):UF 0 w' u d.2.kids/\UA w' d.2 a.p:=by
 have az:UA w' d.2 a.p:=by rw[<-h.tr];exact(RV.kp E _ h.at_).nat.nt
 obtain⟨_,_,_,v,c3,aa⟩:=az.cells;have ag:∃ c,w.heap[a.p]? = some (O1 c 40):=by
  have h1:=h.at_;exact axf
 have U:=E.XQ aj ag;rw[c3] at U;cases U;exact⟨aa,az⟩
theorem axg (a8:Bs w0 mb af O es)(bc:Y8 w0)(ae:Mx w0 mb af O aW aC aA aM w σ)(aI:Sz N σ)(hN:N+9000<1000000000){a:Ad}{d:Nd}(hd:OY O w a d)(E:d.2.kids.length=2)(aj:d.2.count<=1500)(eP:(Oy d 0).2.kids.length<=8)(U:∀ k ∈ TY (Oy d 1),k.2.kids.length=2)(p:Pl)(aB:Option Addr)(aa:Ux w u vs)(hl:vs.length<=1500) :
  OE 324 #[Oo mb,Oo a.p,PU p aB,u] w fun e w'=>e=OQ (.tuple #[])/\∃ WI,Mx w0 mb af O aW aC aA WI w' (Tt d p vs σ)/\Q9 mb aA aM aA WI w w':=by
 have bG:=ae.lt;have z:=Oq (∀{G}(h:G:=by
 have cU:=hd.kp (Kp.of aF);obtain⟨ce,cB,cap0,c3,dC,fV,_⟩:=cU.Yj (i:=0) Ou;obtain⟨bQ,b5,cap1,jI,fW,jh,_⟩:=cU.Yj (i:=1) Ou;rw[E] at c3 jI;rw[c3] at jI;simp only[Option.some.injEq,Value.slice.injEq,Addr.mk.injEq,and_true,true_and] at jI;obtain⟨rfl,rfl⟩:=jI;have ru:UA w2 (Oy d 0).2 ce.p:=by rw[<-fV.tr];exact fV.at_.nat.nt
 have gL:UA w2 (Oy d 1).2 bQ.p:=by rw[<-jh.tr];exact jh.at_.nat.nt
 obtain⟨EC,_,_,v0,xD,d'⟩:=ru.cells;obtain⟨NY,cA,qC⟩:=d'.form;subst qC;have IM:(Oy d 1).2.count<=1500:=by
  have h1:(Oy d 1).2 ∈ d.2.kids:=by
   rw[Xp,List.getD_eq_getElem?_getD,List.getElem?_eq_getElem (by omega:1<d.2.kids.length)];exact List.getElem_mem _
  have:=YF h1;omega
 have I':=Rf (Oy d 1).2;have JU:=X4 (Oy d 1).2;have yj:(P6 (Oy d 1).2).length<=1500:=by
  have U:Tr.counts (Oy d 1).2.kids<(Oy d 1).2.count:=by cases (Oy d 1).2;rw[Tr.count];exact Nat.lt_add_of_pos_left Ou
  omega
 obtain⟨q,ag⟩:=xE a.p;obtain⟨cG,r8⟩:=xH ce.p;obtain⟨b4,tw⟩:=xH bQ.p;have dz:=cU.cells.1;have dI:=cell_lt dC;have B4:=hide xD;obtain⟨ps,qb⟩:=xH ((Oy d 0).2.kids);obtain⟨bl,lf⟩:=xE (Oy d 1);rw[<-qb.out] at d' eP xD;rw[<-qb.out] at B4;rw[<-lf] at gL jh U IM I' JU yj;rw[<-ag] at c3 dz ⊢;rw[<-r8.out] at dC xD EC;rw[<-tw.out] at fW;obtain⟨rs,eI⟩:=xE (Tt d ⟨au,aG,st⟩ vs σ);rw[<-eI]
 have fO:Hid (rs=U4 bl ⟨au,aG,st⟩ (Qz (Pv bl.2) au (Zb au (P6 bl.2) (P6 bl.2).length (if hasArgs ps bl.2 then (Tq vs (Vj au ps vs ps.length σ)).2.dec au tArgs 0 (Tq vs (Vj au ps vs ps.length σ)).1 else Vj au ps vs ps.length σ)))):=by
  show _=_
  rw[eI,qb.out,lf];unfold Tt Zb Vj;rw[List.take_length,List.take_of_length_le (Nat.le_of_eq List.length_zipIdx)]
 have el:=(ae.later aF);have cu:=(Q9.of (o:=aA) (f:=aM) aF (O0 bG));have b8:=hide be;have bj:=(aa.later aF);have gY:=hide U;obtain⟨cV,dP,aT⟩:=aa.form;subst aT;have pO:ps.length<=8:=eP;clear ae be eI lf ag U eP;go_enter func324,ntmps324;go_wp2_with fail;rw[<-bu.out,<-bV];clear bV
 go_region
 have dZ:OD w2 w2.drew:=QX.drew;obtain⟨ap,ix⟩:=xE w2.drew;rw[<-ix] at dZ ⊢;have eN:=(el.later dZ);have cQ:=(cu.trans (Q9.of dZ (O0 el.lt)));have fM:=hide (stays dZ b8.out);have dp:=(bj.later dZ);have qY:=hide (fun X (ak:Kp ap X)=>fV.aGE B4.out (fun b c e D aq=>ak b c e (Kp.of dZ b c e D aq) aq));have rU:=(jh.kp (Kp.of dZ));have fD:=eN.lt;rw[<-qb.out,<-r8.out] at qY;clear ix c3 dC fW xD dI dz EC;go_wp2_with fail
 go_loopw [32] (fun i wr=>∃ k:Nat,k<=ps.length/\i=Ol k/\Mx w0 mb af O aW aC aA aM wr (Vj au ps vs k σ)/\Q9 mb aA aM aA aM w wr/\wr.heap[bf]? = some (O1 #[Ol au,Ol aG,OC st,.pointer aB] 73)/\Ux wr (.slice cV vs.length dP) vs/\Kp ap wr) (fun i _=>ps.length - (intOf i).toNat)
 case atStart=>exact⟨0,Nat.zero_le _,rfl,eN,cQ,fM.out,dp,fun _ _ _ h _=>h⟩
 case round=>
  obtain⟨k,dc,rfl,jy,gb,ng,kx,oU⟩:=hrel;have eX:=jy;have kF:=gb;have fN:=hide ng;have md:=kx;have jq:=oU;have h':=jy.lt;clear ng
  by_cases aQ:k<ps.length
  ·obtain⟨g,cap,hn,av,hg,aj,az⟩:=(Om qY wr jq).1.cell k aQ;simp only[Value.slice.injEq] at av;obtain⟨rfl,_,rfl⟩:=av;obtain⟨nk,_,c1,_⟩:=az.cells;have h8:(k:Int)<(ps.length:Int):=Ou;obtain⟨x,ae⟩:=xE ((ps[k]).tx);rw[<-ae] at c1;have dQ:=hide ae;obtain⟨v,av⟩:=xE (vs.getD k vU);have bJ:=hide av;obtain⟨dE,gT⟩:=xE (Vj au ps vs k σ);rw[<-gT] at eX;have jT:Sz (N+k) dE:=by rw[gT];exact Sz.Vj au ps vs k aI Ou
   have a':=hide (fun X (ak:Mx w0 mb af O aW aC aA aM X dE)=>ag9 ak jT Ou au x v);have nM:=hide gT;have fi:=hide c1;clear ae gT c1
   by_cases ax:k<vs.length
   ·have mF:vs[k]? = some v:=by rw[av,List.getD_eq_getElem?_getD,List.getElem?_eq_getElem ax];rfl
    obtain⟨sw,i7,LG,aT,AM,gH,eq,hz⟩:=md.cells mF;simp only[Value.slice.injEq] at aT;obtain⟨rfl,_,rfl⟩:=aT;have qv:(k:Int)<(vs.length:Int):=Ou;clear av mF;go_wp2_with fail;obtain⟨b7,hi⟩:=xE (wr.alloc (.cells #[Ol v.k,Ol v.n,OB v.s] 65));obtain⟨vb,aV⟩:=xE wr.heap.size;have kY:b7.heap[vb]? = some (Y7 v):=by rw[hi,aV];exact OA _ _
    exact aB5
   ·have qv:¬ (k:Int)<(vs.length:Int):=Ou;have EQ:v=vU:=by rw[av,List.getD_eq_getElem?_getD,List.getElem?_eq_none Ou];rfl
    have Hl:=hide EQ;clear av EQ;go_wp2_with fail;obtain⟨b7,hi⟩:=xE (wr.alloc (.cells #[Ol 0,Ol 0,PN] 65));obtain⟨vb,aV⟩:=xE wr.heap.size;have kY:b7.heap[vb]? = some (Y7 v):=by rw[hi,aV,Hl.out];exact OA _ _
    exact aB5
  ·have cT:k=ps.length:=Ou;subst cT;have h8:¬ (ps.length:Int)<(ps.length:Int):=Ou;obtain⟨Jm,fo⟩:=Om qY wr jq;have e':UA wr bl.2 b4:=by
    rw[tw.out,<-rU.tr];exact(RV.kp jq _ rU.at_).nat.nt
   have p0:=(ag7 Jm Ou e' Ou);obtain⟨HI,cr⟩:=xE (hasArgs ps bl.2);rw[<-cr] at p0 fO;obtain⟨yF,BG⟩:=xE (Vj au ps vs ps.length σ);rw[<-BG] at eX fO;have o7:Sz (N+8) yF:=by rw[BG];exact(Sz.Vj au ps vs ps.length aI O6).up Ou
   clear cr BG;go_wp2_with fail;refine cm p0 ?_;rintro e bA ⟨rfl,dh⟩;have f7:=(eX.later dh);have fF:=(kF.trans (Q9.of dh (O0 h')));have kJ:=hide (stays dh fN.out);have q3:=(md.later dh);have kG:Kp ap bA:=fun b c e D aq=>Kp.of dh b c e (jq b c e D aq) aq;have gp:=f7.lt
   cases HI with
   | true=>
    obtain⟨KQ,yg⟩:=xE (Tq vs yF);obtain⟨C4,B0⟩:=KQ;obtain⟨fK,hj⟩:=xE (B0.dec au tArgs 0 C4);have sW:Sz (N+1590) B0:=by
     have h:=o7.args (vs:=vs);rw[<-yg] at h;exact h.up Ou
    have nN:Sz (N+1600) fK:=by show Sz _ _;rw[hj];exact(sW.dec _ _ _ _).up Ou
    have gg:Hid (rs=U4 bl ⟨au,aG,st⟩ (Qz (Pv bl.2) au (Zb au (P6 bl.2) (P6 bl.2).length fK))):=by
     show _=_
     have h:=Om fO;rw[<-yg,if_pos rfl] at h;rw[h,hj]
    have B2:=hide (fun X (ak:Mx w0 mb af O aW aC aA aM X yF) (fZ:Ux X (.slice cV vs.length dP) vs)=>ag8 a8 bc ak o7 Ou fZ hl);rw[<-yg] at B2;have tm:=hide (fun X (ak:Mx w0 mb af O aW aC aA aM X B0)=>Xl ak sW Ou au tArgs 0 C4);rw[<-hj] at tm;clear yg hj;go_wp2_with fail;have c':bA.drew.heap[bf]? = some (O1 #[Ol au,Ol aG,OC st,.pointer aB] 73):=stays (Below.refl bA.heap.size bA).drew kJ.out;have ab:OD bA bA.drew:=QX.drew
    refine QE 8 (fun X=>X.heap[bf]? = some (O1 #[Ol au,Ol aG,OC st,.pointer aB] 73)) PK ?_;refine up 0 mb 0 c' ?_;refine up 1 mb 0 c' ?_;refine up 2 mb 0 c' ?_;refine up 3 bf 0 c' ?_;refine uc 4 (Ol au) rfl (Or.inl ⟨by kernel_rfl,fun X ak=>by have h0:=(cells4 ak).1;go_simp⟩) (c') ?_
    refine up 5 mb 0 c' ?_;refine uh 6 (.slice cV vs.length dP) (c') ?_;refine P5 7 fun K A=>?_;go_simp;refine cm (Om B2 _ (f7.later ab) (q3.later ab)) ?_;rintro e b7 ⟨rfl,lZ,hc⟩;have g7:=f7.later ab;have qy:=(hc.frL (L:=none) g7).keep c' Oz;refine A.out _ _ (fun _=>qy) ?_;clear A K;have hR:=lZ.lt;have gu:=((fF.trans (Q9.of ab (O0 gp))).trans hc);have l7:Kp ap b7:=fun b c e D aq=>hc.kp g7 b c e (Kp.of ab b c e (kG b c e D aq) aq) aq;have jd:=hide qy;clear qy;refine P5 8 fun K A=>?_;go_simp
    refine cm (Om tm _ lZ) ?_;rintro e i' ⟨rfl,us,rf⟩;refine ko A ?_;clear A K;have k':=hide us;have ij:=hide (gu.Xo rf);have iG:=hide (rf.rest _ _ _ jd.out Oz);have kH:Hid (Kp ap i'):=fun b c e D aq=>Py.kp rf b c e (l7 b c e D aq) aq;have mz:=us.lt;clear c';refine Sl ?_ _;go_simp;have bJ:=hide (fun X (ak:Kp ap X)=>WZ bl.2 b4 X (by
     rw[tw.out,<-rU.tr];exact(RV.kp ak _ rU.at_).nat.nt) Ou)
    go_wp2_with fail;refine cm (Om bJ _ kH.out) ?_;have z:=Oq (∀{G}(h:G:=by
    have qg:=(k'.out.later fR);have ny:=(ij.out.trans (Q9.of fR (O0 mz)));have tt:=hide (stays fR iG.out);have xp:Kp ap dT:=fun b c e D aq=>Kp.of fR b c e (Om kH b c e D aq) aq;exact aB6),G);exact aB7
   | false=>
    obtain⟨fK,hj⟩:=xE yF;obtain⟨i',lu⟩:=xE bA;have gg:Hid (rs=U4 bl ⟨au,aG,st⟩ (Qz (Pv bl.2) au (Zb au (P6 bl.2) (P6 bl.2).length fK))):=by
     show _=_
     rw[fO.out,hj];rfl
    have nN:Sz (N+1600) fK:=by show Sz _ _;rw[hj];exact o7.up Ou
    have k':=f7;have ij:=fF;have iG:=kJ;have kH:=kG;have mz:=gp;rw[<-hj,<-lu] at k';rw[<-lu] at ij iG kH mz ⊢;clear hj lu;have bJ:=hide (fun X (ak:Kp ap X)=>WZ bl.2 b4 X (by
     rw[tw.out,<-rU.tr];exact(RV.kp ak _ rU.at_).nat.nt) Ou)
    go_wp2_with fail;refine cm (Om bJ _ kH) ?_;have z:=Oq (∀{G}(h:G:=by
    have qg:=(k'.later fR);have ny:=(ij.trans (Q9.of fR (O0 mz)));have tt:=hide (stays fR iG.out);have xp:Kp ap dT:=fun b c e D aq=>Kp.of fR b c e (kH b c e D aq) aq;exact aB6),G);exact aB7),G);exact zss
section
open Go.RowKit Go.Extern.Stop Go.Stop Go.Extern
theorem ard {w:Ov}{T:Nat}{t:TypeId}{n v0:OG}(bH i6:Obj)(D:w.heap[T]? = some (O1 #[v0] t))(dY:w.cell? (Ot T 0)=some v0)(lQ:T<w.heap.size) :
  (((w.setCell (Ot T 0) n).alloc bH).alloc i6).heap[T]? = some (O1 #[n] t)/\Below T w (((w.setCell (Ot T 0) n).alloc bH).alloc i6):=
 ⟨alloc_old (alloc_old (heap_setCell_same w T 0 _ t n D)),(ank bH i6 dY lQ).2⟩
theorem arf (bf:Nat)(T a:Nat)(w:Ov)(xV:w.heap[T]? = some (O1 #[Ri] 122))(dY:w.cell? (Ot T 0)=some Ri)(ah:w.frozen? (Ot T 0)=false)(ax:w.cell? (Ot a 0)=some (OM T 0))(lQ:T<w.heap.size)(oM:a<w.heap.size) :
  OE 65 #[.iface 122 (OM bf 0),.iface 123 (OM T 0),.agg #[OM 13 123,OM a 0,.int .u64 150],.iface 215 (.agg #[OM 13 122])] w fun e w'=>
   e=OQ (OC true)/\w'.heap[T]? = some (O1 #[OM bf 0] 122)/\Below T w w':=by
 have z:=Oq (∀{G}(h:G:=by
 have BV:=R9.alb;have Hx:=R9.Zu;have K5:=R9.ah9;have c9:=R9.anp (Ot a 0) (Ot T 0) (w.alloc (.cells #[OM 13 123,OM a 0,.int .u64 150] 130)) (by rw[World.cell?_alloc_past _ _ _ oM];exact ax)
 have st:=R9.avv (Ot T 0) (Ot (w.heap.size+1) 0) (Ot bf 0) Ri ((w.alloc (.cells #[OM 13 123,OM a 0,.int .u64 150] 130)).alloc (.cells #[OM bf 0] 122))
  (by rw[World.cell?_alloc_at _ _ _ _ O8];rfl) (by rw[World.cell?_alloc_past _ _ _ Rh,World.cell?_alloc_past _ _ _ lQ];exact dY) (by rw[World.frozen?_alloc_old _ _ _ Rh,World.frozen?_alloc_old _ _ _ Rh];exact ah)
 have z:=Oq (∀{G}(h:G:=by
 exact⟨rfl,ard _ _ xV dY lQ⟩),G);exact aq7),G);exact aq8
theorem aj9 (bf:Nat)(T:Nat)(w:Ov)(xV:w.heap[T]? = some (O1 #[Ri] 122))(dY:w.cell? (Ot T 0)=some Ri)(ah:w.frozen? (Ot T 0)=false)(lQ:T<w.heap.size)(hg:w.cell? (Ot 0 0)=some (.iface 215 (.agg #[OM 13 31]))) :
  OE 32 #[.iface 122 (OM bf 0),.iface 123 (OM T 0)] w fun e w'=>e=OQ (OC true)/\w'.heap[T]? = some (O1 #[OM bf 0] 122)/\Below T w w':=by
 have z:=Oq (∀{G}(h:G:=by
 have DG:gF.heap[T]? = some (O1 #[Ri] 122):=by rw[iV];exact alloc_old (alloc_old xV)
 have z:=Oq (∀{G}(h:G:=by
 have ai:Hid _:=arf bf T w.heap.size gF DG re sB ax Ou Ou;rw[iV] at ai kh;clear b9 sB re DG xV ax iV gF;exact aze),G);exact avu),G);exact zsv
end
section
variable {p:Pl} {o:Int} {d:Nd} {a6:List Nd} {v:Va}
include p o d a6 v
theorem asx {σ1:St}(h:F.v (Oy d 0) p σ=((v,.no),σ1)):aan F p o (d::a6) σ=aan F p o a6 (σ1.RG o d.2.tx v false):=by rw[aan,h]
theorem asy {e:Er}{σ1:St}(h:F.v (Oy d 0) p σ=((v,e),σ1))(aq:e≠.no):aan F p o (d::a6) σ=((vU,e),σ1):=by
 rw[aan,h];exact awI
end
theorem amc (ac:Zp es)(aJ:Ms w0 mb af O w σ)(aI:Sz N σ)(hN:N<1000000000){a:Ad}{d:Nd}(hd:OY O w a d)(hlen:d.2.kids.length<=1000000)(h1:∀ k ∈ P9 d,k.2.kids.length=1)(p:Pl)(aB:Option Addr)
  (P:St->Prop) (hP:P { σ with M:=σ.M.Pz 0 }) (bq:∀ k ∈ P9 d,∀ bO,P bO->Ub w0 mb af O es bO (Oy k 0) p (F.v (Oy k 0) p bO)/\∀ v σ1,F.v (Oy k 0) p bO=((v,.no),σ1)->Sz N σ1/\P (σ1.RG σ.M.objs.length k.2.tx v false)) :
  OE 266 #[Oo mb,Oo a.p,PU p aB] w (O3 w0 mb af O es w (aan F p σ.M.objs.length (P9 d) { σ with M:=σ.M.Pz 0 })):=by
 have z:=Oq (∀{G}(h:G:=by
 have b8:=hide be;have ei:=hide (cells4 be);have z:=Oq (∀{G}(h:G:=by
 obtain⟨q,bm⟩:=xH a.p;obtain⟨ob,gd⟩:=xE ((σ.M.objs.length:Int):Int);obtain⟨qL,qD⟩:=xE ({ σ with M:=σ.M.Pz 0 }:St);obtain⟨a6,uT⟩:=xH (P9 d);obtain⟨c9,pi⟩:=xH a.ks;have iu:c9.length=a6.length:=by rw[pi.out,uT.out,hd.ks,Si]
 rw[<-gd,<-qD,<-uT.out];rw[<-gd,<-uT.out] at bq;rw[<-qD] at hP;rw[<-uT.out] at h1;obtain⟨rs,fO⟩:=xH (aan F ⟨au,aG,st⟩ ob a6 qL);rw[<-fO.out];have lK:OE 49 #[Oo mb,Ol 0] w2 fun e w'=>e=OQ (Ol ob)/\Ms w0 mb af O w' qL/\Py Th mb w2 w':=by
  obtain⟨_,_,_,_,ae⟩:=cZ;refine(aaq ae aI hN 0).mono ?_;rintro e w' ⟨rfl,U,aw⟩;rw[gd,qD];exact⟨rfl,⟨_,_,_,_,U⟩,aw⟩
 have ot:=hide hP;have ai:=hide bq;have uM:=hide h1;have pn:=hide iu;have D4:c9.length<=1000000:=by rw[pi.out,hd.ks];exact hlen
 rw[<-bm.out] at dz ⊢;clear be hr2 dx cL d0 hP bq h1 gd qD iu;go_enter func266,ntmps266;go_wp2_with fail;rw[<-bu.out,<-b0,<-bV];clear bV b0;refine cm lK ?_;rintro e ap ⟨rfl,eA,f8⟩;have fD:=eA.lt;have nY:O5 none mb w2 ap:=O5.ofT f8;have dp:=hide (nY.keep bj.out Oz);have fM:=hide (nY.keep b8.out Oz);have cQ:=(cu.trans nY);have x4:=cU.kp nY.UD;obtain⟨BW,c3,hrow,sS⟩:=RV.row x4.at_;obtain⟨cV,dP,aT⟩:=hrow.form;subst aT;rw[<-bm.out] at c3 sS;rw[<-pi.out] at c3 hrow;have ft:=x4.ndl
 rw[<-pi.out,<-uT.out] at ft;go_wp2_with fail;clear c3
 go_loopw [22] (fun i wr=>∃ (k:Nat) (dE:St),k<=c9.length/\i=Ol k/\Ms w0 mb af O wr dE/\P dE/\O5 none mb ap wr/\rs=aan F ⟨au,aG,st⟩ ob (a6.drop k) dE) (fun i _=>c9.length - (intOf i).toNat)
 case atStart=>exact⟨0,qL,Nat.zero_le _,rfl,eA,ot.out,O5.of QX (O0 fD),fO.out⟩
 case round=>
  obtain⟨k,dE,E,rfl,aJ,ld,ah,iY⟩:=hrel;have hW:=aJ;have ma:=hide ld;have je:=hide iY;have di:=aJ.lt;have qQ:=(cQ.trans ah);have F4:=ah;have bj:=hide (ah.keep dp.out Oz);have b8:=hide (ah.keep fM.out Oz);have ei:=hide (cells4 b8.out);have hpl2:=lt_of_heap b8.out;clear ld iY
  by_cases aQ:k<c9.length
  ·have bo:k<a6.length:=by rw[<-pn.out];exact aQ
   obtain⟨g,cap,av,hg,aj,az⟩:=(hrow.kp ah.UD).cell k aQ;have z:=Oq (∀{G}(h:G:=by
   have jj:=(Uo.get _ _ ft k aQ bo).kp ah.UD;obtain⟨ci,iq⟩:=Om ai a6[k] (List.getElem_mem _) dE ma.out;have iO:=Om uM a6[k] (List.getElem_mem _);obtain⟨ce,cB,cap0,fG,dC,fV,_⟩:=jj.Yj (i:=0) Ou;rw[iO] at fG;have bJ:=hide (fun X (ak:OD wr X)=>ci X ce aB (hW.later ak) (fV.kp (Kp.of ak)));obtain⟨hn,nk⟩:=xE ((c9[k]).p);obtain⟨kp,dc⟩:=xE ce.p;obtain⟨tx,lM⟩:=xH ((a6[k]).2.tx);have Jy:=jj.cells.1;have fT:=jj.cells.2.2.1;have hblk:=jj.blk;rw[<-nk] at aj fG Jy fT hblk;rw[<-lM.out] at fT
   rw[<-dc] at dC bJ
   rcases dm:F.v (Oy a6[k] 0) ⟨au,aG,st⟩ dE with ⟨⟨v1,ay⟩,σ1⟩
   rw[dm] at bJ;have lH:=hide iq;have de:=hide dm;have l6:=hide (List.drop_eq_getElem_cons bo);have eF:=hide fG;have lG:=hide dC;have mQ:=hide fT;have lE:=hide hblk;have dI:=cell_lt dC;have cL:w.heap.size<=aU:=Om cR;clear iq nk dc dm fG dC fT hblk;go_wp2_with fail;clear aj;refine VN (H:=fun wz vb ev=>VB w0 mb af O es wr v1 ay σ1 wz vb ev) (G:=?GG) (fun dJ=>?ways) ?rest
   case ways=>
    refine TI 8 fun ab=>?_;refine up 0 mb 0 ab ?_;refine up 1 hn 0 ab ?_;refine up 2 hn 0 ab ?_;refine up 3 hn 3 ab ?_;have z:=Oq (∀{G}(h:G:=by
    refine uk4 7 ei.out ab ?_;refine uq2 8 12 (fun K A=>?_) fun K A=>?_
    ·have z:=Oq (∀{G}(h:G:=by
     refine uz 14 ev ?_;exact aBx),G);exact asz
    ·have z:=Oq (∀{G}(h:G:=by
     have fp:aE.heap[wr.heap.size]? = some (O1 #[Ol 0,Ol 0,PN] 65):=ah.keep (OA _ _) Oz;have z:=Oq (∀{G}(h:G:=by
     have z:=Oq (∀{G}(h:G:=by
     have ci:=VB.early (v:=v1) fp O6 (O0 di) aD aJ ((O5.of (PO.drew) (O0 di)).trans ah);exact aBy),G);exact ai3),G);exact asA),G);exact asB),G);exact ao3
   rintro wz vb ev aV;have cE:=aV.fr.keep bj.out Oz;have dV:=hide cE;obtain⟨cH,bU,cg,dt,du,dv,rl⟩:=O7 (cE);have ea:=aV.ms.lt;have cl:vb≠aU:=fun e=>by
    have h1:=aV.vb;have U:=lt_of_heap bj.out;omega
   have cY:O5 none mb w wz:=qQ.trans aV.fr;clear cE
   by_cases aq:ay=.no
   ·subst aq;have bv:ev=Qp:=aV.er;subst bv;obtain⟨b9,vS⟩:=Om lH v1 σ1 de.out;rw[<-lM.out] at vS;have gE:=hide vS;have jr:=aV.ms;have gh:=hide (cells3 aV.v);have ia:=lt_of_heap aV.v;have oh:=hide (aV.fr.UD.XQ mQ.out lE.out);have hf:=cell_lt oh.out;have F5:=(F4.trans aV.fr);have pp:Hid (∀ X,OD wz X->OE 56 #[Oo mb,Ol ob,OB tx,vA v1,OC false] X fun e w'=>(∃ c,e=OQ (Ur c))/\Ms w0 mb af O w' (σ1.RG ob tx v1 false)/\Py Th mb X w'):=fun X ak=>by
     obtain⟨_,_,_,_,ae⟩:=jr.later ak;refine(YS ae b9 hN ob tx v1 false).mono ?_;rintro e w' ⟨rfl,U,aw⟩;exact⟨⟨_,rfl⟩,⟨_,_,_,_,U⟩,aw⟩
    clear vS cH bU cg dt du dv rl;go_wp2_with fail;refine TI 9 fun ab=>?_;have z:=Oq (∀{G}(h:G:=by
    refine uh 3 (Ol ob) (ab) ?_;refine up 4 hn 0 ab ?_;refine up 5 hn 0 ab ?_;refine up 6 hn 1 ab ?_;refine uk 7 oh.out ab ?_;refine uk3 8 gh.out ab ?_;refine P5 9 fun K A=>?_;go_simp;refine cm (Om pp _ ab) ?_;rintro e b7 ⟨⟨c5,rfl⟩,tX,qk⟩;refine ko A ?_;clear A K;have gu:=(F5.trans ((O5.of (L:=none) ab (O0 ea)).trans (O5.ofT qk)));refine Sl ?_ _;go_simp;go_wp2
    go_roundw
    case rel=>
     refine⟨k+1,σ1.RG ob tx v1 false,by omega,by go_num,tX,gE.out,gu,?_⟩;rw[je.out,l6.out,asx de.out,<-lM.out]
    case measure=>simp[intOf];omega),G);exact Un
   ·obtain⟨et,ex,bv⟩:=aV.er.WT aq ac;subst bv;have aK:rs=((vU,ay),σ1):=by rw[je.out,l6.out];exact asy de.out aq
    have bB:=hide aK;clear aq aK;exact asn),G);exact awJ
  ·have cT:k=c9.length:=Ou;have aK:rs=((Um ob,.no),dE):=by rw[je.out,cT,pn.out,List.drop_length];rfl
   have cI:=hide aK;have h8:¬ (k:Int)<(c9.length:Int):=Ou;obtain⟨bP,dm⟩:=xE (Um ob);have h6:=ZG ob wr;rw[<-dm] at h6;clear aK cT;go_wp2_with fail;refine cm h6 ?_;rintro e fy ⟨rfl,cC⟩;have d9:=hide (stays cC bj.out);have k2:=(hW.later cC);have jY:=(qQ.trans (O5.of (L:=none) cC (O0 di)));have de:=hide dm;obtain⟨dn,bR,c7,l1,l2,l3,nl⟩:=O7 d9.out;clear dm;have z:=Oq (∀{G}(h:G:=by
   rw[cI.out,<-de.out];exact⟨⟨_,rfl,rfl⟩,bC,bF⟩),G);exact agO),G);exact Vd),G);exact Xu
def ab7 (F:Fx)(k:Nd)(p:Pl)(σ:St):(Va × Er) × St:=match UW F (Oy k 0) p σ with
 | ((o,.no),σ1)=>let r:=σ1.M.cut o k.2.tx;if !r.1&&p.strict then ((vU,bad tType),{ σ1 with M:=r.2 }) else ((Qi r.1,.no),{ σ1 with M:=r.2 })
 | ((_,e),σ1)=>((vU,e),σ1)
section
variable (ac:Zp es) (aJ:Ms w0 mb af O w σ) {a:Ad} {d:Nd} (hd:OY O w a d) (E:d.2.kids.length=1) (p:Pl) (aB:Option Addr) (h1:Ub w0 mb af O es σ (Oy d 0) p (F.v (Oy d 0) p σ)) (aI:∀ o σ1,UW F (Oy d 0) p σ=((o,.no),σ1)->Sz N σ1) (hN:N<1000000000)
include ac aJ a d hd E p aB h1 aI hN
theorem aoX :
  OE 264 #[Oo mb,Oo a.p,PU p aB] w (O3 w0 mb af O es w (al4 F d p σ)):=by
 have z:=Oq (∀{G}(h:G:=by
 have ei:=hide (cells4 be);have z:=Oq (∀{G}(h:G:=by
 have z:=Oq (∀{G}(h:G:=by
 have z:=Oq (∀{G}(h:G:=by
 obtain⟨rs,bB⟩:=xH (al4 F d ⟨au,aG,st⟩ σ);have z:=Oq (∀{G}(h:G:=by
 rcases aa:UW F (Oy d 0) ⟨au,aG,st⟩ σ with ⟨⟨bH,ay⟩,σ1⟩
 have z:=Oq (∀{G}(h:G:=by
 have bW:=hide aa;have dW:=hide aI;clear be hr2 aa h1 dx cL d0 fG dC dc aI;go_enter func264,ntmps264;have z:=Oq (∀{G}(h:G:=by
 have z:=Oq (∀{G}(h:G:=by
 have z:=Oq (∀{G}(h:G:=by
 have cY:=(cu.trans mu);have p4:=(cU.kp mu.UD);have ea:=ha.lt;obtain⟨cH,bU,cg,dt,du,dv,rl⟩:=O7 dV.out
 by_cases aq:ay=.no
 ·have z:=Oq (∀{G}(h:G:=by
  obtain⟨v2,e0⟩:=xE (((σ1.M.prop bH tx).map Pr.v).getD vU);have Bz:aos (σ1.M.prop bH tx)=vA v2:=by
   rw[e0]
   cases σ1.M.prop bH tx <;> rfl
  obtain⟨js,pH⟩:=xE ((σ1.M.prop bH tx).isSome);have gZ:Hid (∀ X,OD wz X->OE 124 #[Oo mb,Ol bH,OB tx] X fun e w'=>e=OQ (.tuple #[vA v2,OC js])/\OD X w'):=fun X ak=>by
   obtain⟨_,_,_,_,ae⟩:=ha.later ak;have h:=aAQ ae.hh b9.go.sm (O0 hN) bH tx;rw[Bz,<-pH] at h;exact h
  have aK:rs=((v2,.no),σ1):=by rw[bB.out];unfold al4;rw[bW.out,e0,cD]
  have cI:=hide aK;clear c1 cD e0 Bz pH aK;go_simp;go_wp2_with fail;refine VN (H:=fun fA vb ev=>VB w0 mb af O es wz v2 .no σ1 fA vb Qp/\ev=OC js) (G:=?GG) (fun dJ=>?ways) ?rest
  case ways=>
   refine TI 8 fun ab=>?_;have z:=Oq (∀{G}(h:G:=by
   refine uh 3 (Ol bH) (ab) ?_;have z:=Oq (∀{G}(h:G:=by
   refine uq2 8 12 (fun K A=>?_) fun K A=>?_
   ·go_simp;refine cm (Om gZ _ ab) ?_;rintro e aE ⟨rfl,jg⟩;refine ko A ?_;clear A K;have aD:Xm es aE Qp .no:=rfl;have aJ:=(ha.later (ab)).later jg;have ah:=O5.of (L:=none) (B:=mb) jg (O0 (Ms.lt (ha.later (ab))));refine uz 9 (.tuple #[(vA v2),OC js]) ?_;refine uz 10 (vA v2) ?_;refine uz 11 (OC js) ?_;refine P5 12 fun K A=>?_;go_simp;refine ko A ?_;clear A K;refine P5 13 fun K A=>?_;go_simp;refine ko A ?_;clear A K;refine uz 14 (OC js) ?_;refine Sl ?_ _;go_simp
    have ci:=VB.late (v:=v2) aD aJ ((O5.of ab (O0 ea)).trans ah)
    generalize aE.alloc (.cells #[Ol v2.k,Ol v2.n,OB v2.s] 65)=fA at ci ⊢
    generalize aE.heap.size=vb at ci ⊢
    generalize bv:Value.bool js=ev
    exact dJ fA vb ev ⟨ci,bv.symm⟩
   ·have bN:=Oq (∀{G}(h:G:=by
    refine cm (Om gZ _ (PO.drew)) ?_;rintro e aE ⟨rfl,jg⟩;refine ko A ?_;clear A K;have aD:Xm es aE Qp .no:=rfl;have aJ:=(ha.later (PO.drew)).later jg;have ah:=O5.of (L:=none) (B:=mb) jg (O0 (Ms.lt (ha.later (PO.drew))));have fp:aE.heap[wz.heap.size]? = some (O1 #[Ol 0,Ol 0,PN] 65):=ah.keep (OA _ _) Oz;obtain⟨z0,mJ,z2,mK,mL,mM,zl⟩:=O7 fp;refine uz 9 (.tuple #[(vA v2),OC js]) ?_;refine uz 10 (vA v2) ?_;refine uz 11 (OC js) ?_;refine P5 13 fun K A=>?_;go_simp;refine ko A ?_;clear A K
    refine uz 14 (OC js) ?_;refine Sl ?_ _;go_simp;have ci:=VB.early (v:=v2) fp O6 (O0 ea) aD aJ ((O5.of (PO.drew) (O0 ea)).trans ah)
    generalize ((aE.setCell (Ot wz.heap.size 0) (Ol v2.k)).setCell (Ot wz.heap.size 1) (Ol v2.n)).setCell (Ot wz.heap.size 2) (OB v2.s)=fA at ci ⊢
    generalize wz.heap.size=vb at ci ⊢
    generalize bv:Value.bool js=ev
    exact dJ fA vb ev ⟨ci,bv.symm⟩),G);exact zts),G);exact asq),G);exact Un
  rintro fA vb ev ⟨aV,rfl⟩;have CG:=hide (aV.fr.keep dV.out Oz);have F6:=(cY.trans aV.fr);have Gw:=aV.ms;have MY:=aV.ms.lt;obtain⟨hs,ht,hu,ig,ih,ii,hv⟩:=O7 CG.out;obtain⟨fh,cp,dG,hp,hq,hr,g9⟩:=O7 (aV.v);clear cH bU cg dt du dv rl;go_wp2_with fail;obtain⟨b1,bx,bi,bF,bC,cG,b4,bT⟩:=rt3 CG.out cR.out bG F6 Gw (Ol v2.k) (Ol v2.n) (OB v2.s);rw[<-bx];refine WA (v:=.tuple #[vA v2,Qp]) ?_;rw[cI.out];exact⟨⟨_,rfl,rfl⟩,bC,bF⟩),G);exact aBh
 ·obtain⟨et,ex,bv⟩:=aD.WT aq ac;subst bv;have aK:rs=((vU,ay),σ1):=by
   rw[bB.out];unfold al4;rw[bW.out];exact axR
  exact aBi),G);exact awy),G);exact Ws),G);exact asr),G);exact aoY),G);exact aoZ),G);exact awz),G);exact adi),G);exact Vd),G);exact Xu
theorem ab9 :
  OE 298 #[Oo mb,Oo a.p,PU p aB] w (O3 w0 mb af O es w (ab7 F d p σ)):=by
 have z:=Oq (∀{G}(h:G:=by
 have b8:=hide be;have ei:=hide (cells4 be);have z:=Oq (∀{G}(h:G:=by
 have z:=Oq (∀{G}(h:G:=by
 have z:=Oq (∀{G}(h:G:=by
 obtain⟨rs,bB⟩:=xH (ab7 F d ⟨au,aG,st⟩ σ);have z:=Oq (∀{G}(h:G:=by
 rcases aa:UW F (Oy d 0) ⟨au,aG,st⟩ σ with ⟨⟨bH,ay⟩,σ1⟩
 have z:=Oq (∀{G}(h:G:=by
 have bW:=hide aa;have dW:=hide aI;clear be hr2 aa h1 dx cL d0 fG dC dc aI;go_enter func298,ntmps298;have z:=Oq (∀{G}(h:G:=by
 have z:=Oq (∀{G}(h:G:=by
 have z:=Oq (∀{G}(h:G:=by
 have eR:=hide (mu.keep b8.out Oz);have cY:=(cu.trans mu);have p4:=(cU.kp mu.UD);have ea:=ha.lt;obtain⟨cH,bU,cg,dt,du,dv,rl⟩:=O7 dV.out
 by_cases aq:ay=.no
 ·have z:=Oq (∀{G}(h:G:=by
  obtain⟨js,pH⟩:=xE ((σ1.M.cut bH tx).1);obtain⟨cy,ge⟩:=xE ({ σ1 with M:=(σ1.M.cut bH tx).2 }:St);have gZ:Hid (∀ X,OD wz X->OE 315 #[Oo mb,Ol bH,OB tx] X fun e w'=>e=OQ (OC js)/\Ms w0 mb af O w' cy/\Py Th mb X w'):=fun X ak=>by
   obtain⟨_,_,_,_,ae⟩:=ha.later ak;refine(auA ae.hh b9.go.ok b9.go.sm (O0 hN) bH tx).mono ?_;rintro e w' ⟨rfl,U,aw⟩;rw[ge,pH];exact⟨rfl,⟨_,_,_,_,ae.heap U aw⟩,aw⟩
  have aK:rs=if !js&&st then ((vU,bad tType),cy) else ((Qi js,.no),cy):=by rw[bB.out];unfold ab7;rw[bW.out,ge,pH,cD]
  have cI:=hide aK;clear c1 cD ge pH aK;go_simp;go_wp2_with fail;refine TI 8 fun ab=>?_;have z:=Oq (∀{G}(h:G:=by
  refine uh 3 (Ol bH) (ab) ?_;have z:=Oq (∀{G}(h:G:=by
  refine P5 8 fun K A=>?_;go_simp;refine cm (Om gZ _ ab) ?_;rintro e bA ⟨rfl,Am,Ak⟩;refine ko A ?_;clear A K;have h4:=(O5.of (L:=none) ab (O0 ea)).trans (O5.ofT Ak);have gw:=hide (h4.keep dV.out Oz);have fF:=(cY.trans h4);obtain⟨aZ,p1,cK,cX,_,d2⟩:=cells4 (h4.keep eR.out Oz);have gp:=Am.lt;obtain⟨hs,ht,hu,ig,ih,ii,hv⟩:=O7 gw.out;clear cH bU cg dt du dv rl;refine uz 9 (OC js) ?_;refine Sl ?_ _;go_simp
  cases js with
  | true=>
   go_wp2_with fail;obtain⟨bP,dm⟩:=xE (Qi true);have h6:=VL true bA;exact aBj
  | false=>
   cases st with
   | true=>
    go_wp2_with fail;refine cm (U5 (es:=es) gp tType) ?_;rintro e gX ⟨⟨ev,rfl,aD⟩,g5⟩;have lL:=hide (stays g5 gw.out);have oq:=(Am.later g5);have oi:=(fF.trans (O5.of (L:=none) g5 (O0 gp)));obtain⟨dn,bR,c7,l1,l2,l3,nl⟩:=O7 lL.out;clear hs ht hu ig ih ii hv aZ p1 cK cX d2;have z:=Oq (∀{G}(h:G:=by
    have aK:rs=((vU,bad tType),cy):=by rw[cI.out];rfl
    rw[aK];exact⟨⟨_,rfl,aD.Qw bi Oz⟩,bC,bF⟩),G);exact asl
   | false=>
    go_wp2_with fail;obtain⟨bP,dm⟩:=xE (Qi false);have h6:=VL false bA;exact aBj),G);exact asq),G);exact Un),G);exact aBh
 ·obtain⟨et,ex,bv⟩:=aD.WT aq ac;subst bv;have aK:rs=((vU,ay),σ1):=by
   rw[bB.out];unfold ab7;rw[bW.out];exact axR
  exact aBi),G);exact awy),G);exact Ws),G);exact asr),G);exact aoY),G);exact aoZ),G);exact awz),G);exact adi),G);exact Vd),G);exact Xu
end
theorem ai0 (aJ:Ms w0 mb af O w σ)(v:Va):OE 296 #[Oo mb,vA v] w fun e w'=>e=OQ (OB (Vz σ.M v))/\OD w w':=by
 obtain⟨_,_,_,_,ae⟩:=aJ;have bG:=ae.lt;have aF:=(Below.refl w.heap.size w).alloc O6 (.cells #[Ol v.k,Ol v.n,OB v.s] 65);obtain⟨k,n,t⟩:=v
 by_cases ce:k=0
 ·subst ce;have ay:Vz σ.M ⟨0,n,t⟩=RI:=rfl;exact ao0
 by_cases ds:k=2
 ·subst ds;have ay:Vz σ.M ⟨2,n,t⟩=agK:=rfl;exact ao0
 by_cases iA:k=3
 ·subst iA;have ay:Vz σ.M ⟨3,n,t⟩=akr:=rfl;exact ao0
 by_cases k4:k=4
 ·subst k4;have ay:Vz σ.M ⟨4,n,t⟩=aks:=rfl;exact ao0
 by_cases mG:k=5
 ·subst mG;obtain⟨c,aj⟩:=xE (σ.M.codeOf n);obtain⟨w2,bu⟩:=xH (w.alloc (.cells #[Ol 5,Ol n,OB t] 65));have br:OD w w2:=by rw[bu.out];exact aF
  obtain⟨vb,aV⟩:=xE w.heap.size;have e0:w2.heap[vb]? = some (O1 #[Ol 5,Ol n,OB t] 65):=by rw[bu.out,aV];exact OA _ _
  have gh:=hide (cells3 e0);have ia:=lt_of_heap e0;have og:=hide (fun X (ak:OD w2 X)=>aiV ((ae.later br).later ak).hh n);rw[<-aj] at og;have di:=(ae.later br).lt
  by_cases c0:c=0
  ·have ay:Vz σ.M ⟨5,n,t⟩=YA:=by unfold Vz;rw[<-aj,c0];rfl
   rw[ay];rw[c0] at og;clear ay aj c0 ce ds iA k4 e0;go_enter func296,ntmps296;go_wp2_with fail;rw[<-bu.out,<-aV];clear aV;refine TI 5 fun ab=>?_;have z:=Oq (∀{G}(h:G:=by
   have z:=Oq (∀{G}(h:G:=by
   refine uz 6 (OC false) ?_;refine Sl ?_ _;have iD:=(br.trans (ab.mono br.size));go_simp;go_wp2;go_ret;exact⟨rfl,iD⟩),G);exact aBk),G);exact Un
  ·have ay:Vz σ.M ⟨5,n,t⟩=Qm:=by unfold Vz;rw[<-aj];simp[c0]
   rw[ay];clear ay aj ce ds iA k4 e0;go_enter func296,ntmps296;go_wp2_with fail;rw[<-bu.out,<-aV];clear aV;refine TI 5 fun ab=>?_;have z:=Oq (∀{G}(h:G:=by
   have z:=Oq (∀{G}(h:G:=by
   refine uz 6 (OC true) ?_;refine Sl ?_ _;have iD:=(br.trans (ab.mono br.size));go_simp;go_wp2;go_ret;exact⟨rfl,iD⟩),G);exact aBk),G);exact Un
 have ay:Vz σ.M ⟨k,n,t⟩=YA:=by unfold Vz;simp[ce,ds,iA,k4,mG]
 exact ao0
def aeR (F:Fx)(d:Nd)(p:Pl)(σ:St):(Va × Er) × St:=
 if (Oy d 0).2.kd=23/\σ.M.find p.scope (Oy d 0).2.tx = -1 then ((Wn RI,.no),σ)
 else match F.v (Oy d 0) p σ with
  | ((v,.no),σ1)=>((Wn (Vz σ1.M v),.no),σ1)
  | ((_,e),σ1)=>((vU,e),σ1)
def agP (r:(Va × Er) × St):(Va × Er) × St:=match r with
  | ((v,.no),σ1)=>((Wn (Vz σ1.M v),.no),σ1)
  | ((_,e),σ1)=>((vU,e),σ1)
def asu (r:(Va × Er) × St):(Va × Er) × St:=match r with
  | ((_,.no),σ1)=>((Qi true,.no),σ1)
  | ((_,e),σ1)=>((vU,e),σ1)
theorem ai1 (_:Zp es)(aJ:Ms w0 mb af O w σ){a:Ad}{d:Nd}(hd:OY O w a d)(E:d.2.kids.length=1)(p:Pl)(aB:Option Addr)(h1:Ub w0 mb af O es σ (Oy d 0) p (F.v (Oy d 0) p σ))(bo:(Oy d 0).2.kd=23)(aH:σ.M.find p.scope (Oy d 0).2.tx = -1)(aI:Sz N σ)(hN:N<1000000000) :
  OE 261 #[Oo mb,Oo a.p,PU p aB] w (O3 w0 mb af O es w (((Wn RI,.no),σ))):=by
 have z:=Oq (∀{G}(h:G:=by
 have ei:=hide (cells4 be);have z:=Oq (∀{G}(h:G:=by
 have z:=Oq (∀{G}(h:G:=by
 have z:=Oq (∀{G}(h:G:=by
 have gj:σ.M.find au tx = -1:=by rw[cD];exact aH
 rw[gj] at hx;obtain⟨rs,bB⟩:=xH (((Wn RI,Er.no),σ));rw[<-bB.out];have z:=Oq (∀{G}(h:G:=by
 refine uz 16 (OC true) ?_;refine uz 17 (OC true) ?_;refine Sl ?_ _;go_simp;have j0:=(cZ.later cr);have kL:=hide (stays cr bj.out);have mW:=(cu.trans (O5.of (L:=none) cr (O0 di)));have oV:=j0.lt;go_wp2_with fail;obtain⟨bP,de⟩:=xH (Wn RI);have h6:=ZH RI ed;rw[<-de.out] at h6;refine cm h6 ?_;rintro e fy ⟨rfl,cC⟩;have d9:=hide (stays cC kL.out);have k2:=(j0.later cC);have jY:=(mW.trans (O5.of (L:=none) cC (O0 oV)));obtain⟨dn,bR,c7,l1,l2,l3,nl⟩:=O7 d9.out
 have z:=Oq (∀{G}(h:G:=by
 have aK:rs=((bP,.no),σ):=by rw[bB.out,de.out]
 rw[aK];exact⟨⟨_,rfl,rfl⟩,bC,bF⟩),G);exact agO),G);exact aBl),G);exact aBm),G);exact al8),G);exact Vd),G);exact Xu
section
variable (ac:Zp es) (aJ:Ms w0 mb af O w σ) {a:Ad} {d:Nd} (hd:OY O w a d) (E:d.2.kids.length=1) (p:Pl) (aB:Option Addr) (h1:Ub w0 mb af O es σ (Oy d 0) p (F.v (Oy d 0) p σ))
include ac aJ a d hd E p aB h1
theorem al9 (bo:(Oy d 0).2.kd=23)(aH:¬ σ.M.find p.scope (Oy d 0).2.tx = -1)(aI:Sz N σ)(hN:N<1000000000) :
  OE 261 #[Oo mb,Oo a.p,PU p aB] w (O3 w0 mb af O es w (agP (F.v (Oy d 0) p σ))):=by
 have z:=Oq (∀{G}(h:G:=by
 have b8:=hide be;have ei:=hide (cells4 be);have z:=Oq (∀{G}(h:G:=by
 have z:=Oq (∀{G}(h:G:=by
 have z:=Oq (∀{G}(h:G:=by
 have gj:¬ σ.M.find au tx = -1:=by rw[cD];exact aH
 obtain⟨kQ,mv⟩:=xE (σ.M.find au tx);rw[<-mv] at hx gj;clear mv;have z:=Oq (∀{G}(h:G:=by
 have z:=Oq (∀{G}(h:G:=by
 refine uz 16 (OC false) ?_;refine uz 17 (OC false) ?_;refine Sl ?_ _;go_simp;exact aBn),G);exact aBl),G);exact aBo),G);exact aBm),G);exact al8),G);exact Vd),G);exact Xu
theorem aeS (bo:¬ (Oy d 0).2.kd=23) :
  OE 261 #[Oo mb,Oo a.p,PU p aB] w (O3 w0 mb af O es w (agP (F.v (Oy d 0) p σ))):=by
 have z:=Oq (∀{G}(h:G:=by
 have b8:=hide be;have z:=Oq (∀{G}(h:G:=by
 have z:=Oq (∀{G}(h:G:=by
 obtain⟨kd,rm⟩:=xE ((Oy d 0).2.kd);rw[<-rm] at my kP bo;clear rm;obtain⟨tx,cD⟩:=xE ((Oy d 0).2.tx);rw[<-cD] at fT;have z:=Oq (∀{G}(h:G:=by
 rw[<-bm.out] at fG dz nn ⊢;rw[<-dc] at dC sO eO my kP fT;have yY:=hide kP;clear be hr2 dx cL d0 dc cD kP fT;go_enter func261,ntmps261;go_wp2_with fail;rw[<-bu.out,<-b0,<-bV];clear bV b0;refine TI 17 fun ab=>?_;refine up 0 kp 0 ab ?_;refine up 1 kp 0 ab ?_;refine up 2 kp 0 ab ?_;refine uk 3 yY.out ab ?_;refine uh 4 (OC false) (ab) ?_;refine uh 5 (OC false) (ab) ?_;have z:=Oq (∀{G}(h:G:=by
 refine uh 11 undef (ab) ?_ (hy:=Or.inr ⟨by kernel_rfl,rfl⟩);refine uh 12 undef (ab) ?_ (hy:=Or.inr ⟨by kernel_rfl,rfl⟩);refine uh 13 undef (ab) ?_ (hy:=Or.inr ⟨by kernel_rfl,rfl⟩);refine uh 14 undef (ab) ?_ (hy:=Or.inr ⟨by kernel_rfl,rfl⟩);refine uh 15 undef (ab) ?_ (hy:=Or.inr ⟨by kernel_rfl,rfl⟩);refine uh 16 undef (ab) ?_ (hy:=Or.inr ⟨by kernel_rfl,rfl⟩);refine P5 17 fun K A=>?_;go_simp;refine ko A ?_;clear A K;refine Sl ?_ _;obtain⟨ed,ib⟩:=xE w2.drew;have cr:OD w2 ed:=by rw[ib];exact ab
 go_simp;rw[<-ib];clear ib;exact aBn),G);exact awC),G);exact aBo),G);exact al8),G);exact Vd),G);exact Xu
end
theorem agQ (aJ:Ms w0 mb af O w σ){a:Ad}{d:Nd}(hd:OY O w a d)(E:d.2.kids.length=1)(p:Pl)(aB:Option Addr)(bo:(Oy d 0).2.kd=23)(aI:Sz N σ)(hN:N<1000000000) :
  OE 262 #[Oo mb,Oo a.p,PU p aB] w (O3 w0 mb af O es w (((Qi (σ.M.drop (σ.M.find p.scope (Oy d 0).2.tx) (Oy d 0).2.tx).1,.no),{ σ with M:=(σ.M.drop (σ.M.find p.scope (Oy d 0).2.tx) (Oy d 0).2.tx).2 }))):=by
 have z:=Oq (∀{G}(h:G:=by
 have ei:=hide (cells4 be);have z:=Oq (∀{G}(h:G:=by
 have z:=Oq (∀{G}(h:G:=by
 rw[bo] at my kP;obtain⟨tx,cD⟩:=xE ((Oy d 0).2.tx);rw[<-cD] at fT;obtain⟨kQ,mv⟩:=xE (σ.M.find au tx);have hx:Hid (∀ X,OD w2 X->OE 195 #[Oo mb,Ol au,OB tx] X fun e w'=>e=OQ (Ol kQ)/\OD X w'):=fun X ak=>by
  obtain⟨_,_,_,_,ae⟩:=cZ.later ak;rw[mv];exact aeK ae.hh aI.go.ok aI.go.sm (O0 hN) au tx
 obtain⟨js,pH⟩:=xE ((σ.M.drop kQ tx).1);obtain⟨σ1,ic⟩:=xE ({ σ with M:=(σ.M.drop kQ tx).2 }:St);have l6:Hid (∀ X,OD w2 X->OE 297 #[Oo mb,Ol kQ,OB tx] X fun e w'=>e=OQ (OC js)/\Ms w0 mb af O w' σ1/\Py Th mb X w'):=fun X ak=>by
  obtain⟨_,_,_,_,ae⟩:=cZ.later ak;refine(awg ae.hh aI.go.ok aI.go.sm (O0 hN) kQ tx).mono ?_;rintro e w' ⟨rfl,U,aw⟩;rw[ic,pH];exact⟨rfl,⟨_,_,_,_,ae.heap U aw⟩,aw⟩
 obtain⟨rs,bB⟩:=xH (((Qi js,Er.no),σ1));have kW:((Qi (σ.M.drop (σ.M.find (Pl.mk au aG st).scope (Oy d 0).2.tx) (Oy d 0).2.tx).1,Er.no),({ σ with M:=(σ.M.drop (σ.M.find (Pl.mk au aG st).scope (Oy d 0).2.tx) (Oy d 0).2.tx).2 }:St))=rs:=by rw[bB.out,pH,ic,mv,cD]
 rw[kW];clear kW pH ic mv;rw[<-bm.out] at fG dz nn ⊢;rw[<-dc] at dC sO eO my kP fT;have mQ:=hide fT;obtain⟨aZ,p1,cK,cX,_,d2⟩:=cells4 be;clear be hr2 dx cL d0 dc cD kP fT bo;go_enter func262,ntmps262;go_wp2_with fail;rw[<-bu.out,<-b0,<-bV];clear bV b0;clear aZ p1 cK cX d2;refine TI 17 fun ab=>?_;have z:=Oq (∀{G}(h:G:=by
 refine up 3 mb 0 ab ?_;refine up 4 mb 0 ab ?_;refine up 5 mb 0 ab ?_;refine up 6 bf 0 ab ?_;refine uk 7 (ei.out.1) ab ?_;refine up 8 kp 0 ab ?_;refine up 9 kp 0 ab ?_;refine up 10 kp 1 ab ?_;refine uk 11 mQ.out ab ?_;refine up 13 kp 0 ab ?_;refine up 14 kp 0 ab ?_;refine up 15 kp 1 ab ?_;refine uk 16 mQ.out ab ?_;refine P5 12 fun K A=>?_;go_simp;refine cm (Om hx _ ab) ?_;rintro e ed ⟨rfl,br⟩;have cr:OD w2 ed:=ab.trans br;refine A.out _ _ (fun _=>cr) ?_;clear A K;refine P5 17 fun K A=>?_;go_simp
 refine cm (Om l6 _ cr) ?_;rintro e aE ⟨rfl,g4,gz⟩;refine ko A ?_;clear A K;have jL:=(O5.of (L:=none) cr (O0 di)).trans (O5.ofT gz);have dF:=hide (jL.keep bj.out Oz);have fl:=(cu.trans jL);have hB:=g4.lt;refine P5 18 fun K A=>?_;go_simp;refine cm (VL js aE) ?_;rintro e fy ⟨rfl,cC⟩;refine ko A ?_;clear A K;obtain⟨bP,de⟩:=xH (Qi js);rw[<-de.out];have d9:=hide (stays cC dF.out);have k2:=(g4.later cC);have jY:=(fl.trans (O5.of (L:=none) cC (O0 hB)))
 obtain⟨dn,bR,c7,l1,l2,l3,nl⟩:=O7 d9.out;refine P5 19 fun K A=>?_;go_simp;refine ko A ?_;clear A K;refine uz 20 Qp ?_;refine Sl ?_ _;go_simp;have z:=Oq (∀{G}(h:G:=by
 have aK:rs=((bP,.no),σ1):=by rw[bB.out,de.out]
 rw[aK];exact⟨⟨_,rfl,rfl⟩,bC,bF⟩),G);exact agO),G);exact Un),G);exact al8),G);exact Vd),G);exact Xu
section
variable (ac:Zp es) (aJ:Ms w0 mb af O w σ) {a:Ad} {d:Nd} (hd:OY O w a d) (E:d.2.kids.length=1) (p:Pl) (aB:Option Addr)
include ac aJ a d hd E p aB
theorem agR (bo:(Oy d 0).2.kd=36)(iW:(Oy d 0).2.kids.length=1)(U:Ub w0 mb af O es σ (Oy (Oy d 0) 0) p (F.v (Oy (Oy d 0) 0) p σ))(aI:∀ o σ1,UW F (Oy (Oy d 0) 0) p σ=((o,.no),σ1)->Sz N σ1)(hN:N<1000000000) :
  OE 262 #[Oo mb,Oo a.p,PU p aB] w (O3 w0 mb af O es w (ab7 F (Oy d 0) p σ)):=by
 have z:=Oq (∀{G}(h:G:=by
 have z:=Oq (∀{G}(h:G:=by
 have z:=Oq (∀{G}(h:G:=by
 rw[bo] at my kP;obtain⟨tx,cD⟩:=xE ((Oy d 0).2.tx);rw[<-cD] at fT;have bJ:=(ab9 ac cZ m7 iW ⟨au,aG,st⟩ aB U aI hN);obtain⟨rs,d'⟩:=xE (ab7 F (Oy d 0) ⟨au,aG,st⟩ σ);rw[<-d',<-dc] at bJ;rw[<-d'];clear d';rw[<-bm.out] at fG dz nn ⊢;rw[<-dc] at dC sO eO my kP fT;obtain⟨aZ,p1,cK,cX,_,d2⟩:=cells4 be;clear be hr2 dx cL d0 dc cD kP fT bo aI iW;have z:=Oq (∀{G}(h:G:=by
 obtain⟨v9,k9⟩:=xH rs.1.1;rw[<-k9.out];obtain⟨cH,bU,cg,dt,du,dv,rl⟩:=O7 dF.out;clear aZ p1 cK cX d2;go_wp2_with fail;obtain⟨b1,bx,bi,bF,bC,cG,b4,bT⟩:=rt3 dF.out cR.out bG fl g4 (Ol v9.k) (Ol v9.n) (OB v9.s);exact awD),G);exact aBp),G);exact al8),G);exact Vd),G);exact Xu
theorem aeT (h1:Ub w0 mb af O es σ (Oy d 0) p (F.v (Oy d 0) p σ))(bo:¬ (Oy d 0).2.kd=23)(rn:¬ (Oy d 0).2.kd=36) :
  OE 262 #[Oo mb,Oo a.p,PU p aB] w (O3 w0 mb af O es w (asu (F.v (Oy d 0) p σ))):=by
 have z:=Oq (∀{G}(h:G:=by
 have z:=Oq (∀{G}(h:G:=by
 have z:=Oq (∀{G}(h:G:=by
 obtain⟨kd,rm⟩:=xE ((Oy d 0).2.kd);rw[<-rm] at my kP bo rn;clear rm;obtain⟨tx,cD⟩:=xE ((Oy d 0).2.tx);rw[<-cD] at fT
 rcases aa:F.v (Oy d 0) ⟨au,aG,st⟩ σ with ⟨⟨v1,ay⟩,σ1⟩
 have bJ:=(h1 w2 ce aB cZ m7);rw[aa] at bJ;rw[<-dc] at bJ;obtain⟨rs,bB⟩:=xH (asu ((v1,ay),σ1));rw[<-bB.out];clear aa;rw[<-bm.out] at fG dz nn ⊢;rw[<-dc] at dC sO eO my kP fT;obtain⟨aZ,p1,cK,cX,_,d2⟩:=cells4 be;clear be hr2 dx cL d0 dc cD kP fT;have z:=Oq (∀{G}(h:G:=by
 have hB:=g4.lt;clear aZ p1 cK cX d2
 by_cases aq:ay=.no
 ·subst aq;have bv:ev=Qp:=aD;subst bv;go_wp2_with fail;obtain⟨wd,fb⟩:=xE (aE.alloc (.cells #[Ol v1.k,Ol v1.n,OB v1.s] 65));have z:=Oq (∀{G}(h:G:=by
  try rw[<-fb]
  clear fb;obtain⟨bP,de⟩:=xH (Qi true);have h6:=VL true wd;rw[<-de.out] at h6;refine cm h6 ?_;rintro e fy ⟨rfl,cC⟩;have d9:=hide (stays cC hY.out);have k2:=(l8.later cC);have jY:=(uW.trans (O5.of (L:=none) cC (O0 ug)));obtain⟨dn,bR,c7,l1,l2,l3,nl⟩:=O7 d9.out;have z:=Oq (∀{G}(h:G:=by
  have aK:rs=((bP,.no),σ1):=by rw[bB.out,de.out];rfl
  rw[aK];exact⟨⟨_,rfl,rfl⟩,bC,bF⟩),G);exact agO),G);exact awE
 ·obtain⟨et,ex,bv⟩:=aD.WT aq ac;subst bv;have aK:rs=((vU,ay),σ1):=by
   rw[bB.out];unfold asu;exact axR
  have z:=Oq (∀{G}(h:G:=by
  have oJ:=(aD.Qw bi Oz).later d8;exact aDK),G);exact aBr),G);exact aBp),G);exact al8),G);exact Vd),G);exact Xu
theorem ao1 (h1:Ub w0 mb af O es σ (Oy d 0) p (F.v (Oy d 0) p σ))(iW:(Oy d 0).2.kd=36->(Oy d 0).2.kids.length=1)(U:(Oy d 0).2.kd=36->Ub w0 mb af O es σ (Oy (Oy d 0) 0) p (F.v (Oy (Oy d 0) 0) p σ))(aI:Sz N σ)(cn:(Oy d 0).2.kd=36->∀ o σ1,UW F (Oy (Oy d 0) 0) p σ=((o,.no),σ1)->Sz N σ1)(hN:N<1000000000) :
  OE 262 #[Oo mb,Oo a.p,PU p aB] w (O3 w0 mb af O es w (ab4 F d p σ)):=by
 by_cases c1:(Oy d 0).2.kd=23
 ·have ay:ab4 F d p σ=((Qi (σ.M.drop (σ.M.find p.scope (Oy d 0).2.tx) (Oy d 0).2.tx).1,.no),{ σ with M:=(σ.M.drop (σ.M.find p.scope (Oy d 0).2.tx) (Oy d 0).2.tx).2 }):=by
   unfold ab4
   dsimp only
   rw[if_pos c1]
  rw[ay];exact agQ aJ hd E p aB c1 aI hN
 ·by_cases c2:(Oy d 0).2.kd=36
  ·have ay:ab4 F d p σ=ab7 F (Oy d 0) p σ:=by
    unfold ab4
    dsimp only
    rw[if_neg c1,if_pos c2];rfl
   rw[ay];exact agR ac aJ hd E p aB c2 (iW c2) (U c2) (cn c2) hN
  ·have ay:ab4 F d p σ=asu (F.v (Oy d 0) p σ):=by
    unfold ab4
    dsimp only
    rw[if_neg c1,if_neg c2];rfl
   rw[ay];exact aeT ac aJ hd E p aB h1 c1 c2
theorem ao2 (h1:Ub w0 mb af O es σ (Oy d 0) p (F.v (Oy d 0) p σ))(aI:Sz N σ)(hN:N<1000000000) :
  OE 261 #[Oo mb,Oo a.p,PU p aB] w (O3 w0 mb af O es w (aeR F d p σ)):=by
 by_cases c1:(Oy d 0).2.kd=23
 ·by_cases c2:σ.M.find p.scope (Oy d 0).2.tx = -1
  ·have ay:aeR F d p σ=((Wn RI,.no),σ):=by unfold aeR;rw[if_pos ⟨c1,c2⟩]
   rw[ay];exact ai1 ac aJ hd E p aB h1 c1 c2 aI hN
  ·have ay:aeR F d p σ=agP (F.v (Oy d 0) p σ):=by unfold aeR agP;rw[if_neg (fun h=>c2 h.2)]
   rw[ay];exact al9 ac aJ hd E p aB h1 c1 c2 aI hN
 ·have ay:aeR F d p σ=agP (F.v (Oy d 0) p σ):=by unfold aeR agP;rw[if_neg (fun h=>c1 h.1)]
  rw[ay];exact aeS ac aJ hd E p aB h1 c1
end
section
variable (ac:Zp es) (aJ:Ms w0 mb af O w σ) {a:Ad} {d:Nd} (hd:OY O w a d) (E:d.2.kids.length=2)
include ac aJ a d hd E
theorem al6 (bo:d.2.kd=25)(p:Pl)(aB:Option Addr)(h1:Ub w0 mb af O es σ (Oy d 0) p (F.v (Oy d 0) p σ))(U:∀ v1 σ1,F.v (Oy d 0) p σ=((v1,.no),σ1)->Ub w0 mb af O es σ1 (Oy d 1) p (F.v (Oy d 1) p σ1)) :
  OE 258 #[Oo mb,Oo a.p,PU p aB] w (O3 w0 mb af O es w (ab6 F d p σ)):=by
 have z:=Oq (∀{G}(h:G:=by
 have b8:=hide be;have ei:=hide (cells4 be);have z:=Oq (∀{G}(h:G:=by
 have z:=Oq (∀{G}(h:G:=by
 have z:=Oq (∀{G}(h:G:=by
 obtain⟨rs,d'⟩:=xE (ab6 F d ⟨au,aG,st⟩ σ);rw[<-d',<-bm.out];have z:=Oq (∀{G}(h:G:=by
 have z:=Oq (∀{G}(h:G:=by
 refine VN (H:=fun wz vb ev=>VB w0 mb af O es w2 v1 ay σ1 wz vb ev) (G:=?GG) (fun dJ=>?ways) ?rest
 case ways=>
  exact aeQ
 rintro wz vb ev aV;have cE:=aV.fr.keep bj.out Oz;have dV:=hide cE;obtain⟨cH,bU,cg,dt,du,dv,rl⟩:=O7 (cE);have ea:=aV.ms.lt;have cl:vb≠aU:=fun e=>by
  have h1:=aV.vb;have U:=lt_of_heap bj.out;omega
 have cY:O5 none mb w wz:=cu.trans aV.fr;have eR:=hide (aV.fr.keep b8.out Oz);clear cE;obtain⟨fh,cp,dG,hp,hq,hr,g9⟩:=O7 (aV.v);have gI:=cU.kp aV.fr.UD
 by_cases aq:ay=.no
 ·have z:=Oq (∀{G}(h:G:=by
  cases e5:v1.tru with
  | true=>
   have z:=Oq (∀{G}(h:G:=by
   refine uh 9 (OC true) (ab) ?_;exact aBb),G);exact aso
  | false=>
   have z:=Oq (∀{G}(h:G:=by
   refine uh 9 (OC true) (ab) ?_;exact aBd),G);exact aso),G);exact aBe
 ·exact aBf),G);exact aBg),G);exact al5),G);exact aiZ),G);exact adi),G);exact Vd),G);exact Xu
theorem al7 (bo:d.2.kd=26)(p:Pl)(aB:Option Addr)(h1:Ub w0 mb af O es σ (Oy d 0) p (F.v (Oy d 0) p σ))(U:∀ v1 σ1,F.v (Oy d 0) p σ=((v1,.no),σ1)->Ub w0 mb af O es σ1 (Oy d 1) p (F.v (Oy d 1) p σ1)) :
  OE 258 #[Oo mb,Oo a.p,PU p aB] w (O3 w0 mb af O es w (ab6 F d p σ)):=by
 have z:=Oq (∀{G}(h:G:=by
 have b8:=hide be;have ei:=hide (cells4 be);have z:=Oq (∀{G}(h:G:=by
 have z:=Oq (∀{G}(h:G:=by
 have z:=Oq (∀{G}(h:G:=by
 obtain⟨rs,d'⟩:=xE (ab6 F d ⟨au,aG,st⟩ σ);rw[<-d',<-bm.out];have z:=Oq (∀{G}(h:G:=by
 have z:=Oq (∀{G}(h:G:=by
 refine VN (H:=fun wz vb ev=>VB w0 mb af O es w2 v1 ay σ1 wz vb ev) (G:=?GG) (fun dJ=>?ways) ?rest
 case ways=>
  exact aeQ
 rintro wz vb ev aV;have cE:=aV.fr.keep bj.out Oz;have dV:=hide cE;obtain⟨cH,bU,cg,dt,du,dv,rl⟩:=O7 (cE);have ea:=aV.ms.lt;have cl:vb≠aU:=fun e=>by
  have h1:=aV.vb;have U:=lt_of_heap bj.out;omega
 have cY:O5 none mb w wz:=cu.trans aV.fr;have eR:=hide (aV.fr.keep b8.out Oz);clear cE;obtain⟨fh,cp,dG,hp,hq,hr,g9⟩:=O7 (aV.v);have gI:=cU.kp aV.fr.UD
 by_cases aq:ay=.no
 ·have z:=Oq (∀{G}(h:G:=by
  cases e5:v1.tru with
  | true=>
   have z:=Oq (∀{G}(h:G:=by
   refine uh 9 (OC false) (ab) ?_;exact aBd),G);exact aso
  | false=>
   have z:=Oq (∀{G}(h:G:=by
   refine uh 9 (OC false) (ab) ?_;exact aBb),G);exact aso),G);exact aBe
 ·exact aBf),G);exact aBg),G);exact al5),G);exact aiZ),G);exact adi),G);exact Vd),G);exact Xu
end
abbrev ac7 (aW aC:OG)(c n:Int)(x:OH):OG:=.agg #[aW,Ol c,OB x,Ol n,aC]
theorem cells5 {b:Nat}{x y bD u v:OG}{t:TypeId}(h:w.heap[b]? = some (O1 #[x,y,bD,u,v] t)):w.cell? (Ot b 0)=some x/\w.cell? (Ot b 1)=some y/\w.cell? (Ot b 2)=some bD/\w.cell? (Ot b 3)=some u/\w.cell? (Ot b 4)=some v/\(∀ j,w.frozen? (Ot b j)=false)/\b<w.heap.size:=by
 refine⟨?_,?_,?_,?_,?_,fun j=>?_,lt_of_heap h⟩
 ·rw[cell_of h];rfl
 ·rw[cell_of h];rfl
 ·rw[cell_of h];rfl
 ·rw[cell_of h];rfl
 ·rw[cell_of h];rfl
 ·simp[World.frozen?,h]
theorem aj8 {B C:Nat}(l:List OH)(u v:OG)(w:Ov)(h1:Rx B w u l)(U:Rx C w v l)(hl:l.length<=1000000000) :
  OE 16 #[u,v] w fun e w'=>e=OQ (OC true)/\OD w w':=by
 obtain⟨cV,uc,rfl⟩:=OX h1;obtain⟨va,dD,rfl⟩:=OX U;go_enter func16,ntmps16;go_wp2_with fail
 go_loopw [5] (fun j wr=>∃ k:Nat,k<=l.length/\j=Ol k/\OD w wr) (fun j _=>l.length - (intOf j).toNat)
 case atStart=>exact⟨0,Nat.zero_le _,rfl,QX⟩
 case round=>
  obtain⟨k,E,rfl,D⟩:=hrel
  by_cases aQ:k<l.length
  ·obtain⟨b5,p1,av,jw,_,f0⟩:=UR (Rx.later h1 D) k aQ;simp only[Value.slice.injEq] at av;obtain⟨rfl,_,rfl⟩:=av;obtain⟨ef,cK,av,mw,_,eS⟩:=UR (Rx.later U D) k aQ;have z:=Oq (∀{G}(h:G:=by
   generalize l[k]=x at f0 eS
   go_wp2_with fail;refine wp_region_held (S:=fun X=>X=wr.drew) PK ?_;change wpAnyH _ _ _ _ _ _ _ _ (World.drew _);refine wh 0 (.slice (some (Ot b5 0)) l.length uc) rfl ?_;refine wh 1 (Ol k) rfl ?_;refine wh 2 (OM b5 k) rfl ?_;refine wh 3 (OB x) rfl ?_ (hy:=Or.inl ⟨by kernel_rfl,fun X ak=>by cases ak;go_simp⟩)
   refine wh 4 (.slice (some (Ot ef 0)) l.length dD) rfl ?_;refine wh 5 (Ol k) rfl ?_;refine wh 6 (OM ef k) rfl ?_;refine wh 7 (OB x) rfl ?_ (hy:=Or.inl ⟨by kernel_rfl,fun X ak=>by cases ak;go_simp⟩)
   refine wh 8 (OC false) rfl ?_;refine wpAnyH_done PK ?_ _;go_simp;go_wp2
   go_roundw
   case rel=>exact⟨k+1,by omega,by go_num,D.drew⟩
   case measure=>simp[intOf];omega),G);exact alK
  ·have cT:k=l.length:=Ou;subst cT;go_wp2;go_ret;exact⟨rfl,D⟩
end
end Hp
abbrev tLa:OH:=⟨#[97]⟩
namespace Hp
abbrev Zm:OH:=⟨#[118,97,114,32,97,32,61,32,50,59,32,112,114,105,110,116,40,97,32,42,32,51,41,59]⟩
def lR1:List Tk:=[⟨2,anL,0,0⟩,⟨1,tLa,0,4⟩,⟨5,tEq,0,6⟩,⟨3,Ox,2,8⟩,⟨5,Qv,0,9⟩,⟨1,SL,0,11⟩,⟨5,Rk,0,16⟩,⟨1,tLa,0,17⟩,⟨5,avR,0,19⟩,⟨3,Ox,3,21⟩,⟨5,SA,0,22⟩,⟨5,Qv,0,23⟩,⟨6,Ox,0,24⟩]
def ac6:Tr:=.mk 1 Ox 0 [.mk 2 tLa 0 [.mk 17 Ox 2 []],.mk 15 Ox 0 [.mk 35 Ox 0 [.mk 23 SL 0 [],.mk 31 Ox 0 [.mk 23 tLa 0 [],.mk 17 Ox 3 []]]]]
theorem at7:RH Pn Ph Zm (OT Qe Zm 0) []=.ok lR1:=by
 have aK:OT Qe Zm 0=0:=by decide +kernel
 rw[aK,Qh Pn Ph Zm 0 [] 2 0 anL 3 Oz PK Oz];have ay:OT Qe Zm 3=4:=by decide +kernel
 rw[ay,Qh Pn Ph Zm 4 _ 1 0 tLa 5 Oz PK Oz];have bz:OT Qe Zm 5=6:=by decide +kernel
 rw[bz,Qh Pn Ph Zm 6 _ 5 0 tEq 7 Oz PK Oz];have ez:OT Qe Zm 7=8:=by decide +kernel
 rw[ez,Qh Pn Ph Zm 8 _ 3 2 Ox 9 Oz PK Oz];have hH:OT Qe Zm 9=9:=by decide +kernel
 rw[hH,Qh Pn Ph Zm 9 _ 5 0 Qv 10 Oz PK Oz];have kg:OT Qe Zm 10=11:=by decide +kernel
 rw[kg,Qh Pn Ph Zm 11 _ 1 0 SL 16 Oz PK Oz];have vF:OT Qe Zm 16=16:=by decide +kernel
 rw[vF,Qh Pn Ph Zm 16 _ 5 0 Rk 17 Oz PK Oz];have HV:OT Qe Zm 17=17:=by decide +kernel
 rw[HV,Qh Pn Ph Zm 17 _ 1 0 tLa 18 Oz PK Oz];have HX:OT Qe Zm 18=19:=by decide +kernel
 rw[HX,Qh Pn Ph Zm 19 _ 5 0 avR 20 Oz PK Oz];have zV:OT Qe Zm 20=21:=by decide +kernel
 rw[zV,Qh Pn Ph Zm 21 _ 3 3 Ox 22 Oz PK Oz];have HT:OT Qe Zm 22=22:=by decide +kernel
 rw[HT,Qh Pn Ph Zm 22 _ 5 0 SA 23 Oz PK Oz];have HU:OT Qe Zm 23=23:=by decide +kernel
 rw[HU,Qh Pn Ph Zm 23 _ 5 0 Qv 24 Oz PK Oz];have HY:OT Qe Zm 24=24:=by decide +kernel
 rw[HY,UN Pn Ph Zm 24 _ Oz];rfl
theorem afV:Qd Pn Ph Zm=.ok ac6:=by
 have h1:Uh lR1 (fns lR1 KK)=.ok ac6 12:=by kernel_rfl
 have U:ac6.count=9:=by decide +kernel
 unfold Qd;rw[if_neg Oz,at7];simp only;rw[h1];simp only;rw[U,if_neg Oz]
def auq (r:Er × St):Bool:=match r.1 with
 | .no=>decide (r.2.log=[⟨#[54]⟩])
 | _=>false
theorem avo:chk ac6 false false false=none:=by decide +kernel
theorem avn:auq (QI ac6)=true:=by decide +kernel
end Hp
theorem pick_any (a n:Int)(az:0<n)(aS:n<1000)(w:Ov):OE 14 #[Ol a,Ol n] w fun e w'=>(∃ k:Nat,(k:Int)<n/\e=OQ (Ol k))/\w'=w:=by
 go_enter func14,ntmps14
 go_wp2
 go_ret;refine⟨⟨((IntKind.u64.wrap a).tmod n).toNat,?_,?_⟩,rfl⟩
 all_goals
  have h0:0<=IntKind.u64.wrap a:=Int.emod_nonneg _ Oz;have h1:0<=(IntKind.u64.wrap a).tmod n:=Int.tmod_nonneg _ h0;have U:(IntKind.u64.wrap a).tmod n<n:=Int.tmod_lt_of_pos _ az
 ·omega
 ·show Ending.returned (.int .i64 _)=_
  have aw:wrap64 ((IntKind.u64.wrap a).tmod n)=(IntKind.u64.wrap a).tmod n:=by
   generalize (IntKind.u64.wrap a).tmod n=bD at *
   unfold wrap64;omega
  rw[show (((IntKind.u64.wrap a).tmod n).toNat:Int)=(IntKind.u64.wrap a).tmod n by omega];simp[aw]
