import Derived.Test.YticfnaiehdpbmaaGreatDoorOn13
import Derived.Test.YticfnaiehdpbmaaGreatDoorOn14
import Derived.Sort.Walk0
set_option maxRecDepth 100000
set_option maxHeartbeats 8000000
set_option linter.all false
namespace Go.Proofs.YticfnaiehdpbmaaGreatDoor
open Go.RowKit Go.Proofs.Tryz
namespace Hp
def aas (F:Fx)(d:Nd)(p:Pl)(σ:St):(Va × Er) × St:=match Vk F p (P9 d) [] σ with
 | ((a::b::_,.no),σ1)=>(Wp σ1.M d.2.kd a b,σ1)
 | ((_,e),σ1)=>((vU,e),σ1)
def ach {F:Fx}{p:Pl}:∀ (a6:List Nd) (aX:List Va) (σ:St) (vs:List Va) (σ1:St),Vk F p a6 aX σ=((vs,.no),σ1)->vs.length=aX.length+a6.length
 | [],aX,σ,vs,σ1,h=>by rw[Vk] at h;cases h;simp
 | d::a6,aX,σ,vs,σ1,h=>by
  rcases aa:F.v d p σ with ⟨⟨v,e⟩,cy⟩
  by_cases aq:e=.no
  ·subst aq;rw[aku aa] at h;have:=ach a6 _ _ _ _ h;rw[this];simp;omega
  ·rw[akv aa aq] at h;cases h;exact absurd rfl aq
section
variable {w0:Ov} {mb af:Nat} {O:List Nat} {es aW aC aA aM:OG} {w w':Ov} {σ:St} {N:Nat} {F:Fx}
structure VB2 (w0:Ov)(mb af:Nat)(O:List Nat)(w2:Ov)(v1 v2:Va)(σ:St)(wz:Ov)(kO j3:Nat):Prop where
 v1:wz.heap[kO]? = some (Y7 v1)
 v2:wz.heap[j3]? = some (Y7 v2)
 la:w2.heap.size<=kO
 lb:w2.heap.size<=j3
 ne:kO≠j3
 bl:OD w2 wz
 ms:Ms w0 mb af O wz σ
def VB2.one {v1 v2:Va}(aJ:Ms w0 mb af O w σ):VB2 w0 mb af O w v1 v2 σ ((w.alloc (.cells #[Ol v1.k,Ol v1.n,OB v1.s] 65)).alloc (.cells #[Ol v2.k,Ol v2.n,OB v2.s] 65)).drew w.heap.size (w.heap.size+1):=by
 have D:OD w ((w.alloc (.cells #[Ol v1.k,Ol v1.n,OB v1.s] 65)).alloc (.cells #[Ol v2.k,Ol v2.n,OB v2.s] 65)).drew:=(PO.alloc O8 _).drew;refine⟨alloc_old (OA _ _),?_,O6,by omega,by omega,D,aJ.later D⟩;have:=OA (w.alloc (.cells #[Ol v1.k,Ol v1.n,OB v1.s] 65)) (.cells #[Ol v2.k,Ol v2.n,OB v2.s] 65);rw[show (w.alloc (.cells #[Ol v1.k,Ol v1.n,OB v1.s] 65)).heap.size=w.heap.size+1 by simp] at this;exact this
def VB2.swap {v1 v2:Va}{wz:Ov}{kO j3:Nat}(h:VB2 w0 mb af O w v2 v1 σ wz j3 kO):VB2 w0 mb af O w v1 v2 σ wz kO j3:=⟨h.v2,h.v1,h.lb,h.la,h.ne.symm,h.bl,h.ms⟩
def aGC {H G:Ov->Nat->Nat->Prop}{goal:Prop}(h1:(∀ w v u,H w v u->G w v u)->goal)(U:∀ w v u,H w v u->G w v u):goal:=h1 U
def awO (ac:Zp es)(a8:Bs w0 mb af O es)(bc:Y8 w0)(aJ:Ms w0 mb af O w σ){a:Ad}{d:Nd}(hd:OY O w a d)(E:d.2.kids.length=2)(p:Pl)(aB:Option Addr)
  (P:St->Prop) (hP:P σ) (bq:∀ oF ∈ P9 d,∀ σ,P σ->Ub w0 mb af O es σ oF p (F.v oF p σ)/\∀ v σ1,F.v oF p σ=((v,.no),σ1)->P σ1)
  (av:∀ v1 v2 σ1,Vk F p (P9 d) [] σ=(([v1,v2],.no),σ1)->(-1000000000<=v1.n/\v1.n<=1000000000)/\(-1000000000<=v2.n/\v2.n<=1000000000)/\(σ1.M.shw v1).size<=1000000/\(σ1.M.shw v2).size<=1000000) :
  OE 259 #[Oo mb,Oo a.p,PU p aB] w (O3 w0 mb af O es w (aas F d p σ)):=by
 have z:=Oq (∀{G}(h:G:=by
 have ei:=hide (cells4 be);have z:=Oq (∀{G}(h:G:=by
 obtain⟨q,bm⟩:=xH a.p;obtain⟨BW,c3,hrow,sS⟩:=RV.row cU.at_;obtain⟨cV,dP,aT⟩:=hrow.form;subst aT;have cM:a.ks.length=2:=by rw[cU.ks,E]
 have bJ:=hide (fun X (ak:OD w2 X)=>agS ac (cZ.later ak) (hrow.later ak) (Uo.kp (Kp.of ak) _ _ cU.ndl) (by rw[Si,E];omega) ⟨au,aG,st⟩ aB P hP bq)
 rw[cM] at c3 bJ;obtain⟨rs,bB⟩:=xH (aas F d ⟨au,aG,st⟩ σ);rw[<-bB.out,<-bm.out];rw[<-bm.out] at c3 dz
 rcases aa:Vk F ⟨au,aG,st⟩ (P9 d) [] σ with ⟨⟨vs,ay⟩,σ1⟩
 rw[aa] at bJ;have bW:=hide aa;have Hm:=hide av;have p5:=hide E;have eF:=hide c3;clear be hr2 aa dx cL d0 c3 hP bq av E cM sS;go_enter func259,ntmps259;go_wp2_with fail;rw[<-bu.out,<-b0,<-bV];clear bV b0;refine TI 6 fun ab=>?_;have z:=Oq (∀{G}(h:G:=by
 refine uk 4 eF.out ab ?_;refine uk4 5 ei.out ab ?_;refine P5 6 fun K A=>?_;go_simp;refine cm (Om bJ _ ab) ?_;rintro e ap ⟨⟨u,ev,rfl,kx,aD⟩,eA,f8⟩;refine ko A ?_;clear A K;have cS:=(O5.of (L:=none) ab (O0 di)).trans f8;have y4:=aD;have dp:=hide (cS.keep bj.out Oz);have cQ:=(cu.trans cS);have lI:=(cU.kp cS.UD);have fD:=eA.lt;obtain⟨cH,bU,cg,dt,du,dv,rl⟩:=O7 dp.out;refine uz 7 (.tuple #[u,ev]) ?_;refine uz 8 u ?_;refine uz 9 ev ?_;refine uz 10 u ?_;refine uz 11 ev ?_;refine Sl ?_ _;go_simp
 by_cases aq:ay=.no
 ·subst aq;have bv:ev=Qp:=aD;subst bv;have gn:vs.length=2:=by have:=ach _ _ _ _ _ bW.out;rw[this,Si,p5.out];rfl
  obtain⟨v1,v2,rfl⟩:∃ v1 v2,vs=[v1,v2]:=by
   match vs,gn with
   | [v1,v2],_=>exact⟨v1,v2,rfl⟩
  obtain⟨gL,kr,np,ll⟩:=Om Hm v1 v2 σ1 bW.out;have BA:ap.ownsRow _ 65 3 u 2 (([v1,v2]:List Va).flatMap YN):=kx;obtain⟨sw,cv,aT,_,_⟩:=BA.form Ou;subst aT;have lR:∀ j x,(([v1,v2]:List Va).flatMap YN)[j]? = some x->ap.cell? (Ot sw j)=some x:=fun j x ae=>by
   have aN:j<6:=by have:=(List.getElem?_eq_some_iff.1 ae).1;simpa[YN] using this
   rw[BA.cellAt j Ou];exact ae
  have y9:=hide (lR 0 _ rfl);have ik:=hide (lR 1 _ rfl);have pj:=hide (lR 2 _ rfl);have nA:=hide (lR 3 _ rfl);have y':=hide (lR 4 _ rfl);have F7:=hide (lR 5 _ rfl);have MI:=(BA.lt sw rfl).2;have aK:rs=(Wp σ1.M d.2.kd v1 v2,σ1):=by rw[bB.out];unfold aas;rw[bW.out]
  have cI:=hide aK;have iU:=hide np;have e8:=hide ll;have eh:=hide gL;have jc:=hide kr;clear gn lR aK np ll gL kr;go_wp2_with fail;refine aGC (H:=fun wz kO j3=>VB2 w0 mb af O ap v1 v2 σ1 wz kO j3) (G:=?GG) (fun dJ=>?ways) ?rest
  case ways=>
   refine TI 9 fun ab=>?_;refine uh 0 (.slice (some (Ot sw 0)) 2 cv) (ab) ?_;refine up 1 sw 0 ab ?_;refine uc 2 (.agg #[Ol v1.k,Ol v1.n,OB v1.s]) rfl (Or.inl ⟨by kernel_rfl,fun X ak=>by have h0:=O4 ak y9.out;have h1:=O4 ak ik.out;have U:=O4 ak pj.out;go_simp⟩) (ab) ?_
   refine uh 3 (.slice (some (Ot sw 0)) 2 cv) (ab) ?_;refine up 4 sw 3 ab ?_;refine uc 5 (.agg #[Ol v2.k,Ol v2.n,OB v2.s]) rfl (Or.inl ⟨by kernel_rfl,fun X ak=>by have h0:=O4 ak nA.out;have h1:=O4 ak y'.out;have U:=O4 ak F7.out;go_simp⟩) (ab) ?_
   refine uq2 6 7 (fun K A=>?_) fun K A=>?_
   ·go_simp;refine A.out _ _ (fun _=>PO.drew) ?_;clear A K;refine P5 7 fun K A=>?_;have z:=Oq (∀{G}(h:G:=by
    have ci:=VB2.one (v1:=v1) (v2:=v2) eA
    generalize ((ap.alloc (.cells #[Ol v1.k,Ol v1.n,OB v1.s] 65)).alloc (.cells #[Ol v2.k,Ol v2.n,OB v2.s] 65)).drew=wz at ci ⊢
    generalize ap.heap.size+1=j3 at ci ⊢
    generalize ap.heap.size=kO at ci ⊢
    exact dJ wz kO j3 ci),G);exact aBC
   ·go_simp;refine A.out _ _ (fun _=>PO.drew) ?_;clear A K;refine P5 6 fun K A=>?_;have z:=Oq (∀{G}(h:G:=by
    have ci:=(VB2.one (v1:=v2) (v2:=v1) eA).swap
    generalize ((ap.alloc (.cells #[Ol v2.k,Ol v2.n,OB v2.s] 65)).alloc (.cells #[Ol v1.k,Ol v1.n,OB v1.s] 65)).drew=wz at ci ⊢
    generalize ap.heap.size+1=kO at ci ⊢
    generalize ap.heap.size=j3 at ci ⊢
    exact dJ wz kO j3 ci),G);exact aBC
  rintro wz kO j3 aV;have dV:=hide (stays aV.bl dp.out);have cY:=(cQ.trans (O5.of (L:=none) aV.bl (O0 fD)));have jr:=aV.ms;have ea:=aV.ms.lt;have p0:=hide aV.v1;have bL:=hide aV.v2;have Mq:=aV.ne;have Mr:kO≠aU:=fun e=>by
   have h1:=aV.la;have U:=lt_of_heap dp.out;omega
  have Mt:j3≠aU:=fun e=>by
   have h1:=aV.lb;have U:=lt_of_heap dp.out;omega
  have gI:=lI.kp (Kp.of aV.bl);have c0:=gI.cells.2.1;have hf:=gI.cells.1;rw[<-bm.out] at c0 hf;obtain⟨kd,bo⟩:=xE d.2.kd;rw[<-bo] at c0 cI;clear cH bU cg dt du dv rl bo;obtain⟨cH,bU,cg,dt,du,dv,rl⟩:=O7 dV.out;obtain⟨fh,cp,dG,hp,hq,hr,g9⟩:=O7 p0.out;obtain⟨hs,ht,hu,ig,ih,ii,hv⟩:=O7 bL.out;have mP:=hide c0;have CW:=hide (cells3 p0.out);have CX:=hide (cells3 bL.out)
  by_cases n9:kd=27
  ·subst n9
   by_cases wM:v1=v2
   ·have aK:rs=((Qi true,.no),σ1):=by rw[cI.out];unfold Wp;rw[if_pos rfl,decide_eq_true wM]
    have bM:=hide aK;subst wM;clear aK;go_wp2_with fail;obtain⟨bP,dm⟩:=xE (Qi true);have h6:=VL true wz;exact awP
   ·have aK:rs=((Qi false,.no),σ1):=by rw[cI.out];unfold Wp;rw[if_pos rfl,decide_eq_false wM]
    have bM:=hide aK;have hcase:¬ v1.k=v2.k\/(v1.k=v2.k/\¬ v1.n=v2.n)\/(v1.k=v2.k/\v1.n=v2.n/\¬ v1.s=v2.s):=by
     by_cases h1:v1.k=v2.k
     ·by_cases U:v1.n=v2.n
      ·exact .inr (.inr ⟨h1,U,fun aw=>wM (by cases v1;cases v2;simp_all)⟩)
      ·exact .inr (.inl ⟨h1,U⟩)
     ·exact .inl h1
    clear aK wM
    rcases hcase with h1|⟨h1,U⟩|⟨h1,U,aw⟩
    ·exact asD
    ·exact asD
    ·have aL:(v1.s.toList==v2.s.toList)=false:=adE aw
     exact asD
  ·by_cases mp:v1.k=3/\v2.k=3
   ·have aK:rs=(ai4 kd v1.n v2.n,σ1):=by rw[cI.out];unfold Wp;rw[if_neg n9,if_pos mp];rfl
    have bM:=hide aK;obtain⟨sx,vM⟩:=mp;clear aK;go_wp2_with fail;have vf:=hide (fun X=>agU (es:=es) kd v1.n v2.n eh.out jc.out X);obtain⟨ro,mD⟩:=xE (ai4 kd v1.n v2.n);rw[<-mD] at vf bM;have oM:=lt_of_heap p0.out;have lf:=lt_of_heap bL.out;clear sx vM n9 mD c0 fh cp dG hp hq hr g9 hs ht hu ig ih ii hv cH bU cg dt du dv rl;refine TI 8 fun ab=>?_;refine up 0 q 0 ab ?_;refine up 1 q 0 ab ?_;refine up 2 q 0 ab ?_;refine uk 3 mP.out ab ?_;refine up 4 kO 1 ab ?_;refine uk 5 (CW.out.2.1) ab ?_;refine up 6 j3 1 ab ?_
    refine uk 7 (CX.out.2.1) ab ?_;refine P5 8 fun K A=>?_;go_simp;refine cm (Om vf _) ?_;rintro e aE ⟨⟨ev,rfl,aD⟩,jg⟩;refine ko A ?_;clear A K;have iL:=ab.trans (jg.mono ab.size);have z:=Oq (∀{G}(h:G:=by
    refine uz 9 (vA v9) ?_;refine uz 10 ev ?_;refine P5 11 fun K A=>?_;go_simp;refine ko A ?_;clear A K;refine uz 12 ev ?_;exact aBD),G);exact aBE
   ·by_cases m5:kd=29/\(v1.k=4\/v2.k=4)
    ·have aK:rs=(acf (σ1.M.shw v1) (σ1.M.shw v2),σ1):=by rw[cI.out];unfold Wp acf;rw[if_neg n9,if_neg mp,if_pos m5]
     have bM:=hide aK;obtain⟨ro,mD⟩:=xE (acf (σ1.M.shw v1) (σ1.M.shw v2));have mX:=hide (fun X=>awM (es:=es) (σ1.M.shw v1) (σ1.M.shw v2) iU.out e8.out X);rw[<-mD] at mX bM;have tF:=hide (fun X (ak:OD wz X)=>aeW a8 bc (jr.later ak) v1 (by have:=Om eh;omega))
     have vr:=hide (fun X (ak:OD wz X)=>aeW a8 bc (jr.later ak) v2 (by have:=Om jc;omega))
     obtain⟨nu,wE⟩:=xE (σ1.M.shw v1);obtain⟨t2,eV⟩:=xE (σ1.M.shw v2);rw[<-wE,<-eV] at mX;rw[<-wE] at tF;rw[<-eV] at vr;have oM:=lt_of_heap p0.out;have lf:=lt_of_heap bL.out;obtain⟨In,aL⟩:=m5;subst In;have oW:v1.k=3->¬ v2.k=3:=fun h1 U=>mp ⟨h1,U⟩;clear aK mD wE eV mp
     by_cases sx:v1.k=3
     ·have vM:=oW sx;have tS:v2.k=4:=aL.resolve_left Ou;clear aL oW;go_wp2_with fail;clear sx vM tS n9 c0 fh cp dG hp hq hr g9 hs ht hu ig ih ii hv cH bU cg dt du dv rl;exact awQ
     ·by_cases tR:v1.k=4
      ·clear aL oW;go_wp2_with fail;clear sx tR n9 c0 fh cp dG hp hq hr g9 hs ht hu ig ih ii hv cH bU cg dt du dv rl;exact awQ
      ·have tS:v2.k=4:=aL.resolve_left tR;clear aL oW;go_wp2_with fail;clear sx tR tS n9 c0 fh cp dG hp hq hr g9 hs ht hu ig ih ii hv cH bU cg dt du dv rl;exact awQ
    ·by_cases vL:kd=28/\v1.k=4/\v2.k=4
     ·obtain⟨Im,tR,tS⟩:=vL;subst Im
      by_cases aQ:v1.s.data.toList<v2.s.data.toList
      ·have aK:rs=((Qi true,.no),σ1):=by rw[cI.out];unfold Wp;rw[if_neg Oz,if_neg mp,if_neg m5,if_pos ⟨rfl,tR,tS⟩,decide_eq_true aQ]
       have bM:=hide aK;have IH:Op.bytesLess v1.s.toList v2.s.toList=true:=by rw[ByteArray.toList_eq,ByteArray.toList_eq,bytesLess_eq];exact decide_eq_true aQ
       clear aK mp m5 aQ;go_wp2_with fail;obtain⟨bP,dm⟩:=xE (Qi true);have h6:=VL true wz;exact awP
      ·have aK:rs=((Qi false,.no),σ1):=by rw[cI.out];unfold Wp;rw[if_neg Oz,if_neg mp,if_neg m5,if_pos ⟨rfl,tR,tS⟩,decide_eq_false aQ]
       have bM:=hide aK;have IH:Op.bytesLess v1.s.toList v2.s.toList=false:=by rw[ByteArray.toList_eq,ByteArray.toList_eq,bytesLess_eq];exact decide_eq_false aQ
       clear aK mp m5 aQ;exact asD
     ·have aK:rs=((vU,bad tType),σ1):=by rw[cI.out];unfold Wp;rw[if_neg n9,if_neg mp,if_neg m5,if_neg vL]
      have bM:=hide aK;clear aK;have w1:v1.k=3->v2.k=3->False:=fun a b=>mp ⟨a,b⟩;have uH:kd=29->v1.k=4->False:=fun a b=>m5 ⟨a,.inl b⟩;have uI:kd=29->v2.k=4->False:=fun a b=>m5 ⟨a,.inr b⟩;have bA:kd=28->v1.k=4->v2.k=4->False:=fun a b c=>vL ⟨a,b,c⟩;clear mp m5 vL
      by_cases Ka:kd=29
      ·subst Ka;have i3:¬ v1.k=4:=fun h=>uH rfl h;have i4:¬ v2.k=4:=fun h=>uI rfl h
       by_cases bK:v1.k=3
       ·exact awR
       ·have i5:(v1.k==4)=false:=by simpa using i3
        have pT:(v2.k==4)=false:=by simpa using i4
        have Nu:(v1.k==3)=false:=by simpa using bK
        clear w1 uH uI bA;go_wp2_with fail
        all_goals first | (exfalso;omega)|skip
        exact ao6
      ·by_cases J':kd=28
       ·subst J'
        by_cases bK:v1.k=3
        ·exact awR
        ·by_cases Kb:v1.k=4
         ·have Nv:¬ v2.k=4:=fun h=>bA rfl Kb h;clear w1 uH uI bA;go_wp2_with fail;exact ao6
         ·clear w1 uH uI bA;go_wp2_with fail;exact ao6
       ·by_cases bK:v1.k=3
        ·exact awR
        ·clear w1 uH uI bA;go_wp2_with fail;exact ao6
 ·obtain⟨et,ex,bv⟩:=aD.WT aq ac;subst bv;have aK:rs=((vU,ay),σ1):=by
   rw[bB.out];unfold aas;rw[bW.out]
   rcases vs with _|⟨cp,_|⟨dG,jk⟩⟩ <;> cases ay <;> first|rfl|exact absurd rfl aq
  have bM:=hide aK;clear aq aK;have z:=Oq (∀{G}(h:G:=by
  rw[bM.out];exact⟨⟨_,rfl,y4.Qw bi Oz⟩,bC,bF⟩),G);exact aBF),G);exact Ws),G);exact Vd),G);exact Xu
structure Stp (w0:Ov)(mb:Nat)(es:OG)(eb:Addr):Prop where
 is:es=.iface 359 (.pointer (some eb))
 at1:w0.cell? (Ot 1 0)=some es
 et:RP w0
 lt:1<mb
variable {w2:Ov}{L:Option Nat}{eb:Addr}
def Stp.WT (h:Stp w0 mb es eb):Zp es:=⟨_,_,h.is⟩
section
variable (h:Stp w0 mb es eb) (aJ:Ms w0 mb af O w σ)
include h aJ
theorem Stp.cell:w.cell? (Ot 1 0)=some (.iface 359 (.pointer (some eb))):=by
 rw[aJ.below.cell (p:=(Ot 1 0)) h.lt,h.at1,h.is]
theorem Stp.ety:RP w:=Vr h.et aJ.below (by have:=h.lt;omega)
end
def aBT (W:Ov):(binOp .eql 31 Qp (.iface 359 (.pointer (some eb)))).run prog W=.ok (OC false) W:=by kernel_rfl
def aw1 (W:Ov):(binOp .eql 31 (.iface 34 (Ol 7)) (.iface 359 (.pointer (some eb)))).run prog W=.ok (OC false) W:=by kernel_rfl
def aw2 (tb:Nat)(W:Ov):(binOp .eql 31 (.iface 122 (OM tb 0)) (.iface 359 (.pointer (some eb)))).run prog W=.ok (OC false) W:=by kernel_rfl
def asI (W:Ov):(binOp .eql 31 (.iface 359 (.pointer (some eb))) (.iface 359 (.pointer (some eb)))).run prog W=.ok (OC true) W:=by
 have h1:(prog.info? 359).map (·.comparable)=some true:=by kernel_rfl
 obtain⟨i,am,hcmp⟩:=Option.map_eq_some_iff.1 h1;obtain⟨j,aN⟩:=Option.isSome_iff_exists.1 (show (prog.info? 361).isSome=true by kernel_rfl);exact run_eql_iface_ptr_same W _ underlying31 underlying359 am hcmp aN
def Xm.Rt {v:OG}{e:Er}{l:Option Va}(h:Xm es w v e)(aH:O5 L mb w w')(hl:OV w L l):Xm es w' v e:=by
 cases e with
 | no=>exact h
 | stop=>exact h
 | mis=>exact h
 | XU x=>obtain⟨b,h1,U⟩:=h;exact⟨b,h1,aH.Rt hl U Oz Oz⟩
section
variable (bI:Stp w0 mb es eb) (aJ:Ms w0 mb af O w σ) {a:Ad} {d:Nd} (hd:OY O w a d)
include bI aJ a d hd
theorem ai6 (E:d.2.kids.length=1)(p:Pl)(o:Oc)(bv:Xm es w Qp (.no)){l:Option Va}(hl:OV w L l)(h1:XG w0 mb af O es σ (Oy d 0) p L l (F.s (Oy d 0) p l σ)) :
  OE 202 #[Oo mb,Oo a.p,PU p (LA L),UY o,Qp] w (P8 w0 mb af O es L w (Wq F d p o (.no) l σ)):=by
 have z:=Oq (∀{G}(h:G:=by
 have z:=Oq (∀{G}(h:G:=by
 have z:=Oq (∀{G}(h:G:=by
 have z:=Oq (∀{G}(h:G:=by
 have ac:=bI.WT;have t7:=aBT (eb:=eb);have z:=Oq (∀{G}(h:G:=by
 obtain⟨rs,bB⟩:=xH (Wq F d ⟨au,aG,st⟩ ⟨f2,⟨ok,on,f1⟩⟩ (.no) l σ);have z:=Oq (∀{G}(h:G:=by
 refine VN (H:=fun wz vb ev=>SB w0 mb af O es L w2 bH ay b3 σ1 wz vb ev) (G:=?GG) (fun dJ=>?ways) ?rest
 case ways=>
  exact asJ
 rintro wt lb oI cJ;have gg:=hide (cJ.fr.Rt eL bj.out Oz Oz);have vg:=hide (cJ.fr.Rt eL r3.out Oz Oz);have ij:=(cu.trans cJ.fr);have nE:=cJ.ms;have jp:=cJ.er;have y8:=(lJ.Rt cJ.fr eL);have bS:=cJ.la;have A4:=cJ.ms.lt;have wm:lb≠aU:=fun e=>by
  have h1:=cJ.ob;have U:=lt_of_heap bj.out;omega
 obtain⟨iB,⟨ey,dL,eK⟩⟩:=bH;obtain⟨cH,bU,cg,eE,dt,du,dv,iT,rl⟩:=Qx gg.out;obtain⟨hs,ht,hu,pX,ig,ih,ii,pY,hv⟩:=Qx (cJ.o);obtain⟨z0,mJ,z2,z3,mK,mL,mM,s9,zl⟩:=Qx vg.out
 cases iB with
 | true=>
  exact aw3
 | false=>
  by_cases ga:ay=.no
  ·subst ga;have hev2:oI=Qp:=cJ.er;subst hev2;have aK:rs=((⟨f2,⟨ok,on,f1⟩⟩,.no,b3),σ1):=by rw[bB.out];unfold Wq;rw[bW.out];rfl
   have z:=Oq (∀{G}(h:G:=by
   refine Vm (v:=.tuple #[UY ⟨f2,⟨ok,on,f1⟩⟩,Qp]) ?_;exact aw4),G);exact aw5
  ·exact aw6),G);exact aw7),G);exact aw8),G);exact zsl),G);exact aw9),G);exact zsk),G);exact asK
theorem agY (E:d.2.kids.length=1)(p:Pl)(o:Oc)(bv:Xm es w (.iface 34 (Ol 7)) (.mis)){l:Option Va}(hl:OV w L l)(h1:XG w0 mb af O es σ (Oy d 0) p L l (F.s (Oy d 0) p l σ)) :
  OE 202 #[Oo mb,Oo a.p,PU p (LA L),UY o,.iface 34 (Ol 7)] w (P8 w0 mb af O es L w (Wq F d p o (.mis) l σ)):=by
 have z:=Oq (∀{G}(h:G:=by
 have z:=Oq (∀{G}(h:G:=by
 have z:=Oq (∀{G}(h:G:=by
 have z:=Oq (∀{G}(h:G:=by
 have ac:=bI.WT;have t7:=aw1 (eb:=eb);have z:=Oq (∀{G}(h:G:=by
 obtain⟨rs,bB⟩:=xH (Wq F d ⟨au,aG,st⟩ ⟨f2,⟨ok,on,f1⟩⟩ (.mis) l σ);have z:=Oq (∀{G}(h:G:=by
 refine VN (H:=fun wz vb ev=>SB w0 mb af O es L w2 bH ay b3 σ1 wz vb ev) (G:=?GG) (fun dJ=>?ways) ?rest
 case ways=>
  exact asJ
 rintro wt lb oI cJ;have gg:=hide (cJ.fr.Rt eL bj.out Oz Oz);have vg:=hide (cJ.fr.Rt eL r3.out Oz Oz);have ij:=(cu.trans cJ.fr);have nE:=cJ.ms;have jp:=cJ.er;have y8:=(lJ.Rt cJ.fr eL);have bS:=cJ.la;have A4:=cJ.ms.lt;have wm:lb≠aU:=fun e=>by
  have h1:=cJ.ob;have U:=lt_of_heap bj.out;omega
 obtain⟨iB,⟨ey,dL,eK⟩⟩:=bH;obtain⟨cH,bU,cg,eE,dt,du,dv,iT,rl⟩:=Qx gg.out;obtain⟨hs,ht,hu,pX,ig,ih,ii,pY,hv⟩:=Qx (cJ.o);obtain⟨z0,mJ,z2,z3,mK,mL,mM,s9,zl⟩:=Qx vg.out
 cases iB with
 | true=>
  exact aw3
 | false=>
  by_cases ga:ay=.no
  ·subst ga;have hev2:oI=Qp:=cJ.er;subst hev2;have aK:rs=((⟨f2,⟨ok,on,f1⟩⟩,.mis,b3),σ1):=by rw[bB.out];unfold Wq;rw[bW.out];rfl
   have z:=Oq (∀{G}(h:G:=by
   refine Vm (v:=.tuple #[UY ⟨f2,⟨ok,on,f1⟩⟩,.iface 34 (Ol 7)]) ?_;exact aw4),G);exact aw5
  ·exact aw6),G);exact aw7),G);exact aw8),G);exact zsl),G);exact aw9),G);exact zsk),G);exact asK
theorem agZ (E:d.2.kids.length=1)(p:Pl)(o:Oc)(tb:Nat)(x:Va)(bv:Xm es w (.iface 122 (OM tb 0)) (.XU x)){l:Option Va}(hl:OV w L l)(h1:XG w0 mb af O es σ (Oy d 0) p L l (F.s (Oy d 0) p l σ)) :
  OE 202 #[Oo mb,Oo a.p,PU p (LA L),UY o,.iface 122 (OM tb 0)] w (P8 w0 mb af O es L w (Wq F d p o (.XU x) l σ)):=by
 have z:=Oq (∀{G}(h:G:=by
 have z:=Oq (∀{G}(h:G:=by
 have z:=Oq (∀{G}(h:G:=by
 have z:=Oq (∀{G}(h:G:=by
 have ac:=bI.WT;have t7:=aw2 (tb:=tb) (eb:=eb);have z:=Oq (∀{G}(h:G:=by
 obtain⟨rs,bB⟩:=xH (Wq F d ⟨au,aG,st⟩ ⟨f2,⟨ok,on,f1⟩⟩ (.XU x) l σ);have z:=Oq (∀{G}(h:G:=by
 refine VN (H:=fun wz vb ev=>SB w0 mb af O es L w2 bH ay b3 σ1 wz vb ev) (G:=?GG) (fun dJ=>?ways) ?rest
 case ways=>
  exact asJ
 rintro wt lb oI cJ;have gg:=hide (cJ.fr.Rt eL bj.out Oz Oz);have vg:=hide (cJ.fr.Rt eL r3.out Oz Oz);have ij:=(cu.trans cJ.fr);have nE:=cJ.ms;have jp:=cJ.er;have y8:=(lJ.Rt cJ.fr eL);have bS:=cJ.la;have A4:=cJ.ms.lt;have wm:lb≠aU:=fun e=>by
  have h1:=cJ.ob;have U:=lt_of_heap bj.out;omega
 obtain⟨iB,⟨ey,dL,eK⟩⟩:=bH;obtain⟨cH,bU,cg,eE,dt,du,dv,iT,rl⟩:=Qx gg.out;obtain⟨hs,ht,hu,pX,ig,ih,ii,pY,hv⟩:=Qx (cJ.o);obtain⟨z0,mJ,z2,z3,mK,mL,mM,s9,zl⟩:=Qx vg.out
 cases iB with
 | true=>
  exact aw3
 | false=>
  by_cases ga:ay=.no
  ·subst ga;have hev2:oI=Qp:=cJ.er;subst hev2;have aK:rs=((⟨f2,⟨ok,on,f1⟩⟩,.XU x,b3),σ1):=by rw[bB.out];unfold Wq;rw[bW.out];rfl
   have z:=Oq (∀{G}(h:G:=by
   refine Vm (v:=.tuple #[UY ⟨f2,⟨ok,on,f1⟩⟩,.iface 122 (OM tb 0)]) ?_;exact aw4),G);exact aw5
  ·exact aw6),G);exact aw7),G);exact aw8),G);exact zsl),G);exact aw9),G);exact zsk),G);exact asK
theorem ae0 (p:Pl)(o:Oc){l:Option Va}(hl:OV w L l) :
  OE 202 #[Oo mb,Oo a.p,PU p (LA L),UY o,.iface 359 (.pointer (some eb))] w (P8 w0 mb af O es L w (Wq F d p o .stop l σ)):=by
 have z:=Oq (∀{G}(h:G:=by
 have z:=Oq (∀{G}(h:G:=by
 have A8:ob≠aU:=Ou;have d0:bf≠aU:=Ou;have cU:=hd.kp (Kp.of aF);have cZ:=(aJ.later aF);have cu:=(O5.of (L:=L) aF (O0 bG));have eL:=(hl.later aF);have z:=Oq (∀{G}(h:G:=by
 have t7:=asI (eb:=eb);have qu:=bI.cell aJ;have mw:1<w.heap.size:=cell_lt qu;have jw:=bI.cell cZ;rw[da] at jw;have rW:=hide bI.is;clear qu;obtain⟨ap,qf⟩:=xH (((w.alloc (.cells #[Ol au,Ol aG,OC st,.pointer aB] 73)).alloc (.cells #[OC f2,Ol ok,Ol on,OB f1] 67)).alloc (.cells #[OC f2,Ol ok,Ol on,OB f1] 67));have br:OD w ap:=by rw[qf.out];exact(PO.alloc O8 _).alloc Rh _
 have iR:ap.heap[aU]? = some (O1 #[OC f2,Ol ok,Ol on,OB f1] 67):=by
  rw[qf.out,b0,show w.heap.size+2=((w.alloc (.cells #[Ol au,Ol aG,OC st,.pointer aB] 73)).alloc (.cells #[OC f2,Ol ok,Ol on,OB f1] 67)).heap.size by simp];exact OA _ _
 have dp:=hide iR;have ED:aU=w.heap.size+1+1:=b0;obtain⟨q,ag⟩:=xE a.p;obtain⟨rs,d'⟩:=xE (Wq F d ⟨au,aG,st⟩ ⟨f2,⟨ok,on,f1⟩⟩ .stop l σ);rw[<-d',<-ag];rw[<-ag] at dz;have aK:rs=((⟨f2,⟨ok,on,f1⟩⟩,.stop,l),σ):=d';have cI:=hide aK;have d9:=hide ED;clear be hr2 kt da d' ag dx cL d0 oY aK iR bV b0 gd ED A8 di hpl2 dz;go_enter func202,ntmps202;go_wp2_with fail;rw[<-qf.out,<-d9.out];obtain⟨cG,b4,bT,eg,_,_⟩:=cells4 dp.out
 refine Vm (v:=.tuple #[UY ⟨f2,⟨ok,on,f1⟩⟩,.iface 359 (.pointer (some eb))]) ?_;rw[cI.out];exact⟨⟨_,rfl,rW.out.symm⟩,aJ.later br,O5.of br (O0 bG),hl.later br⟩),G);exact zsl),G);exact zsk),G);exact asK
theorem amd (E:d.2.kids.length=1)(p:Pl)(o:Oc){e:Er}{ev:OG}(bv:Xm es w ev e){l:Option Va}(hl:OV w L l)(h1:e≠.stop->XG w0 mb af O es σ (Oy d 0) p L l (F.s (Oy d 0) p l σ)) :
  OE 202 #[Oo mb,Oo a.p,PU p (LA L),UY o,ev] w (P8 w0 mb af O es L w (Wq F d p o e l σ)):=by
 cases e with
 | no=>obtain rfl:ev=.nilIface:=bv;exact ai6 bI aJ hd E p o rfl hl (h1 O8)
 | stop=>rw[show ev=.iface 359 (.pointer (some eb)) from (show ev=es from bv).trans bI.is];exact ae0 bI aJ hd p o hl
 | mis=>obtain rfl:ev=.iface 34 (Ol 7):=bv;exact agY bI aJ hd E p o rfl hl (h1 O8)
 | XU x=>obtain⟨tb,rfl,h⟩:=bv;exact agZ bI aJ hd E p o tb x ⟨tb,rfl,h⟩ hl (h1 O8)
end
def ae1 (bI:Stp w0 mb es eb)(aJ:Ms w0 mb af O w σ)(ac:σ.steps<=20000) :
  OE 107 #[Oo mb] w fun e w'=>e=OQ (if 20000<σ.steps+1 then es else Qp)/\Ms w0 mb af O w' σ.step/\O5 none mb w w':=by
 have aj:=bI.cell aJ;obtain⟨aW,aC,aA,aM,ae⟩:=aJ;rw[<-bI.is] at aj;refine(apb ae.hh ac aj bI.lt).mono ?_;rintro e w' ⟨rfl,hh,aH⟩;have gj:Py Th mb w w':=⟨aH.below,fun b c e D aq=>aH.rest b c e D (fun h=>aq (by rw[List.mem_singleton.1 h];decide))⟩
 obtain⟨d6,h1,U,aw⟩:=ae.fu;exact⟨rfl,⟨aW,aC,aA,aM,ae.bw.trans gj.below,hh,OW ae.lg gj Oz,OW ae.se gj Oz,OW ae.ow gj Oz,d6,h1,OW U gj Oz,fun i a f ax hg=>(aw i a f ax hg).kp (Py.kp gj)⟩,O5.ofT gj⟩
section
variable (bI:Stp w0 mb es eb) (aJ:Ms w0 mb af O w σ) {a:Ad} {d:Nd} (hd:OY O w a d)
include bI aJ a d hd
theorem acn (eD:σ.steps<=20000)(hst1:20000<=σ.steps)(p:Pl){l:Option Va}(hl:OV w L l) :
  OE 53 #[Oo mb,Oo a.p,PU p (LA L)] w (P8 w0 mb af O es L w ((QW,.stop,l),σ.step)):=by
 have z:=Oq (∀{G}(h:G:=by
 have z:=Oq (∀{G}(h:G:=by
 have z:=Oq (∀{G}(h:G:=by
 have z:=Oq (∀{G}(h:G:=by
 have z:=Oq (∀{G}(h:G:=by
 have hstep:=ae1 bI cZ eD;rw[if_pos Ou,bI.is] at hstep;have rW:=hide bI.is;have eL:=(hl.later aF);obtain⟨q,bm⟩:=xH a.p;rw[<-bm.out] at dz ⊢;clear be hr2 dx cL d0;go_enter func53,ntmps53;have z:=Oq (∀{G}(h:G:=by
 have cY:=(cu.trans hM);have f6:=(eL.keep hM);have ea:=ha.lt;obtain⟨cH,bU,cg,eE,dt,du,dv,iT,rl⟩:=Qx dV.out;have z:=Oq (∀{G}(h:G:=by
 refine agX (v:=.tuple #[UY QW,.iface 359 (.pointer (some eb))]) ?_;exact⟨⟨_,rfl,rW.out.symm⟩,bC,bF,f6.Uc bi⟩),G);exact aBX),G);exact aco),G);exact Vd),G);exact zsd),G);exact XH),G);exact zsc),G);exact zsn
theorem ae2 (bo:d.2.kd=7)(eD:σ.steps<=20000)(hst1:σ.steps<20000)(p:Pl){l:Option Va}(hl:OV w L l){rs:(Oc × Er × Option Va) × St}(bq:∀ X,Ms w0 mb af O X σ.step->OY O X a d->OV X L l->OE 111 #[Oo mb,Oo a.p,PU p (LA L)] X (P8 w0 mb af O es L X rs)) :
  OE 53 #[Oo mb,Oo a.p,PU p (LA L)] w (P8 w0 mb af O es L w rs):=by
 have z:=Oq (∀{G}(h:G:=by
 have z:=Oq (∀{G}(h:G:=by
 have z:=Oq (∀{G}(h:G:=by
 have z:=Oq (∀{G}(h:G:=by
 have b8:=hide be;have z:=Oq (∀{G}(h:G:=by
 have z:=Oq (∀{G}(h:G:=by
 have ai:=hide bq;have e9:(d.2.kd:Int)=7:=by rw[bo]
 exact asN),G);exact aa5),G);exact Vd),G);exact zsd),G);exact XH),G);exact zsc),G);exact zsn
theorem aa6 (bo:d.2.kd=8)(eD:σ.steps<=20000)(hst1:σ.steps<20000)(p:Pl){l:Option Va}(hl:OV w L l){rs:(Oc × Er × Option Va) × St}(bq:∀ X,Ms w0 mb af O X σ.step->OY O X a d->OV X L l->OE 112 #[Oo mb,Oo a.p,PU p (LA L)] X (P8 w0 mb af O es L X rs)) :
  OE 53 #[Oo mb,Oo a.p,PU p (LA L)] w (P8 w0 mb af O es L w rs):=by
 have z:=Oq (∀{G}(h:G:=by
 have z:=Oq (∀{G}(h:G:=by
 have z:=Oq (∀{G}(h:G:=by
 have z:=Oq (∀{G}(h:G:=by
 have b8:=hide be;have z:=Oq (∀{G}(h:G:=by
 have z:=Oq (∀{G}(h:G:=by
 have ai:=hide bq;have e9:(d.2.kd:Int)=8:=by rw[bo]
 exact asN),G);exact aa5),G);exact Vd),G);exact zsd),G);exact XH),G);exact zsc),G);exact zsn
theorem acp (bo:d.2.kd=9)(eD:σ.steps<=20000)(hst1:σ.steps<20000)(p:Pl){l:Option Va}(hl:OV w L l){rs:(Oc × Er × Option Va) × St}(bq:∀ X,Ms w0 mb af O X σ.step->OY O X a d->OV X L l->OE 113 #[Oo mb,Oo a.p,PU p (LA L)] X (P8 w0 mb af O es L X rs)) :
  OE 53 #[Oo mb,Oo a.p,PU p (LA L)] w (P8 w0 mb af O es L w rs):=by
 have z:=Oq (∀{G}(h:G:=by
 have z:=Oq (∀{G}(h:G:=by
 have z:=Oq (∀{G}(h:G:=by
 have z:=Oq (∀{G}(h:G:=by
 have b8:=hide be;have z:=Oq (∀{G}(h:G:=by
 have z:=Oq (∀{G}(h:G:=by
 have ai:=hide bq;have e9:(d.2.kd:Int)=9:=by rw[bo]
 exact asN),G);exact aa5),G);exact Vd),G);exact zsd),G);exact XH),G);exact zsc),G);exact zsn
theorem adn (bo:d.2.kd=12)(eD:σ.steps<=20000)(hst1:σ.steps<20000)(p:Pl){l:Option Va}(hl:OV w L l){rs:(Oc × Er × Option Va) × St}(bq:∀ X,Ms w0 mb af O X σ.step->OY O X a d->OV X L l->OE 116 #[Oo mb,Oo a.p,PU p (LA L)] X (P8 w0 mb af O es L X rs)) :
  OE 53 #[Oo mb,Oo a.p,PU p (LA L)] w (P8 w0 mb af O es L w rs):=by
 have z:=Oq (∀{G}(h:G:=by
 have z:=Oq (∀{G}(h:G:=by
 have z:=Oq (∀{G}(h:G:=by
 have z:=Oq (∀{G}(h:G:=by
 have b8:=hide be;have z:=Oq (∀{G}(h:G:=by
 have z:=Oq (∀{G}(h:G:=by
 have ai:=hide bq;have e9:(d.2.kd:Int)=12:=by rw[bo]
 exact asN),G);exact aa5),G);exact Vd),G);exact zsd),G);exact XH),G);exact zsc),G);exact zsn
theorem YT (bo:d.2.kd=2)(eD:σ.steps<=20000)(hst1:σ.steps<20000)(p:Pl){l:Option Va}(hl:OV w L l){ay:Er}{b3:Option Va}{σ1:St}(bq:∀ X,Ms w0 mb af O X σ.step->OY O X a d->OV X L l->OE 108 #[Oo mb,Oo a.p,PU p (LA L)] X (ZK w0 mb af O es L X ((ay,b3),σ1))) :
  OE 53 #[Oo mb,Oo a.p,PU p (LA L)] w (P8 w0 mb af O es L w ((QW,ay,b3),σ1)):=by
 have z:=Oq (∀{G}(h:G:=by
 have z:=Oq (∀{G}(h:G:=by
 have z:=Oq (∀{G}(h:G:=by
 have z:=Oq (∀{G}(h:G:=by
 have b8:=hide be;have z:=Oq (∀{G}(h:G:=by
 have z:=Oq (∀{G}(h:G:=by
 have ai:=hide bq;have e9:(d.2.kd:Int)=2:=by rw[bo]
 exact apf),G);exact aa5),G);exact Vd),G);exact zsd),G);exact XH),G);exact zsc),G);exact zsn
theorem ado (bo:d.2.kd=3)(eD:σ.steps<=20000)(hst1:σ.steps<20000)(p:Pl){l:Option Va}(hl:OV w L l){ay:Er}{b3:Option Va}{σ1:St}(bq:∀ X,Ms w0 mb af O X σ.step->OY O X a d->OV X L l->OE 109 #[Oo mb,Oo a.p,PU p (LA L)] X (ZK w0 mb af O es L X ((ay,b3),σ1))) :
  OE 53 #[Oo mb,Oo a.p,PU p (LA L)] w (P8 w0 mb af O es L w ((QW,ay,b3),σ1)):=by
 have z:=Oq (∀{G}(h:G:=by
 have z:=Oq (∀{G}(h:G:=by
 have z:=Oq (∀{G}(h:G:=by
 have z:=Oq (∀{G}(h:G:=by
 have b8:=hide be;have z:=Oq (∀{G}(h:G:=by
 have z:=Oq (∀{G}(h:G:=by
 have ai:=hide bq;have e9:(d.2.kd:Int)=3:=by rw[bo]
 exact apf),G);exact aa5),G);exact Vd),G);exact zsd),G);exact XH),G);exact zsc),G);exact zsn
theorem aa7 (bo:d.2.kd=4)(eD:σ.steps<=20000)(hst1:σ.steps<20000)(p:Pl){l:Option Va}(hl:OV w L l){ay:Er}{b3:Option Va}{σ1:St}(bq:∀ X,Ms w0 mb af O X σ.step->OY O X a d->OV X L l->OE 109 #[Oo mb,Oo a.p,PU p (LA L)] X (ZK w0 mb af O es L X ((ay,b3),σ1))) :
  OE 53 #[Oo mb,Oo a.p,PU p (LA L)] w (P8 w0 mb af O es L w ((QW,ay,b3),σ1)):=by
 have z:=Oq (∀{G}(h:G:=by
 have z:=Oq (∀{G}(h:G:=by
 have z:=Oq (∀{G}(h:G:=by
 have z:=Oq (∀{G}(h:G:=by
 have b8:=hide be;have z:=Oq (∀{G}(h:G:=by
 have z:=Oq (∀{G}(h:G:=by
 have ai:=hide bq;have e9:(d.2.kd:Int)=4:=by rw[bo]
 exact apf),G);exact aa5),G);exact Vd),G);exact zsd),G);exact XH),G);exact zsc),G);exact zsn
theorem aa8 (bo:d.2.kd=11)(eD:σ.steps<=20000)(hst1:σ.steps<20000)(p:Pl){l:Option Va}(hl:OV w L l){ay:Er}{b3:Option Va}{σ1:St}(bq:∀ X,Ms w0 mb af O X σ.step->OY O X a d->OV X L l->OE 115 #[Oo mb,Oo a.p,PU p (LA L)] X (ZK w0 mb af O es L X ((ay,b3),σ1))) :
  OE 53 #[Oo mb,Oo a.p,PU p (LA L)] w (P8 w0 mb af O es L w ((QW,ay,b3),σ1)):=by
 have z:=Oq (∀{G}(h:G:=by
 have z:=Oq (∀{G}(h:G:=by
 have z:=Oq (∀{G}(h:G:=by
 have z:=Oq (∀{G}(h:G:=by
 have b8:=hide be;have z:=Oq (∀{G}(h:G:=by
 have z:=Oq (∀{G}(h:G:=by
 have ai:=hide bq;have e9:(d.2.kd:Int)=11:=by rw[bo]
 exact apf),G);exact aa5),G);exact Vd),G);exact zsd),G);exact XH),G);exact zsc),G);exact zsn
theorem acr (bo:d.2.kd=15)(eD:σ.steps<=20000)(hst1:σ.steps<20000)(p:Pl){l:Option Va}(hl:OV w L l){ay:Er}{b3:Option Va}{σ1:St}(bq:∀ X,Ms w0 mb af O X σ.step->OY O X a d->OV X L l->OE 117 #[Oo mb,Oo a.p,PU p (LA L)] X (ZK w0 mb af O es L X ((ay,b3),σ1))) :
  OE 53 #[Oo mb,Oo a.p,PU p (LA L)] w (P8 w0 mb af O es L w ((QW,ay,b3),σ1)):=by
 have z:=Oq (∀{G}(h:G:=by
 have z:=Oq (∀{G}(h:G:=by
 have z:=Oq (∀{G}(h:G:=by
 have z:=Oq (∀{G}(h:G:=by
 have b8:=hide be;have z:=Oq (∀{G}(h:G:=by
 have z:=Oq (∀{G}(h:G:=by
 have ai:=hide bq;have e9:(d.2.kd:Int)=15:=by rw[bo]
 exact apf),G);exact aa5),G);exact Vd),G);exact zsd),G);exact XH),G);exact zsc),G);exact zsn
theorem YU (bo:d.2.kd≠2/\d.2.kd≠3/\d.2.kd≠4/\d.2.kd≠6/\d.2.kd≠7/\d.2.kd≠8/\d.2.kd≠9/\d.2.kd≠10/\d.2.kd≠11/\d.2.kd≠12/\d.2.kd≠15)(eD:σ.steps<=20000)(hst1:σ.steps<20000)(p:Pl){l:Option Va}(hl:OV w L l) :
  OE 53 #[Oo mb,Oo a.p,PU p (LA L)] w (P8 w0 mb af O es L w ((QW,.no,l),σ.step)):=by
 have z:=Oq (∀{G}(h:G:=by
 have z:=Oq (∀{G}(h:G:=by
 have z:=Oq (∀{G}(h:G:=by
 have z:=Oq (∀{G}(h:G:=by
 have z:=Oq (∀{G}(h:G:=by
 have z:=Oq (∀{G}(h:G:=by
 obtain⟨c7,hD,rG,pb,pc,rH,yA,yw,Kj,Kl,Km⟩:=bo;obtain⟨j7,pk⟩:=xH d.2.kd;rw[<-pk.out] at c7 hD rG pb pc rH yA yw Kj Kl Km;clear be hr2 dx cL d0;go_enter func53,ntmps53;have z:=Oq (∀{G}(h:G:=by
 have z:=Oq (∀{G}(h:G:=by
 rw[<-bm.out] at hf gB;rw[<-pk.out] at gB;obtain⟨ho,gW,gC,kC,j8,j9,j',xb,ka⟩:=Qx dV.out;have z:=Oq (∀{G}(h:G:=by
 refine agX (v:=.tuple #[UY QW,Qp]) ?_;exact⟨⟨_,rfl,rfl⟩,bC,bF,f6.Uc bi⟩),G);exact aBX),G);exact apg),G);exact aco),G);exact aa5),G);exact Vd),G);exact zsd),G);exact XH),G);exact zsc),G);exact zsn
end
def aau {w:Ov}{b:Nat}{x:OG}{t:TypeId}(h:w.heap[b]? = some (O1 #[x] t)):w.cell? (Ot b 0)=some x/\(∀ j,w.frozen? (Ot b j)=false)/\b<w.heap.size:=by
 refine⟨?_,fun j=>?_,lt_of_heap h⟩
 ·rw[cell_of h];rfl
 ·simp[World.frozen?,h]
section
variable (bI:Stp w0 mb es eb) (aJ:Ms w0 mb af O w σ) {a:Ad} {d:Nd} (p:Pl) (o:Oc) {l:Option Va} (hl:OV w L l)
include bI aJ a d p o l hl
theorem ape :
  OE 201 #[Oo mb,Oo a.p,PU p (LA L),UY o,Qp] w (P8 w0 mb af O es L w (XV F d p o .no l σ)):=by
 obtain⟨aB,oY⟩:=xE (LA L);rw[<-oY];have z:=Oq (∀{G}(h:G:=by
 have z:=Oq (∀{G}(h:G:=by
 have z:=Oq (∀{G}(h:G:=by
 have kE:OE 32 #[Qp,.iface 123 (OM tb 0)] w2 fun e w'=>e=OQ (OC false)/\OD w2 w':=(anm tb w2 123).mono (by rintro e w' ⟨rfl,rfl⟩;exact⟨rfl,QX⟩)
 obtain⟨q,ag⟩:=xE a.p;obtain⟨rs,d'⟩:=xE (XV F d ⟨au,aG,st⟩ ⟨f2,⟨ok,on,f1⟩⟩ .no l σ);rw[<-d',<-ag];have aK:rs=((⟨f2,⟨ok,on,f1⟩⟩,.no,l),σ):=d';have z:=Oq (∀{G}(h:G:=by
 refine Vm (v:=.tuple #[UY ⟨f2,⟨ok,on,f1⟩⟩,Qp]) ?_;rw[cI.out];exact⟨⟨_,rfl,rfl⟩,bC,bF,f6.Uc bi⟩),G);exact axa),G);exact axb),G);exact zsk),G);exact zsy
theorem ame :
  OE 201 #[Oo mb,Oo a.p,PU p (LA L),UY o,.iface 34 (Ol 7)] w (P8 w0 mb af O es L w (XV F d p o .mis l σ)):=by
 obtain⟨aB,oY⟩:=xE (LA L);rw[<-oY];have z:=Oq (∀{G}(h:G:=by
 have z:=Oq (∀{G}(h:G:=by
 have z:=Oq (∀{G}(h:G:=by
 have kE:OE 32 #[.iface 34 (Ol 7),.iface 123 (OM tb 0)] w2 fun e w'=>e=OQ (OC false)/\OD w2 w':=arb 7 tb w2 t0 (tf 0) n' km;obtain⟨q,ag⟩:=xE a.p;obtain⟨rs,d'⟩:=xE (XV F d ⟨au,aG,st⟩ ⟨f2,⟨ok,on,f1⟩⟩ .mis l σ);rw[<-d',<-ag];have aK:rs=((⟨f2,⟨ok,on,f1⟩⟩,.mis,l),σ):=d';have z:=Oq (∀{G}(h:G:=by
 refine Vm (v:=.tuple #[UY ⟨f2,⟨ok,on,f1⟩⟩,.iface 34 (Ol 7)]) ?_;rw[cI.out];exact⟨⟨_,rfl,rfl⟩,bC,bF,f6.Uc bi⟩),G);exact axa),G);exact axb),G);exact zsk),G);exact zsy
theorem ai7 :
  OE 201 #[Oo mb,Oo a.p,PU p (LA L),UY o,.iface 359 (.pointer (some eb))] w (P8 w0 mb af O es L w (XV F d p o .stop l σ)):=by
 obtain⟨aB,oY⟩:=xE (LA L);rw[<-oY];have z:=Oq (∀{G}(h:G:=by
 have z:=Oq (∀{G}(h:G:=by
 have z:=Oq (∀{G}(h:G:=by
 have kE:OE 32 #[.iface 359 (.pointer (some eb)),.iface 123 (OM tb 0)] w2 fun e w'=>e=OQ (OC false)/\OD w2 w':=afX eb tb w2 t0 (tf 0) n' km;have rW:=hide bI.is;obtain⟨q,ag⟩:=xE a.p;obtain⟨rs,d'⟩:=xE (XV F d ⟨au,aG,st⟩ ⟨f2,⟨ok,on,f1⟩⟩ .stop l σ);rw[<-d',<-ag];have aK:rs=((⟨f2,⟨ok,on,f1⟩⟩,.stop,l),σ):=d';have z:=Oq (∀{G}(h:G:=by
 refine Vm (v:=.tuple #[UY ⟨f2,⟨ok,on,f1⟩⟩,.iface 359 (.pointer (some eb))]) ?_;rw[cI.out];exact⟨⟨_,rfl,rW.out.symm⟩,bC,bF,f6.Uc bi⟩),G);exact axa),G);exact axb),G);exact zsk),G);exact zsy
end
def amf (bI:Stp w0 mb es eb)(a8:Bs w0 mb af O es)(aJ:Ms w0 mb af O w σ){a:Ad}{d:Nd}(hd:OY O w a d)(E:d.2.kids.length=1)(p:Pl)(o:Oc)(lC:Nat)(x:Va)(ae:w.heap[lC]? = some (O1 #[Ol x.k,Ol x.n,OB x.s] 126)){l:Option Va}(hl:OV w L l)
  (aI:Sz N σ) (hN:N<1000000000) (mD:(σ.M.ro p.scope).isSome=true) (cn:Sz N (σ.opn p.scope (-1) (own d)))
  (h1:XG w0 mb af O es ((σ.opn p.scope (-1) (own d)).dec σ.top d.2.tx 0 x) (Oy d 0) { p with scope:=σ.top } L l (F.s (Oy d 0) { p with scope:=σ.top } l ((σ.opn p.scope (-1) (own d)).dec σ.top d.2.tx 0 x))) :
  OE 201 #[Oo mb,Oo a.p,PU p (LA L),UY o,.iface 122 (OM lC 0)] w (P8 w0 mb af O es L w (XV F d p o (.XU x) l σ)):=by
 obtain⟨aB,kI⟩:=xH (LA L);rw[<-kI.out];have z:=Oq (∀{G}(h:G:=by
 have z:=Oq (∀{G}(h:G:=by
 have bN:=Oq (∀{G}(h:G:=by
 have b8:=hide be;have zH:=hide eV;have bu:=hide da;have bj:=hide hr2;have cR:=hide cL;have sd:=hide dx;have tu:=hide d0;have GM:=hide Bf;have iG:=hide rx;have eL:=(hl.later aF);obtain⟨t0,tf,n'⟩:=aau eV;have km:=bI.ety cZ;have kE:=(aj9 lC tb w2 eV t0 (tf 0) n' km);have uu:=lt_of_heap ae;have EY:lC≠bf:=Ou;have Hr:=hide EY;have Hs:=hide ae;have zm:=aJ;have f5:=hide E;have GW:=hide mD;obtain⟨q,bm⟩:=xH a.p;obtain⟨ow,k5⟩:=xH (own d:Int)
 obtain⟨e6,zJ⟩:=xH (σ.top:Int);obtain⟨cy,zD⟩:=xH (σ.opn au (-1) (own d));obtain⟨xe,CL⟩:=xH ((σ.opn au (-1) (own d)).dec σ.top d.2.tx 0 x);obtain⟨rs,d'⟩:=xE (XV F d ⟨au,aG,st⟩ ⟨f2,⟨ok,on,f1⟩⟩ (.XU x) l σ);have e8:XG w0 mb af O es xe (Oy d 0) ⟨e6,aG,st⟩ L l rs:=by
  show XG _ _ _ _ _ _ _ _ _ _ _
  rw[d',zJ.out,CL.out];exact h1
 rw[<-d',<-bm.out];clear E be hr2 kt eV da d' dx cL d0 Bf rx t0 tf n' km ae mD h1 EY;go_enter func201,ntmps201;go_wp2_with fail;rw[<-bu.out,<-b0,<-gd,<-bV,<-htb'];clear bV b0 gd lp htb';refine cm kE ?_;rintro e wz ⟨rfl,wH,iL⟩;have rx:=Om iG;have pD:OD w wz:=aF.trans (iL.mono rx.2.2.2);have Hg:=hide wH;have eR:=hide ((iL.block bf rx.1).trans b8.out);have dV:=hide ((iL.block aU rx.2.2.1).trans bj.out);have jr:=(zm.later pD);have f6:=(hl.later pD);have p4:=(hd.kp (Kp.of pD))
 have oz:=hide (stays pD Hs.out);have cY:=(O5.of (L:=none) pD (O0 bG));have r7:=hide (cells4 eR.out);have ea:=jr.lt;have iX:=lt_of_heap eR.out;have hf:q<wz.heap.size:=by rw[bm.out];exact p4.cells.1
 have GF:Hid (∀ X,OD wz X->OE 51 #[Oo mb,Oo q] X fun e w'=>e=OQ (Ol ow)/\OD wz w'):=fun X ak=>by
  obtain⟨_,_,_,_,hy⟩:=jr.later ak;rw[bm.out,k5.out];exact(YD a8 hy (p4.kp (Kp.of ak))).mono (by rintro e w' ⟨rfl,rfl⟩;exact⟨rfl,ak⟩)
 have ck:Hid (∀ X,OD wz X->OE 50 #[Oo mb,Ol au,Ol (-1),Ol ow] X fun e w'=>e=OQ (Ol e6)/\Ms w0 mb af O w' cy/\O5 none mb wz w'):=fun X ak=>by
  obtain⟨_,_,_,_,hy⟩:=jr.later ak;refine(Y6 hy aI hN au (-1) ow GW.out).mono ?_;rintro e w' ⟨rfl,w3,fc,cS⟩;rw[zJ.out,zD.out,<-k5.out];exact⟨rfl,⟨_,_,_,_,fc⟩,(O5.of ak (O0 ea)).trans (cS.frL hy)⟩
 clear wH rx;go_wp2_with fail;refine TI 6 fun ab=>?_;refine up 0 mb 0 ab ?_;refine up 1 bf 0 ab ?_;refine uk 2 (r7.out.1) ab ?_;refine up 3 mb 0 ab ?_;refine up 4 q 0 ab ?_;refine P5 5 fun K A=>?_;go_simp;refine cm (Om GF _ ab) ?_;rintro e Of ⟨rfl,DE⟩;refine A.out _ _ (fun _=>DE) ?_;clear A K;refine P5 6 fun K A=>?_;go_simp;refine cm (Om ck _ DE) ?_;rintro e ap ⟨rfl,eA,f8⟩;refine ko A ?_;clear A K;have fM:=hide (f8.keep eR.out Oz);have dp:=hide (f8.keep dV.out Oz);have zI:=hide (f8.keep Hg.out Oz)
 have eN:=hide (f8.keep oz.out Oz);have u':=(f6.keep f8);have cQ:=(cY.trans f8);have lI:=(p4.kp f8.UD);obtain⟨aZ,p1,cK,cX,gV,d2⟩:=cells4 fM.out;have z:=Oq (∀{G}(h:G:=by
 have nf:Kp ap (ap.setCell (Ot bf 0) (Ol e6)):=fun b c e D aq=>lm.rest b c e D (by rcases aq with rfl|rfl <;> decide);have jZ:=(eA.YC lm Oz);have kJ:=hide (YE fM.out (Ol e6));have gw:Hid (bA.heap[aU]? = some (O1 #[OC false,Ol 0,Ol 0,PN] 67)):=asi
 have CR:Hid (bA.heap[tb]? = some (O1 #[OM lC 0] 122)):=by
  show _=_
  rw[fJ,heap_setCell_other _ _ _ _ (Ne.symm GM.out)];exact Om zI
 have f7:Hid (bA.heap[lC]? = some (O1 #[Ol x.k,Ol x.n,OB x.s] 126)):=by
  show _=_
  rw[fJ,heap_setCell_other _ _ _ _ Hr.out];exact Om eN
 have fF:=(cQ.newT lm (ZM sd.out _));have tp:=(u'.Uc lm);have p2:=(lI.kp nf);rw[<-fJ] at jZ kJ fF tp p2 ⊢;have vi:=hide (cells4 kJ.out);have He:=hide (aau CR.out);have Ho:=hide (cells3 f7.out);have gp:=jZ.lt;have lk:=lt_of_heap kJ.out;have Np:=lt_of_heap CR.out;have gS:=lt_of_heap f7.out;obtain⟨tx,cD⟩:=xE d.2.tx;have fH:=p2.cells;rw[<-bm.out,<-cD] at fH;have rT:=hide fH;have um:=fH.1
 have tm:Hid (∀ X,OD bA X->OE 128 #[Oo mb,Ol e6,OB tx,Ol 0,vA x] X fun e w'=>(∃ ev,e=OQ ev)/\Ms w0 mb af O w' xe/\O5 none mb bA w'):=fun X ak=>by
  obtain⟨_,_,_,_,hy⟩:=jZ.later ak;rw[<-zD.out] at cn;refine(Xl hy cn hN e6 tx 0 x).mono ?_;rintro e w' ⟨rfl,fc,cS⟩;rw[CL.out,<-zD.out,<-zJ.out,<-cD];exact⟨⟨_,rfl⟩,⟨_,_,_,_,fc⟩,(O5.of ak (O0 gp)).trans (O5.ofT cS)⟩
 clear fJ aZ p1 cK cX d2 pd fH cD;go_wp2_with fail;refine TI 13 fun ab=>?_;have z:=Oq (∀{G}(h:G:=by
 refine up 3 bf 0 ab ?_;refine uk 4 (vi.out.1) ab ?_;refine up 5 q 0 ab ?_;refine up 6 q 0 ab ?_;refine up 7 q 1 ab ?_;refine uk 8 (rT.out.2.2.1) ab ?_;refine uk 9 (He.out.1) ab ?_;refine up 10 lC 0 ab ?_;refine up 11 lC 0 ab ?_;refine uk3 12 Ho.out ab ?_;refine P5 13 fun K A=>?_;go_simp;refine cm (Om tm _ ab) ?_;rintro e b7 ⟨⟨ev,rfl⟩,tX,qk⟩;refine ko A ?_;clear A K;have jd:=hide (qk.keep kJ.out Oz);have fm:=hide (qk.keep gw.out Oz);have xq:=(tp.keep qk);have gu:=(fF.trans qk);have nx:=(p2.kp qk.UD)
 refine Sl ?_ _;go_simp;have cT:=Om f5;obtain⟨ce,cB,cap0,c3,dC,fV,_⟩:=nx.Yj (i:=0) Ou;rw[cT] at c3;obtain⟨kp,dc⟩:=xE ce.p;have GH:=hide (cells4 jd.out);have fj:=hide (fun X (ak:OD b7 X)=>e8 X ce (tX.later ak) (fV.kp (Kp.of ak)) (xq.later ak));rw[<-kI.out,<-dc] at fj;rw[<-bm.out] at c3;rw[<-dc] at dC;have eF:=hide c3;have lG:=hide dC;have hR:=tX.lt;have qy:=lt_of_heap jd.out;have yi:=cell_lt c3;have MF:=cell_lt dC;clear cT c3 dC dc;go_wp2_with fail;refine TI 8 fun ab=>?_
 have z:=Oq (∀{G}(h:G:=by
 have z:=Oq (∀{G}(h:G:=by
 refine uk4 7 GH.out ab ?_;refine P5 8 fun K A=>?_;have z:=Oq (∀{G}(h:G:=by
 have jL:=(O5.of (L:=L) ab (O0 hR)).trans ah;have dF:=hide (jL.Rt xq fm.out Oz Oz);have fl:=(gu.up.trans jL);exact awU),G);exact ao9),G);exact ao3),G);exact Ws),G);exact Un),G);exact awl),G);exact ztx),G);exact zsk),G);exact zsy
def asL (bI:Stp w0 mb es eb)(a8:Bs w0 mb af O es)(aJ:Ms w0 mb af O w σ){a:Ad}{d:Nd}(hd:OY O w a d)(E:d.2.kids.length=1)(p:Pl)(o:Oc){e:Er}{ev:OG}(bv:Xm es w ev e){l:Option Va}(hl:OV w L l)(hN:N<1000000000)
  (h1:∀ x,e=.XU x->Sz N σ/\(σ.M.ro p.scope).isSome=true/\Sz N (σ.opn p.scope (-1) (own d))/\XG w0 mb af O es ((σ.opn p.scope (-1) (own d)).dec σ.top d.2.tx 0 x) (Oy d 0) { p with scope:=σ.top } L l (F.s (Oy d 0) { p with scope:=σ.top } l ((σ.opn p.scope (-1) (own d)).dec σ.top d.2.tx 0 x))) :
  OE 201 #[Oo mb,Oo a.p,PU p (LA L),UY o,ev] w (P8 w0 mb af O es L w (XV F d p o e l σ)):=by
 cases e with
 | no=>obtain rfl:ev=.nilIface:=bv;exact ape bI aJ p o hl
 | stop=>rw[show ev=.iface 359 (.pointer (some eb)) from (show ev=es from bv).trans bI.is];exact ai7 bI aJ p o hl
 | mis=>obtain rfl:ev=.iface 34 (Ol 7):=bv;exact ame bI aJ p o hl
 | XU x=>
  obtain⟨lC,rfl,h⟩:=bv;obtain⟨U,aw,aL,bE⟩:=h1 x rfl;exact amf bI a8 aJ hd E p o lC x h hl U hN aw aL bE
def U7 (F:Fx)(k:Nd)(p:Pl)(o:Oc)(e:Er)(l:Option Va)(σ:St):(Oc × Er × Option Va) × St:=if k.2.kd=13 then XV F k p o e l σ else Wq F k p o e l σ
def aGD (w0:Ov)(mb af:Nat)(O:List Nat)(es:OG)(F:Fx)(L:Option Nat)(k:Nd)(p:Pl)(o:Oc)(e:Er)(l:Option Va)(σ:St):Prop:=
 ∀ X (a:Ad) (ev:OG),Ms w0 mb af O X σ->OY O X a k->OV X L l->Xm es X ev e ->
  (k.2.kd=13->OE 201 #[Oo mb,Oo a.p,PU p (LA L),UY o,ev] X (P8 w0 mb af O es L X (XV F k p o e l σ))) /\
  (k.2.kd≠13->OE 202 #[Oo mb,Oo a.p,PU p (LA L),UY o,ev] X (P8 w0 mb af O es L X (Wq F k p o e l σ)))
def asM {w:Ov}{v:OG}{c9:List Ad}{g n cap:Nat}(h:TA 0 w v c9)(av:v=.slice (some (Ot g 0)) n cap):n<=cap:=by
 rcases h.1.2 with ⟨h1,_⟩|⟨g2,cap',cj,h1,_,_,U,_⟩
 ·rw[av] at h1;cases h1
 ·rw[av] at h1;simp only[Value.slice.injEq] at h1;omega
def tail_drop (a6:List Nd)(k:Nat)(h:k+1<a6.length):a6.tail.drop k=a6[k+1]::a6.tail.drop (k+1):=by
 have h1:k<a6.tail.length:=by rw[List.length_tail];omega
 rw[List.drop_eq_getElem_cons h1,List.getElem_tail]
def amg {p:Pl}{k:Nd}{ks:List Nd}{o bH:Oc}{e ay:Er}{l b3:Option Va}{σ1:St}(h:U7 F k p o e l σ=((bH,ay,b3),σ1)):aao F p (k::ks) o e l σ=aao F p ks bH ay b3 σ1:=by
 rw[aao];unfold U7 at h;simp only[h]
def aBU (_:Zp es)(aJ:Ms w0 mb af O w σ){a:Ad}{d:Nd}(hd:OY O w a d){m:Nat}(E:d.2.kids.length=m+1)(n1:1<=m)(Ee:m<1000000)(p:Pl){l:Option Va}(hl:OV w L l)
  (h0:XG w0 mb af O es σ (Oy d 0) p L l (F.s (Oy d 0) p l σ))
  (P:Oc->Er->Option Va->St->Prop) (hP:∀ o e b3 σ1,F.s (Oy d 0) p l σ=((o,e,b3),σ1)->P o e b3 σ1)
  (bq:∀ k ∈ (P9 d).tail,∀ o e l σ,P o e l σ->aGD w0 mb af O es F L k p o e l σ/\∀ bH ay b3 σ1,U7 F k p o e l σ=((bH,ay,b3),σ1)->P bH ay b3 σ1) :
  OE 116 #[Oo mb,Oo a.p,PU p (LA L)] w (P8 w0 mb af O es L w (let r:=F.s (Oy d 0) p l σ;aao F p (P9 d).tail r.1.1 r.1.2.1 r.1.2.2 r.2)):=by
 have z:=Oq (∀{G}(h:G:=by
 have z:=Oq (∀{G}(h:G:=by
 have z:=Oq (∀{G}(h:G:=by
 have z:=Oq (∀{G}(h:G:=by
 have b8:=hide be;have ei:=hide (cells4 be);have z:=Oq (∀{G}(h:G:=by
 obtain⟨cV,dP,c3,hrow⟩:=cU.ar;rw[E] at c3 hrow;have hlen:a.ks.length=m+1:=by rw[cU.ks,E]
 have x5:(P9 d).length=m+1:=by rw[Si,E]
 obtain⟨cB,cap0,qC,wa,dC,AT⟩:=hrow.cell 0 Ou;clear AT;simp only[Value.slice.injEq] at qC;obtain⟨rfl,I7,rfl⟩:=qC;clear I7;have Nq:dP≠1:=by have:=asM hrow rfl;omega
 have fV:OY O w2 (a.ks[0]'Ou) (Oy d 0):=by
  obtain⟨k,iO,aw,aL⟩:=cU.aBV (i:=0) Ou;rw[List.getElem?_eq_getElem Ou] at iO;cases iO;exact aL
 have ft:=cU.ndl;obtain⟨q,ag⟩:=xE a.p;obtain⟨ce,iW⟩:=xE (a.ks[0]'Ou);rw[<-iW] at dC fV;obtain⟨kp,dc⟩:=xE ce.p;have bJ:=hide (fun X (ak:OD w2 X)=>h0 X ce (cZ.later ak) (fV.kp (Kp.of ak)) ((hl.later aF).later ak))
 rcases aa:F.s (Oy d 0) ⟨au,aG,st⟩ l σ with ⟨⟨bH,ay,b3⟩,σ1⟩
 rw[aa] at bJ;obtain⟨rs,bB⟩:=xH (aao F ⟨au,aG,st⟩ (P9 d).tail bH ay b3 σ1)
 show Calls _ _ _ _ (P8 w0 mb af O es L w (aao F ⟨au,aG,st⟩ (P9 d).tail bH ay b3 σ1))
 rw[<-bB.out,<-ag];have hblk:=cU.blk;rw[<-ag] at c3 dz hblk;rw[<-dc] at dC bJ;rw[<-kI.out] at bJ;have eF:=hide c3;have lG:=hide dC;have iH:=hide hblk;have HLEN:=hide hlen;have Cc:=hide x5;have ot:=hide (hP _ _ _ _ aa);have ai:=hide bq;have eL:=(hl.later aF);have sb:=hide (tail_drop (P9 d));clear aJ hd be hr2 aF aa ag h0 dx cL d0 fV c3 dC dc hl hblk hP bq iW hlen E;go_enter func116,ntmps116;go_wp2_with fail;rw[<-bu.out,<-b0,<-bV];clear bV b0
 refine VN (H:=fun wz vb ev=>SB w0 mb af O es L w2 bH ay b3 σ1 wz vb ev) (G:=?GG) (fun dJ=>?ways) ?rest
 case ways=>
  exact asJ
 rintro wz ob ev cJ;have AY:=cJ.fr.kpL eL;have cY:=(cu.up.trans cJ.fr);have jr:=cJ.ms;have tn:=cJ.er;have f6:=cJ.la;have zu:=hide cJ.o;have CA:=hide cJ.ob;have ea:=cJ.ms.lt;have wm:ob≠aU:=fun e=>by
  have h1:=cJ.ob;have U:=lt_of_heap bj.out;omega
 have C9:=AY.Ui eF.out iH.out (Or.inl rfl);have wx:=cell_lt C9;have vn:=cJ.fr;clear AY cJ;go_wp2_with fail;clear C9 wx
 go_loopw [9,30] (fun ev i wr=>∃ (k:Nat) (ok:Oc) (oH:Er) (hC:Option Va) (dE:St),k<=m/\i=Ol k/\Ms w0 mb af O wr dE/\P ok oH hC dE/\O5 L mb w2 wr/\OV wr L hC/\wr.heap[ob]? = some (ocO ok)/\Xm es wr ev oH/\rs=aao F ⟨au,aG,st⟩ ((P9 d).tail.drop k) ok oH hC dE) (fun _ i _=>m - (intOf i).toNat)
 case atStart=>exact⟨0,bH,ay,b3,σ1,Nat.zero_le _,rfl,jr,ot.out,vn,f6,zu.out,tn,bB.out⟩
 case round=>
  obtain⟨k,ok,oH,hC,dE,rn,rfl,aJ,ld,ah,kn,wu,xO,iY⟩:=hrel;have hW:=aJ;have Cs:=kn;have zs:=hide wu;have FV:=xO;have h':=aJ.lt;have x9:=ah.kpL eL;have bW:=hide (ah.Rt eL bj.out Oz Oz);have fN:=hide (ah.Rt eL b8.out Oz Oz);obtain⟨iB,⟨ey,dL,eK⟩⟩:=ok
  by_cases aQ:k<m
  ·have eZ:k+1<a.ks.length:=by rw[HLEN.out];omega
   have gn:k+1<(P9 d).length:=by rw[Cc.out];omega
   obtain⟨g,cap,av,hg,aj,AT⟩:=(hrow.kp x9).cell (k+1) eZ;clear AT;simp only[Value.slice.injEq,Option.some.injEq,Addr.mk.injEq] at av;obtain⟨⟨AK,I5⟩,AR⟩:=av;have jj:=Uo.get _ _ (Uo.kp x9 _ _ ft) (k+1) eZ gn;obtain⟨kd,bo⟩:=xE ((P9 d)[k+1]);obtain⟨pU,qv⟩:=xE (a.ks[k+1]);rw[<-bo,<-qv] at jj;rw[<-qv,<-AK,Nat.add_comm] at aj;rw[<-AK] at hg;have hmem:kd ∈ (P9 d).tail:=by
    have bE:k<(P9 d).tail.length:=by rw[List.length_tail];omega
    rw[bo,<-List.getElem_tail bE];exact List.getElem_mem _
   obtain⟨qp,hnext⟩:=Om ai kd hmem ⟨iB,⟨ey,dL,eK⟩⟩ oH hC dE ld;have qp:=qp _ pU _ aJ jj kn xO;rw[<-kI.out] at qp;obtain⟨wY,pN⟩:=xE pU.p;rw[<-pN] at aj qp;have fH:=jj.cells;rw[<-pN] at fH;obtain⟨Nf,gi,wf⟩:=fH;obtain⟨j7,cT⟩:=xE kd.2.kd;rw[<-cT] at gi qp
   rcases dm:U7 F kd ⟨au,aG,st⟩ ⟨iB,⟨ey,dL,eK⟩⟩ oH hC dE with ⟨⟨i6,bz,o'⟩,cy⟩
   have nJ:=hide (hnext _ _ _ _ dm);have zz:Hid (rs=aao F ⟨au,aG,st⟩ ((P9 d).tail.drop (k+1)) i6 bz o' cy):=by
    show _=_
    rw[iY,Om sb k gn,<-bo];exact amg dm
   have h8:(k:Int)<(m:Int):=Ou;have de:=hide dm;clear aJ ld kn wu xO iY jj bo qv hmem hnext x9 dm eZ gn AK pN I5 AR wf;obtain⟨aZ,p1,cK,cX,_,d2⟩:=cells4 fN.out;obtain⟨hs,ht,hu,pX,ig,ih,ii,pY,hv⟩:=Qx zs.out
   by_cases tQ:j7=13
   ·have gf:=(qp.1 tQ);have bI:U7 F kd ⟨au,aG,st⟩ ⟨iB,⟨ey,dL,eK⟩⟩ oH hC dE=XV F kd ⟨au,aG,st⟩ ⟨iB,⟨ey,dL,eK⟩⟩ oH hC dE:=if_pos (cT ▸ tQ);exact aBW
   ·have gf:=(qp.2 tQ);have bI:U7 F kd ⟨au,aG,st⟩ ⟨iB,⟨ey,dL,eK⟩⟩ oH hC dE=Wq F kd ⟨au,aG,st⟩ ⟨iB,⟨ey,dL,eK⟩⟩ oH hC dE:=if_neg (cT ▸ tQ);exact aBW
  ·have cT:k=m:=Ou;have aK:rs=((⟨iB,⟨ey,dL,eK⟩⟩,oH,hC),dE):=by rw[iY,cT,List.drop_eq_nil_of_le (by rw[List.length_tail,Cc.out];omega)];rfl
   have cI:=hide aK;have h8:¬ (k:Int)<(m:Int):=Ou;have qQ:=(cu.up.trans ah);obtain⟨cH,bU,cg,eE,dt,du,dv,iT,rl⟩:=Qx bW.out;obtain⟨hs,ht,hu,pX,ig,ih,ii,pY,hv⟩:=Qx zs.out;clear aK cT x9 aJ ld kn wu xO iY;go_wp2_with fail;obtain⟨b1,bx,bi,bF,bC,cG,b4,bT,eg⟩:=rt4 bW.out cR.out bG qQ hW (OC iB) (Ol ey) (Ol dL) (OB eK);rw[<-bx];refine Vm (v:=.tuple #[UY ⟨iB,⟨ey,dL,eK⟩⟩,u9]) ?_;rw[cI.out];exact⟨⟨_,rfl,FV.Qw bi Oz⟩,bC,bF,Cs.Uc bi⟩),G);exact Vd),G);exact zsd),G);exact XH),G);exact zsc),G);exact zsn
def apd (ac:Zp es)(aJ:Ms w0 mb af O w σ){a:Ad}{d:Nd}(hd:OY O w a d)(E:d.2.kids.length=2)(p:Pl){l:Option Va}(hl:OV w L l)(f:Nat)
  (P:Nat->St->Option Va->Prop) (hP:P f σ l) (xS:∀ σ l,¬ P 0 σ l)
  (bq:∀ k σ l,P (k+1) σ l->Ub w0 mb af O es σ (Oy d 0) p (F.v (Oy d 0) p σ)/\∀ v σ1,F.v (Oy d 0) p σ=((v,.no),σ1)->v.tru=true->XG w0 mb af O es σ1 (Oy d 1) p L l (F.s (Oy d 1) p l σ1)/\∀ o b3 cy,F.s (Oy d 1) p l σ1=((o,.no,b3),cy)->P k cy b3) :
  OE 112 #[Oo mb,Oo a.p,PU p (LA L)] w (P8 w0 mb af O es L w (Y5 F d p f l σ)):=by
 have z:=Oq (∀{G}(h:G:=by
 have z:=Oq (∀{G}(h:G:=by
 have z:=Oq (∀{G}(h:G:=by
 have z:=Oq (∀{G}(h:G:=by
 have b8:=hide be;have z:=Oq (∀{G}(h:G:=by
 obtain⟨q,bm⟩:=xH a.p;obtain⟨rs,bB⟩:=xH (Y5 F d ⟨au,aG,st⟩ f l σ);rw[<-bB.out,<-bm.out];have ot:=hide hP;have r5:=hide xS;have ai:=hide bq;have p5:=hide E;have eL:=(hl.later aF);clear be hr2 dx cL d0 hP xS bq E dz;go_enter func112,ntmps112;go_wp2_with fail;rw[<-bu.out,<-b0,<-bV];clear bV b0
 go_loopg [] f (fun k wr=>∃ (hC:Option Va) (dE:St),Ms w0 mb af O wr dE/\P k dE hC/\O5 L mb w2 wr/\OV wr L hC/\rs=Y5 F d ⟨au,aG,st⟩ k hC dE)
 case atStart=>exact⟨l,σ,cZ,ot.out,O5.of QX (O0 di),eL,bB.out⟩
 case round=>
  obtain⟨hC,dE,aJ,ld,ah,kn,iY⟩:=hrel;obtain⟨k,rfl⟩:∃ k,gk=k+1:=by
   cases gk with
   | zero=>exact absurd ld (Om r5 _ _)
   | succ k=>exact⟨k,rfl⟩
  obtain⟨ci,fH⟩:=Om ai k dE hC ld;have hW:=aJ;have je:=hide iY;have h':=aJ.lt;have Jb:=ah.kpL eL;have bW:=hide (ah.Rt eL bj.out Oz Oz);have fN:=hide (ah.Rt eL b8.out Oz Oz);have GJ:=hide (cells4 fN.out);have Ju:=lt_of_heap fN.out;have kF:=(cu.up.trans ah);have lS:=cU.kp Jb;have hU:=ah;have cT:=Om p5;obtain⟨ce,bQ,cB,cap0,c3,dC,fW,fV,jh⟩:=lS.adX cT;obtain⟨kp,dc⟩:=xE ce.p;obtain⟨wY,p7⟩:=xH bQ.p
  have bJ:=hide (fun X (ak:OD wr X)=>ci X ce aB (hW.later ak) (fV.kp (Kp.of ak)));have hblk:=lS.blk;have hblk2:=lS.akt c3;have JD:=lS.cells.1;rw[<-bm.out] at c3 hblk JD;rw[<-dc] at dC bJ;rw[<-p7.out] at fW
  rcases dm:F.v (Oy d 0) ⟨au,aG,st⟩ dE with ⟨⟨v1,ay⟩,σ1⟩
  rw[dm] at bJ;have de:=hide dm;have rT:=hide fH;have eF:=hide c3;have lG:=hide dC;have od:=hide fW;have iH:=hide hblk;have qR:=hide hblk2;have dI:=cell_lt dC;clear ld iY fH cT dc hblk hblk2 c3 dC fW dm;go_wp2_with fail;refine VN (H:=fun wz vb ev=>VB w0 mb af O es wr v1 ay σ1 wz vb ev) (G:=?GG) (fun dJ=>?ways) ?rest
  case ways=>
   refine TI 8 fun ab=>?_;have z:=Oq (∀{G}(h:G:=by
   have z:=Oq (∀{G}(h:G:=by
   refine uk4 7 GJ.out ab ?_;refine uq2 8 12 (fun K A=>?_) fun K A=>?_
   ·have z:=Oq (∀{G}(h:G:=by
    refine uz 14 ev ?_;refine Sl ?_ _;go_simp;have ci:=VB.late (v:=v1) aD aJ ((O5.of ab (O0 h')).trans ah);exact axQ),G);exact asz
   ·have z:=Oq (∀{G}(h:G:=by
    have fp:aE.heap[wr.heap.size]? = some (O1 #[Ol 0,Ol 0,PN] 65):=ah.keep (OA _ _) Oz;have z:=Oq (∀{G}(h:G:=by
    have z:=Oq (∀{G}(h:G:=by
    have ci:=VB.early (v:=v1) fp O6 (O0 h') aD aJ ((O5.of (PO.drew) (O0 h')).trans ah);exact aBy),G);exact ai3),G);exact asA),G);exact asB),G);exact ao3),G);exact Ws
  rintro wz vb ev aV;have dV:=hide (aV.fr.keep bW.out Oz);have eR:=hide (aV.fr.keep fN.out Oz);have cY:=(kF.trans aV.fr.up);have F3:=(hU.trans aV.fr.up);have f6:=(kn.keep aV.fr);have tn:=aV.er;have jr:=aV.ms;have ea:=aV.ms.lt;have cl:vb≠aU:=fun e=>by
   have h1:=aV.vb;have U:=lt_of_heap bW.out;omega
  obtain⟨cH,bU,cg,eE,dt,du,dv,iT,rl⟩:=Qx dV.out;obtain⟨fh,cp,dG,hp,hq,hr,g9⟩:=O7 (aV.v)
  by_cases aq:ay=.no
  ·subst aq;have bv:ev=Qp:=aV.er;subst bv;have eM:=(Xk v1 wz);have th:=hide (aV.fr.UD.Ui eF.out iH.out (Or.inl rfl));have yX:=hide (aV.fr.UD.Ui od.out qR.out (Or.inr rfl));have ze:=(jh.kp aV.fr.UD)
   cases e5:v1.tru with
   | true=>
    rw[e5] at eM;obtain⟨iZ,iq⟩:=Om rT v1 σ1 de.out e5;have lH:=hide iq;have l5:=hide e5;clear e5 iq;go_wp2_with fail;refine cm eM ?_;rintro e ed ⟨rfl,cr⟩;have j0:=(jr.later cr);have nD:=(f6.later cr);have kL:=hide (stays cr dV.out);have p':=hide (cells4 (stays cr eR.out));have mW:=(cY.trans (O5.of (L:=L) cr (O0 ea)));have F1:=(F3.trans (O5.of (L:=L) cr (O0 ea)));have B5:=hide (O4 cr th.out);have B8:=hide (O4 cr yX.out);have oV:=j0.lt;have wv:=p'.out.2.2.2.2.2
    have sR:=cell_lt B5.out;have sN:=cell_lt B8.out;have fj:=hide (fun X (ak:OD ed X)=>iZ X bQ (j0.later ak) ((ze.kp (Kp.of cr)).kp (Kp.of ak)) (nD.later ak));rw[<-kI.out,<-p7.out] at fj
    rcases awY:F.s (Oy d 1) ⟨au,aG,st⟩ hC σ1 with ⟨⟨bH,bz,b3⟩,cy⟩
    rw[awY] at fj;have vk:=hide awY;clear awY cH bU cg eE dt du dv iT rl fh cp dG hp hq hr g9;go_wp2_with fail;refine VN (H:=fun wz vb ev=>SB w0 mb af O es L ed bH bz b3 cy wz vb ev) (G:=?GGT) (fun dJ=>?aBP) ?aHJ
    case aBP=>
     refine TI 8 fun ab=>?_;have z:=Oq (∀{G}(h:G:=by
     refine uk 4 B5.out ab ?_;refine up 5 cB 1 ab ?_;refine uk 6 B8.out ab ?_;refine uk4 7 p'.out ab ?_;refine uq2 8 12 (fun K A=>?_) fun K A=>?_
     ·have z:=Oq (∀{G}(h:G:=by
      refine uz 9 (.tuple #[(UY bH),ev]) ?_;refine uz 10 (UY bH) ?_;have bN:=Oq (∀{G}(h:G:=by
      have z:=Oq (∀{G}(h:G:=by
      have ci:=SB.late (o:=bH) aD aJ ((O5.of ab (O0 oV)).trans ah) g3;exact axT),G);exact ai3),G);exact ztk),G);exact ao9
     ·have bN:=Oq (∀{G}(h:G:=by
      refine cm (Om fj _ (PO.drew)) ?_;rintro e aE ⟨⟨ev,rfl,aD⟩,aJ,ah,g3⟩;refine ko A ?_;clear A K;have fp:aE.heap[ed.heap.size]? = some (O1 #[OC false,Ol 0,Ol 0,PN] 67):=ah.Rt (nD.later (PO.drew)) (OA _ _) Oz Oz;obtain⟨z0,mJ,z2,z3,mK,mL,mM,s9,zl⟩:=Qx (fp);refine uz 9 (.tuple #[(UY bH),ev]) ?_;refine uz 10 (UY bH) ?_;refine uz 11 ev ?_;have z:=Oq (∀{G}(h:G:=by
      have ci:=SB.early (o:=bH) fp O6 (O0 oV) aD aJ ((O5.of (PO.drew) (O0 oV)).trans ah) g3
      generalize (((aE.setCell (Ot ed.heap.size 0) (OC bH.ret)).setCell (Ot ed.heap.size 1) (Ol bH.v.k)).setCell (Ot ed.heap.size 2) (Ol bH.v.n)).setCell (Ot ed.heap.size 3) (OB bH.v.s)=wz at ci ⊢
      generalize ed.heap.size=vb at ci ⊢
      exact dJ wz vb ev ci),G);exact ai3),G);exact zts),G);exact Ws
    rintro wt ob oI cJ;have gg:=hide (cJ.fr.Rt nD kL.out Oz Oz);have ij:=(mW.trans cJ.fr);have F2:=(F1.trans cJ.fr);have nE:=cJ.ms;have jp:=cJ.er;have bS:=cJ.la;have A4:=cJ.ms.lt;have wm:ob≠aU:=fun e=>by
     have h1:=cJ.ob;have U:=lt_of_heap kL.out;omega
    obtain⟨iB,⟨ey,dL,eK⟩⟩:=bH;obtain⟨cH,bU,cg,eE,dt,du,dv,iT,rl⟩:=Qx gg.out;obtain⟨hs,ht,hu,pX,ig,ih,ii,pY,hv⟩:=Qx (cJ.o)
    cases iB with
    | true=>
     by_cases ga:bz=.no
     ·subst ga;have bv:oI=Qp:=cJ.er;subst bv;have aK:rs=((⟨true,⟨ey,dL,eK⟩⟩,.no,b3),cy):=by rw[je.out,Y5,de.out];simp only[l5.out,if_true];rw[vk.out];rfl
      have cI:=hide aK;clear aK;have z:=Oq (∀{G}(h:G:=by
      refine Vm (v:=.tuple #[UY ⟨true,⟨ey,dL,eK⟩⟩,Qp]) ?_;exact ato),G);exact asH
     ·obtain⟨et,ex,bv⟩:=cJ.er.WT ga ac;subst bv;have aK:rs=((⟨true,⟨ey,dL,eK⟩⟩,bz,b3),cy):=by
       rw[je.out,Y5,de.out];simp only[l5.out,if_true];rw[vk.out];exact awF
      have cI:=hide aK;clear aK ga;have z:=Oq (∀{G}(h:G:=by
      refine Vm (v:=.tuple #[UY ⟨true,⟨ey,dL,eK⟩⟩,.iface et ex]) ?_;exact ato),G);exact asH
    | false=>
     by_cases ga:bz=.no
     ·subst ga;have bv:oI=Qp:=cJ.er;subst bv;have aK:rs=Y5 F d ⟨au,aG,st⟩ k b3 cy:=by rw[je.out,Y5,de.out];simp only[l5.out,if_true];rw[vk.out];rfl
      have cI:=hide aK;clear aK;go_wp2
      go_roundg k
      case measure=>omega
      case rel=>exact⟨b3,cy,nE,Om lH _ b3 cy vk.out,F2,bS,cI.out⟩
     ·obtain⟨et,ex,bv⟩:=cJ.er.WT ga ac;subst bv;have aK:rs=((⟨false,⟨ey,dL,eK⟩⟩,bz,b3),cy):=by
       rw[je.out,Y5,de.out];simp only[l5.out,if_true];rw[vk.out];exact awF
      have z:=Oq (∀{G}(h:G:=by
      refine Vm (v:=.tuple #[UY ⟨false,⟨ey,dL,eK⟩⟩,.iface et ex]) ?_;exact ato),G);exact aBR
   | false=>
    rw[e5] at eM;have aK:rs=((QW,.no,hC),σ1):=by rw[je.out,Y5,de.out];simp[e5]
    have cI:=hide aK;clear e5 aK;go_wp2_with fail;refine cm eM ?_;rintro e ed ⟨rfl,cr⟩;have j0:=(jr.later cr);have nD:=(f6.later cr);have kL:=hide (stays cr dV.out);have mW:=(cY.trans (O5.of (L:=L) cr (O0 ea)));obtain⟨hs,ht,hu,pX,ig,ih,ii,pY,hv⟩:=Qx kL.out;clear cH bU cg eE dt du dv iT rl;have z:=Oq (∀{G}(h:G:=by
    exact⟨⟨_,rfl,rfl⟩,bC,bF,nD.Uc bi⟩),G);exact aBJ
  ·obtain⟨et,ex,bv⟩:=aV.er.WT aq ac;subst bv;have aK:rs=((QW,ay,hC),σ1):=by
    rw[je.out,Y5,de.out];exact axR
   have cI:=hide aK;clear aK aq;go_wp2_with fail;obtain⟨b1,bx,bi,bF,bC,cG,b4,bT,eg⟩:=rt4 dV.out cR.out bG cY jr (OC false) (Ol 0) (Ol 0) (PN);rw[<-bx];refine agX (v:=.tuple #[UY QW,.iface et ex]) ?_;rw[cI.out];exact⟨⟨_,rfl,tn.Qw bi Oz⟩,bC,bF,f6.Uc bi⟩),G);exact Vd),G);exact zsd),G);exact XH),G);exact zsc),G);exact zsn
def awW (ac:Zp es)(aJ:Ms w0 mb af O w σ){a:Ad}{d:Nd}(hd:OY O w a d)(E:d.2.kids.length=2)(p:Pl){l:Option Va}(hl:OV w L l)(h1:Ub w0 mb af O es σ (Oy d 0) p (F.v (Oy d 0) p σ))
  (U:∀ o σ1,UW F (Oy d 0) p σ=((o,.no),σ1)->XG w0 mb af O es (σ1.opn p.scope o (-2)) (Oy d 1) { p with scope:=σ1.top } L l (F.s (Oy d 1) { p with scope:=σ1.top } l (σ1.opn p.scope o (-2)))/\Sz N σ1/\(σ1.M.ro p.scope).isSome=true) (hN:N<1000000000) :
  OE 113 #[Oo mb,Oo a.p,PU p (LA L)] w (P8 w0 mb af O es L w (wiQ F d p l σ)):=by
 have z:=Oq (∀{G}(h:G:=by
 have z:=Oq (∀{G}(h:G:=by
 have z:=Oq (∀{G}(h:G:=by
 have z:=Oq (∀{G}(h:G:=by
 have b8:=hide be;have ei:=hide (cells4 be);have z:=Oq (∀{G}(h:G:=by
 obtain⟨ce,bQ,cB,cap0,c3,dC,fW,fV,jh⟩:=cU.adX E;obtain⟨q,bm⟩:=xH a.p;obtain⟨kp,dc⟩:=xE ce.p;obtain⟨wY,p7⟩:=xH bQ.p;have z:=Oq (∀{G}(h:G:=by
 obtain⟨rs,bB⟩:=xH (wiQ F d ⟨au,aG,st⟩ l σ);rw[<-bB.out,<-bm.out];have hblk:=cU.blk;have hblk2:=cU.akt c3;rw[<-bm.out] at c3 dz hblk;rw[<-dc] at dC bJ;rw[<-p7.out] at fW
 rcases aa:UW F (Oy d 0) ⟨au,aG,st⟩ σ with ⟨⟨bH,ay⟩,σ1⟩
 rw[aa] at bJ;have eF:=hide c3;have lG:=hide dC;have od:=hide fW;have iH:=hide hblk;have qR:=hide hblk2;have dI:=cell_lt dC;have bW:=hide aa;have gY:=hide U;have eL:=(hl.later aF);have sd:=hide dx;have tu:=hide d0;clear be hr2 aa h1 dx cL d0 c3 dC fW dc U hblk hblk2;go_enter func113,ntmps113;have z:=Oq (∀{G}(h:G:=by
 have z:=Oq (∀{G}(h:G:=by
 have z:=Oq (∀{G}(h:G:=by
 have eR:=hide (mu.keep b8.out Oz);have cY:=(cu.trans mu);have f6:=(eL.keep mu);have th:=hide (mu.UD.Ui eF.out iH.out (Or.inl rfl));have yX:=hide (mu.UD.Ui od.out qR.out (Or.inr rfl));have xu:Hid (∃ c,wz.heap[q]? = some (O1 c 40)):=by obtain⟨c,aj⟩:=Om iH;exact⟨c,mu.UD _ _ _ aj (Or.inl rfl)⟩
 have xn:Hid (∃ c,wz.heap[cB]? = some (O1 c 22)):=by obtain⟨c,aj⟩:=Om qR;exact⟨c,mu.UD _ _ _ aj (Or.inr rfl)⟩
 have ze:=(jh.kp mu.UD);have ea:=ha.lt;obtain⟨cH,bU,cg,eE,dt,du,dv,iT,rl⟩:=Qx dV.out
 by_cases aq:ay=.no
 ·subst aq;have bv:ev=Qp:=aD;subst bv;obtain⟨hsc2,b9,mD⟩:=Om gY bH σ1 bW.out;obtain⟨e6,lq⟩:=xE (σ1.top:Int);obtain⟨cy,ge⟩:=xE (σ1.opn au bH (-2));have ck:OE 50 #[Oo mb,Ol au,Ol bH,Ol (-2)] wz fun e w'=>e=OQ (Ol e6)/\Ms w0 mb af O w' cy/\O5 none mb wz w':=by
   obtain⟨_,_,_,_,ae⟩:=id ha;refine(Y6 ae b9 hN au bH (-2) mD).mono ?_;rintro e w' ⟨rfl,w3,fc,cS⟩;rw[lq,ge];exact⟨rfl,⟨_,_,_,_,fc⟩,cS.frL ae⟩
  have aK:rs=F.s (Oy d 1) ⟨e6,aG,st⟩ l cy:=by rw[bB.out];unfold wiQ;rw[bW.out,lq,ge]
  have e8:XG w0 mb af O es cy (Oy d 1) ⟨e6,aG,st⟩ L l rs:=by
   show XG _ _ _ _ _ _ _ _ _ _ _
   rw[aK,lq,ge];exact hsc2
  obtain⟨aZ,p1,cK,cX,_,d2⟩:=cells4 eR.out;clear mD lq ge aK cH bU cg eE dt du dv iT rl;go_simp;go_wp2_with fail;refine cm ck ?_;rintro e ap ⟨rfl,eA,f8⟩;have fM:=hide (f8.keep eR.out Oz);have dp:=hide (f8.keep dV.out Oz);have u':=(f6.keep f8);have cQ:=(cY.trans f8);have qO:=hide (f8.UD.Ui th.out xu.out (Or.inl rfl));have tk:=hide (f8.UD.Ui yX.out xn.out (Or.inr rfl));have ty:Hid (∃ c,ap.heap[q]? = some (O1 c 40)):=by obtain⟨c,aj⟩:=Om xu;exact⟨c,f8.UD _ _ _ aj (Or.inl rfl)⟩
  have xm:Hid (∃ c,ap.heap[cB]? = some (O1 c 22)):=by obtain⟨c,aj⟩:=Om xn;exact⟨c,f8.UD _ _ _ aj (Or.inr rfl)⟩
  have Gg:=(ze.kp f8.UD);clear aZ p1 cK cX d2;obtain⟨aZ,p1,cK,cX,gV,d2⟩:=cells4 fM.out;have pd:=gV 0;clear gV;go_wp2_with fail;have bN:=Oq (∀{G}(h:G:=by
  have nf:Kp ap (ap.setCell (Ot bf 0) (Ol e6)):=fun b c e D aq=>lm.rest b c e D (by rcases aq with rfl|rfl <;> decide);have jZ:=(eA.YC lm Oz);have vi:=hide (cells4 (YE fM.out (Ol e6)));have gw:Hid (bA.heap[aU]? = some (O1 #[OC false,Ol 0,Ol 0,PN] 67)):=asi
  have fF:=(cQ.newT lm (ZM sd.out _));have tp:=(u'.Uc lm);have yV:=hide (nf.Ui qO.out ty.out (Or.inl rfl));have yW:=hide (nf.Ui tk.out xm.out (Or.inr rfl));have Cp:=(Gg.kp nf);rw[<-fJ] at jZ vi fF tp yV yW Cp ⊢;have fj:=hide (fun X (ak:OD bA X)=>e8 X bQ (jZ.later ak) (Cp.kp (Kp.of ak)) (tp.later ak));rw[<-kI.out,<-p7.out] at fj;have gp:=jZ.lt;have lk:=vi.out.2.2.2.2.2;have um:=cell_lt yV.out;have na:=cell_lt yW.out;clear fJ aZ p1 cK cX d2 pd;refine TI 8 fun ab=>?_
  have z:=Oq (∀{G}(h:G:=by
  refine uk 4 yV.out ab ?_;refine up 5 cB 1 ab ?_;refine uk 6 yW.out ab ?_;refine uk4 7 vi.out ab ?_;refine P5 8 fun K A=>?_;have z:=Oq (∀{G}(h:G:=by
  have jL:=(O5.of (L:=L) ab (O0 gp)).trans ah;have dF:=hide (jL.Rt tp gw.out Oz Oz);have fl:=(fF.up.trans jL);exact awU),G);exact ao9),G);exact Ws),G);exact aBO
 ·obtain⟨et,ex,bv⟩:=aD.WT aq ac;subst bv;have aK:rs=((QW,ay,l),σ1):=by
   rw[bB.out];unfold wiQ;rw[bW.out];exact axR
  have bM:=hide aK;clear aq aK;go_simp;go_wp2_with fail;obtain⟨b1,bx,bi,bF,bC,cG,b4,bT,eg⟩:=rt4 dV.out cR.out bG cY ha (OC false) (Ol 0) (Ol 0) (PN);rw[<-bx];refine agX (v:=.tuple #[UY QW,.iface et ex]) ?_;rw[bM.out];exact⟨⟨_,rfl,tn.Qw bi Oz⟩,bC,bF.up,f6.Uc bi⟩),G);exact awy),G);exact Ws),G);exact asr),G);exact awz),G);exact Vd),G);exact zsd),G);exact XH),G);exact zsc),G);exact zsn
