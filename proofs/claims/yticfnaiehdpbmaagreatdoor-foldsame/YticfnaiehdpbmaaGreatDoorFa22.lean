import Derived.Test.YticfnaiehdpbmaaGreatDoorFa19
import Derived.Test.YticfnaiehdpbmaaGreatDoorFa18
set_option maxRecDepth 100000
set_option maxHeartbeats 0
set_option linter.all false
namespace Go.Proofs.YticfnaiehdpbmaaGreatDoor
open Go.RowKit Go.Proofs.Tryz
namespace Hp
abbrev Xo (a:Oc):Px:=.agg #[Pv a.ret,O3 a.v.k,O3 a.v.n,Pj a.v.s]
def QG (l:Pe)(e g:Nat)(f:List Nat)(j:Px)(c:Option Nat)(k:Pe)(b:(Oc × Er × Option Va) × St)(i:Ending)(a:Pe):Prop:=
 (∃ d,i=PK (.tuple #[Xo b.1.1,d])/\X8 j a d b.1.2.1)/\Ms l e g f a b.2/\P8 c e k a/\PU a c b.1.2.2
def Yz (g:Pe)(d f:Nat)(c:List Nat)(j:Px)(n:St)(i:Nd)(l:Pl)(b:Option Nat)(k:Option Va)(m:(Oc × Er × Option Va) × St):Prop:=
 ∀ (a:Pe) (e:Ad),Ms g d f c a n->PX c a e i->PU a b k->Pq 53 #[O5 d,O5 e.p,Qy l (LA b)] a (QG g d f c j b a m)
def mY (d:Fx)(b:Nd)(e:Pl)(c:Option Va)(g:St):(Oc × Er × Option Va) × St:=match d.v (Pg b 0) e g with
 | ((f,.no),a)=>if f.iU then d.s (Pg b 1) e c a else if 2<b.2.fJ.length then d.s (Pg b 2) e c a else ((RS,.no,c),a)
 | ((_,f),a)=>((RS,f,c),a)
def pJ (c:Fx)(d:Nd)(b:Pl)(e:Option Va)(g:St):(Oc × Er × Option Va) × St:=match UJ c (Pg d 0) b g with
 | ((f,.no),a)=>c.s (Pg d 1) { b with scope:=a.gg } e (a.gq b.scope f (-2))
 | ((_,f),a)=>((RS,f,e),a)
section
variable {M:Pe} {k I:Nat} {z:List Nat} {es de dd da ci:Px} {w w':Pe} {g:St} {c8:Nat} {U:Fx} {au:Option Nat}
section
variable {e:Option Va} (h:P8 au k w w') (b:PU w au e)
include e h b
def P8.TL {c:Nat}{d:Array Px}{a:TypeId}(f:w.heap[c]? = some (PZ d a))(l:a ∉ Tm)(j:a≠65):w'.heap[c]? = some (PZ d a):=by
 refine h.rest c d a f l (λi=>?_)
 cases au with
 | none=>cases i
 | some m=>
  cases i
  cases e with
  | none=>exact b
  | some n=>exact RG f b j rfl
def P8.vp:Kp w w':=λd f i c a=>h.TL b c (by rcases a with rfl|rfl <;> decide) (by rcases a with rfl|rfl <;> decide)
end
def PU.Uy {d:Option Va}{eS:List TypeId}(h:PU w au d)(b8:Ql eS k w w')(eW:65 ∉ eS:=by decide):PU w' au d:=by
 cases au <;> cases d <;> first|exact h|exact b8.rest _ _ _ h eW
def PU.fH {a:Option Va}(h:PU w au a)(b:Pn w w'):PU w' au a:=by
 cases au <;> cases a <;> first|exact h|exact fQ b h
section
variable (ay:ig es) (ah:Ms M k I z w g) {u:Ad} {C:Nd} (aJ:PX z w u C)
include ay ah u C aJ
def asu (ai:C.2.fJ.length=2)(p:Pl){d:Option Va}(ba:PU w au d)(ad:Ux M k I z es g (Pg C 0) p (U.v (Pg C 0) p g))(ak:∀ f T,U.v (Pg C 0) p g=((f,.no),T)->Yz M k I z es T (Pg C 1) p au d (U.s (Pg C 1) p d T)) :
  Pq 111 #[O5 k,O5 u.p,Qy p (LA au)] w (QG M k I z es au w (mY U C p d g)):=by
 have b{G}(h:G:=by
 have b{G}(h:G:=by
 have b{G}(h:G:=by
 have b{G}(h:G:=by
 have cO:=Y F;have bB:=Y (fN F);have b{G}(h:G:=by
 have b{G}(h:G:=by
 have b{G}(h:G:=by
 obtain⟨aK,am⟩:=xH (mY U C ⟨l,q,r⟩ d g);rw[<-am.out,<-a1.out];have b{G}(h:G:=by
 have b{G}(h:G:=by
 refine WJ (H:=λwz D s=>VB M k I z es w2 f E T wz D s) (G:=?GG) (λaN=>?ways) ?rest
 case ways=>
  exact nU
 case rest=>
  rintro wz D s A;have cx:=A.fr.fR bQ.out Pm;have dj:=Y cx;obtain⟨cL,cG,cM,cT,cQ,cR,cS,cU,cV⟩:=RN (cx);have b{G}(h:G:=by
  have dn:=aZ.kp A.fr.Vo;have dk:=dm.fR A.fr
  by_cases B:E=.no
  ·subst B;have cn:s=QW:=A.er;subst cn;have dg:=X6 f wz
   cases cB:f.iU with
   | true=>
    have b{G}(h:G:=by
    have b{G}(h:G:=by
    have bc:=Y (λL (i:Pn c9 L)=>(O4 dc f T be.out) L bF (b7.fH i) (cz.kp (Kp.of i)) (ch.fH i));have b{G}(h:G:=by
    refine up 5 cy 1 a ?_;have b{G}(h:G:=by
    have b{G}(h:G:=by
    have dl:=(P8.of (L:=au) a (P6 dr)).trans ax;have bR:=Y (dl.TL ch b9.out Pm Pm);have cp:=ck.up.trans dl;exact wi):=O6 h;exact mI):=O6 h;exact w5):=O6 h;exact Cn):=O6 h;exact Al):=O6 h;exact sO
   | false=>
    have b{G}(h:G:=by
    obtain⟨bF,cy,ds,aD,aC,cz,_⟩:=cu.Zf (a:=1) O9;have dp:=cu.cells.1;rw[cf,<-a1.out] at aD;rw[<-a1.out] at dp;have ac:aK=((RS,.no,d),T):=by rw[am.out];unfold mY;rw[be.out];simp[di.out,dh.out]
    have bv:=Y ac;obtain⟨bL,bM,bR,dq,cl,cp,cC,dl,bc⟩:=RN b9.out;clear cL cG cM cT cQ cR cS cU cV bI bG bT bY bU bV bW aC cf ac;have b{G}(h:G:=by
    exact⟨⟨_,rfl,rfl⟩,bC,bD.up,ch.Uy aQ⟩):=O6 h;exact Cw):=O6 h;exact sO
  ·exact CU):=O6 h;exact r3):=O6 h;exact DB):=O6 h;exact p1):=O6 h;exact pA):=O6 h;exact nw):=O6 h;exact VF):=O6 h;exact jY):=O6 h;exact YA):=O6 h;exact jq):=O6 h;exact jT
def asv (ai:C.2.fJ.length=3)(p:Pl){d:Option Va}(ba:PU w au d)(ad:Ux M k I z es g (Pg C 0) p (U.v (Pg C 0) p g))(ak:∀ f T,U.v (Pg C 0) p g=((f,.no),T)->Yz M k I z es T (Pg C 1) p au d (U.s (Pg C 1) p d T)/\Yz M k I z es T (Pg C 2) p au d (U.s (Pg C 2) p d T)) :
  Pq 111 #[O5 k,O5 u.p,Qy p (LA au)] w (QG M k I z es au w (mY U C p d g)):=by
 have b{G}(h:G:=by
 have b{G}(h:G:=by
 have b{G}(h:G:=by
 have b{G}(h:G:=by
 have cO:=Y F;have bB:=Y (fN F);have b{G}(h:G:=by
 have b{G}(h:G:=by
 have b{G}(h:G:=by
 obtain⟨aK,am⟩:=xH (mY U C ⟨l,q,r⟩ d g);rw[<-am.out,<-a1.out];have b{G}(h:G:=by
 have b{G}(h:G:=by
 refine WJ (H:=λwz D s=>VB M k I z es w2 f E T wz D s) (G:=?GG) (λaN=>?ways) ?rest
 case ways=>
  exact nU
 case rest=>
  rintro wz D s A;have cx:=A.fr.fR bQ.out Pm;have dj:=Y cx;obtain⟨cL,cG,cM,cT,cQ,cR,cS,cU,cV⟩:=RN (cx);have b{G}(h:G:=by
  have dn:=aZ.kp A.fr.Vo;have dk:=dm.fR A.fr
  by_cases B:E=.no
  ·subst B;have cn:s=QW:=A.er;subst cn;have dg:=X6 f wz
   cases cB:f.iU with
   | true=>
    have b{G}(h:G:=by
    have b{G}(h:G:=by
    have bc:=Y (λL (i:Pn c9 L)=>(O4 dc f T be.out).1 L bF (b7.fH i) (cz.kp (Kp.of i)) (ch.fH i));have b{G}(h:G:=by
    refine up 5 cy 1 a ?_;exact Bq):=O6 h;exact Cn):=O6 h;exact Al):=O6 h;exact sO
   | false=>
    have b{G}(h:G:=by
    obtain⟨bF,cy,ds,aD,aC,cz,_⟩:=cu.Zf (a:=2) O9;rw[cf,<-a1.out] at aD;obtain⟨dH,cC⟩:=xE bF.p;have bc:=Y (λL (i:Pn c9 L)=>(O4 dc f T be.out).2 L bF (b7.fH i) (cz.kp (Kp.of i)) (ch.fH i));have bK{G}(h:G:=by
    have ac:aK=U.s (Pg C 2) ⟨l,q,r⟩ d T:=by rw[am.out];unfold mY;rw[be.out];simp[di.out,dh.out]
    have bv:=Y ac;rw[<-ac] at bc;clear cL cG cM cT cQ cR cS cU cV bI bG bT bY bU bV bW aC cC cf ac;go_wp2_with fail;clear aD;refine UC 8 λa=>?_;refine kI ?_;refine uk 4 dq.out a ?_;refine up 5 cy 2 a ?_;exact Bq):=O6 h;exact Lf):=O6 h;exact sO
  ·exact CU):=O6 h;exact r3):=O6 h;exact DB):=O6 h;exact p1):=O6 h;exact pA):=O6 h;exact nw):=O6 h;exact VF):=O6 h;exact jY):=O6 h;exact YA):=O6 h;exact jq):=O6 h;exact jT
end
abbrev GL (a:Oc):Obj:=PZ #[Pv a.ret,O3 a.v.k,O3 a.v.n,Pj a.v.s] 67
variable {w2:Pe}
structure SB (w0:Pe)(mb af:Nat)(ab:List Nat)(es:Px)(L:Option Nat)(w2:Pe)(o:Oc)(e:Er)(l:Option Va)(σ:St)(wz:Pe)(ob:Nat)(ev:Px):Prop where
 o:wz.heap[ob]? = some (GL o)
 ob:w2.heap.size<=ob
 er:X8 es wz ev e
 ms:Ms w0 mb af ab wz σ
 fr:P8 L mb w2 wz
 la:PU wz L l
def SB.late {a:Pe}{ev:Px}{o:Oc}{e:Er}{f:Option Va}(i:X8 es a ev e)(c:Ms M k I z a g)(d:P8 au k w2 a)(j:PU a au f):SB M k I z es au w2 o e f g (a.alloc (.cells #[Pv o.ret,O3 o.v.k,O3 o.v.n,Pj o.v.s] 67)) a.heap.size ev:=by
 have b:Pn a (a.alloc (.cells #[Pv o.ret,O3 o.v.k,O3 o.v.n,Pj o.v.s] 67)):=QJ;exact⟨Ph _ _,d.below.size,i.fH b,c.fH b,d.trans (P8.of b (P6 c.lt)),j.fH b⟩
def SB.early {b:Pe}{ev x y n q:Px}{o:Oc}{e:Er}{d:Option Va}{a:Nat}(f:b.heap[a]? = some (PZ #[x,y,n,q] 67))(c:w2.heap.size<=a)(i:k<=w2.heap.size)(l:X8 es b ev e)(j:Ms M k I z b g)(m:P8 au k w2 b)(p:PU b au d) :
  SB M k I z es au w2 o e d g ((((b.setCell (O7 a 0) (Pv o.ret)).setCell (O7 a 1) (O3 o.v.k)).setCell (O7 a 2) (O3 o.v.n)).setCell (O7 a 3) (Pj o.v.s)) a ev:=by
 have b8:=UY f (f9 i c) (Pv o.ret) (O3 o.v.k) (O3 o.v.n) (Pj o.v.s);exact⟨lR f _ _ _ _,c,l.Rf b8 Pm,j.ie b8 Pm,m.hX b8 (Ws c _ _ _ _),p.Uy b8⟩
section
variable {c:Pl} {e:Nd} {i:List Nd} {f d:Option Va} {b:Oc}
include c e i f d b
def awO {a:St}(h:U.s e c f g=((b,.no,d),a))(j:b.ret=false):SG U c (e::i) f g=SG U c i d a:=by rw[SG,h];simp[j]
def asx {a:St}(h:U.s e c f g=((b,.no,d),a))(j:b.ret=true):SG U c (e::i) f g=((b,.no,d),a):=by rw[SG,h];simp[j]
def LT {a:Er}{l:St}(h:U.s e c f g=((b,a,d),l))(j:a≠.no):SG U c (e::i) f g=((b,a,d),l):=by
 rw[SG,h];exact wu
end
def GN (bq:ig es)(ah:Ms M k I z w g){cr:Px}{e:List Ad}{f:List Nd}(X:TY 0 w cr e)(bG:UW z w e f)(c9:f.length<=1000000)(p:Pl){d:Option Va}(cG:PU w au d)
  (P:St->Option Va->Prop) (hP:P g d) (bx:∀ a ∈ f,∀ g d,P g d->Yz M k I z es g a p au d (U.s a p d g)/\∀ aL s t,U.s a p d g=((aL,.no,s),t)->P t s) :
  Pq 28 #[O5 k,cr,Qy p (LA au)] w (QG M k I z es au w (SG U p f d g)):=by
 have b{G}(h:G:=by
 have b{G}(h:G:=by
 have b{G}(h:G:=by
 have b{G}(h:G:=by
 have bD:=UW.len _ _ bG;obtain⟨ay,bF⟩:=xH (SG U ⟨l,q,r⟩ f d g);rw[<-bF.out];have bC:=ah.fH ap;have b4:=P8.of (L:=au) ap (P6 aS);have cA:=Y F;have cp:=Y aW;have aK:=cG.fH ap;have aY:=Y bO;have cg:=X.fH ap;have cO:=UW.kp (Kp.of ap) _ _ bG;have cP:=Y hP;have cl:=Y bx;obtain⟨ua,cW,ch⟩:=X.form;subst ch;have cD:=bC.lt;have bN:=Y bD;have cT:e.length<=1000000:=O9;clear F aW hP bx cy bO bS bD;go_enter func28,ntmps28;go_wp2_with fail
 refine iz ?_;clear bu bh
 go_loopw [14] (λn wr=>∃ (j:Nat) (E:Option Va) (D:St),j<=e.length/\n=O3 j/\Ms M k I z wr D/\P D E/\P8 au k w2 wr/\PU wr au E/\ay=SG U ⟨l,q,r⟩ (f.drop j) E D) (λn _=>e.length - (intOf n).toNat)
 case atStart=>exact⟨0,d,g,f3 _,rfl,bC,cP.out,P8.of RP (P6 cD),aK,bF.out⟩
 case round=>
  obtain⟨j,E,D,cS,rfl,ah,bM,ax,ba,bK⟩:=hrel;have cM:=Y bM;have ak:=Y bK;have cZ:=ah.lt;have bB:=ax.vp aK;have a7:=Y (ax.TL aK cp.out Pm Pm);have aZ:=ax.TL aK cA.out Pm Pm;clear bM bK
  by_cases a1:j<e.length
  ·have bi:j<f.length:=by rw[<-bN.out];exact a1
   obtain⟨cY,cV,B,c7,br,cU⟩:=(cg.kp bB).cell j a1;have b{G}(h:G:=by
   have cE:(j:Int)<(e.length:Int):=O9;obtain⟨cB,bL⟩:=O4 cl f[j] (gT _) D E cM.out;have aI:=cB wr e[j] ah ((UW.get _ _ cO j a1 bi).kp bB) ba;rw[<-b1.out] at aI;obtain⟨db,bv⟩:=xE ((e[j]).p);rw[<-bv] at br aI
   rcases a8:U.s f[j] ⟨l,q,r⟩ E D with ⟨⟨cn,aG,s⟩,t⟩
   rw[a8] at aI;have cL:=Y bL;have aj:=Y a8;have aN:=Y (iD bi);obtain⟨ck,cQ,cu,cz,_,cC⟩:=fN aZ;clear bL bv a8 aZ;go_wp2_with fail;refine cm aI ?_;rintro m T ⟨⟨bE,rfl,aF⟩,be,bI,b7⟩;have b6:=ax.trans bI;have ac:=Y (bI.TL ba a7.out Pm Pm);have cH:=be.lt;clear ck cQ cu cz cC br;obtain⟨cK,⟨am,aC,aD⟩⟩:=cn
   cases cK with
   | true=>
    by_cases i:aG=.no
    ·subst i;have A:bE=QW:=aF;subst A;have a:ay=((⟨true,⟨am,aC,aD⟩⟩,.no,s),t):=by rw[ak.out,aN.out];exact asx aj.out rfl
     have C:=Y a;clear a;have b{G}(h:G:=by
     refine Xp (v:=.tuple #[Xo ⟨true,⟨am,aC,aD⟩⟩,QW]) ?_;rw[C.out];exact⟨⟨_,rfl,aO⟩,ad,ai,aQ⟩):=O6 h;exact HC
    ·obtain⟨bU,bV,A⟩:=aF.XO i bq;subst A;have a:ay=((⟨true,⟨am,aC,aD⟩⟩,aG,s),t):=by rw[ak.out,aN.out];exact LT aj.out i
     have C:=Y a;clear a i;have b{G}(h:G:=by
     refine xS ?_;rw[C.out];exact⟨⟨_,rfl,aO⟩,ad,ai,aQ⟩):=O6 h;exact HC
   | false=>
    by_cases i:aG=.no
    ·subst i;have A:bE=QW:=aF;subst A;go_wp2_with fail;have c:=(f2 T.heap.size T).alloc Qp (.cells #[Pv false,O3 am,O3 aC,Pj aD] 67);have cJ:=be.fH c;have cw:=b6.trans (P8.of (L:=au) c (P6 cH));have cR:=b7.fH c
     go_roundw
     case rel=>
      refine⟨j+1,s,t,by omega,by go_num,cJ,O4 cL _ s t aj.out,cw,cR,?_⟩;rw[ak.out,aN.out];exact awO aj.out rfl
     case measure=>simp[intOf];omega
    ·obtain⟨bU,bV,A⟩:=aF.XO i bq;subst A;have a:ay=((⟨false,⟨am,aC,aD⟩⟩,aG,s),t):=by rw[ak.out,aN.out];exact LT aj.out i
     have C:=Y a;clear a i;obtain⟨bR,bQ,bT,b0,bW,bY,bZ,b2,b3⟩:=RN ac.out;go_wp2_with fail;obtain⟨a6,aV⟩:=xE (((((T.setCell (O7 H 0) (Pv false)).setCell (O7 H 1) (O3 am)).setCell (O7 H 2) (O3 aC)).setCell (O7 H 3) (Pj aD)).alloc (.cells #[Pv false,O3 am,O3 aC,Pj aD] 67));rw[<-aV];have bc:k<=H:=by have:=O4 aY;omega
     have O:=UY ac.out bc (Pv false) (O3 am) (O3 aC) (Pj aD);have c:=(f2 _ ((((T.setCell (O7 H 0) (Pv false)).setCell (O7 H 1) (O3 am)).setCell (O7 H 2) (O3 aC)).setCell (O7 H 3) (Pj aD))).alloc Qp (.cells #[Pv false,O3 am,O3 aC,Pj aD] 67);have bf:=fQ c (lR ac.out (Pv false) (O3 am) (O3 aC) (Pj aD));have cf{G}(h:G:=by
     refine xi ?_;rw[C.out];exact⟨⟨_,rfl,aO⟩,ad,ai,aQ⟩):=O6 h;exact Ef):=O6 h;exact UM
  ·have c:j=e.length:=O9;have a:ay=((RS,.no,E),D):=by rw[ak.out,c,bN.out,ll];rfl
   have C:=Y a;have cE:¬ (j:Int)<(e.length:Int):=O9;obtain⟨bR,bQ,bT,b0,bW,bY,bZ,b2,b3⟩:=RN a7.out;clear a c aZ;go_wp2_with fail;obtain⟨a6,aV,O,ai,ad,bn,bm,bj,bo⟩:=kH a7.out aY.out aS (b4.trans ax) ah (Pv false) (O3 0) (O3 0) (Qn);refine yM ?_;rw[C.out];exact⟨⟨_,rfl,rfl⟩,ad,ai,ba.Uy O⟩):=O6 h;exact pE):=O6 h;exact YA):=O6 h;exact jq):=O6 h;exact jT
def PX.ar {u:Ad}{b:Nd}(h:PX z w u b):∃ ua a,w.cell? (O7 u.p 3)=some (.slice ua b.2.fJ.length a)/\TY 0 w (.slice ua b.2.fJ.length a) u.ks:=by
 obtain⟨i,f,e,_⟩:=Tf.row h.at_;obtain⟨ua,a,d⟩:=e.form;rw[h.ks] at d;subst d;exact⟨ua,a,f,e⟩
section
variable (ah:Ms M k I z w g) {u:Ad} {b:Nd} (aJ:PX z w u b)
include ah u b aJ
def Of (i:b.2.fJ.length=0)(f:Pl)(a:Option Addr) :
  Pq 108 #[O5 k,O5 u.p,Qy f a] w (gX M k I z es w (.no,g)):=by
 have aS:=ah.lt;obtain⟨p,l,q⟩:=f;have ap:=(f2 w.heap.size w).alloc Qp (.cells #[O3 p,O3 l,Pv q,.pointer a] 73);have bK{G}(h:G:=by
 obtain⟨ua,r,e,_⟩:=aJ.ar;rw[i] at e;have o:=aJ.cells.1;obtain⟨s,d⟩:=xE u.p;rw[<-d] at e o ⊢;clear d;go_enter func108,ntmps108;go_wp2_with fail;exact Vm (v:=QW) ⟨⟨_,rfl,rfl⟩,bf,bE⟩):=O6 h;exact rZ
def CB (q:b.2.fJ.length<=1){m:Px}(c:TY 0 w m u.ks)(d:Pl)(i:Option Addr)(f:∀ e ∈ QB b,Ux M k I z es g e d (U.v e d g)) :
  Pq 114 #[O5 k,m,Qy d i] w (P5 M k I z es w (U8 U (QB b) d g)):=by
 have a:=aJ.lT;have j:=aJ.ks;have p:=RU b;obtain⟨o,l⟩:=xE u.ks;obtain⟨n,hv⟩:=xE (QB b);rw[<-l] at c a j;rw[<-hv] at a p f ⊢;clear l hv
 match o,n,c,a,f with
 | [],[],c,_,_=>exact alC ah c d i
 | [r],[e],c,a,f=>exact MV ah c a.1 d i (f e P7)
 | [],_::_,_,a,_=>exact a.elim
 | _::_,[],_,a,_=>exact a.elim
 | _::_::_,_,_,_,_=>simp at j;omega
 | [_],_::_::_,_,a,_=>exact a.2.elim
end
def T3 (ay:ig es)(ah:Ms M k I z w g){u:Ad}{p:Nd}(aJ:PX z w u p)(ai:p.2.fJ.length<=1)(A:Pl)(o:Option Addr)(ad:∀ a ∈ QB p,Ux M k I z es g a A (U.v a A g))(be:∀ f C,U8 U (QB p) A g=((f,.no),C)->Sz c8 C)(bG:c8<1000000000) :
  Pq 109 #[O5 k,O5 u.p,Qy A o] w (gX M k I z es w (k0 p A (U8 U (QB p) A g))):=by
 have aS:=ah.lt;have b{G}(h:G:=by
 have bB:w.heap.size<=W:=O9;have b{G}(h:G:=by
 have bx:=Y F;have bD:=Y (fN F);have b{G}(h:G:=by
 obtain⟨ua,bY,am,bm⟩:=aZ.ar;obtain⟨bz,a7⟩:=xE p.2.fJ.length;rw[<-a7] at am bm;obtain⟨aj,a6⟩:=xE u.p;have aF:=Y (λL (i:Pn w2 L)=>CB (bf.fH i) (aZ.kp (Kp.of i)) ai (bm.fH i) ⟨l,q,r⟩ o ad)
 rcases X:U8 U (QB p) ⟨l,q,r⟩ g with ⟨⟨f,E⟩,C⟩
 rw[X] at aF;obtain⟨T,bn⟩:=xH p.2.tx;obtain⟨aY,aK⟩:=xH (k0 p ⟨l,q,r⟩ ((f,E),C));rw[<-aK.out];have bu:=Y X;have bV:=Y be;have aQ:=aZ.cells.2.2.1;rw[<-bn.out] at aQ;have aW:=aZ.gw;rw[<-a6] at am b0 aQ aW ⊢;have bC:=Y am;have bR:=Y aQ;have bI:=Y aW;clear F X a6 ad bB be aQ aW am a7 ai;go_enter func109,ntmps109;go_wp2_with fail;rw[<-aV.out,<-aD];clear aD;refine WJ (H:=λwz D s=>VB M k I z es w2 f E C wz D s) (G:=?GG) (λaN=>?ways) ?rest
 case ways=>
  refine UC 6 λa=>?_;refine kI ?_;refine uk 4 bC.out a ?_;refine kT 5 bD.out a ?_;refine jS 6 10 (λK c=>?_) λK c=>?_
  ·go_simp;refine l9 ?_;have b{G}(h:G:=by
   refine tj ?_;refine uaZ 10 ?_;refine uaZ 11 ?_;refine uz 12 s ?_;exact Cp):=O6 h;exact kP
  ·go_simp;refine kG ?_;clear c K;refine Rl 6 λK c=>?_;go_simp;refine ov ?_;have b{G}(h:G:=by
   have b{G}(h:G:=by
   refine tj ?_;refine uaZ 11 ?_;refine uz 12 s ?_;exact JC):=O6 h;exact Ay):=O6 h;exact kP
 case rest=>
  have b{G}(h:G:=by
  have bh:=Y (d.fr.fR bx.out Pm)
  by_cases B:E=.no
  ·subst B;have ax:s=QW:=d.er;subst ax;have bq:=O4 bV f C bu.out;obtain⟨aC,aG⟩:=xE ((C.M.start l T f).1);obtain⟨bc,aI⟩:=xE ({ C with M:=(C.M.start l T f).2 }:St);have H:aY=(m4 aC,bc):=by rw[aK.out,aG,aI,bn.out];rfl
   have bv:=Y H;have bj:=Y (alr C.M l T f);rw[<-aG] at bj;have bL:Hid (∀ L,Pn wz L->Pq 198 #[O5 k,O3 l,Pj T,vA f] L λm w'=>m=PK (U4 aC)/\Ms M k I z w' bc/\Ql Th k L w'):=λL i=>by
    obtain⟨_,_,_,_,a1⟩:=d.ms.fH i;refine(Ys a1.hh bq.go.sm (P6 bG) l T f).mono ?_;rintro m w' ⟨rfl,ak,bZ⟩;rw[aG,aI];exact⟨rfl,⟨_,_,_,_,a1.heap ak bZ⟩,bZ⟩
   have bF:=Y (fX d.v);have bU:=Y (fN bh.out);have bo:=Y (d.fr.Vo.UG bR.out bI.out (fM rfl));have b1:=fV bo.out;have b3:=fI bh.out;have bW:=fI d.v;clear aG aI H;go_wp2_with fail;refine UC 10 λa=>?_;refine iy ?_;refine up 3 W 0 a ?_;refine uk 4 (bU.out.1) a ?_;refine uB ?_;refine uk 8 bo.out a ?_;refine jN 9 bF.out a ?_;refine Rl 10 λK c=>?_;go_simp;refine cm (O4 bL _ a) ?_;rintro m wf ⟨rfl,bT,bS⟩;refine ko c ?_;clear c K
   have bM:=ac.trans ((P8.of (L:=none) a (P6 br)).trans (P8.jR bS));refine uz 11 (U4 aC) ?_;refine TQ ?_ _;go_simp;go_wp2_with fail;refine Vm (v:=U4 aC) ?_;rw[bv.out];exact⟨⟨_,rfl,xC bj.out⟩,bT,bM⟩
  ·exact Af):=O6 h;exact tA):=O6 h;exact nu):=O6 h;exact oK):=O6 h;exact m9
variable {cr:Px}{bG:List Va}
def MX:WM 323:=λ_ _=>by kernel_rfl
def oI {a:Nat}{x:Px}{b:TypeId}(h:w.heap[a]? = some (PZ #[x] b)):w.cell? (O7 a 0)=some x:=by rw[cell_of h];rfl
def SL.box {l j:Px}{a:Nat}{b:Array Px}(h:SL k da ci l j w w')(d:Mx M k I z de dd da ci w g)(c:w.heap[a]? = some (PZ b 211))(f:ci.ownBlock≠some a):w'.heap[a]? = some (PZ b 211):=
 h.rest a b 211 c Pm (λi=>by
  obtain⟨m,e⟩:=QM d.ow i;exact RG c e Pm rfl) f
def asH (bU:Bs M k I z es)(cQ:Wj M)(bV:Mx M k I z de dd da ci w g)(bT:Sz c8 g)(ec:c8+10000<1000000000){d:Fu}{u:Ad}(aJ:PX z w u d.d)(ai:d.d.2.fJ.length=2)(aW:d.d.2.count<=1500)(a7:(Pg d.d 0).2.fJ.length<=8)(ak:∀ j ∈ Ul (Pg d.d 1),j.2.fJ.length=2)(bx:(g.M.ro d.scope).isSome=true)
  {b4 B cg:Nat} (bW:w.heap[b4]? = some (PZ #[O5 k] 62)) (bf:w.heap[B]? = some (PZ #[O5 u.p,O3 d.scope,Pv d.fT] 211)) (b1:ci.ownBlock≠some B) (cf:w.heap[cg]? = some (PZ #[cr] 311)) (X:UZ w cr bG) (ba:bG.length<=1500) {W:(Oc × Er × Option Va) × St}
  (C:∀ L a (E:Ad),Ms M k I z L (S9 d.d ⟨g.gg,g.gg,d.fT⟩ bG (g.gq d.scope (-1) (own d.d)))->TY 0 L a E.ks->UW z L E.ks (QB (Pg d.d 1))->Pq 28 #[O5 k,a,Qy ⟨g.gg,g.gg,d.fT⟩ none] L (QG M k I z es none L W)) :
  Pq 323 #[PL b4 0,PL B 0,PL cg 0] w (P5 M k I z es w ((W.1.1.v,W.1.2.1),W.2)):=by
 have a6:=bV.lt;obtain⟨aV,cR,fst⟩:=d;obtain⟨⟨A,di,dm⟩,dL⟩:=W
 dsimp only at aJ ai aW a7 ak bx bf C ⊢
 obtain⟨au,bY⟩:=xE (none:Option Nat);obtain⟨w2,aj⟩:=xE (w.alloc (.cells #[O3 0,O3 0,Qn] 65));have r:Pn w w2:=by rw[aj];exact QJ
 obtain⟨H,bh⟩:=xE w.heap.size;have cz:w2.heap[H]? = some (PZ #[O3 0,O3 0,Qn] 65):=by rw[aj,bh];exact Ph _ _
 have b3:w.heap.size<=H:=O9;obtain⟨cO,bF⟩:=xE (own aV);obtain⟨q,bE⟩:=xE (g.gg:Int);rw[<-bF,<-bE] at C;obtain⟨bO,aQ⟩:=xE (g.gq cR (-1) cO);rw[<-aQ] at C;obtain⟨dk,bu⟩:=xE (S9 aV ⟨q,q,fst⟩ bG bO);rw[<-bu] at C;have ap:=bV.fH r;have cL:=aJ.kp (Kp.of r);have dr:=Y cz;have b0:=r;have bB:=Y (fQ r bW);have aS:=Y (fQ r bf);have cJ:=Y (fQ r cf);have dG:=X.fH r;have dB:=SL.of (o:=da) (f:=ci) r (P6 a6)
 have bD:=Y (λL (i:Pn w2 L)=>ZA bU (ap.fH i) (cL.kp (Kp.of i)));have b7:=Y (λL (i:Pn w2 L)=>pi (ap.fH i) bT O9 cR (-1) cO bx);rw[<-bF] at bD;rw[<-bE,<-aQ] at b7;have dl:Sz (c8+1) bO:=by rw[aQ];exact bT.gq _ _ _
 have bI:=Y (λL b (i:Mx M k I z de dd b ci L bO) (ac:PX z L u aV) (t:UZ L cr bG)=>aBp bU cQ i dl O9 ac ai aW a7 ak ⟨q,q,fst⟩ none t ba);rw[<-bu] at bI;obtain⟨cP,aY⟩:=xE u.p;rw[<-aY] at bD bI aS;have dp:=Y aY;have dh:=Y C;have b9:=Y ai;have bL:=Y bY;have cS:=Y b1;have dq:=Y aj;have dt:=Y b3;have dC:=ap.lt;have d8:=fI bB.out;have d9:=fI aS.out;have dR:=fI cJ.out;have am:=Y (oI bB.out);have aK:=Y (fX aS.out)
 clear ai aW a7 ak bx bW bf b1 cf C bY aj cz b3 bF bE aQ bu aY cQ;go_enter func323,ntmps323;go_wp2_with fail;rw[<-dq.out,<-bh];clear bh;refine UC 7 λa=>?_;refine uk 0 am.out a ?_;refine up 1 B 1 a ?_;refine uk 2 (aK.out.2.1) a ?_;refine uk 3 am.out a ?_;refine up 4 B 0 a ?_;refine uk 5 (aK.out.1) a ?_;refine Rl 6 λK c=>?_;go_simp;refine cm (O4 bD _ a) ?_;rintro m en ⟨rfl,dH⟩;subst dH;refine c.out _ _ (λ_=>a) ?_;clear c K;refine Rl 7 λK c=>?_;go_simp;refine cm (O4 b7 _ a) ?_
 rintro m aZ ⟨rfl,dg,ch,bc⟩;refine ko c ?_;clear c K;have ck:=ap.fH a;have l:=bc.jn (o:=none) ck;have dF:=ch;have dy:=(dB.trans (SL.of a (P6 dC))).trans bc;have bK:=Y (l.fR (fQ a bB.out) Pm);have cT:=Y (l.fR (fQ a cJ.out) Pm);have dA:=Y (l.fR (fQ a dr.out) Pm);have cZ:=(P8.of (L:=none) (b0.trans (a.mono b0.size)) (P6 a6)).trans l;have bR:=Y (bc.box ck (fQ a aS.out) cS.out);have dM:=(dG.fH a).jn l;have cM:=(cL.kp (Kp.of a)).kp l.Vo
 have cl:=ch.lt;refine uz 8 (O3 q) ?_;refine TQ ?_ _;go_simp;have dj:=oI bK.out;have dN:=oI cT.out;obtain⟨cu,cw,cy,_,cp⟩:=fX bR.out;have cU:=fI bK.out;have dc:=fI cT.out;go_wp2_with fail;obtain⟨a1,aD⟩:=xE (aZ.alloc (.cells #[O3 q,O3 q,Pv fst,Ry] 73));obtain⟨dn,bo⟩:=xE aZ.heap.size;have cG:a1.heap[dn]? = some (PZ #[O3 q,O3 q,Pv fst,Ry] 73):=by rw[aD,bo];exact Ph _ _
 have p:Pn aZ a1:=by rw[aD];exact QJ
 rw[<-aD,<-bo];have bq:=dF.fH p;refine cm (O4 bI a1 dg bq (cM.kp (Kp.of p)) (dM.fH p)) ?_;rintro m o ⟨rfl,dS,cK,bv⟩;have l:=bv.jn (o:=none) bq;have dI:Ms M k I z o dk:=⟨_,_,_,_,cK⟩;have dP:=(dy.trans (SL.of p (P6 cl))).trans bv;have bQ:=Y (l.fR (fQ p bK.out) Pm);have cn:=Y (l.fR (fQ p dA.out) Pm);have cB:=Y (l.fR cG Pm);have bS:=Y (bv.box bq (fQ p bR.out) cS.out);have dK:=(cM.kp (Kp.of p)).kp l.Vo
 have cV:=((P8.of (L:=none) p (P6 cl)).trans l);have bC:=cK.lt;clear cG aD bo dj dN cu cw cy cp cU dc;obtain⟨E,dz,d0,F,aC,cC,_⟩:=dK.Zf (a:=1) (by rw[b9.out];omega)
 rw[b9.out] at F;obtain⟨ua,d6,T,cA⟩:=cC.ar;obtain⟨ea,cq⟩:=xE ((Pg aV 1).2.fJ.length);rw[<-cq] at T cA;have aF:=Y (λL (i:Pn o L)=>O4 dh L _ E (dI.fH i) (cA.fH i) ((cC.kp (Kp.of i)).lT));obtain⟨cD,b6⟩:=xE E.p;rw[<-b6] at aC T;rw[<-dp.out] at F;have dD:=Y F;have dJ:=Y aC;have c9:=Y T;have d2:=fV aC;have d7:=fV F;have dY:=fV T;have am:=Y (oI bQ.out);have aK:=Y (fX bS.out);have dE:=Y (fN cB.out);have dV:=fI bQ.out
 have dT:=fI bS.out;have dU:=fI cB.out;have dO:PU o au (none:Option Va):=by show PU _ _ _;rw[bL.out];trivial
 rw[<-bL.out] at aF;clear F aC T cq b6;go_wp2_with fail;refine WJ (H:=λwz D s=>SB M k I z es au o A di dm dL wz D s) (G:=?GG) (λaN=>?ways) ?rest
 case ways=>
  refine UC 12 λa=>?_;refine uk 0 am.out a ?_;refine up 1 B 0 a ?_;refine uk 2 (aK.out.1) a ?_;refine up 3 cP 0 a ?_;refine up 4 cP 3 a ?_;refine uk 5 dD.out a ?_;refine up 6 dz 1 a ?_;refine uk 7 dJ.out a ?_;refine up 8 cD 0 a ?_;refine up 9 cD 3 a ?_;refine uk 10 (O4 c9) a ?_;refine kT 11 dE.out a ?_;refine jS 12 16 (λK c=>?_) λK c=>?_
  ·go_simp;refine l9 ?_;have b{G}(h:G:=by
   refine uz 13 (.tuple #[(Xo A),s]) ?_;refine uz 14 (Xo A) ?_;refine uz 15 s ?_;refine uaZ 16 ?_;refine uaZ 17 ?_;refine uz 18 s ?_;refine TQ ?_ _;go_simp;have ac:=SB.late (o:=A) aG ah ((P8.of a (P6 bC)).trans ax) bM;exact rd):=O6 h;exact mI
  ·go_simp;refine kG ?_;clear c K;refine Rl 12 λK c=>?_;go_simp;refine ov ?_;have b{G}(h:G:=by
   have be:aI.heap[o.heap.size]? = some (PZ #[Pv false,O3 0,O3 0,Qn] 67):=ax.TL (dO.fH (QJ.drew)) (Ph _ _) Pm Pm;obtain⟨cx,bj,cI,dQ,bm,bn,br,bZ,dX⟩:=RN (be);refine uz 13 (.tuple #[(Xo A),s]) ?_;refine uz 14 (Xo A) ?_;refine uz 15 s ?_;refine uaZ 17 ?_;refine uz 18 s ?_;refine TQ ?_ _;go_simp;have ac:=SB.early (o:=A) be Qp (P6 bC) aG ah ((P8.of (QJ.drew) (P6 bC)).trans ax) bM
   generalize (((aI.setCell (O7 o.heap.size 0) (Pv A.ret)).setCell (O7 o.heap.size 1) (O3 A.v.k)).setCell (O7 o.heap.size 2) (O3 A.v.n)).setCell (O7 o.heap.size 3) (Pj A.v.s)=wz at ac ⊢
   generalize o.heap.size=D at ac ⊢
   exact aN wz D s ac):=O6 h;exact mI
 case rest=>
  rintro wt ds s b;have t:=b.fr;rw[bL.out] at t;have ac:=Y (t.fR cn.out Pm);have bZ:=(cZ.trans cV).trans t;have dx:=b.ms;have b2:=b.er;have dQ:ds≠H:=λm=>by
   have ad:=b.ob;have ak:=fI cn.out;omega
  obtain⟨em,f⟩:=A;obtain⟨dZ,dX,d1,d3,d4,d5,ep⟩:=Qb ac.out;obtain⟨cu,cw,cy,eq,ed,ej,ek,eo,cp⟩:=RN (b.o);go_wp2_with fail;obtain⟨bn,aI,bM,aX,aG,bm,be,bj⟩:=iT ac.out dt.out a6 bZ dx (O3 f.k) (O3 f.n) (Pj f.s);rw[<-aI];refine XW (v:=.tuple #[vA f,s]) ?_;exact⟨⟨_,rfl,b2.Rf bM Pm⟩,aG,aX⟩
def Sz.fO (h:Sz c8 g)(a:Nat):Sz c8 { g with fO:=a }:=⟨h.go,h.ow,h.fn,h.lg,h.se,h.oe⟩
def aw3 (a6:Bs M k I z es)(cQ:Wj M)(p:Mx M k I z de dd da ci w g)(a1:Sz c8 g)(bB:c8+10000<1000000000)(aQ:g.fO<=40){a:Fu}{u:Ad}(aJ:PX z w u a.d)(F:a.d.2.fJ.length=2)(ai:a.d.2.count<=1500)(aD:(Pg a.d 0).2.fJ.length<=8)(ak:∀ j ∈ Ul (Pg a.d 1),j.2.fJ.length=2)(aY:(g.M.ro a.scope).isSome=true)(X:UZ w cr bG)(bC:bG.length<=1500){d:St->(Oc × Er × Option Va) × St}
  (am:g.fO≠40->(d { g with fO:=g.fO+1 }).2.fO=g.fO+1)
  (aC:g.fO≠40->∀ L c (b:Ad),Ms M k I z L (S9 a.d ⟨g.gg,g.gg,a.fT⟩ bG (St.gq { g with fO:=g.fO+1 } a.scope (-1) (own a.d)))->TY 0 L c b.ks->UW z L b.ks (QB (Pg a.d 1))->Pq 28 #[O5 k,c,Qy ⟨g.gg,g.gg,a.fT⟩ none] L (QG M k I z es none L (d { g with fO:=g.fO+1 }))) :
  Pq 301 #[O5 k,.agg #[O5 u.p,O3 a.scope,Pv a.fT],cr] w (P5 M k I z es w (within g λg=>(((d g).1.1.v,(d g).1.2.1),(d g).2))):=by
 have bF:=Zg;have aS:=p.lt;obtain⟨ua,B,aZ⟩:=X.form;subst aZ;obtain⟨l,q⟩:=xE u.p;obtain⟨o,D⟩:=xE a.scope;obtain⟨fst,E⟩:=xE a.fT;obtain⟨w2,e⟩:=xE ((((w.alloc (.cells #[O5 k] 62)).alloc (.cells #[O5 l,O3 o,Pv fst] 211)).alloc (.cells #[.slice ua bG.length B] 311)).alloc (.cells #[O3 0,O3 0,Qn] 65));have ap:Pn w w2:=by rw[e];exact((QJ.alloc P7 _).alloc RQ _).alloc RQ _
 obtain⟨aK,r⟩:=xE w.heap.size;obtain⟨i,C⟩:=xE (w.heap.size+1);obtain⟨aX,t⟩:=xE (w.heap.size+1+1);obtain⟨H,A⟩:=xE (w.heap.size+1+1+1);have aj:w2.heap[aK]? = some (PZ #[O5 k] 62):=by rw[e,r];exact fY (fY (fY (Ph _ _)))
 have aF:w2.heap[i]? = some (PZ #[O5 l,O3 o,Pv fst] 211):=by
  rw[e,C,show w.heap.size+1=(w.alloc (.cells #[O5 k] 62)).heap.size by simp];exact fY (fY (Ph _ _))
 have aN:w2.heap[aX]? = some (PZ #[.slice ua bG.length B] 311):=by
  rw[e,t,show w.heap.size+1+1=((w.alloc (.cells #[O5 k] 62)).alloc (.cells #[O5 l,O3 o,Pv fst] 211)).heap.size by simp];exact fY (Ph _ _)
 have bq:w2.heap[H]? = some (PZ #[O3 0,O3 0,Qn] 65):=by
  rw[e,A,show w.heap.size+1+1+1=(((w.alloc (.cells #[O5 k] 62)).alloc (.cells #[O5 l,O3 o,Pv fst] 211)).alloc (.cells #[.slice ua bG.length B] 311)).heap.size by simp];exact Ph _ _
 have aI:w.heap.size<=H:=O9;have ay:ci.ownBlock≠some i:=λm=>by
  obtain⟨s,_,f,_⟩:=p.fu;have:=(f.lt i m).2;omega
 have bu:=p.fH ap;have bf:=aJ.kp (Kp.of ap);have bx:=X.fH ap;obtain⟨bD,aW⟩:=xE (within g λg=>(((d g).1.1.v,(d g).1.2.1),(d g).2));have T:=wL (s:=es) bu aQ MX (c:=#[PL aK 0,PL i 0,PL aX 0]) (a:=λg=>(((d g).1.1.v,(d g).1.2.1),(d g).2)) am (λax L ac f aG=>by
  have W:Kp w2 L:=λN s m O ah=>f N s m O (by rcases ah with rfl|rfl <;> decide);refine asH (d:=a) (u:=u) a6 cQ ac (a1.fO _) bB (bf.kp W) F ai aD ak aY (f _ _ _ aj Pm) (B:=i) ?_ ay (f _ _ _ aN Pm) (bx.fR λN s O=>f N s 65 O Pm) bC (aC ax);rw[<-q,<-D,<-E];exact f _ _ _ aF Pm)
 rw[<-aW] at T ⊢;rw[<-q,<-D,<-E];have b{G}(h:G:=by
 have bc:=Y e;have a7:=Y aI;have bi:=Y r;have ba:=Y C;have bo:=Y t;have bh:=Y A;clear F ai aD ak aY am aC bq aj aF aN ay e aI r C t A aW q D E cQ aQ;go_enter func301,ntmps301;go_wp2_with fail;rw[<-bc.out,<-bh.out,<-bo.out,<-ba.out,<-bi.out];refine cm T ?_;rintro m bE ⟨⟨s,rfl,aG⟩,ah,ax⟩;have bL:=Y (ax.fR c9.out Pm);have cM:=dc.trans ax;obtain⟨W,f⟩:=xE bD.1.1;rw[<-f];have ac:=Y f;clear f;exact L1):=O6 h;exact qb
structure Gl (w:Pe):Prop where
 li:hx RH Ru w
 ta:j1 w
def Gl.fH (h:Gl w)(a:Pn w w'):Gl w':=⟨h.li.fH a,h.ta.fH a⟩
def Gl.ms (h:Gl M)(b:Bs M k I z es)(a:Ms M k I z w g):Gl w:=h.fH (by unfold Pn;rw[b.sz];exact a.below)
def j0 (b:Py)(c:Bool):Option Tr:=match TD RH Ru b with
 | .ok a=>match g5 a c false false with
  | none=>some a
  | some _=>none
 | _=>none
def aBq (es:Px)(w:Pe)(c:Option Tr)(a:Ending)(w':Pe):Prop:=Pn w w'/\match c with
 | some d=>∃ b,a=PK (.tuple #[O5 b,.nilIface])/\Qa (gp w.heap.size) w' d b
 | none=>∃ b,a=PK (.tuple #[.pointer none,b])/\X8 es w' b (f0 U1)
def alL (f:Py)(i:Bool)(w:Pe)(F:Gl w):Pq 321 #[Pj f,Pv i] w (aBq es w (j0 f i)):=by
 have hP:=jv RH Ru f w F.li Xb F.ta;obtain⟨A,X⟩:=xE (j0 f i);rw[<-X]
 cases a:TD RH Ru f with
 | ok l=>
  rw[a] at hP;have S:=N6 a;have ad:=(Zu a).2;have HP:=hP;have N:=Y (λd D (s:TV D l d)=>A1 l d i false D s S O9);obtain⟨L,m⟩:=xE (g5 l i false false);rw[<-m] at N
  cases L with
  | none=>
   have p:A=some l:=by rw[X];unfold j0;rw[a];simp only;rw[<-m]
   have j{G}(h:G:=by
   have r:c=PK QW:=n;subst r;have e:=H;clear n;go_wp2_with fail;refine Vm (v:=.tuple #[O5 d,QW]) ?_;exact⟨b.trans (e.mono b.size),d,rfl,Qa.fH (Below.gx e) _ _ O⟩):=O6 h;exact BZ
  | some E=>
   have p:A=none:=by rw[X];unfold j0;rw[a];simp only;rw[<-m]
   have j{G}(h:G:=by
   have r:c=PK (.iface 34 (O3 E)):=n;subst r;have e:=b.trans (H.mono b.size);clear n;go_wp2_with fail;refine cm (X5 U1 w2) ?_;rintro c W ⟨⟨C,rfl,_,B⟩,t⟩;have T:=e.trans (t.mono e.size);exact CE):=O6 h;exact BZ
 | «at» E e=>
  have j{G}(h:G:=by
  rintro c q ⟨d,rfl,_,_,o⟩;exact KF):=O6 h;exact K8
 | bare=>
  have j{G}(h:G:=by
  rintro c q ⟨rfl,o⟩;exact KF):=O6 h;exact K8
def asI (b:Mx M k I z de dd da ci w g)(l:Sz c8 g)(n:c8<1000000000)(c:Int)(d:Py) :
  Pq 354 #[O5 k,O3 c,Pj d] w λf w'=>f=PK (.tuple #[])/\Mx M k I z de dd da ci w' (gA c d g)/\Ql Th k w w':=by
 have v:=b.lt;have u:=DY b.hh c;have t:=Dz b.hh l.go.sm (P6 n) c d;obtain⟨s,j⟩:=xE (g.M.SI c);obtain⟨B,o⟩:=xE (g.M.has c d);rw[<-j] at u;rw[<-o] at t;obtain⟨L,a⟩:=xE (gA c d g);rw[<-a];unfold gA at a;rw[<-j,<-o] at a;have HP:=Y (λi (m:Mx M k I z de dd da ci i g)=>ZQ m l n s d vU false);have D:=Y (λi (m:Mx M k I z de dd da ci i g)=>X7 m l n c d 4 vU);clear j o
 cases B with
 | true=>
  rw[fL rfl] at a;rw[a];have q{G}(h:G:=by
  go_wp2
  go_end0
  exact⟨rfl,b.fH e,Ql.of e (P6 v)⟩):=O6 h;exact wj
 | false=>
  rw[fK P7] at a
  by_cases r:s = -1
  ·rw[fK (by simp[r])] at a;have A:=Y a;clear a;have q{G}(h:G:=by
   have C:=(b.fH p).lt;go_wp2_with fail;refine cm (O4 D _ (b.fH e)) ?_;exact JH):=O6 h;exact wj
  ·rw[fL r] at a;have A:=Y a;clear a;have q{G}(h:G:=by
   have C:=(b.fH p).lt;go_wp2_with fail;refine cm (O4 HP _ (b.fH e)) ?_;exact JH):=O6 h;exact wj
def Bg {e:Ad}{d:Nd}(l:PX z w e d)(q:d.2.count<=1500):Pq 352 #[O5 e.p] w λf w'=>(∃ cr,f=PK cr/\SQ w.heap.size w' cr (Tv d.2))/\Pn w w':=by
 obtain⟨aK,aD,aF,ax,ay⟩:=gY jI;have aQ:=Si d.2;have A:TV w d.2 e.p:=by rw[<-l.tr];exact l.at_.nat.nt
 have C:=XR d.2 e.p w A O9;have F:=Y (λL (c:Pn w L)=>Yu e L (Tf.kp (Kp.of c) _ l.at_) (by rw[l.ks];omega))
 obtain⟨p,s⟩:=xE (Qv d.2);have a8:p.length<=1500:=by
  have b{G}(h:G:=by
  rw[s];omega):=O6 h;exact uR
 obtain⟨a,r⟩:=xE (e.ks.filter λj=>SH j.tr);have ba:a.length<=1500:=by
  have ad:=hp (λj:Ad=>SH j.tr) e.ks;rw[r,<-l.ks] at *;omega
 have S:Tv d.2=p++a.map (λj=>j.tr.tx):=by
  rw[s,r];unfold Tv Uj;have ad:d.2.fJ=e.ks.map Ad.tr:=by rw[<-l.tr];exact e.s0.2.2
  rw[ad,mJ,lp];rfl
 rw[S];rw[<-s] at C;rw[<-r] at F;obtain⟨bq,R⟩:=xE e.p;rw[<-R] at C F ⊢;clear aQ S s r R;go_enter func352,ntmps352;go_wp2_with fail;refine cm C ?_;rintro f aZ ⟨⟨u1,rfl,ai⟩,D⟩;obtain⟨br,be,aY⟩:=PW ai;subst aY;go_wp2_with fail;refine cm (O4 F aZ D) ?_;rintro f w2 ⟨⟨u2,rfl,aj⟩,O⟩;obtain⟨bh,bo,a6⟩:=aj.form;subst a6;have aL:=Qg ai O;have T:=D.trans (O.mono D.size);have bn:=T.size;go_wp2_with fail
 go_loopw [3,11] (λc H wr=>∃ j:Nat,j<=a.length/\H=O3 j/\SQ w.heap.size wr c (p++(a.take j).map (λj=>j.tr.tx))/\Pn w wr/\Kp w2 wr) (λ_ H _=>a.length - (intOf H).toNat)
 case atStart=>exact⟨0,f3 _,rfl,by simpa using aL,T,λ_ _ _ h _=>h⟩
 case round=>
  obtain⟨j,a7,rfl,ah,c,X⟩:=hrel;have u:=ah;obtain⟨aN,aW,rfl⟩:=PW ah;have aC:=c.size
  by_cases P:j<a.length
  ·obtain⟨bi,bc,B,bj,q,A⟩:=(aj.kp X).cell j P;have b{G}(h:G:=by
   obtain⟨aS,_,W,_⟩:=TV.cells A.nat.nt;have aU:(j:Int)<(a.length:Int):=O9;obtain⟨x,ac⟩:=xH ((a[j]).tr.tx);rw[<-ac.out] at W;obtain⟨bm,ak⟩:=xE ((a[j]).p);rw[<-ak] at q aS W;obtain⟨am,E⟩:=xH (p++(a.take j).map (λj=>j.tr.tx));obtain⟨N,t⟩:=xH am.length;have bf:N<=3000:=by rw[t.out,E.out];simp;omega
   rw[<-E.out] at u ⊢;have o:World.ownsRow wr w.heap.size 9 1 (.slice aN N aW) N (am.map Value.string):=by
    refine mD ?_;rw[t.out];exact u
   rw[<-t.out];clear ak;have b{G}(h:G:=by
   have aO:Pn wr (wr.alloc (.cells #[Pj x] 9)):=QJ;have a1:Ql [9] w.heap.size (wr.alloc (.cells #[Pj x] 9)) ap:=Ql.grown aJ RQ λi m=>by
    obtain⟨n,q⟩:=QM (o.alloc _) m;exact⟨by have:=(QD o i m).2;omega,n,9,q,by simp⟩
   have aV:Kp w2 ap:=λi n f m v=>a1.rest i n f (Kp.of aO i n f (X i n f m v) v) (by rcases v with rfl|rfl <;> decide);clear aI;go_wp2_with fail;refine⟨⟨j+1,by omega,by go_num,?_,aG,aV⟩,by simp[intOf];omega⟩
   rw[g3 P,gM,<-iq,<-E.out];refine mD ?_;rw[gj,gM,<-t.out]
   show World.ownsRow _ _ _ _ _ _ (_++[Value.string (a[j]).tr.tx])
   rw[<-ac.out];exact hown'):=O6 h;exact E6):=O6 h;exact UM
  ·have i:j=a.length:=O9;subst i;have aU:¬ (a.length:Int)<(a.length:Int):=O9;go_wp2;go_ret;refine⟨⟨_,rfl,?_⟩,c⟩;have h:=u;rw[gO,gj,gu] at h;exact h
structure kA (w0:Pe)(mb:Nat)(es:Px)(eb:Addr):Prop where
 is:es=.iface 359 (.pointer (some eb))
 qP:w0.cell? (O7 1 0)=some es
 et:SY w0
 lt:1<mb
variable {C:Addr}
def kA.XO (h:kA M k es C):ig es:=⟨_,_,h.is⟩
section
variable (h:kA M k es C) (a:Ms M k I z w g)
include h a
def kA.cell:w.cell? (O7 1 0)=some (.iface 359 (.pointer (some C))):=by
 rw[a.below.cell (p:=(O7 1 0)) h.lt,h.qP,h.is]
def kA.vn:SY w:=VY h.et a.below (by have:=h.lt;omega)
end
def aGD (a:Pe):(binOp .eql 31 QW (.iface 359 (.pointer (some C)))).run prog a=.ok (Pv false) a:=by kernel_rfl
def aA6 (a:Pe):(binOp .eql 31 (.iface 34 (O3 7)) (.iface 359 (.pointer (some C)))).run prog a=.ok (Pv false) a:=by kernel_rfl
def aA7 (b:Nat)(a:Pe):(binOp .eql 31 (.iface 122 (PL b 0)) (.iface 359 (.pointer (some C)))).run prog a=.ok (Pv false) a:=by kernel_rfl
def MN (a:Pe):(binOp .eql 31 (.iface 359 (.pointer (some C))) (.iface 359 (.pointer (some C)))).run prog a=.ok (Pv true) a:=by
 have d:(prog.info? 359).map (·.comparable)=some true:=by kernel_rfl
 obtain⟨f,c,e⟩:=mZ.1 d;obtain⟨i,b⟩:=Option.isSome_iff_exists.1 (show (prog.info? 361).isSome=true by kernel_rfl);exact run_eql_iface_ptr_same a _ underlying31 underlying359 c e b
def X8.TL {b:Px}{a:Er}{j:Option Va}(h:X8 es w b a)(d:P8 au k w w')(i:PU w au j):X8 es w' b a:=by
 cases a with
 | no=>exact h
 | stop=>exact h
 | ir=>exact h
 | Yq x=>obtain⟨e,f,c⟩:=h;exact⟨e,f,d.TL i c Pm Pm⟩
section
variable (aY:kA M k es C) (ah:Ms M k I z w g) {u:Ad} {q:Nd} (aJ:PX z w u q)
include aY ah u q aJ
def alD (ai:q.2.fJ.length=1)(B:Pl)(aL:Oc)(b3:X8 es w QW (.no)){d:Option Va}(ba:PU w au d)(ad:Yz M k I z es g (Pg q 0) B au d (U.s (Pg q 0) B d g)) :
  Pq 202 #[O5 k,O5 u.p,Qy B (LA au),Xo aL,QW] w (QG M k I z es au w (VG U q B aL (.no) d g)):=by
 have b{G}(h:G:=by
 have b{G}(h:G:=by
 have cL:bI≠H:=O9;have b{G}(h:G:=by
 have b{G}(h:G:=by
 have b{G}(h:G:=by
 have ay:=aY.XO;have bL:=aGD (C:=C);have b{G}(h:G:=by
 obtain⟨bx,bE⟩:=xH (VG U q ⟨r,E,ap⟩ ⟨o,⟨p,on,l⟩⟩ (.no) d g);have b{G}(h:G:=by
 refine WJ (H:=λwz D s=>SB M k I z es au w2 A a1 bh bq wz D s) (G:=?GG) (λaN=>?ways) ?rest
 case ways=>
  exact sw
 case rest=>
  have b{G}(h:G:=by
  cases t with
  | true=>
   exact zQ
  | false=>
   by_cases aK:a1=.no
   ·subst aK;have c:f=QW:=a.er;subst c;have T:bx=((⟨o,⟨p,on,l⟩⟩,.no,bh),bq):=by rw[bE.out];unfold VG;rw[bK.out];rfl
    have b{G}(h:G:=by
    refine Xp (v:=.tuple #[Xo ⟨o,⟨p,on,l⟩⟩,QW]) ?_;exact vJ):=O6 h;exact yl
   ·exact yI):=O6 h;exact wZ):=O6 h;exact zZ):=O6 h;exact yx):=O6 h;exact nu):=O6 h;exact zM):=O6 h;exact tn):=O6 h;exact oW):=O6 h;exact tH
def Np (ai:q.2.fJ.length=1)(B:Pl)(aL:Oc)(b3:X8 es w (.iface 34 (O3 7)) (.ir)){d:Option Va}(ba:PU w au d)(ad:Yz M k I z es g (Pg q 0) B au d (U.s (Pg q 0) B d g)) :
  Pq 202 #[O5 k,O5 u.p,Qy B (LA au),Xo aL,.iface 34 (O3 7)] w (QG M k I z es au w (VG U q B aL (.ir) d g)):=by
 have b{G}(h:G:=by
 have b{G}(h:G:=by
 have cL:bI≠H:=O9;have b{G}(h:G:=by
 have b{G}(h:G:=by
 have b{G}(h:G:=by
 have ay:=aY.XO;have bL:=aA6 (C:=C);have b{G}(h:G:=by
 obtain⟨bx,bE⟩:=xH (VG U q ⟨r,E,ap⟩ ⟨o,⟨p,on,l⟩⟩ (.ir) d g);have b{G}(h:G:=by
 refine WJ (H:=λwz D s=>SB M k I z es au w2 A a1 bh bq wz D s) (G:=?GG) (λaN=>?ways) ?rest
 case ways=>
  exact sw
 case rest=>
  have b{G}(h:G:=by
  cases t with
  | true=>
   exact zQ
  | false=>
   by_cases aK:a1=.no
   ·subst aK;have c:f=QW:=a.er;subst c;have T:bx=((⟨o,⟨p,on,l⟩⟩,.ir,bh),bq):=by rw[bE.out];unfold VG;rw[bK.out];rfl
    have b{G}(h:G:=by
    refine Xp (v:=.tuple #[Xo ⟨o,⟨p,on,l⟩⟩,.iface 34 (O3 7)]) ?_;exact vJ):=O6 h;exact yl
   ·exact yI):=O6 h;exact wZ):=O6 h;exact zZ):=O6 h;exact yx):=O6 h;exact nu):=O6 h;exact zM):=O6 h;exact tn):=O6 h;exact oW):=O6 h;exact tH
def XM (ai:q.2.fJ.length=1)(B:Pl)(aL:Oc)(bL:Nat)(x:Va)(b3:X8 es w (.iface 122 (PL bL 0)) (.Yq x)){d:Option Va}(ba:PU w au d)(ad:Yz M k I z es g (Pg q 0) B au d (U.s (Pg q 0) B d g)) :
  Pq 202 #[O5 k,O5 u.p,Qy B (LA au),Xo aL,.iface 122 (PL bL 0)] w (QG M k I z es au w (VG U q B aL (.Yq x) d g)):=by
 have b{G}(h:G:=by
 have b{G}(h:G:=by
 have cO:bI≠H:=O9;have b{G}(h:G:=by
 have b{G}(h:G:=by
 have b{G}(h:G:=by
 have ay:=aY.XO;have cL:=aA7 (b:=bL) (C:=C);have b{G}(h:G:=by
 obtain⟨bx,bE⟩:=xH (VG U q ⟨r,E,ap⟩ ⟨o,⟨p,on,l⟩⟩ (.Yq x) d g);have b{G}(h:G:=by
 refine WJ (H:=λwz D s=>SB M k I z es au w2 A a1 bh bq wz D s) (G:=?GG) (λaN=>?ways) ?rest
 case ways=>
  exact sw
 case rest=>
  have b{G}(h:G:=by
  cases t with
  | true=>
   exact zQ
  | false=>
   by_cases aK:a1=.no
   ·subst aK;have c:f=QW:=a.er;subst c;have T:bx=((⟨o,⟨p,on,l⟩⟩,.Yq x,bh),bq):=by rw[bE.out];unfold VG;rw[bK.out];rfl
    have b{G}(h:G:=by
    refine Xp (v:=.tuple #[Xo ⟨o,⟨p,on,l⟩⟩,.iface 122 (PL bL 0)]) ?_;exact vJ):=O6 h;exact yl
   ·exact yI):=O6 h;exact wZ):=O6 h;exact zZ):=O6 h;exact yx):=O6 h;exact nu):=O6 h;exact zM):=O6 h;exact tn):=O6 h;exact oW):=O6 h;exact tH
def agY (B:Pl)(aL:Oc){a:Option Va}(m:PU w au a) :
  Pq 202 #[O5 k,O5 u.p,Qy B (LA au),Xo aL,.iface 359 (.pointer (some C))] w (QG M k I z es au w (VG U q B aL .stop a g)):=by
 have b{G}(h:G:=by
 have b{G}(h:G:=by
 have T:bI≠H:=O9;have b{G}(h:G:=by
 have ac:=P8.of (L:=au) bF (P6 aS);have ad:=m.fH bF;have b{G}(h:G:=by
 have ak:=MN (C:=C);have s:=aY.cell ah;have ai:1<w.heap.size:=fV s;have N:=aY.cell bf;rw[aW] at N;have S:=Y aY.is;clear s;obtain⟨i,f⟩:=xH (((w.alloc (.cells #[O3 r,O3 E,Pv ap,.pointer be] 73)).alloc (.cells #[Pv o,O3 p,O3 on,Pj l] 67)).alloc (.cells #[Pv o,O3 p,O3 on,Pj l] 67));have d:Pn w i:=by rw[f.out];exact(QJ.alloc P7 _).alloc RQ _
 have n:i.heap[H]? = some (PZ #[Pv o,O3 p,O3 on,Pj l] 67):=by
  rw[f.out,bu,show w.heap.size+2=((w.alloc (.cells #[O3 r,O3 E,Pv ap,.pointer be] 73)).alloc (.cells #[Pv o,O3 p,O3 on,Pj l] 67)).heap.size by simp];exact Ph _ _
 have D:=Y n;have t:H=w.heap.size+1+1:=bu;obtain⟨aj,c⟩:=xE u.p;obtain⟨O,e⟩:=xE (VG U q ⟨r,E,ap⟩ ⟨o,⟨p,on,l⟩⟩ .stop a g);rw[<-e,<-c];rw[<-c] at b0;have j:O=((⟨o,⟨p,on,l⟩⟩,.stop,a),g):=e;have A:=Y j;have L:=Y t;clear F b6 b7 aW e c bW bQ cl bY j n bT bu b1 t T bO cD b0;go_enter func202,ntmps202;go_wp2_with fail;rw[<-f.out,<-L.out];obtain⟨bn,bm,bj,bo,_,_⟩:=fN D.out
 refine Xp (v:=.tuple #[Xo ⟨o,⟨p,on,l⟩⟩,.iface 359 (.pointer (some C))]) ?_;rw[A.out];exact⟨⟨_,rfl,S.out.symm⟩,ah.fH d,P8.of d (P6 aS),m.fH d⟩):=O6 h;exact nu):=O6 h;exact tn):=O6 h;exact oW):=O6 h;exact tH
def ao5 (j:q.2.fJ.length=1)(a:Pl)(c:Oc){e:Er}{b:Px}(d:X8 es w b e){i:Option Va}(f:PU w au i)(l:e≠.stop->Yz M k I z es g (Pg q 0) a au i (U.s (Pg q 0) a i g)) :
  Pq 202 #[O5 k,O5 u.p,Qy a (LA au),Xo c,b] w (QG M k I z es au w (VG U q a c e i g)):=by
 cases e with
 | no=>obtain rfl:b=.nilIface:=d;exact alD aY ah aJ j a c rfl f (l P7)
 | stop=>rw[show b=.iface 359 (.pointer (some C)) from (show b=es from d).trans aY.is];exact agY aY ah aJ a c f
 | ir=>obtain rfl:b=.iface 34 (O3 7):=d;exact Np aY ah aJ j a c rfl f (l P7)
 | Yq x=>obtain⟨m,rfl,h⟩:=d;exact XM aY ah aJ j a c m x ⟨m,rfl,h⟩ f (l P7)
end
def qH (d:kA M k es C)(f:Ms M k I z w g)(m:g.steps<=20000) :
  Pq 107 #[O5 k] w λc w'=>c=PK (if 20000<g.steps+1 then es else QW)/\Ms M k I z w' g.step/\P8 none k w w':=by
 have i:=d.cell f;obtain⟨de,dd,da,ci,b⟩:=f;rw[<-d.is] at i;refine(asw b.hh m i d.lt).mono ?_;rintro c w' ⟨rfl,t,e⟩;have a:Ql Th k w w':=⟨e.below,λp q c j n=>e.rest p q c j (λh=>n (by rw[gc.1 h];decide))⟩
 obtain⟨r,s,l,o⟩:=b.fu;exact⟨rfl,⟨de,dd,da,ci,b.bw.trans a.below,t,PV b.lg a Pm,PV b.se a Pm,PV b.ow a Pm,r,s,PV l a Pm,λu j p n q=>(o u j p n q).kp (Ql.kp a)⟩,P8.jR a⟩
section
variable (aK:kA M k es C) (ah:Ms M k I z w g) {u:Ad} {a:Nd} (aJ:PX z w u a)
include aK ah u a aJ
def Zs (t:g.steps<=20000)(hst1:20000<=g.steps)(p:Pl){d:Option Va}(D:PU w au d) :
  Pq 53 #[O5 k,O5 u.p,Qy p (LA au)] w (QG M k I z es au w ((RS,.stop,d),g.step)):=by
 have b{G}(h:G:=by
 have b{G}(h:G:=by
 have b{G}(h:G:=by
 have b{G}(h:G:=by
 have b{G}(h:G:=by
 have bc:=qH aK bf t;rw[fL O9,aK.is] at bc;have E:=Y aK.is;have A:=D.fH ap;obtain⟨aO,c⟩:=xH u.p;rw[<-c.out] at b0 ⊢;clear F aW b3 aY b6;go_enter func53,jC;have b{G}(h:G:=by
 have bv:=bE.trans am;have B:=A.fR am;have aG:=T.lt;obtain⟨ac,O,ai,aF,aj,aC,aD,aI,aQ⟩:=RN aN.out;have b{G}(h:G:=by
 rw[<-aV];refine pQ (v:=.tuple #[Xo RS,.iface 359 (.pointer (some C))]) ?_;exact⟨⟨_,rfl,E.out.symm⟩,f,i,B.Uy s⟩):=O6 h;exact Bl):=O6 h;exact mx):=O6 h;exact VF):=O6 h;exact jY):=O6 h;exact YA):=O6 h;exact jq):=O6 h;exact jT
def agZ (D:a.2.kd=7)(t:g.steps<=20000)(hst1:g.steps<20000)(p:Pl){d:Option Va}(B:PU w au d){c:(Oc × Er × Option Va) × St}(f:∀ L,Ms M k I z L g.step->PX z L u a->PU L au d->Pq 111 #[O5 k,O5 u.p,Qy p (LA au)] L (QG M k I z es au L c)) :
  Pq 53 #[O5 k,O5 u.p,Qy p (LA au)] w (QG M k I z es au w c):=by
 have b{G}(h:G:=by
 have b{G}(h:G:=by
 have b{G}(h:G:=by
 have b{G}(h:G:=by
 have O:=Y F;have b{G}(h:G:=by
 have b{G}(h:G:=by
 have b{G}(h:G:=by
 have i:(a.2.kd:Int)=7:=by rw[D]
 exact uV):=O6 h;exact nI):=O6 h;exact oa):=O6 h;exact VF):=O6 h;exact jY):=O6 h;exact YA):=O6 h;exact jq):=O6 h;exact jT
def acA (D:a.2.kd=8)(t:g.steps<=20000)(hst1:g.steps<20000)(p:Pl){d:Option Va}(B:PU w au d){c:(Oc × Er × Option Va) × St}(f:∀ L,Ms M k I z L g.step->PX z L u a->PU L au d->Pq 112 #[O5 k,O5 u.p,Qy p (LA au)] L (QG M k I z es au L c)) :
  Pq 53 #[O5 k,O5 u.p,Qy p (LA au)] w (QG M k I z es au w c):=by
 have b{G}(h:G:=by
 have b{G}(h:G:=by
 have b{G}(h:G:=by
 have b{G}(h:G:=by
 have O:=Y F;have b{G}(h:G:=by
 have b{G}(h:G:=by
 have b{G}(h:G:=by
 have i:(a.2.kd:Int)=8:=by rw[D]
 exact uV):=O6 h;exact nI):=O6 h;exact oa):=O6 h;exact VF):=O6 h;exact jY):=O6 h;exact YA):=O6 h;exact jq):=O6 h;exact jT
def aeb (D:a.2.kd=9)(t:g.steps<=20000)(hst1:g.steps<20000)(p:Pl){d:Option Va}(B:PU w au d){c:(Oc × Er × Option Va) × St}(f:∀ L,Ms M k I z L g.step->PX z L u a->PU L au d->Pq 113 #[O5 k,O5 u.p,Qy p (LA au)] L (QG M k I z es au L c)) :
  Pq 53 #[O5 k,O5 u.p,Qy p (LA au)] w (QG M k I z es au w c):=by
 have b{G}(h:G:=by
 have b{G}(h:G:=by
 have b{G}(h:G:=by
 have b{G}(h:G:=by
 have O:=Y F;have b{G}(h:G:=by
 have b{G}(h:G:=by
 have b{G}(h:G:=by
 have i:(a.2.kd:Int)=9:=by rw[D]
 exact uV):=O6 h;exact nI):=O6 h;exact oa):=O6 h;exact VF):=O6 h;exact jY):=O6 h;exact YA):=O6 h;exact jq):=O6 h;exact jT
def ae7 (D:a.2.kd=12)(t:g.steps<=20000)(hst1:g.steps<20000)(p:Pl){d:Option Va}(B:PU w au d){c:(Oc × Er × Option Va) × St}(f:∀ L,Ms M k I z L g.step->PX z L u a->PU L au d->Pq 116 #[O5 k,O5 u.p,Qy p (LA au)] L (QG M k I z es au L c)) :
  Pq 53 #[O5 k,O5 u.p,Qy p (LA au)] w (QG M k I z es au w c):=by
 have b{G}(h:G:=by
 have b{G}(h:G:=by
 have b{G}(h:G:=by
 have b{G}(h:G:=by
 have O:=Y F;have b{G}(h:G:=by
 have b{G}(h:G:=by
 have b{G}(h:G:=by
 have i:(a.2.kd:Int)=12:=by rw[D]
 exact uV):=O6 h;exact nI):=O6 h;exact oa):=O6 h;exact VF):=O6 h;exact jY):=O6 h;exact YA):=O6 h;exact jq):=O6 h;exact jT
def ZR (c:a.2.kd=2)(t:g.steps<=20000)(hst1:g.steps<20000)(p:Pl){d:Option Va}(B:PU w au d){D:Er}{O:Option Va}{aG:St}(f:∀ L,Ms M k I z L g.step->PX z L u a->PU L au d->Pq 108 #[O5 k,O5 u.p,Qy p (LA au)] L (om M k I z es au L ((D,O),aG))) :
  Pq 53 #[O5 k,O5 u.p,Qy p (LA au)] w (QG M k I z es au w ((RS,D,O),aG)):=by
 have b{G}(h:G:=by
 have b{G}(h:G:=by
 have b{G}(h:G:=by
 have b{G}(h:G:=by
 have s:=Y F;have b{G}(h:G:=by
 have b{G}(h:G:=by
 have b{G}(h:G:=by
 have i:(a.2.kd:Int)=2:=by rw[c]
 exact qM):=O6 h;exact nI):=O6 h;exact oa):=O6 h;exact VF):=O6 h;exact jY):=O6 h;exact YA):=O6 h;exact jq):=O6 h;exact jT
def ae8 (c:a.2.kd=3)(t:g.steps<=20000)(hst1:g.steps<20000)(p:Pl){d:Option Va}(B:PU w au d){D:Er}{O:Option Va}{aG:St}(f:∀ L,Ms M k I z L g.step->PX z L u a->PU L au d->Pq 109 #[O5 k,O5 u.p,Qy p (LA au)] L (om M k I z es au L ((D,O),aG))) :
  Pq 53 #[O5 k,O5 u.p,Qy p (LA au)] w (QG M k I z es au w ((RS,D,O),aG)):=by
 have b{G}(h:G:=by
 have b{G}(h:G:=by
 have b{G}(h:G:=by
 have b{G}(h:G:=by
 have s:=Y F;have b{G}(h:G:=by
 have b{G}(h:G:=by
 have b{G}(h:G:=by
 have i:(a.2.kd:Int)=3:=by rw[c]
 exact qM):=O6 h;exact nI):=O6 h;exact oa):=O6 h;exact VF):=O6 h;exact jY):=O6 h;exact YA):=O6 h;exact jq):=O6 h;exact jT
def acB (c:a.2.kd=4)(t:g.steps<=20000)(hst1:g.steps<20000)(p:Pl){d:Option Va}(B:PU w au d){D:Er}{O:Option Va}{aG:St}(f:∀ L,Ms M k I z L g.step->PX z L u a->PU L au d->Pq 109 #[O5 k,O5 u.p,Qy p (LA au)] L (om M k I z es au L ((D,O),aG))) :
  Pq 53 #[O5 k,O5 u.p,Qy p (LA au)] w (QG M k I z es au w ((RS,D,O),aG)):=by
 have b{G}(h:G:=by
 have b{G}(h:G:=by
 have b{G}(h:G:=by
 have b{G}(h:G:=by
 have s:=Y F;have b{G}(h:G:=by
 have b{G}(h:G:=by
 have b{G}(h:G:=by
 have i:(a.2.kd:Int)=4:=by rw[c]
 exact qM):=O6 h;exact nI):=O6 h;exact oa):=O6 h;exact VF):=O6 h;exact jY):=O6 h;exact YA):=O6 h;exact jq):=O6 h;exact jT
def acC (c:a.2.kd=11)(t:g.steps<=20000)(hst1:g.steps<20000)(p:Pl){d:Option Va}(B:PU w au d){D:Er}{O:Option Va}{aG:St}(f:∀ L,Ms M k I z L g.step->PX z L u a->PU L au d->Pq 115 #[O5 k,O5 u.p,Qy p (LA au)] L (om M k I z es au L ((D,O),aG))) :
  Pq 53 #[O5 k,O5 u.p,Qy p (LA au)] w (QG M k I z es au w ((RS,D,O),aG)):=by
 have b{G}(h:G:=by
 have b{G}(h:G:=by
 have b{G}(h:G:=by
 have b{G}(h:G:=by
 have s:=Y F;have b{G}(h:G:=by
 have b{G}(h:G:=by
 have b{G}(h:G:=by
 have i:(a.2.kd:Int)=11:=by rw[c]
 exact qM):=O6 h;exact nI):=O6 h;exact oa):=O6 h;exact VF):=O6 h;exact jY):=O6 h;exact YA):=O6 h;exact jq):=O6 h;exact jT
def aec (c:a.2.kd=15)(t:g.steps<=20000)(hst1:g.steps<20000)(p:Pl){d:Option Va}(B:PU w au d){D:Er}{O:Option Va}{aG:St}(f:∀ L,Ms M k I z L g.step->PX z L u a->PU L au d->Pq 117 #[O5 k,O5 u.p,Qy p (LA au)] L (om M k I z es au L ((D,O),aG))) :
  Pq 53 #[O5 k,O5 u.p,Qy p (LA au)] w (QG M k I z es au w ((RS,D,O),aG)):=by
 have b{G}(h:G:=by
 have b{G}(h:G:=by
 have b{G}(h:G:=by
 have b{G}(h:G:=by
 have s:=Y F;have b{G}(h:G:=by
 have b{G}(h:G:=by
 have b{G}(h:G:=by
 have i:(a.2.kd:Int)=15:=by rw[c]
 exact qM):=O6 h;exact nI):=O6 h;exact oa):=O6 h;exact VF):=O6 h;exact jY):=O6 h;exact YA):=O6 h;exact jq):=O6 h;exact jT
def ZT (E:a.2.kd≠2/\a.2.kd≠3/\a.2.kd≠4/\a.2.kd≠6/\a.2.kd≠7/\a.2.kd≠8/\a.2.kd≠9/\a.2.kd≠10/\a.2.kd≠11/\a.2.kd≠12/\a.2.kd≠15)(bS:g.steps<=20000)(hst1:g.steps<20000)(p:Pl){d:Option Va}(ba:PU w au d) :
  Pq 53 #[O5 k,O5 u.p,Qy p (LA au)] w (QG M k I z es au w ((RS,.no,d),g.step)):=by
 have b{G}(h:G:=by
 have b{G}(h:G:=by
 have b{G}(h:G:=by
 have b{G}(h:G:=by
 have b{G}(h:G:=by
 have b{G}(h:G:=by
 obtain⟨O,ac,aF,ai,aD,aG,aO,aI,t,B,D⟩:=E;obtain⟨aQ,c⟩:=xH a.2.kd;rw[<-c.out] at O ac aF ai aD aG aO aI t B D;clear F aW b3 aY b6;go_enter func53,jC;have b{G}(h:G:=by
 have b{G}(h:G:=by
 rw[<-bq.out] at be A;rw[<-c.out] at A;obtain⟨u0,u1,u2,u3,a8,bx,bA,bC,bB⟩:=RN aN.out;have b{G}(h:G:=by
 refine yM ?_;exact⟨⟨_,rfl,rfl⟩,f,i,a1.Uy s⟩):=O6 h;exact Bl):=O6 h;exact rp):=O6 h;exact mx):=O6 h;exact xc):=O6 h;exact VF):=O6 h;exact jY):=O6 h;exact YA):=O6 h;exact jq):=O6 h;exact jT
