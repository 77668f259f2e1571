import Derived.Test.YticfnaiehdpbmaaGreatDoorFa22
import Derived.Test.YticfnaiehdpbmaaGreatDoorFa23
set_option maxRecDepth 100000
set_option maxHeartbeats 0
set_option linter.all false
namespace Go.Proofs.YticfnaiehdpbmaaGreatDoor
open Go.RowKit Go.Proofs.Tryz
namespace Hp
section
variable {M:Pe} {k I:Nat} {z:List Nat} {T bc a6 a1 aQ:Px} {w w':Pe} {g:St} {am:Nat} {U:Fx} {C:Px} {aC:List Va}
theorem asJ {b:Mo}(f:b.Ok){a:Int}(i:0<=a):-1<=b.hA a/\b.hA a<a:=by
 unfold Mo.hA
 rcases QF b a with ⟨c,_⟩|⟨e,x,rfl,d,c⟩
 ·rw[c];exact⟨by decide,by show (-1:Int)<a;omega⟩
 ·rw[c];exact f.out e x d
theorem asK (aF:Ms M k I z w g)(ax:Sz am g)(bH:am<1000000000){au:Ad}{d:Nd}(bI:PX z w au d)(bD:d.2.count<=1500)(A:Pl)(o:Option Addr)(L:0<=A.scope/\A.scope<g.M.Pz.length) :
  Pq 339 #[O5 k,O5 au.p,Qy A o] w λn w'=>n=PK (Pv (hidden g.M d.2 A))/\Pn w w':=by
 have bY:=aF.lt;have b{G}(h:G:=by
 have bE:=Y F;have aL:=Bg (bI.kp (Kp.of ap)) bD;obtain⟨f,S⟩:=xE (Tv d.2);rw[<-S] at aL;have b2:f.length<=3000:=by
  have b{G}(h:G:=by
  have i:=hp SH d.2.fJ;have e:=Si d.2;rw[S];unfold Tv;rw[gj,gu];show _+(d.2.fJ.filter SH).length<=_;omega):=O6 h;exact uR
 obtain⟨c,D⟩:=xE g.M;obtain⟨v,a7⟩:=xH (λaK=>oQ c aK q (c.Pz.length+1) l:Py->Bool);obtain⟨R,ai⟩:=xH (f.any v);have bf:hidden g.M d.2 ⟨l,q,r⟩=R:=by rw[ai.out,a7.out,S,D];rfl
 rw[bf];have bi:=Y (λu (B:Pn w u) (a:Int) (aK:Py)=>by
  obtain⟨_,_,_,_,p⟩:=aF.fH B;exact aAj p.hh ax.go.sm (P6 bH) a aK)
 have bj:=Y (λu (B:Pn w u) (a:Int)=>by
  obtain⟨_,_,_,_,p⟩:=aF.fH B;exact awq p.hh a)
 rw[<-D] at bi bj L;have bL:c.Ok:=by rw[D];exact ax.go.ok
 have bT:c.Pz.length<=1000000000:=by have:=ax.go.sm.r;rw[D];omega
 obtain⟨b6,ba⟩:=xE au.p;rw[<-ba] at aL ⊢;have bV:0<=l:=L.1;have bK:l<c.Pz.length:=L.2;clear F S D bf ba L;go_enter func339,ntmps339;go_wp2_with fail;rw[<-aV.out,<-aD];clear aD;refine cm aL ?_;rintro n be ⟨⟨u3,rfl,bu⟩,bh⟩;obtain⟨b9,b0,bN⟩:=PW bu;subst bN;have bF:=ap.trans (bh.mono ap.size);have bx:=Y (fQ bh bE.out);go_wp2_with fail
 go_loopw [14] (λs wr=>∃ j:Nat,j<=f.length/\s=O3 j/\(f.take j).any v=false/\Pn w wr/\Pn be wr) (λs _=>f.length - (intOf s).toNat)
 case atStart=>exact⟨0,f3 _,rfl,rfl,bF,RP⟩
 case round=>
  obtain⟨j,bR,rfl,br,aJ,aN⟩:=hrel;have aU:=Y br;have bU:=aJ.size;clear br
  by_cases ay:j<f.length
  ·obtain⟨b1,bZ,bo,b3,_,bn⟩:=Vg (Qg bu aN) j ay;simp only[g7] at bo;obtain⟨rfl,_,rfl⟩:=bo;have aW:(j:Int)<(f.length:Int):=O9;obtain⟨x,p⟩:=xE (f[j]);rw[<-p] at bn;have aI:=Y p;obtain⟨H,X,N,O,_,P⟩:=fN (fQ aN bx.out);clear p;go_wp2_with fail;clear bn H X N O P
   go_loopw [9] (λs i=>∃ (a:Int) (e:Nat),s=O3 a/\-1<=a/\a<c.Pz.length/\a<e/\oQ c x q e a=v x/\Pn w i/\Pn be i) (λs _=>((intOf s)+1).toNat)
   case atStart=>exact⟨l,c.Pz.length+1,rfl,by omega,bK,by omega,by rw[a7.out],aJ,aN⟩
   case round=>
    obtain⟨a,e,rfl,b7,b4,bS,a8,ah,aX⟩:=hrel;have ac:=Y a8;have bO:=ah.size;clear a8
    by_cases ad:a = -1
    ·subst ad;have i:v x=false:=by
      rw[<-ac.out]
      cases e with
      | zero=>rfl
      | succ e=>rw[oQ,fL rfl]
     have aS:=Y i;clear i;go_wp2_with fail;refine⟨⟨j+1,by omega,by go_num,?_,ah,aX⟩,by simp[intOf];omega⟩
     rw[g3 ay,kj,aU.out,<-aI.out];simp[aS.out]
    ·obtain⟨e,rfl⟩:∃ bG,e=bG+1:=⟨e - 1,by omega⟩;have bC:0<=a:=O9;obtain⟨m,ak⟩:=xE (c.kindOf a x);have i:oQ c x q (e+1) a=if m=1\/m=2 then true else if a=q then false else oQ c x q e (c.hA a):=by rw[oQ,fK ad,ak]
     have bA:=O4 bi wr ah a x;rw[<-ak] at bA;have b8:k<wr.heap.size:=O9;clear ak
     by_cases t:m=1\/m=2
     ·have aj:v x=true:=by rw[<-ac.out,i,fL t]
      have aO:R=true:=by
       rw[ai.out];refine j8.2 ⟨f[j],gT _,?_⟩;rw[<-aI.out];exact aj
      subst aO;clear i aj
      by_cases aG:m=1
      ·subst aG;clear t;exact Cf
      ·have bm:m=2:=O9;subst bm;clear t aG;exact Cf
     ·rw[fK t] at i;have aG:(m==1)=false:=gG.2 λn=>t (.inl n);have bm:(m==2)=false:=gG.2 λn=>t (.inr n);clear t
      by_cases aO:a=q
      ·rw[fL aO] at i;have aS:Hid (v x=false):=ac.out.symm.trans i;clear i;subst aO;have b{G}(h:G:=by
       obtain⟨H,X,N,O,_,P⟩:=fN bz.out;go_wp2_with fail;refine⟨⟨j+1,by omega,by go_num,?_,E,aY⟩,by simp[intOf];omega⟩
       rw[g3 ay,kj,aU.out,<-aI.out];simp[aS.out]):=O6 h;exact wT
      ·rw[fK aO] at i;have bq:=Y i;obtain⟨bM,aj⟩:=xE (c.hA a);have bv:=asJ bL bC;rw[<-aj] at bq bv;have aZ:=Y (λu (B:Pn w u)=>O4 bj u B a);rw[<-aj] at aZ;clear i aj;have b{G}(h:G:=by
       obtain⟨H,X,N,O,_,P⟩:=fN bz.out;go_wp2_with fail;refine cm (O4 aZ _ E) ?_;rintro n bW ⟨rfl,rfl⟩;clear H X N O P;go_wp2_with fail;exact⟨⟨bM,e,rfl,bv.1,by omega,by omega,bq.out.symm.trans ac.out,E,aY⟩,by simp[intOf];omega⟩):=O6 h;exact wT
  ·have b{G}(h:G:=by
   go_wp2;go_ret;refine⟨?_,aJ⟩;have h:=O4 aU;rw[gO] at h;rw[ai.out,h];rfl):=O6 h;exact tB):=O6 h;exact m9
theorem aw6 (e:Mx M k I z bc a6 a1 aQ w g)(i:Sz am g)(l:am<1000000000)(b:Int)(a:Py)(c:Va) :
  Pq 267 #[O5 k,O3 b,Pj a,vA c] w λf w'=>f=PK (U4 (g.M.write b a c).1)/\Mx M k I z bc a6 a1 aQ w' { g with M:=(g.M.write b a c).2 }/\Ql Th k w w':=by
 refine(yC e.hh i.go.sm (P6 l) b a c).mono ?_;rintro f w' ⟨rfl,j,d⟩;exact⟨rfl,e.heap j d,d⟩
def jO (a:Int)(c:List Py)(b:Nat)(g:St):St:=(c.take b).foldl (λg d=>gA a d g) g
theorem FG (d:Int)(b:List Py)(a:Nat)(g:St)(c:a<b.length):jO d b (a+1) g=gA d b[a] (jO d b a g):=by
 unfold jO;exact rm
theorem Sz.gA (h:Sz am g)(b:Int)(a:Py):Sz (am+1) (gA b a g):=by
 unfold Hp.gA
 split
 ·exact h.up (ge _)
 ·split
  ·exact h.Rj _ _ _ _
  ·exact h.hi _ _ _ _
theorem MK (b:Int)(a:Py)(g:St):(gA b a g).M.Pz.length=g.M.Pz.length:=by
 unfold gA
 split
 ·rfl
 ·split
  ·exact wc _ _ _ _ _
  ·exact V7 _ _ _ _ _
theorem apj (c:Int)(a:List Py)(b:Nat):∀ {g:St},(jO c a b g).M.Pz.length=g.M.Pz.length:=by
 intro g;unfold jO
 generalize a.take b=e
 induction e generalizing g with
 | nil=>rfl
 | cons f a d=>exact d.trans (MK _ _ _)
theorem Sz.jO (c:Int)(b:List Py):∀ (a:Nat) {g:St},Sz am g->a<=b.length->Sz (am+a) (jO c b a g)
 | 0,_,h,_=>h
 | a+1,g,h,d=>by
  rw[FG c b a g O9];exact(Sz.jO c b a h O9).gA _ _
def ql (b:Pl)(a:Nd)(g:St):St:={ (f5 a b g).2 with M:=((f5 a b g).2.M.write b.gh a.2.tx (f5 a b g).1).2 }
def kU (c:Pl)(b:List Nd)(a:Nat)(g:St):St:=(b.take a).foldl (λg a=>ql c a g) g
theorem GA (d:Pl)(a:List Nd)(b:Nat)(g:St)(c:b<a.length):kU d a (b+1) g=ql d a[b] (kU d a b g):=by
 unfold kU;exact rm
theorem Sz.ql (h:Sz am g)(b:Pl)(a:Nd):Sz (am+2) (ql b a g):=(h.f5 a b).heap (ge _) ((h.f5 a b).go.write _ _ _) (Zh _ _ _ _)
theorem Sz.kU (c:Pl)(b:List Nd):∀ (a:Nat) {g:St},Sz am g->a<=b.length->Sz (am+2 * a) (kU c b a g)
 | 0,_,h,_=>h
 | a+1,g,h,d=>by
  rw[GA c b a g O9];exact(Sz.kU c b a h O9).ql _ _
theorem alN (a:Nd)(b:Pl)(g:St):PI a b g=if 0<(Qd a.2).length then
   ({ b with scope:=(jO b.gh (Tv a.2) (Tv a.2).length g).gg },kU { b with scope:=(jO b.gh (Tv a.2) (Tv a.2).length g).gg } (Ul a) (Ul a).length (QS (Qd a.2) (jO b.gh (Tv a.2) (Tv a.2).length g).gg ((jO b.gh (Tv a.2) (Tv a.2).length g).gq b.scope (-1) (-3))))
  else (b,kU b (Ul a) (Ul a).length (jO b.gh (Tv a.2) (Tv a.2).length g)):=by
 unfold PI kU jO;rw[gO,gO];simp only
 split <;> rfl
theorem KJ (E:Mx M k I z bc a6 a1 aQ w g)(dx:Sz am g)(fe:am+9000<1000000000){u:Ad}{d:Nd}(aJ:PX z w u d)(em:d.2.count<=1500)(ak:∀ j ∈ Ul d,j.2.fJ.length=2)(aI:Pl)(o:Option Addr)(dI:0<=aI.scope/\aI.scope<g.M.Pz.length) :
  Pq 340 #[O5 k,O5 u.p,Qy aI o] w λm w'=>m=PK (Qy (PI d aI g).1 o)/\∃ ds dt,Mx M k I z bc a6 ds dt w' (PI d aI g).2/\SL k a1 aQ ds dt w w':=by
 have en:=E.lt;have b1:=alN d aI g;obtain⟨l,q,r⟩:=aI;obtain⟨w2,cq⟩:=xH ((w.alloc (.cells #[O3 l,O3 q,Pv r,.pointer o] 73)).alloc (.cells #[O3 0,O3 0,Pv false,Ry] 73));have b{G}(h:G:=by
 have dH:w2.heap[H]? = some (PZ #[O3 0,O3 0,Pv false,Ry] 73):=uK
 have ew:W≠H:=O9;have dA:w.heap.size<=H:=O9;have eq:w.heap.size<=W:=O9;have fa:=Si d.2;have bL:=aJ.kp (Kp.of ap);have cL:=Bg bL em;obtain⟨f,b0⟩:=xE (Tv d.2);obtain⟨s,hv⟩:=xE (Ul d);obtain⟨cO,bI⟩:=xH (Qd d.2);obtain⟨ah,cy⟩:=xE (u.ks.filter λj=>SH j.tr);obtain⟨cR,bG⟩:=xE (u.ks.filter λj=>Qk j.tr);have ci:UW z w2 ah s:=by rw[cy,hv];exact UW.filter SH _ _ bL.lT
 have eR:ah.length=s.length:=UW.len _ _ ci;have e8:cR.length=cO.length:=by
  rw[bG,bI.out]
  show _=(d.2.fJ.filter Qk).length
  have ad:d.2.fJ=u.ks.map Ad.tr:=by rw[<-aJ.tr];exact u.s0.2.2
  rw[ad,mJ,gu];rfl
 have fk:s.length<=1500:=Lw
 have e7:cO.length<=1500:=by
  have dR:=hp Qk d.2.fJ;rw[bI.out];show (d.2.fJ.filter Qk).length<=_;omega
 have fd:f.length<=3000:=by
  have b{G}(h:G:=by
  have dR:=hp SH d.2.fJ;rw[b0];unfold Tv;rw[gj,gu];show _+(d.2.fJ.filter SH).length<=_;omega):=O6 h;exact uR
 rw[<-b0] at cL;rw[<-b0,<-hv,<-bI.out] at b1;rw[<-hv] at ak;obtain⟨dL,dD⟩:=xE (PI d ⟨l,q,r⟩ g);rw[<-dD] at b1 ⊢;obtain⟨fh,dz⟩:=xH u.p;have de:=E.fH ap;have d2:=SL.of (o:=a1) (f:=aQ) ap (P6 en);have ep:=Y F;have eo:=Y dH;have cu:=Y (λL (i:Tf (λ_=>True) L u)=>Fk u L i (by rw[aJ.ks];omega))
 have cY:=Y (λL (i:Tf (λ_=>True) L u)=>Yu u L i (by rw[aJ.ks];omega))
 rw[<-bG] at cu;rw[<-cy] at cY;have cM:=Y b1;have eQ:=Y ak;have cl:=Y dA;rw[<-dz.out] at cL cu cY ⊢;clear E F dH b1 dD b0 hv cy bG ak dA;go_enter func340,ntmps340;go_wp2_with fail;refine iz ?_;clear bu bh;refine cm cL ?_;have b{G}(h:G:=by
 have ey:=Y (fQ aV ep.out);have ed:=Y (fQ aV eo.out);have eB:Kp w2 dZ:=Kp.of aV;go_wp2_with fail
 go_loopw [14] (λn wr=>∃ j:Nat,j<=f.length/\n=O3 j/\Mx M k I z bc a6 a1 aQ wr (jO q f j g)/\SL k a1 aQ a1 aQ w wr/\wr.heap[W]? = some (PZ #[O3 l,O3 q,Pv r,.pointer o] 73)/\wr.heap[H]? = some (PZ #[O3 0,O3 0,Pv false,Ry] 73)/\SQ w2.heap.size wr (.slice d4 f.length d1) f/\Kp w2 wr) (λn _=>f.length - (intOf n).toNat)
 case atStart=>exact⟨0,f3 _,rfl,d3,d0,ey.out,ed.out,dg,eB⟩
 case round=>
  obtain⟨j,eL,rfl,aZ,bT,cn,a7,dK,bV⟩:=hrel;have b{G}(h:G:=by
  by_cases ax:j<f.length
  ·obtain⟨eP,eN,B,dU,_,bO⟩:=Vg dK j ax;have b{G}(h:G:=by
   have aW:(j:Int)<(f.length:Int):=O9;obtain⟨x,E⟩:=xE (f[j]);rw[<-E] at bO;have c:=Y E;obtain⟨bM,aD⟩:=xE (jO q f j g);rw[<-aD] at ac;have b7:Sz (am+j) bM:=by rw[aD];exact Sz.jO q f j dx O9
   have a:=asI ac b7 O9 q x;have A:=Y aD;obtain⟨bf,bx,bq,br,_,bv⟩:=fN bC.out;clear E aD;go_wp2_with fail;refine cm a ?_;rintro m bK ⟨rfl,cf,t⟩;have cV:=cf;have c8:=aK.Ya t;have dd:=Y (t.rest _ _ _ bC.out Pm);have c9:=Y (t.rest _ _ _ au.out Pm);have D:=PV dK t Pm;have dc:Kp w2 bK:=λN e m O p=>Ql.kp t N e m (aj N e m O p) p;clear bf bx bq br bv bO;go_wp2_with fail;refine⟨⟨j+1,by omega,by go_num,?_,c8,dd.out,c9.out,D,dc⟩,by simp[intOf];omega⟩
   rw[FG q f j g ax,<-c.out,<-A.out];exact cV):=O6 h;exact UM
  ·have b{G}(h:G:=by
   obtain⟨bD,b2⟩:=xE (jO q f f.length g);rw[<-b2] at ac cM;have cK:Sz (am+3000) bD:=by rw[b2];exact(Sz.jO q f f.length dx Qp).up O9
   have eu:=O4 cu wr (Tf.kp aj _ bL.at_);have ej:Hid ((bD.M.ro l).isSome=true):=Po.some (p:=⟨l,q,r⟩) ⟨dI.1,by rw[b2,apj];exact dI.2⟩
   clear b2;go_wp2_with fail;refine cm eu ?_;rintro m dy ⟨⟨u4,rfl,eJ⟩,bE⟩;obtain⟨fg,fb,ek⟩:=eJ.form;subst ek;have bF:=ac.fH bE;have dE:=aK.trans (SL.of bE (P6 bY));have cC:=Y (fQ bE bC.out);have dF:=Y (fQ bE au.out);have dJ:Kp w2 dy:=λN e m O p=>Kp.of bE N e m (aj N e m O p) p;have fc:=bF.lt
   by_cases dG:0<cO.length
   ·have bG:(cR.length:Int) > 0:=O9;obtain⟨a,aN⟩:=xE (bD.gg:Int);obtain⟨cP,b4⟩:=xE (bD.gq l (-1) (-3));obtain⟨D,ai⟩:=xE (QS (Qd d.2) a cP);have dP:Hid (dL=(⟨a,q,r⟩,kU ⟨a,q,r⟩ s s.length D)):=by
     show _=_
     rw[cM.out,fL dG,ai,b4,aN,<-bI.out]
    have dC:=pi bF cK O9 l (-1) (-3) ej.out;rw[<-aN,<-b4] at dC;have dr:Sz (am+3001) cP:=by rw[b4];exact cK.gq _ _ _
    have dN:Sz (am+5000) D:=by
     show Sz _ _
     rw[ai];refine(dr.lets (Qd d.2) a).up ?_;rw[<-bI.out];omega
    have dM:=Y (λL ez cT (i:Mx M k I z bc a6 ez cT L cP) (eK:PX z L u d)=>uI i dr eK O9 O9 a);rw[<-ai,<-dz.out] at dM;obtain⟨bf,bx,bq,br,aS,bv⟩:=fN cC.out;clear aN b4 ai;go_wp2_with fail;refine cm dC ?_;rintro m cw ⟨rfl,ee,eH,cz⟩;have dq:=cz.jn (o:=none) bF;have ec:=dE.trans cz;have cB:=Y (dq.fR cC.out Pm);have eC:=Y (dq.fR dF.out Pm);have eE:Kp w2 cw:=λN e m O p=>cz.kp bF N e m (dJ N e m O p) p;clear bf bx bq br aS bv
    obtain⟨bf,bx,bq,br,aS,bv⟩:=fN cB.out;have eI:=aS 0;clear aS;go_wp2_with fail;have eG:k<=W:=O9;have cr:=Xq (b:=0) cB.out eG (O3 a);obtain⟨dB,cA⟩:=xE (cw.setCell (O7 W 0) (O3 a));have cJ:=eH.ie cr Pm;have cp:=ZB cB.out (O3 a);have eD:Hid (dB.heap[H]? = some (PZ #[O3 0,O3 0,Pv false,Ry] 73)):=by
     show _=_
     rw[cA,gV _ _ _ _ (h6 ew)];exact O4 eC
    have cD:=ec.new cr (tY eq _);have cG:Kp w2 (cw.setCell (O7 W 0) (O3 a)):=λN e m O p=>cr.rest N e m (eE N e m O p) (by rcases p with rfl|rfl <;> decide);rw[<-cA] at cJ cp cD cG ⊢;have eF:=Y cp;clear cA cp bf bx bq br eI bv;have fi:=cJ.lt;refine cm (O4 dM dB _ _ cJ (bL.kp cG)) ?_;rintro m aG ⟨rfl,cQ,b3⟩;obtain⟨be,aX⟩:=xE ee;rw[<-aX] at cQ cD;have bR:=cQ;have dk:=cD.Ya b3;have di:=Y (b3.rest _ _ _ eF.out Pm);have dj:=Y (b3.rest _ _ _ eD.out Pm)
    have bU:Kp w2 aG:=λN e m O p=>Ql.kp b3 N e m (cG N e m O p) p;have dl:=cQ.lt;clear aX;exact Cj
   ·have bG:¬ (cR.length:Int) > 0:=O9;obtain⟨a,aN⟩:=xE (l:Int);obtain⟨D,ai⟩:=xE bD;obtain⟨aG,aS⟩:=xE dy;obtain⟨be,aX⟩:=xE a1;have dP:Hid (dL=(⟨a,q,r⟩,kU ⟨a,q,r⟩ s s.length D)):=by
     show _=_
     rw[cM.out,fK dG,ai,aN]
    have dN:Sz (am+5000) D:=by show Sz _ _;rw[ai];exact cK.up O9
    have bR:Mx M k I z bc a6 be aQ aG D:=by show Mx _ _ _ _ _ _ _ _ _ _;rw[aX,aS,ai];exact bF
    have dk:SL k a1 aQ be aQ w aG:=by show SL _ _ _ _ _ _ _;rw[aX,aS];exact dE
    have di:Hid (aG.heap[W]? = some (PZ #[O3 a,O3 q,Pv r,.pointer o] 73)):=by show _=_;rw[aS,aN];exact O4 cC
    have dj:Hid (aG.heap[H]? = some (PZ #[O3 0,O3 0,Pv false,Ry] 73)):=by show _=_;rw[aS];exact O4 dF
    have bU:Kp w2 aG:=by show Kp _ _;rw[aS];exact dJ
    have dl:=bR.lt;rw[<-aS];clear aN ai aS aX;exact Cj):=O6 h;exact tB):=O6 h;exact Ao):=O6 h;exact JM):=O6 h;exact jq
def rn (a:Er)(b:Option Va)(g:St):(Va × Er) × St:=match a with
 | .no=>((b.getD vU,.no),g)
 | a=>((vU,a),g)
section
variable {a:Nat} {x y d e:Px} {c:TypeId} (h:w.heap[a]? = some (PZ #[x,y,d,e] c)) (b:Px)
include a x y d e c h b
theorem aw7:(w.setCell (O7 a 3) b).heap[a]? = some (PZ #[x,y,d,b] c):=hk w a 3 _ c b h
theorem DM:(w.setCell (O7 a 2) b).heap[a]? = some (PZ #[x,y,b,e] c):=hk w a 2 _ c b h
theorem aw8:(w.setCell (O7 a 1) b).heap[a]? = some (PZ #[x,b,d,e] c):=hk w a 1 _ c b h
end
section
variable (ay:ig T) (bB:Mx M k I z bc a6 a1 aQ w g) (dp:Sz am g) (dX:am+10000<1000000000) {u:Ad} {a:Nd} (aJ:PX z w u a) (dH:a.2.count<=1500) (ak:∀ j ∈ Ul a,j.2.fJ.length=2) (f o:Int) (aK:Option Addr) (dq:0<=f/\f<g.M.Pz.length) {aZ:(Va × Er) × St} (di:Pl->St->Prop) (aW:di ⟨g.gg,g.gg,true⟩ (g.gq f (-1) (-3))) (cG:∀ L C (i:Nat) (cg:Pl) (cf:St),k<=i->di cg cf->Ms M k I z L (PI a cg cf).2->TY 0 L C u.ks->UW z L u.ks (QB a)->PU L (some i) (some vU)->Pq 28 #[O5 k,C,Qy (PI a cg cf).1 (LA (some i))] L (QG M k I z T (some i) L (SG U (PI a cg cf).1 (QB a) (some vU) (PI a cg cf).2))) (aG:aZ=rn (SG U (PI a ⟨g.gg,g.gg,true⟩ (g.gq f (-1) (-3))).1 (QB a) (some vU) (PI a ⟨g.gg,g.gg,true⟩ (g.gq f (-1) (-3))).2).1.2.1 (SG U (PI a ⟨g.gg,g.gg,true⟩ (g.gq f (-1) (-3))).1 (QB a) (some vU) (PI a ⟨g.gg,g.gg,true⟩ (g.gq f (-1) (-3))).2).1.2.2 (SG U (PI a ⟨g.gg,g.gg,true⟩ (g.gq f (-1) (-3))).1 (QB a) (some vU) (PI a ⟨g.gg,g.gg,true⟩ (g.gq f (-1) (-3))).2).2)
include ay bB dp dX u a aJ dH ak f o aK dq aZ di aW cG aG
theorem asL :
  Pq 322 #[O5 k,O5 u.p,Qy ⟨f,o,true⟩ aK] w (P5 M k I z T w aZ):=by
 have aS:=bB.lt;obtain⟨aj,cq⟩:=xH ((w.alloc (.cells #[O3 f,O3 o,Pv true,.pointer aK] 73)).alloc (.cells #[O3 0,O3 0,Qn] 65));have b{G}(h:G:=by
 have F:aj.heap[W]? = some (PZ #[O3 f,O3 o,Pv true,.pointer aK] 73):=by rw[cq.out,bu];exact fY (Ph _ _)
 have bq:aj.heap[H]? = some (PZ #[O3 0,O3 0,Qn] 65):=by
  rw[cq.out,bh,show w.heap.size+1=(w.alloc (.cells #[O3 f,O3 o,Pv true,.pointer aK] 73)).heap.size by simp];exact Ph _ _
 have b{G}(h:G:=by
 obtain⟨q,aD⟩:=xH u.p;have b{G}(h:G:=by
 have b{G}(h:G:=by
 have dC:=Y cG;have a7:=Y bO;have bT:=aF.lt;have b{G}(h:G:=by
 obtain⟨aY,bF⟩:=xE aj;have cC:Mx M k I z bc a6 a1 aQ aY g:=by show Mx _ _ _ _ _ _ _ _ _ _;rw[bF];exact aF
 have dD:Hid (aY.heap[W]? = some (PZ #[O3 f,O3 o,Pv true,.pointer aK] 73)):=by show _=_;rw[bF];exact O4 bx
 have cS:Hid (aY.heap[H]? = some (PZ #[O3 0,O3 0,Qn] 65)):=by show _=_;rw[bF];exact O4 c9
 have cT:P8 none k w aY:=by show P8 _ _ _ _;rw[bF];exact dc
 have cu:Kp aj aY:=λN e m O _=>by rw[bF];exact O
 rw[<-bF];clear bu bh bF;exact HN):=O6 h;exact ER):=O6 h;exact qb):=O6 h;exact pU):=O6 h;exact pE):=O6 h;exact sL
theorem NY (b2:PO a.2=true) :
  Pq 322 #[O5 k,O5 u.p,Qy ⟨f,o,false⟩ aK] w (P5 M k I z T w aZ):=by
 have b{G}(h:G:=by
 have b{G}(h:G:=by
 have b{G}(h:G:=by
 have b{G}(h:G:=by
 obtain⟨q,aD⟩:=xH u.p;have b{G}(h:G:=by
 have b{G}(h:G:=by
 have dC:=Y cG;have b{G}(h:G:=by
 clear b2;have b{G}(h:G:=by
 have cp{G}(h:G:=by
 have bT:=Xq (b:=2) bx.out bD (Pv true);have c8:=DM bx.out (Pv true);obtain⟨aY,bF⟩:=xE (aj.setCell (O7 W 2) (Pv true));rw[<-bF] at bT c8 ⊢;have cC:=aF.ie bT Pm;have dD:=Y c8;have cp{G}(h:G:=by
 clear bF c8 bV b0 bW bY dn bZ;exact HN):=O6 h;exact HG):=O6 h;exact DL):=O6 h;exact ER):=O6 h;exact xg):=O6 h;exact qb):=O6 h;exact pU):=O6 h;exact pE):=O6 h;exact vX):=O6 h;exact sL):=O6 h;exact Ab
end
theorem asN (bB:Mx M k I z bc a6 a1 aQ w g)(cC:Sz am g)(ay:am+10000<1000000000){u:Ad}{a:Nd}(aJ:PX z w u a)(cD:a.2.count<=1500)(f o:Int)(aK:Option Addr)(b9:0<=f/\f<g.M.Pz.length){i:(Va × Er) × St}
   (aG:i=((vU,f0 U1),g)) (b2:PO a.2=false) (ch:hidden g.M a.2 ⟨f,o,false⟩=true) :
  Pq 322 #[O5 k,O5 u.p,Qy ⟨f,o,false⟩ aK] w (P5 M k I z T w i):=by
 have b{G}(h:G:=by
 have b{G}(h:G:=by
 have b{G}(h:G:=by
 have b{G}(h:G:=by
 obtain⟨q,aD⟩:=xH u.p;have b{G}(h:G:=by
 have b{G}(h:G:=by
 have b{G}(h:G:=by
 have b{G}(h:G:=by
 rw[<-aD.out];clear F bq aG b9 b2 ch;have b{G}(h:G:=by
 refine cm (O4 cG aY ⟨_,_,_,_,cf⟩ (bf.kp cu)) ?_;rintro m A ⟨rfl,d⟩;have t:=Y (fQ d cS.out);have p:Ms M k I z A g:=⟨_,_,_,_,cf.fH d⟩;have D:=cT.trans (P8.of (L:=none) d (P6 dp));have l:=p.lt;clear bF cA bV b0 bW bY dn bZ;go_wp2_with fail;refine cm (Vz (es:=T) l U1) ?_;rintro m wb ⟨⟨s,rfl,r⟩,c⟩;have bG:=Y (fQ c t.out);have dq:=p.fH c;have ci:=D.trans (P8.of (L:=none) c (P6 l));obtain⟨S,E,ac,ad,ai,ak,aI⟩:=Qb bG.out
 have b{G}(h:G:=by
 refine zJ ?_;rw[cU.out];exact⟨⟨_,rfl,r.Rf b3 Pm⟩,bv,bR⟩):=O6 h;exact zz):=O6 h;exact EB):=O6 h;exact LR):=O6 h;exact xg):=O6 h;exact qb):=O6 h;exact pU):=O6 h;exact pE):=O6 h;exact vX):=O6 h;exact sL):=O6 h;exact Ab
theorem asO (ay:ig T)(bB:Mx M k I z bc a6 a1 aQ w g)(cC:Sz am g)(dB:am+10000<1000000000){u:Ad}{a:Nd}(aJ:PX z w u a)(cD:a.2.count<=1500)(ak:∀ j ∈ Ul a,j.2.fJ.length=2)(f o:Int)(aK:Option Addr)(b9:0<=f/\f<g.M.Pz.length){aZ:(Va × Er) × St}
  (dg:Pl->St->Prop) (aW:dg ⟨f,o,false⟩ g)
  (c8:∀ L C (i:Nat) (c:Pl) (b:St),k<=i->dg c b->Ms M k I z L (PI a c b).2->TY 0 L C u.ks->UW z L u.ks (QB a)->PU L (some i) (some vU)->Pq 28 #[O5 k,C,Qy (PI a c b).1 (LA (some i))] L (QG M k I z T (some i) L (SG U (PI a c b).1 (QB a) (some vU) (PI a c b).2)))
  (aG:aZ=rn (SG U (PI a ⟨f,o,false⟩ (g)).1 (QB a) (some vU) (PI a ⟨f,o,false⟩ (g)).2).1.2.1 (SG U (PI a ⟨f,o,false⟩ (g)).1 (QB a) (some vU) (PI a ⟨f,o,false⟩ (g)).2).1.2.2 (SG U (PI a ⟨f,o,false⟩ (g)).1 (QB a) (some vU) (PI a ⟨f,o,false⟩ (g)).2).2) (b2:PO a.2=false) (ch:hidden g.M a.2 ⟨f,o,false⟩=false) :
  Pq 322 #[O5 k,O5 u.p,Qy ⟨f,o,false⟩ aK] w (P5 M k I z T w aZ):=by
 have b{G}(h:G:=by
 have b{G}(h:G:=by
 have b{G}(h:G:=by
 have b{G}(h:G:=by
 obtain⟨q,aD⟩:=xH u.p;have b{G}(h:G:=by
 have b{G}(h:G:=by
 have dt:=Y c8;have b{G}(h:G:=by
 have b{G}(h:G:=by
 have dh:=Y aW;obtain⟨bQ,cB⟩:=xH g;have dq:Sz (am+1) bQ:=by show Sz _ _;rw[cB.out];exact cC.up O9
 rw[<-cB.out] at dh cU b9;rw[<-aD.out];clear F bq aG b2 ch c8 aW;have b{G}(h:G:=by
 have dx:=Y cA;refine cm (O4 cG aY ⟨_,_,_,_,cf⟩ (bf.kp cu)) ?_;rintro m bG ⟨rfl,b7⟩;have cO:Mx M k I z bc a6 a1 aQ bG bQ:=by show Mx _ _ _ _ _ _ _ _ _ _;rw[cB.out];exact cf.fH b7
 have cK:=Y (fQ b7 dx.out);have dk:=Y (fQ b7 cS.out);have cM:=cT.trans (P8.of (L:=none) b7 (P6 dp));have dl:Kp aj bG:=λN e m O B=>Kp.of b7 N e m (cu N e m O B) B;clear bF cA bV b0 bW bY dn bZ bD;obtain⟨bV,b0,bW,bY,bo,bZ⟩:=fN cK.out;have dy:=bo 3;clear bo;go_wp2_with fail;have b{G}(h:G:=by
 clear b4 ck dm cP dj cJ cL bV b0 bW bY dy bZ;have cg:=bf.kp dK;obtain⟨ua,l,bv,dd⟩:=cg.ar;obtain⟨bK,da⟩:=xE a.2.fJ.length;rw[<-da] at bv dd;rw[<-aD.out] at bv;obtain⟨dz,bR⟩:=xE ((PI a ⟨f,o,false⟩ bQ).1);obtain⟨bU,bC⟩:=xE ((PI a ⟨f,o,false⟩ bQ).2);have cr:=Y (λL (t:Pn d L)=>KJ (cw.fH t) dq O9 (cg.kp (Kp.of t)) cD ak ⟨f,o,false⟩ (some (O7 i 0)) b9);rw[<-bR,<-bC,<-aD.out] at cr
 rcases ci:SG U dz (QB a) (some vU) bU with ⟨⟨A,E,b6⟩,b3⟩
 have cV:=Y (λL (ah:Ms M k I z L bU) (p:Kp d L) (ba:PU L (some i) (some vU))=>O4 dt L (.slice ua bK l) i ⟨f,o,false⟩ bQ dI dh.out (by rw[<-bC];exact ah) (dd.kp p) (UW.kp p _ _ cg.lT) ba)
 have b{G}(h:G:=by
 have di:∃ e,d.heap[q]? = some (PZ e 40):=by
  have ad:=cg.at_;rw[aD.out];exact ws
 have de:=Y di;clear bv da ci di bR bC;have ai:d.drew.heap[W]? = some (PZ #[O3 f,O3 o,Pv false,PL i 0] 73)/\d.drew.cell? (O7 q 3)=some (.slice ua bK l):=⟨fQ (f2 d.heap.size d).drew bI.out,PN (f2 d.heap.size d).drew bE.out⟩;refine WJ (H:=λwz D s=>SB M k I z T (some i) d A E b6 b3 wz D s) (G:=?GG) (λaN=>?ways) ?rest
 case ways=>
  have au:Pn d d.drew:=RP.drew;refine Qq 9 (λL=>L.heap[W]? = some (PZ #[O3 f,O3 o,Pv false,PL i 0] 73)/\L.cell? (O7 q 3)=some (.slice ua bK l)) Qs ?_;refine up 0 k 0 ai ?_;refine up 1 q 0 ai ?_;refine up 2 q 0 ai ?_;refine up 3 q 3 ai ?_;refine uc 4 (.slice ua bK l) rfl (fM ⟨by kernel_rfl,λL t=>by have aO:=t.2;go_simp⟩) (ai) ?_
  refine up 5 k 0 ai ?_;refine up 6 q 0 ai ?_;refine uc 7 (.agg #[O3 f,O3 o,Pv false,PL i 0]) rfl (fM ⟨by kernel_rfl,λL t=>by have aO:=(fN t.1).1;have ad:=(fN t.1).2.1;have ak:=(fN t.1).2.2.1;have dA:=(fN t.1).2.2.2.1;go_simp⟩) (ai) ?_
  refine jS 8 13 (λK c=>?_) λK c=>?_
  ·have b{G}(h:G:=by
   have bm:p.heap[W]? = some (PZ #[O3 f,O3 o,Pv false,PL i 0] 73)/\p.cell? (O7 q 3)=some (.slice ua bK l):=⟨be.fR (fQ au bI.out) Pm,by
    obtain⟨e,O⟩:=O4 de;exact(aV.kp ax).YJ (PN au bE.out) ⟨e,fQ au O⟩⟩
   have b{G}(h:G:=by
   refine jS 9 13 (λK c=>?_) λK c=>?_
   ·have b{G}(h:G:=by
    refine uF ?_;refine uaZ 13 ?_;refine tR ?_;have ac:=SB.late (w2:=d) (o:=A) aW bL (bn.trans bj) bM;exact rd):=O6 h;go_simp;exact xh
   ·go_simp;exact E1):=O6 h;exact JO):=O6 h;go_simp;exact Cv
  ·go_simp;have r:Pn d (d.drew.alloc (.cells #[Pv false,O3 0,O3 0,Qn] 67)):=RP.drew.alloc P7 _;have dJ:(d.drew.alloc (.cells #[Pv false,O3 0,O3 0,Qn] 67)).heap[W]? = some (PZ #[O3 f,O3 o,Pv false,PL i 0] 73)/\(d.drew.alloc (.cells #[Pv false,O3 0,O3 0,Qn] 67)).cell? (O7 q 3)=some (.slice ua bK l):=⟨fQ r bI.out,PN r bE.out⟩;have b{G}(h:G:=by
   have bm:p.heap[W]? = some (PZ #[O3 f,O3 o,Pv false,PL i 0] 73)/\p.cell? (O7 q 3)=some (.slice ua bK l):=⟨be.fR (fQ r bI.out) Pm,by
    obtain⟨e,O⟩:=O4 de;exact(aV.kp ax).YJ (PN r bE.out) ⟨e,fQ r O⟩⟩
   exact Dh):=O6 h;exact Ha
 case rest=>
  have b{G}(h:G:=by
  by_cases B:E=.no
  ·exact CM
  ·obtain⟨bL,bM,aG⟩:=ac.XO B ay;subst aG;have p:aZ=((vU,E),b3):=by
    rw[dr.out];exact jZ
   exact Dd):=O6 h;exact Gj):=O6 h;exact AJ):=O6 h;exact G7):=O6 h;exact EB):=O6 h;exact LR):=O6 h;exact xg):=O6 h;exact qb):=O6 h;exact pU):=O6 h;exact pE):=O6 h;exact vX):=O6 h;exact sL):=O6 h;exact Ab
def jr (b:Nd)(a:Pl)(g:St):Option (Pl × St):=
 if (!(a.fT||PO b.2)&&hidden g.M b.2 { a with fT:=a.fT||PO b.2 })=true then none else
  some (if (a.fT||PO b.2)=true then (⟨g.gg,g.gg,true⟩,g.gq a.scope (-1) (-3)) else ({ a with fT:=a.fT||PO b.2 },g))
theorem V1 (a:Nd)(c:Pl)(g:St):Xk U a c g=match jr a c g with
  | none=>((vU,f0 U1),g)
  | some b=>rn (SG U (PI a b.1 b.2).1 (QB a) (some vU) (PI a b.1 b.2).2).1.2.1 (SG U (PI a b.1 b.2).1 (QB a) (some vU) (PI a b.1 b.2).2).1.2.2 (SG U (PI a b.1 b.2).1 (QB a) (some vU) (PI a b.1 b.2).2).2:=by
 unfold Xk jr;simp only
 split
 ·rfl
 ·simp only
  generalize SG U _ (QB a) (some vU) _=d
  unfold rn
  rcases d with ⟨⟨i,b,e⟩,f⟩
  cases b <;> rfl
theorem asP (D:ig T)(q:Mx M k I z bc a6 a1 aQ w g)(p:Sz am g)(v:am+10000<1000000000){m:Ad}{a:Nd}(A:PX z w m a)(r:a.2.count<=1500)(B:∀ d ∈ Ul a,d.2.fJ.length=2)(l:Pl)(o:Option Addr)(t:0<=l.scope/\l.scope<g.M.Pz.length)
  (L:∀ c b,jr a l g=some (c,b)->∀ e C (i:Nat),k<=i->Ms M k I z e (PI a c b).2->TY 0 e C m.ks->UW z e m.ks (QB a)->PU e (some i) (some vU)->Pq 28 #[O5 k,C,Qy (PI a c b).1 (LA (some i))] e (QG M k I z T (some i) e (SG U (PI a c b).1 (QB a) (some vU) (PI a c b).2))) :
  Pq 322 #[O5 k,O5 m.p,Qy l o] w (P5 M k I z T w (Xk U a l g)):=by
 have s:=V1 (U:=U) a l g;have E:∀ e C (i:Nat) (c:Pl) (b:St),k<=i->jr a l g=some (c,b)->Ms M k I z e (PI a c b).2->TY 0 e C m.ks->UW z e m.ks (QB a)->PU e (some i) (some vU)->Pq 28 #[O5 k,C,Qy (PI a c b).1 (LA (some i))] e (QG M k I z T (some i) e (SG U (PI a c b).1 (QB a) (some vU) (PI a c b).2)):=λe C i c b H h=>L c b h e C i H;obtain⟨d,f,N⟩:=l
 cases N with
 | true=>
  have j:jr a ⟨d,f,true⟩ g=some (⟨g.gg,g.gg,true⟩,g.gq d (-1) (-3)):=rfl;refine asL D q p v A r B d f o t (λc b=>jr a ⟨d,f,true⟩ g=some (c,b)) j E ?_;rw[s,j]
 | false=>
  cases n:PO a.2 with
  | true=>
   have j:jr a ⟨d,f,false⟩ g=some (⟨g.gg,g.gg,true⟩,g.gq d (-1) (-3)):=by unfold jr;rw[n];rfl
   refine NY D q p v A r B d f o t (λc b=>jr a ⟨d,f,false⟩ g=some (c,b)) j E ?_ n;rw[s,j]
  | false=>
   cases u:hidden g.M a.2 ⟨d,f,false⟩ with
   | true=>
    have j:jr a ⟨d,f,false⟩ g=none:=by unfold jr;rw[n];exact fL u
    refine asN q p v A r d f o t ?_ n u;rw[s,j]
   | false=>
    have j:jr a ⟨d,f,false⟩ g=some (⟨d,f,false⟩,g):=by
     unfold jr;rw[n];refine(fK (λh=>?_)).trans rfl;have F:hidden g.M a.2 ⟨d,f,false⟩=true:=h;rw[u] at F;cases F
    refine asO D q p v A r B d f o t (λc b=>jr a ⟨d,f,false⟩ g=some (c,b)) j E ?_ n u;rw[s,j]
def jV (U:Fx)(b:Py)(a:Pl)(g:St):(Va × Er) × St:=match j0 b a.fT with
 | some c=>Xk U (none,c) a g
 | none=>((vU,f0 U1),g)
theorem TZ {d:Tr}{c:Nat}(e:Bs M k I z T)(q:k<=w.heap.size)(h:Qa (gp w.heap.size) w' d c):∃ a:Ad,a.p=c/\PX z w' a (none,d):=by
 obtain⟨a,o,i,l,_,m⟩:=Qa.ad d c h;refine⟨a,i,Tf.mono (λ_ _ _=>trivial) _ l,o,λb f n=>?_⟩;have r:w.heap.size<=b:=m b f;obtain⟨s,t,j⟩:=e.an b n;have p:=fI j;rw[e.sz] at p;omega
theorem Dc:WM 320:=λ_ _=>by kernel_rfl
theorem FP (ay:ig T)(bB:Bs M k I z T)(cu:Gl M)(bC:Mx M k I z bc a6 a1 aQ w g)(b2:Sz am g)(ap:am+10000<1000000000)(j l:Int)(d:Bool)(bu:Option Addr)(o:0<=j/\j<g.M.Pz.length){v:Va}{aC:List Va}{aY bq bO:Nat}(bE:w.heap[aY]? = some (PZ #[O5 k] 62))(bW:w.heap[bq]? = some (PZ #[O3 j,O3 l,Pv d,.pointer bu] 73))(aZ:w.heap[bO]? = some (PZ #[C] 311))(X:UZ w C (v::aC))
  (aW:∀ br,j0 v.s d=some br->∀ (u:Ad) cD σ',jr (none,br) ⟨j,l,d⟩ g=some (cD,σ')->∀ L C (a:Nat),k<=a->Ms M k I z L (PI (none,br) cD σ').2->TY 0 L C u.ks->UW z L u.ks (QB (none,br))->PU L (some a) (some vU)->Pq 28 #[O5 k,C,Qy (PI (none,br) cD σ').1 (LA (some a))] L (QG M k I z T (some a) L (SG U (PI (none,br) cD σ').1 (QB (none,br)) (some vU) (PI (none,br) cD σ').2))) :
  Pq 320 #[PL bO 0,PL bq 0,PL aY 0] w (P5 M k I z T w (jV U v.s ⟨j,l,d⟩ g)):=by
 have aS:=bC.lt;have b0:=ap;have b{G}(h:G:=by
 obtain⟨t,aK⟩:=xE v.s;have q:=bC.fH r;have bF:=Y aI;have bS:=Y (fQ r bE);have bo:=Y (fQ r bW);have bL:=P8.of (L:=none) r (P6 aS);have D:=Y (λL (i:Pn w2 L)=>alL (es:=T) v.s d L (Gl.ms cu bB ⟨_,_,_,_,q.fH i⟩));obtain⟨bZ,bY,cM,b1,cO,bI,bK,E⟩:=(X.fH r).cells (i:=0) rfl;rw[i1,iY] at bI bK E;subst b1;rw[<-aK] at E D;obtain⟨cl,A⟩:=xH (j0 t d);rw[<-A.out] at D;obtain⟨aN,bf⟩:=xH (jV U t ⟨j,l,d⟩ g);rw[<-aK] at aW ⊢
 rw[<-bf.out];have b6:=Y aW;have cC:=Y E;have cG:=Y (oI (fQ r aZ));have cB:=Y (fN bo.out);have a7:=Y aF;have bM:=q.lt;have cJ:=fI (fQ r aZ);have cK:=fI bo.out;have cy:=Y o;clear aI aF aK bE bW aZ bI bK E aW o;go_enter func320,ntmps320;go_wp2_with fail;rw[<-aD.out,<-aj];clear aj
 cases cl with
 | none=>
  have p:aN=((vU,f0 U1),g):=by
   rw[bf.out];unfold jV
   show (match j0 t d with|some br=>_|none=>_)=_
   rw[<-A.out]
  have aX:=Y p;clear p;refine UC 6 λa=>?_;refine Ez ?_;refine Rl 6 λK c=>?_;go_simp;refine cm (O4 D _ a) ?_;rintro m bx ⟨bh,s,rfl,aG⟩;refine ko c ?_;clear c K;have f:=a.trans (bh.mono a.size);have bG:=Y (fQ f bF.out);have dq:Ms M k I z bx g:=⟨_,_,_,_,q.fH f⟩;have ci:=bL.trans (P8.of (L:=none) f (P6 bM));obtain⟨W,F,ac⟩:=aG.XO P7 ay;subst ac;have bD:=aG;refine uz 7 (.tuple #[Ry,.iface W F]) ?_;refine uz 8 Ry ?_;refine uz 9 (.iface W F) ?_;refine uz 10 Ry ?_
  refine uz 11 (.iface W F) ?_;refine TQ ?_ _;go_simp;obtain⟨bT,bQ,bU,bV,b4,b7,b9⟩:=Qb bG.out;have b{G}(h:G:=by
  rw[<-aV];refine nz (v:=.tuple #[vA vU,.iface W F]) ?_;rw[aX.out];exact⟨⟨_,rfl,bD.Rf b3 Pm⟩,bv,bR⟩):=O6 h;exact zz
 | some br=>
  have p:aN=Xk U (none,br) ⟨j,l,d⟩ g:=by
   rw[bf.out];unfold jV
   show (match j0 t d with|some br=>_|none=>_)=_
   rw[<-A.out]
  have aX:=Y p;have bT:Nk 9 br:=by
   have h:=O4 A;unfold j0 at h
   cases o:TD RH Ru t with
   | ok b7=>
    rw[o] at h;simp only at h
    cases ai:g5 b7 d false false with
    | none=>rw[ai] at h;cases h;exact w6 o ai
    | some m=>rw[ai] at h;cases h
   | _=>rw[o] at h;cases h
  have cq:=bT.bk O9;have cr:br.count<=1500:=bT.ct;have ak:∀ B ∈ Ul ((none,br):Nd),B.2.fJ.length=2:=λB ai=>by
   obtain⟨cR,cP,cL,bV,aY,b7,_⟩:=(pL (b:=(none,br)) cq B ai).sh;rw[b7];rfl
  have cn:=Y ak;clear p ak;refine UC 6 λa=>?_;refine Ez ?_;refine Rl 6 λK c=>?_;go_simp;refine cm (O4 D _ a) ?_;rintro m bx ⟨bh,F,rfl,ap⟩;refine ko c ?_;clear c K;have f:=a.trans (bh.mono a.size);obtain⟨u,bD,cw⟩:=TZ bB (P6 ((q.fH a).lt)) ap;have bG:=Y (fQ f bF.out);have cz:=q.fH f;have ci:=bL.trans (P8.of (L:=none) f (P6 bM));have b9:=oI (fQ f bS.out);have ck:=fI (fQ f bS.out);obtain⟨b4,bV,cf,cg,_,ch⟩:=fN (fQ f bo.out)
  have bU:=asP ay cz b2 b0 cw cr cn.out ⟨j,l,d⟩ bu cy.out (O4 b6 br A.out.symm u);rw[<-aX.out,bD] at bU;clear ap bD;refine uz 7 (.tuple #[PL F 0,QW]) ?_;refine uz 8 (PL F 0) ?_;refine uz 9 QW ?_;refine uz 10 (PL F 0) ?_;refine uz 11 QW ?_;refine TQ ?_ _;go_simp;go_wp2_with fail;refine cm bU ?_;rintro m cY ⟨⟨s,rfl,aG⟩,ah,ax⟩;have bQ:=Y (ax.fR bG.out Pm);have cp:=ci.trans ax;obtain⟨W,ac⟩:=xH aN.1.1;rw[<-ac.out];clear b9 b4 bV cf cg ch ck;obtain⟨u0,u1,u2,cS,cT,cU,cV⟩:=Qb bQ.out
  go_wp2_with fail;obtain⟨bn,aV,b3,bR,bv,bm,be,bj⟩:=iT bQ.out a7.out aS cp ah (O3 W.k) (O3 W.n) (Pj W.s);exact yn):=O6 h;exact FV
def qC (a:Tr)(b:Pl):Pl:=if a.kd≠23\/a.tx≠Vs then ⟨1,0,false⟩ else b
theorem asT (b:Tr)(c:Pl)(a:Va)(more:List Va)(g:St):XA U b c (a::more) g=if a.k≠4 then ((a,.no),g) else within g (jV U a.s (qC b c)):=by
 unfold XA qC;simp only
 split
 ·rfl
 ·congr 1
  funext g
  unfold jV j0
  cases TD RH Ru a.s with
  | ok d=>
   simp only
   cases g5 d _ false false with
   | none=>rfl
   | some e=>rfl
  | _=>rfl
section
variable (aF:Mx M k I z bc a6 a1 aQ w g) {e:Ad} (a:Pl) (d:Option Addr)
include aF e a d
theorem apl (X:UZ w C []) :
  Pq 300 #[O5 k,O5 e.p,Qy a d,C] w (P5 M k I z T w ((vU,.no),g)):=by
 have o{G}(h:G:=by
 obtain⟨f,aD⟩:=xE (List.length ([]:List Va));have b{G}(h:G:=by
 have b{G}(h:G:=by
 have F:Ms M k I z p g:=⟨_,_,_,_,D⟩;have q:=Y B;have ac:=Y aW;have s:=Y aI;obtain⟨ah,i⟩:=xE e.p;have W:f=0:=aD;subst W;rw[<-i];clear B bq cg ch cR bx bB aW aI bM bQ bO i aD;go_enter func300,ntmps300;go_wp2_with fail;rw[<-q.out,<-s.out];obtain⟨bm,be,bj,_,_⟩:=fX c9.out;refine nz (v:=.tuple #[vA vU,QW]) ?_;exact⟨⟨_,rfl,rfl⟩,F,dc⟩):=O6 h;exact qb):=O6 h;exact E4):=O6 h;exact zA
theorem alP {v:Va}{aC:List Va}(X:UZ w C (v::aC))(ah:v.k≠4) :
  Pq 300 #[O5 k,O5 e.p,Qy a d,C] w (P5 M k I z T w ((v,.no),g)):=by
 have o{G}(h:G:=by
 obtain⟨f,aD⟩:=xE (List.length (v::aC));have b{G}(h:G:=by
 have aY:=P8.of (L:=none) ap (P6 aS);have aZ:Ms M k I z p g:=⟨_,_,_,_,D⟩;have o{G}(h:G:=by
 obtain⟨q,s,aN,bh,aX,aj,au,ax⟩:=X.cells (i:=0) rfl;rw[i1,iY] at aj au ax;have o{G}(h:G:=by
 rw[<-bK];have aV:(v.k==4)=false:=gG.2 ah;obtain⟨F,i⟩:=xE ((((w.alloc (.cells #[O5 k] 62)).alloc (.cells #[O3 t,O3 r,Pv A,.pointer d] 73)).alloc (.cells #[.slice (some (O7 q s)) f E] 311)).alloc (.cells #[O3 v.k,O3 v.n,Pj v.s] 65));have ai:=aF;clear B bq cg ch cR bx bB aW bM bQ bO bK aD;have ac:F.heap[H]? = some (ZK v):=by
  rw[i,aI,show w.heap.size+1+1+1=(((w.alloc (.cells #[O5 k] 62)).alloc (.cells #[O3 t,O3 r,Pv A,.pointer d] 73)).alloc (.cells #[.slice (some (O7 q s)) f E] 311)).heap.size by simp];exact Ph _ _
 have W:Pn w F:=by rw[i];exact((QJ.alloc P7 _).alloc RQ _).alloc RQ _
 have ay:=Y ac;have aK:Ms M k I z w g:=⟨_,_,_,_,ai⟩;have aG:=Y i;clear ac i aI;go_enter func300,ntmps300;go_wp2_with fail;rw[<-aG.out,<-cS.out];obtain⟨bm,be,bj,_,_⟩:=fX ay.out;refine XW (v:=.tuple #[vA v,QW]) ?_;exact⟨⟨_,rfl,rfl⟩,aK.fH W,P8.of W (P6 aS)⟩):=O6 h;exact IB):=O6 h;exact K0):=O6 h;exact E4):=O6 h;exact zA
end
theorem WP (bN:ig T)(bC:Bs M k I z T)(cl:Gl M)(aF:Mx M k I z bc a6 a1 aQ w g)(bi:Sz am g)(ci:am+10000<1000000000)(cW:g.fO<=40){e:Ad}{i:Nd}(bY:PX z w e i)(F:i.2.kd=23)(aj:i.2.tx=Vs)(a:Pl)(d:Option Addr)(bF:0<=a.scope/\a.scope<g.M.Pz.length)(bI:2<=g.M.Pz.length){v:Va}{aC:List Va}(X:UZ w C (v::aC))(ai:v.k=4)
  (aZ:g.fO≠40->(jV U v.s a { g with fO:=g.fO+1 }).2.fO=g.fO+1)
  (ba:g.fO≠40->∀ br,j0 v.s a.fT=some br->∀ (u:Ad) c b,jr (none,br) a { g with fO:=g.fO+1 }=some (c,b)->∀ L C (f:Nat),k<=f->Ms M k I z L (PI (none,br) c b).2->TY 0 L C u.ks->UW z L u.ks (QB (none,br))->PU L (some f) (some vU)->Pq 28 #[O5 k,C,Qy (PI (none,br) c b).1 (LA (some f))] L (QG M k I z T (some f) L (SG U (PI (none,br) c b).1 (QB (none,br)) (some vU) (PI (none,br) c b).2))) :
  Pq 300 #[O5 k,O5 e.p,Qy a d,C] w (P5 M k I z T w (within g (jV U v.s a))):=by
 have aK{G}(h:G:=by
 rw[F] at bf;have bU:=VL (a:=Vs) rfl aj;obtain⟨cn,ay⟩:=xE i.2.tx;rw[<-ay] at bG bU;clear ay aj F;obtain⟨cG,bE⟩:=xE (within g (jV U v.s ⟨t,r,A⟩))
 have b6:=λL (bS:Mx M k I z bc a6 a1 aQ L g) (bV:L.heap[bo]? = some (PZ #[O5 k] 62)) (ck:L.heap[l]? = some (PZ #[O3 t,O3 r,Pv A,.pointer d] 73)) (bW:L.heap[bu]? = some (PZ #[.slice (some (O7 q bD)) f E] 311)) (aN:UZ L (.slice (some (O7 q bD)) f E) (v::aC))=>wL (s:=T) bS cW Dc (c:=#[PL bu 0,PL l 0,PL bo 0]) (a:=jV U v.s ⟨t,r,A⟩) aZ (λW ee s b ac=>FP bN bC cl s (bi.fO _) ci t r A d bF (b _ _ _ bV Pm) (b _ _ _ ck Pm) (b _ _ _ bW Pm) (aN.fR λN e O=>b N e 65 O Pm) (ba W))
 have aK{G}(h:G:=by
 obtain⟨bT,b⟩:=xE p;have b0:=cO;have bZ:=cP;rw[<-b] at b0 bZ D aX aY b7 b9 ⊢;clear b;refine cm (O4 b4 bT D aX.out aY.out b7.out b9) ?_;exact Ja):=O6 h;exact JN):=O6 h;exact x9
theorem axb (ay:ig T)(cB:Bs M k I z T)(cD:Gl M)(aF:Mx M k I z bc a6 a1 aQ w g)(cA:Sz am g)(cC:am+10000<1000000000)(cW:g.fO<=40){e:Ad}{bC:Nd}(bY:PX z w e bC)(ci:bC.2.kd≠23)(a:Pl)(d:Option Addr)(bF:0<=a.scope/\a.scope<g.M.Pz.length)(bI:2<=g.M.Pz.length){v:Va}{aC:List Va}(X:UZ w C (v::aC))(ai:v.k=4)
  (aZ:g.fO≠40->(jV U v.s ⟨1,0,false⟩ { g with fO:=g.fO+1 }).2.fO=g.fO+1)
  (ba:g.fO≠40->∀ br,j0 v.s false=some br->∀ (u:Ad) c b,jr (none,br) ⟨1,0,false⟩ { g with fO:=g.fO+1 }=some (c,b)->∀ L C (f:Nat),k<=f->Ms M k I z L (PI (none,br) c b).2->TY 0 L C u.ks->UW z L u.ks (QB (none,br))->PU L (some f) (some vU)->Pq 28 #[O5 k,C,Qy (PI (none,br) c b).1 (LA (some f))] L (QG M k I z T (some f) L (SG U (PI (none,br) c b).1 (QB (none,br)) (some vU) (PI (none,br) c b).2))) :
  Pq 300 #[O5 k,O5 e.p,Qy a d,C] w (P5 M k I z T w (within g (jV U v.s ⟨1,0,false⟩))):=by
 have aK{G}(h:G:=by
 have cl:(bC.2.kd==23)=false:=gG.2 ci;obtain⟨cT,ck⟩:=xE bC.2.kd;rw[<-ck] at bf cl ci;clear ck;exact Kb):=O6 h;exact x9
theorem S8 (ay:ig T)(cB:Bs M k I z T)(cD:Gl M)(aF:Mx M k I z bc a6 a1 aQ w g)(cA:Sz am g)(cC:am+10000<1000000000)(cW:g.fO<=40){e:Ad}{bC:Nd}(bY:PX z w e bC)(ci:bC.2.kd=23)(ck:bC.2.tx≠Vs)(a:Pl)(d:Option Addr)(bF:0<=a.scope/\a.scope<g.M.Pz.length)(bI:2<=g.M.Pz.length){v:Va}{aC:List Va}(X:UZ w C (v::aC))(ai:v.k=4)
  (aZ:g.fO≠40->(jV U v.s ⟨1,0,false⟩ { g with fO:=g.fO+1 }).2.fO=g.fO+1)
  (ba:g.fO≠40->∀ br,j0 v.s false=some br->∀ (u:Ad) c b,jr (none,br) ⟨1,0,false⟩ { g with fO:=g.fO+1 }=some (c,b)->∀ L C (f:Nat),k<=f->Ms M k I z L (PI (none,br) c b).2->TY 0 L C u.ks->UW z L u.ks (QB (none,br))->PU L (some f) (some vU)->Pq 28 #[O5 k,C,Qy (PI (none,br) c b).1 (LA (some f))] L (QG M k I z T (some f) L (SG U (PI (none,br) c b).1 (QB (none,br)) (some vU) (PI (none,br) c b).2))) :
  Pq 300 #[O5 k,O5 e.p,Qy a d,C] w (P5 M k I z T w (within g (jV U v.s ⟨1,0,false⟩))):=by
 have aK{G}(h:G:=by
 rw[ci] at bf;have cT:=Vt (a:=Vs) rfl ck;obtain⟨dI,cl⟩:=xE bC.2.tx;rw[<-cl] at bG cT;clear cl ck ci;exact Kb):=O6 h;exact x9
def FJ (U:Fx)(e:Nd)(i:Pl)(j:(List Va × Er) × St):(Va × Er) × St:=match j with
 | ((d::c,.no),a)=>
  if d.k≠5 then ((vU,f0 gB),a) else
  let b:=a.M.gn d.n
  if b=0 then ((vU,f0 gB),a)
  else if b=1 then ((vU,.no),{ a with hq:=a.hq++[YI (c.map a.M.hu)] })
  else if b=2 then XA U (Pg e 0).2 i c a
  else match a.Ri[(b - 3).toNat]? with
   | some f=>WG U f c a
   | none=>((vU,.no),a)
 | ((_,b),a)=>((vU,b),a)
theorem R2 (a:Nd)(b:Pl)(g:St):YH U a b g=FJ U a b (UD U b (QB a) [] g):=rfl
theorem m7.head {t c q s:Nat}{b:Va}(h:m7 t w (.slice (some (O7 c 0)) q s) (b::aC)):q=aC.length+1/\q<=s/\c<w.heap.size/\w.cell? (O7 c 0)=some (O3 b.k)/\w.cell? (O7 c 1)=some (O3 b.n)/\w.cell? (O7 c 2)=some (Pj b.s)/\∀ p o,p=aC.length->(aC≠[]->o=3)->∀ r,UZ w (.slice (some (O7 c o)) p r) aC:=by
 have e:=h.2
 rcases e with ⟨e,_⟩|⟨P,O,n,e,_,f,D,_,_,B⟩
 ·
  cases e
 ·simp only[g7,hc,iL,js] at e;obtain⟨rfl,rfl,rfl⟩:=e;have j:∀ a x,((b::aC).flatMap ZM)[a]? = some x->n[a]? = some x:=λa x d=>by
   rw[<-B,List.getElem?_take] at d
   split at d
   ·rw[<-d,k6]
   ·
    cases d
  refine⟨rfl,D,fI f,?_,?_,?_,?_⟩
  ·simp[World.cell?,f,j 0 _ rfl]
  ·simp[World.cell?,f,j 1 _ rfl]
  ·simp[World.cell?,f,j 2 _ rfl]
  ·intro p o A L r;subst A;refine⟨⟨_,_,rfl⟩,λi x m=>?_⟩;have F:aC≠[]:=λH=>by rw[H] at m;cases m
   have u:=L F;subst u;have l:∀ a y,(ZM x)[a]? = some y->a<3->n[3+i * 3+a]? = some y:=λa y d N=>by
    refine j _ _ ?_;have E:(b::aC).flatMap ZM=ZM b++aC.flatMap ZM:=rfl;rw[E,hm (by show 3<=_;omega)]
    have v:3+i * 3+a - (ZM b).length=i * 3+a:=by show 3+i * 3+a - 3=_;omega
    rw[v,Yv (a:=3) (λ_=>rfl) aC i a N,m];exact d
   exact⟨c,3,r,n,rfl,f,l 0 _ rfl O9,l 1 _ rfl O9,l 2 _ rfl O9⟩
theorem aBB (ay:ig T)(ah:Ms M k I z w g){u:Ad}{D:Nd}(aJ:PX z w u D)(ai:1<=D.2.fJ.length)(en:D.2.fJ.length<=9)(d:Pl)(o:Option Addr)
  (ad:∀ L C,Ms M k I z L g->TY 0 L C u.ks->UW z L u.ks (QB D)->Pq 293 #[O5 k,C,Qy d o] L (AA M k I z T L (UD U d (QB D) [] g)))
  (hP:∀ A B p,UD U d (QB D) [] g=((A::B,.no),p)->A.k=5->p.M.gn A.n=1->∀ L C,Ms M k I z L p->UZ L C B->Pq 299 #[O5 k,C] L λm w'=>m=PK (.tuple #[])/\Ms M k I z w' { p with hq:=p.hq++[YI (B.map p.M.hu)] }/\P8 none k L w')
  (aK:∀ A B p,UD U d (QB D) [] g=((A::B,.no),p)->A.k=5->p.M.gn A.n=2->∀ L C (e:Ad),Ms M k I z L p->UZ L C B->PX z L e (Pg D 0)->Pq 300 #[O5 k,O5 e.p,Qy d o,C] L (P5 M k I z T L (XA U (Pg D 0).2 d B p)))
  (ax:∀ A B p,UD U d (QB D) [] g=((A::B,.no),p)->A.k=5->p.M.gn A.n≠0->p.M.gn A.n≠1->p.M.gn A.n≠2->∃ cI,3<=p.M.gn A.n/\p.M.gn A.n<1000000000/\p.Ri[(p.M.gn A.n - 3).toNat]? = some cI/\∀ L C (e:Ad),Ms M k I z L p->UZ L C B->PX z L e cI.d->Pq 301 #[O5 k,.agg #[O5 e.p,O3 cI.scope,Pv cI.fT],C] L (P5 M k I z T L (WG U cI B p))) :
  Pq 263 #[O5 k,O5 u.p,Qy d o] w (P5 M k I z T w (YH U D d g)):=by
 obtain⟨bx,cR⟩:=xE (YH U D d g);rw[<-cR];have b{G}(h:G:=by
 have eE:=Y F;have c8:=Y (fN F);have b{G}(h:G:=by
 obtain⟨ua,fc,cn,dT⟩:=aZ.ar;obtain⟨eM,cA⟩:=xH D.2.fJ.length;rw[<-cA.out] at cn dT ai en;have aF:=Y (λL (i:Pn w2 L)=>ad L _ (bf.fH i) (dT.fH i) ((aZ.kp (Kp.of i)).lT))
 rcases X:UD U ⟨l,q,r⟩ (QB D) [] g with ⟨⟨aC,bY⟩,p⟩
 rw[X] at aF hP aK ax;have dV:bY=.no->aC.length=eM:=λm=>by
  subst m;have:=zF _ _ _ _ _ X;rw[this,cA.out,RU];simp
 have d5:=Y dV;have cT:Hid (bx=FJ U D ⟨l,q,r⟩ ((aC,bY),p)):=by
  show _=_
  rw[cR,R2,X]
 obtain⟨aj,dD⟩:=xH u.p;rw[<-dD.out] at cn b0 ⊢;have ed:=Y cn;have eq:=Y hP;have eo:=Y aK;have ep:=Y ax;clear F aW X ad hP aK ax bo aY bC cn cR dV;go_enter func263,ntmps263;have b{G}(h:G:=by
 rintro m bq ⟨⟨u3,s,rfl,dX,cK⟩,cS,eK⟩;refine ko c ?_;clear c K;have cC:=(P8.of (L:=none) a (P6 bO)).trans eK;have cp:=Y (cC.fR bQ.out Pm);have eG:=Y (cC.fR eE.out Pm);have eT:=aZ.kp cC.Vo;have dF:=bE.trans cC;have c9:=dX;have eL:=cS.lt;obtain⟨dd,b1,eW⟩:=PW dX;subst eW;clear e1 b0;obtain⟨dE,dC,dI,dM,dN,dO,d4⟩:=Qb cp.out;refine uz 7 (.tuple #[.slice dd aC.length b1,s]) ?_;refine uz 8 (.slice dd aC.length b1) ?_;refine uz 9 s ?_;refine uz 10 (.slice dd aC.length b1) ?_
 refine uz 11 s ?_;refine TQ ?_ _;go_simp
 by_cases ck:bY=.no
 ·subst ck;have cO:s=QW:=cK;subst cO;obtain⟨A,B,rfl⟩:∃ A B,aC=A::B:=by
   cases aC with
   | nil=>have:=O4 d5 rfl;simp at this;omega
   | cons A B=>exact⟨A,B,rfl⟩
  have d0:=O4 d5 rfl;obtain⟨E,fa,dz,eU,_⟩:=World.ownsRow.form c9 P7;simp only[g7] at dz;obtain⟨rfl,eN,rfl⟩:=dz;clear eN;obtain⟨cZ,db⟩:=xE ((A::B).length);rw[<-db] at c9 d0 ⊢;obtain⟨dZ,fd,dK,dJ,dL,dQ,dy⟩:=c9.head;have fi:(1:Int)<=(cZ:Int):=O9;have dg:=Y (show bq.cell? (O7 E 0)=some (O3 A.k)/\bq.cell? (O7 E 1)=some (O3 A.n)/\bq.cell? (O7 E 2)=some (Pj A.s) from ⟨dJ,dL,dQ⟩);have ej:=Y dy;have eP:=Y dZ;have ek:cZ<=9:=O9;clear dy dJ dL dQ db dZ d0
  obtain⟨W,cJ⟩:=xE B.length;obtain⟨aN,rfl⟩:∃ aN,b1=aN+1:=⟨b1 - 1,by omega⟩;obtain rfl:cZ=W+1:=by rw[cJ];exact O4 eP
  obtain⟨aD,aG,bF⟩:∃ aD aG,(if aN=0 then aD=0/\aG=0 else aD=3/\aG=aN):=by
   by_cases h:aN=0
   ·exact⟨0,0,by rw[fL h];exact⟨rfl,rfl⟩⟩
   ·exact⟨3,aN,by rw[fK h];exact⟨rfl,rfl⟩⟩
  have eC:UZ bq (.slice (some (O7 E aD)) W aG) B:=O4 ej W aD cJ (λbB=>by
   rw[fK (λh=>bB (lm O9))] at bF;exact bF.1) aG
  clear cJ;go_wp2_with fail;refine UC 6 λa=>?_;refine uh 0 (.slice (some (O7 E 0)) (W+1) (aN+1)) (a) ?_;refine up 1 E 0 a ?_;refine uc 2 (.agg #[O3 A.k,O3 A.n,Pj A.s]) rfl (fM ⟨by kernel_rfl,λL i=>by have aO:=PN i (dg.out.1);have ad:=PN i (dg.out.2.1);have ak:=PN i (dg.out.2.2);go_simp⟩) (a) ?_
  refine uh 3 (.slice (some (O7 E 0)) (W+1) (aN+1)) (a) ?_;refine uh 4 (.slice (some (O7 E aD)) W aG) (a) ?_ (bi:=fM ⟨by kernel_rfl,λ_ _=>by by_cases bB:aN=0;· { rw[fL bB] at bF;obtain⟨rfl,rfl⟩:=bF;subst bB;obtain rfl:W=0:=O9;go_simp };· { rw[fK bB] at bF;obtain⟨rfl,rfl⟩:=bF;go_simp;intro h;omega }⟩)
  refine Rl 5 λK c=>?_;go_simp;refine c.out _ _ (λ_=>QJ.drew) ?_;clear c K;refine uaZ 6 ?_;refine uz 7 (.slice (some (O7 E aD)) W aG) ?_;refine TQ ?_ _;go_simp;clear bF;obtain⟨de,cM⟩:=xE bq.heap.size;obtain⟨cl,cw⟩:=xE ((bq.alloc (.cells #[O3 A.k,O3 A.n,Pj A.s] 65)).drew);have bL:Pn bq cl:=by rw[cw];exact QJ.drew
  have cL:cl.heap[de]? = some (ZK A):=by
   rw[cw,cM];exact fQ ((f2 _ (bq.alloc (.cells #[O3 A.k,O3 A.n,Pj A.s] 65))).drew) (Ph _ _)
  rw[<-cw,<-cM];have aI:=cS.fH bL;have bV:=Y (fQ bL cp.out);have cz:=Y (fQ bL eG.out);have cg:=dF.trans (P8.of (L:=none) bL (P6 eL));have da:=eT.kp (Kp.of bL);have b6:=eC.fH bL;have dS:=Y (fX cL);have cf:=aI.lt;have eO:=fI cL;have eD:de≠H:=λm=>by
   have:=fI cp.out;omega
  clear cw cM cL dE dC dI dM dN dO d4 dK eU ek;obtain⟨cP,dA,dH,_,_⟩:=O4 dS
  by_cases bU:A.k=5
  ·rw[bU] at cP;obtain⟨e,b9⟩:=xH (p.M.gn A.n);have dY:=Y (λL (i:Ms M k I z L p)=>by
    obtain⟨_,_,_,_,cr⟩:=i;exact xZ cr.hh A.n)
   rw[<-b9.out] at dY;have cy:=Y bU;clear bU;go_wp2_with fail;clear cP dA dH;refine UC 5 λa=>?_;refine iy ?_;refine up 3 de 1 a ?_;refine uk 4 (dS.out.2.1) a ?_;refine Rl 5 λK c=>?_;go_simp;refine cm (O4 dY _ (aI.fH a)) ?_;rintro m bB ⟨rfl,bT⟩;rw[bT];refine ko c ?_;clear c K;clear bT;refine uz 6 (O3 e) ?_;refine TQ ?_ _;go_simp;obtain⟨bB,bT⟩:=xE cl.drew;have bM:Pn cl bB:=by rw[bT];exact RP.drew
   rw[<-bT];replace aI:=aI.fH bM;replace bV:=Y (fQ bM bV.out);replace cz:=Y (fQ bM cz.out);replace cg:=cg.trans (P8.of (L:=none) bM (P6 cf));replace da:=da.kp (Kp.of bM);replace b6:=b6.fH bM;replace cf:=aI.lt;clear bT eO eD;have d7:bx=if e=0 then ((vU,f0 gB),p)
    else if e=1 then ((vU,.no),{ p with hq:=p.hq++[YI (B.map p.M.hu)] })
    else if e=2 then XA U (Pg D 0).2 ⟨l,q,r⟩ B p
    else match p.Ri[(e - 3).toNat]? with
     | some cI=>WG U cI B p
     | none=>((vU,.no),p):=by
    rw[cT.out,b9.out]
    show (if A.k≠5 then _ else _)=_
    rw[fK (by rw[cy.out];simp)]
   have cD:=Y d7;clear d7;obtain⟨dE,dC,dI,dM,dN,dO,d4⟩:=Qb bV.out
   by_cases aO:e=0
   ·have ac:Hid (bx=((vU,f0 gB),p)):=by show _=_;rw[cD.out,fL aO]
    subst aO;go_wp2_with fail;exact GF
   by_cases ad:e=1
   ·have ac:Hid (bx=((vU,.no),{ p with hq:=p.hq++[YI (B.map p.M.hu)] })):=by show _=_;rw[cD.out,fK aO,fL ad]
    have cr:=O4 eq A B p rfl cy.out (b9.out.symm.trans ad) bB _ aI b6;subst ad;clear aO;go_wp2_with fail;refine cm cr ?_;rintro m ea ⟨rfl,ah,ax⟩;have bW:=Y (ax.fR bV.out Pm);have dp:=ah;have dn:=cg.trans ax;clear ax;obtain⟨u0,u1,u2,di,dj,dk,dl⟩:=Qb bW.out;go_wp2_with fail;obtain⟨bn,aV,b3,bR,bv,bm,be,bj⟩:=iT bW.out a7.out aS dn dp (O3 0) (O3 0) (Qn);rw[<-aV];refine nz (v:=.tuple #[vA vU,QW]) ?_;rw[ac.out];exact⟨⟨_,rfl,rfl⟩,bv,bR⟩
   have em:(e==0)=false:=gG.2 aO;have ew:(e==1)=false:=gG.2 ad
   by_cases ak:e=2
   ·have ac:Hid (bx=XA U (Pg D 0).2 ⟨l,q,r⟩ B p):=by show _=_;rw[cD.out,fK aO,fK ad,fL ak]
    obtain⟨bI,eF,fb,cr,cG,eI,_⟩:=da.Zf (a:=0) (by rw[<-cA.out];omega)
    obtain⟨ec,b4⟩:=xE (XA U (Pg D 0).2 ⟨l,q,r⟩ B p);have cY:=Y (λL (i:Pn bB L)=>O4 eo A B p rfl cy.out (b9.out.symm.trans ak) L (.slice (some (O7 E aD)) W aG) bI (aI.fH i) (b6.fH i) (eI.kp (Kp.of i)));rw[<-b4] at cY ac;rw[<-cA.out,<-dD.out] at cr;obtain⟨fe,dG⟩:=xE bI.p;rw[<-dG] at cG cY;have eu:=Y cr;have eS:=Y cG;have c8:=Y (fN cz.out);have b0:=fV cr;have dK:=fV cG;have e2:=fI cz.out;subst ak;clear aO ad em ew cr cG dG b4;go_wp2_with fail
    refine UC 9 λa=>?_;refine kI ?_;refine uk 4 (O4 eu) a ?_;refine uh 5 (PL eF 0) (a) ?_ (bi:=fM ⟨by kernel_rfl,λ_ _=>by go_simp;intro h;omega⟩)
    refine uk 6 eS.out a ?_;refine kT 7 c8.out a ?_;refine uh 8 (.slice (some (O7 E aD)) W aG) (a) ?_;refine Rl 9 λK c=>?_;go_simp;refine cm (O4 cY _ a) ?_;rintro m ea ⟨⟨s,rfl,aK⟩,ah,ax⟩;refine ko c ?_;clear c K;replace ax:=(P8.of (L:=none) a (P6 cf)).trans ax;have b{G}(h:G:=by
    obtain⟨u0,u1,u2,di,dj,dk,dl⟩:=Qb bW.out;refine uz 10 (vA ch) ?_;refine uz 11 s ?_;refine uaZ 12 ?_;refine uz 13 s ?_;refine TQ ?_ _;go_simp;exact LX):=O6 h;exact HO
   have e3:(e==2)=false:=gG.2 ak;have dU:=O4 ep A B p rfl cy.out;rw[<-b9.out] at dU;obtain⟨cI,eR,ey,bS,dr⟩:=dU aO ad ak;have ac:Hid (bx=WG U cI B p):=by show _=_;rw[cD.out,fK aO,fK ad,fK ak,bS]
   obtain⟨bc,a6,a1,aQ,d1⟩:=id aI;obtain⟨dR,eH,cV,d6⟩:=d1.fu;obtain⟨n,bN⟩:=xE ((e - 3).toNat);rw[<-bN] at bS;have d3:n<p.Ri.length:=(gr.1 bS).1;obtain⟨bD,dc⟩:∃ bD,dR[n]? = some bD:=⟨_,ga O9⟩;have eQ:=d6 n bD cI dc bS;obtain⟨cU,fg,eB,_,_⟩:=cV.form O9;subst eB;have ez:e=(n:Int)+3:=O9;have cu:∀ a8 x,(pj (bD,cI))[a8]? = some x->a8<3->bB.cell? (O7 cU (n * 3+a8))=some x:=λa8 x e4 eV=>by
    have cr:(dR.zip p.Ri)[n]? = some (bD,cI):=by rw[List.getElem?_zip_eq_some];exact⟨dc,bS⟩
    rw[cV.cellAt _ O9,Yv (a:=3) (λ_=>rfl) _ n a8 eV,cr];exact e4
   have bI:=cu 0 _ rfl O9;have dB:=cu 1 _ rfl O9;have dP:=cu 2 _ rfl O9;rw[iY] at bI;have e6:cU<bB.heap.size:=(cV.lt cU rfl).2;obtain⟨d2,_⟩:=d1.hh.at_ 7 _ rfl;obtain⟨eJ,ds⟩:=xE p.Ri.length;rw[<-ds] at d2 d3;have e7:(n:Int)<(eJ:Int):=O9;obtain⟨ec,b4⟩:=xE (WG U cI B p);have b7:=dr bB (.slice (some (O7 E aD)) W aG) bD aI b6 eQ;rw[<-b4] at b7 ac;obtain⟨e8,dt⟩:=xE bD.p;obtain⟨fh,d8⟩:=xE cI.scope;obtain⟨fst,d9⟩:=xE cI.fT;rw[<-dt] at b7 bI;rw[<-d8] at b7 dB
   rw[<-d9] at b7 dP;subst ez;have e5:(n:Int)<1000000000:=O9;clear aO ad ak cu d6 eH dc bS bN ds b4 dt d8 d9 dr eR ey d3;go_wp2_with fail;refine cm b7 ?_;rintro m ea ⟨⟨s,rfl,aK⟩,ah,ax⟩;clear bI dB dP d2;have b{G}(h:G:=by
   obtain⟨u0,u1,u2,di,dj,dk,dl⟩:=Qb bW.out;exact LX):=O6 h;exact HO
  ·have bB:(A.k==5)=false:=gG.2 bU;have ac:Hid (bx=((vU,f0 gB),p)):=by
    show _=_
    rw[cT.out]
    show (if A.k≠5 then _ else _)=_
    rw[fL bU]
   clear bU;go_wp2_with fail;clear cP dA dH;exact GF
 ·obtain⟨bL,bM,cO⟩:=cK.XO ck ay;subst cO;have E:bx=((vU,bY),p):=by
   rw[cT.out]
   cases bY with
   | no=>exact absurd rfl ck
   | stop=>cases aC <;> rfl
   | ir=>cases aC <;> rfl
   | Yq x=>cases aC <;> rfl
  have ac:=Y E;clear E ck;go_wp2_with fail;obtain⟨bn,aV,b3,bR,bv,bm,be,bj⟩:=iT cp.out a7.out aS dF cS (O3 0) (O3 0) (Qn);refine qV ?_;rw[ac.out];exact⟨⟨_,rfl,cK.Rf b3 Pm⟩,bv,bR⟩):=O6 h;exact Im):=O6 h;exact VF):=O6 h;exact Yf
