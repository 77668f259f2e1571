import Derived.Test.YticfnaiehdpbmaaGreatDoorFa18
import Derived.Test.YticfnaiehdpbmaaGreatDoorFa19
import Derived.Sort.Walk0
set_option maxRecDepth 100000
set_option maxHeartbeats 0
set_option linter.all false
namespace Go.Proofs.YticfnaiehdpbmaaGreatDoor
open Go.RowKit Go.Proofs.Tryz
namespace Hp
def YQ (c:Fx)(b:Nd)(f:Pl)(g:St):(Va × Er) × St:=match UD c f (QB b) [] g with
 | ((d::e::_,.no),a)=>(Wl a.M b.2.kd d e,a)
 | ((_,d),a)=>((vU,d),a)
def zF {g:Fx}{j:Pl}:∀ (b:List Nd) (a:List Va) (d:St) (c:List Va) (f:St),UD g j b a d=((c,.no),f)->c.length=a.length+b.length
 | [],a,d,c,f,h=>by rw[UD] at h;cases h;simp
 | k::b,a,d,c,f,h=>by
  rcases i:g.v k j d with ⟨⟨n,l⟩,m⟩
  by_cases e:l=.no
  ·subst e;rw[Az i] at h;have:=zF b _ _ _ _ h;rw[this];simp;omega
  ·rw[H2 i e] at h;cases h;exact absurd rfl e
section
variable {M:Pe} {k I:Nat} {z:List Nat} {bS e5 e2 e6 e3:Px} {w w':Pe} {g:St} {eZ:Nat} {U:Fx}
structure oN (w0:Pe)(mb af:Nat)(ab:List Nat)(w2:Pe)(v1 v2:Va)(σ:St)(wz:Pe)(k2 kB:Nat):Prop where
 v1:wz.heap[k2]? = some (ZK v1)
 v2:wz.heap[kB]? = some (ZK v2)
 la:w2.heap.size<=k2
 lb:w2.heap.size<=kB
 ne:k2≠kB
 bl:Pn w2 wz
 ms:Ms w0 mb af ab wz σ
def oN.one {v1 v2:Va}(b:Ms M k I z w g):oN M k I z w v1 v2 g ((w.alloc (.cells #[O3 v1.k,O3 v1.n,Pj v1.s] 65)).alloc (.cells #[O3 v2.k,O3 v2.n,Pj v2.s] 65)).drew w.heap.size (w.heap.size+1):=by
 have a:Pn w ((w.alloc (.cells #[O3 v1.k,O3 v1.n,Pj v1.s] 65)).alloc (.cells #[O3 v2.k,O3 v2.n,Pj v2.s] 65)).drew:=(QJ.alloc P7 _).drew;refine⟨fY (Ph _ _),?_,Qp,by omega,by omega,a,b.fH a⟩;have:=Ph (w.alloc (.cells #[O3 v1.k,O3 v1.n,Pj v1.s] 65)) (.cells #[O3 v2.k,O3 v2.n,Pj v2.s] 65);rw[show (w.alloc (.cells #[O3 v1.k,O3 v1.n,Pj v1.s] 65)).heap.size=w.heap.size+1 by simp] at this;exact this
def oN.swap {c d:Va}{wz:Pe}{a b:Nat}(h:oN M k I z w d c g wz b a):oN M k I z w c d g wz a b:=⟨h.v2,h.v1,h.lb,h.la,h.ne.symm,h.bl,h.ms⟩
def aLG {H G:Pe->Nat->Nat->Prop}{goal:Prop}(d:(∀ w b a,H w b a->G w b a)->goal)(c:∀ w b a,H w b a->G w b a):goal:=d c
def Mu (ay:ig bS)(dz:Bs M k I z bS)(cQ:Wj M)(ah:Ms M k I z w g){u:Ad}{aG:Nd}(aJ:PX z w u aG)(ai:aG.2.fJ.length=2)(d:Pl)(o:Option Addr)
  (P:St->Prop) (hP:P g) (dD:∀ a ∈ QB aG,∀ g,P g->Ux M k I z bS g a d (U.v a d g)/\∀ v A,U.v a d g=((v,.no),A)->P A)
  (dC:∀ f t A,UD U d (QB aG) [] g=(([f,t],.no),A)->(-1000000000<=f.n/\f.n<=1000000000)/\(-1000000000<=t.n/\t.n<=1000000000)/\(A.M.hu f).size<=1000000/\(A.M.hu t).size<=1000000) :
  Pq 259 #[O5 k,O5 u.p,Qy d o] w (P5 M k I z bS w (YQ U aG d g)):=by
 have b{G}(h:G:=by
 have c8:=Y (fN F);have b{G}(h:G:=by
 obtain⟨aj,dl⟩:=xH u.p;obtain⟨eK,cw,dM,ek⟩:=Tf.row aZ.at_;obtain⟨ua,eP,di⟩:=dM.form;subst di;have dE:u.ks.length=2:=by rw[aZ.ks,ai]
 have aF:=Y (λL (i:Pn w2 L)=>JS ay (bf.fH i) (dM.fH i) (UW.kp (Kp.of i) _ _ aZ.lT) (by rw[RU,ai];omega) ⟨l,q,r⟩ o P hP dD)
 rw[dE] at cw aF;obtain⟨E,dk⟩:=xH (YQ U aG ⟨l,q,r⟩ g);rw[<-dk.out,<-dl.out];rw[<-dl.out] at cw b0
 rcases X:UD U ⟨l,q,r⟩ (QB aG) [] g with ⟨⟨cU,dj⟩,A⟩
 rw[X] at aF;have cr:=Y X;have dU:=Y dC;have ej:=Y ai;have ed:=Y cw;clear F aW X bo aY bC cw hP dD dC ai dE ek;go_enter func259,ntmps259;have b{G}(h:G:=by
 rintro m am ⟨⟨cT,s,rfl,d6,bG⟩,cz,d1⟩;refine ko c ?_;clear c K;have dn:=(P8.of (L:=none) a (P6 bO)).trans d1;have en:=bG;have ch:=Y (dn.fR bQ.out Pm);have dF:=bE.trans dn;have d9:=aZ.kp dn.Vo;have d2:=cz.lt;obtain⟨bq,a6,bv,bx,bB,bD,bF⟩:=Qb ch.out;refine uz 7 (.tuple #[cT,s]) ?_;refine uz 8 cT ?_;refine uz 9 s ?_;refine uz 10 cT ?_;refine uz 11 s ?_;refine TQ ?_ _;go_simp
 by_cases cp:dj=.no
 ·subst cp;have dm:s=QW:=bG;subst dm;have dJ:cU.length=2:=by have:=zF _ _ _ _ _ cr.out;rw[this,RU,ej.out];rfl
  obtain⟨f,t,rfl⟩:∃ f t,cU=[f,t]:=by
   match cU,dJ with
   | [f,t],_=>exact⟨f,t,rfl⟩
  obtain⟨dy,dO,dP,dL⟩:=O4 dU f t A cr.out;have dh:am.ownsRow _ 65 3 cT 2 (([f,t]:List Va).flatMap ZM):=d6;obtain⟨bV,dG,di,_,_⟩:=dh.form O9;subst di;have bL:∀ a8 x,(([f,t]:List Va).flatMap ZM)[a8]? = some x->am.cell? (O7 bV a8)=some x:=λa8 x dB=>by
   have e4:a8<6:=by have:=(gr.1 dB).1;simpa[ZM] using this
   rw[dh.cellAt a8 O9];exact dB
  have eo:=Y (bL 0 _ rfl);have d5:=Y (bL 1 _ rfl);have ec:=Y (bL 2 _ rfl);have d7:=Y (bL 3 _ rfl);have ep:=Y (bL 4 _ rfl);have em:=Y (bL 5 _ rfl);have eN:=(dh.lt bV rfl).2;have p:E=(Wl A.M aG.2.kd f t,A):=by rw[dk.out];unfold YQ;rw[cr.out]
  have aI:=Y p;have d3:=Y dP;have dZ:=Y dL;have dH:=Y dy;have dN:=Y dO;clear dJ bL p dP dL dy dO;go_wp2_with fail;refine aLG (H:=λwz aN a1=>oN M k I z am f t A wz aN a1) (G:=?GG) (λdI=>?ways) ?rest
  case ways=>
   refine UC 9 λa=>?_;refine uh 0 (.slice (some (O7 bV 0)) 2 dG) (a) ?_;refine up 1 bV 0 a ?_;refine uc 2 (.agg #[O3 f.k,O3 f.n,Pj f.s]) rfl (fM ⟨by kernel_rfl,λL i=>by have aO:=PN i eo.out;have ad:=PN i d5.out;have ak:=PN i ec.out;go_simp⟩) (a) ?_
   refine uh 3 (.slice (some (O7 bV 0)) 2 dG) (a) ?_;refine up 4 bV 3 a ?_;refine uc 5 (.agg #[O3 t.k,O3 t.n,Pj t.s]) rfl (fM ⟨by kernel_rfl,λL i=>by have aO:=PN i d7.out;have ad:=PN i ep.out;have ak:=PN i em.out;go_simp⟩) (a) ?_
   refine jS 6 7 (λK c=>?_) λK c=>?_
   ·go_simp;refine kG ?_;clear c K;refine Rl 7 λK c=>?_;go_simp;refine uv ?_;clear c K;refine Rl 8 λK c=>?_;go_simp;refine uv ?_;clear c K;refine uaZ 9 ?_;refine TQ ?_ _;go_simp;have B:=oN.one (v1:=f) (v2:=t) cz
    generalize ((am.alloc (.cells #[O3 f.k,O3 f.n,Pj f.s] 65)).alloc (.cells #[O3 t.k,O3 t.n,Pj t.s] 65)).drew=wz at B ⊢
    generalize am.heap.size+1=a1 at B ⊢
    generalize am.heap.size=aN at B ⊢
    exact dI wz aN a1 B
   ·go_simp;refine kG ?_;clear c K;refine Rl 6 λK c=>?_;go_simp;refine uv ?_;clear c K;refine Rl 8 λK c=>?_;go_simp;refine uv ?_;clear c K;refine uaZ 9 ?_;refine TQ ?_ _;go_simp;have B:=(oN.one (v1:=t) (v2:=f) cz).swap
    generalize ((am.alloc (.cells #[O3 t.k,O3 t.n,Pj t.s] 65)).alloc (.cells #[O3 f.k,O3 f.n,Pj f.s] 65)).drew=wz at B ⊢
    generalize am.heap.size+1=aN at B ⊢
    generalize am.heap.size=a1 at B ⊢
    exact dI wz aN a1 B
  case rest=>
   rintro wz aN a1 T;have de:=Y (fQ T.bl ch.out);have dt:=dF.trans (P8.of (L:=none) T.bl (P6 d2));have cn:=T.ms;have dg:=T.ms.lt;have cS:=Y T.v1;have cu:=Y T.v2;have eS:=T.ne;have eL:aN≠H:=λm=>by
    have ad:=T.la;have ak:=fI ch.out;omega
   have eM:a1≠H:=λm=>by
    have ad:=T.lb;have ak:=fI ch.out;omega
   have dK:=d9.kp (Kp.of T.bl);have bI:=dK.cells.2.1;have d0:=dK.cells.1;rw[<-dl.out] at bI d0;obtain⟨D,dA⟩:=xE aG.2.kd;rw[<-dA] at bI aI;clear bq a6 bv bx bB bD bF dA;obtain⟨bq,a6,bv,bx,bB,bD,bF⟩:=Qb de.out;obtain⟨cy,cf,cg,cR,cJ,cK,cP⟩:=Qb cS.out;obtain⟨cC,cD,cG,cL,cM,cO,cA⟩:=Qb cu.out;have d8:=Y bI;have dQ:=Y (fX cS.out);have dR:=Y (fX cu.out)
   by_cases aK:D=27
   ·subst aK
    by_cases B:f=t
    ·have p:E=((QE true,.no),A):=by rw[aI.out];unfold Wl;rw[fL rfl,g4 B]
     have C:=Y p;subst B;clear p;go_wp2_with fail;obtain⟨W,ck⟩:=xE (QE true);have c9:=WI true wz;exact xr
    ·have p:E=((QE false,.no),A):=by rw[aI.out];unfold Wl;rw[fL rfl,gN B]
     have C:=Y p;have ac:¬ f.k=t.k\/(f.k=t.k/\¬ f.n=t.n)\/(f.k=t.k/\f.n=t.n/\¬ f.s=t.s):=by
      by_cases ad:f.k=t.k
      ·by_cases ak:f.n=t.n
       ·exact .inr (.inr ⟨ad,ak,λbZ=>B (by cases f;cases t;simp_all)⟩)
       ·exact .inr (.inl ⟨ad,ak⟩)
      ·exact .inl ad
     clear p B
     rcases ac with ad|⟨ad,ak⟩|⟨ad,ak,bZ⟩
     ·exact tP
     ·exact tP
     ·have bU:(f.s.toList==t.s.toList)=false:=pt bZ
      exact tP
   ·by_cases B:f.k=3/\t.k=3
    ·have p:E=(py D f.n t.n,A):=by rw[aI.out];unfold Wl;rw[fK aK,fL B];rfl
     have C:=Y p;obtain⟨bW,dp⟩:=B;clear p;go_wp2_with fail;have ac:=Y (λL=>Sd (s:=bS) D f.n t.n dH.out dN.out L);obtain⟨dS,ci⟩:=xE (py D f.n t.n);rw[<-ci] at ac C;have ea:=fI cS.out;have d4:=fI cu.out;clear bW dp aK ci bI cy cf cg cR cJ cK cP cC cD cG cL cM cO cA bq a6 bv bx bB bD bF;refine UC 8 λa=>?_;refine up 0 aj 0 a ?_;refine up 1 aj 0 a ?_;refine up 2 aj 0 a ?_;refine uk 3 d8.out a ?_;refine up 4 aN 1 a ?_;refine uk 5 (dQ.out.2.1) a ?_
     refine up 6 a1 1 a ?_;refine uk 7 (dR.out.2.1) a ?_;refine Rl 8 λK c=>?_;go_simp;refine cm (O4 ac _) ?_;rintro m eq ⟨⟨s,rfl,bG⟩,dq⟩;refine ko c ?_;clear c K;have da:=a.trans (dq.mono a.size);have b{G}(h:G:=by
     refine uz 9 (vA b7) ?_;refine uz 10 s ?_;refine uaZ 11 ?_;refine uz 12 s ?_;exact JQ):=O6 h;exact F8
    ·by_cases ac:D=29/\(f.k=4\/t.k=4)
     ·have p:E=(pw (A.M.hu f) (A.M.hu t),A):=by rw[aI.out];unfold Wl pw;rw[fK aK,fK B,fL ac]
      have C:=Y p;obtain⟨dS,ci⟩:=xE (pw (A.M.hu f) (A.M.hu t));have b9:=Y (λL=>aAO (s:=bS) (A.M.hu f) (A.M.hu t) d3.out dZ.out L);rw[<-ci] at b9 C;have cZ:=Y (λL (i:Pn wz L)=>ux dz cQ (cn.fH i) f (by have:=O4 dH;omega))
      have dc:=Y (λL (i:Pn wz L)=>ux dz cQ (cn.fH i) t (by have:=O4 dN;omega))
      obtain⟨dX,b6⟩:=xE (A.M.hu f);obtain⟨dY,b4⟩:=xE (A.M.hu t);rw[<-b6,<-b4] at b9;rw[<-b6] at cZ;rw[<-b4] at dc;have ea:=fI cS.out;have d4:=fI cu.out;obtain⟨dd,bU⟩:=ac;subst dd;have bT:f.k=3->¬ t.k=3:=λad ak=>B ⟨ad,ak⟩;clear p ci b6 b4 B
      by_cases bW:f.k=3
      ·have dp:=bT bW;have b1:t.k=4:=bU.resolve_left O9;clear bU bT;go_wp2_with fail;clear bW dp b1 aK bI cy cf cg cR cJ cK cP cC cD cG cL cM cO cA bq a6 bv bx bB bD bF;exact zx
      ·by_cases bY:f.k=4
       ·clear bU bT;go_wp2_with fail;clear bW bY aK bI cy cf cg cR cJ cK cP cC cD cG cL cM cO cA bq a6 bv bx bB bD bF;exact zx
       ·have b1:t.k=4:=bU.resolve_left bY;clear bU bT;go_wp2_with fail;clear bW bY b1 aK bI cy cf cg cR cJ cK cP cC cD cG cL cM cO cA bq a6 bv bx bB bD bF;exact zx
     ·by_cases cV:D=28/\f.k=4/\t.k=4
      ·obtain⟨b3,bY,b1⟩:=cV;subst b3
       by_cases bT:f.s.data.toList<t.s.data.toList
       ·have p:E=((QE true,.no),A):=by rw[aI.out];unfold Wl;rw[fK Pm,fK B,fK ac,fL ⟨rfl,bY,b1⟩,g4 bT]
        have C:=Y p;have b4:Op.bytesLess f.s.toList t.s.toList=true:=by rw[hB,hB,bytesLess_eq];exact g4 bT
        clear p B ac bT;go_wp2_with fail;obtain⟨W,ck⟩:=xE (QE true);have c9:=WI true wz;exact xr
       ·have p:E=((QE false,.no),A):=by rw[aI.out];unfold Wl;rw[fK Pm,fK B,fK ac,fL ⟨rfl,bY,b1⟩,gN bT]
        have C:=Y p;have b4:Op.bytesLess f.s.toList t.s.toList=false:=by rw[hB,hB,bytesLess_eq];exact gN bT
        clear p B ac bT;exact tP
      ·have p:E=((vU,f0 gB),A):=by rw[aI.out];unfold Wl;rw[fK aK,fK B,fK ac,fK cV]
       have C:=Y p;clear p;have b6:f.k=3->t.k=3->False:=λu N=>B ⟨u,N⟩;have b3:D=29->f.k=4->False:=λu N=>ac ⟨u,.inl N⟩;have b4:D=29->t.k=4->False:=λu N=>ac ⟨u,.inr N⟩;have bT:D=28->f.k=4->t.k=4->False:=λu N e=>cV ⟨u,N,e⟩;clear B ac cV
       by_cases dX:D=29
       ·subst dX;have dV:¬ f.k=4:=λh=>b3 rfl h;have dY:¬ t.k=4:=λh=>b4 rfl h
        by_cases cZ:f.k=3
        ·exact xo
        ·have eQ:(f.k==4)=false:=by simpa using dV
         have eR:(t.k==4)=false:=by simpa using dY
         have eO:(f.k==3)=false:=by simpa using cZ
         clear b6 b3 b4 bT;go_wp2_with fail
         all_goals first | (exfalso;omega)|skip
         exact rq
       ·by_cases dV:D=28
        ·subst dV
         by_cases cZ:f.k=3
         ·exact xo
         ·by_cases dY:f.k=4
          ·have eO:¬ t.k=4:=λh=>bT rfl dY h;clear b6 b3 b4 bT;go_wp2_with fail;exact rq
          ·clear b6 b3 b4 bT;go_wp2_with fail;exact rq
        ·by_cases cZ:f.k=3
         ·exact xo
         ·clear b6 b3 b4 bT;go_wp2_with fail;exact rq
 ·obtain⟨bL,bM,dm⟩:=bG.XO cp ay;subst dm;have p:E=((vU,dj),A):=by
   rw[dk.out];unfold YQ;rw[cr.out]
   rcases cU with _|⟨cf,_|⟨cg,B⟩⟩ <;> cases dj <;> first|rfl|exact absurd rfl cp
  have C:=Y p;clear cp p;go_wp2_with fail;obtain⟨bn,aV,aQ,aD,aC,bm,be,bj⟩:=iT ch.out a7.out aS dF cz (O3 0) (O3 0) (Qn);refine qV ?_;rw[C.out];exact⟨⟨_,rfl,en.Rf aQ Pm⟩,aC,aD⟩):=O6 h;exact Im):=O6 h;exact VF):=O6 h;exact Yf
