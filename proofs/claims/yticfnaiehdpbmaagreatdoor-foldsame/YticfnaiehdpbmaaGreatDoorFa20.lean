import Derived.Test.YticfnaiehdpbmaaGreatDoorFa17
set_option maxRecDepth 100000
set_option maxHeartbeats 0
set_option linter.all false
namespace Go.Proofs.YticfnaiehdpbmaaGreatDoor
open Go.RowKit Go.Proofs.Tryz
namespace Hp
section
variable {M:Pe} {k I:Nat} {z:List Nat} {am d7 d5 d8 d6:Px} {w w':Pe} {g:St} {bD:Nat} {U:Fx}
section
variable {c:Pl} {d:Int} {b:Nd} {e:List Nd} {f:Va}
include c d b e f
def NZ {a:St}(h:U.v (Pg b 0) c g=((f,.no),a)):Y7 U c d (b::e) g=Y7 U c d e (a.Rj d b.2.tx f false):=by rw[Y7,h]
def awG {a:Er}{i:St}(h:U.v (Pg b 0) c g=((f,a),i))(j:a≠.no):Y7 U c d (b::e) g=((vU,a),i):=by
 rw[Y7,h];exact wu
end
def ao3 (ay:ig am)(ah:Ms M k I z w g)(dk:Sz bD g)(cO:bD<1000000000){u:Ad}{a1:Nd}(aJ:PX z w u a1)(dC:a1.2.fJ.length<=1000000)(ad:∀ j ∈ QB a1,j.2.fJ.length=1)(d:Pl)(o:Option Addr)
  (P:St->Prop) (hP:P { g with M:=g.M.Qj 0 }) (b7:∀ j ∈ QB a1,∀ a,P a->Ux M k I z am a (Pg j 0) d (U.v (Pg j 0) d a)/\∀ v E,U.v (Pg j 0) d a=((v,.no),E)->Sz bD E/\P (E.Rj g.M.objs.length j.2.tx v false)) :
  Pq 266 #[O5 k,O5 u.p,Qy d o] w (P5 M k I z am w (Y7 U d g.M.objs.length (QB a1) { g with M:=g.M.Qj 0 })):=by
 have b{G}(h:G:=by
 have bF:=Y F;have bB:=Y (fN F);have b{G}(h:G:=by
 obtain⟨d4,cz⟩:=xH u.p;obtain⟨p,bG⟩:=xE ((g.M.objs.length:Int):Int);obtain⟨cl,bU⟩:=xE ({ g with M:=g.M.Qj 0 }:St);obtain⟨T,bx⟩:=xH (QB a1);obtain⟨C,bT⟩:=xH u.ks;have cM:C.length=T.length:=by rw[bT.out,bx.out,aJ.ks,RU]
 rw[<-bG,<-bU,<-bx.out];rw[<-bG,<-bx.out] at b7;rw[<-bU] at hP;rw[<-bx.out] at ad;obtain⟨cn,cK⟩:=xH (Y7 U ⟨l,q,r⟩ p T cl);rw[<-cK.out];have dH:Pq 49 #[O5 k,O3 0] w2 λm w'=>m=PK (O3 p)/\Ms M k I z w' cl/\Ql Th k w2 w':=by
  obtain⟨_,_,_,_,b3⟩:=bf;refine(wO b3 dk cO 0).mono ?_;rintro m w' ⟨rfl,ak,bZ⟩;rw[bG,bU];exact⟨rfl,⟨_,_,_,_,ak⟩,bZ⟩
 have dI:=Y hP;have dl:=Y b7;have dN:=Y ad;have cV:=Y cM;have dQ:C.length<=1000000:=by rw[bT.out,aJ.ks];exact dC
 rw[<-cz.out] at b0 ⊢;clear F aW bo aY bC hP b7 ad bG bU cM;go_enter func266,ntmps266;go_wp2_with fail;refine iz ?_;clear bu bh;refine cm dH ?_;rintro m cy ⟨rfl,cG,dA⟩;have dB:=cG.lt;have bV:P8 none k w2 cy:=P8.jR dA;have dp:=Y (bV.fR bQ.out Pm);have dr:=Y (bV.fR bF.out Pm);have dn:=bE.trans bV;have c9:=aZ.kp bV.Vo;obtain⟨dP,b9,cg,dL⟩:=Tf.row c9.at_;obtain⟨ua,dY,dj⟩:=cg.form;subst dj;rw[<-cz.out] at b9 dL;rw[<-bT.out] at b9 cg;have cL:=c9.lT
 rw[<-bT.out,<-bx.out] at cL;go_wp2_with fail;clear b9
 go_loopw [22] (λn wr=>∃ (j:Nat) (aK:St),j<=C.length/\n=O3 j/\Ms M k I z wr aK/\P aK/\P8 none k cy wr/\cn=Y7 U ⟨l,q,r⟩ p (T.drop j) aK) (λn _=>C.length - (intOf n).toNat)
 case atStart=>exact⟨0,cl,f3 _,rfl,cG,dI.out,P8.of RP (P6 dB),cK.out⟩
 case round=>
  obtain⟨j,aK,ai,rfl,ah,cS,ax,cP⟩:=hrel;have cJ:=ah;have dG:=Y cS;have ci:=Y cP;have bO:=ah.lt;have c8:=dn.trans ax;have dh:=ax;have bQ:=Y (ax.fR dp.out Pm);have bF:=Y (ax.fR dr.out Pm);have bB:=Y (fN bF.out);have e1:=fI bF.out;clear cS cP
  by_cases bY:j<C.length
  ·have cr:j<T.length:=by rw[<-cV.out];exact bY
   obtain⟨dZ,dU,B,d1,cu,dR⟩:=(cg.kp ax.Vo).cell j bY;have b{G}(h:G:=by
   have dy:(j:Int)<(C.length:Int):=O9;have bS:=(UW.get _ _ cL j bY cr).kp ax.Vo;obtain⟨ac,cR⟩:=O4 dl T[j] (gT _) aK dG.out;have dz:=O4 dN T[j] (gT _);obtain⟨cp,cw,dV,bR,bc,dt,_⟩:=bS.Zf (a:=0) O9;rw[dz] at bR;have aF:=Y (λL (i:Pn wr L)=>ac L cp o (cJ.fH i) (dt.kp (Kp.of i)));obtain⟨W,cU⟩:=xE ((C[j]).p);obtain⟨d3,cC⟩:=xE cp.p;obtain⟨bW,ck⟩:=xH ((T[j]).2.tx);have di:=bS.cells.1;have bI:=bS.cells.2.2.1;have cf:=bS.gw
   rw[<-cU] at cu bR di bI cf;rw[<-ck.out] at bI;rw[<-cC] at bc aF
   rcases aj:U.v (Pg T[j] 0) ⟨l,q,r⟩ aK with ⟨⟨f,b6⟩,E⟩
   rw[aj] at aF;have dE:=Y cR;have bv:=Y aj;have cT:=Y (iD cr);have cA:=Y bR;have cZ:=Y bc;have dF:=Y bI;have dD:=Y cf;have dX:=fV bc;have aY:w.heap.size<=H:=O4 a7;clear cR cU cC aj bR bc bI cf;go_wp2_with fail;clear cu;refine WJ (H:=λwz D s=>VB M k I z am wr f b6 E wz D s) (G:=?GG) (λaN=>?ways) ?rest
   case ways=>
    refine UC 8 λa=>?_;refine up 0 k 0 a ?_;refine up 1 W 0 a ?_;refine up 2 W 0 a ?_;refine up 3 W 3 a ?_;refine vg ?_;refine jS 8 12 (λK c=>?_) λK c=>?_
    ·go_simp;refine l9 ?_;have b{G}(h:G:=by
     refine pN ?_;refine uaZ 12 ?_;refine uaZ 13 ?_;refine uz 14 s ?_;exact Cp):=O6 h;exact kP
    ·go_simp;refine kG ?_;clear c K;refine Rl 8 λK c=>?_;go_simp;refine ov ?_;have b{G}(h:G:=by
     have b{G}(h:G:=by
     have ac:=VB.early (v:=f) ch Qp (P6 bO) aG ah ((P8.of (QJ.drew) (P6 bO)).trans ax);exact Dq):=O6 h;exact G9):=O6 h;exact kP
   case rest=>
    have b{G}(h:G:=by
    have b4:P8 none k w wz:=c8.trans A.fr;clear cx
    by_cases aG:b6=.no
    ·subst aG;have aI:s=QW:=A.er;subst aI;obtain⟨dm,a6⟩:=O4 dE f E bv.out;rw[<-ck.out] at a6;have ds:=Y a6;have dx:=A.ms;have dq:=Y (fX A.v);have d2:=fI A.v;have ba:=Y (A.fr.Vo.YJ dF.out dD.out);have d0:=fV ba.out;have bM:=dh.trans A.fr;have dJ:Hid (∀ L,Pn wz L->Pq 56 #[O5 k,O3 p,Pj bW,vA f,Pv false] L λm w'=>(∃ e,m=PK (U4 e))/\Ms M k I z w' (E.Rj p bW f false)/\Ql Th k L w'):=λL i=>by
      obtain⟨_,_,_,_,b3⟩:=dx.fH i;refine(ZQ b3 dm cO p bW f false).mono ?_;rintro m w' ⟨rfl,ak,bZ⟩;exact⟨⟨_,rfl⟩,⟨_,_,_,_,ak⟩,bZ⟩
     clear a6 da ch dc dd de dg dO;go_wp2_with fail;refine UC 9 λa=>?_;refine iy ?_;refine uh 3 (O3 p) (a) ?_;refine up 4 W 0 a ?_;refine up 5 W 0 a ?_;refine up 6 W 1 a ?_;refine uk 7 ba.out a ?_;refine jN 8 dq.out a ?_;refine Rl 9 λK c=>?_;go_simp;refine cm (O4 dJ _ a) ?_;rintro m dS ⟨⟨dT,rfl⟩,dM,dK⟩;refine ko c ?_;clear c K;have bL:=bM.trans ((P8.of (L:=none) a (P6 cD)).trans (P8.jR dK));refine TQ ?_ _;go_simp;go_wp2
     go_roundw
     case rel=>
      refine⟨j+1,E.Rj p bW f false,by omega,by go_num,dM,ds.out,bL,?_⟩;rw[ci.out,cT.out,NZ bv.out,<-ck.out]
     case measure=>simp[intOf];omega
    ·obtain⟨bL,bM,aI⟩:=A.er.XO aG ay;subst aI;have bq:cn=((vU,b6),E):=by rw[ci.out,cT.out];exact awG bv.out aG
     have a6:=Y bq;clear aG bq;exact vt):=O6 h;exact JY):=O6 h;exact UM
  ·have e:j=C.length:=O9;have bq:cn=((UH p,.no),aK):=by rw[ci.out,e,cV.out,ll];rfl
   have i:=Y bq;have dy:¬ (j:Int)<(C.length:Int):=O9;obtain⟨W,aj⟩:=xE (UH p);have f:=th p wr;rw[<-aj] at f;clear bq e;go_wp2_with fail;refine cm f ?_;rintro m wb ⟨rfl,a⟩;have bc:=Y (fQ a bQ.out);have bR:=cJ.fH a;have bM:=c8.trans (P8.of (L:=none) a (P6 bO));have bv:=Y aj;obtain⟨A,s,t,B,D,ac,aF⟩:=Qb bc.out;clear aj;have b{G}(h:G:=by
   rw[i.out,<-bv.out];exact⟨⟨_,rfl,rfl⟩,aC,aD⟩):=O6 h;exact ox):=O6 h;exact VF):=O6 h;exact Yf
def px (U:Fx)(c:Nd)(d:Pl)(g:St):(Va × Er) × St:=match UJ U (Pg c 0) d g with
 | ((e,.no),a)=>let b:=a.M.cut e c.2.tx;if !b.1&&d.fT then ((vU,f0 gB),{ a with M:=b.2 }) else ((QE b.1,.no),{ a with M:=b.2 })
 | ((_,b),a)=>((vU,b),a)
section
variable (ay:ig am) (ah:Ms M k I z w g) {u:Ad} {A:Nd} (aJ:PX z w u A) (ai:A.2.fJ.length=1) (d:Pl) (o:Option Addr) (ad:Ux M k I z am g (Pg A 0) d (U.v (Pg A 0) d g)) (bV:∀ aL p,UJ U (Pg A 0) d g=((aL,.no),p)->Sz bD p) (ch:bD<1000000000)
include ay ah u A aJ ai d o ad bV ch
def ase :
  Pq 264 #[O5 k,O5 u.p,Qy d o] w (P5 M k I z am w (pb U A d g)):=by
 have b{G}(h:G:=by
 have bB:=Y (fN F);have b{G}(h:G:=by
 have b{G}(h:G:=by
 have b{G}(h:G:=by
 obtain⟨b3,aK⟩:=xH (pb U A ⟨l,q,r⟩ g);have b{G}(h:G:=by
 rcases X:UJ U (Pg A 0) ⟨l,q,r⟩ g with ⟨⟨D,E⟩,p⟩
 have b{G}(h:G:=by
 have bI:=Y X;have cR:=Y bV;clear F aW X ad bo aY bC bx bq bS bV;go_enter func264,ntmps264;have b{G}(h:G:=by
 have bF:=bE.trans ac;have cg:=aZ.kp ac.Vo;have bR:=T.lt;obtain⟨b7,b4,b9,ck,cl,cn,cp⟩:=Qb aN.out
 by_cases B:E=.no
 ·have b{G}(h:G:=by
  obtain⟨t,bM⟩:=xE (((p.M.gv D aI).map Pr.v).getD vU);have bW:rK (p.M.gv D aI)=vA t:=by
   rw[bM]
   cases p.M.gv D aI <;> rfl
  obtain⟨C,b2⟩:=xE ((p.M.gv D aI).isSome);have bZ:Hid (∀ L,Pn wz L->Pq 124 #[O5 k,O3 D,Pj aI] L λm w'=>m=PK (.tuple #[vA t,Pv C])/\Pn L w'):=λL i=>by
   obtain⟨_,_,_,_,W⟩:=T.fH i;have h:=aFw W.hh cf.go.sm (P6 ch) D aI;rw[bW,<-b2] at h;exact h
  have f:b3=((t,.no),p):=by rw[aK.out];unfold pb;rw[bI.out,bM,bU]
  have b6:=Y f;clear bT bU bM bW b2 f;go_simp;go_wp2_with fail;refine WJ (H:=λbv bG s=>VB M k I z am wz t .no p bv bG QW/\s=Pv C) (G:=?GG) (λbY=>?ways) ?rest
  case ways=>
   refine UC 8 λa=>?_;refine iy ?_;refine uh 3 (O3 D) (a) ?_;refine xW ?_;refine jS 8 12 (λK c=>?_) λK c=>?_
   ·go_simp;refine cm (O4 bZ _ a) ?_;rintro m W ⟨rfl,bL⟩;refine ko c ?_;clear c K;have aG:X8 am W QW .no:=rfl;have ah:=(T.fH (a)).fH bL;have ax:=P8.of (L:=none) (B:=k) bL (P6 (Ms.lt (T.fH (a))));refine uz 9 (.tuple #[(vA t),Pv C]) ?_;refine uz 10 (vA t) ?_;refine uz 11 (Pv C) ?_;refine uaZ 12 ?_;refine uaZ 13 ?_;refine uz 14 (Pv C) ?_;refine TQ ?_ _;go_simp;have bc:=VB.late (v:=t) aG ah ((P8.of a (P6 bR)).trans ax)
    generalize W.alloc (.cells #[O3 t.k,O3 t.n,Pj t.s] 65)=bv at bc ⊢
    generalize W.heap.size=bG at bc ⊢
    generalize a6:Value.bool C=s
    exact bY bv bG s ⟨bc,a6.symm⟩
   ·go_simp;refine kG ?_;clear c K;refine Rl 8 λK c=>?_;go_simp;refine cm (O4 bZ _ (QJ.drew)) ?_;rintro m W ⟨rfl,bL⟩;refine ko c ?_;clear c K;have aG:X8 am W QW .no:=rfl;have ah:=(T.fH (QJ.drew)).fH bL;have ax:=P8.of (L:=none) (B:=k) bL (P6 (Ms.lt (T.fH (QJ.drew))));have b1:W.heap[wz.heap.size]? = some (PZ #[O3 0,O3 0,Qn] 65):=ax.fR (Ph _ _) Pm;obtain⟨cC,cr,cD,cu,cy,cz,cG⟩:=Qb b1;refine uz 9 (.tuple #[(vA t),Pv C]) ?_;refine uz 10 (vA t) ?_;refine uz 11 (Pv C) ?_;refine uaZ 13 ?_
    refine uz 14 (Pv C) ?_;refine TQ ?_ _;go_simp;have bc:=VB.early (v:=t) b1 Qp (P6 bR) aG ah ((P8.of (QJ.drew) (P6 bR)).trans ax)
    generalize ((W.setCell (O7 wz.heap.size 0) (O3 t.k)).setCell (O7 wz.heap.size 1) (O3 t.n)).setCell (O7 wz.heap.size 2) (Pj t.s)=bv at bc ⊢
    generalize wz.heap.size=bG at bc ⊢
    generalize a6:Value.bool C=s
    exact bY bv bG s ⟨bc,a6.symm⟩
  case rest=>
   rintro bv bG s ⟨W,rfl⟩;have bc:=Y (W.fr.fR aN.out Pm);have bL:=bF.trans W.fr;have b1:=W.ms;have cr:=W.ms.lt;obtain⟨cD,cG,cL,cP,cS,cT,cC⟩:=Qb bc.out;obtain⟨cz,cu,cy,cV,cM,cO,cU⟩:=Qb (W.v);clear b7 b4 b9 ck cl cn cp;go_wp2_with fail;obtain⟨bn,aV,aQ,aD,aC,bm,be,bj⟩:=iT bc.out a7.out aS bL b1 (O3 t.k) (O3 t.n) (Pj t.s);rw[<-aV];refine XW (v:=.tuple #[vA t,QW]) ?_;rw[b6.out];exact⟨⟨_,rfl,rfl⟩,aC,aD⟩):=O6 h;exact LM
 ·obtain⟨bL,bM,a6⟩:=aG.XO B ay;subst a6;have f:b3=((vU,E),p):=by
   rw[aK.out];unfold pb;rw[bI.out];exact jZ
  exact Du):=O6 h;exact An):=O6 h;exact rQ):=O6 h;exact r2):=O6 h;exact xN):=O6 h;exact nw):=O6 h;exact VF):=O6 h;exact Yf
def NT :
  Pq 298 #[O5 k,O5 u.p,Qy d o] w (P5 M k I z am w (px U A d g)):=by
 have b{G}(h:G:=by
 have cV:=Y F;have bB:=Y (fN F);have b{G}(h:G:=by
 have b{G}(h:G:=by
 have b{G}(h:G:=by
 obtain⟨bG,aK⟩:=xH (px U A ⟨l,q,r⟩ g);have b{G}(h:G:=by
 rcases X:UJ U (Pg A 0) ⟨l,q,r⟩ g with ⟨⟨D,E⟩,p⟩
 have b{G}(h:G:=by
 have bI:=Y X;have cR:=Y bV;clear F aW X ad bo aY bC bx bq bS bV;go_enter func298,ntmps298;have b{G}(h:G:=by
 have dg:=Y (ac.fR cV.out Pm);have bF:=bE.trans ac;have cg:=aZ.kp ac.Vo;have di:=T.lt;obtain⟨cU,cT,c8,c9,da,de,dk⟩:=Qb aN.out
 by_cases B:E=.no
 ·have b{G}(h:G:=by
  obtain⟨t,b1⟩:=xE ((p.M.cut D aI).1);obtain⟨C,bW⟩:=xE ({ p with M:=(p.M.cut D aI).2 }:St);have dh:Hid (∀ L,Pn wz L->Pq 315 #[O5 k,O3 D,Pj aI] L λm w'=>m=PK (Pv t)/\Ms M k I z w' C/\Ql Th k L w'):=λL i=>by
   obtain⟨_,_,_,_,bL⟩:=T.fH i;refine(Kw bL.hh cf.go.ok cf.go.sm (P6 ch) D aI).mono ?_;rintro m w' ⟨rfl,ak,bZ⟩;rw[bW,b1];exact⟨rfl,⟨_,_,_,_,bL.heap ak bZ⟩,bZ⟩
  have f:bG=if !t&&r then ((vU,f0 gB),C) else ((QE t,.no),C):=by rw[aK.out];unfold px;rw[bI.out,bW,b1,bU]
  have cn:=Y f;clear bT bU bW b1 f;go_simp;go_wp2_with fail;refine UC 8 λa=>?_;refine iy ?_;refine uh 3 (O3 D) (a) ?_;refine xW ?_;refine Rl 8 λK c=>?_;go_simp;refine cm (O4 dh _ a) ?_;rintro m ck ⟨rfl,b2,cS⟩;refine ko c ?_;clear c K;have bY:=(P8.of (L:=none) a (P6 di)).trans (P8.jR cS);have b6:=Y (bY.fR aN.out Pm);have cy:=bF.trans bY;obtain⟨cl,cP,cp,cr,_,cu⟩:=fN (bY.fR dg.out Pm);have b3:=b2.lt;obtain⟨cC,cD,cG,cL,cM,cO,cz⟩:=Qb b6.out
  clear cU cT c8 c9 da de dk;refine uz 9 (Pv t) ?_;refine TQ ?_ _;go_simp
  cases t with
  | true=>
   go_wp2_with fail;obtain⟨W,bv⟩:=xE (QE true);have b4:=WI true ck;exact FM
  | false=>
   cases r with
   | true=>
    go_wp2_with fail;refine cm (Vz (es:=am) b3 gB) ?_;rintro m dy ⟨⟨s,rfl,aG⟩,bL⟩;have b9:=Y (fQ bL b6.out);have dd:=b2.fH bL;have dc:=cy.trans (P8.of (L:=none) bL (P6 b3));obtain⟨dn,dl,dm,dp,dq,dr,ds⟩:=Qb b9.out;clear cC cD cG cL cM cO cz cl cP cp cr cu;have b{G}(h:G:=by
    have f:bG=((vU,f0 gB),C):=by rw[cn.out];rfl
    rw[f];exact⟨⟨_,rfl,aG.Rf aQ Pm⟩,aC,aD⟩):=O6 h;exact vi
   | false=>
    go_wp2_with fail;obtain⟨W,bv⟩:=xE (QE false);have b4:=WI false ck;exact FM):=O6 h;exact LM
 ·obtain⟨bL,bM,a6⟩:=aG.XO B ay;subst a6;have f:bG=((vU,E),p):=by
   rw[aK.out];unfold px;rw[bI.out];exact jZ
  exact Du):=O6 h;exact An):=O6 h;exact rQ):=O6 h;exact r2):=O6 h;exact xN):=O6 h;exact nw):=O6 h;exact VF):=O6 h;exact Yf
end
def SJ (ah:Ms M k I z w g)(v:Va):Pq 296 #[O5 k,vA v] w λm w'=>m=PK (Pj (UO g.M v))/\Pn w w':=by
 obtain⟨_,_,_,_,A⟩:=ah;have au:=A.lt;have R:=(f2 w.heap.size w).alloc Qp (.cells #[O3 v.k,O3 v.n,Pj v.s] 65);obtain⟨j,bz,d⟩:=v
 by_cases o:j=0
 ·subst o;have b:UO g.M ⟨0,bz,d⟩=QX:=rfl;exact rT
 by_cases q:j=2
 ·subst q;have b:UO g.M ⟨2,bz,d⟩=XV:=rfl;exact rT
 by_cases s:j=3
 ·subst s;have b:UO g.M ⟨3,bz,d⟩=vv:=rfl;exact rT
 by_cases t:j=4
 ·subst t;have b:UO g.M ⟨4,bz,d⟩=sl:=rfl;exact rT
 by_cases H:j=5
 ·subst H;obtain⟨e,l⟩:=xE (g.M.gn bz);obtain⟨C,E⟩:=xH (w.alloc (.cells #[O3 5,O3 bz,Pj d] 65));have f:Pn w C:=by rw[E.out];exact R
  obtain⟨W,D⟩:=xE w.heap.size;have r:C.heap[W]? = some (PZ #[O3 5,O3 bz,Pj d] 65):=by rw[E.out,D];exact Ph _ _
  have aj:=Y (fX r);have aC:=fI r;have F:=Y (λL (i:Pn C L)=>xZ ((A.fH f).fH i).hh bz);rw[<-l] at F;have ax:=(A.fH f).lt
  by_cases p:e=0
  ·have b:UO g.M ⟨5,bz,d⟩=Xy:=by unfold UO;rw[<-l,p];rfl
   rw[b];rw[p] at F;clear b l p o q s t r;have ac{G}(h:G:=by
   refine uz 6 (Pv false) ?_;refine TQ ?_ _;have B:=f.trans (a.mono f.size);go_simp;go_wp2;go_ret;exact⟨rfl,B⟩):=O6 h;exact Br
  ·have b:UO g.M ⟨5,bz,d⟩=QL:=by unfold UO;rw[<-l];simp[p]
   rw[b];clear b l o q s t r;have ac{G}(h:G:=by
   refine uz 6 (Pv true) ?_;refine TQ ?_ _;have B:=f.trans (a.mono f.size);go_simp;go_wp2;go_ret;exact⟨rfl,B⟩):=O6 h;exact Br
 have b:UO g.M ⟨j,bz,d⟩=Xy:=by unfold UO;simp[o,q,s,t,H]
 exact rT
def mC (U:Fx)(b:Nd)(c:Pl)(g:St):(Va × Er) × St:=
 if (Pg b 0).2.kd=23/\g.M.find c.scope (Pg b 0).2.tx = -1 then ((Vk QX,.no),g)
 else match U.v (Pg b 0) c g with
  | ((d,.no),a)=>((Vk (UO a.M d),.no),a)
  | ((_,d),a)=>((vU,d),a)
def ou (c:(Va × Er) × St):(Va × Er) × St:=match c with
  | ((b,.no),a)=>((Vk (UO a.M b),.no),a)
  | ((_,b),a)=>((vU,b),a)
def ur (c:(Va × Er) × St):(Va × Er) × St:=match c with
  | ((_,.no),a)=>((QE true,.no),a)
  | ((_,b),a)=>((vU,b),a)
def UB (_:ig am)(ah:Ms M k I z w g){u:Ad}{p:Nd}(aJ:PX z w u p)(ai:p.2.fJ.length=1)(d:Pl)(o:Option Addr)(ad:Ux M k I z am g (Pg p 0) d (U.v (Pg p 0) d g))(bG:(Pg p 0).2.kd=23)(b8:g.M.find d.scope (Pg p 0).2.tx = -1)(bq:Sz bD g)(bW:bD<1000000000) :
  Pq 261 #[O5 k,O5 u.p,Qy d o] w (P5 M k I z am w (((Vk QX,.no),g))):=by
 have b{G}(h:G:=by
 have ch:=Y (fN F);have b{G}(h:G:=by
 have b{G}(h:G:=by
 have b{G}(h:G:=by
 have aI:g.M.find l aF = -1:=by rw[aG];exact b8
 rw[aI] at a1;obtain⟨bx,B⟩:=xH (((Vk QX,Er.no),g));rw[<-B.out];have b{G}(h:G:=by
 refine uz 16 (Pv true) ?_;refine uz 17 (Pv true) ?_;refine TQ ?_ _;go_simp;have ac:=bf.fH s;have a8:=Y (fQ s bQ.out);have ak:=bE.trans (P8.of (L:=none) s (P6 bO));have bv:=ac.lt;go_wp2_with fail;obtain⟨W,C⟩:=xH (Vk QX);have E:=qG QX a6;rw[<-C.out] at E;refine cm E ?_;rintro m wb ⟨rfl,f⟩;have bc:=Y (fQ f a8.out);have bR:=ac.fH f;have bM:=ak.trans (P8.of (L:=none) f (P6 bv));obtain⟨bI,bB,bF,bL,bS,bV,bY⟩:=Qb bc.out
 have b{G}(h:G:=by
 have aj:bx=((W,.no),g):=by rw[B.out,C.out]
 rw[aj];exact⟨⟨_,rfl,rfl⟩,aC,aD⟩):=O6 h;exact ox):=O6 h;exact Fz):=O6 h;exact Jl):=O6 h;exact p3):=O6 h;exact VF):=O6 h;exact Yf
section
variable (ay:ig am) (ah:Ms M k I z w g) {u:Ad} {p:Nd} (aJ:PX z w u p) (ai:p.2.fJ.length=1) (d:Pl) (o:Option Addr) (ad:Ux M k I z am g (Pg p 0) d (U.v (Pg p 0) d g))
include ay ah u p aJ ai d o ad
def ao0 (bG:(Pg p 0).2.kd=23)(b8:¬ g.M.find d.scope (Pg p 0).2.tx = -1)(bq:Sz bD g)(bW:bD<1000000000) :
  Pq 261 #[O5 k,O5 u.p,Qy d o] w (P5 M k I z am w (ou (U.v (Pg p 0) d g))):=by
 have b{G}(h:G:=by
 have bY:=Y F;have ch:=Y (fN F);have b{G}(h:G:=by
 have b{G}(h:G:=by
 have b{G}(h:G:=by
 have cn:¬ g.M.find l aF = -1:=by rw[aG];exact b8
 obtain⟨da,bV⟩:=xE (g.M.find l aF);rw[<-bV] at a1 cn;clear bV;have b{G}(h:G:=by
 have b{G}(h:G:=by
 have b{G}(h:G:=by
 refine uz 16 (Pv false) ?_;refine uz 17 (Pv false) ?_;refine TQ ?_ _;go_simp;exact IG):=O6 h;exact Fz):=O6 h;exact Ij):=O6 h;exact pu):=O6 h;exact Jl):=O6 h;exact p3):=O6 h;exact VF):=O6 h;exact Yf
def agP (ba:¬ (Pg p 0).2.kd=23) :
  Pq 261 #[O5 k,O5 u.p,Qy d o] w (P5 M k I z am w (ou (U.v (Pg p 0) d g))):=by
 have b{G}(h:G:=by
 have bY:=Y F;have b{G}(h:G:=by
 have b{G}(h:G:=by
 obtain⟨bG,a1⟩:=xE ((Pg p 0).2.kd);rw[<-a1] at aN D ba;clear a1;obtain⟨bV,aG⟩:=xE ((Pg p 0).2.tx);rw[<-aG] at A;have b{G}(h:G:=by
 have b{G}(h:G:=by
 have bK{G}(h:G:=by
 have bq:=Y D;clear F aW bo aY bC T aG D A;go_enter func261,ntmps261;go_wp2_with fail;refine iz ?_;clear bu bh;refine UC 17 λa=>?_;refine up 0 t 0 a ?_;refine up 1 t 0 a ?_;refine up 2 t 0 a ?_;refine uk 3 bq.out a ?_;refine uh 4 (Pv false) (a) ?_;refine uh 5 (Pv false) (a) ?_;refine zf ?_;refine FE ?_;refine uaZ 17 ?_;refine TQ ?_ _;obtain⟨a6,aF⟩:=xE w2.drew;have s:Pn w2 a6:=by rw[aF];exact a
 go_simp;rw[<-aF];clear aF;exact IG):=O6 h;exact r6):=O6 h;exact Ij):=O6 h;exact pu):=O6 h;exact p3):=O6 h;exact VF):=O6 h;exact Yf
end
def ajb (ah:Ms M k I z w g){u:Ad}{f:Nd}(aJ:PX z w u f)(ai:f.2.fJ.length=1)(d:Pl)(o:Option Addr)(bv:(Pg f 0).2.kd=23)(B:Sz bD g)(bF:bD<1000000000) :
  Pq 262 #[O5 k,O5 u.p,Qy d o] w (P5 M k I z am w (((QE (g.M.drop (g.M.find d.scope (Pg f 0).2.tx) (Pg f 0).2.tx).1,.no),{ g with M:=(g.M.drop (g.M.find d.scope (Pg f 0).2.tx) (Pg f 0).2.tx).2 }))):=by
 have b{G}(h:G:=by
 have b7:=Y (fN F);have b{G}(h:G:=by
 have b{G}(h:G:=by
 rw[bv] at aN D;obtain⟨p,aF⟩:=xE ((Pg f 0).2.tx);rw[<-aF] at A;obtain⟨s,aI⟩:=xE (g.M.find l p);have a1:Hid (∀ L,Pn w2 L->Pq 195 #[O5 k,O3 l,Pj p] L λm w'=>m=PK (O3 s)/\Pn L w'):=λL i=>by
  obtain⟨_,_,_,_,C⟩:=bf.fH i;rw[aI];exact uH C.hh B.go.ok B.go.sm (P6 bF) l p
 obtain⟨E,a6⟩:=xE ((g.M.drop s p).1);obtain⟨bq,aG⟩:=xE ({ g with M:=(g.M.drop s p).2 }:St);have ci:Hid (∀ L,Pn w2 L->Pq 297 #[O5 k,O3 s,Pj p] L λm w'=>m=PK (Pv E)/\Ms M k I z w' bq/\Ql Th k L w'):=λL i=>by
  obtain⟨_,_,_,_,C⟩:=bf.fH i;refine(aAi C.hh B.go.ok B.go.sm (P6 bF) s p).mono ?_;rintro m w' ⟨rfl,ak,a⟩;rw[aG,a6];exact⟨rfl,⟨_,_,_,_,C.heap ak a⟩,a⟩
 obtain⟨bV,bx⟩:=xH (((QE E,Er.no),bq));have bS:((QE (g.M.drop (g.M.find (Pl.mk l q r).scope (Pg f 0).2.tx) (Pg f 0).2.tx).1,Er.no),({ g with M:=(g.M.drop (g.M.find (Pl.mk l q r).scope (Pg f 0).2.tx) (Pg f 0).2.tx).2 }:St))=bV:=by rw[bx.out,a6,aG,aI,aF]
 rw[bS];clear bS a6 aG aI;have bK{G}(h:G:=by
 have bL:=Y A;obtain⟨bY,cn,b2,b3,_,b4⟩:=fN F;clear F aW bo aY bC T aF D A bv;go_enter func262,ntmps262;go_wp2_with fail;refine iz ?_;clear bu bh;clear bY cn b2 b3 b4;refine UC 17 λa=>?_;refine iy ?_;refine uT ?_;refine up 5 k 0 a ?_;refine up 6 cB 0 a ?_;refine uk 7 (b7.out.1) a ?_;refine up 8 t 0 a ?_;refine up 9 t 0 a ?_;refine up 10 t 1 a ?_;refine uk 11 bL.out a ?_;refine up 13 t 0 a ?_;refine up 14 t 0 a ?_;refine up 15 t 1 a ?_;refine uk 16 bL.out a ?_
 refine Rl 12 λK c=>?_;go_simp;refine rR ?_;rintro m b9 ⟨rfl,b1⟩;have ac:Pn w2 b9:=a.trans b1;refine c.out _ _ (λ_=>ac) ?_;clear c K;refine Rl 17 λK c=>?_;go_simp;refine cm (O4 ci _ ac) ?_;rintro m bW ⟨rfl,bG,cg⟩;refine ko c ?_;clear c K;have bI:=(P8.of (L:=none) ac (P6 bO)).trans (P8.jR cg);have b6:=Y (bI.fR bQ.out Pm);have cf:=bE.trans bI;have ch:=bG.lt;refine Rl 18 λK c=>?_;go_simp;refine cm (WI E bW) ?_;rintro m wb ⟨rfl,aj⟩;refine ko c ?_;clear c K
 obtain⟨W,bB⟩:=xH (QE E);rw[<-bB.out];have bc:=Y (fQ aj b6.out);have bR:=bG.fH aj;have bM:=cf.trans (P8.of (L:=none) aj (P6 ch));obtain⟨cu,cp,cr,cw,cy,cz,cA⟩:=Qb bc.out;refine uaZ 19 ?_;refine uz 20 QW ?_;refine TQ ?_ _;go_simp;have b{G}(h:G:=by
 have bZ:bV=((W,.no),bq):=by rw[bx.out,bB.out]
 rw[bZ];exact⟨⟨_,rfl,rfl⟩,aC,aD⟩):=O6 h;exact ox):=O6 h;exact r6):=O6 h;exact p3):=O6 h;exact VF):=O6 h;exact Yf
section
variable (a:ig am) (ah:Ms M k I z w g) {u:Ad} {p:Nd} (aJ:PX z w u p) (ai:p.2.fJ.length=1) (d:Pl) (o:Option Addr)
include a ah u p aJ ai d o
def ajc (i:(Pg p 0).2.kd=36)(B:(Pg p 0).2.fJ.length=1)(C:Ux M k I z am g (Pg (Pg p 0) 0) d (U.v (Pg (Pg p 0) 0) d g))(f:∀ c b,UJ U (Pg (Pg p 0) 0) d g=((c,.no),b)->Sz bD b)(ad:bD<1000000000) :
  Pq 262 #[O5 k,O5 u.p,Qy d o] w (P5 M k I z am w (px U (Pg p 0) d g)):=by
 have b{G}(h:G:=by
 have b{G}(h:G:=by
 have b{G}(h:G:=by
 rw[i] at aN D;obtain⟨a1,n⟩:=xE ((Pg p 0).2.tx);rw[<-n] at A;have c:=NT a bf aK B ⟨l,q,r⟩ o C f ad;obtain⟨ak,e⟩:=xE (px U (Pg p 0) ⟨l,q,r⟩ g);rw[<-e,<-T] at c;rw[<-e];clear e;have bK{G}(h:G:=by
 obtain⟨E,aj,N,O,_,S⟩:=fN F;clear F aW bo aY bC T n D A i f B;have b{G}(h:G:=by
 obtain⟨W,ac⟩:=xH ak.1.1;rw[<-ac.out];obtain⟨aC,ay,aD,aL,aO,aQ,aU⟩:=Qb bF.out;clear E aj N O S;go_wp2_with fail;obtain⟨bn,aV,b3,bR,bv,bm,be,bj⟩:=iT bF.out a7.out aS cG b7 (O3 W.k) (O3 W.n) (Pj W.s);exact yn):=O6 h;exact LD):=O6 h;exact r6):=O6 h;exact p3):=O6 h;exact VF):=O6 h;exact Yf
def PH (bi:Ux M k I z am g (Pg p 0) d (U.v (Pg p 0) d g))(aO:¬ (Pg p 0).2.kd=23)(bq:¬ (Pg p 0).2.kd=36) :
  Pq 262 #[O5 k,O5 u.p,Qy d o] w (P5 M k I z am w (ur (U.v (Pg p 0) d g))):=by
 have b{G}(h:G:=by
 have b{G}(h:G:=by
 have b{G}(h:G:=by
 obtain⟨bI,ak⟩:=xE ((Pg p 0).2.kd);rw[<-ak] at aN D aO bq;clear ak;obtain⟨bW,O⟩:=xE ((Pg p 0).2.tx);rw[<-O] at A;have b{G}(h:G:=by
 have c:=bi w2 bU o bf aK;rw[X] at c;rw[<-T] at c;obtain⟨ay,e⟩:=xH (ur ((f,E),C));rw[<-e.out];clear X;have bK{G}(h:G:=by
 obtain⟨a1,bx,a6,a8,_,ba⟩:=fN F;clear F aW bo aY bC T O D A;have b{G}(h:G:=by
 have c8:=b7.lt;clear a1 bx a6 a8 ba
 by_cases B:E=.no
 ·subst B;have i:s=QW:=aG;subst i;go_wp2_with fail;obtain⟨bv,ac⟩:=xE (aI.alloc (.cells #[O3 f.k,O3 f.n,Pj f.s] 65));have b{G}(h:G:=by
  try rw[<-ac]
  clear ac;obtain⟨W,S⟩:=xH (QE true);have ad:=WI true bv;rw[<-S.out] at ad;refine cm ad ?_;rintro m wb ⟨rfl,N⟩;have bc:=Y (fQ N cL.out);have bR:=b3.fH N;have bM:=cM.trans (P8.of (L:=none) N (P6 cy));obtain⟨bG,bz,bB,bL,bN,bS,bV⟩:=Qb bc.out;have b{G}(h:G:=by
  have aj:ay=((W,.no),C):=by rw[e.out,S.out];rfl
  rw[aj];exact⟨⟨_,rfl,rfl⟩,aC,aD⟩):=O6 h;exact ox):=O6 h;exact z6
 ·obtain⟨bL,bM,i⟩:=aG.XO B a;subst i;have aj:ay=((vU,E),C):=by
   rw[e.out];unfold ur;exact jZ
  have b{G}(h:G:=by
  have bc:=(aG.Rf aQ Pm).fH ac;exact zs):=O6 h;exact H9):=O6 h;exact LD):=O6 h;exact r6):=O6 h;exact pu):=O6 h;exact p3):=O6 h;exact VF):=O6 h;exact Yf
def asl (m:Ux M k I z am g (Pg p 0) d (U.v (Pg p 0) d g))(n:(Pg p 0).2.kd=36->(Pg p 0).2.fJ.length=1)(i:(Pg p 0).2.kd=36->Ux M k I z am g (Pg (Pg p 0) 0) d (U.v (Pg (Pg p 0) 0) d g))(j:Sz bD g)(l:(Pg p 0).2.kd=36->∀ c b,UJ U (Pg (Pg p 0) 0) d g=((c,.no),b)->Sz bD b)(f:bD<1000000000) :
  Pq 262 #[O5 k,O5 u.p,Qy d o] w (P5 M k I z am w (lE U p d g)):=by
 by_cases e:(Pg p 0).2.kd=23
 ·have c:lE U p d g=((QE (g.M.drop (g.M.find d.scope (Pg p 0).2.tx) (Pg p 0).2.tx).1,.no),{ g with M:=(g.M.drop (g.M.find d.scope (Pg p 0).2.tx) (Pg p 0).2.tx).2 }):=by
   unfold lE
   dsimp only
   rw[fL e]
  rw[c];exact ajb ah aJ ai d o e j f
 ·by_cases b:(Pg p 0).2.kd=36
  ·have c:lE U p d g=px U (Pg p 0) d g:=by
    unfold lE
    dsimp only
    rw[fK e,fL b];rfl
   rw[c];exact ajc a ah aJ ai d o b (n b) (i b) (l b) f
  ·have c:lE U p d g=ur (U.v (Pg p 0) d g):=by
    unfold lE
    dsimp only
    rw[fK e,fK b];rfl
   rw[c];exact PH a ah aJ ai d o m e b
def W2 (f:Ux M k I z am g (Pg p 0) d (U.v (Pg p 0) d g))(i:Sz bD g)(j:bD<1000000000) :
  Pq 261 #[O5 k,O5 u.p,Qy d o] w (P5 M k I z am w (mC U p d g)):=by
 by_cases c:(Pg p 0).2.kd=23
 ·by_cases e:g.M.find d.scope (Pg p 0).2.tx = -1
  ·have b:mC U p d g=((Vk QX,.no),g):=by unfold mC;rw[fL ⟨c,e⟩]
   rw[b];exact UB a ah aJ ai d o f c e i j
  ·have b:mC U p d g=ou (U.v (Pg p 0) d g):=by unfold mC ou;rw[fK (λh=>e h.2)]
   rw[b];exact ao0 a ah aJ ai d o f c e i j
 ·have b:mC U p d g=ou (U.v (Pg p 0) d g):=by unfold mC ou;rw[fK (λh=>c h.1)]
  rw[b];exact agP a ah aJ ai d o f c
end
section
variable (ay:ig am) (ah:Ms M k I z w g) {u:Ad} {C:Nd} (aJ:PX z w u C) (ai:C.2.fJ.length=2)
include ay ah u C aJ ai
def N0 (cG:C.2.kd=25)(d:Pl)(o:Option Addr)(ad:Ux M k I z am g (Pg C 0) d (U.v (Pg C 0) d g))(ak:∀ f T,U.v (Pg C 0) d g=((f,.no),T)->Ux M k I z am T (Pg C 1) d (U.v (Pg C 1) d T)) :
  Pq 258 #[O5 k,O5 u.p,Qy d o] w (P5 M k I z am w (ZJ U C d g)):=by
 have b{G}(h:G:=by
 have cO:=Y F;have bB:=Y (fN F);have b{G}(h:G:=by
 have b{G}(h:G:=by
 have b{G}(h:G:=by
 obtain⟨a6,aQ⟩:=xE (ZJ U C ⟨l,q,r⟩ g);rw[<-aQ,<-a1.out];have b{G}(h:G:=by
 have b{G}(h:G:=by
 refine WJ (H:=λwz D s=>VB M k I z am w2 f E T wz D s) (G:=?GG) (λaN=>?ways) ?rest
 case ways=>
  exact nU
 case rest=>
  rintro wz D s A;have b{G}(h:G:=by
  have b{G}(h:G:=by
  have b9:=aZ.kp A.fr.Vo
  by_cases B:E=.no
  ·have b{G}(h:G:=by
   cases b7:f.iU with
   | true=>
    have b{G}(h:G:=by
    refine uh 9 (Pv true) (a) ?_;exact Hn):=O6 h;exact tk
   | false=>
    have b{G}(h:G:=by
    refine uh 9 (Pv true) (a) ?_;exact IL):=O6 h;exact tk):=O6 h;exact Dk
  ·exact Jv):=O6 h;exact r3):=O6 h;exact vu):=O6 h;exact DO):=O6 h;exact p1):=O6 h;exact pA):=O6 h;exact nw):=O6 h;exact VF):=O6 h;exact Yf
def aoY (cG:C.2.kd=26)(d:Pl)(o:Option Addr)(ad:Ux M k I z am g (Pg C 0) d (U.v (Pg C 0) d g))(ak:∀ f T,U.v (Pg C 0) d g=((f,.no),T)->Ux M k I z am T (Pg C 1) d (U.v (Pg C 1) d T)) :
  Pq 258 #[O5 k,O5 u.p,Qy d o] w (P5 M k I z am w (ZJ U C d g)):=by
 have b{G}(h:G:=by
 have cO:=Y F;have bB:=Y (fN F);have b{G}(h:G:=by
 have b{G}(h:G:=by
 have b{G}(h:G:=by
 obtain⟨a6,aQ⟩:=xE (ZJ U C ⟨l,q,r⟩ g);rw[<-aQ,<-a1.out];have b{G}(h:G:=by
 have b{G}(h:G:=by
 refine WJ (H:=λwz D s=>VB M k I z am w2 f E T wz D s) (G:=?GG) (λaN=>?ways) ?rest
 case ways=>
  exact nU
 case rest=>
  rintro wz D s A;have b{G}(h:G:=by
  have b{G}(h:G:=by
  have b9:=aZ.kp A.fr.Vo
  by_cases B:E=.no
  ·have b{G}(h:G:=by
   cases b7:f.iU with
   | true=>
    have b{G}(h:G:=by
    refine uh 9 (Pv false) (a) ?_;exact IL):=O6 h;exact tk
   | false=>
    have b{G}(h:G:=by
    refine uh 9 (Pv false) (a) ?_;exact Hn):=O6 h;exact tk):=O6 h;exact Dk
  ·exact Jv):=O6 h;exact r3):=O6 h;exact vu):=O6 h;exact DO):=O6 h;exact p1):=O6 h;exact pA):=O6 h;exact nw):=O6 h;exact VF):=O6 h;exact Yf
