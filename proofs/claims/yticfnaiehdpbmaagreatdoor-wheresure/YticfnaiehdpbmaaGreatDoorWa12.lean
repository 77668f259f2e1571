import Derived.Test.YticfnaiehdpbmaaGreatDoorWa11
import Derived.Lib.ItoaLen
import Derived.Sort.Walk0
set_option maxRecDepth 100000
set_option maxHeartbeats 0
set_option linter.all false
namespace Go.Proofs.YticfnaiehdpbmaaGreatDoor
open Go.RowKit Go.Proofs.Tryz
namespace Hp
section
variable {U:Py}{k M:Nat}{z:List Nat}{es cY cX cj ce:PO}{w w':Py}{g:St}{bv:Nat}{X:Fx}{aJ:Option Nat}{ck:PO}{vs:List Va}
def Lj (b:Tr)(d:Nat)(w:Py)(h:UN w b d):PN 355 #[Pm d] w λi w'=>i=PY (PD (decide (b.tx=gL)))/\PG w w':=by
 obtain⟨l,_,f,_⟩:=h.cells;obtain⟨j,c⟩:=xE b.tx;rw[<-c] at f ⊢;clear c h
 by_cases a:j=gL
 ·have e:=WV (a:=gL) rfl a;rw[hr a];clear a;go_enter func355,ntmps355;go_wp2;go_ret;exact⟨rfl,RV⟩
 ·have e:=VX (a:=gL) rfl a;rw[hi a];clear a;go_enter func355,ntmps355;go_wp2;go_ret;exact⟨rfl,RV⟩
def aEc:WU 355:=λ_ _=>by kernel_rfl
def Mz {s:Nat}{c:List Tr}{a:Tr}{l:Nat}(n:UZ s w ck c)(E:c.length<=90000)(t:UN w a l)(v:a.count<=20000):PN 341 #[ck,Pm l] w λd w'=>d=PY (PD (hasArgs c a))/\PG w w':=by
 have i:=A3 355 (λj=>decide (j.tx=gL)) aEc c ck w n E λH _ F W _ h=>Lj H F W h;obtain⟨p,b⟩:=xE (c.any λj=>decide (j.tx=gL));rw[<-b] at i;have C:=Y (λf (o:PG w f)=>Yg a l false f (t.fQ o) v);have D:(gp a false).length<=100000:=by
  have f:(gp a false).length<=((if false=true then QF a else [])++(Ue a).map Tr.tx++(Qi a).map Tr.tx).length:=Zb _;have o:=q2 a;have A:=Go.Proofs.YticfnaiehdpbmaaGreatDoor.TI a;have q:=SL a;simp at f;omega
 obtain⟨S,T,u⟩:=n.form;subst u;have m:hasArgs c a=(!p && !hasB (gp a false) gL):=by rw[b];rfl
 rw[m];clear b m
 cases p with
 |true=>
  go_enter func341,ntmps341;go_wp2_with fail;refine cm i ?_;rintro d r ⟨rfl,b⟩;have e:=b;clear b;go_wp2;go_ret;exact⟨rfl,e⟩
 |false=>
  obtain⟨R,f⟩:=xE (hasB (gp a false) gL);rw[<-f];go_enter func341,ntmps341;go_wp2_with fail;refine cm i ?_;rintro d r ⟨rfl,b⟩;have e:=b;clear b;go_wp2_with fail;refine cm (Pj C r e) ?_;rintro d I ⟨⟨u2,rfl,q⟩,B⟩;have A:=e.trans (B.mono e.size);obtain⟨N,P,L⟩:=P7 q;subst L;have o:=Vz (gp a false) gL _ I q D;rw[<-f] at o;go_wp2_with fail;refine cm o ?_;rintro d O ⟨rfl,rfl⟩;go_wp2;go_ret;exact⟨by rw[f];simp,A⟩
def XW (c:Int)(vs:List Va)(b:Nat)(g:St):St:=(vs.zipIdx.take b).foldl (λg (d,a)=>g.Ru c (Y0 ⟨#[97]⟩ (nG a)) d false) g
def I0 (c:Int)(vs:List Va)(a:Nat)(g:St)(e:Va)(b:vs[a]?=some e):XW c vs (a+1) g=(XW c vs a g).Ru c (Y0 ⟨#[97]⟩ (nG a)) e false:=by
 have d:=(gs.1 b).1;have f:a<vs.zipIdx.length:=by rw[je];exact d
 unfold XW;rw[ha f,jj,List.getElem_zipIdx];rw[gq d] at b;cases b;simp
def Sz.XW (b:Int)(vs:List Va):∀(a:Nat){g:St},Sz bv g->a<=vs.length->Sz (bv+a) (XW b vs a g)
 |0,_,h,_=>h
 |a+1,g,h,c=>by
  rw[I0 b vs a g _ (gq Pv)];exact(Sz.XW b vs a h Pv).Ru _ _ _ _
def Td.Yw {d a b c:PO}{e:Py}(h:Td k d a b c w w')(f:Qv Th k w' e):Td k d a b c w e:=h.trans (Td.j6 f)
def OD (bN:Bs U k M z es)(bL:kV U)(a1:Mx U k M z cY cX cj ce w g)(ak:Sz bv g)(cP:bv+2000<1000000000)(T:U9 w ck vs)(cQ:vs.length<=1500) :
  PN 342 #[Pm k,ck] w λj w'=>j=PY (vA (Rx vs g).1)/\Mx U k M z cY cX cj ce w' (Rx vs g).2/\Td k cj ce cj ce w w':=by
 have bP:=a1.lt;have b{G}(h:G:=by
 obtain⟨aM,b3⟩:=xE (g.M.objs.length:Int);obtain⟨aT,F⟩:=xE ({ g with M:=g.M.Qo 0 }:St);obtain⟨p,E⟩:=xE (aT.Ru aM ZG (Yo vs.length) false:St);have a8:Sz (bv+1) aT:=by rw[F];exact ak.heap (gw _) (ak.go.Qo 0) rfl
 have bZ:Sz (bv+2) p:=by rw[E];exact a8.Ru _ _ _ _
 have aY:Rx vs g=(UU aM,XW aM vs vs.length p):=by
  unfold Rx XW;rw[E,F,<-b3,iN (iL je)]
 rw[aY];have bh:=ve (a1.fQ o) ak Pv 0;rw[<-b3,<-F] at bh;have HP:=Y (λt (f:Mx U k M z cY cX cj ce t aT)=>Z4 f a8 Pv aM ZG (Yo vs.length) false);rw[<-E] at HP;have bQ:=Y aI;have b1:=T.fQ o;have bX:=Td.of (o:=cj) (f:=ce) o (Qe bP);have bW:=Y ax;obtain⟨ba,be,u⟩:=T.form;subst u;have cp:k<=N:=Pv;clear aI ax F E aY b3;go_enter func342,ntmps342;go_wp2_with fail;rw[<-al.out,<-C];clear C;refine cm bh ?_;rintro j ap ⟨rfl,bm,ay⟩;have bY:=bX.Yw ay
 have b2:=Y (ay.rest _ _ _ bQ.out PK);have bG:=b1.f2 λO m ad=>ay.rest O m 65 ad PK;have cg:=bm.lt;go_wp2_with fail;refine UG 7 λa=>?_;refine iF ?_;refine uh 3 (Ph aM) (a) ?_;refine uh 4 (.slice ba vs.length be) (a) ?_;refine uh 5 (Ph (vs.length:Int)) (a) ?_;refine QX 6 λK d=>?_;go_simp;refine cm (vL (vs.length:Int) ap.drew) ?_;rintro j D ⟨rfl,bJ⟩;have n:PG ap D:=(gi _ ap).drew.trans bJ;refine d.out _ _ (λ_=>n) ?_;clear d K;obtain⟨cS,aR⟩:=xE (Yo vs.length);rw[<-aR];rw[<-aR] at HP
 have bF:=bm.fQ n;have b8:=bY.trans (Td.of n (Qe cg));have bE:=Y (fZ n b2.out);have bI:=bG.fQ n;clear aR;refine QX 7 λK d=>?_;go_simp;refine cm (Pj HP _ bF) ?_;rintro j cH ⟨rfl,bn,aE⟩;refine ko d ?_;clear d K;have b5:=b8.Yw aE;have cn:=Y (aE.rest _ _ _ bE.out PK);have bH:=bI.f2 λO m ad=>aE.rest O m 65 ad PK;have cL:=bn.lt;refine Ud ?_ _;go_simp;go_wp2_with fail
 go_loopw [22] (λl wr=>∃i:Nat,i<=vs.length/\l=Ph i/\Mx U k M z cY cX cj ce wr (XW aM vs i p)/\Td k cj ce cj ce w wr/\wr.heap[N]?=some (Qb #[Ph 0,Ph 0,QB] 65)/\U9 wr (.slice ba vs.length be) vs) (λl _=>vs.length - (intOf l).toNat)
 case atStart=>exact⟨0,ge _,rfl,bn,b5,cn.out,bH⟩
 case round=>
  obtain⟨i,af,rfl,aW,bo,br,bz⟩:=hrel;have A:=aW;have a7:=Y br;have bq:=aW.lt;clear br
  by_cases bK:i<vs.length
  ·obtain⟨v,a6⟩:=xE (vs[i]);have aO:vs[i]?=some v:=by rw[a6];exact gq bK
   obtain⟨cK,cR,cJ,u,cq,bR,bS,bU⟩:=bz.cells aO;simp only[g7] at u;obtain⟨rfl,_,rfl⟩:=u;have b7:(i:Int)<(vs.length:Int):=Pv;have bD:=Y aO;clear a6 aO;go_wp2_with fail;obtain⟨c,B⟩:=xE (wr.alloc (.cells #[Ph v.k,Ph v.n,PI v.s] 65));obtain⟨cB,ae⟩:=xE wr.heap.size;have aK:c.heap[cB]?=some (ZT v):=by rw[B,ae];exact Pz _ _
   have ci:=Y (f7 aK);have q:PG wr c:=by rw[B];exact QK
   have cE:k<c.heap.size:=by have:=q.size;omega
   have cO:=fR aK;obtain⟨s,L⟩:=xH (nG (i:Int));have aX:(⟨(Lib.itoa (i:Int)).toArray⟩:PS)=s:=by rw[L.out];rfl
   have cG:s.size<=21:=by
    have h:=Lib.itoa_length_le (i:Int) Pv Pv;rw[L.out];show (List.toArray _).size<=21;rw[ll];exact h
   have bf:=Tryz.strconv_Itoa (i:Int) Pv Pv c.drew ((show Ms U k M z c.drew _ from ⟨_,_,_,_,(A.fQ q).fQ (gi c.heap.size c).drew⟩).FB bN bL);rw[aX] at bf;obtain⟨bb,aQ⟩:=xH (XW aM vs i p);rw[<-aQ.out] at A;have cx:Sz (bv+2+i) bb:=by rw[aQ.out];exact Sz.XW aM vs i bZ Pv
   have HP:=Y (λt (f:Mx U k M z cY cX cj ce t bb)=>Z4 f cx Pv aM (Y0 ⟨#[97]⟩ s) v false);have cT:¬ (9223372036854775807:Nat)<1+s.size:=Pv;rw[<-B,<-ae];clear B ae aK bR bS bU cq aX;refine UG 8 λa=>?_;refine iF ?_;refine uh 3 (Ph aM) (a) ?_;refine uh 4 (Ph (i:Int)) (a) ?_;refine jY 7 ci.out a ?_;refine QX 5 λK d=>?_;go_simp;refine cm bf ?_;rintro j D ⟨rfl,cr,cz,bi⟩;have n:PG c D:=by
    rw[bi];exact(gi _ c).drew.trans (Lib.below_grow c.heap.size c.drew (gi c.heap.size c).drew.size cr cz)
   refine d.out _ _ (λ_=>n) ?_;clear d K bi;refine uh 6 (PI (Y0 ⟨#[97]⟩ s)) (n) ?_ (aZ:=fU ⟨by kernel_rfl,λ_ _=>by go_simp;rw[Kn]⟩)
   refine QX 8 λK d=>?_;go_simp;refine cm (Pj HP _ ((A.fQ q).fQ n)) ?_;rintro j cC ⟨rfl,bA,aH⟩;refine ko d ?_;clear d K;have H:PG wr D:=q.trans (n.mono q.size);have cy:=(bo.trans (Td.of H (Qe bq))).Yw aH;have cw:=Y (aH.rest _ _ _ (fZ H a7.out) PK);have cA:=(bz.fQ H).f2 λO m ad=>aH.rest O m 65 ad PK;refine Ud ?_ _;go_simp;go_wp2
   go_roundw
   case rel=>
    refine⟨i+1,by omega,by go_num,?_,cy,cw.out,cA⟩;rw[aQ.out,L.out,<-I0 aM vs i p v bD.out] at bA;exact bA
   case measure=>simp[intOf];omega
  ·have aO:i=vs.length:=Pv;subst aO;have b7:¬ (vs.length:Int)<(vs.length:Int):=Pv;obtain⟨c,ae⟩:=xH (UU aM);have aK:=tQ aM wr;rw[<-ae.out] at aK;go_wp2_with fail;refine cm aK ?_;rintro j aX ⟨rfl,q⟩;have r:=Y (fZ q a7.out);have bb:=A.fQ q;have a6:=bo.trans (Td.of q (Qe bq));obtain⟨bU,bR,bS,e,cr⟩:=f7 r.out;have b6:=e 0;have ci:=e 1;have cq:=e 2;clear e;go_wp2_with fail
   obtain⟨bD,s⟩:=xE (((aX.setCell (Pn N 0) (Ph c.k)).setCell (Pn N 1) (Ph c.n)).setCell (Pn N 2) (PI c.s));rw[<-s];have aH:=l9 r.out (Ph c.k) (Ph c.n) (PI c.s);have L:=TL r.out cp (Ph c.k) (Ph c.n) (PI c.s);have H:=a6.new L (U6 bW.out _ _ _);have B:=bb.ZR L PK;rw[<-s] at aH H B;obtain⟨bA,bf,bi,_,_⟩:=f7 aH;refine YJ (v:=vA c) ?_;refine⟨?_,B,H⟩;rw[ae.out]):=Pq h;exact II
def VY (d:Int)(c:List Tr)(vs:List Va)(a:Nat)(g:St):St:=(c.zipIdx.take a).foldl (λg (a,b)=>settle d a.tx (vs.getD b vU) g) g
def DT (c:Int)(b:List Tr)(vs:List Va)(a:Nat)(g:St)(e:a<b.length):VY c b vs (a+1) g=settle c (b[a]).tx (vs.getD a vU) (VY c b vs a g):=by
 have d:a<b.zipIdx.length:=by rw[je];exact e
 unfold VY;rw[ha d,jj,List.getElem_zipIdx];simp
def Sz.VY (c:Int)(b:List Tr)(vs:List Va):∀(a:Nat){g:St},Sz bv g->a<=b.length->Sz (bv+a) (VY c b vs a g)
 |0,_,h,_=>h
 |a+1,g,h,d=>by
  rw[DT c b vs a g Pv];exact(Sz.VY c b vs a h Pv).settle _ _ _
def k5 (d:Int)(b:List PS)(a:Nat)(g:St):St:=(b.take a).foldl (λg c=>g.ho d c 0 vU) g
def E6 (c:Int)(b:List PS)(a:Nat)(g:St)(d:a<b.length):k5 c b (a+1) g=(k5 c b a g).ho c b[a] 0 vU:=by
 unfold k5;exact qg
def Sz.k5 (c:Int)(b:List PS):∀(a:Nat){g:St},Sz bv g->a<=b.length->Sz (bv+a) (k5 c b a g)
 |0,_,h,_=>h
 |a+1,g,h,d=>by
  rw[E6 c b a g Pv];exact(Sz.k5 c b a h Pv).ho _ _ _ _
def Sz.args {vs:List Va}(h:Sz bv g):Sz (bv+2+vs.length) (Rx vs g).2:=by
 have a:(Rx vs g).2=Hp.XW g.M.objs.length vs vs.length (({ g with M:=g.M.Qo 0 }:St).Ru g.M.objs.length ZG (Yo vs.length) false):=by
  unfold Rx Hp.XW;rw[iN (iL je)]
 rw[a];exact Sz.XW _ _ _ ((h.heap (gw _) (h.go.Qo 0) rfl:Sz (bv+1) _).Ru _ _ _ _) Qq
def Qc.aJi {I:Ad}{a:Nd}{ck:PO}(h:Qc z w I a)(i:w.cell? (Pn I.p 3)=some ck)(b:Kp w w'):UZ 0 w' ck a.2.fS/\UN w' a.2 I.p:=by
 have d:UN w' a.2 I.p:=by rw[<-h.tr];exact(Rl.kp b _ h.at_).nat.nt
 obtain⟨_,_,_,v,l,e⟩:=d.cells;have f:∃j,w.heap[I.p]?=some (Qb j 40):=by
  have ah:=h.at_;exact wq
 have c:=b.YV i f;rw[l] at c;cases c;exact⟨e,d⟩
def Lv (d0:Bs U k M z es)(dZ:kV U)(F:Mx U k M z cY cX cj ce w g)(dd:Sz bv g)(e5:bv+9000<1000000000){I:Ad}{A:Nd}(ed:Qc z w I A)(af:A.2.fS.length=2)(bf:A.2.count<=1500)(bX:(Px A 0).2.fS.length<=8)(aL:∀i ∈ TK (Px A 1),i.2.fS.length=2)(q:Pl)(n:Option Addr)(T:U9 w ck vs)(ee:vs.length<=1500) :
  PN 324 #[Pm k,Pm I.p,QN q n,ck] w λj w'=>j=PY (.tuple #[])/\∃dc,Mx U k M z cY cX cj dc w' (S9 A q vs g)/\Td k cj ce cj dc w w':=by
 have d1:=F.lt;have b{G}(h:G:=by
 have bU:=ed.kp (Kp.of aI);obtain⟨du,e3,eY,bm,bW,b7,_⟩:=bU.Zm (a:=0) Pv;obtain⟨cy,eW,eZ,bA,dq,br,_⟩:=bU.Zm (a:=1) Pv;rw[af] at bm bA;rw[bm] at bA;simp only[he,g7,iO,jU,kO] at bA;obtain⟨rfl,rfl⟩:=bA;have eh:UN w2 (Px A 0).2 du.p:=by rw[<-b7.tr];exact b7.at_.nat.nt
 have d9:UN w2 (Px A 1).2 cy.p:=by rw[<-br.tr];exact br.at_.nat.nt
 obtain⟨db,_,_,b6,bG,di⟩:=eh.cells;obtain⟨eV,e0,ei⟩:=di.form;subst ei;have dU:(Px A 1).2.count<=1500:=by
  have ah:(Px A 1).2 ∈ A.2.fS:=by
   rw[UK,hk,gq (by omega:1<A.2.fS.length)];exact gU _
  have:=ZJ ah;omega
 have dX:=SL (Px A 1).2;have dV:=Ye (Px A 1).2;have cr:(QF (Px A 1).2).length<=1500:=by
  have aL:Tr.f5 (Px A 1).2.fS<(Px A 1).2.count:=by cases (Px A 1).2;rw[Tr.count];exact Nat.lt_add_of_pos_left Pv
  omega
 obtain⟨e7,de⟩:=xE I.p;obtain⟨eX,dD⟩:=xH du.p;obtain⟨bR,aX⟩:=xH cy.p;have dg:=bU.cells.1;have d7:=f1 bW;have da:=Y bG;obtain⟨p,bF⟩:=xH ((Px A 0).2.fS);obtain⟨u,b8⟩:=xE (Px A 1);rw[<-bF.out] at di bX bG;rw[<-bF.out] at da;rw[<-b8] at d9 br aL dU dX dV cr;rw[<-de] at bm dg ⊢;rw[<-dD.out] at bW bG db;rw[<-aX.out] at dq;obtain⟨cn,bZ⟩:=xE (S9 A ⟨c,B,C⟩ vs g);rw[<-bZ]
 have bq:Hid (cn=UF u ⟨c,B,C⟩ (Q5 (Qi u.2) c (k5 c (QF u.2) (QF u.2).length (if hasArgs p u.2 then (Rx vs (VY c p vs p.length g)).2.ho c gL 0 (Rx vs (VY c p vs p.length g)).1 else VY c p vs p.length g)))):=by
  show _=_
  rw[bZ,bF.out,b8];unfold S9 k5 VY;rw[gV,iN (iL je)]
 have dj:=F.fQ aI;have d4:=Td.of (o:=cj) (f:=ce) aI (Qe d1);have d2:=Y E;have d3:=T.fQ aI;have ep:=Y aL;obtain⟨bS,bY,bi⟩:=T.form;subst bi;have e8:p.length<=8:=bX;clear F E bZ b8 de aL bX;go_enter func324,ntmps324;go_wp2_with fail;rw[<-a1.out,<-aO];clear aO
 go_region
 have aE:PG w2 w2.drew:=RV.drew;obtain⟨D,dt⟩:=xE w2.drew;rw[<-dt] at aE ⊢;have dh:=dj.fQ aE;have d5:=d4.trans (Td.of aE (Qe dj.lt));have d8:=Y (fZ aE d2.out);have d6:=d3.fQ aE;have ci:=Y (λt (f:Kp D t)=>b7.aJi da.out (λO m j ad o=>f O m j (Kp.of aE O m j ad o) o));have aK:=br.kp (Kp.of aE);have e4:=dh.lt;rw[<-bF.out,<-dD.out] at ci;clear dt bm bW dq bG d7 dg db;go_wp2_with fail
 go_loopw [32] (λl wr=>∃i:Nat,i<=p.length/\l=Ph i/\Mx U k M z cY cX cj ce wr (VY c p vs i g)/\Td k cj ce cj ce w wr/\wr.heap[H]?=some (Qb #[Ph c,Ph B,PD C,.pointer n] 73)/\U9 wr (.slice bS vs.length bY) vs/\Kp D wr) (λl _=>p.length - (intOf l).toNat)
 case atStart=>exact⟨0,ge _,rfl,dh,d5,d8.out,d6,λ_ _ _ h _=>h⟩
 case round=>
  obtain⟨i,e1,rfl,a7,cw,ba,cA,cC⟩:=hrel;have ax:=a7;have bh:=cw;have N:=Y ba;have aY:=cA;have ay:=cC;have bL:=a7.lt;clear ba
  by_cases be:i<p.length
  ·obtain⟨eo,en,aQ,s,dT,bf,bH⟩:=(Pj ci wr ay).1.cell i be;have b{G}(h:G:=by
   obtain⟨cH,_,bn,_⟩:=bH.cells;have aW:(i:Int)<(p.length:Int):=Pv;obtain⟨x,F⟩:=xE ((p[i]).tx);rw[<-F] at bn;have cT:=Y F;obtain⟨v,s⟩:=xE (vs.getD i vU);have bb:=Y s;obtain⟨a8,ap⟩:=xE (VY c p vs i g);rw[<-ap] at ax;have cz:Sz (bv+i) a8:=by rw[ap];exact Sz.VY c p vs i dd Pv
   have cS:=Y (λt (f:Mx U k M z cY cX cj ce t a8)=>C4 f cz Pv c x v);have cU:=Y ap;have bN:=Y bn;clear F ap bn
   by_cases bE:i<vs.length
   ·have bz:vs[i]?=some v:=by rw[s,hk,gq bE];rfl
    obtain⟨cJ,cG,cx,bi,cq,cB,bD,cE⟩:=aY.cells bz;simp only[g7] at bi;obtain⟨rfl,_,rfl⟩:=bi;have bI:(i:Int)<(vs.length:Int):=Pv;clear s bz;go_wp2_with fail;obtain⟨L,ae⟩:=xE (wr.alloc (.cells #[Ph v.k,Ph v.n,PI v.s] 65));obtain⟨bx,al⟩:=xE wr.heap.size;have a6:L.heap[bx]?=some (ZT v):=by rw[ae,al];exact Pz _ _
    exact CX
   ·have bI:¬ (i:Int)<(vs.length:Int):=Pv;have bz:v=vU:=by rw[s,hk,List.getElem?_eq_none Pv];rfl
    have bD:=Y bz;clear s bz;go_wp2_with fail;obtain⟨L,ae⟩:=xE (wr.alloc (.cells #[Ph 0,Ph 0,QB] 65));obtain⟨bx,al⟩:=xE wr.heap.size;have a6:L.heap[bx]?=some (ZT v):=by rw[ae,al,bD.out];exact Pz _ _
    exact CX):=Pq h;exact Vt
  ·have b1:i=p.length:=Pv;subst b1;have aW:¬ (p.length:Int)<(p.length:Int):=Pv;obtain⟨dW,e2⟩:=Pj ci wr ay;have cM:UN wr u.2 bR:=by
    rw[aX.out,<-aK.tr];exact(Rl.kp ay _ aK.at_).nat.nt
   have dC:=Mz dW Pv cM Pv;obtain⟨ej,df⟩:=xE (hasArgs p u.2);rw[<-df] at dC bq;obtain⟨bH,bQ⟩:=xE (VY c p vs p.length g);rw[<-bQ] at ax bq;have cg:Sz (bv+8) bH:=by rw[bQ];exact(Sz.VY c p vs p.length dd Qq).up Pv
   clear df bQ;go_wp2_with fail;refine cm dC ?_;rintro j aH ⟨rfl,a6⟩;have bn:=ax.fQ a6;have dm:=bh.trans (Td.of a6 (Qe bL));have dx:=Y (fZ a6 N.out);have ek:=aY.fQ a6;have dv:Kp D aH:=λO m j ad o=>Kp.of a6 O m j (ay O m j ad o) o;have dp:=bn.lt
   cases ej with
   |true=>
    obtain⟨dY,bI⟩:=xE (Rx vs bH);obtain⟨cZ,bN⟩:=dY;obtain⟨al,ae⟩:=xE (bN.ho c gL 0 cZ);have dF:Sz (bv+1590) bN:=by
     have h:=cg.args (vs:=vs);rw[<-bI] at h;exact h.up Pv
    have cB:Sz (bv+1600) al:=by show Sz _ _;rw[ae];exact(dF.ho _ _ _ _).up Pv
    have aT:Hid (cn=UF u ⟨c,B,C⟩ (Q5 (Qi u.2) c (k5 c (QF u.2) (QF u.2).length al))):=by
     show _=_
     have h:=Pj bq;rw[<-bI,fY rfl] at h;rw[h,ae]
    have c8:=Y (λt (f:Mx U k M z cY cX cj ce t bH) (ec:U9 t (.slice bS vs.length bY) vs)=>OD d0 dZ f cg Pv ec ee);rw[<-bI] at c8;have dE:=Y (λt (f:Mx U k M z cY cX cj ce t bN)=>Yt f dF Pv c gL 0 cZ);rw[<-ae] at dE;clear bI ae;go_wp2_with fail;have r:aH.drew.heap[H]?=some (Qb #[Ph c,Ph B,PD C,.pointer n] 73):=fZ (gi aH.heap.size aH).drew dx.out;have a:PG aH aH.drew:=RV.drew
    refine Qd 8 (λt=>t.heap[H]?=some (Qb #[Ph c,Ph B,PD C,.pointer n] 73)) Qz ?_;refine up 0 k 0 r ?_;refine up 1 k 0 r ?_;refine up 2 k 0 r ?_;refine up 3 H 0 r ?_;refine uc 4 (Ph c) rfl (fU ⟨by kernel_rfl,λt f=>by have aD:=(fV f).1;go_simp⟩) (r) ?_
    refine up 5 k 0 r ?_;refine uh 6 (.slice bS vs.length bY) (r) ?_;refine QX 7 λK d=>?_;go_simp;refine cm (Pj c8 _ (bn.fQ a) (ek.fQ a)) ?_;rintro j L ⟨rfl,dz,b5⟩;have dr:=bn.fQ a;have cp:=(b5.jy (L:=none) dr).f2 r PK;refine d.out _ _ (λ_=>cp) ?_;clear d K;have e6:=dz.lt;have ea:=(dm.trans (Td.of a (Qe dp))).trans b5;have eg:Kp D L:=λO m j ad o=>b5.kp dr O m j (Kp.of a O m j (dv O m j ad o) o) o;have ef:=Y cp;clear cp;refine QX 8 λK d=>?_;go_simp
    refine cm (Pj dE _ dz) ?_;rintro j cx ⟨rfl,dG,cq⟩;refine ko d ?_;clear d K;have bD:=Y dG;have bz:=Y (ea.Yw cq);have bx:=Y (cq.rest _ _ _ ef.out PK);have aQ:Hid (Kp D cx):=λO m j ad o=>Qv.kp cq O m j (eg O m j ad o) o;have bE:=dG.lt;clear r;refine Ud ?_ _;go_simp;have bb:=Y (λt (f:Kp D t)=>Yf u.2 bR t (by
     rw[aX.out,<-aK.tr];exact(Rl.kp f _ aK.at_).nat.nt) Pv)
    go_wp2_with fail;refine cm (Pj bb _ aQ.out) ?_;rintro j b2 ⟨⟨el,rfl,aR⟩,ak⟩;obtain⟨dK,dH,bP⟩:=P7 aR;subst bP;obtain⟨e,bJ⟩:=xE (QF u.2);rw[<-bJ] at aR cr aT ⊢;have cE:=bD.out.fQ ak;have dJ:=bz.out.trans (Td.of ak (Qe bE));have dM:=Y (fZ ak bx.out);have dN:Kp D b2:=λO m j ad o=>Kp.of ak O m j (Pj aQ O m j ad o) o;exact IX
   |false=>
    obtain⟨al,ae⟩:=xE bH;obtain⟨cx,r⟩:=xE aH;have aT:Hid (cn=UF u ⟨c,B,C⟩ (Q5 (Qi u.2) c (k5 c (QF u.2) (QF u.2).length al))):=by
     show _=_
     rw[bq.out,ae];rfl
    have cB:Sz (bv+1600) al:=by show Sz _ _;rw[ae];exact cg.up Pv
    have bD:=bn;have bz:=dm;have bx:=dx;have aQ:=dv;have bE:=dp;rw[<-ae,<-r] at bD;rw[<-r] at bz bx aQ bE ⊢;clear ae r;have bb:=Y (λt (f:Kp D t)=>Yf u.2 bR t (by
     rw[aX.out,<-aK.tr];exact(Rl.kp f _ aK.at_).nat.nt) Pv)
    go_wp2_with fail;refine cm (Pj bb _ aQ) ?_;rintro j b2 ⟨⟨el,rfl,aR⟩,ak⟩;obtain⟨dK,dH,bP⟩:=P7 aR;subst bP;obtain⟨e,bJ⟩:=xE (QF u.2);rw[<-bJ] at aR cr aT ⊢;have cE:=bD.fQ ak;have dJ:=bz.trans (Td.of ak (Qe bE));have dM:=Y (fZ ak bx.out);have dN:Kp D b2:=λO m j ad o=>Kp.of ak O m j (aQ O m j ad o) o;exact IX):=Pq h;exact mQ
abbrev XD (a:Oc):PO:=.agg #[PD a.ret,Ph a.v.k,Ph a.v.n,PI a.v.s]
def QU (U:Py)(k M:Nat)(z:List Nat)(es:PO)(aJ:Option Nat)(w:Py)(a:(Oc×Er×Option Va)×St)(c:Ending)(w':Py):Prop:=
 (∃b,c=PY (.tuple #[XD a.1.1,b])/\Yu es w' b a.1.2.1)/\Ms U k M z w' a.2/\Qj aJ k w w'/\P9 w' aJ a.1.2.2
def YK (U:Py)(k M:Nat)(z:List Nat)(es:PO)(g:St)(c:Nd)(e:Pl)(aJ:Option Nat)(d:Option Va)(f:(Oc×Er×Option Va)×St):Prop:=
 ∀(a:Py)(b:Ad),Ms U k M z a g->Qc z a b c->P9 a aJ d->PN 53 #[Pm k,Pm b.p,QN e (LA aJ)] a (QU U k M z es aJ a f)
def na (X:Fx)(b:Nd)(d:Pl)(c:Option Va)(g:St):(Oc×Er×Option Va)×St:=match X.v (Px b 0) d g with
 |((e,.no),a)=>if e.jv then X.s (Px b 1) d c a else if 2<b.2.fS.length then X.s (Px b 2) d c a else ((SG,.no,c),a)
 |((_,e),a)=>((SG,e,c),a)
def oI (X:Fx)(c:Nd)(b:Pl)(d:Option Va)(g:St):(Oc×Er×Option Va)×St:=match UW X (Px c 0) b g with
 |((e,.no),a)=>X.s (Px c 1) { b with scope:=a.gu } d (a.gv b.scope e (-2))
 |((_,e),a)=>((SG,e,d),a)
section
variable {e:Option Va}(h:Qj aJ k w w')(b:P9 w aJ e)
include e h b
def Qj.TY {c:Nat}{d:Array PO}{a:TypeId}(f:w.heap[c]?=some (Qb d a))(l:a ∉ Tm)(j:a≠65):w'.heap[c]?=some (Qb d a):=by
 refine h.rest c d a f l (λi=>?_)
 cases aJ with
 |none=>cases i
 |some m=>
  cases i
  cases e with
  |none=>exact b
  |some n=>exact Sj f b j rfl
def Qj.tU:Kp w w':=λd f i c a=>h.TY b c (by rcases a with rfl|rfl <;> decide) (by rcases a with rfl|rfl <;> decide)
end
def P9.UJ {c:Option Va}{e2:List TypeId}(h:P9 w aJ c)(b0:Qv e2 k w w')(e6:65 ∉ e2:=by decide):P9 w' aJ c:=by
 cases aJ <;> cases c <;> first|exact h|exact b0.rest _ _ _ h e6
def P9.fQ {a:Option Va}(h:P9 w aJ a)(b:PG w w'):P9 w' aJ a:=by
 cases aJ <;> cases a <;> first|exact h|exact fZ b h
section
variable (au:ip es)(ak:Ms U k M z w g){I:Ad}{A:Nd}(aQ:Qc z w I A)
include au ak I A aQ
def M8 (af:A.2.fS.length=2)(o:Pl){c:Option Va}(ba:P9 w aJ c)(ah:UH U k M z es g (Px A 0) o (X.v (Px A 0) o g))(aL:∀e L,X.v (Px A 0) o g=((e,.no),L)->YK U k M z es L (Px A 1) o aJ c (X.s (Px A 1) o c L)) :
  PN 111 #[Pm k,Pm I.p,QN o (LA aJ)] w (QU U k M z es aJ w (na X A o c g)):=by
 have b{G}(h:G:=by
 have b{G}(h:G:=by
 have b{G}(h:G:=by
 have b{G}(h:G:=by
 have cT:=Y E;have bE:=Y (fV E);have b{G}(h:G:=by
 have b{G}(h:G:=by
 have b{G}(h:G:=by
 obtain⟨aE,bN⟩:=xH (na X A ⟨F,B,C⟩ c g);rw[<-bN.out,<-a6.out];have b{G}(h:G:=by
 have b{G}(h:G:=by
 refine WY (H:=λwz D p=>VB U k M z es w2 e u L wz D p) (G:=?GG) (λaT=>?ways) ?rest
 case ways=>
  exact nF
 case rest=>
  rintro wz D p q;have cA:=q.fr.f2 bG.out PK;have dr:=Y cA;obtain⟨c8,cy,cJ,db,cL,cR,cS,dc,dd⟩:=SA (cA);have b{G}(h:G:=by
  have dx:=aX.kp q.fr.Ve;have dt:=dv.f2 q.fr
  by_cases s:u=.no
  ·subst s;have cr:p=RI:=q.er;subst cr;have di:=Yr e wz
   cases da:e.jv with
   |true=>
    have b{G}(h:G:=by
    have b{G}(h:G:=by
    have bm:=Y (λt (f:PG df t)=>(Pj dj e L b7.out) t bI (cw.fQ f) (cH.kp (Kp.of f)) (cp.fQ f));have b{G}(h:G:=by
    refine up 5 cG 1 a ?_;refine uk 6 dF.out a ?_;refine kx 7 dG.out a ?_;refine QX 8 λK d=>?_;go_simp;refine pS ?_;have b{G}(h:G:=by
    have du:=(Qj.of (L:=aJ) a (Qe dz)).trans ap;have bR:=Y (du.TY cp de.out PK PK);have cx:=dm.up.trans du;exact ux):=Pq h;exact m5):=Pq h;exact Ei):=Pq h;exact uw):=Pq h;exact rz
   |false=>
    have b{G}(h:G:=by
    obtain⟨bI,cG,dH,aO,ay,cH,_⟩:=cB.Zm (a:=1) Pv;have dC:=cB.cells.1;rw[bL,<-a6.out] at aO;rw[<-a6.out] at dC;have ae:aE=((SG,.no,c),L):=by rw[bN.out];unfold na;rw[b7.out];simp[dp.out,dq.out]
    have dh:=Y ae;obtain⟨cq,bA,cx,du,ci,bm,cK,dD,bR⟩:=SA de.out;clear c8 cy cJ db cL cR cS dc dd bK bJ bS bW bX bY bU ay bL ae;go_wp2_with fail;obtain⟨aY,a1,aH,bH,bD,bf,bh,be,bi⟩:=kb de.out a8.out aW dm cw (PD false) (Ph 0) (Ph 0) (QB);refine r0 ?_;rw[dh.out];exact⟨⟨_,rfl,rfl⟩,bD,bH.up,cp.UJ aH⟩):=Pq h;exact rz
  ·exact Ej):=Pq h;exact qO):=Pq h;exact F4):=Pq h;exact p7):=Pq h;exact o1):=Pq h;exact nr):=Pq h;exact VQ):=Pq h;exact j9):=Pq h;exact YL):=Pq h;exact jA):=Pq h;exact j2
def MV (af:A.2.fS.length=3)(o:Pl){c:Option Va}(ba:P9 w aJ c)(ah:UH U k M z es g (Px A 0) o (X.v (Px A 0) o g))(aL:∀e L,X.v (Px A 0) o g=((e,.no),L)->YK U k M z es L (Px A 1) o aJ c (X.s (Px A 1) o c L)/\YK U k M z es L (Px A 2) o aJ c (X.s (Px A 2) o c L)) :
  PN 111 #[Pm k,Pm I.p,QN o (LA aJ)] w (QU U k M z es aJ w (na X A o c g)):=by
 have b{G}(h:G:=by
 have b{G}(h:G:=by
 have b{G}(h:G:=by
 have b{G}(h:G:=by
 have cT:=Y E;have bE:=Y (fV E);have b{G}(h:G:=by
 have b{G}(h:G:=by
 have b{G}(h:G:=by
 obtain⟨aE,bN⟩:=xH (na X A ⟨F,B,C⟩ c g);rw[<-bN.out,<-a6.out];have b{G}(h:G:=by
 have b{G}(h:G:=by
 refine WY (H:=λwz D p=>VB U k M z es w2 e u L wz D p) (G:=?GG) (λaT=>?ways) ?rest
 case ways=>
  exact nF
 case rest=>
  rintro wz D p q;have cA:=q.fr.f2 bG.out PK;have dr:=Y cA;obtain⟨c8,cy,cJ,db,cL,cR,cS,dc,dd⟩:=SA (cA);have b{G}(h:G:=by
  have dx:=aX.kp q.fr.Ve;have dt:=dv.f2 q.fr
  by_cases s:u=.no
  ·subst s;have cr:p=RI:=q.er;subst cr;have di:=Yr e wz
   cases da:e.jv with
   |true=>
    have b{G}(h:G:=by
    have b{G}(h:G:=by
    have bm:=Y (λt (f:PG df t)=>(Pj dj e L b7.out).1 t bI (cw.fQ f) (cH.kp (Kp.of f)) (cp.fQ f));have b{G}(h:G:=by
    refine up 5 cG 1 a ?_;exact HZ):=Pq h;exact Ei):=Pq h;exact uw):=Pq h;exact rz
   |false=>
    have b{G}(h:G:=by
    obtain⟨bI,cG,dH,aO,ay,cH,_⟩:=cB.Zm (a:=2) Pv;rw[bL,<-a6.out] at aO;obtain⟨dY,cK⟩:=xE bI.p;have bm:=Y (λt (f:PG df t)=>(Pj dj e L b7.out).2 t bI (cw.fQ f) (cH.kp (Kp.of f)) (cp.fQ f));have dD{G}(h:G:=by
    have ae:aE=X.s (Px A 2) ⟨F,B,C⟩ c L:=by rw[bN.out];unfold na;rw[b7.out];simp[dp.out,dq.out]
    have dh:=Y ae;rw[<-ae] at bm;clear c8 cy cJ db cL cR cS dc dd bK bJ bS bW bX bY bU ay cK bL ae;go_wp2_with fail;clear aO;refine UG 8 λa=>?_;refine kT ?_;refine uk 4 dE.out a ?_;refine up 5 cG 2 a ?_;exact HZ):=Pq h;exact HA):=Pq h;exact rz
  ·exact Ej):=Pq h;exact qO):=Pq h;exact F4):=Pq h;exact p7):=Pq h;exact o1):=Pq h;exact nr):=Pq h;exact VQ):=Pq h;exact j9):=Pq h;exact YL):=Pq h;exact jA):=Pq h;exact j2
end
abbrev Ep (a:Oc):Obj:=Qb #[PD a.ret,Ph a.v.k,Ph a.v.n,PI a.v.s] 67
variable {w2:Py}
structure SB (w0:Py)(mb ag:Nat)(A:List Nat)(es:PO)(L:Option Nat)(w2:Py)(o:Oc)(e:Er)(l:Option Va)(σ:St)(wz:Py)(ob:Nat)(ev:PO):Prop where
 o:wz.heap[ob]?=some (Ep o)
 ob:w2.heap.size<=ob
 er:Yu es wz ev e
 ms:Ms w0 mb ag A wz σ
 fr:Qj L mb w2 wz
 la:P9 wz L l
def SB.late {a:Py}{ev:PO}{o:Oc}{e:Er}{f:Option Va}(i:Yu es a ev e)(c:Ms U k M z a g)(d:Qj aJ k w2 a)(j:P9 a aJ f):SB U k M z es aJ w2 o e f g (a.alloc (.cells #[PD o.ret,Ph o.v.k,Ph o.v.n,PI o.v.s] 67)) a.heap.size ev:=by
 have b:PG a (a.alloc (.cells #[PD o.ret,Ph o.v.k,Ph o.v.n,PI o.v.s] 67)):=QK;exact⟨Pz _ _,d.below.size,i.fQ b,c.fQ b,d.trans (Qj.of b (Qe c.lt)),j.fQ b⟩
def SB.early {b:Py}{ev x y n ck:PO}{o:Oc}{e:Er}{c:Option Va}{a:Nat}(f:b.heap[a]?=some (Qb #[x,y,n,ck] 67))(d:w2.heap.size<=a)(i:k<=w2.heap.size)(l:Yu es b ev e)(j:Ms U k M z b g)(m:Qj aJ k w2 b)(p:P9 b aJ c) :
  SB U k M z es aJ w2 o e c g ((((b.setCell (Pn a 0) (PD o.ret)).setCell (Pn a 1) (Ph o.v.k)).setCell (Pn a 2) (Ph o.v.n)).setCell (Pn a 3) (PI o.v.s)) a ev:=by
 have b0:=U8 f (gr i d) (PD o.ret) (Ph o.v.k) (Ph o.v.n) (PI o.v.s);exact⟨lY f _ _ _ _,d,l.RP b0 PK,j.ZR b0 PK,m.ia b0 (VJ d _ _ _ _),p.UJ b0⟩
section
variable {c:Pl}{e:Nd}{i:List Nd}{f d:Option Va}{b:Oc}
include c e i f d b
def auw {a:St}(h:X.s e c f g=((b,.no,d),a))(j:b.ret=false):Ti X c (e::i) f g=Ti X c i d a:=by rw[Ti,h];simp[j]
def aqj {a:St}(h:X.s e c f g=((b,.no,d),a))(j:b.ret=true):Ti X c (e::i) f g=((b,.no,d),a):=by rw[Ti,h];simp[j]
def J5 {a:Er}{l:St}(h:X.s e c f g=((b,a,d),l))(j:a≠.no):Ti X c (e::i) f g=((b,a,d),l):=by
 rw[Ti,h];exact vm
end
def AN (bn:ip es)(ak:Ms U k M z w g){ck:PO}{d:List Ad}{f:List Nd}(T:Uk 0 w ck d)(bF:U7 z w d f)(df:f.length<=1000000)(o:Pl){c:Option Va}(cL:P9 w aJ c)(P:St->Option Va->Prop)(hP:P g c)(bA:∀a ∈ f,∀g c,P g c->YK U k M z es g a o aJ c (X.s a o c g)/\∀b m p,X.s a o c g=((b,.no,m),p)->P p m) :
  PN 28 #[Pm k,ck,QN o (LA aJ)] w (QU U k M z es aJ w (Ti X o f c g)):=by
 have b{G}(h:G:=by
 have b{G}(h:G:=by
 have b{G}(h:G:=by
 have b{G}(h:G:=by
 have bG:=U7.len _ _ bF;obtain⟨ah,bH⟩:=xH (Ti X ⟨F,B,C⟩ f c g);rw[<-bH.out];have bB:=ak.fQ aI;have b4:=Qj.of (L:=aJ) aI (Qe aW);have cq:=Y E;have cr:=Y a7;have aD:=cL.fQ aI;have aO:=Y bI;have cC:=T.fQ aI;have cS:=U7.kp (Kp.of aI) _ _ bF;have cU:=Y hP;have cn:=Y bA;obtain⟨da,dc,cg⟩:=T.form;subst cg;have cE:=bB.lt;have bm:=Y bG;have c7:d.length<=1000000:=Pv;clear E a7 hP bA cJ bI bK bG;go_enter func28,ntmps28;go_wp2_with fail
 refine iJ ?_;clear bx bq
 go_loopw [14] (λa6 wr=>∃(i:Nat)(A:Option Va)(u:St),i<=d.length/\a6=Ph i/\Ms U k M z wr u/\P u A/\Qj aJ k w2 wr/\P9 wr aJ A/\ah=Ti X ⟨F,B,C⟩ (f.drop i) A u) (λa6 _=>d.length - (intOf a6).toNat)
 case atStart=>exact⟨0,c,g,ge _,rfl,bB,cU.out,Qj.of RV (Qe cE),aD,bH.out⟩
 case round=>
  obtain⟨i,A,u,cZ,rfl,ak,bO,ap,a8,bN⟩:=hrel;have cQ:=Y bO;have af:=Y bN;have dg:=ak.lt;have bD:=ap.tU aD;have aX:=Y (ap.TY aD cr.out PK PK);have aR:=ap.TY aD cq.out PK PK;clear bO bN
  by_cases aT:i<d.length
  ·have bz:i<f.length:=by rw[<-bm.out];exact aT
   obtain⟨dd,db,s,de,br,c8⟩:=(cC.kp bD).cell i aT;have b{G}(h:G:=by
   have cH:(i:Int)<(d.length:Int):=Pv;obtain⟨cB,bL⟩:=Pj cn f[i] (gU _) u A cQ.out;have ax:=cB wr d[i] ak ((U7.get _ _ cS i aT bz).kp bD) a8;rw[<-bQ.out] at ax;obtain⟨dh,bo⟩:=xE ((d[i]).p);rw[<-bo] at br ax
   rcases aZ:X.s f[i] ⟨F,B,C⟩ A u with ⟨⟨cp,au,m⟩,p⟩
   rw[aZ] at ax;have cR:=Y bL;have ae:=Y aZ;have aK:=Y (h7 bz);obtain⟨ci,cT,cx,cw,_,cG⟩:=fV aR;clear bL bo aZ aR;go_wp2_with fail;refine cm ax ?_;rintro j L ⟨⟨bE,rfl,al⟩,bb,bJ,b6⟩;have b5:=ap.trans bJ;have O:=Y (bJ.TY a8 aX.out PK PK);have cK:=bb.lt;clear ci cT cx cw cG br;obtain⟨cP,⟨aH,ay,aE⟩⟩:=cp
   cases cP with
   |true=>
    by_cases l:au=.no
    ·subst l;have q:bE=RI:=al;subst q;have a:ah=((⟨true,⟨aH,ay,aE⟩⟩,.no,m),p):=by rw[af.out,aK.out];exact aqj ae.out rfl
     have r:=Y a;clear a;have b{G}(h:G:=by
     refine XE (v:=.tuple #[XD ⟨true,⟨aH,ay,aE⟩⟩,RI]) ?_;rw[r.out];exact⟨⟨_,rfl,aL⟩,S,ad,aM⟩):=Pq h;exact BA
    ·obtain⟨bS,bU,q⟩:=al.X8 l bn;subst q;have a:ah=((⟨true,⟨aH,ay,aE⟩⟩,au,m),p):=by rw[af.out,aK.out];exact J5 ae.out l
     have r:=Y a;clear a l;have b{G}(h:G:=by
     refine ui ?_;rw[r.out];exact⟨⟨_,rfl,aL⟩,S,ad,aM⟩):=Pq h;exact BA
   |false=>
    by_cases l:au=.no
    ·subst l;have q:bE=RI:=al;subst q;go_wp2_with fail;have e:=(gi L.heap.size L).alloc Qq (.cells #[PD false,Ph aH,Ph ay,PI aE] 67);have cM:=bb.fQ e;have cy:=b5.trans (Qj.of (L:=aJ) e (Qe cK));have cV:=b6.fQ e
     go_roundw
     case rel=>
      refine⟨i+1,m,p,by omega,by go_num,cM,Pj cR _ m p ae.out,cy,cV,?_⟩;rw[af.out,aK.out];exact auw ae.out rfl
     case measure=>simp[intOf];omega
    ·obtain⟨bS,bU,q⟩:=al.X8 l bn;subst q;have a:ah=((⟨false,⟨aH,ay,aE⟩⟩,au,m),p):=by rw[af.out,aK.out];exact J5 ae.out l
     have r:=Y a;clear a l;obtain⟨bZ,bP,bR,b1,bW,bX,bY,b2,b3⟩:=SA O.out;go_wp2_with fail;obtain⟨aY,a1⟩:=xE (((((L.setCell (Pn N 0) (PD false)).setCell (Pn N 1) (Ph aH)).setCell (Pn N 2) (Ph ay)).setCell (Pn N 3) (PI aE)).alloc (.cells #[PD false,Ph aH,Ph ay,PI aE] 67));rw[<-a1];have ba:k<=N:=by have:=Pj aO;omega
     have D:=U8 O.out ba (PD false) (Ph aH) (Ph ay) (PI aE);have e:=(gi _ ((((L.setCell (Pn N 0) (PD false)).setCell (Pn N 1) (Ph aH)).setCell (Pn N 2) (Ph ay)).setCell (Pn N 3) (PI aE))).alloc Qq (.cells #[PD false,Ph aH,Ph ay,PI aE] 67);have bj:=fZ e (lY O.out (PD false) (Ph aH) (Ph ay) (PI aE));have b8{G}(h:G:=by
     refine ya ?_;rw[r.out];exact⟨⟨_,rfl,aL⟩,S,ad,aM⟩):=Pq h;exact CD):=Pq h;exact Vt
  ·have e:i=d.length:=Pv;have a:ah=((SG,.no,A),u):=by rw[af.out,e,bm.out,lS];rfl
   have r:=Y a;have cH:¬ (i:Int)<(d.length:Int):=Pv;obtain⟨bZ,bP,bR,b1,bW,bX,bY,b2,b3⟩:=SA aX.out;clear a e aR;go_wp2_with fail;obtain⟨aY,a1,D,ad,S,bf,bh,be,bi⟩:=kb aX.out aO.out aW (b4.trans ap) ak (PD false) (Ph 0) (Ph 0) (QB);refine r0 ?_;rw[r.out];exact⟨⟨_,rfl,rfl⟩,S,ad,a8.UJ D⟩):=Pq h;exact oS):=Pq h;exact YL):=Pq h;exact jA):=Pq h;exact j2
def Qc.ar {c:Ad}{d:Nd}(h:Qc z w c d):∃a b,w.cell? (Pn c.p 3)=some (.slice a d.2.fS.length b)/\Uk 0 w (.slice a d.2.fS.length b) c.ks:=by
 obtain⟨j,i,f,_⟩:=Rl.row h.at_;obtain⟨a,b,e⟩:=f.form;rw[h.ks] at e;subst e;exact⟨a,b,i,f⟩
section
variable (e:Ms U k M z w g){I:Ad}{b:Nd}(aQ:Qc z w I b)
include e I b aQ
def OW (j:b.2.fS.length=0)(i:Pl)(d:Option Addr) :
  PN 108 #[Pm k,Pm I.p,QN i d] w (g3 U k M z es w (.no,g)):=by
 have m:=e.lt;obtain⟨q,l,r⟩:=i;have a:=(gi w.heap.size w).alloc Qq (.cells #[Ph q,Ph l,PD r,.pointer d] 73);have o:=e.fQ a;have n:=Qj.of (L:=none) a (Qe m);obtain⟨s,t,f,_⟩:=aQ.ar;rw[j] at f;have p:=aQ.cells.1;obtain⟨u,c⟩:=xE I.p;rw[<-c] at f p ⊢;clear c;go_enter func108,ntmps108;go_wp2_with fail;exact Uj (v:=RI) ⟨⟨_,rfl,rfl⟩,o,n⟩
def Kv (q:b.2.fS.length<=1){ck:PO}(c:Uk 0 w ck I.ks)(d:Pl)(j:Option Addr)(i:∀f ∈ QA b,UH U k M z es g f d (X.v f d g)) :
  PN 114 #[Pm k,ck,QN d j] w (Qg U k M z es w (U5 X (QA b) d g)):=by
 have a:=aQ.l8;have l:=aQ.ks;have p:=Tz b;obtain⟨o,m⟩:=xE I.ks;obtain⟨n,hG⟩:=xE (QA b);rw[<-m] at c a l;rw[<-hG] at a p i ⊢;clear m hG
 match o,n,c,a,i with
 |[],[],c,_,_=>exact MG e c d j
 |[r],[f],c,a,i=>exact aib e c a.1 d j (i f Qh)
 |[],_::_,_,a,_=>exact a.elim
 |_::_,[],_,a,_=>exact a.elim
 |_::_::_,_,_,_,_=>simp at l;omega
 |[_],_::_::_,_,a,_=>exact a.2.elim
end
def MT (au:ip es)(ak:Ms U k M z w g){I:Ad}{F:Nd}(aQ:Qc z w I F)(af:F.2.fS.length<=1)(q:Pl)(n:Option Addr)(ah:∀a ∈ QA F,UH U k M z es g a q (X.v a q g))(bm:∀e A,U5 X (QA F) q g=((e,.no),A)->Sz bv A)(bK:bv<1000000000) :
  PN 109 #[Pm k,Pm I.p,QN q n] w (g3 U k M z es w (lD F q (U5 X (QA F) q g))):=by
 have aW:=ak.lt;have b{G}(h:G:=by
 have bG:w.heap.size<=H:=Pv;have b{G}(h:G:=by
 have bb:=Y E;have bI:=Y (fV E);have b{G}(h:G:=by
 obtain⟨b2,b7,ay,bo⟩:=aX.ar;obtain⟨bB,bh⟩:=xE F.2.fS.length;rw[<-bh] at ay bo;obtain⟨al,bf⟩:=xE I.p;have ax:=Y (λt (f:PG w2 t)=>Kv (br.fQ f) (aX.kp (Kp.of f)) af (bo.fQ f) ⟨c,B,C⟩ n ah)
 rcases T:U5 X (QA F) ⟨c,B,C⟩ g with ⟨⟨e,u⟩,A⟩
 rw[T] at ax;obtain⟨L,bq⟩:=xH F.2.tx;obtain⟨a7,N⟩:=xH (lD F ⟨c,B,C⟩ ((e,u),A));rw[<-N.out];have bz:=Y T;have bX:=Y bm;have aY:=aX.cells.2.2.1;rw[<-bq.out] at aY;have a8:=aX.gG;rw[<-bf] at ay bH aY a8 ⊢;have bE:=Y ay;have bR:=Y aY;have bL:=Y a8;clear E T bf ah bG bm aY a8 ay bh af;go_enter func109,ntmps109;go_wp2_with fail;rw[<-a1.out,<-aO];clear aO;refine WY (H:=λwz D p=>VB U k M z es w2 e u A wz D p) (G:=?GG) (λaT=>?ways) ?rest
 case ways=>
  refine UG 6 λa=>?_;refine kT ?_;refine uk 4 bE.out a ?_;refine kx 5 bI.out a ?_;refine jZ 6 10 (λK d=>?_) λK d=>?_
  ·go_simp;refine mp ?_;have b{G}(h:G:=by
   refine sU ?_;refine VH 10 ?_;refine VH 11 ?_;refine uz 12 p ?_;exact IM):=Pq h;exact kW
  ·go_simp;refine kS ?_;clear d K;refine QX 6 λK d=>?_;go_simp;refine oi ?_;have b{G}(h:G:=by
   have s:aR.heap[w2.heap.size]?=some (Qb #[Ph 0,Ph 0,QB] 65):=ap.f2 (Pz _ _) PK;obtain⟨be,o,bi,aE,aH,a6,bn⟩:=Ql s;refine sU ?_;refine VH 11 ?_;refine uz 12 p ?_;exact Hd):=Pq h;exact kW
 case rest=>
  have b{G}(h:G:=by
  by_cases s:u=.no
  ·subst s;have aR:p=RI:=o.er;subst aR;have bA:=Pj bX e A bz.out;obtain⟨aE,aH⟩:=xE ((A.M.start c L e).1);obtain⟨bi,a6⟩:=xE ({ A with M:=(A.M.start c L e).2 }:St);have ap:a7=(mW aE,bi):=by rw[N.out,aH,a6,bq.out];rfl
   have bD:=Y ap;have bn:=Y (Ln A.M c L e);rw[<-aH] at bn;have bQ:Hid (∀t,PG wz t->PN 198 #[Pm k,Ph c,PI L,vA e] t λj w'=>j=PY (Vg aE)/\Ms U k M z w' bi/\Qv Th k t w'):=λt f=>by
    obtain⟨_,_,_,_,be⟩:=o.ms.fQ f;refine(atZ be.hh bA.go.sm (Qe bK) c L e).mono ?_;rintro j w' ⟨rfl,aL,bZ⟩;rw[aH,a6];exact⟨rfl,⟨_,_,_,_,be.heap aL bZ⟩,bZ⟩
   have bJ:=Y (f7 o.v);have bW:=Y (fV aK.out);have bx:=Y (o.fr.Ve.UY bR.out bL.out (fU rfl));have b8:=f1 bx.out;have cg:=fR aK.out;have b1:=fR o.v;clear aH a6 ap;go_wp2_with fail;refine UG 10 λa=>?_;refine iF ?_;refine up 3 H 0 a ?_;refine uk 4 (bW.out.1) a ?_;refine sl ?_;refine uk 8 bx.out a ?_;refine jY 9 bJ.out a ?_;refine QX 10 λK d=>?_;go_simp;refine cm (Pj bQ _ a) ?_;rintro j b5 ⟨rfl,bU,bS⟩;refine ko d ?_;clear d K
   have bN:=ae.trans ((Qj.of (L:=none) a (Qe bY)).trans (Qj.j6 bS));refine uz 11 (Vg aE) ?_;refine Ud ?_ _;go_simp;go_wp2_with fail;refine Uj (v:=Vg aE) ?_;rw[bD.out];exact⟨⟨_,rfl,wY bn.out⟩,bU,bN⟩
  ·exact ys):=Pq h;exact vR):=Pq h;exact nq):=Pq h;exact oJ):=Pq h;exact mQ
def LU:WU 323:=λ_ _=>by kernel_rfl
def oy {a:Nat}{x:PO}{b:TypeId}(h:w.heap[a]?=some (Qb #[x] b)):w.cell? (Pn a 0)=some x:=by rw[cell_of h];rfl
def Td.box {j l:PO}{a:Nat}{b:Array PO}(h:Td k cj ce j l w w')(d:Mx U k M z cY cX cj ce w g)(c:w.heap[a]?=some (Qb b 211))(f:ce.ownBlock≠some a):w'.heap[a]?=some (Qb b 211):=
 h.rest a b 211 c PK (λi=>by
  obtain⟨m,e⟩:=QZ d.ow i;exact Sj c e PK rfl) f
def aqt (bX:Bs U k M z es)(c8:kV U)(bY:Mx U k M z cY cX cj ce w g)(bW:Sz bv g)(eu:bv+10000<1000000000){c:Fu}{I:Ad}(aQ:Qc z w I c.d)(af:c.d.2.fS.length=2)(a8:c.d.2.count<=1500)(br:(Px c.d 0).2.fS.length<=8)(aL:∀i ∈ TK (Px c.d 1),i.2.fS.length=2)(bI:(g.M.ro c.scope).isSome=true){b7 B cr:Nat}(b1:w.heap[b7]?=some (Qb #[Pm k] 62))(bq:w.heap[B]?=some (Qb #[Pm I.p,Ph c.scope,PD c.f3] 211))(b8:ce.ownBlock≠some B)(cn:w.heap[cr]?=some (Qb #[ck] 311))(T:U9 w ck vs)(ba:vs.length<=1500){L:(Oc×Er×Option Va)×St}(C:∀t a (F:Ad),Ms U k M z t (S9 c.d ⟨g.gu,g.gu,c.f3⟩ vs (g.gv c.scope (-1) (own c.d)))->Uk 0 t a F.ks->U7 z t F.ks (QA (Px c.d 1))->PN 28 #[Pm k,a,QN ⟨g.gu,g.gu,c.f3⟩ none] t (QU U k M z es none t L)) :
  PN 323 #[PZ b7 0,PZ B 0,PZ cr 0] w (Qg U k M z es w ((L.1.1.v,L.1.2.1),L.2)):=by
 have be:=bY.lt;obtain⟨aY,dd,fst⟩:=c;obtain⟨⟨q,dq,dG⟩,dW⟩:=L
 dsimp only at aQ af a8 br aL bI bq C ⊢
 obtain⟨aJ,cq⟩:=xE (none:Option Nat);obtain⟨w2,al⟩:=xE (w.alloc (.cells #[Ph 0,Ph 0,QB] 65));have A:PG w w2:=by rw[al];exact QK
 obtain⟨N,bn⟩:=xE w.heap.size;have cH:w2.heap[N]?=some (Qb #[Ph 0,Ph 0,QB] 65):=by rw[al,bn];exact Pz _ _
 have b5:w.heap.size<=N:=Pv;obtain⟨db,a1⟩:=xE (own aY);obtain⟨u,bK⟩:=xE (g.gu:Int);rw[<-a1,<-bK] at C;obtain⟨bP,aW⟩:=xE (g.gv dd (-1) db);rw[<-aW] at C;obtain⟨dr,bE⟩:=xE (S9 aY ⟨u,u,fst⟩ vs bP);rw[<-bE] at C;have aH:=bY.fQ A;have cU:=aQ.kp (Kp.of A);have dz:=Y cH;have b2:=A;have bH:=Y (fZ A b1);have aX:=Y (fZ A bq);have cT:=Y (fZ A cn);have dQ:=T.fQ A;have dD:=Td.of (o:=cj) (f:=ce) A (Qe be)
 have bJ:=Y (λt (f:PG w2 t)=>ZH bX (aH.fQ f) (cU.kp (Kp.of f)));have cg:=Y (λt (f:PG w2 t)=>pq (aH.fQ f) bW Pv dd (-1) db bI);rw[<-a1] at bJ;rw[<-bK,<-aW] at cg;have dt:Sz (bv+1) bP:=by rw[aW];exact bW.gv _ _ _
 have bL:=Y (λt b (f:Mx U k M z cY cX b ce t bP) (ae:Qc z t I aY) (r:U9 t ck vs)=>Lv bX c8 f dt Pv ae af a8 br aL ⟨u,u,fst⟩ none r ba);rw[<-bE] at bL;obtain⟨dc,a7⟩:=xE I.p;rw[<-a7] at bJ bL aX;have dx:=Y a7;have dp:=Y C;have cw:=Y af;have a6:=Y cq;have bQ:=Y b8;have du:=Y al;have dC:=Y b5;have dM:=aH.lt;have ek:=fR bH.out;have ep:=fR aX.out;have d2:=fR cT.out;have ay:=Y (oy bH.out);have aI:=Y (f7 aX.out)
 clear af a8 br aL bI b1 bq b8 cn C cq al cH b5 a1 bK aW bE a7 c8;go_enter func323,ntmps323;go_wp2_with fail;rw[<-du.out,<-bn];clear bn;refine UG 7 λa=>?_;refine uk 0 ay.out a ?_;refine up 1 B 1 a ?_;refine uk 2 (aI.out.2.1) a ?_;refine uk 3 ay.out a ?_;refine up 4 B 0 a ?_;refine uk 5 (aI.out.1) a ?_;refine QX 6 λK d=>?_;go_simp;refine cm (Pj bJ _ a) ?_;rintro j el ⟨rfl,dR⟩;subst dR;refine d.out _ _ (λ_=>a) ?_;clear d K;refine QX 7 λK d=>?_;go_simp;refine cm (Pj cg _ a) ?_
 rintro j bb ⟨rfl,dm,cy,bx⟩;refine ko d ?_;clear d K;have cK:=aH.fQ a;have n:=bx.jy (L:=none) cK;have dO:=cy;have dE:=(dD.trans (Td.of a (Qe dM))).trans bx;have bN:=Y (n.f2 (fZ a bH.out) PK);have de:=Y (n.f2 (fZ a cT.out) PK);have dN:=Y (n.f2 (fZ a dz.out) PK);have di:=(Qj.of (L:=none) (b2.trans (a.mono b2.size)) (Qe be)).trans n;have bS:=Y (bx.box cK (fZ a aX.out) bQ.out);have dX:=(dQ.fQ a).jy n;have cZ:=(cU.kp (Kp.of a)).kp n.Ve
 have cz:=cy.lt;refine uz 8 (Ph u) ?_;refine Ud ?_ _;go_simp;have dH:=oy bN.out;have dT:=oy de.out;obtain⟨cL,cC,cP,_,cE⟩:=f7 bS.out;have df:=fR bN.out;have dj:=fR de.out;go_wp2_with fail;obtain⟨bm,aE⟩:=xE (bb.alloc (.cells #[Ph u,Ph u,PD fst,Rz] 73));obtain⟨dv,bo⟩:=xE bb.heap.size;have cx:bm.heap[dv]?=some (Qb #[Ph u,Ph u,PD fst,Rz] 73):=by rw[aE,bo];exact Pz _ _
 have s:PG bb bm:=by rw[aE];exact QK
 rw[<-aE,<-bo];have bD:=dO.fQ s;refine cm (Pj bL bm dm bD (cZ.kp (Kp.of s)) (dX.fQ s)) ?_;rintro j o ⟨rfl,d3,da,bF⟩;have n:=bF.jy (L:=none) bD;have dU:Ms U k M z o dr:=⟨_,_,_,_,da⟩;have en:=(dE.trans (Td.of s (Qe cz))).trans bF;have bR:=Y (n.f2 (fZ s bN.out) PK);have cB:=Y (n.f2 (fZ s dN.out) PK);have cQ:=Y (n.f2 cx PK);have bU:=Y (bF.box bD (fZ s bS.out) bQ.out);have dY:=(cZ.kp (Kp.of s)).kp n.Ve
 have dh:=((Qj.of (L:=none) s (Qe cz)).trans n);have bG:=da.lt;clear cx aE bo dH dT cL cC cP cE df dj;obtain⟨F,dS,ec,E,aO,cR,_⟩:=dY.Zm (a:=1) (by rw[cw.out];omega)
 rw[cw.out] at E;obtain⟨d9,eg,H,cJ⟩:=cR.ar;obtain⟨eo,cG⟩:=xE ((Px aY 1).2.fS.length);rw[<-cG] at H cJ;have ax:=Y (λt (f:PG o t)=>Pj dp t _ F (dU.fQ f) (cJ.fQ f) ((cR.kp (Kp.of f)).l8));obtain⟨cS,cp⟩:=xE F.p;rw[<-cp] at aO H;rw[<-dx.out] at E;have dJ:=Y E;have dV:=Y aO;have dg:=Y H;have ei:=f1 aO;have eh:=f1 E;have ea:=f1 H;have ay:=Y (oy bR.out);have aI:=Y (f7 bU.out);have dP:=Y (fV cQ.out);have d4:=fR bR.out
 have d5:=fR bU.out;have d6:=fR cQ.out;have dZ:P9 o aJ (none:Option Va):=by show P9 _ _ _;rw[a6.out];trivial
 rw[<-a6.out] at ax;clear E aO H cG cp;go_wp2_with fail;refine WY (H:=λwz D p=>SB U k M z es aJ o q dq dG dW wz D p) (G:=?GG) (λaT=>?ways) ?rest
 case ways=>
  refine UG 12 λa=>?_;refine uk 0 ay.out a ?_;refine up 1 B 0 a ?_;refine uk 2 (aI.out.1) a ?_;refine up 3 dc 0 a ?_;refine up 4 dc 3 a ?_;refine uk 5 dJ.out a ?_;refine up 6 dS 1 a ?_;refine uk 7 dV.out a ?_;refine up 8 cS 0 a ?_;refine up 9 cS 3 a ?_;refine uk 10 (Pj dg) a ?_;refine kx 11 dP.out a ?_;refine jZ 12 16 (λK d=>?_) λK d=>?_
  ·go_simp;refine mp ?_;have b{G}(h:G:=by
   refine uz 13 (.tuple #[(XD q),p]) ?_;refine uz 14 (XD q) ?_;refine uz 15 p ?_;refine VH 16 ?_;refine VH 17 ?_;refine uz 18 p ?_;refine Ud ?_ _;go_simp;have ae:=SB.late (o:=q) aK ak ((Qj.of a (Qe bG)).trans ap) ci;exact rb):=Pq h;exact m5
  ·go_simp;refine kS ?_;clear d K;refine QX 12 λK d=>?_;go_simp;refine oi ?_;have b{G}(h:G:=by
   have bf:aR.heap[o.heap.size]?=some (Qb #[PD false,Ph 0,Ph 0,QB] 67):=ap.TY (dZ.fQ (QK.drew)) (Pz _ _) PK PK;obtain⟨cA,bh,cO,d0,bi,bz,bA,bZ,d1⟩:=SA (bf);refine uz 13 (.tuple #[(XD q),p]) ?_;refine uz 14 (XD q) ?_;refine uz 15 p ?_;refine VH 17 ?_;refine uz 18 p ?_;refine Ud ?_ _;go_simp;have ae:=SB.early (o:=q) bf Qq (Qe bG) aK ak ((Qj.of (QK.drew) (Qe bG)).trans ap) ci
   generalize (((aR.setCell (Pn o.heap.size 0) (PD q.ret)).setCell (Pn o.heap.size 1) (Ph q.v.k)).setCell (Pn o.heap.size 2) (Ph q.v.n)).setCell (Pn o.heap.size 3) (PI q.v.s)=wz at ae ⊢
   generalize o.heap.size=D at ae ⊢
   exact aT wz D p ae):=Pq h;exact m5
 case rest=>
  rintro wt ci p b;have r:=b.fr;rw[a6.out] at r;have ae:=Y (r.f2 cB.out PK);have b6:=(di.trans dh).trans r;have dK:=b.ms;have dF:=b.er;have d1:ci≠N:=λj=>by
   have ah:=b.ob;have aL:=fR cB.out;omega
  obtain⟨eE,e⟩:=q;obtain⟨ej,d7,d8,ed,ee,ef,eF⟩:=Ql ae.out;obtain⟨cL,cC,cP,eG,ew,d0,eD,eH,cE⟩:=SA (b.o);go_wp2_with fail;obtain⟨bh,aK,bZ,aU,aR,bA,bf,bi⟩:=i1 ae.out dC.out be b6 dK (Ph e.k) (Ph e.n) (PI e.s);rw[<-aK];refine YJ (v:=.tuple #[vA e,p]) ?_;exact⟨⟨_,rfl,dF.RP bZ PK⟩,aR,aU⟩
def Sz.fW (h:Sz bv g)(a:Nat):Sz bv { g with fW:=a }:=⟨h.go,h.ow,h.fn,h.lg,h.se,h.oe⟩
def SW (aZ:Bs U k M z es)(c8:kV U)(n:Mx U k M z cY cX cj ce w g)(aY:Sz bv g)(bB:bv+10000<1000000000)(aE:g.fW<=40){a:Fu}{I:Ad}(aQ:Qc z w I a.d)(O:a.d.2.fS.length=2)(af:a.d.2.count<=1500)(aL:(Px a.d 0).2.fS.length<=8)(S:∀c ∈ TK (Px a.d 1),c.2.fS.length=2)(aT:(g.M.ro a.scope).isSome=true)(T:U9 w ck vs)(bD:vs.length<=1500){b:St->(Oc×Er×Option Va)×St}(al:g.fW≠40->(b { g with fW:=g.fW+1 }).2.fW=g.fW+1)(au:g.fW≠40->∀t c (d:Ad),Ms U k M z t (S9 a.d ⟨g.gu,g.gu,a.f3⟩ vs (St.gv { g with fW:=g.fW+1 } a.scope (-1) (own a.d)))->Uk 0 t c d.ks->U7 z t d.ks (QA (Px a.d 1))->PN 28 #[Pm k,c,QN ⟨g.gu,g.gu,a.f3⟩ none] t (QU U k M z es none t (b { g with fW:=g.fW+1 }))) :
  PN 301 #[Pm k,.agg #[Pm I.p,Ph a.scope,PD a.f3],ck] w (Qg U k M z es w (within g λg=>(((b g).1.1.v,(b g).1.2.1),(b g).2))):=by
 have bG:=X9;have aW:=n.lt;obtain⟨B,C,aX⟩:=T.form;subst aX;obtain⟨i,o⟩:=xE I.p;obtain⟨l,F⟩:=xE a.scope;obtain⟨fst,L⟩:=xE a.f3;obtain⟨w2,c⟩:=xE ((((w.alloc (.cells #[Pm k] 62)).alloc (.cells #[Pm i,Ph l,PD fst] 211)).alloc (.cells #[.slice B vs.length C] 311)).alloc (.cells #[Ph 0,Ph 0,QB] 65));have f:PG w w2:=by rw[c];exact((QK.alloc Qh _).alloc SC _).alloc SC _
 obtain⟨ay,r⟩:=xE w.heap.size;obtain⟨e,D⟩:=xE (w.heap.size+1);obtain⟨aO,s⟩:=xE (w.heap.size+1+1);obtain⟨N,A⟩:=xE (w.heap.size+1+1+1);have ah:w2.heap[ay]?=some (Qb #[Pm k] 62):=by rw[c,r];exact f8 (f8 (f8 (Pz _ _)))
 have aH:w2.heap[e]?=some (Qb #[Pm i,Ph l,PD fst] 211):=by
  rw[c,D,show w.heap.size+1=(w.alloc (.cells #[Pm k] 62)).heap.size by simp];exact f8 (f8 (Pz _ _))
 have aI:w2.heap[aO]?=some (Qb #[.slice B vs.length C] 311):=by
  rw[c,s,show w.heap.size+1+1=((w.alloc (.cells #[Pm k] 62)).alloc (.cells #[Pm i,Ph l,PD fst] 211)).heap.size by simp];exact f8 (Pz _ _)
 have aR:w2.heap[N]?=some (Qb #[Ph 0,Ph 0,QB] 65):=by
  rw[c,A,show w.heap.size+1+1+1=(((w.alloc (.cells #[Pm k] 62)).alloc (.cells #[Pm i,Ph l,PD fst] 211)).alloc (.cells #[.slice B vs.length C] 311)).heap.size by simp];exact Pz _ _
 have ax:w.heap.size<=N:=Pv;have aD:ce.ownBlock≠some e:=λj=>by
  obtain⟨m,_,d,_⟩:=n.fu;have:=(d.lt e j).2;omega
 have bn:=n.fQ f;have bm:=aQ.kp (Kp.of f);have bo:=T.fQ f;obtain⟨bE,aM⟩:=xE (within g λg=>(((b g).1.1.v,(b g).1.2.1),(b g).2));have ad:=xR (z:=es) bn aE LU (c:=#[PZ ay 0,PZ e 0,PZ aO 0]) (a:=λg=>(((b g).1.1.v,(b g).1.2.1),(b g).2)) al (λbe t a1 d bf=>by
  have aU:Kp w2 t:=λq u j m a6=>d q u j m (by rcases a6 with rfl|rfl <;> decide);refine aqt (c:=a) (I:=I) aZ c8 a1 (aY.fW _) bB (bm.kp aU) O af aL S aT (d _ _ _ ah PK) (B:=e) ?_ aD (d _ _ _ aI PK) (bo.f2 λq u m=>d q u 65 m PK) bD (au be);rw[<-o,<-F,<-L];exact d _ _ _ aH PK)
 rw[<-aM] at ad ⊢;rw[<-o,<-F,<-L];have bb:=Y aR;have bj:=Qj.of (L:=none) f (Qe aW);have ba:=Y c;have a8:=Y ax;have bx:=Y r;have a7:=Y D;have br:=Y s;have bq:=Y A;clear O af aL S aT al au aR ah aH aI aD c ax r D s A aM o F L c8 aE;go_enter func301,ntmps301;go_wp2_with fail;rw[<-ba.out,<-bq.out,<-br.out,<-a7.out,<-bx.out];refine cm ad ?_;rintro j bF ⟨⟨p,rfl,aK⟩,ak,ap⟩;have bN:=Y (ap.f2 bb.out PK);have dd:=bj.trans ap
 obtain⟨H,E⟩:=xE bE.1.1;rw[<-E];have ae:=Y E;clear E;exact zB
def kZ (X:Fx)(b:Nd)(e:Pl)(g:St):(Va×Er)×St:=match Vq X e (QA b) [] g with
 |((c::d::_,.no),a)=>(XB a.M b.2.kd c d,a)
 |((_,c),a)=>((vU,c),a)
def vt {X:Fx}{f:Pl}:∀(a:List Nd)(b:List Va)(g:St)(vs:List Va)(d:St),Vq X f a b g=((vs,.no),d)->vs.length=b.length+a.length
 |[],b,g,vs,d,h=>by rw[Vq] at h;cases h;simp
 |i::a,b,g,vs,d,h=>by
  rcases e:X.v i f g with ⟨⟨m,j⟩,l⟩
  by_cases c:j=.no
  ·subst c;rw[FQ e] at h;have:=vt a _ _ _ _ h;rw[this];simp;omega
  ·rw[CB e c] at h;cases h;exact absurd rfl c
structure oR (w0:Py)(mb ag:Nat)(A:List Nat)(w2:Py)(v1 v2:Va)(σ:St)(wz:Py)(lH kI:Nat):Prop where
 v1:wz.heap[lH]?=some (ZT v1)
 v2:wz.heap[kI]?=some (ZT v2)
 la:w2.heap.size<=lH
 lb:w2.heap.size<=kI
 ne:lH≠kI
 bl:PG w2 wz
 ms:Ms w0 mb ag A wz σ
def oR.one {v1 v2:Va}(b:Ms U k M z w g):oR U k M z w v1 v2 g ((w.alloc (.cells #[Ph v1.k,Ph v1.n,PI v1.s] 65)).alloc (.cells #[Ph v2.k,Ph v2.n,PI v2.s] 65)).drew w.heap.size (w.heap.size+1):=by
 have a:PG w ((w.alloc (.cells #[Ph v1.k,Ph v1.n,PI v1.s] 65)).alloc (.cells #[Ph v2.k,Ph v2.n,PI v2.s] 65)).drew:=(QK.alloc Qh _).drew;refine⟨f8 (Pz _ _),?_,Qq,by omega,by omega,a,b.fQ a⟩;have:=Pz (w.alloc (.cells #[Ph v1.k,Ph v1.n,PI v1.s] 65)) (.cells #[Ph v2.k,Ph v2.n,PI v2.s] 65);rw[show (w.alloc (.cells #[Ph v1.k,Ph v1.n,PI v1.s] 65)).heap.size=w.heap.size+1 by simp] at this;exact this
def oR.swap {c d:Va}{wz:Py}{b a:Nat}(h:oR U k M z w d c g wz a b):oR U k M z w c d g wz b a:=⟨h.v2,h.v1,h.lb,h.la,h.ne.symm,h.bl,h.ms⟩
def aJg {H G:Py->Nat->Nat->Prop}{goal:Prop}(c:(∀w a ck,H w a ck->G w a ck)->goal)(b:∀w a ck,H w a ck->G w a ck):goal:=c b
def N5 (au:ip es)(dN:Bs U k M z es)(c8:kV U)(ak:Ms U k M z w g){I:Ad}{aO:Nd}(aQ:Qc z w I aO)(af:aO.2.fS.length=2)(c:Pl)(n:Option Addr)(P:St->Prop)(hP:P g)(dQ:∀a ∈ QA aO,∀g,P g->UH U k M z es g a c (X.v a c g)/\∀v q,X.v a c g=((v,.no),q)->P q)(dP:∀e r q,Vq X c (QA aO) [] g=(([e,r],.no),q)->(-1000000000<=e.n/\e.n<=1000000000)/\(-1000000000<=r.n/\r.n<=1000000000)/\(q.M.hE e).size<=1000000/\(q.M.hE r).size<=1000000) :
  PN 259 #[Pm k,Pm I.p,QN c n] w (Qg U k M z es w (kZ X aO c g)):=by
 have b{G}(h:G:=by
 have dh:=Y (fV E);have b{G}(h:G:=by
 obtain⟨al,dz⟩:=xH I.p;obtain⟨e8,cK,d0,eK⟩:=Rl.row aX.at_;obtain⟨e5,e6,du⟩:=d0.form;subst du;have dS:I.ks.length=2:=by rw[aX.ks,af]
 have ax:=Y (λt (f:PG w2 t)=>IU au (br.fQ f) (d0.fQ f) (U7.kp (Kp.of f) _ _ aX.l8) (by rw[Tz,af];omega) ⟨F,B,C⟩ n P hP dQ)
 rw[dS] at cK ax;obtain⟨D,dx⟩:=xH (kZ X aO ⟨F,B,C⟩ g);rw[<-dx.out,<-dz.out];rw[<-dz.out] at cK b5
 rcases T:Vq X ⟨F,B,C⟩ (QA aO) [] g with ⟨⟨vs,dv⟩,q⟩
 rw[T] at ax;have cG:=Y T;have ef:=Y dP;have eI:=Y af;have ew:=Y cK;clear E a7 T bD bb bH cK hP dQ dP af dS eK;go_enter func259,ntmps259;have b{G}(h:G:=by
 rintro j aK ⟨⟨ck,p,rfl,eF,bQ⟩,cL,ek⟩;refine ko d ?_;clear d K;have dD:=(Qj.of (L:=none) a (Qe bP)).trans ek;have eJ:=bQ;have cr:=Y (dD.f2 bG.out PK);have dT:=bF.trans dD;have eE:=aX.kp dD.Ve;have el:=cL.lt;obtain⟨bJ,bm,bn,bo,bE,bI,bK⟩:=Ql cr.out;refine uz 7 (.tuple #[ck,p]) ?_;refine uz 8 ck ?_;refine uz 9 p ?_;refine uz 10 ck ?_;refine uz 11 p ?_;refine Ud ?_ _;go_simp
 by_cases cE:dv=.no
 ·subst cE;have dC:p=RI:=bQ;subst dC;have dZ:vs.length=2:=by have:=vt _ _ _ _ _ cG.out;rw[this,Tz,eI.out];rfl
  obtain⟨e,r,rfl⟩:∃e r,vs=[e,r]:=by
   match vs,dZ with
   |[e,r],_=>exact⟨e,r,rfl⟩
  obtain⟨dX,d4,d2,d1⟩:=Pj ef e r q cG.out;have dt:aK.ownsRow _ 65 3 ck 2 (([e,r]:List Va).flatMap ZV):=eF;obtain⟨bX,dU,du,_,_⟩:=dt.form Pv;subst du;have bN:∀dk x,(([e,r]:List Va).flatMap ZV)[dk]?=some x->aK.cell? (Pn bX dk)=some x:=λdk x dO=>by
   have ez:dk<6:=by have:=(gs.1 dO).1;simpa[ZV] using this
   rw[dt.cellAt dk Pv];exact dO
  have ec:=Y (bN 0 _ rfl);have eo:=Y (bN 1 _ rfl);have eH:=Y (bN 2 _ rfl);have eD:=Y (bN 3 _ rfl);have ed:=Y (bN 4 _ rfl);have ee:=Y (bN 5 _ rfl);have e2:=(dt.lt bX rfl).2;have o:D=(XB q.M aO.2.kd e r,q):=by rw[dx.out];unfold kZ;rw[cG.out]
  have aR:=Y o;have ep:=Y d2;have ej:=Y d1;have dW:=Y dX;have d3:=Y d4;clear dZ bN o d2 d1 dX d4;go_wp2_with fail;refine aJg (H:=λwz a6 aT=>oR U k M z aK e r q wz a6 aT) (G:=?GG) (λdV=>?ways) ?rest
  case ways=>
   refine UG 9 λa=>?_;refine uh 0 (.slice (some (Pn bX 0)) 2 dU) (a) ?_;refine up 1 bX 0 a ?_;refine uc 2 (.agg #[Ph e.k,Ph e.n,PI e.s]) rfl (fU ⟨by kernel_rfl,λt f=>by have aD:=PV f ec.out;have ah:=PV f eo.out;have aL:=PV f eH.out;go_simp⟩) (a) ?_
   refine uh 3 (.slice (some (Pn bX 0)) 2 dU) (a) ?_;refine up 4 bX 3 a ?_;refine uc 5 (.agg #[Ph r.k,Ph r.n,PI r.s]) rfl (fU ⟨by kernel_rfl,λt f=>by have aD:=PV f eD.out;have ah:=PV f ed.out;have aL:=PV f ee.out;go_simp⟩) (a) ?_
   refine jZ 6 7 (λK d=>?_) λK d=>?_
   ·go_simp;refine kS ?_;clear d K;refine QX 7 λK d=>?_;go_simp;refine tO ?_;clear d K;refine QX 8 λK d=>?_;go_simp;refine tO ?_;clear d K;refine VH 9 ?_;refine Ud ?_ _;go_simp;have s:=oR.one (v1:=e) (v2:=r) cL
    generalize ((aK.alloc (.cells #[Ph e.k,Ph e.n,PI e.s] 65)).alloc (.cells #[Ph r.k,Ph r.n,PI r.s] 65)).drew=wz at s ⊢
    generalize aK.heap.size+1=aT at s ⊢
    generalize aK.heap.size=a6 at s ⊢
    exact dV wz a6 aT s
   ·go_simp;refine kS ?_;clear d K;refine QX 6 λK d=>?_;go_simp;refine tO ?_;clear d K;refine QX 8 λK d=>?_;go_simp;refine tO ?_;clear d K;refine VH 9 ?_;refine Ud ?_ _;go_simp;have s:=(oR.one (v1:=r) (v2:=e) cL).swap
    generalize ((aK.alloc (.cells #[Ph r.k,Ph r.n,PI r.s] 65)).alloc (.cells #[Ph e.k,Ph e.n,PI e.s] 65)).drew=wz at s ⊢
    generalize aK.heap.size+1=a6 at s ⊢
    generalize aK.heap.size=aT at s ⊢
    exact dV wz a6 aT s
  case rest=>
   rintro wz a6 aT L;have dr:=Y (fZ L.bl cr.out);have dJ:=dT.trans (Qj.of (L:=none) L.bl (Qe el));have cB:=L.ms;have dq:=L.ms.lt;have de:=Y L.v1;have cH:=Y L.v2;have e0:=L.ne;have e1:a6≠N:=λj=>by
    have ah:=L.la;have aL:=fR cr.out;omega
   have eZ:aT≠N:=λj=>by
    have ah:=L.lb;have aL:=fR cr.out;omega
   have dY:=eE.kp (Kp.of L.bl);have bL:=dY.cells.2.1;have en:=dY.cells.1;rw[<-dz.out] at bL en;obtain⟨A,dR⟩:=xE aO.2.kd;rw[<-dR] at bL aR;clear bJ bm bn bo bE bI bK dR;obtain⟨bJ,bm,bn,bo,bE,bI,bK⟩:=Ql dr.out;obtain⟨cP,cp,cq,cU,cZ,da,cT⟩:=Ql de.out;obtain⟨db,cQ,dc,cS,cC,dd,cR⟩:=Ql cH.out;have eG:=Y bL;have d6:=Y (f7 de.out);have d5:=Y (f7 cH.out)
   by_cases be:A=27
   ·subst be
    by_cases s:e=r
    ·have o:D=((Ri true,.no),q):=by rw[aR.out];unfold XB;rw[fY rfl,hr s]
     have u:=Y o;subst s;clear o;go_wp2_with fail;obtain⟨H,cx⟩:=xE (Ri true);have di:=WX true wz;exact wd
    ·have o:D=((Ri false,.no),q):=by rw[aR.out];unfold XB;rw[fY rfl,hi s]
     have u:=Y o;have ae:¬ e.k=r.k\/(e.k=r.k/\¬ e.n=r.n)\/(e.k=r.k/\e.n=r.n/\¬ e.s=r.s):=by
      by_cases ah:e.k=r.k
      ·by_cases aL:e.n=r.n
       ·exact .inr (.inr ⟨ah,aL,λbZ=>s (by cases e;cases r;simp_all)⟩)
       ·exact .inr (.inl ⟨ah,aL⟩)
      ·exact .inl ah
     clear o s
     rcases ae with ah|⟨ah,aL⟩|⟨ah,aL,bZ⟩
     ·exact sY
     ·exact sY
     ·have bU:(e.s.toList==r.s.toList)=false:=pu bZ
      exact sY
   ·by_cases s:e.k=3/\r.k=3
    ·have o:D=(oZ A e.n r.n,q):=by rw[aR.out];unfold XB;rw[fT be,fY s];rfl
     have u:=Y o;obtain⟨bY,dE⟩:=s;clear o;go_wp2_with fail;have ae:=Y (λt=>aia (z:=es) A e.n r.n dW.out d3.out t);obtain⟨d7,cw⟩:=xE (oZ A e.n r.n);rw[<-cw] at ae u;have ea:=fR de.out;have eu:=fR cH.out;clear bY dE be cw bL cP cp cq cU cZ da cT db cQ dc cS cC dd cR bJ bm bn bo bE bI bK;refine UG 8 λa=>?_;refine up 0 al 0 a ?_;refine up 1 al 0 a ?_;refine up 2 al 0 a ?_;refine uk 3 eG.out a ?_;refine up 4 a6 1 a ?_;refine uk 5 (d6.out.2.1) a ?_
     refine up 6 aT 1 a ?_;refine uk 7 (d5.out.2.1) a ?_;refine QX 8 λK d=>?_;go_simp;refine cm (Pj ae _) ?_;rintro j eL ⟨⟨p,rfl,bQ⟩,dF⟩;refine ko d ?_;clear d K;have dj:=a.trans (dF.mono a.size);have b{G}(h:G:=by
     refine uz 9 (vA ci) ?_;refine uz 10 p ?_;refine VH 11 ?_;refine uz 12 p ?_;exact ER):=Pq h;exact Ki
    ·by_cases ae:A=29/\(e.k=4\/r.k=4)
     ·have o:D=(oU (q.M.hE e) (q.M.hE r),q):=by rw[aR.out];unfold XB oU;rw[fT be,fT s,fY ae]
      have u:=Y o;obtain⟨d7,cw⟩:=xE (oU (q.M.hE e) (q.M.hE r));have cn:=Y (λt=>So (z:=es) (q.M.hE e) (q.M.hE r) ep.out ej.out t);rw[<-cw] at cn u;have dg:=Y (λt (f:PG wz t)=>s1 dN c8 (cB.fQ f) e (by have:=Pj dW;omega))
      have dm:=Y (λt (f:PG wz t)=>s1 dN c8 (cB.fQ f) r (by have:=Pj d3;omega))
      obtain⟨eh,cg⟩:=xE (q.M.hE e);obtain⟨ei,b8⟩:=xE (q.M.hE r);rw[<-cg,<-b8] at cn;rw[<-cg] at dg;rw[<-b8] at dm;have ea:=fR de.out;have eu:=fR cH.out;obtain⟨dp,bU⟩:=ae;subst dp;have bW:e.k=3->¬ r.k=3:=λah aL=>s ⟨ah,aL⟩;clear o cw cg b8 s
      by_cases bY:e.k=3
      ·have dE:=bW bY;have b2:r.k=4:=bU.resolve_left Pv;clear bU bW;go_wp2_with fail;clear bY dE b2 be bL cP cp cq cU cZ da cT db cQ dc cS cC dd cR bJ bm bn bo bE bI bK;exact zo
      ·by_cases b1:e.k=4
       ·clear bU bW;go_wp2_with fail;clear bY b1 be bL cP cp cq cU cZ da cT db cQ dc cS cC dd cR bJ bm bn bo bE bI bK;exact zo
       ·have b2:r.k=4:=bU.resolve_left b1;clear bU bW;go_wp2_with fail;clear bY b1 b2 be bL cP cp cq cU cZ da cT db cQ dc cS cC dd cR bJ bm bn bo bE bI bK;exact zo
     ·by_cases df:A=28/\e.k=4/\r.k=4
      ·obtain⟨b8,b1,b2⟩:=df;subst b8
       by_cases bW:e.s.data.toList<r.s.data.toList
       ·have o:D=((Ri true,.no),q):=by rw[aR.out];unfold XB;rw[fT PK,fT s,fT ae,fY ⟨rfl,b1,b2⟩,hr bW]
        have u:=Y o;have b7:Op.bytesLess e.s.toList r.s.toList=true:=by rw[iE,iE,bytesLess_eq];exact hr bW
        clear o s ae bW;go_wp2_with fail;obtain⟨H,cx⟩:=xE (Ri true);have di:=WX true wz;exact wd
       ·have o:D=((Ri false,.no),q):=by rw[aR.out];unfold XB;rw[fT PK,fT s,fT ae,fY ⟨rfl,b1,b2⟩,hi bW]
        have u:=Y o;have b7:Op.bytesLess e.s.toList r.s.toList=false:=by rw[iE,iE,bytesLess_eq];exact hi bW
        clear o s ae bW;exact sY
      ·have o:D=((vU,ga gJ),q):=by rw[aR.out];unfold XB;rw[fT be,fT s,fT ae,fT df]
       have u:=Y o;clear o;have b7:e.k=3->r.k=3->False:=λI O=>s ⟨I,O⟩;have b8:A=29->e.k=4->False:=λI O=>ae ⟨I,.inl O⟩;have cg:A=29->r.k=4->False:=λI O=>ae ⟨I,.inr O⟩;have bW:A=28->e.k=4->r.k=4->False:=λI O m=>df ⟨I,O,m⟩;clear s ae df
       by_cases eh:A=29
       ·subst eh;have eg:¬ e.k=4:=λh=>b8 rfl h;have ei:¬ r.k=4:=λh=>cg rfl h
        by_cases dg:e.k=3
        ·exact yY
        ·have e4:(e.k==4)=false:=by simpa using eg
         have e7:(r.k==4)=false:=by simpa using ei
         have e3:(e.k==3)=false:=by simpa using dg
         clear b7 b8 cg bW;go_wp2_with fail
         all_goals first |(exfalso;omega)|skip
         exact qF
       ·by_cases eg:A=28
        ·subst eg
         by_cases dg:e.k=3
         ·exact yY
         ·by_cases ei:e.k=4
          ·have e3:¬ r.k=4:=λh=>bW rfl ei h;clear b7 b8 cg bW;go_wp2_with fail;exact qF
          ·clear b7 b8 cg bW;go_wp2_with fail;exact qF
        ·by_cases dg:e.k=3
         ·exact yY
         ·clear b7 b8 cg bW;go_wp2_with fail;exact qF
 ·obtain⟨bL,bN,dC⟩:=bQ.X8 cE au;subst dC;have o:D=((vU,dv),q):=by
   rw[dx.out];unfold kZ;rw[cG.out]
   rcases vs with _|⟨cp,_|⟨cq,s⟩⟩ <;> cases dv <;> first|rfl|exact absurd rfl cE
  have u:=Y o;clear cE o;go_wp2_with fail;obtain⟨bh,a1,aY,aH,aE,bA,bf,bi⟩:=i1 cr.out a8.out aW dT cL (Ph 0) (Ph 0) (QB);refine qp ?_;rw[u.out];exact⟨⟨_,rfl,eJ.RP aY PK⟩,aE,aH⟩):=Pq h;exact Kx):=Pq h;exact VQ):=Pq h;exact YA
structure kh (w0:Py)(mb:Nat)(es:PO)(eb:Addr):Prop where
 is:es=.iface 359 (.pointer (some eb))
 qj:w0.cell? (Pn 1 0)=some es
 et:Tv w0
 lt:1<mb
variable {b7:Addr}
def kh.X8 (h:kh U k es b7):ip es:=⟨_,_,h.is⟩
section
variable (h:kh U k es b7)(a:Ms U k M z w g)
include h a
def kh.cell:w.cell? (Pn 1 0)=some (.iface 359 (.pointer (some b7))):=by
 rw[a.below.cell (p:=(Pn 1 0)) h.lt,h.qj,h.is]
def kh.t8:Tv w:=Wh h.et a.below (by have:=h.lt;omega)
end
def RC (W:Py):(binOp .eql 31 RI (.iface 359 (.pointer (some b7)))).run prog W=.ok (PD false) W:=by kernel_rfl
def KJ (W:Py):(binOp .eql 31 (.iface 34 (Ph 7)) (.iface 359 (.pointer (some b7)))).run prog W=.ok (PD false) W:=by kernel_rfl
def KG (a:Nat)(W:Py):(binOp .eql 31 (.iface 122 (PZ a 0)) (.iface 359 (.pointer (some b7)))).run prog W=.ok (PD false) W:=by kernel_rfl
def auB (W:Py):(binOp .eql 31 (.iface 359 (.pointer (some b7))) (.iface 359 (.pointer (some b7)))).run prog W=.ok (PD true) W:=by
 have c:(prog.info? 359).map (·.comparable)=some true:=by kernel_rfl
 obtain⟨e,b,d⟩:=Option.map_eq_some_iff.1 c;obtain⟨f,a⟩:=Option.isSome_iff_exists.1 (show (prog.info? 361).isSome=true by kernel_rfl);exact run_eql_iface_ptr_same W _ underlying31 underlying359 b d a
def Yu.TY {b:PO}{a:Er}{j:Option Va}(h:Yu es w b a)(d:Qj aJ k w w')(i:P9 w aJ j):Yu es w' b a:=by
 cases a with
 |no=>exact h
 |stop=>exact h
 |iZ=>exact h
 |Y3 x=>obtain⟨e,f,c⟩:=h;exact⟨e,f,d.TY i c PK PK⟩
section
variable (a6:kh U k es b7)(ak:Ms U k M z w g){I:Ad}{u:Nd}(aQ:Qc z w I u)
include a6 ak I u aQ
def ZZ (af:u.2.fS.length=1)(A:Pl)(aM:Oc)(bY:Yu es w RI (.no)){c:Option Va}(ba:P9 w aJ c)(ah:YK U k M z es g (Px u 0) A aJ c (X.s (Px u 0) A c g)) :
  PN 202 #[Pm k,Pm I.p,QN A (LA aJ),XD aM,RI] w (QU U k M z es aJ w (V7 X u A aM (.no) c g)):=by
 have b{G}(h:G:=by
 have b{G}(h:G:=by
 have b{G}(h:G:=by
 have b{G}(h:G:=by
 have au:=a6.X8;have bJ:=RC (b7:=b7);have b{G}(h:G:=by
 obtain⟨bA,bF⟩:=xH (V7 X u ⟨B,C,F⟩ ⟨n,⟨o,on,s⟩⟩ (.no) c g);have b{G}(h:G:=by
 refine WY (H:=λwz D p=>SB U k M z es aJ w2 q bb bn bo wz D p) (G:=?GG) (λaT=>?ways) ?rest
 case ways=>
  exact rS
 case rest=>
  have b{G}(h:G:=by
  cases r with
  |true=>
   exact yt
  |false=>
   by_cases aO:bb=.no
   ·subst aO;have d:e=RI:=a.er;subst d;have L:bA=((⟨n,⟨o,on,s⟩⟩,.no,bn),bo):=by rw[bF.out];unfold V7;rw[bI.out];rfl
    have b{G}(h:G:=by
    refine XE (v:=.tuple #[XD ⟨n,⟨o,on,s⟩⟩,RI]) ?_;exact uu):=Pq h;exact xS
   ·exact zl):=Pq h;exact yp):=Pq h;exact vC):=Pq h;exact uB):=Pq h;exact nq):=Pq h;exact yH):=Pq h;exact om):=Pq h;exact rH
def aic (af:u.2.fS.length=1)(A:Pl)(aM:Oc)(bY:Yu es w (.iface 34 (Ph 7)) (.iZ)){c:Option Va}(ba:P9 w aJ c)(ah:YK U k M z es g (Px u 0) A aJ c (X.s (Px u 0) A c g)) :
  PN 202 #[Pm k,Pm I.p,QN A (LA aJ),XD aM,.iface 34 (Ph 7)] w (QU U k M z es aJ w (V7 X u A aM (.iZ) c g)):=by
 have b{G}(h:G:=by
 have b{G}(h:G:=by
 have b{G}(h:G:=by
 have b{G}(h:G:=by
 have au:=a6.X8;have bJ:=KJ (b7:=b7);have b{G}(h:G:=by
 obtain⟨bA,bF⟩:=xH (V7 X u ⟨B,C,F⟩ ⟨n,⟨o,on,s⟩⟩ (.iZ) c g);have b{G}(h:G:=by
 refine WY (H:=λwz D p=>SB U k M z es aJ w2 q bb bn bo wz D p) (G:=?GG) (λaT=>?ways) ?rest
 case ways=>
  exact rS
 case rest=>
  have b{G}(h:G:=by
  cases r with
  |true=>
   exact yt
  |false=>
   by_cases aO:bb=.no
   ·subst aO;have d:e=RI:=a.er;subst d;have L:bA=((⟨n,⟨o,on,s⟩⟩,.iZ,bn),bo):=by rw[bF.out];unfold V7;rw[bI.out];rfl
    have b{G}(h:G:=by
    refine XE (v:=.tuple #[XD ⟨n,⟨o,on,s⟩⟩,.iface 34 (Ph 7)]) ?_;exact uu):=Pq h;exact xS
   ·exact zl):=Pq h;exact yp):=Pq h;exact vC):=Pq h;exact uB):=Pq h;exact nq):=Pq h;exact yH):=Pq h;exact om):=Pq h;exact rH
def Mp (af:u.2.fS.length=1)(A:Pl)(aM:Oc)(bJ:Nat)(x:Va)(bY:Yu es w (.iface 122 (PZ bJ 0)) (.Y3 x)){c:Option Va}(ba:P9 w aJ c)(ah:YK U k M z es g (Px u 0) A aJ c (X.s (Px u 0) A c g)) :
  PN 202 #[Pm k,Pm I.p,QN A (LA aJ),XD aM,.iface 122 (PZ bJ 0)] w (QU U k M z es aJ w (V7 X u A aM (.Y3 x) c g)):=by
 have b{G}(h:G:=by
 have b{G}(h:G:=by
 have b{G}(h:G:=by
 have b{G}(h:G:=by
 have au:=a6.X8;have cT:=KG (a:=bJ) (b7:=b7);have b{G}(h:G:=by
 obtain⟨bA,bF⟩:=xH (V7 X u ⟨B,C,F⟩ ⟨n,⟨o,on,s⟩⟩ (.Y3 x) c g);have b{G}(h:G:=by
 refine WY (H:=λwz D p=>SB U k M z es aJ w2 q bb bn bo wz D p) (G:=?GG) (λaT=>?ways) ?rest
 case ways=>
  exact rS
 case rest=>
  have b{G}(h:G:=by
  cases r with
  |true=>
   exact yt
  |false=>
   by_cases aO:bb=.no
   ·subst aO;have d:e=RI:=a.er;subst d;have L:bA=((⟨n,⟨o,on,s⟩⟩,.Y3 x,bn),bo):=by rw[bF.out];unfold V7;rw[bI.out];rfl
    have b{G}(h:G:=by
    refine XE (v:=.tuple #[XD ⟨n,⟨o,on,s⟩⟩,.iface 122 (PZ bJ 0)]) ?_;exact uu):=Pq h;exact xS
   ·exact zl):=Pq h;exact yp):=Pq h;exact vC):=Pq h;exact uB):=Pq h;exact nq):=Pq h;exact yH):=Pq h;exact om):=Pq h;exact rH
def TH (A:Pl)(aM:Oc){a:Option Va}(p:P9 w aJ a) :
  PN 202 #[Pm k,Pm I.p,QN A (LA aJ),XD aM,.iface 359 (.pointer (some b7))] w (QU U k M z es aJ w (V7 X u A aM .stop a g)):=by
 have b{G}(h:G:=by
 have b{G}(h:G:=by
 have r:b8≠N:=Pv;have O:H≠N:=Pv;have aX:=aQ.kp (Kp.of bq);have br:=ak.fQ bq;have af:=Qj.of (L:=aJ) bq (Qe aW);have ah:=p.fQ bq;have b{G}(h:G:=by
 have ap:=auB (b7:=b7);have q:=a6.cell ak;have al:1<w.heap.size:=f1 q;have S:=a6.cell br;rw[aI] at S;have ae:=Y a6.is;clear q;obtain⟨l,c⟩:=xH (((w.alloc (.cells #[Ph B,Ph C,PD F,.pointer a7] 73)).alloc (.cells #[PD n,Ph o,Ph on,PI s] 67)).alloc (.cells #[PD n,Ph o,Ph on,PI s] 67));have e:PG w l:=by rw[c.out];exact(QK.alloc Qh _).alloc SC _
 have m:l.heap[N]?=some (Qb #[PD n,Ph o,Ph on,PI s] 67):=by
  rw[c.out,bx,show w.heap.size+2=((w.alloc (.cells #[Ph B,Ph C,PD F,.pointer a7] 73)).alloc (.cells #[PD n,Ph o,Ph on,PI s] 67)).heap.size by simp];exact Pz _ _
 have D:=Y m;have i:N=w.heap.size+1+1:=bx;obtain⟨au,d⟩:=xE I.p;obtain⟨ad,f⟩:=xE (V7 X u ⟨B,C,F⟩ ⟨n,⟨o,on,s⟩⟩ .stop a g);rw[<-f,<-d];rw[<-d] at bH;have j:ad=((⟨n,⟨o,on,s⟩⟩,.stop,a),g):=f;have t:=Y j;have L:=Y i;clear E cg cn aI f d bN bG O bW j m bR bx bX i r bP cS bH;go_enter func202,ntmps202;go_wp2_with fail;rw[<-c.out,<-L.out];obtain⟨bf,bh,be,bi,_,_⟩:=fV D.out
 refine XE (v:=.tuple #[XD ⟨n,⟨o,on,s⟩⟩,.iface 359 (.pointer (some b7))]) ?_;rw[t.out];exact⟨⟨_,rfl,ae.out.symm⟩,ak.fQ e,Qj.of e (Qe aW),p.fQ e⟩):=Pq h;exact nq):=Pq h;exact om):=Pq h;exact rH
def anB (j:u.2.fS.length=1)(a:Pl)(c:Oc){e:Er}{b:PO}(d:Yu es w b e){i:Option Va}(f:P9 w aJ i)(l:e≠.stop->YK U k M z es g (Px u 0) a aJ i (X.s (Px u 0) a i g)) :
  PN 202 #[Pm k,Pm I.p,QN a (LA aJ),XD c,b] w (QU U k M z es aJ w (V7 X u a c e i g)):=by
 cases e with
 |no=>obtain rfl:b=.nilIface:=d;exact ZZ a6 ak aQ j a c rfl f (l Qh)
 |stop=>rw[show b=.iface 359 (.pointer (some b7)) from (show b=es from d).trans a6.is];exact TH a6 ak aQ a c f
 |iZ=>obtain rfl:b=.iface 34 (Ph 7):=d;exact aic a6 ak aQ j a c rfl f (l Qh)
 |Y3 x=>obtain⟨m,rfl,h⟩:=d;exact Mp a6 ak aQ j a c m x ⟨m,rfl,h⟩ f (l Qh)
end
def q3 (d:kh U k es b7)(f:Ms U k M z w g)(m:g.steps<=20000) :
  PN 107 #[Pm k] w λc w'=>c=PY (if 20000<g.steps+1 then es else RI)/\Ms U k M z w' g.step/\Qj none k w w':=by
 have i:=d.cell f;obtain⟨cY,cX,cj,ce,b⟩:=f;rw[<-d.is] at i;refine(aqi b.hh m i d.lt).mono ?_;rintro c w' ⟨rfl,t,e⟩;have a:Qv Th k w w':=⟨e.below,λp q c j o=>e.rest p q c j (λh=>o (by rw[gn.1 h];decide))⟩
 obtain⟨r,s,l,n⟩:=b.fu;exact⟨rfl,⟨cY,cX,cj,ce,b.bw.trans a.below,t,Qa b.lg a PK,Qa b.se a PK,Qa b.ow a PK,r,s,Qa l a PK,λu j p o q=>(n u j p o q).kp (Qv.kp a)⟩,Qj.j6 a⟩
section
variable (bm:kh U k es b7)(ak:Ms U k M z w g){I:Ad}{a:Nd}(aQ:Qc z w I a)
include bm ak I a aQ
def R8 (s:g.steps<=20000)(hst1:20000<=g.steps)(o:Pl){c:Option Va}(D:P9 w aJ c) :
  PN 53 #[Pm k,Pm I.p,QN o (LA aJ)] w (QU U k M z es aJ w ((SG,.stop,c),g.step)):=by
 have b{G}(h:G:=by
 have b{G}(h:G:=by
 have b{G}(h:G:=by
 have b{G}(h:G:=by
 have b{G}(h:G:=by
 have bo:=q3 bm br s;rw[fY Pv,bm.is] at bo;have ad:=Y bm.is;have u:=D.fQ aI;obtain⟨aT,q⟩:=xH I.p;rw[<-q.out] at b5 ⊢;clear E a7 b8 bb cg;go_enter func53,jH;have b{G}(h:G:=by
 have r:=bF.trans ay;have A:=u.f2 ay;have aH:=L.lt;obtain⟨aE,ae,af,aK,al,ax,aD,aR,aU⟩:=SA aO.out;go_wp2_with fail;obtain⟨aY,d,p,f,e,bf,bh,be,bi⟩:=kb aO.out a8.out aW (Qj.up (L:=aJ) r) L (PD false) (Ph 0) (Ph 0) (QB);rw[<-d];refine pO (v:=.tuple #[XD SG,.iface 359 (.pointer (some b7))]) ?_;exact⟨⟨_,rfl,ad.out.symm⟩,e,f,A.UJ p⟩):=Pq h;exact mL):=Pq h;exact VQ):=Pq h;exact j9):=Pq h;exact YL):=Pq h;exact jA):=Pq h;exact j2
def QR (s:a.2.kd=7)(f:g.steps<=20000)(hst1:g.steps<20000)(o:Pl){c:Option Va}(r:P9 w aJ c){d:(Oc×Er×Option Va)×St}(e:∀t,Ms U k M z t g.step->Qc z t I a->P9 t aJ c->PN 111 #[Pm k,Pm I.p,QN o (LA aJ)] t (QU U k M z es aJ t d)) :
  PN 53 #[Pm k,Pm I.p,QN o (LA aJ)] w (QU U k M z es aJ w d):=by
 have b{G}(h:G:=by
 have b{G}(h:G:=by
 have b{G}(h:G:=by
 have b{G}(h:G:=by
 have A:=Y E;have b{G}(h:G:=by
 have b{G}(h:G:=by
 have b{G}(h:G:=by
 have q:(a.2.kd:Int)=7:=by rw[s]
 exact tp):=Pq h;exact n1):=Pq h;exact nQ):=Pq h;exact VQ):=Pq h;exact j9):=Pq h;exact YL):=Pq h;exact jA):=Pq h;exact j2
def RR (s:a.2.kd=8)(f:g.steps<=20000)(hst1:g.steps<20000)(o:Pl){c:Option Va}(r:P9 w aJ c){d:(Oc×Er×Option Va)×St}(e:∀t,Ms U k M z t g.step->Qc z t I a->P9 t aJ c->PN 112 #[Pm k,Pm I.p,QN o (LA aJ)] t (QU U k M z es aJ t d)) :
  PN 53 #[Pm k,Pm I.p,QN o (LA aJ)] w (QU U k M z es aJ w d):=by
 have b{G}(h:G:=by
 have b{G}(h:G:=by
 have b{G}(h:G:=by
 have b{G}(h:G:=by
 have A:=Y E;have b{G}(h:G:=by
 have b{G}(h:G:=by
 have b{G}(h:G:=by
 have q:(a.2.kd:Int)=8:=by rw[s]
 exact tp):=Pq h;exact n1):=Pq h;exact nQ):=Pq h;exact VQ):=Pq h;exact j9):=Pq h;exact YL):=Pq h;exact jA):=Pq h;exact j2
def Zs (s:a.2.kd=9)(f:g.steps<=20000)(hst1:g.steps<20000)(o:Pl){c:Option Va}(r:P9 w aJ c){d:(Oc×Er×Option Va)×St}(e:∀t,Ms U k M z t g.step->Qc z t I a->P9 t aJ c->PN 113 #[Pm k,Pm I.p,QN o (LA aJ)] t (QU U k M z es aJ t d)) :
  PN 53 #[Pm k,Pm I.p,QN o (LA aJ)] w (QU U k M z es aJ w d):=by
 have b{G}(h:G:=by
 have b{G}(h:G:=by
 have b{G}(h:G:=by
 have b{G}(h:G:=by
 have A:=Y E;have b{G}(h:G:=by
 have b{G}(h:G:=by
 have b{G}(h:G:=by
 have q:(a.2.kd:Int)=9:=by rw[s]
 exact tp):=Pq h;exact n1):=Pq h;exact nQ):=Pq h;exact VQ):=Pq h;exact j9):=Pq h;exact YL):=Pq h;exact jA):=Pq h;exact j2
def aeI (s:a.2.kd=12)(f:g.steps<=20000)(hst1:g.steps<20000)(o:Pl){c:Option Va}(r:P9 w aJ c){d:(Oc×Er×Option Va)×St}(e:∀t,Ms U k M z t g.step->Qc z t I a->P9 t aJ c->PN 116 #[Pm k,Pm I.p,QN o (LA aJ)] t (QU U k M z es aJ t d)) :
  PN 53 #[Pm k,Pm I.p,QN o (LA aJ)] w (QU U k M z es aJ w d):=by
 have b{G}(h:G:=by
 have b{G}(h:G:=by
 have b{G}(h:G:=by
 have b{G}(h:G:=by
 have A:=Y E;have b{G}(h:G:=by
 have b{G}(h:G:=by
 have b{G}(h:G:=by
 have q:(a.2.kd:Int)=12:=by rw[s]
 exact tp):=Pq h;exact n1):=Pq h;exact nQ):=Pq h;exact VQ):=Pq h;exact j9):=Pq h;exact YL):=Pq h;exact jA):=Pq h;exact j2
def Z5 (d:a.2.kd=2)(f:g.steps<=20000)(hst1:g.steps<20000)(o:Pl){c:Option Va}(r:P9 w aJ c){s:Er}{A:Option Va}{ae:St}(e:∀t,Ms U k M z t g.step->Qc z t I a->P9 t aJ c->PN 108 #[Pm k,Pm I.p,QN o (LA aJ)] t (n2 U k M z es aJ t ((s,A),ae))) :
  PN 53 #[Pm k,Pm I.p,QN o (LA aJ)] w (QU U k M z es aJ w ((SG,s,A),ae)):=by
 have b{G}(h:G:=by
 have b{G}(h:G:=by
 have b{G}(h:G:=by
 have b{G}(h:G:=by
 have p:=Y E;have b{G}(h:G:=by
 have b{G}(h:G:=by
 have b{G}(h:G:=by
 have q:(a.2.kd:Int)=2:=by rw[d]
 exact qu):=Pq h;exact n1):=Pq h;exact nQ):=Pq h;exact VQ):=Pq h;exact j9):=Pq h;exact YL):=Pq h;exact jA):=Pq h;exact j2
def We (d:a.2.kd=3)(f:g.steps<=20000)(hst1:g.steps<20000)(o:Pl){c:Option Va}(r:P9 w aJ c){s:Er}{A:Option Va}{ae:St}(e:∀t,Ms U k M z t g.step->Qc z t I a->P9 t aJ c->PN 109 #[Pm k,Pm I.p,QN o (LA aJ)] t (n2 U k M z es aJ t ((s,A),ae))) :
  PN 53 #[Pm k,Pm I.p,QN o (LA aJ)] w (QU U k M z es aJ w ((SG,s,A),ae)):=by
 have b{G}(h:G:=by
 have b{G}(h:G:=by
 have b{G}(h:G:=by
 have b{G}(h:G:=by
 have p:=Y E;have b{G}(h:G:=by
 have b{G}(h:G:=by
 have b{G}(h:G:=by
 have q:(a.2.kd:Int)=3:=by rw[d]
 exact qu):=Pq h;exact n1):=Pq h;exact nQ):=Pq h;exact VQ):=Pq h;exact j9):=Pq h;exact YL):=Pq h;exact jA):=Pq h;exact j2
def acz (d:a.2.kd=4)(f:g.steps<=20000)(hst1:g.steps<20000)(o:Pl){c:Option Va}(r:P9 w aJ c){s:Er}{A:Option Va}{ae:St}(e:∀t,Ms U k M z t g.step->Qc z t I a->P9 t aJ c->PN 109 #[Pm k,Pm I.p,QN o (LA aJ)] t (n2 U k M z es aJ t ((s,A),ae))) :
  PN 53 #[Pm k,Pm I.p,QN o (LA aJ)] w (QU U k M z es aJ w ((SG,s,A),ae)):=by
 have b{G}(h:G:=by
 have b{G}(h:G:=by
 have b{G}(h:G:=by
 have b{G}(h:G:=by
 have p:=Y E;have b{G}(h:G:=by
 have b{G}(h:G:=by
 have b{G}(h:G:=by
 have q:(a.2.kd:Int)=4:=by rw[d]
 exact qu):=Pq h;exact n1):=Pq h;exact nQ):=Pq h;exact VQ):=Pq h;exact j9):=Pq h;exact YL):=Pq h;exact jA):=Pq h;exact j2
def S7 (d:a.2.kd=11)(f:g.steps<=20000)(hst1:g.steps<20000)(o:Pl){c:Option Va}(r:P9 w aJ c){s:Er}{A:Option Va}{ae:St}(e:∀t,Ms U k M z t g.step->Qc z t I a->P9 t aJ c->PN 115 #[Pm k,Pm I.p,QN o (LA aJ)] t (n2 U k M z es aJ t ((s,A),ae))) :
  PN 53 #[Pm k,Pm I.p,QN o (LA aJ)] w (QU U k M z es aJ w ((SG,s,A),ae)):=by
 have b{G}(h:G:=by
 have b{G}(h:G:=by
 have b{G}(h:G:=by
 have b{G}(h:G:=by
 have p:=Y E;have b{G}(h:G:=by
 have b{G}(h:G:=by
 have b{G}(h:G:=by
 have q:(a.2.kd:Int)=11:=by rw[d]
 exact qu):=Pq h;exact n1):=Pq h;exact nQ):=Pq h;exact VQ):=Pq h;exact j9):=Pq h;exact YL):=Pq h;exact jA):=Pq h;exact j2
def adD (d:a.2.kd=15)(f:g.steps<=20000)(hst1:g.steps<20000)(o:Pl){c:Option Va}(r:P9 w aJ c){s:Er}{A:Option Va}{ae:St}(e:∀t,Ms U k M z t g.step->Qc z t I a->P9 t aJ c->PN 117 #[Pm k,Pm I.p,QN o (LA aJ)] t (n2 U k M z es aJ t ((s,A),ae))) :
  PN 53 #[Pm k,Pm I.p,QN o (LA aJ)] w (QU U k M z es aJ w ((SG,s,A),ae)):=by
 have b{G}(h:G:=by
 have b{G}(h:G:=by
 have b{G}(h:G:=by
 have b{G}(h:G:=by
 have p:=Y E;have b{G}(h:G:=by
 have b{G}(h:G:=by
 have b{G}(h:G:=by
 have q:(a.2.kd:Int)=15:=by rw[d]
 exact qu):=Pq h;exact n1):=Pq h;exact nQ):=Pq h;exact VQ):=Pq h;exact j9):=Pq h;exact YL):=Pq h;exact jA):=Pq h;exact j2
def Z7 (A:a.2.kd≠2/\a.2.kd≠3/\a.2.kd≠4/\a.2.kd≠6/\a.2.kd≠7/\a.2.kd≠8/\a.2.kd≠9/\a.2.kd≠10/\a.2.kd≠11/\a.2.kd≠12/\a.2.kd≠15)(bS:g.steps<=20000)(hst1:g.steps<20000)(o:Pl){c:Option Va}(ba:P9 w aJ c) :
  PN 53 #[Pm k,Pm I.p,QN o (LA aJ)] w (QU U k M z es aJ w ((SG,.no,c),g.step)):=by
 have b{G}(h:G:=by
 have b{G}(h:G:=by
 have b{G}(h:G:=by
 have b{G}(h:G:=by
 have b{G}(h:G:=by
 have b{G}(h:G:=by
 obtain⟨D,ad,ae,e,af,ax,aD,aH,f,p,q⟩:=A;obtain⟨aK,d⟩:=xH a.2.kd;rw[<-d.out] at D ad ae e af ax aD aH f p q;clear E a7 b8 bb cg;go_enter func53,jH;have b{G}(h:G:=by
 have b{G}(h:G:=by
 rw[<-bI.out] at bE aE;rw[<-d.out] at aE;obtain⟨u0,u1,u2,u3,aR,aT,bA,bH,bD⟩:=SA aO.out;go_wp2_with fail;obtain⟨aY,a1,u,s,r,bf,bh,be,bi⟩:=kb aO.out a8.out aW (Qj.up (L:=aJ) bJ) L (PD false) (Ph 0) (Ph 0) (QB);refine r0 ?_;exact⟨⟨_,rfl,rfl⟩,r,s,bn.UJ u⟩):=Pq h;exact qM):=Pq h;exact mL):=Pq h;exact uR):=Pq h;exact VQ):=Pq h;exact j9):=Pq h;exact YL):=Pq h;exact jA):=Pq h;exact j2
end
section
open Go.RowKit Go.Extern.Stop Go.Stop Go.Extern
def KZ {w:Py}{a:Nat}{e:TypeId}{b f:PO}(c d:Obj)(i:w.heap[a]?=some (Qb #[f] e))(j:w.cell? (Pn a 0)=some f)(l:a<w.heap.size) :
  (((w.setCell (Pn a 0) b).alloc c).alloc d).heap[a]?=some (Qb #[b] e)/\Below a w (((w.setCell (Pn a 0) b).alloc c).alloc d):=
 ⟨f8 (f8 (hs w a 0 _ e b i)),(KC c d j l).2⟩
def as5 (c:Nat)(a b:Nat)(w:Py)(n:w.heap[a]?=some (Qb #[Rz] 122))(e:w.cell? (Pn a 0)=some Rz)(j:w.frozen? (Pn a 0)=false)(l:w.cell? (Pn b 0)=some (PZ a 0))(f:a<w.heap.size)(i:b<w.heap.size) :
  PN 65 #[.iface 122 (PZ c 0),.iface 123 (PZ a 0),.agg #[PZ 13 123,PZ b 0,.int .u64 150],.iface 215 (.agg #[PZ 13 122])] w λm w'=>
   m=PY (PD true)/\w'.heap[a]?=some (Qb #[PZ c 0] 122)/\Below a w w':=by
 have d{G}(h:G:=by
 have o:=R9.Ra;have p:=R9.PM;have q:=R9.Nf;have r:=R9.XS (Pn b 0) (Pn a 0) (w.alloc (.cells #[PZ 13 123,PZ b 0,.int .u64 150] 130)) (by rw[g9 _ _ _ i];exact l)
 have s:=R9.Tp (Pn a 0) (Pn (w.heap.size+1) 0) (Pn c 0) Rz ((w.alloc (.cells #[PZ 13 123,PZ b 0,.int .u64 150] 130)).alloc (.cells #[PZ c 0] 122))
  (by rw[iC _ _ _ _ Qh];rfl) (by rw[g9 _ _ _ SC,g9 _ _ _ f];exact e) (by rw[jO _ _ _ SC,jO _ _ _ SC];exact j)
 go_enter func65,ntmps65
 go_wp2
 refine lJ 1 ?_;rw[lv]
 go_wp2
 go_ret;exact⟨rfl,KZ _ _ n e f⟩):=Pq h;exact si
def F5 (s:Nat)(a:Nat)(w:Py)(B:w.heap[a]?=some (Qb #[Rz] 122))(u:w.cell? (Pn a 0)=some Rz)(r:w.frozen? (Pn a 0)=false)(l:a<w.heap.size)(o:w.cell? (Pn 0 0)=some (.iface 215 (.agg #[PZ 13 31]))) :
  PN 32 #[.iface 122 (PZ s 0),.iface 123 (PZ a 0)] w λq w'=>q=PY (PD true)/\w'.heap[a]?=some (Qb #[PZ s 0] 122)/\Below a w w':=by
 have e{G}(h:G:=by
 have A:b.heap[a]?=some (Qb #[Rz] 122):=by rw[d];exact f8 (f8 B)
 have e{G}(h:G:=by
 have c:Hid _:=as5 s a w.heap.size b A n f j Pv Pv;rw[d] at c m;clear v f n A B j d b;exact J2):=Pq h;exact uO):=Pq h;exact wL
end
section
variable {c:Pl}{d:Int}{b:Nd}{e:List Nd}{f:Va}
include c d b e f
def aun {a:St}(h:X.v (Px b 0) c g=((f,.no),a)):k3 X c d (b::e) g=k3 X c d e (a.Ru d b.2.tx f false):=by rw[k3,h]
def OX {a:Er}{i:St}(h:X.v (Px b 0) c g=((f,a),i))(j:a≠.no):k3 X c d (b::e) g=((vU,a),i):=by
 rw[k3,h];exact vm
end
def K6 (au:ip es)(ak:Ms U k M z w g)(dD:Sz bv g)(da:bv<1000000000){I:Ad}{a6:Nd}(aQ:Qc z w I a6)(dS:a6.2.fS.length<=1000000)(ah:∀i ∈ QA a6,i.2.fS.length=1)(c:Pl)(n:Option Addr)(P:St->Prop)(hP:P { g with M:=g.M.Qo 0 })(cp:∀i ∈ QA a6,∀a,P a->UH U k M z es a (Px i 0) c (X.v (Px i 0) c a)/\∀v A,X.v (Px i 0) c a=((v,.no),A)->Sz bv A/\P (A.Ru g.M.objs.length i.2.tx v false)) :
  PN 266 #[Pm k,Pm I.p,QN c n] w (Qg U k M z es w (k3 X c g.M.objs.length (QA a6) { g with M:=g.M.Qo 0 })):=by
 have b{G}(h:G:=by
 have bJ:=Y E;have bE:=Y (fV E);have b{G}(h:G:=by
 obtain⟨el,cL⟩:=xH I.p;obtain⟨o,bU⟩:=xE ((g.M.objs.length:Int):Int);obtain⟨cB,bX⟩:=xE ({ g with M:=g.M.Qo 0 }:St);obtain⟨L,bo⟩:=xH (QA a6);obtain⟨u,bI⟩:=xH I.ks;have dc:u.length=L.length:=by rw[bI.out,bo.out,aQ.ks,Tz]
 rw[<-bU,<-bX,<-bo.out];rw[<-bU,<-bo.out] at cp;rw[<-bX] at hP;rw[<-bo.out] at ah;obtain⟨cG,cT⟩:=xH (k3 X ⟨F,B,C⟩ o L cB);rw[<-cT.out];have dY:PN 49 #[Pm k,Ph 0] w2 λj w'=>j=PY (Ph o)/\Ms U k M z w' cB/\Qv Th k w2 w':=by
  obtain⟨_,_,_,_,cg⟩:=br;refine(ve cg dD da 0).mono ?_;rintro j w' ⟨rfl,aL,bZ⟩;rw[bU,bX];exact⟨rfl,⟨_,_,_,_,aL⟩,bZ⟩
 have d0:=Y hP;have dE:=Y cp;have d4:=Y ah;have di:=Y dc;have d6:u.length<=1000000:=by rw[bI.out,aQ.ks];exact dS
 rw[<-cL.out] at b5 ⊢;clear E a7 bD bb bH hP cp ah bU bX dc;go_enter func266,ntmps266;go_wp2_with fail;refine iJ ?_;clear bx bq;refine cm dY ?_;rintro j cK ⟨rfl,cR,dO⟩;have dP:=cR.lt;have bY:Qj none k w2 cK:=Qj.j6 dO;have dH:=Y (bY.f2 bG.out PK);have dJ:=Y (bY.f2 bJ.out PK);have dG:=bF.trans bY;have dm:=aX.kp bY.Ve;obtain⟨en,cq,cw,d2⟩:=Rl.row dm.at_;obtain⟨ea,ee,dC⟩:=cw.form;subst dC;rw[<-cL.out] at cq d2;rw[<-bI.out] at cq cw;have cS:=dm.l8
 rw[<-bI.out,<-bo.out] at cS;go_wp2_with fail;clear cq
 go_loopw [22] (λl wr=>∃(i:Nat)(aO:St),i<=u.length/\l=Ph i/\Ms U k M z wr aO/\P aO/\Qj none k cK wr/\cG=k3 X ⟨F,B,C⟩ o (L.drop i) aO) (λl _=>u.length - (intOf l).toNat)
 case atStart=>exact⟨0,cB,ge _,rfl,cR,d0.out,Qj.of RV (Qe dP),cT.out⟩
 case round=>
  obtain⟨i,aO,af,rfl,ak,df,ap,dd⟩:=hrel;have cZ:=ak;have dU:=Y df;have cx:=Y dd;have bP:=ak.lt;have dj:=dG.trans ap;have dx:=ap;have bG:=Y (ap.f2 dH.out PK);have bJ:=Y (ap.f2 dJ.out PK);have bE:=Y (fV bJ.out);have fc:=fR bJ.out;clear df dd
  by_cases b8:i<u.length
  ·have cP:i<L.length:=by rw[<-di.out];exact b8
   obtain⟨eg,ec,s,ei,cH,d7⟩:=(cw.kp ap.Ve).cell i b8;have b{G}(h:G:=by
   have dN:(i:Int)<(u.length:Int):=Pv;have bW:=(U7.get _ _ cS i b8 cP).kp ap.Ve;obtain⟨ae,db⟩:=Pj dE L[i] (gU _) aO dU.out;have dR:=Pj d4 L[i] (gU _);obtain⟨de,cC,ed,bR,bK,dQ,_⟩:=bW.Zm (a:=0) Pv;rw[dR] at bR;have ax:=Y (λt (f:PG wr t)=>ae t de n (cZ.fQ f) (dQ.kp (Kp.of f)));obtain⟨H,dh⟩:=xE ((u[i]).p);obtain⟨ek,cQ⟩:=xE de.p;obtain⟨b2,cy⟩:=xH ((L[i]).2.tx);have dz:=bW.cells.1;have bS:=bW.cells.2.2.1;have cr:=bW.gG
   rw[<-dh] at cH bR dz bS cr;rw[<-cy.out] at bS;rw[<-cQ] at bK ax
   rcases al:X.v (Px L[i] 0) ⟨F,B,C⟩ aO with ⟨⟨e,ci⟩,A⟩
   rw[al] at ax;have dW:=Y db;have bn:=Y al;have dg:=Y (h7 cP);have cE:=Y bR;have cU:=Y bK;have dX:=Y bS;have dV:=Y cr;have ef:=f1 bK;have bb:w.heap.size<=N:=Pj a8;clear db dh cQ al bR bK bS cr;go_wp2_with fail;clear cH;refine WY (H:=λwz D p=>VB U k M z es wr e ci A wz D p) (G:=?GG) (λaT=>?ways) ?rest
   case ways=>
    refine UG 8 λa=>?_;refine up 0 k 0 a ?_;refine up 1 H 0 a ?_;refine up 2 H 0 a ?_;refine up 3 H 3 a ?_;refine rT ?_;refine jZ 8 12 (λK d=>?_) λK d=>?_
    ·go_simp;refine mp ?_;have b{G}(h:G:=by
     refine o3 ?_;refine VH 12 ?_;refine VH 13 ?_;refine uz 14 p ?_;exact IM):=Pq h;exact kW
    ·go_simp;refine kS ?_;clear d K;refine QX 8 λK d=>?_;go_simp;refine oi ?_;have b{G}(h:G:=by
     have b{G}(h:G:=by
     have ae:=VB.early (v:=e) cn Qq (Qe bP) aK ak ((Qj.of (QK.drew) (Qe bP)).trans ap);exact Dd):=Pq h;exact A1):=Pq h;exact kW
   case rest=>
    have b{G}(h:G:=by
    have b1:Qj none k w wz:=dj.trans q.fr;clear cA
    by_cases ay:ci=.no
    ·subst ay;have aK:p=RI:=q.er;subst aK;obtain⟨bL,aR⟩:=Pj dW e A bn.out;rw[<-cy.out] at aR;have bN:=Y aR;have dT:=q.ms;have dF:=Y (f7 q.v);have ej:=fR q.v;have ba:=Y (q.fr.Ve.YV dX.out dV.out);have eh:=f1 ba.out;have be:=dx.trans q.fr;have d1:Hid (∀t,PG wz t->PN 56 #[Pm k,Ph o,PI b2,vA e,PD false] t λj w'=>(∃m,j=PY (Vg m))/\Ms U k M z w' (A.Ru o b2 e false)/\Qv Th k t w'):=λt f=>by
      obtain⟨_,_,_,_,cg⟩:=dT.fQ f;refine(Z4 cg bL da o b2 e false).mono ?_;rintro j w' ⟨rfl,aL,bZ⟩;exact⟨⟨_,rfl⟩,⟨_,_,_,_,aL⟩,bZ⟩
     clear aR du cn dp dq dr dt d5;go_wp2_with fail;refine UG 9 λa=>?_;refine iF ?_;refine uh 3 (Ph o) (a) ?_;refine up 4 H 0 a ?_;refine up 5 H 0 a ?_;refine up 6 H 1 a ?_;refine uk 7 ba.out a ?_;refine jY 8 dF.out a ?_;refine QX 9 λK d=>?_;go_simp;refine cm (Pj d1 _ a) ?_;rintro j d8 ⟨⟨d9,rfl⟩,d3,dZ⟩;refine ko d ?_;clear d K;have dK:=be.trans ((Qj.of (L:=none) a (Qe dv)).trans (Qj.j6 dZ));refine Ud ?_ _;go_simp;go_wp2
     go_roundw
     case rel=>
      refine⟨i+1,A.Ru o b2 e false,by omega,by go_num,d3,bN.out,dK,?_⟩;rw[cx.out,dg.out,aun bn.out,<-cy.out]
     case measure=>simp[intOf];omega
    ·obtain⟨bL,bN,aK⟩:=q.er.X8 ay au;subst aK;have bm:cG=((vU,ci),A):=by rw[cx.out,dg.out];exact OX bn.out ay
     have be:=Y bm;clear ay bm;exact sF):=Pq h;exact Fq):=Pq h;exact Vt
  ·have d:i=u.length:=Pv;have bm:cG=((UU o,.no),aO):=by rw[cx.out,d,di.out,lS];rfl
   have f:=Y bm;have dN:¬ (i:Int)<(u.length:Int):=Pv;obtain⟨H,al⟩:=xE (UU o);have e:=tQ o wr;rw[<-al] at e;clear bm d;go_wp2_with fail;refine cm e ?_;rintro j r ⟨rfl,a⟩;have ay:=Y (fZ a bG.out);have bS:=cZ.fQ a;have bR:=dj.trans (Qj.of (L:=none) a (Qe bP));have bn:=Y al;obtain⟨q,m,p,s,D,O,ad⟩:=Ql ay.out;clear al;have b{G}(h:G:=by
   rw[f.out,<-bn.out];exact⟨⟨_,rfl,rfl⟩,aE,aH⟩):=Pq h;exact n5):=Pq h;exact VQ):=Pq h;exact YA
def pm (X:Fx)(c:Nd)(d:Pl)(g:St):(Va×Er)×St:=match UW X (Px c 0) d g with
 |((e,.no),a)=>let b:=a.M.cut e c.2.tx;if !b.1&&d.f3 then ((vU,ga gJ),{ a with M:=b.2 }) else ((Ri b.1,.no),{ a with M:=b.2 })
 |((_,b),a)=>((vU,b),a)
section
variable (au:ip es)(ak:Ms U k M z w g){I:Ad}{A:Nd}(aQ:Qc z w I A)(af:A.2.fS.length=1)(c:Pl)(n:Option Addr)(ah:UH U k M z es g (Px A 0) c (X.v (Px A 0) c g))(cw:∀aM o,UW X (Px A 0) c g=((aM,.no),o)->Sz bv o)(cr:bv<1000000000)
include au ak I A aQ af c n ah cw cr
def ap6 :
  PN 264 #[Pm k,Pm I.p,QN c n] w (Qg U k M z es w (pb X A c g)):=by
 have b{G}(h:G:=by
 have bE:=Y (fV E);have b{G}(h:G:=by
 have b{G}(h:G:=by
 have ax:=Y (λt (f:PG w2 t)=>xa au (br.fQ f) (cP.kp (Kp.of f)) ⟨F,B,C⟩ n ah);obtain⟨b1,bI⟩:=xH (pb X A ⟨F,B,C⟩ g);have b{G}(h:G:=by
 go_enter func264,ntmps264;have b{G}(h:G:=by
 have bJ:=bF.trans D;have cq:=aX.kp D.Ve;have bS:=L.lt;obtain⟨cB,b8,cg,cn,cx,cy,cG⟩:=Ql aO.out
 by_cases s:u=.no
 ·have b{G}(h:G:=by
  obtain⟨r,bR⟩:=xE (((o.M.gQ q ae).map Pr.v).getD vU);have b6:qy (o.M.gQ q ae)=vA r:=by
   rw[bR]
   cases o.M.gQ q ae <;> rfl
  obtain⟨H,bZ⟩:=xE ((o.M.gQ q ae).isSome);have bY:Hid (∀t,PG wz t->PN 124 #[Pm k,Ph q,PI ae] t λj w'=>j=PY (.tuple #[vA r,PD H])/\PG t w'):=λt f=>by
   obtain⟨_,_,_,_,ay⟩:=L.fQ f;have h:=L9 ay.hh cp.go.sm (Qe cr) q ae;rw[b6,<-bZ] at h;exact h
  have e:b1=((r,.no),o):=by rw[bI.out];unfold pb;rw[bQ.out,bR,bN]
  have ci:=Y e;clear bL bN bR b6 bZ e;go_simp;go_wp2_with fail;refine WY (H:=λbe bm p=>VB U k M z es wz r .no o be bm RI/\p=PD H) (G:=?GG) (λbW=>?ways) ?rest
  case ways=>
   refine UG 8 λa=>?_;refine iF ?_;refine uh 3 (Ph q) (a) ?_;refine sG ?_;refine jZ 8 12 (λK d=>?_) λK d=>?_
   ·go_simp;refine cm (Pj bY _ a) ?_;rintro j ay ⟨rfl,bK⟩;refine ko d ?_;clear d K;have aK:Yu es ay RI .no:=rfl;have ak:=(L.fQ (a)).fQ bK;have ap:=Qj.of (L:=none) (B:=k) bK (Qe (Ms.lt (L.fQ (a))));refine uz 9 (.tuple #[(vA r),PD H]) ?_;refine uz 10 (vA r) ?_;refine uz 11 (PD H) ?_;refine VH 12 ?_;refine VH 13 ?_;refine uz 14 (PD H) ?_;refine Ud ?_ _;go_simp;have aT:=VB.late (v:=r) aK ak ((Qj.of a (Qe bS)).trans ap)
    generalize ay.alloc (.cells #[Ph r.k,Ph r.n,PI r.s] 65)=be at aT ⊢
    generalize ay.heap.size=bm at aT ⊢
    generalize aR:Value.bool H=p
    exact bW be bm p ⟨aT,aR.symm⟩
   ·go_simp;refine kS ?_;clear d K;refine QX 8 λK d=>?_;go_simp;refine cm (Pj bY _ (QK.drew)) ?_;rintro j ay ⟨rfl,bK⟩;refine ko d ?_;clear d K;have aK:Yu es ay RI .no:=rfl;have ak:=(L.fQ (QK.drew)).fQ bK;have ap:=Qj.of (L:=none) (B:=k) bK (Qe (Ms.lt (L.fQ (QK.drew))));have bX:ay.heap[wz.heap.size]?=some (Qb #[Ph 0,Ph 0,QB] 65):=ap.f2 (Pz _ _) PK;obtain⟨cS,cH,cT,cK,cL,cR,cZ⟩:=Ql bX;refine uz 9 (.tuple #[(vA r),PD H]) ?_;refine uz 10 (vA r) ?_;refine uz 11 (PD H) ?_;refine VH 13 ?_
    refine uz 14 (PD H) ?_;refine Ud ?_ _;go_simp;have aT:=VB.early (v:=r) bX Qq (Qe bS) aK ak ((Qj.of (QK.drew) (Qe bS)).trans ap)
    generalize ((ay.setCell (Pn wz.heap.size 0) (Ph r.k)).setCell (Pn wz.heap.size 1) (Ph r.n)).setCell (Pn wz.heap.size 2) (PI r.s)=be at aT ⊢
    generalize wz.heap.size=bm at aT ⊢
    generalize aR:Value.bool H=p
    exact bW be bm p ⟨aT,aR.symm⟩
  case rest=>
   rintro be bm p ⟨ay,rfl⟩;have aT:=Y (ay.fr.f2 aO.out PK);have bX:=bJ.trans ay.fr;have bK:=ay.ms;have cK:=ay.ms.lt;obtain⟨df,cT,dg,da,cH,dh,cZ⟩:=Ql aT.out;obtain⟨cS,cL,cR,dc,dd,de,db⟩:=Ql (ay.v);clear cB b8 cg cn cx cy cG;go_wp2_with fail;obtain⟨bh,a1,aY,aH,aE,bA,bf,bi⟩:=i1 aT.out a8.out aW bX bK (Ph r.k) (Ph r.n) (PI r.s);rw[<-a1];refine YJ (v:=.tuple #[vA r,RI]) ?_;rw[ci.out];exact⟨⟨_,rfl,rfl⟩,aE,aH⟩):=Pq h;exact Es
 ·obtain⟨bL,bN,aR⟩:=aK.X8 s au;subst aR;have e:b1=((vU,u),o):=by
   rw[bI.out];unfold pb;rw[bQ.out];exact kc
  exact JY):=Pq h;exact wy):=Pq h;exact JM):=Pq h;exact nr):=Pq h;exact VQ):=Pq h;exact YA
def O3 :
  PN 298 #[Pm k,Pm I.p,QN c n] w (Qg U k M z es w (pm X A c g)):=by
 have b{G}(h:G:=by
 have dg:=Y E;have bE:=Y (fV E);have b{G}(h:G:=by
 have b{G}(h:G:=by
 have ax:=Y (λt (f:PG w2 t)=>xa au (br.fQ f) (cP.kp (Kp.of f)) ⟨F,B,C⟩ n ah);obtain⟨bm,bI⟩:=xH (pm X A ⟨F,B,C⟩ g);have b{G}(h:G:=by
 go_enter func298,ntmps298;have b{G}(h:G:=by
 have du:=Y (D.f2 dg.out PK);have bJ:=bF.trans D;have cq:=aX.kp D.Ve;have dv:=L.lt;obtain⟨dt,df,dh,di,dj,dr,dz⟩:=Ql aO.out
 by_cases s:u=.no
 ·have b{G}(h:G:=by
  obtain⟨r,bY⟩:=xE ((o.M.cut q ae).1);obtain⟨aT,bK⟩:=xE ({ o with M:=(o.M.cut q ae).2 }:St);have dx:Hid (∀t,PG wz t->PN 315 #[Pm k,Ph q,PI ae] t λj w'=>j=PY (PD r)/\Ms U k M z w' aT/\Qv Th k t w'):=λt f=>by
   obtain⟨_,_,_,_,bW⟩:=L.fQ f;refine(Cs bW.hh cp.go.ok cp.go.sm (Qe cr) q ae).mono ?_;rintro j w' ⟨rfl,aL,bZ⟩;rw[bK,bY];exact⟨rfl,⟨_,_,_,_,bW.heap aL bZ⟩,bZ⟩
  have e:bm=if !r&&C then ((vU,ga gJ),aT) else ((Ri r,.no),aT):=by rw[bI.out];unfold pm;rw[bQ.out,bK,bY,bN]
  have cH:=Y e;clear bL bN bK bY e;go_simp;go_wp2_with fail;refine UG 8 λa=>?_;refine iF ?_;refine uh 3 (Ph q) (a) ?_;refine sG ?_;refine QX 8 λK d=>?_;go_simp;refine cm (Pj dx _ a) ?_;rintro j cx ⟨rfl,b1,de⟩;refine ko d ?_;clear d K;have bX:=(Qj.of (L:=none) a (Qe dv)).trans (Qj.j6 de);have b8:=Y (bX.f2 aO.out PK);have cR:=bJ.trans bX;obtain⟨cB,dd,cK,cG,_,cL⟩:=fV (bX.f2 du.out PK);have b6:=b1.lt;obtain⟨da,cS,db,cZ,cy,dc,cT⟩:=Ql b8.out
  clear dt df dh di dj dr dz;refine uz 9 (PD r) ?_;refine Ud ?_ _;go_simp
  cases r with
  |true=>
   go_wp2_with fail;obtain⟨H,be⟩:=xE (Ri true);have cg:=WX true cx;exact GD
  |false=>
   cases C with
   |true=>
    go_wp2_with fail;refine cm (VI (es:=es) b6 gJ) ?_;rintro j dP ⟨⟨p,rfl,aK⟩,bW⟩;have cn:=Y (fZ bW b8.out);have dp:=b1.fQ bW;have dm:=cR.trans (Qj.of (L:=none) bW (Qe b6));obtain⟨dE,dC,dD,dF,dG,dH,dJ⟩:=Ql cn.out;clear da cS db cZ cy dc cT cB dd cK cG cL;have b{G}(h:G:=by
    have e:bm=((vU,ga gJ),aT):=by rw[cH.out];rfl
    rw[e];exact⟨⟨_,rfl,aK.RP aY PK⟩,aE,aH⟩):=Pq h;exact sN
   |false=>
    go_wp2_with fail;obtain⟨H,be⟩:=xE (Ri false);have cg:=WX false cx;exact GD):=Pq h;exact Es
 ·obtain⟨bL,bN,aR⟩:=aK.X8 s au;subst aR;have e:bm=((vU,u),o):=by
   rw[bI.out];unfold pm;rw[bQ.out];exact kc
  exact JY):=Pq h;exact wy):=Pq h;exact JM):=Pq h;exact nr):=Pq h;exact VQ):=Pq h;exact YA
end
def Mw (ae:Ms U k M z w g)(v:Va):PN 296 #[Pm k,vA v] w λj w'=>j=PY (PI (WE g.M v))/\PG w w':=by
 obtain⟨_,_,_,_,A⟩:=ae;have ap:=A.lt;have H:=(gi w.heap.size w).alloc Qq (.cells #[Ph v.k,Ph v.n,PI v.s] 65);obtain⟨i,bB,c⟩:=v
 by_cases s:i=0
 ·subst s;have b:WE g.M ⟨0,bB,c⟩=Tt:=rfl;exact qN
 by_cases p:i=2
 ·subst p;have b:WE g.M ⟨2,bB,c⟩=Hv:=rfl;exact qN
 by_cases r:i=3
 ·subst r;have b:WE g.M ⟨3,bB,c⟩=zV:=rfl;exact qN
 by_cases u:i=4
 ·subst u;have b:WE g.M ⟨4,bB,c⟩=Kq:=rfl;exact qN
 by_cases F:i=5
 ·subst F;obtain⟨m,n⟩:=xE (g.M.gA bB);obtain⟨w2,D⟩:=xH (w.alloc (.cells #[Ph 5,Ph bB,PI c] 65));have e:PG w w2:=by rw[D.out];exact H
  obtain⟨N,C⟩:=xE w.heap.size;have q:w2.heap[N]?=some (Qb #[Ph 5,Ph bB,PI c] 65):=by rw[D.out,C];exact Pz _ _
  have al:=Y (f7 q);have ay:=fR q;have E:=Y (λt (f:PG w2 t)=>y4 ((A.fQ e).fQ f).hh bB);rw[<-n] at E;have ax:=(A.fQ e).lt
  by_cases o:m=0
  ·have b:WE g.M ⟨5,bB,c⟩=ZF:=by unfold WE;rw[<-n,o];rfl
   rw[b];rw[o] at E;clear b n o s p r u q;have R{G}(h:G:=by
   refine uz 6 (PD false) ?_;refine Ud ?_ _;have B:=e.trans (a.mono e.size);go_simp;go_wp2;go_ret;exact⟨rfl,B⟩):=Pq h;exact FT
  ·have b:WE g.M ⟨5,bB,c⟩=QY:=by unfold WE;rw[<-n];simp[o]
   rw[b];clear b n s p r u q;have R{G}(h:G:=by
   refine uz 6 (PD true) ?_;refine Ud ?_ _;have B:=e.trans (a.mono e.size);go_simp;go_wp2;go_ret;exact⟨rfl,B⟩):=Pq h;exact FT
 have b:WE g.M ⟨i,bB,c⟩=ZF:=by unfold WE;simp[s,p,r,u,F]
 exact qN
def nh (X:Fx)(b:Nd)(c:Pl)(g:St):(Va×Er)×St:=
 if (Px b 0).2.kd=23/\g.M.find c.scope (Px b 0).2.tx = -1 then ((Xx Tt,.no),g)
 else match X.v (Px b 0) c g with
  |((d,.no),a)=>((Xx (WE a.M d),.no),a)
  |((_,d),a)=>((vU,d),a)
def oD (c:(Va×Er)×St):(Va×Er)×St:=match c with
  |((b,.no),a)=>((Xx (WE a.M b),.no),a)
  |((_,b),a)=>((vU,b),a)
def tC (c:(Va×Er)×St):(Va×Er)×St:=match c with
  |((_,.no),a)=>((Ri true,.no),a)
  |((_,b),a)=>((vU,b),a)
def akq (_:ip es)(ak:Ms U k M z w g){I:Ad}{e:Nd}(aQ:Qc z w I e)(af:e.2.fS.length=1)(c:Pl)(n:Option Addr)(ah:UH U k M z es g (Px e 0) c (X.v (Px e 0) c g))(bX:(Px e 0).2.kd=23)(b0:g.M.find c.scope (Px e 0).2.tx = -1)(bU:Sz bv g)(cn:bv<1000000000) :
  PN 261 #[Pm k,Pm I.p,QN c n] w (Qg U k M z es w (((Xx Tt,.no),g))):=by
 have b{G}(h:G:=by
 have cH:=Y (fV E);have b{G}(h:G:=by
 have b{G}(h:G:=by
 have b{G}(h:G:=by
 have aR:g.M.find F ax = -1:=by rw[aK];exact b0
 rw[aR] at a6;obtain⟨bL,s⟩:=xH (((Xx Tt,Er.no),g));rw[<-s.out];have b{G}(h:G:=by
 refine uz 16 (PD true) ?_;refine uz 17 (PD true) ?_;refine Ud ?_ _;go_simp;have al:=br.fQ p;have be:=Y (fZ p bG.out);have bm:=bF.trans (Qj.of (L:=none) p (Qe bP));have bI:=al.lt;go_wp2_with fail;obtain⟨H,u⟩:=xH (Xx Tt);have ae:=ql Tt bQ;rw[<-u.out] at ae;refine cm ae ?_;rintro j bZ ⟨rfl,o⟩;have ay:=Y (fZ o be.out);have bS:=al.fQ o;have bR:=bm.trans (Qj.of (L:=none) o (Qe bI));obtain⟨bY,bN,bW,b6,b8,cg,ci⟩:=Ql ay.out
 have b{G}(h:G:=by
 have aL:bL=((H,.no),g):=by rw[s.out,u.out]
 rw[aL];exact⟨⟨_,rfl,rfl⟩,aE,aH⟩):=Pq h;exact n5):=Pq h;exact JE):=Pq h;exact IC):=Pq h;exact pD):=Pq h;exact VQ):=Pq h;exact YA
section
variable (au:ip es)(ak:Ms U k M z w g){I:Ad}{e:Nd}(aQ:Qc z w I e)(af:e.2.fS.length=1)(c:Pl)(n:Option Addr)(ah:UH U k M z es g (Px e 0) c (X.v (Px e 0) c g))
include au ak I e aQ af c n ah
def ant (bX:(Px e 0).2.kd=23)(b0:¬ g.M.find c.scope (Px e 0).2.tx = -1)(bU:Sz bv g)(cn:bv<1000000000) :
  PN 261 #[Pm k,Pm I.p,QN c n] w (Qg U k M z es w (oD (X.v (Px e 0) c g))):=by
 have b{G}(h:G:=by
 have cp:=Y E;have cH:=Y (fV E);have b{G}(h:G:=by
 have b{G}(h:G:=by
 have b{G}(h:G:=by
 have cP:¬ g.M.find F ax = -1:=by rw[aK];exact b0
 obtain⟨dr,cg⟩:=xE (g.M.find F ax);rw[<-cg] at a6 cP;clear cg;have b{G}(h:G:=by
 have b{G}(h:G:=by
 refine uz 16 (PD false) ?_;refine uz 17 (PD false) ?_;refine Ud ?_ _;go_simp;exact Jn):=Pq h;exact JE):=Pq h;exact F8):=Pq h;exact IC):=Pq h;exact pD):=Pq h;exact VQ):=Pq h;exact YA
def Tx (bU:¬ (Px e 0).2.kd=23) :
  PN 261 #[Pm k,Pm I.p,QN c n] w (Qg U k M z es w (oD (X.v (Px e 0) c g))):=by
 have b{G}(h:G:=by
 have cp:=Y E;have b{G}(h:G:=by
 have b{G}(h:G:=by
 obtain⟨bX,a6⟩:=xE ((Px e 0).2.kd);rw[<-a6] at L r bU;clear a6;obtain⟨cg,aK⟩:=xE ((Px e 0).2.tx);rw[<-aK] at q;have b{G}(h:G:=by
 rw[<-bo.out] at aT b5 bJ ⊢;rw[<-D] at aO bK bE L r q;have ba:=Y r;clear E a7 bD bb bH D aK r q;go_enter func261,ntmps261;go_wp2_with fail;refine iJ ?_;clear bx bq;refine UG 17 λa=>?_;refine up 0 A 0 a ?_;refine up 1 A 0 a ?_;refine up 2 A 0 a ?_;refine uk 3 ba.out a ?_;refine uh 4 (PD false) (a) ?_;refine uh 5 (PD false) (a) ?_;refine um ?_;refine CF ?_;refine uh 13 undef (a) ?_ (aZ:=f4 ⟨by kernel_rfl,rfl⟩);refine uh 14 undef (a) ?_ (aZ:=f4 ⟨by kernel_rfl,rfl⟩)
 refine uh 15 undef (a) ?_ (aZ:=f4 ⟨by kernel_rfl,rfl⟩);refine uh 16 undef (a) ?_ (aZ:=f4 ⟨by kernel_rfl,rfl⟩);refine VH 17 ?_;refine Ud ?_ _;obtain⟨bQ,ax⟩:=xE w2.drew;have p:PG w2 bQ:=by rw[ax];exact a
 go_simp;rw[<-ax];clear ax;exact Jn):=Pq h;exact F8):=Pq h;exact pD):=Pq h;exact VQ):=Pq h;exact YA
end
def Uq (ak:Ms U k M z w g){I:Ad}{e:Nd}(aQ:Qc z w I e)(af:e.2.fS.length=1)(c:Pl)(n:Option Addr)(bN:(Px e 0).2.kd=23)(s:Sz bv g)(bU:bv<1000000000) :
  PN 262 #[Pm k,Pm I.p,QN c n] w (Qg U k M z es w (((Ri (g.M.drop (g.M.find c.scope (Px e 0).2.tx) (Px e 0).2.tx).1,.no),{ g with M:=(g.M.drop (g.M.find c.scope (Px e 0).2.tx) (Px e 0).2.tx).2 }))):=by
 have b{G}(h:G:=by
 have cw:=Y (fV E);have b{G}(h:G:=by
 have b{G}(h:G:=by
 rw[bN] at L r;obtain⟨o,ax⟩:=xE ((Px e 0).2.tx);rw[<-ax] at q;obtain⟨p,be⟩:=xE (g.M.find F o);have a6:Hid (∀t,PG w2 t->PN 195 #[Pm k,Ph F,PI o] t λj w'=>j=PY (Ph p)/\PG t w'):=λt f=>by
  obtain⟨_,_,_,_,u⟩:=br.fQ f;rw[be];exact rJ u.hh s.go.ok s.go.sm (Qe bU) F o
 obtain⟨ae,bm⟩:=xE ((g.M.drop p o).1);obtain⟨bI,aR⟩:=xE ({ g with M:=(g.M.drop p o).2 }:St);have cG:Hid (∀t,PG w2 t->PN 297 #[Pm k,Ph p,PI o] t λj w'=>j=PY (PD ae)/\Ms U k M z w' bI/\Qv Th k t w'):=λt f=>by
  obtain⟨_,_,_,_,u⟩:=br.fQ f;refine(axR u.hh s.go.ok s.go.sm (Qe bU) p o).mono ?_;rintro j w' ⟨rfl,aL,ap⟩;rw[aR,bm];exact⟨rfl,⟨_,_,_,_,u.heap aL ap⟩,ap⟩
 obtain⟨b6,bL⟩:=xH (((Ri ae,Er.no),bI));have bY:((Ri (g.M.drop (g.M.find (Pl.mk F B C).scope (Px e 0).2.tx) (Px e 0).2.tx).1,Er.no),({ g with M:=(g.M.drop (g.M.find (Pl.mk F B C).scope (Px e 0).2.tx) (Px e 0).2.tx).2 }:St))=b6:=by rw[bL.out,bm,aR,be,ax]
 rw[bY];clear bY bm aR be;rw[<-bo.out] at aT b5 bJ ⊢;rw[<-D] at aO bK bE L r q;have bZ:=Y q;obtain⟨ci,cH,cq,cp,_,cx⟩:=fV E;clear E a7 bD bb bH D ax r q bN;go_enter func262,ntmps262;go_wp2_with fail;refine iJ ?_;clear bx bq;clear ci cH cq cp cx;refine UG 17 λa=>?_;refine iF ?_;refine sV ?_;refine up 5 k 0 a ?_;refine up 6 cJ 0 a ?_;refine uk 7 (cw.out.1) a ?_;refine up 8 A 0 a ?_;refine up 9 A 0 a ?_;refine up 10 A 1 a ?_;refine uk 11 bZ.out a ?_;refine up 13 A 0 a ?_
 refine up 14 A 0 a ?_;refine up 15 A 1 a ?_;refine uk 16 bZ.out a ?_;refine QX 12 λK d=>?_;go_simp;refine qS ?_;rintro j cy ⟨rfl,cn⟩;have aK:PG w2 cy:=a.trans cn;refine d.out _ _ (λ_=>aK) ?_;clear d K;refine QX 17 λK d=>?_;go_simp;refine cm (Pj cG _ aK) ?_;rintro j b8 ⟨rfl,bW,cE⟩;refine ko d ?_;clear d K;have bX:=(Qj.of (L:=none) aK (Qe bP)).trans (Qj.j6 cE);have cr:=Y (bX.f2 bG.out PK);have cB:=bF.trans bX;have cC:=bW.lt;refine QX 18 λK d=>?_;go_simp;refine cm (WX ae b8) ?_
 rintro j cQ ⟨rfl,al⟩;refine ko d ?_;clear d K;obtain⟨H,bQ⟩:=xH (Ri ae);rw[<-bQ.out];have ay:=Y (fZ al cr.out);have bS:=bW.fQ al;have bR:=cB.trans (Qj.of (L:=none) al (Qe cC));obtain⟨cP,cK,cL,cR,cS,cT,cU⟩:=Ql ay.out;refine VH 19 ?_;refine uz 20 RI ?_;refine Ud ?_ _;go_simp;have b{G}(h:G:=by
 have cg:b6=((H,.no),bI):=by rw[bL.out,bQ.out]
 rw[cg];exact⟨⟨_,rfl,rfl⟩,aE,aH⟩):=Pq h;exact n5):=Pq h;exact pD):=Pq h;exact VQ):=Pq h;exact YA
section
variable (d:ip es)(ak:Ms U k M z w g){I:Ad}{a:Nd}(aQ:Qc z w I a)(af:a.2.fS.length=1)(c:Pl)(n:Option Addr)
include d ak I a aQ af c n
def ah5 (m:(Px a 0).2.kd=36)(s:(Px a 0).2.fS.length=1)(u:UH U k M z es g (Px (Px a 0) 0) c (X.v (Px (Px a 0) 0) c g))(l:∀e b,UW X (Px (Px a 0) 0) c g=((e,.no),b)->Sz bv b)(al:bv<1000000000) :
  PN 262 #[Pm k,Pm I.p,QN c n] w (Qg U k M z es w (pm X (Px a 0) c g)):=by
 have b{G}(h:G:=by
 have b{G}(h:G:=by
 have b{G}(h:G:=by
 rw[m] at L r;obtain⟨aZ,o⟩:=xE ((Px a 0).2.tx);rw[<-o] at q;have e:=O3 d br bn s ⟨F,B,C⟩ n u l al;obtain⟨ax,f⟩:=xE (pm X (Px a 0) ⟨F,B,C⟩ g);rw[<-f,<-D] at e;rw[<-f];clear f;rw[<-bo.out] at aT b5 bJ ⊢;rw[<-D] at aO bK bE L r q;obtain⟨O,au,ad,S,_,ah⟩:=fV E;clear E a7 bD bb bH D o r q m l s;have b{G}(h:G:=by
 obtain⟨H,ae⟩:=xH ax.1.1;rw[<-ae.out];obtain⟨aU,ay,aE,aH,aL,aM,aY⟩:=Ql bI.out;clear O au ad S ah;go_wp2_with fail;obtain⟨bh,a1,b8,bR,be,bA,bf,bi⟩:=i1 bI.out a8.out aW cL ci (Ph H.k) (Ph H.n) (PI H.s);exact wm):=Pq h;exact Gr):=Pq h;exact pD):=Pq h;exact VQ):=Pq h;exact YA
def af8 (be:UH U k M z es g (Px a 0) c (X.v (Px a 0) c g))(aM:¬ (Px a 0).2.kd=23)(bj:¬ (Px a 0).2.kd=36) :
  PN 262 #[Pm k,Pm I.p,QN c n] w (Qg U k M z es w (tC (X.v (Px a 0) c g))):=by
 have b{G}(h:G:=by
 have b{G}(h:G:=by
 have b{G}(h:G:=by
 obtain⟨bU,ax⟩:=xE ((Px a 0).2.kd);rw[<-ax] at L r aM bj;clear ax;obtain⟨b3,S⟩:=xE ((Px a 0).2.tx);rw[<-S] at q
 rcases T:X.v (Px a 0) ⟨F,B,C⟩ g with ⟨⟨o,u⟩,O⟩
 have e:=be w2 b2 n br bn;rw[T] at e;rw[<-D] at e;obtain⟨au,f⟩:=xH (tC ((o,u),O));rw[<-f.out];clear T;rw[<-bo.out] at aT b5 bJ ⊢;rw[<-D] at aO bK bE L r q;obtain⟨aL,bB,a6,aZ,_,ba⟩:=fV E;clear E a7 bD bb bH D S r q;have b{G}(h:G:=by
 have dd:=ci.lt;clear aL bB a6 aZ ba
 by_cases s:u=.no
 ·subst s;have l:p=RI:=aK;subst l;go_wp2_with fail;obtain⟨bm,ae⟩:=xE (aR.alloc (.cells #[Ph o.k,Ph o.n,PI o.s] 65));have b{G}(h:G:=by
  try rw[<-ae]
  clear ae;obtain⟨H,ad⟩:=xH (Ri true);have ah:=WX true bm;rw[<-ad.out] at ah;refine cm ah ?_;rintro j bQ ⟨rfl,m⟩;have ay:=Y (fZ m cR.out);have bS:=b8.fQ m;have bR:=cS.trans (Qj.of (L:=none) m (Qe cG));obtain⟨bO,bL,bN,bW,bX,bY,bZ⟩:=Ql ay.out;have b{G}(h:G:=by
  have al:au=((H,.no),O):=by rw[f.out,ad.out];rfl
  rw[al];exact⟨⟨_,rfl,rfl⟩,aE,aH⟩):=Pq h;exact n5):=Pq h;exact x0
 ·obtain⟨bL,bN,l⟩:=aK.X8 s d;subst l;have al:au=((vU,u),O):=by
   rw[f.out];unfold tC;exact kc
  have b{G}(h:G:=by
  have bm:=(aK.RP aY PK).fQ ae;exact za):=Pq h;exact AO):=Pq h;exact Gr):=Pq h;exact pD):=Pq h;exact VQ):=Pq h;exact YA
def T7 (o:UH U k M z es g (Px a 0) c (X.v (Px a 0) c g))(p:(Px a 0).2.kd=36->(Px a 0).2.fS.length=1)(j:(Px a 0).2.kd=36->UH U k M z es g (Px (Px a 0) 0) c (X.v (Px (Px a 0) 0) c g))(l:Sz bv g)(m:(Px a 0).2.kd=36->∀e b,UW X (Px (Px a 0) 0) c g=((e,.no),b)->Sz bv b)(i:bv<1000000000) :
  PN 262 #[Pm k,Pm I.p,QN c n] w (Qg U k M z es w (mc X a c g)):=by
 by_cases f:(Px a 0).2.kd=23
 ·have e:mc X a c g=((Ri (g.M.drop (g.M.find c.scope (Px a 0).2.tx) (Px a 0).2.tx).1,.no),{ g with M:=(g.M.drop (g.M.find c.scope (Px a 0).2.tx) (Px a 0).2.tx).2 }):=by
   unfold mc
   dsimp only
   rw[fY f]
  rw[e];exact Uq ak aQ af c n f l i
 ·by_cases b:(Px a 0).2.kd=36
  ·have e:mc X a c g=pm X (Px a 0) c g:=by
    unfold mc
    dsimp only
    rw[fT f,fY b];rfl
   rw[e];exact ah5 d ak aQ af c n b (p b) (j b) (m b) i
  ·have e:mc X a c g=tC (X.v (Px a 0) c g):=by
    unfold mc
    dsimp only
    rw[fT f,fT b];rfl
   rw[e];exact af8 d ak aQ af c n o f b
def LI (i:UH U k M z es g (Px a 0) c (X.v (Px a 0) c g))(j:Sz bv g)(l:bv<1000000000) :
  PN 261 #[Pm k,Pm I.p,QN c n] w (Qg U k M z es w (nh X a c g)):=by
 by_cases e:(Px a 0).2.kd=23
 ·by_cases f:g.M.find c.scope (Px a 0).2.tx = -1
  ·have b:nh X a c g=((Xx Tt,.no),g):=by unfold nh;rw[fY ⟨e,f⟩]
   rw[b];exact akq d ak aQ af c n i e f j l
  ·have b:nh X a c g=oD (X.v (Px a 0) c g):=by unfold nh oD;rw[fT (λh=>f h.2)]
   rw[b];exact ant d ak aQ af c n i e f j l
 ·have b:nh X a c g=oD (X.v (Px a 0) c g):=by unfold nh oD;rw[fT (λh=>e h.1)]
  rw[b];exact Tx d ak aQ af c n i e
end
section
variable (au:ip es)(ak:Ms U k M z w g){I:Ad}{A:Nd}(aQ:Qc z w I A)(af:A.2.fS.length=2)
include au ak I A aQ af
def anp (db:A.2.kd=25)(c:Pl)(n:Option Addr)(ah:UH U k M z es g (Px A 0) c (X.v (Px A 0) c g))(aL:∀e L,X.v (Px A 0) c g=((e,.no),L)->UH U k M z es L (Px A 1) c (X.v (Px A 1) c L)) :
  PN 258 #[Pm k,Pm I.p,QN c n] w (Qg U k M z es w (mf X A c g)):=by
 have b{G}(h:G:=by
 have cT:=Y E;have bE:=Y (fV E);have b{G}(h:G:=by
 have b{G}(h:G:=by
 have b{G}(h:G:=by
 obtain⟨ci,aH⟩:=xE (mf X A ⟨F,B,C⟩ g);rw[<-aH,<-a6.out];have b{G}(h:G:=by
 have b{G}(h:G:=by
 refine WY (H:=λwz D p=>VB U k M z es w2 e u L wz D p) (G:=?GG) (λaT=>?ways) ?rest
 case ways=>
  exact nF
 case rest=>
  rintro wz D p q;have b{G}(h:G:=by
  have b{G}(h:G:=by
  have cR:=aX.kp q.fr.Ve
  by_cases s:u=.no
  ·have b{G}(h:G:=by
   cases cL:e.jv with
   |true=>
    have b{G}(h:G:=by
    refine uh 9 (PD true) (a) ?_;exact FS):=Pq h;exact tm
   |false=>
    have b{G}(h:G:=by
    refine uh 9 (PD true) (a) ?_;exact J7):=Pq h;exact tm):=Pq h;exact z1
  ·exact Kw):=Pq h;exact qO):=Pq h;exact rD):=Pq h;exact JF):=Pq h;exact p7):=Pq h;exact o1):=Pq h;exact nr):=Pq h;exact VQ):=Pq h;exact YA
def OL (db:A.2.kd=26)(c:Pl)(n:Option Addr)(ah:UH U k M z es g (Px A 0) c (X.v (Px A 0) c g))(aL:∀e L,X.v (Px A 0) c g=((e,.no),L)->UH U k M z es L (Px A 1) c (X.v (Px A 1) c L)) :
  PN 258 #[Pm k,Pm I.p,QN c n] w (Qg U k M z es w (mf X A c g)):=by
 have b{G}(h:G:=by
 have cT:=Y E;have bE:=Y (fV E);have b{G}(h:G:=by
 have b{G}(h:G:=by
 have b{G}(h:G:=by
 obtain⟨ci,aH⟩:=xE (mf X A ⟨F,B,C⟩ g);rw[<-aH,<-a6.out];have b{G}(h:G:=by
 have b{G}(h:G:=by
 refine WY (H:=λwz D p=>VB U k M z es w2 e u L wz D p) (G:=?GG) (λaT=>?ways) ?rest
 case ways=>
  exact nF
 case rest=>
  rintro wz D p q;have b{G}(h:G:=by
  have b{G}(h:G:=by
  have cR:=aX.kp q.fr.Ve
  by_cases s:u=.no
  ·have b{G}(h:G:=by
   cases cL:e.jv with
   |true=>
    have b{G}(h:G:=by
    refine uh 9 (PD false) (a) ?_;exact J7):=Pq h;exact tm
   |false=>
    have b{G}(h:G:=by
    refine uh 9 (PD false) (a) ?_;exact FS):=Pq h;exact tm):=Pq h;exact z1
  ·exact Kw):=Pq h;exact qO):=Pq h;exact rD):=Pq h;exact JF):=Pq h;exact p7):=Pq h;exact o1):=Pq h;exact nr):=Pq h;exact VQ):=Pq h;exact YA
