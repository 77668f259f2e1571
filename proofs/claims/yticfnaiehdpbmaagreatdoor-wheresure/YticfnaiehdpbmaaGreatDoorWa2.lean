import Derived.Test.YticfnaiehdpbmaaGreatDoorWa0
import Derived.Test.YticfnaiehdpbmaaGreatDoorProg
import Derived.WalkSpells
import Derived.WalkLawsBesides
import Derived.Lib.Bytealg
import Derived.Laws.Rows
import Derived.ProofKit
import Derived.OpenShut
import Derived.Stop.Joined
import Derived.RegionTactic
import Derived.Deep.RegionHeld
import Derived.Laws.IdiomStrings
import Derived.Laws.BytesArg
set_option maxRecDepth 100000
set_option maxHeartbeats 0
set_option linter.all false
namespace Go.Proofs.YticfnaiehdpbmaaGreatDoor
open Go.RowKit Go.Proofs.Tryz
section
variable {G t:Prop}
def nF (h:G:=by
  refine UG 8 λa=>?_;refine kT ?_;refine rT ?_;refine jZ 8 12 (λK d=>?_) λK d=>?_
  ·go_simp;refine mp ?_;have b{G}(h:G:=by
   refine o3 ?_;refine VH 12 ?_;refine nR ?_;have ae:=VB.late (v:=e) aK ak ((Qj.of a (Qe bP)).trans ap);exact qQ):=Pq h;exact kW
  ·go_simp;refine kS ?_;clear d K;refine QX 8 λK d=>?_;go_simp;refine oi ?_;have b{G}(h:G:=by
   have s:aR.heap[w2.heap.size]?=some (Qb #[Ph 0,Ph 0,QB] 65):=ap.f2 (Pz _ _) PK;obtain⟨dC,dr,dE,dt,du,dz,dG⟩:=Ql s;refine o3 ?_;refine VH 13 ?_;refine uz 14 p ?_;exact Hd):=Pq h;exact kW):G:=h
def Ju (h:G:=by
  go_wp2_with fail;obtain⟨n,C⟩:∃n,n=q.setCell (Pn w.heap.size 1) (PD true):=⟨_,rfl⟩;have a{G}(h:G:=by
  have b6:n.heap[w.heap.size]?=some (Qb #[.pointer c,PD true] 100):=by rw[C,gb bQ.out];rfl
  have a{G}(h:G:=by
  have s:Hid (n.cell? (Pn w.heap.size 1)=some (PD true)):=by show _=_;rw[cell_of bx.out];rfl
  have a{G}(h:G:=by
  have a{G}(h:G:=by
  have a{G}(h:G:=by
  refine cm (WW c true no (some (Pn M 0)) 1 1 false none ak) ?_;have a{G}(h:G:=by
  have u:p.heap[w.heap.size]?=some (Qb #[.pointer c,PD true] 100):=by rw[X.block _ Pv];exact Pj bx
  have aT:p.heap[w.heap.size+1]?=some (Qb #[Rz,PD false] 100):=by rw[X.block _ Pv];exact Pj cL
  have a{G}(h:G:=by
  refine QX 14 λK d=>?_;go_simp;refine nz ?_;clear d K;refine qT ?_;obtain⟨b,C⟩:∃b,b=(p.setCell (Pn w.heap.size 0) (QI B)).setCell (Pn w.heap.size 1) (PD true):=⟨_,rfl⟩;have a{G}(h:G:=by
  have ae:Hid (b.heap[w.heap.size]?=some (Qb #[QI B,PD true] 100)):=by show _=_;rw[C,gb (gb u _)];rfl
  have a{G}(h:G:=by
  have N{G}(h:G:=by
  have a{G}(h:G:=by
  refine ug 0 (RX (QI B) true) rfl (fU ⟨by kernel_rfl,λt j=>by have aD:=PV j D.out;have ah:=PV j s.out;go_simp⟩) g ?_
  have a{G}(h:G:=by
  refine tE ?_;refine ug 12 (PD true) rfl (fU ⟨by kernel_rfl,λt j=>by have ah:=PV j s.out;go_simp⟩) g ?_
  refine uh 13 (PD false) g ?_;have a{G}(h:G:=by
  clear d K aT;have a{G}(h:G:=by
  refine zI ?_;exact DQ):=Pq h;exact A2):=Pq h;exact ts):=Pq h;exact ny):=Pq h;exact rV):=Pq h;exact tc):=Pq h;exact Fh):=Pq h;exact B8):=Pq h;exact r3):=Pq h;exact IW):=Pq h;exact He):=Pq h;exact qJ):=Pq h;exact EP):=Pq h;exact IH):=Pq h;exact Cd):G:=h
def G0 (h:G:=by
  refine cm (Pj dR aK cL) ?_;rintro j b8 ⟨rfl,eI,d4,dJ⟩;have bZ:=dJ.jy (L:=none) cL;have d2:=dc.trans bZ;have di:=Y (bZ.f2 dP.out PK);have d3:=Y (bZ.f2 db.out PK);have d5:Kp L b8:=λO m j ad s=>dJ.kp cL O m j (cG O m j ad s) s;obtain⟨bS,bY,bW,bU,a7,bX⟩:=fV di.out;have d6:=a7 0;have d1:=a7 1;have d7:=a7 3;clear a7;go_wp2_with fail;have br:k<=H:=Pv;have dm:=WH (a:=0) di.out br (Ph o);have dj:=ZI di.out (Ph o);have dh:=WH (a:=1) dj br (Ph o)
  have dg:=S6 dj (Ph o);obtain⟨bE,cK⟩:=xE ((b8.setCell (Pn H 0) (Ph o)).setCell (Pn H 1) (Ph o));have dG:bE.heap.size=b8.heap.size:=by rw[cK];simp
  have cZ:=(d4.ZR dm PK).ZR dh PK;have cY:Qj none k w ((b8.setCell (Pn H 0) (Ph o)).setCell (Pn H 1) (Ph o)):=(d2.ia dm (λO ad=>gY _ _ _ _ (show O≠H by omega))).ia dh (λO ad=>gY _ _ _ _ (show O≠H by omega));have du:Hid (bE.heap[N]?=some (Qb #[Ph 0,Ph 0,QB] 65)):=by show _=_;rw[cK,gY _ _ _ _ (hV bK),gY _ _ _ _ (hV bK)];exact Pj d3
  have dv:Kp L ((b8.setCell (Pn H 0) (Ph o)).setCell (Pn H 1) (Ph o)):=λO m j ad s=>dh.rest O m j (dm.rest O m j (d5 O m j ad s) (by rcases s with rfl|rfl <;> decide)) (by rcases s with rfl|rfl <;> decide);rw[<-cK] at cZ cY dv dg ⊢;have cX:=Y dg;rw[<-dG];clear dj dg cK dG br;have b{G}(h:G:=by
  clear b5 cr dr da dt cT cU bS bY bW bU d6 d1 d7 bX;have cP:=ce.kp dV;obtain⟨bG,bH,bb,dM⟩:=cP.ar;obtain⟨bJ,dK⟩:=xE a.2.fS.length;rw[<-dK] at bb dM;rw[<-al.out] at bb;obtain⟨d8,bP⟩:=xE ((P5 a ⟨o,o,true⟩ cn).1);obtain⟨bR,be⟩:=xE ((P5 a ⟨o,o,true⟩ cn).2);have cy:=Y (λt (B:PG c t)=>Ia (cE.fQ B) ed Pv (cP.kp (Kp.of B)) dS aL ⟨o,o,true⟩ (some (Pn f 0)) ea);rw[<-bP,<-be,<-al.out] at cy
  rcases cp:Ti X d8 (QA a) (some vU) bR with ⟨⟨q,u,b6⟩,b2⟩
  have dd:=Y (λt (ak:Ms U k M z t bR) (d:Kp c t) (ba:P9 t (some f) (some vU))=>Pj dH t (.slice bG bJ bH) f ⟨o,o,true⟩ cn dU ec.out (by rw[<-be];exact ak) (dM.kp d) (U7.kp d _ _ cP.l8) ba)
  have b{G}(h:G:=by
  have dO:∃m,c.heap[C]?=some (Qb m 40):=by
   have ah:=cP.at_;rw[al.out]
   cases I with
   |mk A d ae bB r=>
    rw[Rl] at ah;obtain⟨_,_,⟨v,ad,_⟩,_⟩:=ah;exact⟨_,ad⟩
  have dN:=Y dO;clear bb dK cp dO bP be;have E:c.drew.heap[H]?=some (Qb #[Ph o,Ph o,PD true,PZ f 0] 73)/\c.drew.cell? (Pn C 3)=some (.slice bG bJ bH):=⟨fZ (gi c.heap.size c).drew bF.out,PV (gi c.heap.size c).drew bD.out⟩;refine WY (H:=λwz D p=>SB U k M z aE (some f) c q u b6 b2 wz D p) (G:=?GG) (λaT=>?ways) ?rest
  case ways=>
   have ap:PG c c.drew:=RV.drew;refine Qd 9 (λt=>t.heap[H]?=some (Qb #[Ph o,Ph o,PD true,PZ f 0] 73)/\t.cell? (Pn C 3)=some (.slice bG bJ bH)) Qz ?_;refine up 0 k 0 E ?_;refine up 1 C 0 E ?_;refine up 2 C 0 E ?_;refine up 3 C 3 E ?_;refine uc 4 (.slice bG bJ bH) rfl (fU ⟨by kernel_rfl,λt B=>by have aD:=B.2;go_simp⟩) (E) ?_
   refine up 5 k 0 E ?_;refine up 6 C 0 E ?_;refine uc 7 (.agg #[Ph o,Ph o,PD true,PZ f 0]) rfl (fU ⟨by kernel_rfl,λt B=>by have aD:=(fV B.1).1;have ah:=(fV B.1).2.1;have aL:=(fV B.1).2.2.1;have c8:=(fV B.1).2.2.2.1;go_simp⟩) (E) ?_
   refine jZ 8 13 (λK d=>?_) λK d=>?_
   ·have b{G}(h:G:=by
    have af:r.heap[H]?=some (Qb #[Ph o,Ph o,PD true,PZ f 0] 73)/\r.cell? (Pn C 3)=some (.slice bG bJ bH):=⟨a1.f2 (fZ ap bF.out) PK,by
     obtain⟨m,ad⟩:=Pj dN;exact(aX.kp aJ).YV (PV ap bD.out) ⟨m,fZ ap ad⟩⟩
    have b{G}(h:G:=by
    refine jZ 9 13 (λK d=>?_) λK d=>?_
    ·have b{G}(h:G:=by
     refine rO ?_;refine VH 13 ?_;refine r6 ?_;have ae:=SB.late (w2:=c) (o:=q) aI bz (bh.trans bf) bA;exact rb):=Pq h;go_simp;exact xw
    ·go_simp;exact Ag):=Pq h;exact C0):=Pq h;go_simp;exact Kl
   ·go_simp;have A:PG c (c.drew.alloc (.cells #[PD false,Ph 0,Ph 0,QB] 67)):=RV.drew.alloc Qh _;have c8:(c.drew.alloc (.cells #[PD false,Ph 0,Ph 0,QB] 67)).heap[H]?=some (Qb #[Ph o,Ph o,PD true,PZ f 0] 73)/\(c.drew.alloc (.cells #[PD false,Ph 0,Ph 0,QB] 67)).cell? (Pn C 3)=some (.slice bG bJ bH):=⟨fZ A bF.out,PV A bD.out⟩;have b{G}(h:G:=by
    have af:r.heap[H]?=some (Qb #[Ph o,Ph o,PD true,PZ f 0] 73)/\r.cell? (Pn C 3)=some (.slice bG bJ bH):=⟨a1.f2 (fZ A bF.out) PK,by
     obtain⟨m,ad⟩:=Pj dN;exact(aX.kp aJ).YV (PV A bD.out) ⟨m,fZ A ad⟩⟩
    exact EC):=Pq h;exact D2
  case rest=>
   have b{G}(h:G:=by
   by_cases s:u=.no
   ·exact Dv
   ·obtain⟨bL,bN,ax⟩:=A.X8 s au;subst ax;have d:aO=((vU,u),b2):=by
     rw[dD.out];exact kc
    exact Fy):=Pq h;exact ED):=Pq h;exact Co):=Pq h;exact D9):G:=h
def sE (h:G:=by
  rw[cz.out,bq,show w.heap.size+1=(w.alloc (.cells #[Ph F,Ph B,PD C,.pointer n] 73)).heap.size by simp];exact Pz _ _):G:=h
def y9 (h:G:=by
  refine l2 ?_;refine wt 5 (PI N) ?_;refine wt 6 (Qr m) ?_;refine hT 4 7 (λK b=>?_) λK b=>?_
  ·go_simp;refine U4 ?_;clear b K;refine WB 7 λK b=>?_;go_simp;refine cm cK ?_;have f{G}(h:G:=by
   have u:=((Ap.refl m.R E.heap.size E).drew).next d;have al:Hid (Ap m.R E.heap.size E a/\QS m a R e/\QT (gz E.heap.size) a ak k):=⟨u,q,ae⟩;have f{G}(h:G:=by
   refine VP 8 ?_;refine WB 9 λK b=>?_;go_simp;refine uf ?_;rintro j cg ⟨rfl,rfl⟩;refine b _ _ ?_;clear b K;refine VP 10 ?_;refine UE (listed':=tf 11 4) Qz rfl ?_;exact aH a k al.out):=Pq h;exact rE):=Pq h;exact pL
  ·go_simp;refine cm cK ?_;have f{G}(h:G:=by
   have u:=((Ap.refl m.R E.heap.size E).drew).next d;have al:Hid (Ap m.R E.heap.size E a/\QS m a R e/\QT (gz E.heap.size) a ak k):=⟨u,q,ae⟩;have f{G}(h:G:=by
   refine hT 4 8 (λK b=>?_) λK b=>?_
   ·go_simp;refine U4 ?_;clear b K;refine VP 8 ?_;exact Fv
   ·go_simp;refine U4 ?_;clear b K;refine hT 4 9 (λK b=>?_) λK b=>?_
    ·go_simp;refine U4 ?_;clear b K;exact Fv
    ·go_simp;refine uf ?_;rintro j cg ⟨rfl,rfl⟩;refine b _ _ ?_;clear b K;refine hT 4 10 (λK b=>?_) λK b=>?_
     ·go_simp;refine U4 ?_;clear b K;refine VP 10 ?_;exact zi
     ·go_simp;refine U4 ?_;clear b K;refine VP 4 ?_;exact zi):=Pq h;exact rE):=Pq h;exact pL):G:=h
def Gz (h:G:=by
  go_wp2_with fail;obtain⟨b,n⟩:∃b,b=q.setCell (Pn w.heap.size 1) (PD true):=⟨_,rfl⟩;have a{G}(h:G:=by
  have u:b.heap[w.heap.size]?=some (Qb #[.pointer c,PD true] 100):=by rw[n,gb bQ.out];rfl
  have a{G}(h:G:=by
  have a{G}(h:G:=by
  have N{G}(h:G:=by
  have a{G}(h:G:=by
  have a{G}(h:G:=by
  have a{G}(h:G:=by
  refine tE ?_;refine ug 12 (PD true) rfl (fU ⟨by kernel_rfl,λt j=>by have ah:=PV j s.out;go_simp⟩) g ?_
  refine uh 13 (PD false) g ?_;have a{G}(h:G:=by
  clear d K;have a{G}(h:G:=by
  refine zI ?_;exact fU ⟨by decide,rfl⟩):=Pq h;exact A2):=Pq h;exact ts):=Pq h;exact ny):=Pq h;exact qJ):=Pq h;exact rV):=Pq h;exact tc):=Pq h;exact rR):=Pq h;exact AL):=Pq h;exact IB):G:=h
def Ay (h:G:=by
  have ec:=Pj db ap (Rl.kp bR _ bN.at_);have b{G}(h:G:=by
  have fa:=du;go_wp2_with fail
  go_loopw [41] (λl wr=>∃(i:Nat)(dj:PO),i<=L.length/\l=Ph i/\Mx U k M z bo bn a8 dj wr (iS ⟨a,B,C⟩ q i u)/\Td k bm a6 a8 dj w wr/\wr.heap[H]?=some (Qb #[Ph a,Ph B,PD C,.pointer n] 73)/\wr.heap[N]?=some (Qb #[Ph 0,Ph 0,PD false,Rz] 73)/\Kp bD wr) (λl _=>L.length - (intOf l).toNat)
  case atStart=>exact⟨0,_,ge _,rfl,ef,ee,eg.out,ed.out,λ_ _ _ h _=>h⟩
  case round=>
   obtain⟨i,dj,eX,rfl,aX,bU,cq,a7,bX⟩:=hrel;have b{G}(h:G:=by
   by_cases ax:i<L.length
   ·obtain⟨eZ,eY,s,dY,bQ,fy⟩:=(fa.kp ak).cell i ax;have b{G}(h:G:=by
    have b{G}(h:G:=by
    obtain⟨bP,al⟩:=xE (iS ⟨a,B,C⟩ q i u);rw[<-al] at A;have cg:Sz (aH+5000+2 * i) bP:=by rw[al];exact Sz.iS _ q i dZ Pv
    have d3:=Pj e1 q[i] (gU _);have dg:=Y (λt (c:PG wr t)=>qz (A.fQ c) (bW.kp (Kp.of c)) d3 cg Pv ⟨a,B,C⟩ n);obtain⟨d0,df⟩:=xE ((gd q[i] ⟨a,B,C⟩ bP).1);obtain⟨cn,ck⟩:=xE ((gd q[i] ⟨a,B,C⟩ bP).2);rw[<-df,<-ck] at dg;have fd:Sz (aH+5000+2 * i+1) cn:=by rw[ck];exact cg.gd _ _
    have d9:=Y (λt cZ (c:Mx U k M z bo bn a8 cZ t cn)=>auP c fd Pv B x d0);have d6:({ cn with M:=(cn.M.write B x d0).2 }:St)=iS ⟨a,B,C⟩ q (i+1) u:=by
     rw[IZ _ q i u dt,<-al];unfold px;rw[<-ck,<-df,<-D]
    rw[d6] at d9;obtain⟨aO,dh⟩:=xE ((L[i]).p);rw[<-dh] at bQ ea a1 dg;have d5:∃m,wr.heap[aO]?=some (Qb m 40):=by
     have ah:=bW.at_;rw[dh]
     cases p:L[i] with
     |mk aK fz fB bB fA=>
      rw[p,Rl] at ah;obtain⟨_,_,⟨v,ad,_⟩,_⟩:=ah;exact⟨_,ad⟩
    have e3:=Y d5;have e4:=Y a1;clear D al d3 df ck d6 dh d5 a1;go_wp2_with fail;clear bQ dY;have d7:wr.drew.heap[H]?=some (Qb #[Ph a,Ph B,PD C,.pointer n] 73):=fZ (gi wr.heap.size wr).drew bE.out;have f:wr.drew.heap[H]?=some (Qb #[Ph a,Ph B,PD C,.pointer n] 73)/\wr.drew.cell? (Pn aO 1)=some (PI x):=⟨d7,PV (gi wr.heap.size wr).drew e4.out⟩;have ba:PG wr wr.drew:=RV.drew
    refine Qd 13 (λt=>t.heap[H]?=some (Qb #[Ph a,Ph B,PD C,.pointer n] 73)/\t.cell? (Pn aO 1)=some (PI x)) Qz ?_;refine up 0 k 0 f ?_;refine up 1 k 0 f ?_;refine up 2 k 0 f ?_;refine up 3 H 1 f ?_;refine uc 4 (Ph B) rfl (fU ⟨by kernel_rfl,λt c=>by have aD:=(fV c.1).2.1;go_simp⟩) (f) ?_
    refine up 5 aO 0 f ?_;refine up 6 aO 0 f ?_;refine up 7 aO 1 f ?_;refine uc 8 (PI x) rfl (fU ⟨by kernel_rfl,λt c=>by have aD:=c.2;go_simp⟩) (f) ?_
    refine up 9 k 0 f ?_;refine up 10 aO 0 f ?_;refine uc 11 (.agg #[Ph a,Ph B,PD C,.pointer n]) rfl (fU ⟨by kernel_rfl,λt c=>by have aD:=(fV c.1).1;have ah:=(fV c.1).2.1;have aL:=(fV c.1).2.2.1;have dW:=(fV c.1).2.2.2.1;go_simp⟩) (f) ?_
    refine QX 12 λK d=>?_;go_simp;refine cm (Pj dg _ ba) ?_;rintro j bL ⟨rfl,fe,ce,r⟩;have ci:=A.fQ ba;have di:=(r.jy (L:=none) ci).f2 f.1 PK;have d8:bL.cell? (Pn aO 1)=some (PI x):=by
     obtain⟨m,ad⟩:=Pj e3;exact(r.kp ci).YV f.2 ⟨m,fZ ba ad⟩
    refine d.out _ _ (λ_=>⟨di,d8⟩) ?_;clear d K;have fw:=ce.lt;have c8:=ce;have da:=(aJ.trans (Td.of ba (Qe bZ))).trans r;have cY:=Y di;have dc:=Y ((r.jy (L:=none) ci).f2 (fZ ba ae.out) PK);have dd:Kp bD bL:=λO m j ad p=>r.kp ci O m j (Kp.of ba O m j (ak O m j ad p) p) p;clear di d8;refine QX 13 λK d=>?_;go_simp;refine cm (Pj d9 _ _ c8) ?_;rintro j e5 ⟨rfl,e7,cj⟩;refine ko d ?_;clear d K;have e2:=e7;have e9:=da.Yw cj;have fc:=Y (cj.rest _ _ _ cY.out PK)
    have e8:=Y (cj.rest _ _ _ dc.out PK);have fb:Kp bD e5:=λO m j ad p=>Qv.kp cj O m j (dd O m j ad p) p;clear f d7;refine Ud ?_ _;go_simp;go_wp2_with fail;exact⟨⟨i+1,fe,by omega,by go_num,e2,e9,fc.out,e8.out,fb⟩,by simp[intOf];omega⟩):=Pq h;exact zq):=Pq h;exact Vt
   ·have b{G}(h:G:=by
    obtain⟨bL,d1⟩:=xE ((((wr.setCell (Pn N 0) (Ph a)).setCell (Pn N 1) (Ph B)).setCell (Pn N 2) (PD C)).setCell (Pn N 3) (.pointer n));rw[<-d1];have d4:=lY ae.out (Ph a) (Ph B) (PD C) (.pointer n);have e6:k<=N:=by have:=Pj dX;omega
    have r:=U8 ae.out e6 (Ph a) (Ph B) (PD C) (.pointer n);have d2:=aJ.new r (VJ dX.out _ _ _ _);have de:=A.ZR r PK;rw[<-d1] at d4 d2 de;obtain⟨bf,bh,be,bi,_,_⟩:=fV d4;refine XE (v:=QN ⟨a,B,C⟩ n) ?_;rw[dV.out];rw[e0] at de;exact⟨rfl,_,_,de,d2⟩):=Pq h;exact FP):=Pq h;exact wR):=Pq h;exact IQ):G:=h
def zB (h:G:=by
  obtain⟨u0,u1,u2,dL,d3,d4,d5⟩:=Ql bN.out;exact q9):G:=h
def rS (h:G:=by
  refine UG 8 λa=>?_;refine kT ?_;refine rT ?_;refine jZ 8 12 (λK d=>?_) λK d=>?_
  ·go_simp;refine mp ?_;have b{G}(h:G:=by
   refine r1 ?_;refine VH 12 ?_;refine nR ?_;have ae:=SB.late (o:=q) aK ak ((Qj.of a (Qe bP)).trans ap) ci;exact rb):=Pq h;exact m5
  ·go_simp;refine kS ?_;clear d K;refine QX 8 λK d=>?_;go_simp;refine oi ?_;have b{G}(h:G:=by
   have e:aR.heap[w2.heap.size]?=some (Qb #[PD false,Ph 0,Ph 0,QB] 67):=ap.TY (bm.fQ (QK.drew)) (Pz _ _) PK PK;obtain⟨dg,c8,dh,di,dc,dd,de,df,dj⟩:=SA (e);refine r1 ?_;refine nR ?_;have ae:=SB.early (o:=q) e Qq (Qe bP) aK ak ((Qj.of (QK.drew) (Qe bP)).trans ap) ci
   generalize (((aR.setCell (Pn w2.heap.size 0) (PD q.ret)).setCell (Pn w2.heap.size 1) (Ph q.v.k)).setCell (Pn w2.heap.size 2) (Ph q.v.n)).setCell (Pn w2.heap.size 3) (PI q.v.s)=wz at ae ⊢
   generalize w2.heap.size=D at ae ⊢
   exact aT wz D p ae):=Pq h;exact m5):G:=h
def Dl (h:G:=by
  obtain⟨C,aT⟩:=xE ((o.alloc (.cells #[Pm u,Ph n,PD p] 211)).drew);rw[<-aT];have aJ:C.heap[o.heap.size]?=some (Qb #[Pm u,Ph n,PD p] 211):=by
   rw[aT];exact Pz o _
  have aI:PG o C:=by
   rw[aT];exact QK.drew
  obtain⟨cT,cg⟩:=xE o.heap.size;rw[<-cg] at aJ ⊢;have bh:PG w C:=aH.trans (aI.mono aH.size);have aO:=dp.fQ bh;obtain⟨ax,a6⟩:=aO.hh.at_ 7 _ rfl;obtain⟨cC,cy,ak,cB⟩:=aO.fu;obtain⟨ds,dD,b8⟩:=P7 ak;have cJ:=Y (f7 aJ);have cK:=Y (fZ aI bQ.out);have cU:=dt.kp (Kp.of bh);rw[<-aX.out] at b8;subst b8;have a1:=Y ax;have cQ:k<C.heap.size:=by have:=aI.size;omega
  have dP:cT<C.heap.size:=fR aJ;clear aJ aI ax a6 ak aT cg aH cz cy cB cC de dd df;go_wp2_with fail;refine UG 7 λa=>?_;refine iF ?_;refine up 3 k 9 a ?_;refine uk 4 a1.out a ?_;refine jY 5 cJ.out a ?_;refine QX 6 λK d=>?_;go_simp;refine kS ?_;clear d K;refine QX 7 λK d=>?_;have bo:=aO.fQ (w':=C.drew.alloc (.cells #[Pm u,Ph n,PD p] 211)) (RV.drew.alloc Qh _);obtain⟨dN,bJ,bW,ce⟩:=bo.fu;have ak:=bW;rw[<-aX.out] at ak
  refine step_append_lies _ rfl _ _ 82 rfl k 211 du _ 3 24 underlying82 dq dr dh dm rfl PK _ _ _ rfl ak (Pn C.heap.size 0) 1 1 [Pm u,Ph n,PD p] rfl rfl (MB C.drew _ rfl u n p) (azi u n p) PK (by unfold maxLen;omega) Pv SC (C.heap.size+1) Qh ?_
  intro bY bX a8 hown4 bm b2 c8;refine ko d ?_;clear d K;obtain⟨aR,cR⟩:=bo.ND (e:=I) (a:=⟨al,n,p⟩) (cU.kp (Kp.of (RV.drew.alloc Qh _))) (b:=.slice (some (Pn bY 0)) (bB+1) bX) bm bJ bW ce (by rw[<-aX.out];rw[dj.out] at hown4;exact hown4) (λu ae=>by
   simp only[Value.ownBlock,he] at ae;subst ae
   rcases b2 with h|h
   ·exact .inl h
   ·right;simp;omega)
  obtain⟨dC,dz⟩:=(bo.hh.f2 (a:=[211]) (l:=k) (w':=a8) (Qv.grown bm SC λi af=>by
   obtain⟨m,cG⟩:=QZ ak af;exact⟨(ak.lt i af).1,m,211,cG,by simp⟩) PK PK PK PK PK).at_ 7 _ rfl
  have ap:=aR;have bI:=(Td.of ((gi _ C).drew.alloc Qh _) (Qe cQ)).trans cR;have be:=Y ((bI.jy (L:=none) aO).rest N _ 65 cK.out PK Qh);have bU:=(Td.of bh (Qe di)).trans bI;have dO:k<a8.heap.size:=by have:=bm.size;simp at this;omega
  clear aR b2 c8 ce bJ;refine uz 8 (PZ k 0) ?_;refine uz 9 (PZ k 9) ?_;refine VH 10 ?_;refine Ud ?_ _;go_simp;obtain⟨bN,bS⟩:=xE (a8.setCell (Pn k 9) (.slice (some (Pn bY 0)) (bB+1) bX));rw[<-bS] at ap bU be ⊢;clear bS;obtain⟨ax,a6⟩:=ap.hh.at_ 7 _ rfl;have aR:=ap.lt;have a1:=Y ax;have cY:=Y (λt (f:PG bN t)=>uG (ap.fQ f).hh dg dv.out (3+((bB:Int)+1) - 1));clear ax a6;have dQ:N<bN.heap.size:=fR be.out;go_wp2_with fail;refine UG 10 λa=>?_;refine up 0 k 0 a ?_
  refine up 1 k 0 a ?_;refine up 2 k 0 a ?_;refine up 3 k 0 a ?_;refine up 4 k 0 a ?_;refine up 5 k 9 a ?_;refine uk 6 a1.out a ?_;refine uh 7 (Ph ((bB:Int)+1)) (a) ?_;refine uh 8 (Ph (3+((bB:Int)+1))) (a) ?_ (aZ:=fU ⟨by kernel_rfl,λ_ _=>by go_simp;exact mB _ Pv⟩)
  refine uh 9 (Ph (3+((bB:Int)+1) - 1)) (a) ?_ (aZ:=fU ⟨by kernel_rfl,λ_ _=>by go_simp;exact mB _ Pv⟩)
  refine QX 10 λK d=>?_;go_simp;refine cm (Pj cY _ a) ?_;rintro j cw ⟨rfl,cE,bn⟩;rw[<-dx.out];refine ko d ?_;clear d K;have b7:=(ap.fQ a).heap cE bn;have cX:=bU.trans ((Td.of a (Qe aR)).trans (Td.j6 bn));have bZ:=Y (bn.rest N _ 65 (fZ a be.out) PK);refine QX 11 λK d=>?_;go_simp;obtain⟨D,bb⟩:=xE (UU ck);have b5:=tQ ck cw;rw[<-bb] at b5;have cL:=Y bb;clear bb;refine cm b5 ?_;rintro j cP ⟨rfl,aW⟩;refine ko d ?_;clear d K;have cx:=b7.fQ aW
  have cZ:=cX.trans (Td.of aW (Qe b7.lt));obtain⟨dM,dE,dG,aK,dR⟩:=f7 (fZ aW bZ.out);have dH:=aK 0;have dJ:=aK 1;have dK:=aK 2;have b1:=Y (fZ aW bZ.out);clear aK;refine VH 12 ?_;refine Ud ?_ _;go_simp;go_wp2_with fail;obtain⟨dF,bK⟩:=xE (((cP.setCell (Pn N 0) (Ph D.k)).setCell (Pn N 1) (Ph D.n)).setCell (Pn N 2) (PI D.s));rw[<-bK];have bR:=l9 b1.out (Ph D.k) (Ph D.n) (PI D.s);have cS:k<=N:=by have:=Pj cj;omega
  have bP:=TL b1.out cS (Ph D.k) (Ph D.n) (PI D.s);have bL:=cZ.new bP (U6 cj.out _ _ _);have a7:=cx.ZR bP PK;rw[<-bK] at bR bL a7;obtain⟨bA,bf,bi,_,_⟩:=f7 bR;rw[<-cL.out];refine YJ (v:=vA D) ⟨rfl,_,?_,bL⟩;have cH:3+((bB:Int)+1) - 1=3+(c.SE.length:Int):=by rw[<-aX.out];omega
  rw[cH] at a7;exact a7):G:=h
def qu (h:G:=by
  clear E a7 b8 bb cg e d;go_enter func53,jH;have b{G}(h:G:=by
  have aR:=Y (ay.f2 p.out PK);have b{G}(h:G:=by
  have u:=Pj aT wz L a6 bn;rw[<-D.out] at bE aE u;rw[<-bQ.out] at u;have b{G}(h:G:=by
  rintro j bL ⟨⟨bD,rfl,aU⟩,ak,ap,bI⟩;have aK:=Y (ap.TY bn aO.out PK PK);have bH:=bJ.up.trans ap;clear ad aD al af ax aE bE;obtain⟨u0,u1,u2,u3,bN,bR,bS,bW,bU⟩:=SA aK.out;go_wp2_with fail;obtain⟨aY,a1,aH,bA,ba,bf,bh,be,bi⟩:=kb aK.out a8.out aW bH ak (PD false) (Ph 0) (Ph 0) (QB);rw[<-a1];refine pO (v:=.tuple #[XD SG,bD]) ?_;exact⟨⟨_,rfl,aU.RP aH PK⟩,ba,bA,bI.UJ aH⟩):=Pq h;exact rQ):=Pq h;exact qM):=Pq h;exact mL):G:=h
def Au (h:G:=by
  intro o
  induction o with
  |zero=>intro a L;have:=xK a;omega
  |succ o aO=>
   intro a L aK c I w ap bO X;obtain⟨bb,aT,_,_,v,ad,af,a7⟩:=X.cells;have ae:(a.ks.map Ad.p).length=a.ks.length:=gF _;obtain⟨bq,uc,bn⟩:=VG af;subst bn;rw[ae] at ad;have g:=N I a c w ap bO X;have C:=Y (hP I a c ap);have q:=Y (aHz e I a);have bG:=Y X.parts;have bI:=Y a7;have bE:=Y (aO);have bJ:=Y L;have bi:=Y aK;have aR:=Y ad;have ay:=Y aT;have bf:=Y bb;have aI:=Y ae;have bm:=Y F;have aH:=Y H
   have bW:a.ks.length<=90000:=by have E:=zh a.ks;have A:=qa a;omega
   clear N hP bO a7 aO L aK ad aT bb ae F H ap;obtain⟨ax,aL⟩:=xE a.p;rw[<-aL] at g aR ay bf ⊢;clear aL
   cases D:(e I a).2 with
   |false=>
    rw[D] at g C q;clear D;have b{G}(h:G:=by
    have ah:=Y z;have U:=Y i;clear z i;go_wp2_with fail;exact Uj (v:=.tuple #[]) ⟨rfl,by rw[q.out];exact ah.out,by rw[q.out];exact C.out,U.out⟩):=Pq h;exact tX
   |true=>
    rw[D] at g C q;clear D;obtain⟨ak,i⟩:=xE ((e I a).1);rw[<-i] at g C q;clear i;have b{G}(h:G:=by
    obtain⟨bA,aM⟩:=Pj aH _ _ i;have bR:aD.cell? (Pn ax 3)=some (.slice bq a.ks.length uc):=by rw[gN (w:=w) (bA ax bf.out ay.out)];exact Pj aR
    have bY:ax<aD.heap.size:=gH ay.out aM;have ah:=Y z;have U:=Y i;clear z i aM;go_wp2_with fail
    go_loopw [23] (λl wr=>∃d:Nat,d<=a.ks.length/\l=Ph d/\k (jg e ak (a.ks.take d)) wr/\P (jg e ak (a.ks.take d)) (a.ks.drop d++c)/\f w wr) (λl _=>a.ks.length - (intOf l).toNat)
    case atStart=>exact⟨0,ge _,rfl,by rw[ix,jg];exact ah.out,by rw[ix,jg];exact C.out,U.out⟩
    case round=>
     obtain⟨d,bN,rfl,a1,u,aE⟩:=hrel;have be:=Y a1;have a8:=Y u;have al:=Y aE;clear a1 aE u
     by_cases B:d<a.ks.length
     ·obtain⟨r,bQ,s,aY⟩:=UC af (by rw[aI.out];omega)
      have b{G}(h:G:=by
      have br:d<(a.ks.map Ad.p).length:=by rw[aI.out];exact B
      have bH:=Pj bI r rfl;have aU:=(Qm af r rfl).1;obtain⟨a6,aQ⟩:=Pj aH _ _ al.out;obtain⟨bF,M⟩:=xE ((a.ks[d]).p);have bv:wr.cell? (Pn r d)=some (Pm bF):=by
       rw[gN (w:=w) (a:=(Pn r d)) (a6 r bH aU),aY d br,jS,M]
      have bD:Rl p wr a.ks[d]:=Rl.fQ a6 _ (Pj bG _ (gU B));have bU:r<wr.heap.size:=gH aU aQ;have ba:(a.ks[d]).hU<=o:=by
       have E:=Xn a.ks _ (gU B);have A:=qa a;have bP:=Pj bJ;omega
      have u:=Pj a8;rw[h7 B,hR] at u;have g:=bE.out a.ks[d] ba (by have:=Pj bi;omega) (a.ks.drop (d+1)++c) _ wr u be.out bD
      have bh:=Y (W8 e a.ks ak d B);rw[<-M] at g;have bS:(d:Int)<(a.ks.length:Int):=Pv;clear aY ba u aQ M;go_wp2_with fail;refine cm g ?_;rintro j bX ⟨rfl,aW,aJ,aX⟩;have bz:=Y aW;have bo:=Y aJ;have bx:=Y (Pj bm _ _ _ al.out aX);clear aW aX aJ bv;go_wp2
      go_roundw
      case rel=>exact⟨d+1,by omega,by go_num,by rw[bh.out];exact bz.out,by rw[bh.out];exact bo.out,bx.out⟩
      case measure=>simp[intOf];omega):=Pq h;exact Vt
     ·have r:d=a.ks.length:=Pv;subst r;go_wp2
      go_end0
      have E:=Pj be;have A:=Pj a8;rw[gV] at E A;rw[lS,hy] at A;rw[q.out];exact⟨rfl,E,A,al.out⟩):=Pq h;exact tX):G:=h
def IX (h:G:=by
  have eG:=aR;have e9:=cE.lt;clear bJ;go_wp2_with fail
  go_loopw [70] (λl wr=>∃i:Nat,i<=e.length/\l=Ph i/\Mx U k M z cY cX cj ce wr (k5 c e i al)/\Td k cj ce cj ce w wr/\wr.heap[H]?=some (Qb #[Ph c,Ph B,PD C,.pointer n] 73)/\QV cx.heap.size wr (.slice dK e.length dH) e/\Kp D wr) (λl _=>e.length - (intOf l).toNat)
  case atStart=>exact⟨0,ge _,rfl,cE,dJ,dM.out,eG,dN⟩
  case round=>
   obtain⟨i,fb,rfl,a7,cw,ba,cA,cC⟩:=hrel;have ax:=a7;have bh:=cw;have N:=Y ba;have aY:=cA;have ay:=cC;have bL:=a7.lt;clear ba
   by_cases be:i<e.length
   ·obtain⟨eo,en,s,dT,_,bf⟩:=Xi aY i be;have b{G}(h:G:=by
    have aW:(i:Int)<(e.length:Int):=Pv;obtain⟨x,F⟩:=xE (e[i]);rw[<-F] at bf;have cT:=Y F;obtain⟨a8,ap⟩:=xE (k5 c e i al);rw[<-ap] at ax;have cz:Sz (bv+1600+i) a8:=by rw[ap];exact Sz.k5 c e i cB Pv
    have cS:=Y (λt (f:Mx U k M z cY cX cj ce t a8)=>Yt f cz Pv c x 0 vU);have cU:=Y ap;have bo:=Y (fV N.out);have fa:H<wr.heap.size:=fR N.out;clear F ap;go_wp2_with fail;clear bf;refine UG 7 λa=>?_;refine iF ?_;refine up 3 H 0 a ?_;refine uk 4 (bo.out.1) a ?_;refine uh 5 (PI x) (a) ?_;refine uh 6 (.agg #[Ph 0,Ph 0,QB]) (a) ?_;refine QX 7 λK d=>?_;go_simp;refine cm (Pj cS _ (ax.fQ a)) ?_;rintro j eE ⟨rfl,eI,bK⟩;refine ko d ?_;clear d K;have eJ:=eI
    have eM:=(bh.trans (Td.of a (Qe bL))).Yw bK;have eu:=Y (bK.rest _ _ _ (fZ a N.out) PK);have eU:=Qa (Qs aY a) bK PK;have eQ:Kp D eE:=λO m j ad o=>Qv.kp bK O m j (Kp.of a O m j (ay O m j ad o) o) o;refine Ud ?_ _;go_simp;go_wp2_with fail;refine⟨⟨i+1,by omega,by go_num,?_,eM,eu.out,eU,eQ⟩,by simp[intOf];omega⟩
    rw[E6 c e i al be,<-cT.out,<-cU.out];exact eJ):=Pq h;exact Vt
   ·have b{G}(h:G:=by
    obtain⟨dS,cR⟩:=xE (k5 c e e.length al);rw[<-cR] at ax aT;have dO:Sz (bv+3200) dS:=by rw[cR];exact(Sz.k5 c e e.length cB Qq).up Pv
    have dQ:=aK.kp ay;have cK:=rA ax dO dQ Pv Pv c;obtain⟨dR,cQ⟩:=xE (Q5 (Qi u.2) c dS);rw[<-cQ] at cK aT;have eR:Sz (bv+5000) dR:=by
     rw[cQ];refine(dO.lets (Qi u.2) c).up ?_;have ah:=hu QE u.2.fS
     show bv+3200+(u.2.fS.filter QE).length<=_
     omega
    have dP:=Y (λt (f:Mx U k M z cY cX cj ce t dR) (eN:Qc z t cy u)=>D5 f eR eN Pv Pv ep.out ⟨c,B,C⟩ n);rw[<-aT.out,<-aX.out] at dP;rw[<-aX.out] at cK;have eK:=dQ;obtain⟨cG,cP,cJ,cH,_,cL⟩:=fV N.out;clear cR cQ;go_wp2_with fail;refine cm cK ?_;rintro j fc ⟨rfl,eP,cO⟩;have ew:=eP;have eS:=bh.Yw cO;have eT:=Y (cO.rest _ _ _ N.out PK);have ey:=eK.kp (Qv.kp cO);clear cG cP cJ cH cL;obtain⟨cG,cP,cJ,cH,_,cL⟩:=fV eT.out;go_wp2_with fail
    refine cm (Pj dP _ ew ey) ?_;rintro j wz ⟨rfl,eH,eD,eL⟩;have eO:=eD;have eF:=eS.trans eL;clear cG cP cJ cH cL;go_wp2
    go_end0
    exact⟨rfl,eH,eO,eF⟩):=Pq h;exact tz):G:=h
def qF (h:G:=by
  refine cm (VI (es:=es) dq gJ) ?_;rintro j fa ⟨⟨p,rfl,bQ⟩,dG⟩;have eM:=bQ;have cn:=Y (fZ dG dr.out);have dp:=cB.fQ dG;have dm:=dJ.trans (Qj.of (L:=none) dG (Qe dq));obtain⟨eU,eS,eT,eV,eW,eX,eY⟩:=Ql cn.out;clear bJ bm bn bo bE bI bK;have b{G}(h:G:=by
  have o:D=((vU,ga gJ),q):=Pj u;rw[o];exact⟨⟨_,rfl,eM.RP aY PK⟩,aE,aH⟩):=Pq h;exact sN):G:=h
def tp (h:G:=by
  clear E a7 b8 bb cg e s;go_enter func53,jH;have b{G}(h:G:=by
  have aR:=Y (ay.f2 A.out PK);have b{G}(h:G:=by
  have u:=Pj aT wz L a6 bn;rw[<-D.out] at bE aE u;rw[<-bQ.out] at u;have b{G}(h:G:=by
  rintro j ae ⟨⟨p,rfl,aK⟩,ak,ap,ci⟩;have bR:=Y (ap.TY bn aO.out PK PK);have cx:=bJ.up.trans ap;obtain⟨bA,cq⟩:=xH d.1.1;rw[<-cq.out];clear ad aD al af ax aE bE;obtain⟨u0,u1,u2,u3,aU,ba,bI,bN,bL⟩:=SA bR.out;exact xX):=Pq h;exact rQ):=Pq h;exact qM):=Pq h;exact mL):G:=h
def Jt (h:G:=by
  go_wp2_with fail;refine sq ?_;rintro d bN ⟨rfl,rfl⟩;go_wp2_with fail;obtain⟨aR,E⟩:=xE (w.alloc (.cells #[PD true,PD true,PD O] 112));have aE:PG w aR:=by rw[E];exact QK
  have a8:jw w.heap.size true true O aR:=by rw[E];exact Pz _ _
  have p:=Pj aT aR aE;rw[<-E];refine cm p ?_;rintro d X ⟨rfl,aW⟩;have F:jw w.heap.size true true O X:=(aW.block w.heap.size (fR a8)).trans a8;have M:=aE.trans (aW.mono aE.size);clear E
  cases bm with
  |some d=>
   unfold Wi;go_wp2;go_ret;exact⟨rfl,M⟩
  |none=>
   have b{G}(h:G:=by
   obtain⟨L,A⟩:=xE (ah.setCell (Pn w.heap.size 2) (PD true));have ba:jw w.heap.size true true true L:=by rw[A,jw,gb F];rfl
   have af:PG w L:=xl
   have b{G}(h:G:=by
   go_loopw [41] (λaK wr=>∃c:Nat,c<=a.fS.length/\aK=Ph c/\Vk (a.fS.take c) true true true=none/\PG L wr) (λaK _=>a.fS.length - (intOf aK).toNat)
   case atStart=>exact⟨0,ge _,rfl,by rw[ix,Vk],RV⟩
   case round=>
    obtain⟨c,k,rfl,a7,q⟩:=hrel;have C:=Y a7;clear a7
    by_cases n:c<a.fS.length
    ·obtain⟨bR,bA,e,s,bS,aH,aM⟩:=(aX.fQ q).cell c n;have b{G}(h:G:=by
     have bP:(c:Int)<(a.fS.length:Int):=Pv;have ak:jw w.heap.size true true true wr:=(q.block w.heap.size (fR ba)).trans ba;have b{G}(h:G:=by
     have R:=Y (λd=>Zc a.fS true true true c n d C.out);have U:=Y (Yi a.fS true true true c n C.out)
     generalize hD a.fS[c] true true true=aL at p R U
     exact sO):=Pq h;exact sL):=Pq h;exact Vt
    ·exact tR):=Pq h;exact GI):=Pq h;exact t7):G:=h
def TA (h:G:=by
  rw[T] at e;simp only[wW] at e;exact absurd e.out.symm F.out):G:=h
def ut (h:G:=by
  have q{G}(h:G:=by
  have A:=Y (λW=>Wl b l c a.tx W);have z:=Y (PV s C);have F:=f1 z.out
  generalize a.tx=r at A z C
  generalize i6 b r=H at A
  clear h g D M j R C;go_enter jW,jT;go_wp2_with fail;rw[<-o];have p:PG n n.drew:=RV.drew;refine wp_region_held (S:=λt=>PG n t) Qz ?_;refine l6 ?_;refine wh 0 (Pm e) p ?_;refine wh 1 (Pm e) p ?_;refine wh 2 (PZ e 1) p ?_;have q{G}(h:G:=by
  cases H <;>
  ·unfold Wi;go_wp2;go_ret;exact⟨rfl,s.trans (f.mono s.size)⟩):=Pq h;exact H0):=Pq h;exact nU):G:=h
def Jn (h:G:=by
  have cB:=br.fQ p;have df:=Y (fZ p bG.out);have dh:=bF.trans (Qj.of (L:=none) p (Qe bP));have dD:=cB.lt;obtain⟨cT,dj,cZ,cU,_,db⟩:=fV (fZ p cp.out);have cQ:=Pj bZ bQ cB (Qj.of (L:=none) p (Qe bP));go_wp2_with fail;refine cm cQ ?_;rintro j aR ⟨⟨dc,rfl,aL⟩,ci,cx⟩;have bI:=Y (cx.f2 df.out PK);have cL:=dh.trans cx;have dd:=ci.lt;clear cT dj cZ cU db
  by_cases s:u=.no
  ·subst s;have bW:dc=RI:=aL;subst bW;go_wp2_with fail;obtain⟨bm,ae⟩:=xE (aR.alloc (.cells #[Ph o.k,Ph o.n,PI o.s] 65));have b{G}(h:G:=by
   rw[<-ae];obtain⟨cC,cE⟩:=xH (WE be.M o);have cq:=Mw b8 o;rw[<-cE.out] at cq;clear ae;refine cm cq ?_;rintro j da ⟨rfl,bN⟩;have cr:=b8.fQ bN;have di:=Y (fZ bN cR.out);have dg:=cS.trans (Qj.of (L:=none) bN (Qe cG));have de:=cr.lt;go_wp2_with fail;obtain⟨H,cw⟩:=xH (Xx cC);have cy:=ql cC da;rw[<-cw.out] at cy;refine cm cy ?_;rintro j du ⟨rfl,bL⟩;have ay:=Y (fZ bL di.out);have bS:=cr.fQ bL;have bR:=dg.trans (Qj.of (L:=none) bL (Qe de))
   obtain⟨dt,dk,ds,dv,dx,dz,dC⟩:=Ql ay.out;have b{G}(h:G:=by
   have al:cK=((H,.no),be):=by rw[bY.out,cw.out,cE.out];rfl
   rw[al];exact⟨⟨_,rfl,rfl⟩,aE,aH⟩):=Pq h;exact n5):=Pq h;exact x0
  ·obtain⟨bL,bN,bW⟩:=aL.X8 s au;subst bW;have al:cK=((vU,u),be):=by
    rw[bY.out];unfold oD;exact kc
   have b{G}(h:G:=by
   have bm:=(aL.RP aY PK).fQ ae;exact za):=Pq h;exact AO):G:=h
def wd (h:G:=by
  rw[<-cx] at di;refine cm di ?_;rintro j d8 ⟨rfl,cy⟩;have ay:=Y (fZ cy dr.out);have bS:=cB.fQ cy;have bR:=dJ.trans (Qj.of (L:=none) cy (Qe dq));have eN:=Y cx;obtain⟨eU,eS,eT,eV,eW,eX,eY⟩:=Ql ay.out;clear cx bJ bm bn bo bE bI bK;have b{G}(h:G:=by
  have o:D=((H,.no),q):=by rw[u.out,eN.out]
  rw[o];exact⟨⟨_,rfl,rfl⟩,aE,aH⟩):=Pq h;exact n5):G:=h
def xZ (h:G:=by
  refine b _ _ ?_;clear b K;refine hT 4 9 (λK b=>?_) λK b=>?_
  ·go_simp;refine U4 ?_;clear b K;refine VP 9 ?_;exact vQ
  ·go_simp;refine U4 ?_;clear b K;refine VP 4 ?_;exact vQ):G:=h
def sR (h:G:=by
  clear E a7 bD bb bH d;go_enter func196,kN;have b{G}(h:G:=by
  have al:=bF.trans ay;have au:=L.lt;have aD:=aX.kp ay.Ve;obtain⟨ad,u,q,p,_⟩:=aD.cells;rw[<-s.out] at ad u q p;rw[<-m.out] at q;rw[<-o.out] at p;rw[f] at u;clear f;go_wp2_with fail;refine cm (Pj e wz) ?_;rintro j aM ⟨rfl,D⟩;have S:=Y (fZ D aO.out);have aE:=L.fQ D;have ax:=al.trans (Qj.of (L:=none) D (Qe au));clear u ad q p;obtain⟨u0,u1,u2,aT,aY,aZ,a6⟩:=Ql S.out;go_wp2_with fail
  obtain⟨bh,a1,aR,af,ae,bA,bf,bi⟩:=i1 S.out a8.out aW ax aE (Ph H.k) (Ph H.n) (PI H.s);refine xg ?_;exact⟨⟨_,rfl,rfl⟩,ae,af⟩):=Pq h;exact mL):G:=h
def zo (h:G:=by
  refine UG 9 λa=>?_;refine iF ?_;refine jY 3 d6.out a ?_;refine up 5 k 0 a ?_;refine up 6 k 0 a ?_;refine up 7 k 0 a ?_;refine jY 8 d5.out a ?_;refine QX 4 λK d=>?_;go_simp;refine cm (Pj dg _ a) ?_;rintro j eg ⟨rfl,dG⟩;have b7:PG wz eg:=a.trans (dG.mono a.size);refine d.out _ _ (λ_=>b7) ?_;clear d K;refine QX 9 λK d=>?_;go_simp;refine cm (Pj dm _ b7) ?_;rintro j d8 ⟨rfl,cy⟩;refine ko d ?_;clear d K;have df:PG wz d8:=b7.trans (cy.mono b7.size);refine QX 10 λK d=>?_;go_simp
  refine cm (Pj cn _) ?_;rintro j eL ⟨⟨p,rfl,bQ⟩,dF⟩;refine ko d ?_;clear d K;have dj:=df.trans (dF.mono df.size);have b{G}(h:G:=by
  refine uz 11 (vA ci) ?_;refine uz 12 p ?_;refine VH 13 ?_;refine uz 14 p ?_;exact ER):=Pq h;exact Ki):G:=h
def Eb (h:G:=by
  by_cases ay:B=[]
  ·obtain rfl:=ba.2.1 ay;subst ay;obtain⟨b8,c8,rfl⟩:=L.cap (by rw[bz.out];decide)
   have bI:=Y (Ns L bH be bx.out);refine WB 11 λK b=>?_;go_simp;refine U4 ?_;clear b K b8;have f{G}(h:G:=by
   go_roundw
   case rel=>exact⟨i,.mk 35 PE 0 [r],aM,aI,rfl,e.out,M,aQ,by have ap:=aO;rw[show Tr.mk n.kd n.tx n.n (n.fS++[])=Tr.mk 35 PE 0 [r] by rw[N];rfl] at ap;exact ap⟩
   case measure=>rw[VL M,VL a1];omega):=Pq h;exact Iu
  ·obtain⟨cq,cj,aX,rfl,bq,b3,bA⟩:=ba.vX ay;have dc:=ba.2.2;have cz:0<B.length:=List.length_pos_iff.2 ay;have cn:=Open.apart s ah.size cJ p.out (show P6 (gz R.heap.size) H B aX from b3);have aY:=P6.length _ _ L.fS;have cg:=Pj bz;have ci:=be.size;have bv:=L.row;rw[aY] at bv;have b6:=bv;have b7:=Y bq;have b5:=Y aY;clear ay aY;refine WB 11 λK b=>?_
   refine step_append_lies _ rfl _ _ 38 rfl w.heap.size 22 cA Rz 1 8 hX cp cr ce ck rfl PK _ _ _ rfl b6 (Pn cq 0) B.length cj (aX.map Pm) rfl (by simp[bq]) bA (avs aX) cz (by unfold maxLen;omega) Pv ci H.heap.size rfl ?_
   intro db da aW cy br bo _;refine b _ _ ?_;clear b K;have bI:=Y (OE (c:=n.fS.length+B.length) L cn bH be bx.out cy (by rw[b5.out,b7.out]) br bo);have cw:aW.cell? (Pn a 3)=H.cell? (Pn a 3)/\aW.frozen? (Pn a 3)=H.frozen? (Pn a 3):=by
    have bn:aW.heap[a]?=H.heap[a]?:=br.block a cH (λj=>L.own j.symm);exact⟨gN (w:=H) bn,hf (w:=H) bn⟩
   obtain⟨b2,cx⟩:=cw;rw[bF] at b2;rw[bG 3] at cx;clear bo bF bG bA cg;have f{G}(h:G:=by
   go_roundw
   case rel=>exact⟨i,.mk 35 PE 0 (r::B),aM,aI,rfl,e.out,M,aQ,by have ap:=aO;rw[show Tr.mk n.kd n.tx n.n (n.fS++B)=Tr.mk 35 PE 0 (r::B) by rw[N];rfl] at ap;exact ap⟩
   case measure=>rw[VL M,VL a1];omega):=Pq h;exact Iu):G:=h
def Ds (h:G:=by
  have cj:=b.lt;clear d;obtain⟨ck,aI,bQ,bU⟩:=Pj bE;have aH:=P6.length _ _ bQ;have bx:=Qm aI;rw[aH] at aI;have bN:=aI;have bK:=Y aH;have bS:=bU;have bm:=aQ.size;have aK:=Pj b1;have bv:=Y bx;clear bx aH
  go_wp2_with (at_builtin;refine wpList_append_lies _ rfl _ _ 38 rfl m.heap.size 22 a6 Rz 1 8 hX aY a1 aW aX rfl PK _ _ _ rfl (bN.alloc _) (Pn L.heap.size 0) 1 1 [Pm M] rfl rfl (TF L M _ rfl) (g8 M) PK (by unfold maxLen;omega) Pv SC (L.heap.size+1) Qh ?_)
  intro bP bO ax hown' aE bn _;have bq:KV m.heap.size ax (p++[w]) (.slice (some (Pn bP 0)) (p.length+1) bO):=Bw bS (by rw[hc];exact hown') (by simp[bK.out]) aE bn
  have br:=(aQ.alloc bm (.cells #[Pm M] 22)).grown aE SC (λi au=>(Pj bv i au).2);have aD:=bB.ap (((gi m.heap.size L).alloc bm (.cells #[Pm M] 22)).grown aE SC (λi au=>(Pj bv i au).2)) aR.out;clear bn
  by_cases n:fx a.l r=shut
  ·have c:=Y (Ua a shut ax r g aD n bA.out);rw[fY n] at l;clear n;go_wp2_with fail;refine XO ?_;rintro j ap ⟨rfl,bR,bi⟩;have S:=br.next bi;have R:=bR;have aJ:=KV.fQ bq bi z.out;go_wp2;go_ret;exact UM l.out.symm ⟨aJ,λH=>absurd H Qh,by simp;omega⟩ R S
  ·have c:=Y (UL a shut ax r g aD n);rw[fT n] at l;clear n;go_wp2_with fail;refine XO ?_;rintro j ap ⟨rfl,ay⟩;have S:=br.next (Ap.of ay);have R:=aD.fQ ay;have aJ:=KV.fQ bq (Ap.of ay) z.out
   cases T:Qx a.l rf r with
   |out=>
    exact yw
   |ga aM aO=>
    have c:=Y (Qp a rf ap r g R PK);have f{G}(h:G:=by
    exact⟨rfl,Ry l.out.symm (S.next d)⟩):=Pq h;exact ur
   |ok ce bj=>
    have c:=Y (Qp a rf ap r g R PK);have cg:r<bj:=by
     unfold Qx at T
     split at T
     ·
      cases T;omega
     ·
      cases T
    rw[T] at c l;simp only[gj] at l;clear T;go_wp2_with fail;refine XO ?_;intro j ci o;obtain⟨⟨cn,rfl,rfl⟩,b,d⟩:=o;have bJ:=S.next d;have bo:=b;have bW:=KV.fQ aJ d z.out;have b8:=b.lt;clear d;go_wp2
    go_roundw
    case rel=>exact⟨i,p++[w],bj,l.out,bo,bJ,bW,by simp;omega⟩
    case measure=>rw[VL bo,VL b0];omega):G:=h
def Bg (h:G:=by
  go_enter func105,ntmps105;go_wp2_with fail;refine cm aH ?_;rintro d k ⟨rfl,f⟩;rw[f];clear f;go_wp2_with fail;refine cm aD ?_;have g{G}(h:G:=by
  obtain⟨b,p⟩:=xE (w.alloc (.cells #[Ph (l:Int),Ph (-1),RF] 198));have g{G}(h:G:=by
  refine hT 4 5 (λK a=>?ca) λK a=>?cb
  case' ca=>
   go_simp;refine a _ _ ?_;clear a K;refine VP 5 ?_;refine VP 6 ?_
  case' cb=>
   go_simp;refine a _ _ ?_;clear a K;refine hT 4 6 (λK a=>?cc) λK a=>?cd
  case' cc=>
   go_simp;refine a _ _ ?_;clear a K;refine VP 6 ?_
  case' cd=>
   go_simp;refine a _ _ ?_;clear a K;refine VP 4 ?_
  all_goals
   refine WB 7 λK a=>?_;refine step_append_lies _ rfl _ _ 77 rfl H 198 ad _ 3 40 ls M O E L rfl PK _ _ _ rfl (X.drew.alloc _) (Pn b.heap.size 0) 1 1 [Ph (l:Int),Ph (-1),RF] rfl rfl (YH _ _ rfl _ _ _) (tM _ _) PK (by have:=D.out;unfold maxLen;omega) (by have:=D.out;omega) SC (b.heap.size+1) Qh ?_
   intro aT aR ah aQ aO aM _;refine a _ _ ?_;clear a K;have al:b.grownBy ah o.ownBlock:=PX (PX (a:=b.drew) ⟨rfl,rfl,rfl,Qq,λ_ _ _=>rfl⟩ (hS _ _ _)) aO;have ap:=Y (e.rC (l:Int) (-1) (a:=.slice (some (Pn aT 0)) (c.PL.length+1) aR) al aQ);have aW:ah.cell? (Pn H 1)=some o/\ah.frozen? (Pn H 1)=false:=by
    have aL:some H≠o.ownBlock:=λd=>by
     obtain⟨m,aK⟩:=QZ e.ro.row d.symm;exact Sj aK e.gG PK rfl
    have ay:=al.block H ae aL;exact⟨(gN (w:=b) (a:=(Pn H 1)) ay).trans j,(hf (w:=b) (a:=(Pn H 1)) ay).trans n⟩
   obtain⟨a6,a7⟩:=aW;clear aM j n S F N U;have a1:=D.out;refine wt 8 (PZ H 0) ?_;refine wt 9 (PZ H 1) ?_;refine VP 10 ?_;refine hj Qz ?_ _;go_simp;go_wp2;go_ret;exact⟨rfl,⟨_,_,_,_,ap.out.1⟩,(Qv.of q (Qe aE.out)).trans ap.out.2⟩):=Pq h;exact rK):=Pq h;exact th):G:=h
def FE (h:G:=by
  go_wp2_with fail;refine cm j ?_;rintro e ba ⟨⟨u2,rfl,ah⟩,s⟩;obtain⟨bG,bN,rfl⟩:=ah.form;have U:=I.trans (s.mono I.size);have aZ:=m.fQ s;have aW:=QV.fQ aI s;have A:=Iz (Ue a) _ ba ah Pv;go_wp2_with fail;refine cm A ?_;rintro e bK ⟨⟨u3,rfl,z⟩,v⟩;rw[<-L.out] at z;obtain⟨bH,bO,rfl⟩:=P7 z;have w:=U.trans (v.mono U.size);have bX:=aZ.fQ v;have al:=QV.fQ aW v;have aR:=z
  go_wp2_with (at_builtin;refine Zi rfl _ _ 26 rfl c.heap.size _ 9 aH (PI ByteArray.empty) 16 i7 aD aE ax ay rfl _ _ _ rfl al _ _ _ rfl aR (xV l) (by unfold maxLen;omega) Pv w.size ?_)
  intro a7 u hown4 aY;have S:QV c.heap.size u a7 M:=by
   refine mq ?_;rw[bo.out,gg,hc];exact hown4
  have k:=λi q=>(Qm al i q).2;have B:=w.grown aY w.size k;have a8:UN u a d:=UN.fQ h B;obtain⟨bI,bP,rfl⟩:=P7 S;have a6:=S;clear k;have j:=tK a d u a8 Pv;go_wp2_with fail;refine cm j ?_;rintro e aQ ⟨⟨u5,rfl,ap⟩,af⟩;obtain⟨bJ,bR,rfl⟩:=ap.form;have ak:=B.trans (af.mono B.size);have aO:=QV.fQ a6 af;have A:=Iz (Qi a) _ aQ ap Pv;go_wp2_with fail;refine cm A ?_;rintro e bD ⟨⟨u6,rfl,C⟩,X⟩;rw[<-H.out] at C;obtain⟨bE,bS,rfl⟩:=P7 C
  have E:=ak.trans (X.mono ak.size);have au:=QV.fQ aO X;have aX:=C
  go_wp2_with (at_builtin;refine Zi rfl _ _ 26 rfl c.heap.size _ 9 aH (PI ByteArray.empty) 16 i7 aD aE ax ay rfl _ _ _ rfl au _ _ _ rfl aX (xV G) (by unfold maxLen;omega) Pv E.size ?_)
  intro bj ae aL aM;have T:QV c.heap.size ae bj N:=by
   refine mq ?_;rw[bn.out,gg,hc];exact aL
  have k:=λi q=>(Qm au i q).2;have F:=E.grown aM E.size k;obtain⟨bW,bU,rfl⟩:=P7 T;have j:=Db N _ ae T Pv;clear k;go_wp2_with fail;refine cm j ?_;rintro e bL ⟨⟨u8,rfl,ad⟩,aT⟩;obtain⟨bF,bY,rfl⟩:=P7 ad;have a1:=TS ad F.size;have bi:=F.trans (aT.mono F.size);go_wp2;go_ret;exact⟨⟨_,rfl,a1⟩,bi⟩):G:=h
def IY (h:G:=by
  have a{G}(h:G:=by
  have s:Hid (wz.cell? (Pn w.heap.size 1)=some (PD true)):=by show _=_;rw[cell_of a7.out];rfl
  have a6:Hid (wz.cell? (Pn e 3)=some (.slice A C B)):=PV aR.out bx.out;have g:PG wz wz.drew:=RV.drew;refine Qd 6 (λt=>PG wz t) Qz ?_;have a{G}(h:G:=by
  refine ug 5 (RX (QI E) true) rfl (fU ⟨by kernel_rfl,λt j=>by have aD:=PV j D.out;have ah:=PV j s.out;go_simp⟩) g ?_
  exact FK):=Pq h;exact su):=Pq h;exact Ao):G:=h
def A0 (h:G:=by
  have a{G}(h:G:=by
  have s:Hid (wz.cell? (Pn w.heap.size 1)=some (PD n)):=by show _=_;rw[cell_of a7.out];rfl
  have a6:Hid (wz.cell? (Pn e 3)=some (.slice A C B)):=PV aR.out bx.out;have g:PG wz wz.drew:=RV.drew;refine Qd 6 (λt=>PG wz t) Qz ?_;have a{G}(h:G:=by
  refine ug 5 (RX (QI E) n) rfl (fU ⟨by kernel_rfl,λt j=>by have aD:=PV j D.out;have ah:=PV j s.out;go_simp⟩) g ?_
  exact FK):=Pq h;exact su):=Pq h;exact Ao):G:=h
def IM (h:G:=by
  refine Ud ?_ _;go_simp;have ae:=VB.late (v:=e) aK ak ((Qj.of a (Qe bP)).trans ap);exact qQ):G:=h
def yt (h:G:=by
  by_cases aO:bb=.no
  ·subst aO;have d:e=RI:=a.er;subst d;have L:bA=((⟨true,⟨aH,ay,aE⟩⟩,.no,bn),bo):=by rw[bF.out];unfold V7;rw[bI.out];rfl
   have bD:=Y L;clear L;have b{G}(h:G:=by
   refine XE (v:=.tuple #[XD ⟨true,⟨aH,ay,aE⟩⟩,RI]) ?_;exact py):=Pq h;exact tY
  ·obtain⟨bS,bU,d⟩:=a.er.X8 aO au;subst d;have L:bA=((⟨true,⟨aH,ay,aE⟩⟩,bb,bn),bo):=FL
   have bD:=Y L;clear L aO;have b{G}(h:G:=by
   refine ui ?_;exact py):=Pq h;exact tY):G:=h
def mu (h:G:=by
  rw[T] at c e;simp only[Qy] at e;clear T;go_wp2_with fail;refine cm c ?_;exact vI):G:=h
def rv (h:G:=by
  go_wp2_with fail;refine(vM _ _ _).mono ?_;rintro a8 aT ⟨ae,rfl,aH,aW,aO⟩;have aX:=L.trans (aO.mono af);have F:Below (w.alloc m7).heap.size (w.alloc m7) aT:=by simpa using aX
  obtain⟨z,aR⟩:=nW F;have aU:=Y aH;have ah:=F;have aY:(w.alloc m7).heap.size<=ae:=by simp;omega
  clear aH aW;go_wp2_with fail;exact nP (v:=.tuple #[Z9,Ph 0,.iface 150 (PZ ae 0)]) ⟨ae,rfl,r7 ah aY aU.out _ _ _ _⟩):G:=h
def WQ (h:G:=by
  subst c;refine nJ ?_;rfl):G:=h
def qs (h:G:=by
  clear h g D M j;rw[o] at p u i f s;clear o;go_enter jW,jT;go_wp2_with fail;refine cm f ?_;rintro d B ⟨rfl,z⟩;have A:=s.trans (z.mono s.size)
  cases m <;>
  ·unfold Wi;go_wp2;go_ret;exact⟨rfl,A⟩):G:=h
def zv (h:G:=by
  obtain⟨T,N,rfl⟩:=h.form;have E:=h;have H:=Y g;clear h g;go_enter func183,ntmps183;go_wp2_with fail
  go_loopw [8] (λq wr=>∃c:Nat,c<=a.length/\q=Ph c/\(a.take c).any f=false/\PG d wr) (λq _=>a.length - (intOf q).toNat)
  case atStart=>exact⟨0,ge _,rfl,rfl,RV⟩
  case round=>
   obtain⟨c,L,rfl,w,i⟩:=hrel;have v:=Y w;clear w
   by_cases r:c<a.length
   ·obtain⟨R,O,I,s,S,M,D⟩:=(E.fQ i).cell c r;have b{G}(h:G:=by
    have P:(c:Int)<(a.length:Int):=Pv;have n:=Pj H a[c] (gU _) I wr i D;have F:=Y (ha r)
    cases j:f a[c] with
    |true=>
     rw[j] at n;have p:=Y j;clear j;have b{G}(h:G:=by
     go_ret;refine⟨⟨c,rfl,?_⟩,u⟩;rw[hr Pv,eq_comm,jV];exact⟨a[c],gU _,p.out⟩):=Pq h;exact r2
    |false=>
     rw[j] at n;have p:=Y j;clear j;have b{G}(h:G:=by
     go_roundw
     case rel=>
      refine⟨c+1,by omega,by go_num,?_,u⟩;rw[F.out,kD,v.out];simp[p.out]
     case measure=>simp[intOf];omega):=Pq h;exact r2):=Pq h;exact Vt
   ·have b:c=a.length:=Pv;subst b;go_wp2;go_ret;refine⟨⟨-1,rfl,?_⟩,i⟩;have h:=Pj v;rw[gV] at h;rw[h];rfl):G:=h
def yl (h:G:=by
  rw[<-d];have q:=Y d;have ah:=F;have j{G}(h:G:=by
  clear d;have j{G}(h:G:=by
  refine YJ (v:=.tuple #[vA b,H]) ?_;rw[f.out];exact⟨⟨_,by rw[q.out],ah.RP u PK⟩,o⟩):=Pq h;exact Dy):=Pq h;exact v8):G:=h
def aKl (h:G:=by
  have aY:=Y aE;clear s aE;have cn:=aY;go_wp2_with fail;refine UG 11 λa=>?_;refine uh 0 (.iface ay aO) (a) ?_;refine uh 1 (PD true) (a) ?_;refine uh 2 (PD true) (a) ?_;refine uh 3 undef (a) ?_ (aZ:=f4 ⟨by kernel_rfl,rfl⟩);refine uh 4 undef (a) ?_ (aZ:=f4 ⟨by kernel_rfl,rfl⟩);refine uh 5 undef (a) ?_ (aZ:=f4 ⟨by kernel_rfl,rfl⟩);refine um ?_;refine VH 11 ?_;refine Ud ?_ _;obtain⟨bL,H⟩:=xE wz.drew;have o:PG wz bL:=by rw[H];exact RV.drew
  have ae:=Y (fZ o bQ.out);have bI:=q.ms.fQ o;have bN:=q.er.fQ o;have bm:=b1.trans (Qj.of (L:=none) o (Qe dg));obtain⟨dS,dP,dT,dR,dO,dU,dQ⟩:=Ql ae.out;obtain⟨dC,dr,dE,dt,du,dz,dG⟩:=Ql (fZ o q.v);go_simp;rw[<-H];clear H cg cp cq cr cw cx cy bK bJ bS bW bX bY bU;go_wp2_with fail;obtain⟨bh,a1,b8,bR,be,bA,bf,bi⟩:=i1 ae.out a8.out aW bm bI (Ph e.k) (Ph e.n) (PI e.s);rw[<-a1];refine YJ (v:=.tuple #[vA e,.iface ay aO]) ?_;rw[cn.out]
  exact⟨⟨_,rfl,bN.RP b8 PK⟩,be,bR⟩):G:=h
def CX (h:G:=by
  have bP:=Y (f7 a6);have ak:PG wr L:=by rw[ae];exact QK
  have bo:=Y (fV (fZ ak N.out));have bK:=Y (PV ak bN.out);have aR:=ak;have cK:k<L.heap.size:=by have:=ak.size;omega
  have cO:aQ<L.heap.size:=by have:=ak.size;omega
  have cP:=fR a6;have cL:H<L.heap.size:=fR (fZ ak N.out);rw[<-ae,<-al];clear ae al a6 dT bf;refine UG 8 λa=>?_;refine Az ?_;refine up 3 aQ 0 a ?_;refine up 4 aQ 0 a ?_;refine up 5 aQ 1 a ?_;refine uk 6 bK.out a ?_;refine jY 7 bP.out a ?_;refine QX 8 λK d=>?_;go_simp;refine cm (Pj cS _ (ax.fQ (aR.trans (a.mono aR.size)))) ?_;rintro j bJ ⟨rfl,cg,aT⟩;refine ko d ?_;clear d K;have aH:PG wr L.drew:=aR.trans (a.mono aR.size);have b1:=cg
  have b2:=(bh.trans (Td.of aH (Qe bL))).Yw aT;have bQ:=Y (aT.rest _ _ _ (fZ aH N.out) PK);have cp:=(aY.fQ aH).f2 λO m ad=>aT.rest O m 65 ad PK;have b5:Kp D bJ:=λO m j ad o=>Qv.kp aT O m j (Kp.of aH O m j (ay O m j ad o) o) o;refine Ud ?_ _;go_simp;go_wp2_with fail;refine⟨⟨i+1,by omega,by go_num,?_,b2,bQ.out,cp,b5⟩,by simp[intOf];omega⟩
  rw[DT c p vs i g be,<-cT.out,<-bb.out,<-cU.out];exact b1):G:=h
def Eh (h:G:=by
  obtain⟨aX,D⟩:=xE ((c.M.PL.length:Int):Int);rw[<-D] at T ⊢;clear D;go_enter func50,ntmps50
  go_wp2_with (at_builtin;refine wpList_append_lies _ rfl _ _ 81 rfl k 3 aM (Ph 0) 1 8 underlying81 aK aL aE aJ rfl PK _ _ _ rfl (S.alloc _) (Pn w.heap.size 0) 1 1 [Ph x] rfl rfl (Wo w x _ rfl) (L1 x) PK (by unfold maxLen;omega) Pv SC (w.heap.size+1) Qh ?_)
  intro ak X r hown' j A _;have i:PG w (w.alloc (.cells #[Ph x] 3)):=QK;obtain⟨p,au⟩:=(b.fQ i).t1 x (a:=.slice (some (Pn ak 0)) (m+1) X) j (by rw[<-P.out];exact hown') (λad o=>by
   simp only[Value.ownBlock,he] at o;subst o
   rcases A with h|h
   ·exact .inl h
   ·right;simp;omega)
  have aW:k<r.heap.size:=by have:=j.size;simp at this;omega
  obtain⟨aT,aR⟩:=((b.fQ i).hh.f2 (a:=[3]) (l:=k) (w':=r) (Qv.grown j SC λay o=>by
   obtain⟨ae,ad⟩:=QZ (b.fQ i).ow o;exact⟨((b.fQ i).ow.lt ay o).1,ae,3,ad,by simp⟩) PK PK PK PK PK).at_ 6 _ rfl
  have ap:=(Td.of i (Qe aI)).trans au;have af:=Pj T _ _ p.hh;clear A aO aQ;go_wp2_with fail;refine cm af ?_;rintro a aU ⟨rfl,aD,v⟩;have ax:=p.heap aD v;have ah:=ap.trans (Td.j6 v);go_wp2;go_ret;exact⟨rfl,_,ax,ah⟩):G:=h
def zl (h:G:=by
  obtain⟨bS,bU,d⟩:=a.er.X8 aO au;subst d;have L:bA=((⟨false,⟨aH,ay,aE⟩⟩,bb,bn),bo):=FL
  have b{G}(h:G:=by
  refine ya ?_;exact py):=Pq h;exact Kc):G:=h
def xP (h:G:=by
  refine b _ _ ?_;clear b K;refine VP 9 ?_;refine UE (listed':=tf 10 4) Qz rfl ?_;exact aH a k al.out):G:=h
def xG (h:G:=by
  go_wp2_with fail;refine(vM _ _ _).mono ?_;rintro au ap ⟨E,rfl,o,F,O⟩;have e:=f.trans (O.mono f.size);have U:=gr f.size F;clear z k;obtain⟨z,k⟩:=nW e;have S:=Y o;clear o F;go_wp2_with fail;exact nP (v:=.tuple #[Z9,Ph 0,.iface 150 (PZ E 0)]) ⟨E,rfl,r7 e U S.out _ _ _ _⟩):G:=h
def AQ (h:G:=by
  have j{G}(h:G:=by
  refine YJ (v:=.tuple #[vA b,RI]) ?_;rw[f.out,<-q.out];exact⟨⟨_,rfl,rfl⟩,o⟩):=Pq h;exact Dy):G:=h
def CG (h:G:=by
  have D{G}(h:G:=by
  refine wg 6 (.tuple #[.func (.func d) #[PZ m.R 0] #[],PD true]) rfl (fU ⟨by kernel_rfl,λW e=>by have u:=q.out W e;go_simp⟩) g ?_
  refine wh 7 (.tuple #[.func (.func d) #[PZ m.R 0] #[],PD true]) g ?_;refine wh 8 (.func (.func d) #[PZ m.R 0] #[]) g ?_;refine wh 9 (PD true) g ?_;refine wh 10 (.func (.func d) #[PZ m.R 0] #[]) g ?_;refine wh 11 (PD true) g ?_;refine Y8 ?_;have c:Hid _:=Pj HP z g;go_wp2_with fail;refine XO ?_;intro j L f
  cases k with
  |out=>exact absurd rfl s.out
  |ga A B=>
   obtain⟨rfl,n⟩:=f;exact⟨rfl,Ry rfl (r.next n)⟩
  |ok x H=>
   obtain⟨⟨v,rfl,B⟩,A,n⟩:=f;have C:=NV.mono B r.size;have E:=r.next n;go_wp2;go_ret;exact UM rfl C A E):=Pq h;exact yV):G:=h
def GH (h:G:=by
  have q{G}(h:G:=by
  clear hG n;go_wp2_with fail;exact nP (v:=.tuple #[.agg #[Ph 3,QB,Ph d,Ph (a:Int)],Ph (b:Int),RI]) ⟨rfl,Zu f _ _ _ _⟩):=Pq h;exact Hz):G:=h
def Ac (h:G:=by
  have D:Qv [3] k w b:=Qv.grown m (Qe h.lt) λX A=>by
   obtain⟨e,H⟩:=QZ h.ow A;exact⟨(h.ow.lt X A).1,e,3,H,by simp⟩
  have ae:=h.hh.f2 D PK PK PK PK PK;obtain⟨af,p⟩:=ae.cell 6 a;have i:Qv [3,84] k w (b.setCell (Pn k 8) a):=(D.mono PK Qq).trans (p.mono PK Qq);obtain⟨O,S,E,I⟩:=h.fu;refine⟨⟨h.bw.trans i.below,af,Qa h.lg i PK,Qa h.se i PK,?_,O,S,Qa E i PK,λT H P N R=>(I T H P N R).kp (λj e f l o=>i.rest j e f l (by rcases o with rfl|rfl <;> decide))⟩,⟨i.below,λj e f l o ad _=>?_,v,λ_ h=>.inl h⟩⟩
  ·have H:=Qa r p PK
   show World.ownsRow _ _ _ _ _ (c.QL++[x]).length ((c.QL++[x]).map _)
   rw[gg,hc];exact H
  ·have H:b.heap[j]?=some (Qb e f):=(m.block j (gM l) (λf=>ad f.symm)).trans l;exact p.rest j e f H (λd=>o (by rw[gn.1 d];decide))):G:=h
def HZ (h:G:=by
  refine uk 6 dF.out a ?_;refine kx 7 dG.out a ?_;refine QX 8 λK d=>?_;go_simp;refine pS ?_;have b{G}(h:G:=by
  have cx:=(Qj.of (L:=aJ) a (Qe dz)).trans ap;have cq:=Y (cx.TY cp de.out PK PK);have dO:=ak;have du:=aK;have dJ:=ci;have dM:=dm.up.trans cx;obtain⟨bA,bR⟩:=xE aE.1.1;rw[<-bR];have dN:=Y bR;clear bR;obtain⟨u0,u1,u2,u3,dP,dQ,dR,dT,dS⟩:=SA cq.out;refine uz 9 (XD bA) ?_;refine uz 10 p ?_;refine qh ?_;go_wp2_with fail;obtain⟨aY,a1,aH,bH,bD,bf,bh,be,bi⟩:=kb cq.out a8.out aW dM dO (PD bA.ret) (Ph bA.v.k) (Ph bA.v.n) (PI bA.v.s);rw[<-a1];refine XE (v:=.tuple #[XD bA,p]) ?_
  exact⟨⟨_,by rw[dN.out],du.RP aH PK⟩,bD,bH,dJ.UJ aH⟩):=Pq h;exact m5):G:=h
def FS (h:G:=by
  have b{G}(h:G:=by
  refine uh 10 (PD true) (o) ?_;refine VH 11 ?_;refine Ud ?_ _;have cS:=Y (fZ o bQ.out);have aY:=q.ms.fQ o;have de:=b1.trans (Qj.of (L:=none) o (Qe dg));have dm:=aY.lt;obtain⟨dS,dP,dT,dR,dO,dU,dQ⟩:=Ql cS.out;obtain⟨dC,dr,dE,dt,du,dz,dG⟩:=Ql (fZ o q.v);clear cg cp cq cr cw cx cy bK bJ bS bW bX bY bU;go_simp;go_wp2_with fail;obtain⟨bh,a1,b8,bR,be,bA,bf,bi⟩:=i1 cS.out a8.out aW de aY (Ph e.k) (Ph e.n) (PI e.s);rw[<-a1];refine YJ (v:=.tuple #[vA e,RI]) ?_
  have aE:ci=((e,.no),L):=by rw[cn.out];unfold mf;rw[da.out];simp[dp.out,di.out]
  rw[aE];exact⟨⟨_,rfl,rfl⟩,be,bR⟩):=Pq h;exact H2):G:=h
def IL (h:G:=by
  rw[<-b6,d2.out] at ce;clear aY b6 bn;go_wp2_with fail;refine cm ce ?_;rintro j aR ⟨⟨d8,rfl,aK⟩,d4,dg,ci⟩;have aK:Yu A aR d8 b7:=aK;have bi:=dg.TY dd b2.out PK PK;have dY:k<=cx:=by have:=Pj dc;omega
  have a6:=U8 bi dY (PD ad.ret) (Ph ad.v.k) (Ph ad.v.n) (PI ad.v.s);have dX:=Y (lY bi (PD ad.ret) (Ph ad.v.k) (Ph ad.v.n) (PI ad.v.s));have dW:=d4.ZR a6 PK;have dU:=aK.RP a6 PK;have dV:=P9.UJ ci a6;have d5:=(ap.trans dg).ia a6 (VJ dc.out _ _ _ _);clear dZ d7 d1 d0 d3 cq cj cr cy cp b1 cw cB cn b3 df;obtain⟨cq,cj,cr,cy,cp,b1,cw,cB,cn⟩:=SA (bi);clear bi;go_wp2
  go_roundw
  case rel=>
   exact⟨i+1,ad,b7,dh,de,by omega,by go_num,dW,d6.out,d5,dV,dX.out,dU,dT.out⟩
  case measure=>simp[intOf];omega):G:=h
def r5 (h:G:=by
  have c:=Qp m SH (L.setCell (Pn g 3) (.slice (some (Pn be 0)) (aJ.fS.length+1) ba)) C q a8 PK;rw[T] at c e;simp only[Qy] at e;clear T;have f{G}(h:G:=by
  exact⟨rfl,Ry e.out.symm (bf.next d)⟩):=Pq h;exact Y1):G:=h
def aJI (h:G:=by
  rw[B,al,show w.heap.size+1+1+1=(((w.alloc (.cells #[Pm k] 62)).alloc (.cells #[Ph o,Ph n,PD q,.pointer c] 73)).alloc (.cells #[.slice bb a s] 311)).heap.size by simp];exact Pz _ _):G:=h
def q0 (h:G:=by
  have dd:M.heap[g]?=r.heap[g]?:=(aE.block g SC (λj=>C.own j.symm)).trans (gy r _ g aI);exact⟨gN (w:=r) dd,hf (w:=r) dd⟩):G:=h
def qV (h:G:=by
  have cp:L.heap[g]?=a.heap[g]?:=(aE.block g SC (λj=>z.own j.symm)).trans (gy a _ g N);exact⟨gN (w:=a) cp,hf (w:=a) cp⟩):G:=h
def OJ (h:G:=by
  refine kS ?_;clear d K;refine QX 8 λK d=>?_;go_simp;refine oi ?_;have b{G}(h:G:=by
  have s:aR.heap[L.heap.size]?=some (Qb #[Ph 0,Ph 0,QB] 65):=ap.f2 (Pz _ _) PK;obtain⟨cH,bz,cO,bL,cr,cA,cR⟩:=Ql s;refine o3 ?_;refine nR ?_;have ae:=VB.early (v:=e) s Qq (Qe bS) aK ak ((Qj.of (QK.drew) (Qe bS)).trans ap)
  generalize ((aR.setCell (Pn L.heap.size 0) (Ph e.k)).setCell (Pn L.heap.size 1) (Ph e.n)).setCell (Pn L.heap.size 2) (PI e.s)=wz at ae ⊢
  generalize L.heap.size=D at ae ⊢
  exact aT wz D p ae):=Pq h;exact kW):G:=h
def An (h:G:=by
  obtain⟨r,o,d⟩:=I9 k b l;have s:=lK;have m:=underlying80;have n:(zeroValue 3).run prog W=.ok (Ph 0) W:=by kernel_rfl
  unfold Instr.lookup;rw[gW,hx m W];have p:∀i,(Instr.checkKey i 10000 22 (Pm c)).run prog W=.ok () W:=by
   intro i;rw[Instr.checkKey,gW,hx s W];rfl
  have q:(getObj e).run prog W=.ok (.map (XF b) g) W:=by simp[getObj,Sem.run,j]
  simp only[h5,gW,q,Sem.run_pure,p,o]
  cases r with
  |none=>
   cases f:b.find? (λa=>decide (c=a.1)) with
   |none=>simp[n]
   |some x=>rw[f] at d;simp at d
  |some y=>
   cases f:b.find? (λa=>decide (c=a.1)) with
   |none=>rw[f] at d;simp at d
   |some x=>rw[f] at d;simp at d;simp[d]):G:=h
def I5 (h:G:=by
  clear d s
  by_cases P:a=j
  ·subst P;rw[show (f.name.toList==g.toList)=true by
    have:=S.out;rw[gq q] at l;rw[hb l] at this;exact this] at n
   clear l;have b{G}(h:G:=by
   go_ret;exact⟨rfl,u⟩):=Pq h;exact r2
  ·rw[show (f.name.toList==g.toList)=false by
    have:=T.out a Pv;rw[gq q] at l;rw[hb l] at this;simpa[ZO] using this] at n
   clear l;have b{G}(h:G:=by
   go_roundw
   case rel=>exact⟨a+1,by omega,by go_num,u⟩
   case measure=>simp[intOf];omega):=Pq h;exact r2):G:=h
def Is (h:G:=by
  have c:=WM b5 s.drew q (E+1) aO.drew (by rw[T];nofun)
  rw[T] at c e;simp only[Qy] at e;clear T;go_wp2_with fail;refine l2 ?_;refine p1 ?_;refine hT 4 8 (λK b=>?_) λK b=>?_
  ·go_simp;refine U4 ?_;clear b K;refine WB 8 λK b=>?_;go_simp;exact Fd
  ·go_simp;exact Fd):G:=h
def sF (h:G:=by
  go_wp2_with fail;obtain⟨bh,a1,aY,aH,aE,bA,bf,bi⟩:=i1 bQ.out a8.out aW b1 (q.ms) (Ph 0) (Ph 0) (QB);refine qp ?_;rw[be.out];exact⟨⟨_,rfl,q.er.RP aY PK⟩,aE,aH⟩):G:=h
def Cg (h:G:=by
  show Below _ _ _
  rw[af];exact((o.out.trans (X.mono o.out.size)).setCell (p:=(Pn w.heap.size 0)) Qq _).setCell (p:=(Pn w.heap.size 1)) Qq _):G:=h
def qU (h:G:=by
  rw[T] at c e;simp only[Qy] at e;clear T;have f{G}(h:G:=by
  exact⟨rfl,Ry e.out.symm (n.next d)⟩):=Pq h;exact Y1):G:=h
def qx (h:G:=by
  rw[T] at c e;simp only[Qy] at e;clear T;have f{G}(h:G:=by
  exact⟨rfl,Ry e.out.symm (q.next d)⟩):=Pq h;exact Y1):G:=h
def Lx (h:G:=by
  rw[B,bE,show w.heap.size+1+1=((w.alloc (.cells #[Pm k] 62)).alloc (.cells #[Ph o,Ph n,PD q,.pointer c] 73)).heap.size by simp];exact f8 (Pz _ _)):G:=h
def aJZ (h:G:=by
  rw[aI,cJ,show w.heap.size+3=(((w.alloc (.cells #[Ph B,Ph C,PD F,.pointer a7] 73)).alloc (.cells #[PD n,Ph o,Ph on,PI s] 67)).alloc (.cells #[PD false,Ph 0,Ph 0,QB] 67)).heap.size by simp];exact Pz _ _):G:=h
def LB (h:G:=by
  have c:=WM B af g (a+1) ae (by rw[T];nofun)
  have f{G}(h:G:=by
  intro j E o;obtain⟨⟨bn,rfl,ad,rfl,aW⟩,u,d⟩:=o;have aU:=L.next d;have aO:=u;replace b:=wQ b d A.out L.size aW;have c:=QO 24 PE (.slice (some (Pn E.heap.size 0)) 2 2) (E.alloc (.cells #[Pm H,Pm ad] 22)) ⟨_,_,_,rfl⟩;have f{G}(h:G:=by
  obtain⟨aQ,aR,aT⟩:=made aO aU b (by simp[maxLen]) #[Pm H,Pm ad] rfl 2 rfl 24 PE (E.heap.size+1) rfl;exact UM e.out.symm aQ.nv aR aT):=Pq h;exact l0):=Pq h;exact Y4):G:=h
def yG (h:G:=by
  rintro ay ax ⟨A,rfl,s,p,X⟩;have B:=m.trans (X.mono m.size);have H:=gr m.size p;exact DY):G:=h
def WG (h:G:=by
  have b:=Pz (w.alloc (.cells #[.pointer c,PD false] 100)) (.cells #[Rz,PD false] 100);rw[show (w.alloc (.cells #[.pointer c,PD false] 100)).heap.size=w.heap.size+1 by simp] at b;rw[ax];exact b):G:=h
def GD (h:G:=by
  rw[<-be] at cg;refine cm cg ?_;rintro j dQ ⟨rfl,ci⟩;have ay:=Y (fZ ci b8.out);have bS:=b1.fQ ci;have bR:=cR.trans (Qj.of (L:=none) ci (Qe b6));have dK:=Y be;obtain⟨dE,dC,dD,dF,dG,dH,dJ⟩:=Ql ay.out;clear be da cS db cZ cy dc cT cB dd cK cG cL;have b{G}(h:G:=by
  have e:bm=((H,.no),aT):=by rw[cH.out,dK.out];rfl
  rw[e];exact⟨⟨_,rfl,rfl⟩,aE,aH⟩):=Pq h;exact n5):G:=h
def aJY (h:G:=by
  refine zS ?_;exact f8 (Pz _ _)):G:=h
def aJ1 (h:G:=by
  refine zS ?_;exact Pz _ _):G:=h
def pU (h:G:=by
  go_wp2_with fail;refine cm b ?_;rintro d w' ⟨rfl,rfl⟩;go_wp2;go_ret;exact⟨rfl,rfl⟩):G:=h
def CR (h:G:=by
  refine cm (VI (es:=aE) cp gJ) ?_;rintro j fw ⟨⟨p,rfl,D⟩,dC⟩;have bE:=Y (fZ dC bN.out);have dD:=aO.fQ dC;have cq:=b2.trans (Qj.of (L:=none) dC (Qe cp));have fa:=D;clear D;obtain⟨u0,u1,u2,du,dv,dx,dz⟩:=Ql bE.out;have b{G}(h:G:=by
  refine yU ?_;rw[L.out];exact⟨⟨_,rfl,fa.RP b8 PK⟩,be,bR⟩):=Pq h;exact wc):G:=h
def E1 (h:G:=by
  obtain⟨z,au⟩:=nW A;go_wp2_with fail;exact nP (v:=.tuple #[.agg #[Ph d,PI f,Ph e,Ph (a:Int)],Ph (c:Int),RI]) ⟨rfl,Zu A _ _ _ _⟩):G:=h
def aJG (h:G:=by
  rw[B,bF,show w.heap.size+1=(w.alloc (.cells #[Pm k] 62)).heap.size by simp];exact f8 (f8 (Pz _ _))):G:=h
def IA (h:G:=by
  refine VH 12 ?_;refine Ud ?_ _;go_simp;have E:PG M (M.alloc (.cells #[Ph 1,Ph 0,PD r,Rz] 73)).drew/\(M.alloc (.cells #[Ph 1,Ph 0,PD r,Rz] 73)).drew.heap[M.heap.size]?=some (Qb #[Ph 1,Ph 0,PD r,Rz] 73):=⟨QK.drew,Pz _ _⟩
  generalize (M.alloc (.cells #[Ph 1,Ph 0,PD r,Rz] 73)).drew=wz at E ⊢
  have aO:M.heap.size<=M.heap.size:=Qq
  generalize bb:M.heap.size=ay at E aO ⊢
  exact d2 wz ay (by rw[bb];exact⟨E.1,E.2,aO⟩)):G:=h
def tj (h:G:=by
  go_wp2_with fail;refine cm e ?_;rintro b k ⟨⟨a,rfl,T⟩,i⟩;obtain⟨j,uc,rfl⟩:=T.form;go_wp2;go_ret;exact⟨⟨_,rfl,T⟩,i⟩):G:=h
def yW (h:G:=by
  clear a;go_enter func348,ntmps348;have d:=TD m w l c h;unfold kC at d;have n:=rB (Qn m.l l);go_wp2_with fail;refine cm d ?_;rintro b wt ⟨rfl,e⟩;have o:=h.fQ e;go_wp2;go_ret;exact⟨rfl,e⟩):G:=h
def aKa (h:G:=by
  unfold Q7 at b0;unfold hz;rw[fY (by
   have bv:a.kd=5\/a.kd=37:=by simpa using b0
   exact bv.imp id fU)]):G:=h
def Bd (h:G:=by
  have n{G}(h:G:=by
  refine cm (VI (es:=ay) r gJ) ?_;exact GE):=Pq h;exact zb):G:=h
def EY (h:G:=by
  have:=AX m (fx m.l l) W k.base.jG;rw[o] at this;exact this):G:=h
def aJX (h:G:=by
  rw[aI,bX,show w.heap.size+1=(w.alloc (.cells #[Ph B,Ph C,PD F,.pointer a7] 73)).heap.size by simp];exact f8 (f8 (Pz _ _))):G:=h
def Gb (h:G:=by
  refine Y8 ?_;go_wp2_with fail;exact XE (v:=.tuple #[.agg #[QB,Ph 0,Ph 0,Ph 0],PD false]) ⟨rfl,AP N Qq _ _ _ _⟩):G:=h
def Ew (h:G:=by
  rintro k a7 ⟨⟨rfl,be⟩,bv⟩;have a8:PG r a7:=q.trans (bv.mono q.size);have br:=q.size;refine d.out _ _ (λ_=>a8) ?_;clear d K;refine QX 10 λK d=>?_;go_simp;refine cm (Pj af r a7 _ bF.out a8 Pv be) ?_;rintro k bL ⟨rfl,bb⟩;refine nz ?_;clear d K;refine oB Qz ?_ _;have bx:=Y bb;clear bb be br;go_simp;go_wp2_with fail;exact Uj (v:=.tuple #[]) ⟨rfl,bx.out⟩):G:=h
def FJ (h:G:=by
  refine uh 9 (.agg #[Ph 0,Ph 0,QB]) (a) ?_;refine QX 10 λK d=>?_;go_simp;refine cm (Pj C _ a) ?_;rintro j bF ⟨rfl,bh,be⟩;refine ko d ?_;clear d K;have ba:=bh;have bb:=b0.trans ((Qv.of a (Qe bf)).trans be);refine Ud ?_ _;go_simp;go_wp2
  go_roundw
  case rel=>
   refine⟨i+1,by omega,by go_num,?_,bb⟩;have h:=ba;rw[aO.out] at h;rw[r.out];exact h
  case measure=>simp[intOf];omega):G:=h
def sD (h:G:=by
  have f{G}(h:G:=by
  obtain⟨al,ap,ax⟩:=Pj A;exact UM rfl al ap ax):=Pq h;exact l0):G:=h
def Hi (h:G:=by
  have cK:=u;replace bF:=EV.fQ bF d p.out;have aD:=Pj cw;subst aD;go_wp2;go_ret;exact UM e.out.symm bF.nv cK cq):G:=h
def Jb (h:G:=by
  have c:=Qp m SH (L.setCell (Pn g 3) (.slice (some (Pn be 0)) (aJ.fS.length+1) ba)) C q a8 PK;have f{G}(h:G:=by
  intro j cg o;obtain⟨⟨ce,rfl,rfl⟩,u,d⟩:=o;have bX:=bf.next d;exact Dn):=Pq h;exact Y4):G:=h
def wq (h:G:=by
  cases I with
  |mk ap ae aD bB af=>
   rw[Rl] at ah;obtain⟨_,_,⟨v,ad,_⟩,_⟩:=ah;exact⟨_,ad⟩):G:=h
def Cc (h:G:=by
  clear v;go_enter func55,ntmps55;have b{G}(h:G:=by
  have f:=d;go_wp2_with fail;refine cm (O.out k f) ?_;rintro a N ⟨rfl,rfl⟩;go_wp2_with fail;refine cm (E.out N f) ?_;rintro a aD ⟨rfl,M⟩;have D:=f.trans (M.mono f.size);go_wp2;go_ret;exact⟨rfl,D.alloc D.size _⟩):=Pq h;exact oT):G:=h
def NO (h:G:=by
  rw[aI,bX,show w.heap.size+1=(w.alloc (.cells #[Ph B,Ph C,PD F,.pointer a7] 73)).heap.size by simp];exact f8 (Pz _ _)):G:=h
def B9 (h:G:=by
  refine uh 4 (PI b) (a) ?_;refine jY 5 N.out a ?_;refine QX 6 λK d=>?_;go_simp;refine cm (Pj C _ a) ?_;rintro j aU ⟨rfl,aE,ax⟩;refine ko d ?_;clear d K;have ap:=aQ.trans ((Qj.of (L:=none) a (Qe aR)).trans (Qj.j6 ax));refine uz 7 (Vg ae) ?_;refine Ud ?_ _;go_simp;go_wp2;go_ret;exact⟨⟨_,rfl,wY B.out⟩,⟨_,_,_,_,aE⟩,ap⟩):G:=h
def IR (h:G:=by
  rw[n] at j;have D:=Y n;clear n;have b{G}(h:G:=by
  go_wp2
  go_roundw
  case rel=>
   refine⟨a+1,by omega,by go_num,?_,o.drew⟩;intro e ak i N
   rcases im e a with h|h
   ·exact B.out e ak h N
   ·have:e=a:=Pv;subst this;rw[O.out] at N
    cases N
    exact D.out
  case measure=>simp[intOf];omega):=Pq h;exact mr):G:=h
def ub (h:G:=by
  refine l3 ?_;intro j bL o;obtain⟨rfl,d⟩:=o;exact⟨rfl,Ry e.out.symm (ah.drew.next d)⟩):G:=h
def xB (h:G:=by
  refine cm (i.zu _ k) ?_;rintro e P ⟨rfl,R⟩;have j:PG c P:=k.trans (R.mono k.size);go_wp2;go_ret;exact⟨rfl,f.trans (j.mono f.size)⟩):G:=h
def wV (h:G:=by
  rw[T] at c e;simp only[Qy] at e;clear T;have f{G}(h:G:=by
  exact⟨rfl,Ry e.out.symm (r.next d)⟩):=Pq h;exact Y1):G:=h
def HC (h:G:=by
  simp only[h5,gW,r,Sem.run_pure,q,p]
  cases j with
  |none=>
   cases i:a.find? (λc=>decide (b=c.1)) with
   |none=>simp[o]
   |some x=>rw[i] at d;simp at d
  |some y=>
   cases i:a.find? (λc=>decide (b=c.1)) with
   |none=>rw[i] at d;simp at d
   |some x=>rw[i] at d;simp at d;simp[d]):G:=h
def CQ (h:G:=by
  have o:=m c L I;have C:=(ky.1 e).1;rw[q] at o
  cases B:listed[b]? with
  |none=>simp[B] at o
  |some x=>simp[B] at C o;rw[C] at o;cases o):G:=h
def qN (h:G:=by
  rw[b];clear b;go_enter func296,ntmps296;go_wp2;go_ret;exact⟨rfl,H⟩):G:=h
def CO (h:G:=by
  rcases im 0 w.heap.size with h|h
  ·exact h
  ·simp[World.cell?,kF h] at o):G:=h
def aKk (h:G:=by
  have ay:=Y ae;clear s ae;go_wp2_with fail;obtain⟨aY,a1,aH,bH,bD,bf,bh,be,bi⟩:=kb dr.out a8.out aW b1 (q.ms) (PD false) (Ph 0) (Ph 0) (QB);rw[<-a1];refine pO (v:=.tuple #[XD SG,.iface aO bm]) ?_;rw[ay.out];exact⟨⟨_,rfl,q.er.RP aH PK⟩,bD,bH.up,dt.UJ aH⟩):G:=h
def td (h:G:=by
  have U{G}(h:G:=by
  cases c with
  |_=>exact d):=Pq h;exact m8):G:=h
def Ga (h:G:=by
  have n{G}(h:G:=by
  go_ret;exact⟨⟨_,rfl,rfl⟩,X,aO⟩):=Pq h;exact zb):G:=h
def z6 (h:G:=by
  have H:=L;have aH:=F;rw[<-f];clear f;refine b.out _ _ H (λ_=>?_);clear b K;refine wh 12 (PD true) H ?_;refine Y8 ?_;go_wp2_with fail;exact XE (v:=.tuple #[.agg #[PI x.tx,Ph x.kd,Ph x.parts,Ph x.str],PD true]) ⟨rfl,AP aH Qq _ _ _ _⟩):G:=h
def Eu (h:G:=by
  have b:=p;go_wp2_with fail;refine cm (Yq Vd q) ?_;rintro c ad ⟨⟨B,rfl,_,A⟩,s⟩;have O:=b.trans (s.mono b.size);exact Io):G:=h
def CV (h:G:=by
  have b{G}(h:G:=by
  go_wp2;go_ret;exact⟨rfl,D⟩):=Pq h;exact vP):G:=h
def JY (h:G:=by
  have H:=Y e;clear s e;go_simp;have b{G}(h:G:=by
  refine qp ?_;rw[H.out];exact⟨⟨_,rfl,dq.RP aY PK⟩,aE,aH⟩):=Pq h;exact uI):G:=h
def yK (h:G:=by
  have:Tr.f5 a.fS=Tr.f5 (a.fS.take (c+1))+Tr.f5 (a.fS.drop (c+1)):=by rw[<-Vm,jm]
  omega):G:=h
def s9 (h:G:=by
  go_enter func161,ntmps161;go_wp2;go_ret;exact⟨rfl,by rw[n.out];exact U,RV⟩):G:=h
def NI (h:G:=by
  rw[cz.out,bq,show w.heap.size+1=(w.alloc (.cells #[Ph e,Ph n,PD false,.pointer F] 73)).heap.size by simp];exact Pz _ _):G:=h
def ZS (h:G:=by
  have b5:=Y ap;clear s ap;go_wp2_with fail;refine Uj (v:=.iface ci cr) ?_;rw[b5.out];exact⟨⟨_,rfl,o.er⟩,o.ms,ae⟩):G:=h
def CJ (h:G:=by
  exact⟨by show (0:Int)<=(σ.M.PL.length:Int);omega,by show (σ.M.PL.length:Int)<_;simp[St.gv,Mo.scope];omega⟩):G:=h
def DE (h:G:=by
  rintro d k ⟨rfl,A⟩;have D:=((gi _ w).alloc Qq _).trans (A.mono Qh);go_wp2;go_ret;exact⟨rfl,D⟩):G:=h
def C3 (h:G:=by
  go_wp2_with fail;obtain⟨bh,a1,b8,bR,be,bA,bf,bi⟩:=i1 bQ.out a8.out aW cR cS (Ph b7.k) (Ph b7.n) (PI b7.s);rw[<-a1];refine YJ (v:=.tuple #[vA b7,p]) ?_;rw[L.out];exact⟨⟨_,by rw[ep.out],eu.RP b8 PK⟩,be,bR⟩):G:=h
def JK (h:G:=by
  rcases Wq (λe=>ZO d e.name) x.cs with ⟨q,m⟩|⟨O,ap,q,m,E,_⟩
  ·rw[show fC d x.cs=none from q] at f;cases f
  ·rw[show fC d x.cs=some O from q] at f;cases f;rw[p] at m;cases m;simp[Mo.Y2,HL l,E]):G:=h
def aJy (h:G:=by
  intro O r
  rcases r with r|r
  ·obtain⟨cJ,bS,_,bR,_⟩:=aJ.gG;have cH:cJ=.slice ad z.length U:=by rw[aR] at bS;simpa using bS.symm
   rw[cH] at bR;exact⟨(aJ.ne O r).1,bR O r⟩
  ·rw[r];exact⟨fR aR,cX.out⟩):G:=h
def tW (h:G:=by
  rw[b];clear b;go_enter func61,ntmps61;go_wp2;go_ret;exact⟨rfl,g⟩):G:=h
def sJ (h:G:=by
  go_wp2
  all_goals first|omega|skip
  all_goals go_ret
  all_goals exact⟨rfl,rfl⟩):G:=h
def EX (h:G:=by
  have:=Hs (b.extract a (Qk RJ b a)) (λo v=>by
   rw[xx b a _ o c v];exact wf RJ b (b.size - a) a Pv (a+o) Pv Pv Pv) (Qk RJ b a - a)
  rw[iN (by rw[CI];omega)] at this
  exact this):G:=h
def qg (h:G:=by
  rw[ha d,jj];rfl):G:=h
def uD (h:G:=by
  have:=Lr a g W (cM W i);rw[j] at this;exact this):G:=h
def AH (h:G:=by
  have c:=SI D E H g C _ rfl (by rw[T];nofun) R
  rw[T] at c e;simp only[Qy] at e;clear T;have f{G}(h:G:=by
  exact⟨rfl,Ry e.out.symm (S.next d)⟩):=Pq h;exact Y1):G:=h
def tg (h:G:=by
  show _=_
  rw[aT,gY _ _ _ _ (hV bL.out)];exact Pj bn):G:=h
def EG (h:G:=by
  rw[d,g9 _ _ _ Qh,iC _ _ _ _ rfl];rfl):G:=h
def Du (h:G:=by
  rw[g9 _ _ _ Qh,g9 _ _ _ D];exact o):G:=h
def aJz (h:G:=by
  have c:=WM B af g (a+1) ae (by rw[T];nofun)
  rw[T] at c e;simp only[Qy] at e;clear T;have f{G}(h:G:=by
  exact⟨rfl,Ry e.out.symm (L.next d)⟩):=Pq h;exact Y1):G:=h
def Bj (h:G:=by
  clear o
  cases z <;>
  ·go_enter func194,ntmps194;go_wp2_with fail;rw[<-e];refine cm j ?_;rintro p F ⟨rfl,r⟩;have w:=d.trans (r.mono d.size);clear e;go_wp2;go_ret;exact⟨rfl,w⟩):G:=h
def Jx (h:G:=by
  obtain⟨q,n,rfl⟩:=h.form;clear h g;go_enter func248,ntmps248;go_wp2_with fail;refine cm c ?_;rintro e r ⟨⟨p,rfl,b⟩,i⟩;have j:=Y b;clear b;go_wp2;go_ret;exact⟨U3 j.out,i⟩):G:=h
def Bp (h:G:=by
  clear b;go_enter func51,ntmps51;go_wp2;go_ret;exact⟨rfl,rfl⟩):G:=h
def Nh (h:G:=by
  have c:=Qp m SH s E q aO PK;rw[T] at c e;simp only[Qy] at e;clear T;have f{G}(h:G:=by
  exact⟨rfl,Ry e.out.symm (aI.next d)⟩):=Pq h;exact Y1):G:=h
def zL (h:G:=by
  refine wh 15 (PD false) rfl ?_;refine wh 16 (PD false) rfl ?_;refine Y8 ?_;go_wp2
  go_roundw
  case rel=>exact⟨i+1,by omega,by go_num,cz.out.drew⟩
  case measure=>simp[intOf];omega):G:=h
def GP (h:G:=by
  obtain⟨s,A,b,o⟩:=h.fu;exact⟨h.bw.trans (a.mono (Qe h.lt)),h.hh.fQ a,Qs h.lg a,Qs h.se a,Qs h.ow a,s,A,Qs b a,λD e v r f=>(o D e v r f).kp (Kp.of a)⟩):G:=h
def Hn (h:G:=by
  intro b aR d
  match b,d with
  |0,d=>simp at d;subst d;simp[Addr.add]
  |1,d=>simp at d;subst d;simp[Addr.add]
  |2,d=>simp at d;subst d;simp[Addr.add]
  |3,d=>simp at d;subst d;simp[Addr.add]):G:=h
def Ab (h:G:=by
  refine⟨k,?_,?_⟩
  ·have:=O.out;rw[gq k] at this;rw[hb this];exact D.out
  ·intro e i;have:=B.out e c[e] i (gq Pv);simpa using this):G:=h
def HU (h:G:=by
  obtain⟨v,E,f,r⟩:=h.fu;exact⟨h.bw.trans a.below,e,Qa h.lg a PK,Qa h.se a PK,Qa h.ow a PK,v,E,Qa f a PK,λH o A s D=>(r H o A s D).kp (Qv.kp a)⟩):G:=h
def aJB (h:G:=by
  rcases P.2 with ⟨d,_⟩|⟨aX,aW,l,d,_,_,j,_⟩
  ·simp at d
  ·simp only[g7,he,iO,jU,kO] at d;obtain⟨rfl,rfl⟩:=d;exact j):G:=h
def aJC (h:G:=by
  have b:=Pz (w.alloc (.cells #[.pointer c,PD true] 100)) (.cells #[Rz,PD false] 100);rw[show (w.alloc (.cells #[.pointer c,PD true] 100)).heap.size=w.heap.size+1 by simp] at b;rw[ax];exact b):G:=h
def Dd (h:G:=by
  generalize ((aR.setCell (Pn wr.heap.size 0) (Ph e.k)).setCell (Pn wr.heap.size 1) (Ph e.n)).setCell (Pn wr.heap.size 2) (PI e.s)=wz at ae ⊢
  generalize wr.heap.size=D at ae ⊢
  exact aT wz D p ae):G:=h
def Gp (h:G:=by
  rw[d] at c m;clear v f n j d b;go_enter func32,ntmps32;go_wp2_with fail;refine XO ?_;rintro q w2 ⟨rfl,A⟩;go_wp2;go_ret;exact⟨rfl,m.trans (A.mono m.size)⟩):G:=h
def CE (h:G:=by
  obtain h|h|h|h|h:a.2.kd=27\/a.2.kd=28\/a.2.kd=29\/a.2.kd=30\/a.2.kd=31:=Pv
  ·exact zH au h
  ·exact Hr au h
  ·exact JO au h
  ·exact Jd au h
  ·exact I7 au h):G:=h
def J2 (h:G:=by
  go_enter func32,ntmps32;go_wp2_with fail;refine XO ?_;rintro q w2 ⟨rfl,C,E⟩;have F:=Y C;clear C;go_wp2;go_ret;exact⟨rfl,F.out,(m.mono (Qe l)).trans E⟩):G:=h
def r4 (h:G:=by
  go_enter func231,ntmps231;go_wp2;go_ret;exact⟨rfl,rfl⟩):G:=h
def s3 (h:G:=by
  go_enter func192,ntmps192;go_wp2;go_ret;exact⟨rfl,l⟩):G:=h
def G6 (h:G:=by
  go_wp2_with fail
  go_loopw [8] (λq wr=>q=Ph 0/\PG w wr) (λq _=>0)
  case atStart=>exact⟨rfl,RV⟩
  case round=>
   obtain⟨rfl,f⟩:=hrel;go_wp2;go_ret;exact⟨rfl,f⟩):G:=h
def Hb (h:G:=by
  rw[e];have s:=Y m;clear k j l c g f m;go_enter func217,ntmps217
  go_wp2
  go_ret2
  refine⟨?_,rfl⟩
  show Ending.returned (.tuple #[.int .u8 (b[a].toNat:Int),PD true])=_
  rw[s.out];rfl):G:=h
def tS (h:G:=by
  rw[d];go_enter func132,ntmps132
  go_wp2
  go_ret;exact⟨rfl,QK⟩):G:=h
def Dk (h:G:=by
  have ad:n<b * 1:=by
   rw[<-d.1];exact(gs.1 s).1
  have X:((Pn m 0):Addr).add n=(Pn m n):=by simp[Addr.add];exact Eq.symm
  rw[X,d.cellAt n ad];exact s):G:=h
def D3 (h:G:=by
  refine⟨λh=>(by rw[h] at e;cases e),λa l=>?_⟩
  by_cases f:a=b
  ·subst f;exact j.wpOp u n ⟨λ_=>n,H⟩
  ·have v:=kL l f;rw[H.1] at v;cases v):G:=h
def F7 (h:G:=by
  split at h
  ·
   cases h;omega
  ·obtain⟨o,l,n,h⟩:=f0 h;have p:=VF (a:=a) (b.st _ _) o l n;have m:=j _ _ _ _ h;rw[Vm,PW,P8] at m;omega):G:=h
def HQ (h:G:=by
  rcases k with ⟨rfl,r⟩|⟨v,s,rfl⟩
  all_goals
   go_wp2_with fail;refine cm j ?_;rintro d w' ⟨rfl,o⟩;go_wp2;go_ret;refine⟨rfl,QK.trans (o.mono Qh)⟩):G:=h
def tP (h:G:=by
  intro e;rw[Instr.checkKey,gW,hx g W];rfl):G:=h
def I4 (h:G:=by
  obtain⟨i,g,f,h⟩:=f0 h;obtain⟨_,i2,c,h⟩:=f0 h;cases h;have o:=VF (a:=a) (b.vl _ _) i _ f;have k:=TM c;rw[f9,PW,P8];omega):G:=h
def uj (h:G:=by
  obtain⟨_,_,_,h⟩:=QG h;obtain⟨_,_,_,h⟩:=QG h
  cases h;exact qn):G:=h
def HH (h:G:=by
  have b{G}(h:G:=by
  have f:=d;go_wp2;go_ret;exact⟨rfl,f⟩):=Pq h;exact oT):G:=h
def wA (h:G:=by
  by_cases ad:a=w
  ·subst ad;exact F
  ·rw[h2 true ad] at D;exact D):G:=h
def CL (h:G:=by
  have b{G}(h:G:=by
  go_ret;exact⟨rfl,f.trans (z.mono f.size)⟩):=Pq h;exact uH):G:=h
def GJ (h:G:=by
  refine cm (i.ha3 _ m) ?_;rintro e bi ⟨rfl,bj⟩;have ba:PG c bi:=m.trans (bj.mono m.size);go_wp2;go_ret;exact⟨rfl,f.trans (ba.mono f.size)⟩):G:=h
def F1 (h:G:=by
  have b{G}(h:G:=by
  go_ret;exact⟨rfl,f.trans (k.mono f.size)⟩):=Pq h;exact yj):G:=h
def BN (h:G:=by
  rw[ci.out];have aR:PG aY aY.drew:=RV.drew;exact⟨⟨_,rfl,(cy.RP bN PK).fQ aR⟩,bL.fQ aR,ce.trans (Qj.of aR (Qe bL.lt)),(cx.UJ bN).fQ aR⟩):G:=h
def JA (h:G:=by
  rw[T] at c e;simp only[Qy] at e;clear T;have f{G}(h:G:=by
  exact⟨rfl,Ry e.out.symm (bh.next d)⟩):=Pq h;exact Y1):G:=h
def Ij (h:G:=by
  exact⟨c.bw.trans d.below,h.lt,(h.at_ 0 _ rfl).1,(h.at_ 1 _ rfl).1,(h.at_ 2 _ rfl).1,(h.at_ 3 _ rfl).1,(h.at_ 4 _ rfl).1,Qa c.lg d PK,Qa c.se d PK⟩):G:=h
def ud (h:G:=by
  rintro s n ⟨rfl,⟨I,D⟩,F⟩;exact⟨rfl,⟨z,o,C,I,D⟩,F⟩):G:=h
def xr (h:G:=by
  cases bR with
  |no=>exact absurd rfl aO
  |stop=>rfl
  |iZ=>rfl
  |Y3 x=>rfl):G:=h
def Br (h:G:=by
  refine b.out _ _ C (λ_=>?_);clear b K;refine wh 12 (PD true) C ?_;refine Y8 ?_;go_wp2;go_ret;exact⟨U3 Qh,O⟩):G:=h
def vm (h:G:=by
  cases a with
  |no=>exact absurd rfl j
  |stop=>rfl
  |iZ=>rfl
  |Y3 x=>rfl):G:=h
def uu (h:G:=by
  rw[bD.out];exact⟨⟨_,rfl,ae.RP bK PK⟩,b1,b2,cQ.UJ bK⟩):G:=h
def C1 (h:G:=by
  refine b.out _ _ C (λ_=>?_);clear b K;refine wh 12 (PD false) C ?_;refine Y8 ?_;go_wp2;go_ret;exact⟨rfl,N⟩):G:=h
def K2 (h:G:=by
  have ah:=(cn.kp (Kp.of (z.trans (f.mono z.size)))).at_.nat.nt;rw[cn.tr] at ah;have aL:=TG _ _ t ah;rw[<-bG] at aL;rw[bF];exact aL):G:=h
def FY (h:G:=by
  have:=Nv (w b e) ⟨KK,vu (by rw[e];exact i) KK⟩ (xF b.l KK) W _ rfl (by rw[e,j];nofun) q
  rw[e,j] at this;exact this):G:=h
def GB (h:G:=by
  rintro f N ⟨rfl,I,F⟩;have H:=I;have E:=F;go_wp2
  go_end0
  rw[u.out];exact⟨rfl,H,(Qv.of e (Qe v)).trans E⟩):G:=h
def IJ (h:G:=by
  have:0<(QA a).length:=by rw[Tz];omega
  unfold Px;rw[hk,gq this];exact gU this):G:=h
def Aa (h:G:=by
  rw[r.out] at c;have f{G}(h:G:=by
  exact⟨rfl,Ry a.out.symm (E.next d)⟩):=Pq h;exact Y1):G:=h
def Ld (h:G:=by
  have L:PG a (RW a):=QK.alloc Qh _;have p:PG a i:=L.trans (o.mono Pv);exact p.trans ((n.mono (B':=a.heap.size) Pv).below Pv)):G:=h
def BR (h:G:=by
  have b:=Pj g;have e:=Pj l;have o:=Pj v;exact(b.trans (e.mono b.size)).trans (o.mono (gr b.size e.size))):G:=h
def vx (h:G:=by
  rw[T] at a;simp only[wW] at a;exact absurd a.out.symm F.out):G:=h
def J6 (h:G:=by
  obtain⟨ap,aU⟩:=aI;clear A D E aL;go_wp2;go_ret;exact⟨rfl,⟨_,X.out.1⟩,(Qv.of bh (Qe bf)).trans X.out.2⟩):G:=h
def xd (h:G:=by
  rintro b j ⟨rfl,rfl⟩;go_wp2;go_ret;exact⟨rfl,rfl⟩):G:=h
def vg (h:G:=by
  go_enter jW,jT;go_wp2;go_ret;exact⟨rfl,s⟩):G:=h
def Da (h:G:=by
  subst b;go_wp2;go_ret;refine⟨⟨_,rfl,?_⟩,e⟩;have h:=m;rw[gV] at h;rw[gV];exact h):G:=h
def xY (h:G:=by
  intro a d
  cases a with
  |mk be r bb bf=>rw[f9] at d;omega):G:=h
def EF (h:G:=by
  have ah:=hu (λi:Nd=>Uw i.2) (QA o);rw[Tz] at ah;rw[hG];show ((QA o).filter _).length<=_;omega):G:=h
def yq (h:G:=by
  generalize b1:Vg r=p
  exact b2 wz al p ⟨A,b1.symm⟩):G:=h
def FG (h:G:=by
  split at h
  ·
   cases h;exact j
  ·obtain⟨o,m,n,h⟩:=f0 h;exact k _ _ _ _ (DK j (Vf (b.st _ _) o m n)) h):G:=h
def I3 (h:G:=by
  clear c
  cases o:(e==1) <;> cases n:(e==6) <;>
  ·go_enter func58,ntmps58;go_wp2;go_ret;exact⟨rfl,rfl⟩):G:=h
def HX (h:G:=by
  have b{G}(h:G:=by
  exact F):=Pq h;exact oC):G:=h
def IE (h:G:=by
  rcases a.2 with n|⟨q,o,p,m,f,rest⟩
  ·exact fU n
  ·exact f4 ⟨q,o,p,m,by omega,rest⟩):G:=h
def zr (h:G:=by
  refine l3 ?_;intro j bL o;obtain⟨rfl,d⟩:=o;exact⟨rfl,Ry e.out.symm (aM.drew.next d)⟩):G:=h
def Ea (h:G:=by
  refine l3 ?_;intro j bL o;obtain⟨rfl,d⟩:=o;exact⟨rfl,Ry e.out.symm (E.drew.next d)⟩):G:=h
def OP (h:G:=by
  rw[n.block _ Pv Pv,o.block _ Pv];have:=Pz (a.alloc (.cells #[Rz] 22)) (.cells #[RI] 31);simpa using this):G:=h
def zs (h:G:=by
  refine cm aE ?_;intro j ap o;obtain⟨rfl,d⟩:=o;exact⟨rfl,Ry rfl (aQ.drew.next d)⟩):G:=h
abbrev Ph (a:Int):Value:=.int .i64 a
abbrev PZ (a b:Nat):Value:=.pointer (some ⟨a,b,none⟩)
abbrev Pn (a b:Nat):Addr:=⟨a,b,none⟩
abbrev PN:=Calls prog
abbrev PG (a x:World):Prop:=Below a.heap.size a x
abbrev QB:Value:=.string ⟨#[]⟩
abbrev PI (a:ByteArray):Value:=.string a
abbrev Qb (a:Array Value)(b:TypeId):Obj:=.cells a b (0,0)
abbrev PY (a:Value):Ending:=.returned a
abbrev PD (a:Bool):Value:=.bool a
abbrev Py:=World
abbrev PS:=ByteArray
abbrev PO:=Value
def Pv {G:Prop}(h:G:=by omega):G:=h
def PK {G:Prop}(h:G:=by decide):G:=h
def Qz {G:Prop}(h:G:=by kernel_rfl):G:=h
def Qh {G:Prop}(h:G:=by simp):G:=h
def SC {G:Prop}(h:G:=by simp;omega):G:=h

abbrev RF:Value:=.slice none 0 0
abbrev Rz:Value:=.pointer none
abbrev RI:Value:=.nilIface
abbrev lVZ (b c a:Nat):Value:=.slice (some ⟨b,0,none⟩) c a
abbrev WU (b:Nat):Prop:=∀a W,(callFunc b a).run prog W=.ok (.enter b a) W
def Qe {a b:Nat}(h:a<b):a<=b:=Nat.le_of_lt h
def Qq {a:Nat}:a<=a:=lj a
def QK {a:World}{b:Obj}:Below a.heap.size a (a.alloc b):=(gi _ _).alloc (lj _) _
def RV {b:Nat}{a:World}:Below b a a:=gi _ _
def n7 (c b a:Int):Bool:=decide (c<=a)&&decide (a<=b)
def mn (a:Int):Bool:=n7 97 122 a||a==95
def RJ (a:Int):Bool:=n7 48 57 a
def XH (a:Int):Bool:=mn a||RJ a
def oh (b:List UInt8)(a:Int):Bool:=decide (0<=Lib.indexByte b a.toNat.toUInt8)
def Y {a:Prop}(h:a):Hid a:=h
def Pj {a:Prop}(h:Hid a):a:=h
def xH {α:Sort _}(a:α):∃x,Hid (x=a):=⟨a,rfl⟩
def xE {α:Sort _}(a:α):∃x,x=a:=⟨a,rfl⟩
def U3 {a b:Bool}(h:a=b):Ending.returned (PD a)=PY (PD b):=by rw[h]
def SJ (c d b:Int)(e f:Addr)(a:Py)(k:a.cell? e=some (.int .u8 d))(j:a.cell? f=some (.int .u8 b)) :
  PN 274 #[.int .u8 c,.pointer (some e),.pointer (some f)] a λi g=>i=PY (PD (n7 d b c))/\g=a:=by
 go_enter func274,ntmps274
 go_wp2
 all_goals go_ret
 all_goals refine⟨U3 ?_,rfl⟩
 all_goals (simp[n7, *];try omega)
def W7 (b:PS)(a:Int)(c:Py):(callFunc 272 #[PI b,.int .u8 a]).run prog c=.ok (.value (Ph (Lib.indexByte b.data.toList a.toNat.toUInt8))) c:=by
 rw[run_callFunc_extern func272 Qz Qz Qz (e:=Extern.BytealgIndexByte.indexByte) Qz,Lib.run_indexByteString];rfl
def Ly (a:Int)(d:Addr)(b:PS)(c:Py)(g:c.cell? d=some (PI b)) :
  PN 138 #[.int .u8 a,.pointer (some d)] c λf e=>f=PY (PD (oh b.data.toList a))/\e=c:=by
 have i:=W7 b a;go_enter func138,ntmps138
 go_wp2
 go_ret;exact⟨U3 (by simp[oh]),rfl⟩
def Sx:WU 138:=λ_ _=>by kernel_rfl
def Qt:WU 273:=λ_ _=>by kernel_rfl
def Tg:WU 274:=λ_ _=>by kernel_rfl
/-- A value is a azt of p:in every fQ world it is a function that answers so and leaves the world as it was. -/
def XI (j:Py)(i:PO)(g:Int->Bool):Prop:=
 ∃a d,i=.func (.func a) #[] d/\(∀b W,(callFunc a b).run prog W=.ok (.enter a b) W)/\∀W,PG j W->∀c:UInt8,PN a (#[.int .u8 (c.toNat:Int)]++d) W λf e=>f=PY (PD (g (c.toNat:Int)))/\e=W
def XI.fQ {w w':Py}{c:PO}{b:Int->Bool}(h:XI w c b)(a:PG w w'):XI w' c b:=by
 obtain⟨i,g,rfl,e,h⟩:=h;exact⟨i,g,rfl,e,λW d f=>h W (a.trans (d.mono a.size)) f⟩
def WL {c W:Py}{a b:Nat}{d:PO}(e:PG c W)(h:c.cell? (Pn a b)=some d)(f:a<c.heap.size):W.cell? (Pn a b)=some d:=by
 rw[e.cell (p:=(Pn a b)) f];exact h
def X9:∀(b:Fn)(first a:Array PO)(c:Py),(Instr.makeFunc b first a).run prog c=.ok (.func b first a) c:=λ_ _ _ _=>rfl
def J0 (b a:Int)(f:Py) :
  PN 212 #[.int .u8 b,.int .u8 a] f λg c=>∃e,g=PY e/\XI c e (n7 b a)/\PG f c:=by
 have j:=X9;go_enter func212,ntmps212
 go_wp2
 go_ret;refine⟨_,rfl,⟨274,_,rfl,Tg,λW d i=>?_⟩,QK.alloc Qh _⟩;refine SJ _ b a _ _ W ?_ ?_
 ·exact WL d (by simp[g9,iC]) SC
 ·exact WL d (by simp[iC]) Qh
def HN (a:PS)(d:Py) :
  PN 66 #[PI a] d λf b=>∃c,f=PY c/\XI b c (oh a.data.toList)/\PG d b:=by
 have i:=X9;go_enter func66,ntmps66
 go_wp2
 go_ret;refine⟨_,rfl,⟨138,_,rfl,Sx,λW e g=>?_⟩,QK⟩;refine Ly _ _ a W ?_;exact WL e (by simp[iC]) Qh
def aiG (b:Int)(i k:Addr)(e f:Nat)(j g:Array PO)(P Q:Int->Bool)(d:Py)(s:WU e)(p:WU f)(r:d.cell? i=some (.func (.func e) #[] j))(q:d.cell? k=some (.func (.func f) #[] g))(m:PN e (#[.int .u8 b]++j) d λc a=>c=PY (PD (P b))/\a=d)(n:PN f (#[.int .u8 b]++g) d λc a=>c=PY (PD (Q b))/\a=d) :
  PN 273 #[.int .u8 b,.pointer (some i),.pointer (some k)] d λc a=>c=PY (PD (P b||Q b))/\a=d:=by
 have l:Hid _:=m;have o:Hid _:=n
 cases hP:P b
 ·go_enter func273,ntmps273;go_wp2_with fail;refine kt l.out ?_;rw[hP];rintro c a ⟨rfl,rfl⟩;go_wp2_with fail;refine kt o.out ?_;rintro c a ⟨rfl,rfl⟩;go_wp2;go_ret;exact⟨U3 Qh,rfl⟩
 ·go_enter func273,ntmps273;go_wp2_with fail;refine kt l.out ?_;rw[hP];rintro c a ⟨rfl,rfl⟩;go_wp2;go_ret;exact⟨U3 Qh,rfl⟩
def akX (n o:PO)(P Q:Int->Bool)(a:Py)(q:XI a n P)(r:XI a o Q) :
  PN 211 #[n,o] a λs e=>∃x,s=PY x/\XI e x (λb=>P b||Q b)/\PG a e:=by
 have z:=X9;obtain⟨i,m,rfl,w,g⟩:=q;obtain⟨j,l,rfl,p,k⟩:=r;have u:=Y g;have v:=Y k;clear g k;go_enter func211,ntmps211
 go_wp2
 go_ret;have c:PG a ((a.alloc (.cells #[.func (.func i) #[] m] 140)).alloc (.cells #[.func (.func j) #[] l] 140)):=QK.alloc Qh _;refine⟨_,rfl,⟨273,_,rfl,Qt,λW d b=>?_⟩,c⟩;have f:=c.trans (d.mono c.size);refine aiG _ _ _ i j m l P Q W w p ?_ ?_ (Pj u W f b) (Pj v W f b)
 ·exact WL d (by simp[g9,iC]) SC
 ·exact WL d (by simp[iC]) Qh
def wn (c:Py):PN 142 #[] c λb a=>∃x,b=PY x/\XI a x RJ/\PG c a:=by
 go_enter func142,ntmps142;go_wp2_with fail;refine(J0 48 57 _).mono ?_;rintro b a ⟨x,rfl,e,d⟩;have g:=Y e;have f:=Y d;go_wp2;go_ret;exact⟨x,rfl,g.out,f.out⟩
def XI.congr {e:Py}{d:PO}{b c:Int->Bool}(h:XI e d b)(j:∀a:UInt8,b (a.toNat:Int)=c (a.toNat:Int)):XI e d c:=by
 obtain⟨k,i,rfl,g,h⟩:=h;exact⟨k,i,rfl,g,λW f a=>by rw[<-j a];exact h W f a⟩
def anZ (a:UInt8):oh [95] (a.toNat:Int)=((a.toNat:Int)==95):=by
 have c:∀b:Fin 256,oh [95] ((b.val:Nat):Int)=(((b.val:Nat):Int)==95):=by decide +kernel
 exact c ⟨a.toNat,a.toNat_lt⟩
def TP (a:Int):Bool:=a==32||a==10
def ava (a:UInt8):oh [32,10] (a.toNat:Int)=TP (a.toNat:Int):=by
 have c:∀b:Fin 256,oh [32,10] ((b.val:Nat):Int)=TP ((b.val:Nat):Int):=by decide +kernel
 exact c ⟨a.toNat,a.toNat_lt⟩
def Ik (d:Py):PN 140 #[] d λa c=>∃x,a=PY x/\XI c x mn/\PG d c:=by
 go_enter func140,ntmps140;go_wp2_with fail;refine(J0 97 122 _).mono ?_;rintro a w ⟨x,rfl,n,m⟩;have i:=Y n;have g:=Y m;go_wp2_with fail;refine(HN _ _).mono ?_;have k{G}(h:G:=by
 refine⟨f,rfl,j.out.congr (λb=>by show (_||oh [95] _)=_;rw[anZ];rfl),?_⟩
 exact BR):=Pq h;exact Ha
def Wa (d:Py):PN 213 #[] d λa c=>∃x,a=PY x/\XI c x XH/\PG d c:=by
 go_enter func213,ntmps213;go_wp2_with fail;refine(Ik _).mono ?_;rintro a w ⟨x,rfl,n,m⟩;have i:=Y n;have g:=Y m;go_wp2_with fail;refine(wn _).mono ?_;have k{G}(h:G:=by
 refine⟨f,rfl,j.out.congr (λb=>rfl),?_⟩;exact BR):=Pq h;exact Ha
/-- The first place from k on whose byte is of another kind,or the end. -/
def Qk (c:Int->Bool)(d:PS)(a:Nat):Nat:=a+((d.data.toList.drop a).takeWhile (λb=>c (b.toNat:Int))).length
section
variable (c:Int->Bool)(b:PS)(a:Nat)
include c b a
def UA (h:a<=b.size):Qk c b a<=b.size:=by
 unfold Qk;have f:=(List.takeWhile_prefix (l:=b.data.toList.drop a) (λd=>c (d.toNat:Int))).length_le;have e:(b.data.toList.drop a).length=b.size - a:=by simp
 omega
def Zq (h:a<b.size)(e:c (b[a].toNat:Int)=true):Qk c b (a+1)=Qk c b a:=by
 unfold Qk;have d:a<b.data.toList.length:=by simpa using h
 have f:b.data.toList.drop a=b[a]::b.data.toList.drop (a+1):=h7 d;rw[f,List.takeWhile_cons,fY e,g4];omega
def Bm (h:a<b.size)(e:c (b[a].toNat:Int)=false):Qk c b a=a:=by
 unfold Qk;have d:a<b.data.toList.length:=by simpa using h
 have f:b.data.toList.drop a=b[a]::b.data.toList.drop (a+1):=h7 d;rw[f,List.takeWhile_cons,fT (by rw[e];simp)];rfl
def UP (h:b.size<=a):Qk c b a=a:=by
 unfold Qk;rw[List.drop_of_length_le (by simpa using h)];rfl
end
def tk {c:IntKind}{a b:Int}(h:a=b):Ending.returned (.int c a)=PY (.int c b):=by rw[h]
def Zr (a:PS)(f:Nat)(q:PO)(c:Int->Bool)(g:Py)(r:a.size<=maxLen)(u:f<=a.size)(s:XI g q c) :
  PN 67 #[PI a,Ph (f:Int),q] g λl j=>l=PY (Ph (Qk c a f:Nat))/\j=g:=by
 unfold maxLen at r;obtain⟨z,w,rfl,A,i⟩:=s;have i:=i g RV;have p:=Y i;clear i;go_enter func67,ntmps67
 go_wp2
 go_loopw [1] (λm wr=>∃b:Nat,b<=a.size/\m=Ph b/\Qk c a b=Qk c a f/\wr=g) (λm _=>a.size - (intOf m).toNat)
 case atStart=>exact⟨f,u,rfl,rfl,rfl⟩
 case round=>
  obtain⟨b,v,rfl,o,rfl⟩:=hrel;have k:=Y o;clear o
  by_cases n:b<a.size
  ·
   cases d:c (a[b].toNat:Int)
   ·have e:=Y (Bm c a b n d);have HP:=Y d;clear d;go_wp2_with fail;refine kt (Pj p _) ?_;rw[HP.out];rintro l j ⟨rfl,rfl⟩;go_wp2;go_ret;exact⟨tk (by rw[<-k.out,e.out]),rfl⟩
   ·have e:=Y (Zq c a b n d);have HP:=Y d;clear d;go_wp2_with fail;refine kt (Pj p _) ?_;rw[HP.out];rintro l j ⟨rfl,rfl⟩;go_wp2
    go_roundw
    case rel=>exact⟨b+1,by omega,by go_num,by rw[e.out,k.out],by trivial⟩
    case measure=>simp[intOf];omega
  ·have e:=Y (UP c a b Pv);go_wp2;go_ret;exact⟨tk (by rw[<-k.out,e.out]),rfl⟩
def iY (a:List PS)(b:PS):Bool:=a.any (λx=>x.toList==b.toList)
section
variable (a:List PS)(c:PS)(b:Nat)(h:b<a.length)
include a c b h
def Nu (d:iY (a.take b) c=false)(e:(a[b].toList==c.toList)=false):iY (a.take (b+1)) c=false:=by
 unfold iY at *;rw[ha h,kD,d];simpa using e
def asD (d:(a[b].toList==c.toList)=true):iY a c=true:=by
 unfold iY;exact jV.2 ⟨a[b],gU h,d⟩
end
def A7 (b:Array PO)(a:Nat)(d:a<19)(x:PS)(e:b[a]?=some (PI x))(c:Py) :
  (Instr.index 272 (.agg b) (Ph (a:Int))).run prog c=.ok (PI x) c:=by
 simp[Instr.index,hx mJ,asIntOf,go_sem,d,e]
def akZ (b:List PS)(c:PS)(j:Py)(l:b.length=19)(q:TypeId)(o:Nat×Nat)(f:j.heap[6]?=some (.cells (b.map Value.string).toArray q o)) :
  PN 214 #[PI c] j λu r=>u=PY (PD (iY b c))/\r=j:=by
 obtain⟨d,i⟩:=xH ((b.map Value.string).toArray);rw[<-i.out] at f;have m:d.size=19:=by rw[i.out];simpa using l
 have p:∀a:Nat,a<19->∀W,(Instr.index 272 (.agg d) (Ph (a:Int))).run prog W=.ok (PI (b.getD a ByteArray.empty)) W:=λa e W=>
  A7 d a e _ (by rw[i.out];simp[l,e]) W
 have v:=Y p;have z:=Y m;have w:=Y f;clear p m f;go_enter func214,ntmps214
 go_wp2_with (refine k9 rfl 272 _ rfl 6 rfl q d o _ w.out mJ rfl (by rw[z.out];kernel_rfl) ?_)
 go_loop [4,6] (λ_ g=>∃a:Nat,a<=19/\g=Ph a/\iY (b.take a) c=false) (λ_ g=>19 - (intOf g).toNat)
 case atStart=>exact⟨0,ge _,rfl,rfl⟩
 case round=>
  obtain⟨a,e,rfl,k⟩:=hrel;have n:=Y k;clear k
  by_cases s:a<19
  ·have A:=Pj v a s
   go_wp2
   ·go_ret;exact⟨U3 (asD b c a Pv (by rw[BEq.comm];assumption)).symm,rfl⟩
   ·exact⟨⟨a+1,by omega,by go_num,Nu b c a Pv n.out (by rw[BEq.comm];assumption)⟩,by simp[intOf];omega⟩
  ·go_wp2
   go_ret;exact⟨U3 (by have:=Pj n;rw[iN Pv] at this;exact this.symm),rfl⟩
section
open Go.ChangeShapes Go.WideShapes Go.ChangeAt Go.WideMaps Go.WideElems Go.RowKit
def ofBytes (a:List UInt8):PS:=⟨a.toArray⟩
def Fa:List (List UInt8):=[[118,97,114],[108,101,116],[99,111,110,115,116],[102,117,110,99,116,105,111,110],[105,102],[101,108,115,101],[119,104,105,108,101],[119,105,116,104],[114,101,116,117,114,110],[116,104,114,111,119],[116,114,121],[99,97,116,99,104],[102,105,110,97,108,108,121],[116,121,112,101,111,102],[100,101,108,101,116,101],[116,114,117,101],[102,97,108,115,101],[110,117,108,108],[117,110,100,101,102,105,110,101,100]]
def RS:List PS:=Fa.map ofBytes
def Fb:List (List UInt8):=[[61,61,61],[38,38],[124,124],[40],[41],[123],[125],[91],[93],[59],[58],[44],[46],[61],[43],[45],[42],[60],[33]]
def Rq:List PS:=Fb.map ofBytes
def Q0:RS.length=19:=rfl
def Rg:Rq.length=19:=rfl
def H8 {b:PS}{a:List UInt8}(h:b.data.toList=a):b=ofBytes a:=bytes_inj (by rw[h];rfl)
def oq (a:PS)(b:Nat)(h:b<a.size):a.data.toList.getD b 0=a[b]:=by
 have c:b<a.data.toList.length:=by (have d:a.data.toList.length=a.size:=by simp);omega
 rw[hk,gq c];rfl
end
variable {P:Program}{b4:Region.Mode}{bj:Array Oper}{Q:Exit->Act->Py->Prop}{S:Py->Prop}{fuel:Nat}{listed:Array Bool}{I:Act}{w:Py}
def wt {c7:Oper}(l:Nat)(v:PO)(h:wpAny P b4 bj Q fuel (listed.setIfInBounds l true) (I.put c7.dst v) w)(bO:bj[l]?=some c7:=by rfl)(au:Region.noSelect bj=true:=by kernel_rfl)(b0:Region.free b4 bj listed l=true:=by kernel_rfl)(T:(Region.ready b4 bj listed).contains l=true:=by kernel_rfl)(eA:∀m I w,Q (.panic m) (I.put c7.dst v) w->Q (.panic m) I w:=by exact λ_ _ _ h=>h)(aZ:Yields P bj c7 v I:=by exact fU ⟨by kernel_rfl,λw=>by go_simp⟩):wpAny P b4 bj Q (fuel+1) listed I w:=
  wpAny_take bO au b0 T eA aZ h
def wg {c7:Oper}(l:Nat)(v:PO)(bO:bj[l]?=some c7)(aZ:YieldsIf P bj S c7 v I)(dI:S w)(h:wpAnyH P b4 bj Q S fuel (listed.setIfInBounds l true) (I.put c7.dst v) w)(au:Region.noSelect bj=true:=by kernel_rfl)(b0:Region.free b4 bj listed l=true:=by kernel_rfl)(T:(Region.ready b4 bj listed).contains l=true:=by kernel_rfl)(eA:∀m I w,Q (.panic m) (I.put c7.dst v) w->Q (.panic m) I w:=by exact λ_ _ _ h=>h):wpAnyH P b4 bj Q S (fuel+1) listed I w:=
  wpAnyH_take bO au b0 T eA aZ dI h
def wh {c7:Oper}(l:Nat)(v:PO)(dI:S w)(h:wpAnyH P b4 bj Q S fuel (listed.setIfInBounds l true) (I.put c7.dst v) w)(bO:bj[l]?=some c7:=by rfl)(au:Region.noSelect bj=true:=by kernel_rfl)(b0:Region.free b4 bj listed l=true:=by kernel_rfl)(T:(Region.ready b4 bj listed).contains l=true:=by kernel_rfl)(eA:∀m I w,Q (.panic m) (I.put c7.dst v) w->Q (.panic m) I w:=by exact λ_ _ _ h=>h)(aZ:YieldsIf P bj S c7 v I:=by exact fU ⟨by kernel_rfl,λ_ _=>by go_simp⟩):wpAnyH P b4 bj Q S (fuel+1) listed I w:=
  wpAnyH_take bO au b0 T eA aZ dI h
def WB {ax:Oper}(l:Nat)(h:∀bb:Act->Py->Prop,(∀I w,wpAny P b4 bj Q fuel (listed.setIfInBounds l true) I w->bb I w)->if Region.wanted ax (yielded bj I.tmps)=true then Oper.wp P ax I w bb Q else bb (I.put ax.dst undef) w)(af:bj[l]?=some ax:=by rfl)(T:Region.ready b4 bj listed=[l]:=by kernel_rfl):wpAny P b4 bj Q (fuel+1) listed I w:=
  wpAny_ready T Qh (mA af h AllReady.nil)
def VP {ax:Oper}{t:Prop}(l:Nat)(i:t)(af:bj[l]?=some ax:=by rfl)(T:Region.ready b4 bj listed=[l]:=by kernel_rfl)(h:Kk t->∀bb:Act->Py->Prop,(∀I w,wpAny P b4 bj Q fuel (listed.setIfInBounds l true) I w->bb I w)->if Region.wanted ax (yielded bj I.tmps)=true then Oper.wp P ax I w bb Q else bb (I.put ax.dst undef) w:=by
      intro i K dM;go_simp;exact dM _ _ i.o):wpAny P b4 bj Q (fuel+1) listed I w:=
  WB l (h ⟨i⟩) af T
def hT {ax cR:Oper}(l A:Nat)(h:∀bb:Act->Py->Prop,(∀I w,wpAny P b4 bj Q fuel (listed.setIfInBounds l true) I w->bb I w)->if Region.wanted ax (yielded bj I.tmps)=true then Oper.wp P ax I w bb Q else bb (I.put ax.dst undef) w)(dL:∀bb:Act->Py->Prop,(∀I w,wpAny P b4 bj Q fuel (listed.setIfInBounds A true) I w->bb I w)->if Region.wanted cR (yielded bj I.tmps)=true then Oper.wp P cR I w bb Q else bb (I.put cR.dst undef) w)(af:bj[l]?=some ax:=by rfl)(dK:bj[A]?=some cR:=by rfl)(T:Region.ready b4 bj listed=[l,A]:=by kernel_rfl):wpAny P b4 bj Q (fuel+1) listed I w:=
  wpAny_ready T Qh (mA af h (mA dK dL AllReady.nil))
def Yd {aM:Oper}(l:Nat)(h:∀dL:Act->Py->Prop,Shut (∀I w,S w->(S w->wpAnyH P b4 bj Q S fuel (listed.setIfInBounds l true) I w)->dL I w)->if Region.wanted aM (yielded bj I.tmps)=true then Oper.wp P aM I w dL Q else dL (I.put aM.dst undef) w)(b3:bj[l]?=some aM:=by rfl)(T:Region.ready b4 bj listed=[l]:=by kernel_rfl):wpAnyH P b4 bj Q S (fuel+1) listed I w:=
  wpAnyH_ready T Qh (AllReadyH.cons b3 h AllReadyH.nil)
def mE {H G:Py->Nat->Prop}{goal:Prop}(d:(∀a b,H a b->G a b)->goal)(c:∀a b,H a b->G a b):goal:=d c
def UE {listed':Array Bool}{a:Act}(c:listed=listed')(b:I=a)(h:wpAny P b4 bj Q fuel listed' a w):wpAny P b4 bj Q fuel listed I w:=by
  subst c b;exact h
def tf (b a:Nat):Array Bool:=Array.replicate b true++Array.replicate a false
def wz {fo:Act}(bB ds:Nat)(h:wpAny P b4 bj Q fuel (tf bB ds) fo w)(ah:listed=tf bB ds:=by kernel_rfl)(aL:I=fo:=by kernel_rfl):wpAny P b4 bj Q fuel listed I w:=UE ah aL h
def cm {e:FuncId}{c:Array PO}{R b:Ending->Py->Prop}(h:Calls P e c w R)(f:∀d a,R d a->b d a):Calls P e c w b:=h.mono f
def nW {W c:Py}(d:PG W c):(∀a b,a<W.heap.size->c.cell? (Pn a b)=W.cell? (Pn a b))/\(∀a b,a<W.heap.size->c.frozen? (Pn a b)=W.frozen? (Pn a b)):=
 ⟨λa b h=>d.cell (p:=(Pn a b)) h,λa b h=>d.frozen (p:=(Pn a b)) h⟩
inductive Rd where
 |tok (kd:Int) (tx:PS) (n:Int) (e:Nat)
 |ga (er:Int) (p:Nat)
abbrev Z9:PO:=.agg #[Ph 0,QB,Ph 0,Ph 0]
def Vb (e:Nat)(g:Rd)(w:Py)(c:Ending)(a:Py):Prop:=
 match g with
 |.tok d i f b=>c=PY (.tuple #[.agg #[Ph d,PI i,Ph f,Ph (e:Int)],Ph (b:Int),.nilIface])/\PG w a
 |.ga d f=>∃b,c=PY (.tuple #[Z9,Ph 0,.iface 150 (PZ b 0)])/\a.heap[b]?=some (Qb #[Ph d,Ph (f:Int)] 152)/\w.heap.size<=b/\PG w a
def r7 {w c:Py}{a:Nat}{b t:Obj}(l:Below (w.alloc b).heap.size (w.alloc b) c)(o:(w.alloc b).heap.size<=a)(j:c.heap[a]?=some t)(e f g i:PO) :
  ((((c.setCell (Pn w.heap.size 0) e).setCell (Pn w.heap.size 1) f).setCell (Pn w.heap.size 2) g).setCell (Pn w.heap.size 3) i).heap[a]?=some t/\w.heap.size<=a /\
   PG w ((((c.setCell (Pn w.heap.size 0) e).setCell (Pn w.heap.size 1) f).setCell (Pn w.heap.size 2) g).setCell (Pn w.heap.size 3) i):=by
 have n:(w.alloc b).heap.size=w.heap.size+1:=by simp
 have d:a≠w.heap.size:=Pv;have m:PG w (w.alloc b):=QK;have k:PG w c:=m.trans (l.mono Pv);refine⟨?_,by omega,(((k.setCell Qq _).setCell Qq _).setCell Qq _).setCell Qq _⟩;rw[gZ _ _ _ _ d,gZ _ _ _ _ d,gZ _ _ _ _ d,gZ _ _ _ _ d];exact j
def vM (b c:Int)(w:Py):PN 215 #[Ph b,Ph c] w λe d=>
  ∃a,e=PY (.tuple #[Z9,Ph 0,.iface 150 (PZ a 0)])/\d.heap[a]?=some (Qb #[Ph b,Ph c] 152)/\w.heap.size<=a/\PG w d:=by
 go_enter func215,ntmps215
 go_wp2
 refine Uj (v:=.tuple #[Z9,Ph 0,.iface 150 (PZ (w.heap.size+1) 0)]) ⟨_,rfl,?_,by omega,QK.alloc Qh _⟩;simpa using hH (w.alloc (.cells #[Ph 0,QB,Ph 0,Ph 0] 144)) (.cells #[Ph b,Ph c] 152)
def n9 (x a:PS):Bool:=decide (a.size<=x.size)&&((x.extract 0 a.size).toList==a.toList)
def aeL (x a:PS)(w:Py)(_hx:x.size<=maxLen)(c:a.size<=maxLen) :
  PN 218 #[PI x,PI a] w λd b=>d=PY (PD (n9 x a))/\b=w:=by
 unfold maxLen at _hx c
 by_cases h:a.size<=x.size
 all_goals
  go_enter func218,ntmps218
  go_wp2
  go_ret;exact⟨U3 (by simp[n9,h]),rfl⟩
def WT (d:List PS)(c:PS)(b:Nat):Rd:=
 match d.find? (λa=>n9 (c.extract b c.size) a) with
 |some a=>.tok 5 a 0 (b+a.size)
 |none=>.ga 3 b
section
variable {a:List PS}{c:PS->Bool}
include a c
def MK {b:Nat}(f:b<a.length)(g:∀d,(e:d<b)->c (a[d]'Pv)=false)(h:c a[b]=true):a.find? c=some a[b]:=by
 rw[n8];exact⟨h,b,f,rfl,λd e=>by rw[g d e];rfl⟩
def wH (f:∀b,(d:b<a.length)->c a[b]=false):a.find? c=none:=by
 rw[jQ];intro x e;obtain⟨b,d,rfl⟩:=jk e;rw[f b d];simp
end
def extract_size (b:PS)(I a:Nat)(d:I<=a)(c:a<=b.size):(b.extract I a).size=a - I:=by
 simp;omega
def As (c:List PS)(e:PS)(a:Nat)(w:Py)(ae:e.size<=3000)(o:a<e.size)(n:c.length=19)(B:∀k,k<19->(c.getD k ByteArray.empty).size<=3)(r:TypeId)(q:Nat×Nat)(f:w.heap[2]?=some (.cells (c.map Value.string).toArray r q)) :
  PN 145 #[PI e,Ph (a:Int)] w (Vb a (WT c e a) w):=by
 obtain⟨l,s⟩:=xH ((c.map Value.string).toArray);rw[<-s.out] at f;have D:l.size=19:=by rw[s.out];simpa using n
 have E:∀a:Nat,a<19->∀W,(Instr.index 272 (.agg l) (Ph (a:Int))).run prog W=.ok (PI (c.getD a ByteArray.empty)) W:=λa o W=>
  A7 l a o _ (by rw[s.out];simp[n,o]) W
 have M:=Y E;have U:=Y B;have H:=Y D;have m:=Y n;have O:Hid ((w.alloc (.cells #[Ph 0,QB,Ph 0,Ph 0] 144)).heap[2]?=some (.cells l r q)):=by
  have g:2<w.heap.size:=(ih.1 f).1
  show _=_
  rw[gy w _ 2 g];exact f
 clear E B f n D;go_enter func145,ntmps145
 go_wp2_with (refine k9 rfl 272 _ rfl 2 rfl r l q _ O.out mJ rfl (by rw[H.out];kernel_rfl) ?_)
 go_loopw [8,10] (λ_ k wr=>∃b:Nat,b<=19/\k=Ph b/\(∀d,d<b->n9 (e.extract a e.size) (c.getD d ByteArray.empty)=false)/\wr=w.alloc (.cells #[Ph 0,QB,Ph 0,Ph 0] 144)) (λ_ k _=>19 - (intOf k).toNat)
 case atStart=>exact⟨0,ge _,rfl,λd i=>absurd i (lE _),rfl⟩
 case round=>
  obtain⟨b,ad,rfl,A,rfl⟩:=hrel;have p:=Y A;clear A
  by_cases g:b<19
  ·have L:=Pj M b g;have N:=Pj U b g;obtain⟨j,f⟩:=xE (c.getD b ByteArray.empty);rw[<-f] at L N;have z:=Y f;clear f
   cases C:n9 (e.extract a e.size) j
   ·have F{G}(h:G:=by
    go_roundw
    case rel=>exact⟨b+1,by omega,by go_num,λd i=>by (by_cases u:d=b);(rw[u,<-z.out];exact HP.out);exact Pj p d Pv,by trivial⟩
    case measure=>simp[intOf];omega):=Pq h;exact Kt
   ·have F{G}(h:G:=by
    have T:WT c e a=.tok 5 j 0 (a+j.size):=by
     unfold WT;have u:j=c[b]'(by rw[m.out];exact g):=by rw[z.out,hk,gq (by rw[m.out];exact g)];rfl
     rw[MK (b:=b) (by rw[m.out];exact g) (λd i=>by
      have:=Pj p d i;rw[hk,gq (by rw[m.out];omega)] at this
      exact this) (by rw[<-u];exact HP.out),<-u]
    rw[T];exact Uj (v:=.tuple #[.agg #[Ph 5,PI j,Ph 0,Ph (a:Int)],Ph ((a:Int)+(j.size:Int)),RI]) ⟨by simp,QK⟩):=Pq h;exact Kt
  ·go_wp2_with fail;refine(vM _ _ _).mono ?_;rintro X af ⟨u,rfl,j,L,C⟩;obtain⟨z,N⟩:=nW C;have F:=Y j;clear j;go_wp2_with fail;have T:WT c e a=.ga 3 a:=by
    unfold WT;rw[wH (λd i=>by
     have:=Pj p d (by rw[m.out] at i;omega)
     rw[hk,gq i] at this;exact this)]
   rw[T];exact nP (v:=.tuple #[Z9,Ph 0,.iface 150 (PZ u 0)]) ⟨u,rfl,r7 C L F.out _ _ _ _⟩
end
def Vx (b:Int->Bool)(c:PS)(a:Nat):a<=Qk b c a:=by unfold Qk;omega
def Zu {a c:Py}{b:Obj}(e:Below (a.alloc b).heap.size (a.alloc b) c)(g i j k:PO) :
   PG a ((((c.setCell (Pn a.heap.size 0) g).setCell (Pn a.heap.size 1) i).setCell (Pn a.heap.size 2) j).setCell (Pn a.heap.size 3) k):=by
 have l:(a.alloc b).heap.size=a.heap.size+1:=by simp
 have f:PG a (a.alloc b):=QK;have d:PG a c:=f.trans (e.mono Pv);exact(((d.setCell Qq _).setCell Qq _).setCell Qq _).setCell Qq _
def Vy (c:List PS)(b:PS)(a:Nat):Rd:=
 if iY c (b.extract a (Qk XH b a))=true then .tok 2 (b.extract a (Qk XH b a)) 0 (Qk XH b a)
 else if 20<Qk XH b a - a then .ga 4 a
 else .tok 1 (b.extract a (Qk XH b a)) 0 (Qk XH b a)
abbrev m7:Obj:=.cells #[Ph 0,QB,Ph 0,Ph 0] 144
section
variable (d:List PS)(c:PS)(a b:Nat)(w:Py)(L:c.size<=3000)(H:a<c.size)(p:Qk XH c a=b)(N:a<=b)(M:b<=c.size)
include d c a b w L H p N M
def aeP (m:iY d (c.extract a b)=true)(l:d.length=19)(i:TypeId)(g:Nat×Nat)(j:w.heap[6]?=some (.cells (d.map Value.string).toArray i g)) :
  PN 141 #[PI c,Ph (a:Int)] w (Vb a (.tok 2 (c.extract a b) 0 b) w):=by
 have f{G}(h:G:=by
 exact nP (v:=.tuple #[.agg #[Ph 2,PI (c.extract a b),Ph 0,Ph (a:Int)],Ph (b:Int),RI]) ⟨rfl,Zu e _ _ _ _⟩):=Pq h;exact AR
def RM (m:iY d (c.extract a b)=false)(q:¬ 20<b - a)(l:d.length=19)(i:TypeId)(g:Nat×Nat)(j:w.heap[6]?=some (.cells (d.map Value.string).toArray i g)) :
  PN 141 #[PI c,Ph (a:Int)] w (Vb a (.tok 1 (c.extract a b) 0 b) w):=by
 have f{G}(h:G:=by
 exact nP (v:=.tuple #[.agg #[Ph 1,PI (c.extract a b),Ph 0,Ph (a:Int)],Ph (b:Int),RI]) ⟨rfl,Zu e _ _ _ _⟩):=Pq h;exact AR
def aeR (m:iY d (c.extract a b)=false)(ak:20<b - a)(l:d.length=19)(i:TypeId)(g:Nat×Nat)(j:w.heap[6]?=some (.cells (d.map Value.string).toArray i g)) :
  PN 141 #[PI c,Ph (a:Int)] w (Vb a (.ga 4 a) w):=by
 have u{G}(h:G:=by
 have f:=e;go_wp2_with fail;have q:=Zr c a x XH D (by unfold maxLen;omega) Pv s
 rw[A.out] at q;refine q.mono ?_;rintro af n ⟨rfl,rfl⟩;have C:Hid (n.heap[6]?=some (.cells (d.map Value.string).toArray i g)):=by
  show _=_
  rw[f.block 6 SC,gy w _ 6 r];exact Pj B
 go_wp2_with fail;refine Jq ?_;rintro ah ae ⟨rfl,rfl⟩;exact xG):=Pq h;exact Dt
end
def CT (c:List PS)(b:PS)(a:Nat)(e:Py)(l:b.size<=3000)(k:a<b.size)(m:c.length=19)(j:TypeId)(g:Nat×Nat)(o:e.heap[6]?=some (.cells (c.map Value.string).toArray j g)) :
  PN 141 #[PI b,Ph (a:Int)] e (Vb a (Vy c b a) e):=by
 have p:=Vx XH b a;have n:=UA XH b a Pv
 cases d:iY c (b.extract a (Qk XH b a))
 ·by_cases i:20<Qk XH b a - a
  ·have f:Vy c b a=.ga 4 a:=by unfold Vy;rw[d];simp[i]
   rw[f];exact aeR c b a _ e l k rfl p n d i m j g o
  ·have f:Vy c b a=.tok 1 (b.extract a (Qk XH b a)) 0 (Qk XH b a):=by unfold Vy;rw[d];simp[i]
   rw[f];exact RM c b a _ e l k rfl p n d i m j g o
 ·have f:Vy c b a=.tok 2 (b.extract a (Qk XH b a)) 0 (Qk XH b a):=by unfold Vy;rw[d];simp
  rw[f];exact aeP c b a _ e l k rfl p n d m j g o
def YB (b:List UInt8):Int:=b.foldl (λc a=>c * 10+((a.toNat:Int) - 48)) 0
section
variable (a:List UInt8)
include a
def T4 (b:UInt8):YB (a++[b])=YB a * 10+((b.toNat:Int) - 48):=by simp[YB,jj]
def aoS:∀(b:Int),0<=b->(∀c ∈ a,RJ (c.toNat:Int)=true)->
  0<=a.foldl (λb c=>b * 10+((c.toNat:Int) - 48)) b/\a.foldl (λb c=>b * 10+((c.toNat:Int) - 48)) b<(b+1) * 10 ^ a.length:=by
 induction a with
 |nil=>intro b j _;simp;omega
 |cons c a g=>
  intro b j h;have e:=h c Qh;simp[RJ,n7] at e;have d:=g (b * 10+((c.toNat:Int) - 48)) Pv (λi f=>h i (by simp[f]));refine⟨d.1,m3 d.2 ?_⟩;rw[g4,Int.pow_succ,Int.mul_comm ((10:Int) ^ a.length) 10,<-Int.mul_assoc];exact Int.mul_le_mul_of_nonneg_right Pv (Int.pow_nonneg Pv)
def wI (h:∀b ∈ a,RJ (b.toNat:Int)=true):0<=YB a/\YB a<10 ^ a.length:=by
 have c:=aoS a 0 (Int.le_refl _) h;refine⟨c.1,?_⟩;have b:=c.2;rw[Int.zero_add,Int.one_mul] at b;exact b
end
def Hs (x:PS)(f:∀a,(b:a<x.size)->RJ (x[a].toNat:Int)=true)(g:Nat):∀c ∈ x.data.toList.take g,RJ (c.toNat:Int)=true:=by
 intro c d;obtain⟨a,b,rfl⟩:=jk d;have j:a<x.data.toList.length:=by simp at b;simp;omega
 have e:a<x.size:=by
  have i:x.data.toList.length=x.size:=by simp
  omega
 rw[List.getElem_take];exact f a e
def md (b:PS)(a:Nat)(h:a<b.size):b.data.toList.take (a+1)=b.data.toList.take a++[b[a]]:=by
 rw[ha (by simpa using h)];rfl
def ajJ (x:PS)(a:Py):∃g c,(convert 9 42 (PI x)).run prog a=.ok (.slice (some (Pn a.heap.size 0)) x.size g) c/\PG a c /\
  ∀b,(d:b<x.size)->c.cell? (Pn a.heap.size b)=some (.int .u8 (x[b].toNat:Int)):=by
 refine⟨_,_,run_bytes_of_string a 9 42 5 x kz kQ underlying5,(RV.drew.alloc Qq _),?_⟩;intro b d;have i:=hH a.drew (.cells (bytesRow x (grownCap a x.size 0 5)) 5 ((bytesRow x (grownCap a x.size 0 5)).size,(bytesRow x (grownCap a x.size 0 5)).size+1))
 have j:(a.drew.alloc (.cells (bytesRow x (grownCap a x.size 0 5)) 5 ((bytesRow x (grownCap a x.size 0 5)).size,(bytesRow x (grownCap a x.size 0 5)).size+1))).heap[a.heap.size]?=some (.cells (bytesRow x (grownCap a x.size 0 5)) 5 ((bytesRow x (grownCap a x.size 0 5)).size,(bytesRow x (grownCap a x.size 0 5)).size+1)):=i;have e:b<x.data.size:=d;simp only[World.cell?,j];have f:(bytesRow x (grownCap a x.size 0 5))[b]?=some (.int .u8 (x[b].toNat:Int)):=by
  unfold bytesRow;rw[Array.getElem?_append_left (by simpa using e),Array.getElem?_map,Array.getElem?_eq_getElem e];rfl
 simpa using f
def aoT {a:Nat}(h:a<=10):(10:Int) ^ a<=10000000000:=by
 have:∀b:Fin 11,(10:Int) ^ b.val<=10000000000:=by decide
 exact this ⟨a,by omega⟩
def KS (x:PS)(f:Py)(t:1<=x.size)(I:x.size<=10)(e:∀b,(a:b<x.size)->RJ (x[b].toNat:Int)=true) :
  PN 275 #[PI x] f λq o=>q=PY (.tuple #[Ph (YB x.data.toList),RI])/\PG f o:=by
 obtain⟨M,P,N,u,k⟩:=ajJ x f;have j:=e 0 t;simp[RJ,n7] at j;obtain⟨H,C⟩:=j;have E:(((x[0].toNat:Nat):Int)==45)=false:=gT.2 Pv;have D:(((x[0].toNat:Nat):Int)==43)=false:=gT.2 Pv;have z:=Y k;have i:=Y e;clear k e;go_enter func275,ntmps275
 go_wp2
 go_loop [6,8,49] (λc _ b=>∃a:Nat,a<=x.size/\b=Ph a/\c=Ph (YB (x.data.toList.take a))) (λ_ _ b=>x.size - (intOf b).toNat)
 case atStart=>exact⟨0,ge _,rfl,rfl⟩
 case round=>
  obtain⟨a,B,rfl,rfl⟩:=hrel
  by_cases c:a<x.size
  ·have O:=Pj z a c;have m:=Pj i a c;simp[RJ,n7] at m;obtain⟨L,A⟩:=m;have r:=wI _ (Hs x i.out a);have l:(x.data.toList.take a).length<=10:=by simp;omega
   have p:=aoT l;obtain⟨w,s⟩:=r;have v:YB (x.data.toList.take a)<10000000000:=Pv;have n:=Y (T4 (x.data.toList.take a) x[a]);have d:=Y (md x a c);obtain⟨F,g⟩:=xH (YB (x.data.toList.take a));rw[<-g.out] at w v ⊢;clear s p l
   go_wp2
   exact⟨⟨a+1,by omega,by go_num,by rw[d.out,n.out,<-g.out]⟩,by simp[intOf];omega⟩
  ·have d:Hid (x.data.toList.take a=x.data.toList):=iN SC
   go_wp2
   go_ret2
   refine⟨?_,u⟩;rw[d.out];rfl
def bt (b:PS)(a:Nat):UInt8:=b.data.toList.getD a 0
def s0 (b:PS)(a:Nat)(h:a<b.size):bt b a=b[a]:=oq b a h
def lR (a:UInt8):Option UInt8:=if a=110 then some 10 else if a=39\/a=92 then some a else none
inductive SR where
 |ok (said:List UInt8) (e:Nat)
 |ga (p:Nat)
def XL (b:PS)(a:Nat)(said:List UInt8):SR:=
 if a<b.size then
  if bt b a=39 then .ok said (a+1)
  else if bt b a=10 then .ga a
  else if bt b a=92 then
   if a+1<b.size then
    match lR (bt b (a+1)) with
    |some c=>XL b (a+2) (said++[c])
    |none=>.ga (a+1)
   else .ga (a+1)
  else XL b (a+1) (said++[bt b a])
 else .ga b.size
termination_by b.size - a
def rdStr (c:PS)(a:Nat):Rd:=
 match XL c (a+1) [] with
 |.ok said b=>if 500<said.length then .ga 4 a else .tok 4 (ofBytes said) 0 b
 |.ga b=>.ga 3 b
section
variable (b:PS)(a:Nat)(said:List UInt8)
include b a said
def GU (h:¬ a<b.size):XL b a said=.ga b.size:=by rw[XL,fT h]
def GY (h:a<b.size)(c:bt b a=39):XL b a said=.ok said (a+1):=by rw[XL,fY h,fY c]
def Ee (h:a<b.size)(c:bt b a=10):XL b a said=.ga a:=by rw[XL,fY h,fT (by rw[c];decide),fY c]
def Iq (d:UInt8)(h:a<b.size)(c:bt b a=92)(f:a+1<b.size)(e:lR (bt b (a+1))=some d):XL b a said=XL b (a+2) (said++[d]):=by
 conv=>lhs;rw[XL]
 rw[fY h,fT (by rw[c];decide),fT (by rw[c];decide),fY c,fY f,e]
def YR (h:a<b.size)(c:bt b a=92)(e:a+1<b.size->lR (bt b (a+1))=none):XL b a said=.ga (a+1):=by
 rw[XL,fY h,fT (by rw[c];decide),fT (by rw[c];decide),fY c]
 by_cases d:a+1<b.size
 ·rw[fY d,e d]
 ·rw[fT d]
def Bo (h:a<b.size)(e:bt b a≠39)(c:bt b a≠10)(d:bt b a≠92):XL b a said=XL b (a+1) (said++[bt b a]):=by
 conv=>lhs;rw[XL]
 rw[fY h,fT e,fT c,fT d]
end
def YQ (a b:UInt8):(((a.toNat:Nat):Int)==((b.toNat:Nat):Int))=decide (a=b):=by
 by_cases h:a=b
 ·subst h;simp
 ·have:a.toNat≠b.toNat:=λc=>h (UInt8.toNat_inj.1 c);simp[h];omega
def yb (b:Option UInt8):PO:=match b with|some a=>.tuple #[.int .u8 (a.toNat:Int),PD true] |none=>.tuple #[.int .u8 0,PD false]
def aji (b:PS)(a:Nat)(c:Py)(h:b.size<=a) :
  PN 217 #[PI b,Ph (a:Int)] c λe d=>e=PY (.tuple #[.int .u8 0,PD false])/\d=c:=by
 go_enter func217,ntmps217
 go_wp2
 go_ret2
 exact⟨rfl,rfl⟩
def zA (b:PS)(a:Nat)(n:Py)(h:a<b.size) :
  PN 217 #[PI b,Ph (a:Int)] n λe o=>e=PY (yb (lR (bt b a)))/\o=n:=by
 rw[s0 b a h];obtain⟨d,c⟩:=xE (b[a]);have k:=YQ d 110;have j:=YQ d 39;have l:=YQ d 92;rw[<-c]
 by_cases g:d=110
 ·have e:lR d=some 10:=by simp[lR,g]
  have p:(((b[a].toNat:Nat):Int)==110)=true:=by rw[<-c,g];rfl
  rw[e];clear k j l c g;go_enter func217,ntmps217
  go_wp2
  go_ret2
  exact⟨rfl,rfl⟩
 ·have p:(((b[a].toNat:Nat):Int)==110)=false:=by rw[<-c];simpa[g] using k
  by_cases f:d=39
  ·have e:lR d=some 39:=by simp[lR,f]
   have q:(((b[a].toNat:Nat):Int)==39)=true:=by rw[<-c,f];rfl
   have m:((b[a].toNat:Nat):Int)=39:=by rw[<-c,f];rfl
   exact Hb
  ·have q:(((b[a].toNat:Nat):Int)==39)=false:=by rw[<-c];simpa[f] using j
   by_cases i:d=92
   ·have e:lR d=some 92:=by simp[lR,i]
    have r:(((b[a].toNat:Nat):Int)==92)=true:=by rw[<-c,i];rfl
    have m:((b[a].toNat:Nat):Int)=92:=by rw[<-c,i];rfl
    exact Hb
   ·have e:lR d=none:=by simp[lR,g,f,i]
    have r:(((b[a].toNat:Nat):Int)==92)=false:=by rw[<-c];simpa[i] using l
    rw[e];clear k j l c g f;go_enter func217,ntmps217
    go_wp2
    go_ret2
    exact⟨rfl,rfl⟩
def cellsOf (b:List UInt8):List PO:=b.map (λa=>Value.int .u8 (a.toNat:Int))
def aoo {e:Py}{base:Nat}{c:PO}{b:Nat}{f:List PO}(h:e.ownsRow base 5 1 c b f):∃d a,c=.slice d b a:=by
 obtain⟨_,⟨rfl,rfl⟩|⟨i,a,g,rfl,_⟩⟩:=h
 all_goals
  exact⟨_,_,rfl⟩
def asn {c:Py}{base:Nat}{f:PO}(a:List UInt8)(h:c.ownsRow base 5 1 f a.length (cellsOf a)):(convert 42 9 f).run prog c=.ok (PI (ofBytes a)) c:=by
 obtain⟨t,⟨rfl,n⟩|⟨d,k,l,rfl,p,o,s,q,r,j⟩⟩:=h
 ·have:a=[]:=lL.1 n;subst this;exact run_convert_bytes_nil c 42 5 kQ underlying5 0 0 9 kz
 ·refine run_convert_bytes_back c 42 9 5 (Pn d 0) k a kQ underlying5 kz ?_;intro b i;have e:(cellsOf a)[b]?=some (.int .u8 (a[b].toNat:Int)):=by unfold cellsOf;rw[jc,gq i];rfl
  rw[<-j,mw Pv] at e;have g:l[b]?=some (.int .u8 (a[b].toNat:Int)):=by simpa using e
  have m:(Addr.add (Pn d 0) b)=(Pn d b):=by simp[Addr.add];intro h;exact h.symm
  rw[m];simp only[World.cell?,o];simpa using g
def q5:(prog.info? 5).map (λa=>(a.zero,a.size,a.bytes))=some (some (.int .u8 0),1,1):=by kernel_rfl
def Le (b:List UInt8)(a:UInt8):cellsOf (b++[a])=cellsOf b++[.int .u8 (a.toNat:Int)]:=by simp[cellsOf]
def BM {a wr b:Py}{i e:PO}{said:List UInt8}{c:UInt8}(d:Obj)(k:Below (a.heap.size+1) (a.alloc m7) wr)(l:a.heap.size+1<=wr.heap.size)(n:wr.ownsRow (a.heap.size+1) 5 1 i said.length (cellsOf said))(hown':b.ownsRow (a.heap.size+1) 5 1 e (said.length+1) (cellsOf said++[.int .u8 (c.toNat:Int)]))(m:(wr.alloc d).grownBy b i.ownBlock) :
  b.ownsRow (a.heap.size+1) 5 1 e (said++[c]).length (cellsOf (said++[c]))/\Below (a.heap.size+1) (a.alloc m7) b/\a.heap.size+1<=b.heap.size:=by
 have j:Below (a.heap.size+1) (a.alloc m7) (wr.alloc d):=k.alloc l d;have g:Below (a.heap.size+1) (a.alloc m7) b:=j.grown m SC (λs f=>by
  obtain⟨_,⟨rfl,_⟩|⟨r,p,q,rfl,o,_⟩⟩:=n
  ·simp[Value.ownBlock] at f
  ·simp[Value.ownBlock] at f;omega)
 refine⟨by rw[Le,gg];exact hown',g,?_⟩
 have:=g.size;simp at this;omega
def Aq (b:PS)(l:Nat)(w:Py)(a6:b.size<=3000)(aZ:l<b.size) :
  PN 144 #[PI b,Ph (l:Int)] w (Vb l (rdStr b l) w):=by
 obtain⟨aE,al,ay,ap,au⟩:=g2 q5;obtain⟨j,T⟩:∃j,XL b (l+1) []=j:=⟨_,rfl⟩;have r:=Y T;obtain⟨n,M⟩:∃n,rdStr b l=n:=⟨_,rfl⟩;have B:=Y M;rw[M];clear T M;go_enter func144,ntmps144
 go_wp2
 go_loopw [7,8,9,10,11] (λv X _ _ _ wr=>∃(a:Nat)(said:List UInt8),a<=b.size/\said.length<=a/\X=Ph a/\XL b a said=j/\wr.ownsRow (w.heap.size+1) 5 1 v said.length (cellsOf said)/\Below (w.heap.size+1) (w.alloc m7) wr/\w.heap.size+1<=wr.heap.size) (λ_ X _ _ _ _=>b.size - (intOf X).toNat)
 case atStart=>exact⟨l+1,[],by omega,by simp,by go_num,r.out,iR _ _ _ _,RV,by simp⟩
 case round=>
  obtain⟨a,said,f,a1,rfl,ak,aD,L,af⟩:=hrel;have s:=Y ak;have C:=aD;clear ak
  by_cases m:a<b.size
  ·have d:=s0 b a m;obtain⟨I,a7,rfl⟩:=aoo aD;have q:=YQ b[a] 39;have o:=YQ b[a] 10;have t:=YQ b[a] 92
   by_cases g:b[a]=39
   ·
    have aJ:(((b[a].toNat:Nat):Int)==39)=true:=by rw[g];rfl
    have c:j=.ok said (a+1):=by rw[<-s.out,GY b a said m (by rw[d];exact g)]
    clear q o t g d
    by_cases i:500<said.length
    ·have e:n=.ga 4 l:=by rw[<-B.out];unfold rdStr;rw[r.out,c];simp[i]
     clear c;subst e;exact rv
    ·have e:n=.tok 4 (ofBytes said) 0 (a+1):=by rw[<-B.out];unfold rdStr;rw[r.out,c];simp[i]
     clear c;subst e;have k:=asn said C;have F:Below (w.alloc m7).heap.size (w.alloc m7) wr:=by simpa using L
     obtain⟨z,aR⟩:=nW F;have ah:=F;go_wp2_with fail;exact nP (v:=.tuple #[.agg #[Ph 4,PI (ofBytes said),Ph 0,Ph (l:Int)],Ph ((a:Int)+1),RI]) ⟨by simp,Zu ah _ _ _ _⟩
   ·have aJ:(((b[a].toNat:Nat):Int)==39)=false:=by rw[show (39:Int)=(((39:UInt8).toNat:Nat):Int) from rfl,q];simp[g]
    by_cases k:b[a]=10
    ·
     have aK:(((b[a].toNat:Nat):Int)==10)=true:=by rw[k];rfl
     have c:j=.ga a:=by rw[<-s.out,Ee b a said m (by rw[d];exact k)]
     have e:n=.ga 3 a:=by rw[<-B.out];unfold rdStr;rw[r.out,c]
     clear q o t g k d c;subst e;exact rv
    ·have aK:(((b[a].toNat:Nat):Int)==10)=false:=by rw[show (10:Int)=(((10:UInt8).toNat:Nat):Int) from rfl,o];simp[k]
     by_cases i:b[a]=92
     ·
      have aL:(((b[a].toNat:Nat):Int)==92)=true:=by rw[i];rfl
      by_cases H:a+1<b.size
      ·
       cases A:lR (bt b (a+1)) with
       |none=>
        have c:j=.ga (a+1):=by rw[<-s.out,YR b a said m (by rw[d];exact i) (λ_=>A)]
        have e:n=.ga 3 (a+1):=by rw[<-B.out];unfold rdStr;rw[r.out,c]
        have S:=Y A;clear q o t g k i d c A;subst e;go_wp2_with fail;have u:=zA b (a+1) wr H;rw[S.out] at u;refine cm u ?_;rintro ax N ⟨rfl,rfl⟩;simp only[yb];exact rv
       |some E=>
        have c:XL b (a+2) (said++[E])=j:=by rw[<-s.out,Iq b a said E m (by rw[d];exact i) H A]
        have O:=Y c;have S:=Y A;clear q o t g k i d c A;go_wp2_with fail;have u:=zA b (a+1) wr H;rw[S.out] at u;refine cm u ?_;rintro ax N ⟨rfl,rfl⟩;simp only[yb]
        go_wp2_with (at_builtin;refine lQ _ rfl _ _ 42 rfl (w.heap.size+1) 5 aE (.int .u8 0) 1 1 kQ al ay ap au rfl PK _ _ _ rfl (C.alloc _) (Pn N.heap.size 0) 1 1 [.int .u8 (E.toNat:Int)] rfl rfl ?c1 ?c2 ?c3 ?c4 ?c5 ?_)
        case c1=>
         intro a ad f
         match a,f with
         |0,f=>simp at f;subst f;simp[Addr.add]
        case c2=>intro ad D;simp at D;subst D;rfl
        case c3=>unfold maxLen;omega
        case c4=>omega
        case c5=>simp;omega
        intro aI aM hown' U _;have R:=BM (c:=E) _ L af C hown' U;have p:=Y R;clear R
        go_wp2
        go_roundw
        case rel=>exact⟨a+2,said++[E],by omega,by simp;omega,by go_num,O.out,p.out.1,p.out.2.1,p.out.2.2⟩
        case measure=>simp[intOf];omega
      ·have c:j=.ga (a+1):=by rw[<-s.out,YR b a said m (by rw[d];exact i) (λh=>absurd h H)]
       have e:n=.ga 3 (a+1):=by rw[<-B.out];unfold rdStr;rw[r.out,c]
       clear q o t g k i d c;subst e;go_wp2_with fail;have u:=aji b (a+1) wr Pv;refine cm u ?_;rintro ax N ⟨rfl,rfl⟩;exact rv
     ·
      have aL:(((b[a].toNat:Nat):Int)==92)=false:=by rw[show (92:Int)=(((92:UInt8).toNat:Nat):Int) from rfl,t];simp[i]
      have c:XL b (a+1) (said++[b[a]])=j:=by rw[<-s.out,Bo b a said m (by rw[d];exact g) (by rw[d];exact k) (by rw[d];exact i),d]
      have O:=Y c;clear q o t g k i d c
      go_wp2_with (at_builtin;refine lQ _ rfl _ _ 42 rfl (w.heap.size+1) 5 aE (.int .u8 0) 1 1 kQ al ay ap au rfl PK _ _ _ rfl (C.alloc _) (Pn wr.heap.size 0) 1 1 [.int .u8 (b[a].toNat:Int)] rfl rfl ?c1 ?c2 ?c3 ?c4 ?c5 ?_)
      case c1=>
       intro a ad f
       match a,f with
       |0,f=>simp at f;subst f;simp[Addr.add]
      case c2=>intro ad D;simp at D;subst D;rfl
      case c3=>unfold maxLen;omega
      case c4=>omega
      case c5=>simp;omega
      intro aI aM hown' U _;have R:=BM (c:=b[a]) _ L af C hown' U;have p:=Y R;clear R
      go_wp2
      go_roundw
      case rel=>exact⟨a+1,said++[b[a]],by omega,by simp;omega,by go_num,O.out,p.out.1,p.out.2.1,p.out.2.2⟩
      case measure=>simp[intOf];omega
  ·have c:j=.ga b.size:=by rw[<-s.out,GU b a said m]
   have e:n=.ga 3 b.size:=by rw[<-B.out];unfold rdStr;rw[r.out,c]
   clear c;subst e;exact rv
