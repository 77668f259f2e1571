import Derived.Test.YticfnaiehdpbmaaGreatDoorAg29
import Derived.Test.YticfnaiehdpbmaaGreatDoorAg30
set_option maxRecDepth 100000
set_option maxHeartbeats 8000000
set_option linter.unusedVariables false
namespace Go.Proofs.YticfnaiehdpbmaaGreatDoor
open Go.RowKit Go.Proofs.Tryz
namespace Hp
def EPost (w0:Ny)(mb af:Nat)(aa:List Nat)(es:NP)(w:Ny)(r:Er × St)(e:Ending)(w':Ny):Prop:=
 (∃ ev,e=NU ev/\U4 es w' ev r.1)/\Ms w0 mb af aa w' r.2/\Om none mb w w'
theorem aaS (M:Mo)(o:Int)(nm:NR)(v:Va)(fx:Bool):(M.put o nm v fx).1=0\/(M.put o nm v fx).1=7:=by
 unfold Mo.put
 repeat' split
 all_goals first|exact Or.inl rfl|exact Or.inr rfl
theorem ag9 (M:Mo)(s:Int)(nm:NR)(v:Va):(M.start s nm v).1=0\/(M.start s nm v).1=7:=by
 unfold Mo.start
 repeat' split
 all_goals first|exact Or.inl rfl|exact Or.inr rfl
theorem amE {es:NP}{w:Ny}{c:Int}(h:c=0\/c=7):U4 es w (RY c) (erP c):=by
 rcases h with rfl|rfl
 all_goals
  rfl
section
variable {w0:Ny} {mb af:Nat} {aa:List Nat} {es aS aB az aL:NP} {w w':Ny} {σ:St} {N:Nat}
theorem Ms.et (h:Ms w0 mb af aa w σ)(aZ:Bs w0 mb af aa es)(a':Qp w0):Qp w:=Ua a' h.below (by rw[<-aZ.sz];exact XK a')
theorem abV (aK:Ms w0 mb af aa w σ)(s:Int)(nm:NR)(v:Va)  :
  NK 268 #[Nu mb,Nr s,ND nm,vA v,NI true] w (EPost w0 mb af aa es w (bad Qe,σ)):=by
 have z:=kk (∀{G}(h:G:=by
 have dj:=(aK.later aE);have dc:=dj.lt;have da:=(Om.of (L:=none) aE (Oi bI));clear eT;go_enter func268,ntmps268;go_wp2_with fail;rw[<-bu.out];refine cm (TA (es:=es) dc Qe) ?_;rintro e gS ⟨⟨ev,rfl,aI⟩,g0⟩;have oc:=(dj.later g0);have n7:=(da.trans (Om.of (L:=none) g0 (Oi dc)));go_wp2_with fail;go_ret;exact⟨⟨_,rfl,aI⟩,oc,n7⟩),G);exact ayB
section
variable (aK:Ms w0 mb af aa w σ) (aJ:Sz N σ) (hN:N<1000000000) (s:Int) (nm:NR) (v:Va)
include aK aJ hN s nm v
theorem afh (aM:σ.M.Ql s = -1) :
  NK 268 #[Nu mb,Nr s,ND nm,vA v,NI false] w (EPost w0 mb af aa es w (erP (σ.M.put 0 nm v false).1,σ.Qo 0 nm v false)):=by
 have z:=kk (∀{G}(h:G:=by
 rw[aM] at lE;clear oP;obtain⟨ov,ij⟩:=xE ((σ.M.put 0 nm v false).1);have lA:=hide (aaS σ.M 0 nm v false);have pe:=hide (fun X (aj:NJ w2 X)=>XP (eM.later aj) aJ hN 0 nm v false);rw[<-ij] at lA pe ⊢;have gc:=hide (cells3 eT);have h7:=lt_of_heap eT;clear eT ij aM;have z:=kk (∀{G}(h:G:=by
 have z:=kk (∀{G}(h:G:=by
 refine uh 3 (Nr 0) (ab) ?_;exact ayC),G);exact RU),G);exact ayD),G);exact ayE
theorem aha (aM:σ.M.Ql s≠-1) :
  NK 268 #[Nu mb,Nr s,ND nm,vA v,NI false] w (EPost w0 mb af aa es w (erP (σ.M.put (σ.M.Ql s) nm v false).1,σ.Qo (σ.M.Ql s) nm v false)):=by
 have z:=kk (∀{G}(h:G:=by
 rw[<-oP] at lE aM ⊢;have j2:¬ o = -1:=aM;clear oP aM;obtain⟨ov,ij⟩:=xE ((σ.M.put o nm v false).1);have lA:=hide (aaS σ.M o nm v false);have pe:=hide (fun X (aj:NJ w2 X)=>XP (eM.later aj) aJ hN o nm v false);rw[<-ij] at lA pe ⊢;have gc:=hide (cells3 eT);have h7:=lt_of_heap eT;clear eT ij;have z:=kk (∀{G}(h:G:=by
 have z:=kk (∀{G}(h:G:=by
 refine uh 3 (Nr o) (ab) ?_;exact ayC),G);exact RU),G);exact ayD),G);exact ayE
theorem amF (st:Bool) :
  NK 268 #[Nu mb,Nr s,ND nm,vA v,NI st] w (EPost w0 mb af aa es w (V5 s nm v st σ)):=by
 unfold V5
 cases st with
 | true=>exact abV aK s nm v
 | false=>
  by_cases aM:σ.M.Ql s = -1
  ·have h:=afh (es:=es) aK aJ hN s nm v aM;simp only[Bool.false_eq_true,if_false,if_pos aM];exact h
  ·have h:=aha (es:=es) aK aJ hN s nm v aM;simp only[Bool.false_eq_true,if_false,if_neg aM];exact h
end
section
variable (aZ:Bs w0 mb af aa es) (a':Qp w0) (aK:Ms w0 mb af aa w σ) (aJ:Sz N σ) (hN:N+1<1000000000) (s:Int) (nm:NR) (v:Va)
include aZ a' aK aJ hN s nm v
theorem ayF (st:Bool)(ai:(σ.M.write s nm v).1=7) :
  NK 197 #[Nu mb,Nr s,ND nm,vA v,NI st] w (EPost w0 mb af aa es w (V5 s nm v st { σ with M:=(σ.M.write s nm v).2 })):=by
 have z:=kk (∀{G}(h:G:=by
 have tl:=(UO 7 ao (eV.et aZ a'));have z:=kk (∀{G}(h:G:=by
 obtain⟨v0,v1,v2,_,_⟩:=cells3 q0.out;go_simp;go_wp2_with fail;refine cm (amF (es:=es) kF b6 hN s nm v st) ?_;rintro e b' ⟨⟨ev,rfl,aI⟩,tK,qg⟩;have gq:=(fI.trans qg);clear v0 v1 v2;go_wp2_with fail;go_ret;exact⟨⟨_,rfl,aI⟩,tK,gq⟩),G);exact apN),G);exact zsj
theorem ayH (st:Bool)(ai:(σ.M.write s nm v).1=6) :
  NK 197 #[Nu mb,Nr s,ND nm,vA v,NI st] w (EPost w0 mb af aa es w ((bad Qe,{ σ with M:=(σ.M.write s nm v).2 }))):=by
 have z:=kk (∀{G}(h:G:=by
 have tl:=(UO 6 ao (eV.et aZ a'));have z:=kk (∀{G}(h:G:=by
 go_simp;go_wp2_with fail;refine cm (TA (es:=es) gx Qe) ?_;exact ayI),G);exact apN),G);exact zsj
theorem ayJ (st:Bool)(ai:(σ.M.write s nm v).1=1) :
  NK 197 #[Nu mb,Nr s,ND nm,vA v,NI st] w (EPost w0 mb af aa es w ((bad tType,{ σ with M:=(σ.M.write s nm v).2 }))):=by
 have z:=kk (∀{G}(h:G:=by
 have tl:=(UO 1 ao (eV.et aZ a'));exact ayK),G);exact zsj
theorem at7 (ai:(σ.M.write s nm v).1=5) :
  NK 197 #[Nu mb,Nr s,ND nm,vA v,NI true] w (EPost w0 mb af aa es w ((bad tType,{ σ with M:=(σ.M.write s nm v).2 }))):=by
 have z:=kk (∀{G}(h:G:=by
 have tl:=(UO 5 ao (eV.et aZ a'));exact ayK),G);exact zsj
theorem aua (ai:(σ.M.write s nm v).1=5) :
  NK 197 #[Nu mb,Nr s,ND nm,vA v,NI false] w (EPost w0 mb af aa es w ((.no,{ σ with M:=(σ.M.write s nm v).2 }))):=by
 have z:=kk (∀{G}(h:G:=by
 have tl:=(UO 5 ao (eV.et aZ a'));exact ayL),G);exact zsj
theorem amG (st:Bool)(o5:¬ (σ.M.write s nm v).1=7)(o4:¬ (σ.M.write s nm v).1=6)(bT:¬ (σ.M.write s nm v).1=1)(o3:¬ (σ.M.write s nm v).1=5) :
  NK 197 #[Nu mb,Nr s,ND nm,vA v,NI st] w (EPost w0 mb af aa es w ((.no,{ σ with M:=(σ.M.write s nm v).2 }))):=by
 have z:=kk (∀{G}(h:G:=by
 have bP:=kk (∀{G}(h:G:=by
 obtain⟨c0,ge⟩:=xE ((σ.M.write s nm v).1);rw[<-ge] at l6 o5 o4 bT o3;clear ge;have bP:=kk (∀{G}(h:G:=by
 have z:=kk (∀{G}(h:G:=by
 have bP:=kk (∀{G}(h:G:=by
 have tl:=(UO c0 ao (eV.et aZ a'));exact ayL),G);exact ztc),G);exact RU),G);exact ayM),G);exact ztd),G);exact ayB
theorem arT (st:Bool) :
  NK 197 #[Nu mb,Nr s,ND nm,vA v,NI st] w (EPost w0 mb af aa es w (asg s nm v st σ)):=by
 unfold asg;simp only
 by_cases o5:(σ.M.write s nm v).1=7
 ·rw[if_pos o5];exact ayF aZ a' aK aJ hN s nm v st o5
 rw[if_neg o5]
 by_cases o4:(σ.M.write s nm v).1=6
 ·rw[if_pos o4];exact ayH aZ a' aK aJ hN s nm v st o4
 rw[if_neg o4]
 by_cases bT:(σ.M.write s nm v).1=1
 ·rw[if_pos bT];exact ayJ aZ a' aK aJ hN s nm v st bT
 rw[if_neg bT]
 by_cases o3:(σ.M.write s nm v).1=5
 ·rw[if_pos o3]
  cases st with
  | true=>exact at7 aZ a' aK aJ hN s nm v o3
  | false=>exact aua aZ a' aK aJ hN s nm v o3
 rw[if_neg o3];exact amG aZ a' aK aJ hN s nm v st o5 o4 bT o3
end
def adx (F:Fx)(t0 eq:Nd)(p:Pl)(σ:St):(Va × Er) × St:=match F.v (Nz t0 0) p σ with
 | ((ob,.no),σ1)=>match F.v eq p σ1 with
  | ((v,.no),ck)=>if ob.k≠5 then ((vU,bad tType),ck) else ((v,erP (ck.M.put ob.n t0.2.tx v false).1),ck.Qo ob.n t0.2.tx v false)
  | ((_,e),ck)=>((vU,e),ck)
 | ((_,e),σ1)=>((vU,e),σ1)
def apW (F:Fx)(t0 eq:Nd)(p:Pl)(σ:St):(Va × Er) × St:=match F.v eq p (look t0 p σ).2 with
 | ((v,.no),σ1)=>((v,(asg (look t0 p σ).1 t0.2.tx v p.strict σ1).1),(asg (look t0 p σ).1 t0.2.tx v p.strict σ1).2)
 | ((_,e),σ1)=>((vU,e),σ1)
variable {F:Fx}
theorem Kp.RP {w w':Ny}(h:Kp w w'){q j:Nat}{v:NP}{e:TypeId}(ai:w.cell? (Nv q j)=some v)(ag:∃ c,w.heap[q]? = some (Og c e))(au:e=40\/e=22):w'.cell? (Nv q j)=some v:=by
 obtain⟨c,ag⟩:=ag;have O:w'.heap[q]? = w.heap[q]?:=(h q c e ag au).trans ag.symm;exact(World.cell?_of_block (w:=w) (a:=(Nv q j)) O).trans ai
theorem Oa.aiL {a:Ad}{d:Nd}(h:Oa aa w a d){g n cap:Nat}(ai:w.cell? (Nv a.p 3)=some (.slice (some (Nv g 0)) n cap)):∃ c,w.heap[g]? = some (Og c 22):=by
 obtain⟨_,_,_,_,v,c3,U⟩:=h.cells;rw[c3] at ai;cases ai;exact OZ U.1 rfl
theorem aaW (ae:Yh es)(aK:Ms w0 mb af aa w σ){a b:Ad}{d eq:Nd}(hd:Oa aa w a d)(Id:Oa aa w b eq)(E:d.2.kids.length=1)(p:Pl)(aC:Option Addr)(h1:RF w0 mb af aa es σ (Nz d 0) p (F.v (Nz d 0) p σ))
  (O:∀ v1 σ1,F.v (Nz d 0) p σ=((v1,.no),σ1)->RF w0 mb af aa es σ1 eq p (F.v eq p σ1)) (aJ:∀ v1 σ1 v2 ck,F.v (Nz d 0) p σ=((v1,.no),σ1)->F.v eq p σ1=((v2,.no),ck)->Sz N ck) (hN:N<1000000000) :
  NK 292 #[Nu mb,Nu a.p,Nu b.p,OQ p aC] w (Oh w0 mb af aa es w (adx F d eq p σ)):=by
 have z:=kk (∀{G}(h:G:=by
 obtain⟨ce,cC,cap0,fS,dJ,fQ,_⟩:=cS.Xe (i:=0) Nw;rw[E] at fS;obtain⟨q,bo⟩:=xH a.p;obtain⟨M5,ix⟩:=xH b.p;obtain⟨kp,dd⟩:=xE ce.p;have z:=kk (∀{G}(h:G:=by
 have Fq:=(Id.kp (Kp.of aE));obtain⟨rs,d6⟩:=xE (adx F d eq ⟨aq,aF,st⟩ σ);rw[<-d6,<-bo.out,<-ix.out];have z:=kk (∀{G}(h:G:=by
 have bD:=hide d6;have bY:=hide U;have gT:=hide O;have dN:=hide aJ;clear bK hr2 d6 U h1 ds cH d5 fS dJ dd O aJ;go_enter func292,ntmps292;go_wp2_with fail;rw[<-bu.out,<-b1,<-bU];clear bU b1;refine UC (H:=fun wz vb ev=>VB w0 mb af aa es w2 v1 av σ1 wz vb ev) (G:=?GG) (fun dI=>?ways) ?rest
 case ways=>
  exact adt
 rintro wz vb ev aN;have cR:=aN.fr.keep bj.out NH;have dU:=hide cR;obtain⟨cy,bQ,b5,dn,dp,dq,rl⟩:=Ot (cR);have ee:=aN.ms.lt;have ci:vb≠aR:=fun e=>by
  have h1:=aN.vb;have O:=lt_of_heap bj.out;omega
 have di:Om none mb w wz:=da.trans aN.fr;have eG:=hide (aN.fr.keep dF.out NH);clear cR;obtain⟨e',cj,dD,hf,hi,hj,g5⟩:=Ot (aN.v);have pV:=(cS.kp aN.fr.SX);have Fr:=(Fq.kp aN.fr.SX)
 by_cases au:av=.no
 ·subst au;have br:ev=Pe:=aN.er;subst br;have fa:=(Ns gT v1 σ1 bY.out wz b aC aN.ms Fr);rw[<-ix.out] at fa;obtain⟨aW,p1,cr,cL,_,dY⟩:=cells4 eG.out
  rcases b1:F.v eq ⟨aq,aF,st⟩ σ1 with ⟨⟨v2,bC⟩,ck⟩
  rw[b1] at fa;have xa:=hide b1;clear b1;go_wp2_with fail;refine cm fa ?_;rintro e aD ⟨⟨ev,rfl,aI⟩,gY,gu⟩;have dw:=aI;have dG:=hide (gu.keep dU.out NH);have gc:=hide (gu.keep aN.v NH);have fc:=(di.trans gu);have pU:=(pV.kp gu.SX);have ht:=gY.lt;clear aW p1 cr cL dY cy bQ b5 dn dp dq rl e' cj dD hf hi hj g5;obtain⟨cy,bQ,b5,dn,dp,dq,rl⟩:=Ot dG.out;obtain⟨e',cj,dD,hf,hi,hj,g5⟩:=Ot gc.out
  by_cases gw:bC=.no
  ·subst gw;have br:ev=Pe:=aI;subst br
   by_cases bN:v1.k=5
   ·obtain⟨bG,y4⟩:=xH v1.n;have cq:=Ns dN v1 σ1 v2 ck bY.out xa.out;obtain⟨tx,cD⟩:=xE d.2.tx;obtain⟨ov,ij⟩:=xE ((ck.M.put bG tx v2 false).1);have aH:rs=((v2,erP ov),ck.Qo bG tx v2 false):=by rw[bD.out];unfold adx;rw[bY.out];dsimp only;rw[xa.out];dsimp only;rw[if_neg (by simp[bN]),ij,y4.out,cD]
    have cz:=hide aH;have lA:=hide (aaS ck.M bG tx v2 false);rw[<-ij] at lA;rw[bN] at e';rw[<-y4.out] at cj;have E9:=hide bN;clear aH bN;go_wp2_with fail;obtain⟨wd,e7⟩:=xE (aD.alloc (.cells #[Nr v2.k,Nr v2.n,ND v2.s] 65));obtain⟨dv,kZ⟩:=xE aD.heap.size;have dX:NJ aD wd:=by rw[e7];exact OM
    have Bg:wd.heap[dv]? = some (XI v2):=by rw[e7,kZ];exact NG _ _
    have l0:=(gY.later dX);have hW:=hide (stays dX dG.out);have Ey:=stays dX gc.out;have CG:Hid (wd.heap[vb]? = some (Og #[Nr 5,Nr bG,ND v1.s] 65)):=by
     show _=_
     rw[Ey,E9.out,y4.out]
    have tn:=hide Bg;have uE:=(fc.trans (Om.of (L:=none) dX (Oi ht)));have m1:=pU.kp (Kp.of dX);have c1:=m1.cells.2.2.1;have IW:=m1.cells.1;rw[<-bo.out] at c1 IW;rw[<-cD] at c1;have ly:=hide m1.blk;rw[<-bo.out] at ly;have e1:=hide c1;have tV:=l0.lt;have h7:=lt_of_heap Bg;have Mn:=lt_of_heap CG.out;have pe:Hid (∀ X,Ms w0 mb af aa X ck->NK 56 #[Nu mb,Nr bG,ND tx,vA v2,NI false] X fun e w'=>e=NU (RY ov)/\Ms w0 mb af aa w' (ck.Qo bG tx v2 false)/\OB Th mb X w'):=fun X aj=>by
     obtain⟨_,_,_,_,ac⟩:=aj;refine(XP ac cq hN bG tx v2 false).mono ?_;rintro e w' ⟨rfl,O,ax⟩;rw[ij];exact⟨rfl,⟨_,_,_,_,O⟩,ax⟩
    have kq:dv≠aR:=fun e=>by
     have h1:=lt_of_heap dG.out;omega
    try rw[<-e7,<-kZ]
    clear e7 Bg Ey c1 cD ij kZ cy bQ b5 dn dp dq rl e' cj dD hf hi hj g5;have ab:Om none mb wd wd.drew:=Om.of P8.drew (Oi tV);refine PO 12 (fun X=>Om none mb wd X) OJ ?_;refine uc 0 (.agg #[Nr v2.k,Nr v2.n,ND v2.s]) rfl (Or.inl ⟨by kernel_rfl,fun X aj=>by have h0:=(cells3 (aj.keep tn.out NH)).1;have h1:=(cells3 (aj.keep tn.out NH)).2.1;have O:=(cells3 (aj.keep tn.out NH)).2.2.1;go_simp⟩) (ab) ?_
    refine up 1 mb 0 ab ?_;refine up 2 mb 0 ab ?_;refine up 3 mb 0 ab ?_;refine up 4 vb 1 ab ?_;refine uc 5 (Nr bG) rfl (Or.inl ⟨by kernel_rfl,fun X aj=>by have h0:=(cells3 (aj.keep CG.out NH)).2.1;go_simp⟩) (ab) ?_
    refine up 6 q 0 ab ?_;refine up 7 q 0 ab ?_;refine up 8 q 1 ab ?_;refine uc 9 (ND tx) rfl (Or.inl ⟨by kernel_rfl,fun X aj=>by have h0:=aj.SX.Wx e1.out ly.out;go_simp⟩) (ab) ?_
    refine uc 10 (.agg #[Nr v2.k,Nr v2.n,ND v2.s]) rfl (Or.inl ⟨by kernel_rfl,fun X aj=>by have h0:=(cells3 (aj.keep tn.out NH)).1;have h1:=(cells3 (aj.keep tn.out NH)).2.1;have O:=(cells3 (aj.keep tn.out NH)).2.2.1;go_simp⟩) (ab) ?_
    refine O0 11 fun K A=>?_;go_simp;refine cm (Ns pe _ (l0.later P8.drew)) ?_;rintro e dM ⟨rfl,qi,qh⟩;have lK:Om none mb wd dM:=ab.trans (Om.ofT qh);refine A.out _ _ (fun _=>lK) ?_;clear A K;have nA:=hide (lK.keep hW.out NH);have j':=(uE.trans lK);obtain⟨hk,gn,gp,ib,ic,id,hm⟩:=Ot nA.out;refine O0 12 fun K A=>?_;go_simp;refine ko A ?_;clear A K;refine uz 13 (RY ov) ?_;refine QX ?_ _;go_simp;go_wp2_with fail
    obtain⟨b3,bz,bb,bx,bv,bi,aY,aX⟩:=rt3 nA.out cI.out bI j' qi (Nr v2.k) (Nr v2.n) (ND v2.s);rw[<-bz];refine bodyPost_ret (v:=.tuple #[vA v2,RY ov]) (by simp[results,results292,go_sem,bi,aY,aX]) rfl ?_;rw[cz.out];exact⟨⟨_,rfl,amE lA.out⟩,bv,bx⟩
   ·have aH:rs=((vU,bad tType),ck):=by rw[bD.out];unfold adx;rw[bY.out];dsimp only;rw[xa.out];dsimp only;rw[if_pos bN]
    have cz:=hide aH;clear aH;go_wp2_with fail;obtain⟨wd,e7⟩:=xE (aD.alloc (.cells #[Nr v2.k,Nr v2.n,ND v2.s] 65));have z:=kk (∀{G}(h:G:=by
    try rw[<-e7]
    clear e7 cy bQ b5 dn dp dq rl e' cj dD hf hi hj g5;refine cm (TA (es:=es) tV tType) ?_;rintro e gS ⟨⟨ev,rfl,aI⟩,g0⟩;have nB:=hide (stays g0 hW.out);have oc:=(l0.later g0);have n7:=(uE.trans (Om.of (L:=none) g0 (Oi tV)));obtain⟨dm,bT,cY,my,mz,mA,nl⟩:=Ot nB.out;have z:=kk (∀{G}(h:G:=by
    refine bodyPost_ret (v:=.tuple #[vA vU,ev]) (by simp[results,results292,go_sem,bi,aY,aX,vU]) rfl ?_;have aH:rs=((vU,bad tType),ck):=Ns cz;rw[aH];exact⟨⟨_,rfl,aI.O6 bb NH⟩,bv,bx⟩),G);exact apM),G);exact aue
  ·obtain⟨et,ex,br⟩:=aI.Vs gw ae;subst br;have aH:rs=((vU,bC),ck):=by
    rw[bD.out];unfold adx;rw[bY.out];dsimp only;rw[xa.out];exact auf
   have bJ:=hide aH;clear gw aH e' cj dD hf hi hj g5;go_wp2_with fail;obtain⟨b3,bz⟩:=xE ((((aD.setCell (Nv aR 0) (Nr 0)).setCell (Nv aR 1) (Nr 0)).setCell (Nv aR 2) (OG)).alloc (.cells #[Nr v2.k,Nr v2.n,ND v2.s] 65));rw[<-bz];have gF:mb<=aR:=by have:=Ns cI;omega
   have bb:=Qy dG.out gF (Nr 0) (Nr 0) (OG);have ed:=(Below.refl _ (((aD.setCell (Nv aR 0) (Nr 0)).setCell (Nv aR 1) (Nr 0)).setCell (Nv aR 2) (OG))).alloc OH (.cells #[Nr v2.k,Nr v2.n,ND v2.s] 65);have bP:=kk (∀{G}(h:G:=by
   have mW:=(dw.O6 bb NH).later ed;rw[<-bz] at d7 bx bv mW;obtain⟨bi,aY,aX,_,_⟩:=cells3 d7;refine bodyPost_ret (v:=.tuple #[vA vU,.iface et ex]) (by simp[results,results292,go_sem,bi,aY,aX,vU]) rfl ?_;rw[bJ.out];exact⟨⟨_,rfl,mW⟩,bv,bx⟩),G);exact ay3
 ·obtain⟨et,ex,br⟩:=aN.er.Vs au ae;subst br;have aH:rs=((vU,av),σ1):=by
   rw[bD.out];unfold adx;rw[bY.out];exact XJ
  have bJ:=hide aH;clear au aH;have bD:=bJ;have z:=kk (∀{G}(h:G:=by
  refine bodyPost_ret (v:=.tuple #[vA vU,.iface et ex]) (by simp[results,results292,go_sem,bi,aY,aX,vU]) rfl ?_;exact apO),G);exact apP),G);exact akd),G);exact ahb),G);exact VT
theorem Oa.acF {a:Ad}{d:Nd}(h:Oa aa w a d)(E:d.2.kids.length=2):∃ ce bV g cap,w.cell? (Nv a.p 3)=some (.slice (some (Nv g 0)) 2 cap)/\w.cell? (Nv g 0)=some (Nu ce.p)/\w.cell? (Nv g 1)=some (Nu bV.p)/\Oa aa w ce (Nz d 0)/\Oa aa w bV (Nz d 1):=by
 obtain⟨ce,cC,cap0,fS,dJ,fQ,_⟩:=h.Xe (i:=0) Nw;obtain⟨bV,b0,cap1,jF,fT,jb,_⟩:=h.Xe (i:=1) Nw;rw[E] at fS jF;rw[fS] at jF;simp only[Option.some.injEq,Value.slice.injEq,Addr.mk.injEq,and_true,true_and] at jF;obtain⟨rfl,rfl⟩:=jF;exact⟨ce,bV,cC,cap0,fS,dJ,fT,fQ,jb⟩
theorem ZP (ae:Yh es)(aK:Ms w0 mb af aa w σ){a:Ad}{d:Nd}(hd:Oa aa w a d)(E:d.2.kids.length=2)(p:Pl)(aC:Option Addr)
  (bn:(Nz d 0).2.kd=36) (cM:(Nz d 0).2.kids.length=1) (h1:RF w0 mb af aa es σ (Nz (Nz d 0) 0) p (F.v (Nz (Nz d 0) 0) p σ))
  (O:∀ v1 σ1,F.v (Nz (Nz d 0) 0) p σ=((v1,.no),σ1)->RF w0 mb af aa es σ1 (Nz d 1) p (F.v (Nz d 1) p σ1)) (aJ:∀ v1 σ1 v2 ck,F.v (Nz (Nz d 0) 0) p σ=((v1,.no),σ1)->F.v (Nz d 1) p σ1=((v2,.no),ck)->Sz N ck) (hN:N<1000000000) :
  NK 257 #[Nu mb,Nu a.p,OQ p aC] w (Oh w0 mb af aa es w (adx F (Nz d 0) (Nz d 1) p σ)):=by
 have z:=kk (∀{G}(h:G:=by
 have z:=kk (∀{G}(h:G:=by
 rw[bn] at oK;have bA:=hide (fun X (aj:NJ w2 X)=>aaW ae (dj.later aj) (iP.kp (Kp.of aj)) (iQ.kp (Kp.of aj)) cM ⟨aq,aF,st⟩ aC h1 O aJ hN);obtain⟨rs,d6⟩:=xE (adx F (Nz d 0) (Nz d 1) ⟨aq,aF,st⟩ σ);rw[<-d6,<-qS.out,<-pZ.out] at bA;rw[<-d6];have z:=kk (∀{G}(h:G:=by
 clear bK hr2 ag ds cH d5 hblk m9 rh fT d6 h1 O aJ bn cM;go_enter func257,ntmps257;go_wp2_with fail;rw[<-bu.out,<-b1,<-bU];clear bU b1;refine Rj 14 fun ab=>?_;have z:=kk (∀{G}(h:G:=by
 refine uk 4 eB.out ab ?_;refine up 5 cC 0 ab ?_;refine uk 6 wV.out ab ?_;refine up 7 q 0 ab ?_;refine up 8 q 0 ab ?_;refine up 9 q 3 ab ?_;refine uk 10 eB.out ab ?_;refine up 11 cC 1 ab ?_;refine uk 12 n2.out ab ?_;refine uk4 13 ga.out ab ?_;refine O0 14 fun K A=>?_;have z:=kk (∀{G}(h:G:=by
 have z:=kk (∀{G}(h:G:=by
 refine uz 15 (vA v9) ?_;refine uz 16 ev ?_;have z:=kk (∀{G}(h:G:=by
 have z:=kk (∀{G}(h:G:=by
 refine bodyPost_ret (v:=.tuple #[vA v9,ev]) (by simp[results,results257,go_sem,bi,aY,aX]) rfl ?_;exact⟨⟨_,by rw[jn.out],aI.O6 bb NH⟩,bv,bx⟩),G);exact akj),G);exact aug),G);exact ay4),G);exact apX),G);exact U5),G);exact ay5),G);exact ay6),G);exact VT
theorem ZQ (ae:Yh es)(aZ:Bs w0 mb af aa es)(a':Qp w0)(aK:Ms w0 mb af aa w σ){a:Ad}{d:Nd}(hd:Oa aa w a d)(E:d.2.kids.length=2)(p:Pl)(aC:Option Addr)
  (bn:¬ (Nz d 0).2.kd=36) (O:RF w0 mb af aa es (look (Nz d 0) p σ).2 (Nz d 1) p (F.v (Nz d 1) p (look (Nz d 0) p σ).2)) (aJ:Sz N σ) (cq:∀ v1 σ1,F.v (Nz d 1) p (look (Nz d 0) p σ).2=((v1,.no),σ1)->Sz N σ1) (hN:N+1<1000000000) :
  NK 257 #[Nu mb,Nu a.p,OQ p aC] w (Oh w0 mb af aa es w (apW F (Nz d 0) (Nz d 1) p σ)):=by
 have z:=kk (∀{G}(h:G:=by
 have z:=kk (∀{G}(h:G:=by
 obtain⟨kd,ri⟩:=xE ((Nz d 0).2.kd);rw[<-ri] at oK bn;obtain⟨fZ,pJ⟩:=xE ((look (Nz d 0) ⟨aq,aF,st⟩ σ).1);obtain⟨qK,qD⟩:=xE ((look (Nz d 0) ⟨aq,aF,st⟩ σ).2);have ho:=hide (fun X (aj:NJ w2 X)=>amD aZ (dj.later aj) aJ Nw (iP.kp (Kp.of aj)) ⟨aq,aF,st⟩ aC);rw[<-pJ,<-qD,<-qS.out] at ho;rw[<-qD] at O cq;obtain⟨tx,cD⟩:=xE ((Nz d 0).2.tx)
 rcases U:F.v (Nz d 1) ⟨aq,aF,st⟩ qK with ⟨⟨v1,av⟩,σ1⟩
 rw[U] at O;obtain⟨rs,d6⟩:=xE (apW F (Nz d 0) (Nz d 1) ⟨aq,aF,st⟩ σ);rw[<-d6];have bD:Hid (rs=match (((v1,av),σ1):(Va × Er) × St) with
  | ((v,.no),σ1)=>((v,(asg fZ tx v st σ1).1),(asg fZ tx v st σ1).2)
  | ((_,e),σ1)=>((vU,e),σ1)):=by
  show _=_
  rw[d6];unfold apW;rw[<-qD,U,<-pJ,<-cD]
  all_goals cases av <;> rfl
 have bY:=hide U;have gT:=O;have r7:=hide cq;have gd:=iP.cells.2.2.1;rw[<-cD,<-qS.out] at gd;have mJ:=hide gd;have hkl2:=iP.cells.1;rw[<-qS.out] at hkl2;have z:=kk (∀{G}(h:G:=by
 clear bK hr2 ag ds cH d5 hblk m9 rh fT d6 U O cq pJ qD ri cD gd;go_enter func257,ntmps257;have z:=kk (∀{G}(h:G:=by
 have z:=kk (∀{G}(h:G:=by
 refine uk 4 eB.out ab ?_;refine up 5 cC 0 ab ?_;refine uk 6 wV.out ab ?_;refine uk4 7 ga.out ab ?_;refine O0 8 fun K A=>?_;go_simp;refine cm (Ns ho _ ab) ?_;rintro e ao ⟨rfl,eV,f4⟩;refine ko A ?_;clear A K;have cQ:=(Om.of (L:=none) ab (Oi dc)).trans f4;have c8:=hide (cQ.keep bj.out NH);have fi:=hide (cQ.keep dF.out NH);have Cp:=hide (cells4 fi.out);have cV:=(da.trans cQ);have qO:=hide (cQ.SX.RP eB.out ix.out (Or.inl rfl));have s5:=hide (cQ.SX.RP n2.out pW.out (Or.inr rfl))
 have Fk:=hide (cQ.SX.RP wV.out pW.out (Or.inr rfl));have yD:=hide (cQ.SX.RP mJ.out Cc.out (Or.inl rfl));have tg:Hid (∃ c,ao.heap[q]? = some (Og c 40)):=by obtain⟨c,ai⟩:=Ns ix;exact⟨c,cQ.SX _ _ _ ai (Or.inl rfl)⟩
 have wZ:Hid (∃ c,ao.heap[cC]? = some (Og c 22)):=by obtain⟨c,ai⟩:=Ns pW;exact⟨c,cQ.SX _ _ _ ai (Or.inr rfl)⟩
 have HKB3:Hid (∃ c,ao.heap[kp]? = some (Og c 40)):=by obtain⟨c,ai⟩:=Ns Cc;exact⟨c,cQ.SX _ _ _ ai (Or.inl rfl)⟩
 have gh:=eV.lt;have AX:=lt_of_heap fi.out;have sK:q<ao.heap.size:=cell_lt qO.out;have c7:cC<ao.heap.size:=cell_lt s5.out;have bA:=hide (fun X (aj:NJ ao X)=>gT X bV aC (eV.later aj) ((iQ.kp cQ.SX).kp (Kp.of aj)));rw[<-pZ.out] at bA;refine uz 9 (Nr fZ) ?_;refine QX ?_ _;go_simp;go_wp2_with fail;refine UC (H:=fun wz vb ev=>VB w0 mb af aa es ao v1 av σ1 wz vb ev) (G:=?GG) (fun dI=>?ways) ?rest
 case ways=>
  refine Rj 8 fun ab=>?_;have z:=kk (∀{G}(h:G:=by
  refine uk 4 qO.out ab ?_;refine up 5 cC 1 ab ?_;exact ay7),G);exact U5
 rintro wz vb ev aN;have cR:=aN.fr.keep c8.out NH;have dU:=hide cR;obtain⟨cy,bQ,b5,dn,dp,dq,rl⟩:=Ot (cR);have ee:=aN.ms.lt;have ci:vb≠aR:=fun e=>by
  have h1:=aN.vb;have O:=lt_of_heap c8.out;omega
 have di:Om none mb w wz:=cV.trans aN.fr;have eG:=hide (aN.fr.keep fi.out NH);clear cR
 by_cases au:av=.no
 ·subst au;have br:ev=Pe:=aN.er;subst br;have b6:=Ns r7 v1 σ1 bY.out;obtain⟨uj,na⟩:=xE (asg fZ tx v1 st σ1);have aH:rs=((v1,uj.1),uj.2):=by rw[bD.out,na]
  have cz:=hide aH;have kC:Hid (∀ X,Ms w0 mb af aa X σ1->NK 197 #[Nu mb,Nr fZ,ND tx,vA v1,NI st] X (EPost w0 mb af aa es X uj)):=fun X aj=>by
   rw[na];exact arT aZ a' aj b6 hN fZ tx v1 st
  have tp:=hide aN.v;have jl:=aN.ms;have s1:=hide (aN.fr.SX.RP qO.out tg.out (Or.inl rfl));have BU:=hide (aN.fr.SX.RP Fk.out wZ.out (Or.inr rfl));have n4:=hide (aN.fr.SX.RP yD.out HKB3.out (Or.inl rfl));have w8:Hid (∃ c,wz.heap[q]? = some (Og c 40)):=by obtain⟨c,ai⟩:=Ns tg;exact⟨c,aN.fr.SX _ _ _ ai (Or.inl rfl)⟩
  have w3:Hid (∃ c,wz.heap[cC]? = some (Og c 22)):=by obtain⟨c,ai⟩:=Ns wZ;exact⟨c,aN.fr.SX _ _ _ ai (Or.inr rfl)⟩
  have FX:Hid (∃ c,wz.heap[kp]? = some (Og c 40)):=by obtain⟨c,ai⟩:=Ns HKB3;exact⟨c,aN.fr.SX _ _ _ ai (Or.inl rfl)⟩
  have g':=cell_lt s1.out;have re:=cell_lt BU.out;have AJ:=cell_lt n4.out;have iR:=lt_of_heap eG.out;have EB:=lt_of_heap aN.v;clear na aH cy bQ b5 dn dp dq rl;go_wp2_with fail;have ab:Om none mb wz wz.drew:=Om.of P8.drew (Oi ee);refine PO 16 (fun X=>Om none mb wz X) OJ ?_;refine uc 0 (.agg #[Nr v1.k,Nr v1.n,ND v1.s]) rfl (Or.inl ⟨by kernel_rfl,fun X aj=>by have h0:=(cells3 (aj.keep tp.out NH)).1;have h1:=(cells3 (aj.keep tp.out NH)).2.1;have O:=(cells3 (aj.keep tp.out NH)).2.2.1;go_simp⟩) (ab) ?_
  refine up 1 mb 0 ab ?_;refine uh 2 (Nr fZ) (ab) ?_;refine up 3 q 0 ab ?_;refine up 4 q 0 ab ?_;refine up 5 q 3 ab ?_;refine uc 6 (.slice (some (Nv cC 0)) 2 cap0) rfl (Or.inl ⟨by kernel_rfl,fun X aj=>by have h0:=aj.SX.RP s1.out w8.out (Or.inl rfl);go_simp⟩) (ab) ?_
  refine up 7 cC 0 ab ?_;refine uc 8 (NM kp 0) rfl (Or.inl ⟨by kernel_rfl,fun X aj=>by have h0:=aj.SX.RP BU.out w3.out (Or.inr rfl);go_simp⟩) (ab) ?_
  refine up 9 kp 0 ab ?_;refine up 10 kp 1 ab ?_;refine uc 11 (ND tx) rfl (Or.inl ⟨by kernel_rfl,fun X aj=>by have h0:=aj.SX.RP n4.out FX.out (Or.inl rfl);go_simp⟩) (ab) ?_
  refine uc 12 (.agg #[Nr v1.k,Nr v1.n,ND v1.s]) rfl (Or.inl ⟨by kernel_rfl,fun X aj=>by have h0:=(cells3 (aj.keep tp.out NH)).1;have h1:=(cells3 (aj.keep tp.out NH)).2.1;have O:=(cells3 (aj.keep tp.out NH)).2.2.1;go_simp⟩) (ab) ?_
  refine up 13 bc 2 ab ?_;refine uc 14 (NI st) rfl (Or.inl ⟨by kernel_rfl,fun X aj=>by have h0:=(cells4 (aj.keep eG.out NH)).2.2.1;go_simp⟩) (ab) ?_
  refine O0 15 fun K A=>?_;go_simp;refine cm (Ns kC _ (jl.later P8.drew)) ?_;rintro e dM ⟨⟨ev,rfl,aI⟩,qi,qh⟩;have lK:Om none mb wz dM:=ab.trans qh;refine A.out _ _ (fun _=>lK) ?_;clear A K;have nA:=hide (lK.keep dU.out NH);have j':=(di.trans lK);obtain⟨hk,gn,gp,ib,ic,id,hm⟩:=Ot nA.out;refine O0 16 fun K A=>?_;go_simp;refine ko A ?_;clear A K;refine uz 17 ev ?_;refine QX ?_ _;go_simp;go_wp2_with fail;obtain⟨b3,bz,bb,bx,bv,bi,aY,aX⟩:=rt3 nA.out cI.out bI j' qi (Nr v1.k) (Nr v1.n) (ND v1.s)
  rw[<-bz];refine bodyPost_ret (v:=.tuple #[vA v1,ev]) (by simp[results,results257,go_sem,bi,aY,aX]) rfl ?_;rw[cz.out];exact⟨⟨_,rfl,aI.O6 bb NH⟩,bv,bx⟩
 ·obtain⟨et,ex,br⟩:=aN.er.Vs au ae;subst br;have aH:rs=((vU,av),σ1):=by
   rw[bD.out];exact XJ
  have bJ:=hide aH;clear au aH;have bD:=bJ;have z:=kk (∀{G}(h:G:=by
  refine bodyPost_ret (v:=.tuple #[vA vU,.iface et ex]) (by simp[results,results257,go_sem,bi,aY,aX,vU]) rfl ?_;exact apO),G);exact apP),G);exact U5),G);exact apT),G);exact ay5),G);exact ay6),G);exact VT
def LA:Option Nat->Option Addr
 | none=>none
 | some b=>some (Nv b 0)
def NY (w:Ny):Option Nat->Option Va->Prop
 | none,none=>True
 | some b,some v=>w.heap[b]? = some (XI v)
 | _,_=>False
def amS (r:(Va × Er) × St):Er × St:=match r with
 | ((v,.no),σ1)=>(.Wq v,σ1)
 | ((_,e),σ1)=>(e,σ1)
def afp (l:Option Va)(r:(Va × Er) × St):(Er × Option Va) × St:=match r with
 | ((v,.no),σ1)=>((.no,l.map fun _=>v),σ1)
 | ((_,e),σ1)=>((e,l),σ1)
def avQ (F:Fx)(d:Nd)(p:Pl)(σ:St):Er × St:=match F.v (Nz d 0) p σ with
 | ((v,.no),σ1)=>asg (σ.M.find p.scope d.2.tx) d.2.tx v p.strict σ1
 | ((_,e),σ1)=>(e,σ1)
def aa0 (d:Nd)(p:Pl)(r:(Va × Er) × St):Er × St:=match r with
 | ((v,.no),σ1)=>(erP (σ1.M.start p.scope d.2.tx v).1,{ σ1 with M:=(σ1.M.start p.scope d.2.tx v).2 })
 | ((_,e),σ1)=>(e,σ1)
variable {L:Option Nat}
section
variable {l:Option Va} (h:NY w L l)
include l h
theorem NY.keep (aG:Om none mb w w'):NY w' L l:=by
 cases L <;> cases l <;> first|exact h|exact aG.keep h NH
theorem NY.kept (E:∀ b,L=some b->w'.heap[b]? = w.heap[b]?):NY w' L l:=by
 cases L <;> cases l <;> first|exact h|exact(E _ rfl).trans h
end
def YD (w0:Ny)(mb af:Nat)(aa:List Nat)(es:NP)(L:Option Nat)(w:Ny)(r:(Er × Option Va) × St)(e:Ending)(w':Ny):Prop:=
 (∃ ev,e=NU ev/\U4 es w' ev r.1.1)/\Ms w0 mb af aa w' r.2/\Om L mb w w'/\NY w' L r.1.2
section
variable (aK:Ms w0 mb af aa w σ) {u:NP}
include aK u
theorem ahh (U:QT 0 w u [])(p:Pl)(aC:Option Addr) :
  NK 114 #[Nu mb,u,OQ p aC] w (Oh w0 mb af aa es w ((vU,.no),σ)):=by
 have z:=kk (∀{G}(h:G:=by
 obtain⟨cT,dO,aO⟩:=U.form;rw[List.length_nil] at aO;subst aO;have bP:=kk (∀{G}(h:G:=by
 have bj:=hide hr2;have cI:=hide cH;clear bK hr2 ds cH d5;go_enter func114,ntmps114;go_wp2_with fail;obtain⟨k1,wv⟩:=xE ((w.alloc (.cells #[Nr aq,Nr aF,NI st,.pointer aC] 73)).alloc (.cells #[Nr 0,Nr 0,OG] 65));rw[<-wv];have mU:k1=w2:=by rw[wv];exact bu.out.symm
 rw[mU,<-b1];obtain⟨bi,aY,aX,_,_⟩:=cells3 bj.out;exact bodyPost_ret (v:=.tuple #[vA vU,Pe]) (by simp[results,results114,go_sem,bi,aY,aX,vU]) rfl ⟨⟨_,rfl,rfl⟩,dj,da⟩),G);exact zti),G);exact zsb
theorem afq {k:Ad}{fU:Nd}(U:QT 0 w u [k])(hd:Oa aa w k fU)(p:Pl)(aC:Option Addr)(h1:RF w0 mb af aa es σ fU p (F.v fU p σ)) :
  NK 114 #[Nu mb,u,OQ p aC] w (Oh w0 mb af aa es w (F.v fU p σ)):=by
 have z:=kk (∀{G}(h:G:=by
 obtain⟨cC,cap0,aO,hg,ai,_⟩:=(U.later aE).cell 0 Oq;rw[show ([k]:List Ad).length=1 from rfl] at aO;subst aO;have bP:=kk (∀{G}(h:G:=by
 have bj:=hide hr2;have ga:=hide (cells4 bK);have cI:=hide cH;have bA:=hide (fun X (aj:NJ w2 X)=>h1 X k aC (dj.later aj) ((hd.kp (Kp.of aE)).kp (Kp.of aj)));obtain⟨rs,eD⟩:=xE (F.v fU ⟨aq,aF,st⟩ σ);rw[<-eD] at bA ⊢;obtain⟨kp,dd⟩:=xE k.p;have eH:w2.cell? (Nv cC 0)=some (Nu kp):=by rw[dd];exact ai
 rw[<-dd] at bA;have ah:=hide eH;have dc:=dj.lt;have hpl2:=lt_of_heap bK;clear bK hr2 h1 ai dd ds cH d5 eD eH;go_enter func114,ntmps114;go_wp2_with fail;rw[<-bu.out,<-b1,<-bU];clear bU b1;refine Rj 5 fun ab=>?_;refine up 0 mb 0 ab ?_;refine uh 1 (.slice (some (Nv cC 0)) 1 cap0) (ab) ?_;refine up 2 cC 0 ab ?_;refine uk 3 ah.out ab ?_;refine uk4 4 ga.out ab ?_;refine O0 5 fun K A=>?_;have z:=kk (∀{G}(h:G:=by
 have z:=kk (∀{G}(h:G:=by
 refine uz 6 (vA v9) ?_;refine uz 7 ev ?_;refine O0 8 fun K A=>?_;go_simp;refine ko A ?_;clear A K;refine uz 9 ev ?_;refine QX ?_ _;go_simp;have z:=kk (∀{G}(h:G:=by
 refine bodyPost_ret (v:=.tuple #[vA v9,ev]) (by simp[results,results114,go_sem,bi,aY,aX]) rfl ?_;exact⟨⟨_,by rw[jn.out],aI.O6 bb NH⟩,bv,bx⟩),G);exact akj),G);exact ay4),G);exact apX),G);exact zti),G);exact zsb
end
section
variable (ae:Yh es) (aK:Ms w0 mb af aa w σ) {a:Ad} {d:Nd} (hd:Oa aa w a d) (E:d.2.kids.length=1) (p:Pl)
include ae aK a d hd E p
theorem adA (aC:Option Addr)(h1:RF w0 mb af aa es σ (Nz d 0) p (F.v (Nz d 0) p σ)) :
  NK 115 #[Nu mb,Nu a.p,OQ p aC] w (EPost w0 mb af aa es w (amS (F.v (Nz d 0) p σ))):=by
 have bI:=aK.lt;have z:=kk (∀{G}(h:G:=by
 have ds:w.heap.size<=bc:=Nw;have z:=kk (∀{G}(h:G:=by
 have z:=kk (∀{G}(h:G:=by
 have z:=kk (∀{G}(h:G:=by
 have z:=kk (∀{G}(h:G:=by
 rcases U:F.v (Nz d 0) ⟨aq,aF,st⟩ σ with ⟨⟨v1,av⟩,σ1⟩
 obtain⟨rs,bD⟩:=xH (amS ((v1,av),σ1));have z:=kk (∀{G}(h:G:=by
 have z:=kk (∀{G}(h:G:=by
 clear bK U h1 ds fS dJ dd;go_enter func115,ntmps115;go_wp2_with fail;rw[<-bu.out,<-bU];clear bU;refine UC (H:=fun wz vb ev=>VB w0 mb af aa es w2 v1 av σ1 wz vb ev) (G:=?GG) (fun dI=>?ways) ?rest
 case ways=>
  exact adt
 rintro wz vb ev aN;have ee:=aN.ms.lt;have di:Om none mb w wz:=da.trans aN.fr;have eG:=hide (aN.fr.keep dF.out NH);obtain⟨e',cj,dD,hf,hi,hj,g5⟩:=Ot (aN.v)
 by_cases au:av=.no
 ·subst au;have br:ev=Pe:=aN.er;subst br;go_wp2_with fail;have ed:=(Below.refl wz.heap.size wz).alloc OH (.cells #[Nr v1.k,Nr v1.n,ND v1.s] 126);refine bodyPost_ret (v:=.iface 122 (NM wz.heap.size 0)) (by simp[results,results115,go_sem]) rfl ?_;have aH:rs=(.Wq v1,σ1):=Ns bD;rw[aH];exact⟨⟨_,rfl,_,rfl,NG _ _⟩,aN.ms.later ed,di.trans (Om.of (L:=none) ed (Oi ee))⟩
 ·have z:=kk (∀{G}(h:G:=by
  refine bodyPost_ret (v:=.iface et ex) (by simp[results,results115,go_sem]) rfl ?_;rw[bJ.out];exact⟨⟨_,rfl,aN.er⟩,aN.ms,di⟩),G);exact aut),G);exact amJ),G);exact amK),G);exact ahb),G);exact abW),G);exact zsn),G);exact zsf),G);exact zsr
theorem ZR (h1:RF w0 mb af aa es σ (Nz d 0) p (F.v (Nz d 0) p σ)) :
  NK 117 #[Nu mb,Nu a.p,OQ p none] w (YD w0 mb af aa es none w (afp none (F.v (Nz d 0) p σ))):=by
 have bI:=aK.lt;obtain⟨aq,aF,st⟩:=p;obtain⟨w2,bu⟩:=xH (w.alloc (.cells #[Nr aq,Nr aF,NI st,Qb] 73));have aE:NJ w w2:=by rw[bu.out];exact OM
 obtain⟨bc,bU⟩:=xE w.heap.size;have bK:w2.heap[bc]? = some (Og #[Nr aq,Nr aF,NI st,Qb] 73):=by rw[bu.out,bU];exact NG _ _
 have ds:w.heap.size<=bc:=Nw;have z:=kk (∀{G}(h:G:=by
 have z:=kk (∀{G}(h:G:=by
 have z:=kk (∀{G}(h:G:=by
 have bA:=hide (fun X (aj:NJ w2 X)=>h1 X ce none (dj.later aj) (fQ.kp (Kp.of aj)))
 rcases U:F.v (Nz d 0) ⟨aq,aF,st⟩ σ with ⟨⟨v1,av⟩,σ1⟩
 obtain⟨rs,bD⟩:=xH (afp none ((v1,av),σ1));have z:=kk (∀{G}(h:G:=by
 have z:=kk (∀{G}(h:G:=by
 clear bK U h1 ds fS dJ dd;go_enter func117,ntmps117;go_wp2_with fail;rw[<-bu.out,<-bU];clear bU;refine UC (H:=fun wz vb ev=>VB w0 mb af aa es w2 v1 av σ1 wz vb ev) (G:=?GG) (fun dI=>?ways) ?rest
 case ways=>
  exact adt
 rintro wz vb ev aN;have ee:=aN.ms.lt;have di:Om none mb w wz:=da.trans aN.fr;have eG:=hide (aN.fr.keep dF.out NH);obtain⟨e',cj,dD,hf,hi,hj,g5⟩:=Ot (aN.v);obtain⟨aW,p1,cr,cL,_,dY⟩:=cells4 eG.out
 by_cases au:av=.no
 ·subst au;have br:ev=Pe:=aN.er;subst br;go_wp2_with fail;refine bodyPost_ret (v:=Pe) (by simp[results,results117,go_sem]) rfl ?_;have aH:rs=((.no,none),σ1):=Ns bD;rw[aH];exact⟨⟨_,rfl,rfl⟩,aN.ms,di,trivial⟩
 ·obtain⟨et,ex,br⟩:=aN.er.Vs au ae;subst br;have aH:rs=((av,none),σ1):=by
   rw[bD.out];exact XJ
  have bJ:=hide aH;clear au aH;go_wp2_with fail;refine bodyPost_ret (v:=.iface et ex) (by simp[results,results117,go_sem]) rfl ?_;rw[bJ.out];exact⟨⟨_,rfl,aN.er⟩,aN.ms,di,trivial⟩),G);exact amJ),G);exact amK),G);exact abW),G);exact zsn),G);exact zsf
theorem ZT {v0:Va}{lb:Nat}(hl:w.heap[lb]? = some (XI v0))(IF:mb<=lb)(h1:RF w0 mb af aa es σ (Nz d 0) p (F.v (Nz d 0) p σ)) :
  NK 117 #[Nu mb,Nu a.p,OQ p (some (Nv lb 0))] w (YD w0 mb af aa es (some lb) w (afp (some v0) (F.v (Nz d 0) p σ))):=by
 have bI:=aK.lt;obtain⟨aq,aF,st⟩:=p;obtain⟨w2,bu⟩:=xH (w.alloc (.cells #[Nr aq,Nr aF,NI st,NM lb 0] 73));have aE:NJ w w2:=by rw[bu.out];exact OM
 obtain⟨bc,bU⟩:=xE w.heap.size;have bK:w2.heap[bc]? = some (Og #[Nr aq,Nr aF,NI st,NM lb 0] 73):=by rw[bu.out,bU];exact NG _ _
 have ds:w.heap.size<=bc:=Nw;have z:=kk (∀{G}(h:G:=by
 have z:=kk (∀{G}(h:G:=by
 have z:=kk (∀{G}(h:G:=by
 have bA:=hide (fun X (aj:NJ w2 X)=>h1 X ce (some (Nv lb 0)) (dj.later aj) (fQ.kp (Kp.of aj)))
 rcases U:F.v (Nz d 0) ⟨aq,aF,st⟩ σ with ⟨⟨v1,av⟩,σ1⟩
 obtain⟨rs,bD⟩:=xH (afp (some v0) ((v1,av),σ1));have z:=kk (∀{G}(h:G:=by
 have z:=kk (∀{G}(h:G:=by
 have ep:=hide (stays aE hl);have LZ:lb≠bc:=fun e=>by have:=lt_of_heap hl;omega
 clear bK U h1 ds fS dJ dd hl;go_enter func117,ntmps117;go_wp2_with fail;rw[<-bu.out,<-bU];clear bU;refine UC (H:=fun wz vb ev=>VB w0 mb af aa es w2 v1 av σ1 wz vb ev) (G:=?GG) (fun dI=>?ways) ?rest
 case ways=>
  exact adt
 rintro wz vb ev aN;have ee:=aN.ms.lt;have di:Om none mb w wz:=da.trans aN.fr;have eG:=hide (aN.fr.keep dF.out NH);have fB:=hide (aN.fr.keep ep.out NH);have qu:lb≠vb:=fun e=>by
  have h1:=aN.vb;have O:=lt_of_heap ep.out;omega
 obtain⟨e',cj,dD,hf,hi,hj,g5⟩:=Ot (aN.v);obtain⟨hk,gn,gp,ib,ic,id,hm⟩:=Ot fB.out;obtain⟨aW,p1,cr,cL,_,dY⟩:=cells4 eG.out
 by_cases au:av=.no
 ·subst au;have br:ev=Pe:=aN.er;subst br;go_wp2_with fail;have bb:=Qy fB.out IF (Nr v1.k) (Nr v1.n) (ND v1.s);have d7:=YC fB.out (Nr v1.k) (Nr v1.n) (ND v1.s);refine bodyPost_ret (v:=Pe) (by simp[results,results117,go_sem]) rfl ?_;have aH:rs=((.no,some v1),σ1):=Ns bD;rw[aH];refine⟨⟨_,rfl,rfl⟩,aN.ms.Xd bb NH,?_,d7⟩;refine⟨di.below.trans bb.below,fun b c e D au hl=>?_⟩;have h1:=di.rest b c e D au Oq;have ci:b≠lb:=fun e=>hl (by rw[e])
  rw[heap_setCell_other _ _ _ _ ci,heap_setCell_other _ _ _ _ ci,heap_setCell_other _ _ _ _ ci];exact h1
 ·obtain⟨et,ex,br⟩:=aN.er.Vs au ae;subst br;have aH:rs=((av,some v0),σ1):=by
   rw[bD.out];exact XJ
  have bJ:=hide aH;clear au aH;go_wp2_with fail;refine bodyPost_ret (v:=.iface et ex) (by simp[results,results117,go_sem]) rfl ?_;rw[bJ.out];exact⟨⟨_,rfl,aN.er⟩,aN.ms,di.up,fB.out⟩),G);exact amJ),G);exact amK),G);exact abW),G);exact zsn),G);exact zsf
theorem abY (aC:Option Addr)(h1:RF w0 mb af aa es σ (Nz d 0) p (F.v (Nz d 0) p σ))(aZ:Bs w0 mb af aa es)(a':Qp w0)(aJ:Sz N σ)(cq:∀ v1 σ1,F.v (Nz d 0) p σ=((v1,.no),σ1)->Sz N σ1)(hN:N+1<1000000000) :
  NK 108 #[Nu mb,Nu a.p,OQ p aC] w (EPost w0 mb af aa es w (avQ F d p σ)):=by
 have bI:=aK.lt;have z:=kk (∀{G}(h:G:=by
 have ds:w.heap.size<=bc:=Nw;have z:=kk (∀{G}(h:G:=by
 have z:=kk (∀{G}(h:G:=by
 obtain⟨ce,cC,cap0,fS,dJ,fQ,_⟩:=hd.Xe (i:=0) Nw;rw[E] at fS;have pH:=hd.cells.1;obtain⟨q,ag⟩:=xE a.p;obtain⟨kp,qS⟩:=xH ce.p;have m0:=fQ.kp (Kp.of aE);obtain⟨tx,cD⟩:=xE d.2.tx;obtain⟨kM,mj⟩:=xE (σ.M.find aq tx);have ho:Hid (∀ X,NJ w2 X->NK 195 #[Nu mb,Nr aq,ND tx] X fun e w'=>e=NU (Nr kM)/\NJ X w'):=fun X aj=>by
  obtain⟨_,_,_,_,ac⟩:=dj.later aj;rw[mj];exact adl ac.hh aJ.go.ok aJ.go.sm Nw aq tx
 rcases U:F.v (Nz d 0) ⟨aq,aF,st⟩ σ with ⟨⟨v1,av⟩,σ1⟩
 obtain⟨rs,d6⟩:=xE (avQ F d ⟨aq,aF,st⟩ σ);rw[<-d6];have bD:Hid (rs=match (((v1,av),σ1):(Va × Er) × St) with
  | ((v,.no),σ1)=>asg kM tx v st σ1
  | ((_,e),σ1)=>(e,σ1)):=by
  show _=_
  rw[d6];unfold avQ;rw[U,mj,cD]
 have bY:=hide U;have r7:=hide cq;rw[U] at h1;have gd:=cS.cells.2.2.1;rw[<-cD] at gd;have hblk:=cS.blk;have hblk2:=cS.aiL (Oj aE fS);rw[<-ag] at fS dL pH gd hblk ⊢;rw[<-qS.out] at dJ;have eB:=hide (Oj aE fS);have lz:=hide (Oj aE dJ);have mJ:=hide gd;have ix:=hide hblk;have pW:=hide hblk2;clear bK d6 U ag ds dJ cq cD mj gd hblk hblk2;go_enter func108,ntmps108;go_wp2_with fail;rw[<-bu.out,<-bU];clear bU;refine Rj 9 fun ab=>?_;have z:=kk (∀{G}(h:G:=by
 refine up 3 bc 0 ab ?_;refine uk 4 (ga.out.1) ab ?_;refine up 5 q 0 ab ?_;refine up 6 q 0 ab ?_;refine up 7 q 1 ab ?_;refine uk 8 mJ.out ab ?_;refine O0 9 fun K A=>?_;go_simp;refine cm (Ns ho _ ab) ?_;rintro e ao ⟨rfl,bm⟩;refine ko A ?_;clear A K;have cQ:NJ w2 ao:=ab.trans bm;have jC:=(dj.later cQ);have fi:=hide (stays cQ dF.out);have Cp:=hide (cells4 fi.out);have cV:=(da.trans (Om.of (L:=none) cQ (Oi dc)));have qO:=hide (Oj cQ eB.out);have s5:=hide (Oj cQ lz.out)
 have yD:=hide (Oj cQ mJ.out);have tg:Hid (∃ c,ao.heap[q]? = some (Og c 40)):=by obtain⟨c,ai⟩:=Ns ix;exact⟨c,stays cQ ai⟩
 have gh:=jC.lt;have AX:=lt_of_heap fi.out;have sK:q<ao.heap.size:=cell_lt qO.out;have c7:cC<ao.heap.size:=cell_lt s5.out;have bA:=hide (fun X (aj:NJ ao X)=>h1 X ce aC (jC.later aj) ((m0.kp (Kp.of cQ)).kp (Kp.of aj)));rw[<-qS.out] at bA;refine uz 10 (Nr kM) ?_;refine QX ?_ _;clear fS;go_simp;go_wp2_with fail;refine UC (H:=fun wz vb ev=>VB w0 mb af aa es ao v1 av σ1 wz vb ev) (G:=?GG) (fun dI=>?ways) ?rest
 case ways=>
  refine Rj 8 fun ab=>?_;have z:=kk (∀{G}(h:G:=by
  refine uk 4 qO.out ab ?_;refine up 5 cC 0 ab ?_;exact ay7),G);exact U5
 rintro wz vb ev aN;have ee:=aN.ms.lt;have di:Om none mb w wz:=cV.trans aN.fr;have eG:=hide (aN.fr.keep fi.out NH)
 by_cases au:av=.no
 ·subst au;have br:ev=Pe:=aN.er;subst br;have b6:=Ns r7 v1 σ1 bY.out;obtain⟨uj,na⟩:=xE (asg kM tx v1 st σ1);have aH:rs=uj:=by rw[bD.out,na]
  have cz:=hide aH;have kC:Hid (∀ X,NJ wz X->NK 197 #[Nu mb,Nr kM,ND tx,vA v1,NI st] X (EPost w0 mb af aa es X uj)):=fun X aj=>by
   rw[na];exact arT aZ a' (aN.ms.later aj) b6 hN kM tx v1 st
  have gc:=hide (cells3 aN.v);have r1:=hide (cells4 eG.out);have n4:=hide (aN.fr.SX.RP yD.out tg.out (Or.inl rfl));have g':=cell_lt n4.out;have iR:=lt_of_heap eG.out;have EB:=lt_of_heap aN.v;clear na aH;go_wp2_with fail;refine Rj 9 fun ab=>?_;refine up 0 mb 0 ab ?_;refine uh 1 (Nr kM) (ab) ?_;refine up 2 q 0 ab ?_;refine up 3 q 0 ab ?_;refine up 4 q 1 ab ?_;refine uk 5 n4.out ab ?_;refine uk3 6 gc.out ab ?_;refine up 7 bc 2 ab ?_;refine uk 8 (r1.out.2.2.1) ab ?_;refine O0 9 fun K A=>?_;go_simp
  refine cm (Ns kC _ ab) ?_;rintro e dM ⟨⟨ev,rfl,aI⟩,qi,qh⟩;refine ko A ?_;clear A K;have j':=(di.trans ((Om.of (L:=none) ab (Oi ee)).trans qh));refine uz 10 ev ?_;refine QX ?_ _;go_simp;go_wp2_with fail;refine bodyPost_ret (v:=ev) (by simp[results,results108,go_sem]) rfl ?_;rw[cz.out];exact⟨⟨_,rfl,aI⟩,qi,j'⟩
 ·have z:=kk (∀{G}(h:G:=by
  refine bodyPost_ret (v:=.iface et ex) (by simp[results,results108,go_sem]) rfl ?_;rw[bJ.out];exact⟨⟨_,rfl,aN.er⟩,aN.ms,di⟩),G);exact aut),G);exact RU),G);exact zsn),G);exact zsf),G);exact zsr
end
end
end Hp
end Go.Proofs.YticfnaiehdpbmaaGreatDoor
