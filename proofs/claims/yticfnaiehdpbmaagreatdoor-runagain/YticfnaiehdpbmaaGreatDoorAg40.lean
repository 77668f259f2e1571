import Derived.Test.YticfnaiehdpbmaaGreatDoorAg38
import Derived.Test.YticfnaiehdpbmaaGreatDoorAg35
import Derived.Test.YticfnaiehdpbmaaGreatDoorAg36
import Derived.Test.YticfnaiehdpbmaaGreatDoorAg32
set_option maxRecDepth 100000
set_option maxHeartbeats 8000000
set_option linter.unusedVariables false
namespace Go.Proofs.YticfnaiehdpbmaaGreatDoor
open Go.RowKit Go.Proofs.Tryz
namespace Hp
section
variable {w0:Ny} {mb af:Nat} {aa:List Nat} {es aS aB az aL:NP} {w w' w2:Ny} {σ:St} {N:Nat} {F:Fx} {L:Option Nat} {eb:Addr}
theorem ZY (bF:Stp w0 mb es eb)(aK:Ms w0 mb af aa w σ){a:Ad}{d:Nd}(hd:Oa aa w a d)(bn:d.2.kd=6)(eA:σ.steps<=20000)(hst1:σ.steps<20000)(p:Pl){l:Option Va}(hl:NY w L l){p1:Pl}{σ1:St}{rs:(Oc × Er × Option Va) × St}
  (Dr:∀ X,Ms w0 mb af aa X σ.step->Oa aa X a d->NK 110 #[Nu mb,Nu a.p,OQ p (LA L)] X fun e w'=>e=NU (OQ p1 (LA L))/\Ms w0 mb af aa w' σ1/\Om none mb X w')
  (tG:∀ X u,Ms w0 mb af aa X σ1->QT 0 X u a.ks->RV aa X a.ks (O3 d)->NY X L l->NK 28 #[Nu mb,u,OQ p1 (LA L)] X (OY w0 mb af aa es L X rs)) :
  NK 53 #[Nu mb,Nu a.p,OQ p (LA L)] w (OY w0 mb af aa es L w rs):=by
 have z:=kk (∀{G}(h:G:=by
 have z:=kk (∀{G}(h:G:=by
 have z:=kk (∀{G}(h:G:=by
 have z:=kk (∀{G}(h:G:=by
 have z:=kk (∀{G}(h:G:=by
 have z:=kk (∀{G}(h:G:=by
 have e1:=hide Dr;have hn:=hide tG;have e5:(d.2.kd:Int)=6:=by rw[bn]
 clear bK hr2 ds cH d5 Dr tG bn;go_enter func53,ntmps53;have z:=kk (∀{G}(h:G:=by
 have fB:=(ep.keep i8);have z:=kk (∀{G}(h:G:=by
 obtain⟨cT,dO,c3,hrow⟩:=g8.ar;obtain⟨gy,g1⟩:=xE d.2.kids.length;rw[<-g1] at c3 hrow;have nu:=g8.ndl;have hblk:=g8.blk;rw[<-bo.out] at g' g7 c3 hblk;rw[e5] at g7;have eB:=hide c3;have ix:=hide hblk;have iR:=lt_of_heap eG.out;clear e5 c3 hblk g1;go_wp2_with fail;have ab:Om none mb wz wz.drew:=Om.of P8.drew (Oi ee);have f0:=(Ns e1 _ (g6.later (Below.refl _ wz).drew) (g8.kp (Kp.of (Below.refl _ wz).drew)));rw[<-bo.out,<-kG.out] at f0;refine PO 9 (fun X=>Om none mb wz X) OJ ?_
 have z:=kk (∀{G}(h:G:=by
 refine uc 4 (.slice cT gy dO) rfl (Or.inl ⟨by kernel_rfl,fun X aj=>by have h0:=aj.SX.RP eB.out ix.out (Or.inl rfl);go_simp⟩) (ab) ?_
 refine up 5 mb 0 ab ?_;refine up 6 q 0 ab ?_;refine uc 7 (.agg #[Nr aq,Nr aF,NI st,.pointer aC]) rfl (Or.inl ⟨by kernel_rfl,fun X aj=>by have h0:=(cells4 (aj.keep eG.out NH)).1;have h1:=(cells4 (aj.keep eG.out NH)).2.1;have O:=(cells4 (aj.keep eG.out NH)).2.2.1;have ax:=(cells4 (aj.keep eG.out NH)).2.2.2.1;go_simp⟩) (ab) ?_
 refine O0 8 fun K A=>?_;go_simp;refine cm f0 ?_;rintro e dM ⟨rfl,qi,qh⟩;have lK:Om none mb wz dM:=ab.trans qh;refine A.out _ _ (fun _=>lK) ?_;clear A K;have fa:=(Ns hn dM _ qi (hrow.kp lK.SX) (RV.kp lK.SX _ _ nu) (fB.keep lK));rw[<-kG.out] at fa;have nA:=hide (lK.keep dU.out NH);have j':=(di.trans lK);have F1:=(fB.keep lK);refine O0 9 fun K A=>?_;go_simp;refine cm fa ?_;rintro e aD ⟨⟨ev,rfl,aI⟩,aK,ak,gD⟩;refine ko A ?_;clear A K;have dG:=hide (ak.P7 F1 nA.out NH NH)
 have fc:=(j'.up.trans ak);obtain⟨jR,p4⟩:=xH rs.1.1;rw[<-p4.out];obtain⟨hz,g4,gR,j7,kx,ky,kz,wO,kA⟩:=PE dG.out;refine uz 10 (RX jR) ?_;have bP:=kk (∀{G}(h:G:=by
 refine uz 13 ev ?_;refine QX ?_ _;go_simp;have z:=kk (∀{G}(h:G:=by
 refine bodyPost_ret (v:=.tuple #[RX jR,ev]) (by simp[results,results53,go_sem,bi,aY,aX,cu]) rfl ?_;exact ap8),G);exact azy),G);exact ztl),G);exact U5),G);exact ahk),G);exact aa3),G);exact Zh),G);exact ZU),G);exact zsc),G);exact V8),G);exact zsd),G);exact zso
def aqm:Er->Bool
 | .no=>true
 | _=>false
theorem Zi (bF:Stp w0 mb es eb)(aK:Ms w0 mb af aa w σ){a:Ad}{d:Nd}(hd:Oa aa w a d)(bn:d.2.kd=10)(eA:σ.steps<=20000)(hst1:σ.steps<20000)(p:Pl){l:Option Va}(hl:NY w L l){v1:Va}{av:Er}{σ1:St}
  (bq:∀ X u,Ms w0 mb af aa X σ.step->Oa aa X a d->QT 0 X u a.ks->NK 114 #[Nu mb,u,OQ p (LA L)] X (Oh w0 mb af aa es X ((v1,av),σ1))) :
  NK 53 #[Nu mb,Nu a.p,OQ p (LA L)] w (OY w0 mb af aa es L w ((⟨aqm av,v1⟩,av,l),σ1)):=by
 have z:=kk (∀{G}(h:G:=by
 have z:=kk (∀{G}(h:G:=by
 have z:=kk (∀{G}(h:G:=by
 have z:=kk (∀{G}(h:G:=by
 have z:=kk (∀{G}(h:G:=by
 have z:=kk (∀{G}(h:G:=by
 have ae:=bF.Vs;have ah:=hide bq;have e5:(d.2.kd:Int)=10:=by rw[bn]
 clear bK hr2 ds cH d5 bq bn;go_enter func53,ntmps53;go_wp2_with fail;rw[<-bu.out,<-b1,<-bU];clear bU b1;refine cm hstep ?_;rintro e fy ⟨rfl,g6,i8⟩;have dU:=hide (i8.keep bj.out NH);have eG:=hide (i8.keep dF.out NH);have di:=(da.trans i8);have fB:=(ep.keep i8);have z:=kk (∀{G}(h:G:=by
 obtain⟨cT,dO,c3,hrow⟩:=g8.ar;obtain⟨gy,g1⟩:=xE d.2.kids.length;rw[<-g1] at c3 hrow;have bA:=hide (fun X (aj:NJ fy X)=>Ns ah X _ (g6.later aj) (g8.kp (Kp.of aj)) (hrow.later aj));rw[<-kG.out] at bA;rw[<-bo.out] at g' g7 c3;rw[e5] at g7;have eB:=hide c3;have r1:=hide (cells4 eG.out);have iR:=lt_of_heap eG.out;clear e5 c3 g1;go_wp2_with fail;refine UC (H:=fun wz vb ev=>VB w0 mb af aa es fy v1 av σ1 wz vb ev) (G:=?GG) (fun dI=>?ways) ?rest
 case ways=>
  refine Rj 6 fun ab=>?_;have z:=kk (∀{G}(h:G:=by
  refine uk 4 eB.out ab ?_;refine uk4 5 r1.out ab ?_;refine uq2 6 10 (fun K A=>?_) fun K A=>?_
  ·have z:=kk (∀{G}(h:G:=by
   refine uz 7 (.tuple #[(vA v1),ev]) ?_;refine uz 8 (vA v1) ?_;refine uz 9 ev ?_;refine O0 10 fun K A=>?_;go_simp;refine ko A ?_;clear A K;have z:=kk (∀{G}(h:G:=by
   have ch:=VB.late (v:=v1) aI aK ((Om.of ab (Oi ee)).trans ak);exact auy),G);exact aqn),G);exact apX
  ·have z:=kk (∀{G}(h:G:=by
   have fe:aD.heap[fy.heap.size]? = some (Og #[Nr 0,Nr 0,OG] 65):=ak.keep (NG _ _) NH;obtain⟨z0,mC,z2,mD,mE,mF,zl⟩:=Ot fe;refine uz 7 (.tuple #[(vA v1),ev]) ?_;refine uz 8 (vA v1) ?_;refine uz 9 ev ?_;have z:=kk (∀{G}(h:G:=by
   have ch:=VB.early (v:=v1) fe OH (Oi ee) aI aK ((Om.of (OM.drew) (Oi ee)).trans ak)
   generalize ((aD.setCell (Nv fy.heap.size 0) (Nr v1.k)).setCell (Nv fy.heap.size 1) (Nr v1.n)).setCell (Nv fy.heap.size 2) (ND v1.s)=wz at ch ⊢
   generalize fy.heap.size=vb at ch ⊢
   exact dI wz vb ev ch),G);exact aqn),G);exact azh),G);exact U5
 rintro gS vb ev aN;have nB:=hide (aN.fr.keep dU.out NH);have n7:=(di.trans aN.fr);have F3:=(fB.keep aN.fr);have gc:=hide (cells3 aN.v);have oc:=aN.ms;have Fz:=aN.er;have L4:=aN.ms.lt;have h7:=lt_of_heap aN.v;obtain⟨cy,bQ,b5,d',dn,dp,dq,iL,rl⟩:=PE nB.out
 by_cases au:av=.no
 ·have br:ev=Pe:=by have h:=aN.er;rw[au] at h;exact h
  subst br;have bM:Hid (aqm av=true):=by rw[au];rfl
  go_wp2_with fail;refine Rj 5 fun ab=>?_;refine uh 0 Pe (ab) ?_;refine uh 1 (NI true) (ab) ?_;refine uk3 2 gc.out ab ?_;refine uh 3 (.agg #[NI true,Nr v1.k,Nr v1.n,ND v1.s]) (ab) ?_;refine uh 4 Pe (ab) ?_;refine O0 5 fun K A=>?_;go_simp;refine ko A ?_;clear A K;refine uz 6 Pe ?_;refine QX ?_ _;go_simp;go_wp2_with fail;obtain⟨b3,bz,bb,bx,bv,bi,aY,aX,cu⟩:=rt4 nB.out cI.out bI (Om.up (L:=L) n7) oc (NI true) (Nr v1.k) (Nr v1.n) (ND v1.s);rw[<-bz]
  refine bodyPost_ret (v:=.tuple #[RX ⟨true,v1⟩,Pe]) (by simp[results,results53,go_sem,bi,aY,aX,cu]) rfl ?_;exact azz
 ·obtain⟨et,ex,br⟩:=aN.er.Vs au ae;subst br;have bM:Hid (aqm av=false):=by
   show _=_
   exact XJ
  go_wp2_with fail;refine Rj 5 fun ab=>?_;refine uh 0 (.iface et ex) (ab) ?_;refine uh 1 (NI false) (ab) ?_;refine uk3 2 gc.out ab ?_;refine uh 3 (.agg #[NI false,Nr v1.k,Nr v1.n,ND v1.s]) (ab) ?_;refine uh 4 (.iface et ex) (ab) ?_;refine O0 5 fun K A=>?_;go_simp;refine ko A ?_;clear A K;refine uz 6 (.iface et ex) ?_;refine QX ?_ _;go_simp;go_wp2_with fail;obtain⟨b3,bz,bb,bx,bv,bi,aY,aX,cu⟩:=rt4 nB.out cI.out bI (Om.up (L:=L) n7) oc (NI false) (Nr v1.k) (Nr v1.n) (ND v1.s);rw[<-bz]
  refine bodyPost_ret (v:=.tuple #[RX ⟨false,v1⟩,.iface et ex]) (by simp[results,results53,go_sem,bi,aY,aX,cu]) rfl ?_;exact azz),G);exact ahk),G);exact Zh),G);exact ZU),G);exact zsc),G);exact V8),G);exact zsd),G);exact zso
theorem amY (ae:Yh es)(aK:Ms w0 mb af aa w σ){a:Ad}{d:Nd}(hd:Oa aa w a d)(E:d.2.kids.length=2)(p:Pl){l:Option Va}(hl:NY w L l)(f:Nat)
  (P:Nat->St->Option Va->Prop) (hP:P f σ l) (xu:∀ σ l,¬ P 0 σ l)
  (bq:∀ k σ l,P (k+1) σ l->RF w0 mb af aa es σ (Nz d 0) p (F.v (Nz d 0) p σ)/\∀ v σ1,F.v (Nz d 0) p σ=((v,.no),σ1)->v.tru=true->V7 w0 mb af aa es σ1 (Nz d 1) p L l (F.s (Nz d 1) p l σ1)/\∀ o b8 ck,F.s (Nz d 1) p l σ1=((o,.no,b8),ck)->P k ck b8) :
  NK 112 #[Nu mb,Nu a.p,OQ p (LA L)] w (OY w0 mb af aa es L w (X3 F d p f l σ)):=by
 have z:=kk (∀{G}(h:G:=by
 have z:=kk (∀{G}(h:G:=by
 have z:=kk (∀{G}(h:G:=by
 have z:=kk (∀{G}(h:G:=by
 obtain⟨q,bo⟩:=xH a.p;obtain⟨rs,bD⟩:=xH (X3 F d ⟨aq,aF,st⟩ f l σ);rw[<-bD.out,<-bo.out];have od:=hide hP;have rY:=hide xu;have ah:=hide bq;have pX:=hide E;have ep:=(hl.later aE);clear bK hr2 ds cH d5 hP xu bq E dL;go_enter func112,ntmps112;go_wp2_with fail;rw[<-bu.out,<-b1,<-bU];clear bU b1
 go_loopg [] f (fun k wr=>∃ (hv:Option Va) (dy:St),Ms w0 mb af aa wr dy/\P k dy hv/\Om L mb w2 wr/\NY wr L hv/\rs=X3 F d ⟨aq,aF,st⟩ k hv dy)
 case atStart=>exact⟨l,σ,dj,od.out,Om.of P8 (Oi dc),ep,bD.out⟩
 case round=>
  obtain⟨hv,dy,aK,ld,ak,ki,iJ⟩:=hrel;obtain⟨k,rfl⟩:∃ k,gk=k+1:=by
   cases gk with
   | zero=>exact absurd ld (Ns rY _ _)
   | succ k=>exact⟨k,rfl⟩
  obtain⟨ch,fF⟩:=Ns ah k dy hv ld;have hU:=aK;have iN:=hide iJ;have h6:=aK.lt;have IB:=ak.kpL ep;have bY:=hide (ak.P7 ep bj.out NH NH);have fD:=hide (ak.P7 ep dF.out NH NH);have Gi:=hide (cells4 fD.out);have IT:=lt_of_heap fD.out;have kD:=(da.up.trans ak);have lM:=cS.kp IB;have hR:=ak;have cM:=Ns pX;obtain⟨ce,bV,cC,cap0,c3,dJ,fT,fQ,jb⟩:=lM.acF cM;obtain⟨kp,dd⟩:=xE ce.p;obtain⟨wE,pZ⟩:=xH bV.p
  have bA:=hide (fun X (aj:NJ wr X)=>ch X ce aC (hU.later aj) (fQ.kp (Kp.of aj)));have hblk:=lM.blk;have hblk2:=lM.aiL c3;have I2:=lM.cells.1;rw[<-bo.out] at c3 hblk I2;rw[<-dd] at dJ bA;rw[<-pZ.out] at fT
  rcases dh:F.v (Nz d 0) ⟨aq,aF,st⟩ dy with ⟨⟨v1,av⟩,σ1⟩
  rw[dh] at bA;have cZ:=hide dh;have rN:=hide fF;have eB:=hide c3;have lz:=hide dJ;have n2:=hide fT;have ix:=hide hblk;have pW:=hide hblk2;have dx:=cell_lt dJ;clear ld iJ fF cM dd hblk hblk2 c3 dJ fT dh;go_wp2_with fail;refine UC (H:=fun wz vb ev=>VB w0 mb af aa es wr v1 av σ1 wz vb ev) (G:=?GG) (fun dI=>?ways) ?rest
  case ways=>
   refine Rj 8 fun ab=>?_;have z:=kk (∀{G}(h:G:=by
   have z:=kk (∀{G}(h:G:=by
   refine uk4 7 Gi.out ab ?_;refine uq2 8 12 (fun K A=>?_) fun K A=>?_
   ·have z:=kk (∀{G}(h:G:=by
    refine uz 14 ev ?_;refine QX ?_ _;go_simp;have ch:=VB.late (v:=v1) aI aK ((Om.of ab (Oi h6)).trans ak);exact auy),G);exact ap0
   ·have z:=kk (∀{G}(h:G:=by
    have fe:aD.heap[wr.heap.size]? = some (Og #[Nr 0,Nr 0,OG] 65):=ak.keep (NG _ _) NH;have z:=kk (∀{G}(h:G:=by
    have z:=kk (∀{G}(h:G:=by
    have ch:=VB.early (v:=v1) fe OH (Oi h6) aI aK ((Om.of (OM.drew) (Oi h6)).trans ak);exact aza),G);exact ahf),G);exact ap1),G);exact ap2),G);exact amO),G);exact U5
  rintro wz vb ev aN;have dU:=hide (aN.fr.keep bY.out NH);have eG:=hide (aN.fr.keep fD.out NH);have di:=(kD.trans aN.fr.up);have FG:=(hR.trans aN.fr.up);have fB:=(ki.keep aN.fr);have rQ:=aN.er;have jl:=aN.ms;have ee:=aN.ms.lt;have ci:vb≠aR:=fun e=>by
   have h1:=aN.vb;have O:=lt_of_heap bY.out;omega
  obtain⟨cy,bQ,b5,d',dn,dp,dq,iL,rl⟩:=PE dU.out;obtain⟨e',cj,dD,hf,hi,hj,g5⟩:=Ot (aN.v)
  by_cases au:av=.no
  ·subst au;have br:ev=Pe:=aN.er;subst br;have eO:=(VI v1 wz);have s1:=hide (aN.fr.SX.RP eB.out ix.out (Or.inl rfl));have yB:=hide (aN.fr.SX.RP n2.out pW.out (Or.inr rfl));have yS:=(jb.kp aN.fr.SX)
   cases eX:v1.tru with
   | true=>
    rw[eX] at eO;obtain⟨iS,ij⟩:=Ns rN v1 σ1 cZ.out eX;have lA:=hide ij;have lW:=hide eX;clear eX ij;go_wp2_with fail;refine cm eO ?_;rintro e ea ⟨rfl,cn⟩;have jD:=(jl.later cn);have nr:=(fB.later cn);have jm:=hide (stays cn dU.out);have r0:=hide (cells4 (stays cn eG.out));have lY:=(di.trans (Om.of (L:=L) cn (Oi ee)));have FE:=(FG.trans (Om.of (L:=L) cn (Oi ee)));have BS:=hide (Oj cn s1.out);have BV:=hide (Oj cn yB.out);have oM:=jD.lt;have v6:=r0.out.2.2.2.2.2
    have sJ:=cell_lt BS.out;have sF:=cell_lt BV.out;have fa:=hide (fun X (aj:NJ ea X)=>iS X bV (jD.later aj) ((yS.kp (Kp.of cn)).kp (Kp.of aj)) (nr.later aj));rw[<-kG.out,<-pZ.out] at fa
    rcases auz:F.s (Nz d 1) ⟨aq,aF,st⟩ hv σ1 with ⟨⟨bG,bC,b8⟩,ck⟩
    rw[auz] at fa;have uS:=hide auz;clear auz cy bQ b5 d' dn dp dq iL rl e' cj dD hf hi hj g5;go_wp2_with fail;refine UC (H:=fun wz vb ev=>SB w0 mb af aa es L ea bG bC b8 ck wz vb ev) (G:=?GGT) (fun dI=>?azo) ?aFa
    case azo=>
     refine Rj 8 fun ab=>?_;have z:=kk (∀{G}(h:G:=by
     refine uk 4 BS.out ab ?_;refine up 5 cC 1 ab ?_;refine uk 6 BV.out ab ?_;refine uk4 7 r0.out ab ?_;refine uq2 8 12 (fun K A=>?_) fun K A=>?_
     ·have z:=kk (∀{G}(h:G:=by
      refine uz 9 (.tuple #[(RX bG),ev]) ?_;refine uz 10 (RX bG) ?_;have bP:=kk (∀{G}(h:G:=by
      have z:=kk (∀{G}(h:G:=by
      have ch:=SB.late (o:=bG) aI aK ((Om.of ab (Oi oM)).trans ak) gD;exact auA),G);exact ahf),G);exact ztl),G);exact amU
     ·have bP:=kk (∀{G}(h:G:=by
      refine cm (Ns fa _ (OM.drew)) ?_;rintro e aD ⟨⟨ev,rfl,aI⟩,aK,ak,gD⟩;refine ko A ?_;clear A K;have fe:aD.heap[ea.heap.size]? = some (Og #[NI false,Nr 0,Nr 0,OG] 67):=ak.P7 (nr.later (OM.drew)) (NG _ _) NH NH;obtain⟨z0,mC,z2,z3,mD,mE,mF,sW,zl⟩:=PE (fe);refine uz 9 (.tuple #[(RX bG),ev]) ?_;refine uz 10 (RX bG) ?_;refine uz 11 ev ?_;have z:=kk (∀{G}(h:G:=by
      have ch:=SB.early (o:=bG) fe OH (Oi oM) aI aK ((Om.of (OM.drew) (Oi oM)).trans ak) gD
      generalize (((aD.setCell (Nv ea.heap.size 0) (NI bG.ret)).setCell (Nv ea.heap.size 1) (Nr bG.v.k)).setCell (Nv ea.heap.size 2) (Nr bG.v.n)).setCell (Nv ea.heap.size 3) (ND bG.v.s)=wz at ch ⊢
      generalize ea.heap.size=vb at ch ⊢
      exact dI wz vb ev ch),G);exact ahf),G);exact ztt),G);exact U5
    rintro wt ob oz cG;have gb:=hide (cG.fr.P7 nr jm.out NH NH);have ig:=(lY.trans cG.fr);have FF:=(FE.trans cG.fr);have ns:=cG.ms;have jy:=cG.er;have bS:=cG.la;have AP:=cG.ms.lt;have vR:ob≠aR:=fun e=>by
     have h1:=cG.ob;have O:=lt_of_heap jm.out;omega
    obtain⟨iu,⟨ew,dC,eE⟩⟩:=bG;obtain⟨cy,bQ,b5,d',dn,dp,dq,iL,rl⟩:=PE gb.out;obtain⟨hk,gn,gp,pR,ib,ic,id,pS,hm⟩:=PE (cG.o)
    cases iu with
    | true=>
     by_cases gw:bC=.no
     ·subst gw;have br:oz=Pe:=cG.er;subst br;have aH:rs=((⟨true,⟨ew,dC,eE⟩⟩,.no,b8),ck):=by rw[iN.out,X3,cZ.out];simp only[lW.out,if_true];rw[uS.out];rfl
      have cz:=hide aH;clear aH;have z:=kk (∀{G}(h:G:=by
      refine bodyPost_ret (v:=.tuple #[RX ⟨true,⟨ew,dC,eE⟩⟩,Pe]) (by simp[results,results112,go_sem,bi,aY,aX,cu]) rfl ?_;exact auB),G);exact aqb
     ·obtain⟨et,ex,br⟩:=cG.er.Vs gw ae;subst br;have aH:rs=((⟨true,⟨ew,dC,eE⟩⟩,bC,b8),ck):=by
       rw[iN.out,X3,cZ.out];simp only[lW.out,if_true];rw[uS.out];exact auf
      have cz:=hide aH;clear aH gw;have z:=kk (∀{G}(h:G:=by
      refine bodyPost_ret (v:=.tuple #[RX ⟨true,⟨ew,dC,eE⟩⟩,.iface et ex]) (by simp[results,results112,go_sem,bi,aY,aX,cu]) rfl ?_;exact auB),G);exact aqb
    | false=>
     by_cases gw:bC=.no
     ·subst gw;have br:oz=Pe:=cG.er;subst br;have aH:rs=X3 F d ⟨aq,aF,st⟩ k b8 ck:=by rw[iN.out,X3,cZ.out];simp only[lW.out,if_true];rw[uS.out];rfl
      have cz:=hide aH;clear aH;go_wp2_with fail
      go_roundg k
      case measure=>omega
      case rel=>exact⟨b8,ck,ns,Ns lA _ b8 ck uS.out,FF,bS,cz.out⟩
     ·obtain⟨et,ex,br⟩:=cG.er.Vs gw ae;subst br;have aH:rs=((⟨false,⟨ew,dC,eE⟩⟩,bC,b8),ck):=by
       rw[iN.out,X3,cZ.out];simp only[lW.out,if_true];rw[uS.out];exact auf
      have z:=kk (∀{G}(h:G:=by
      refine bodyPost_ret (v:=.tuple #[RX ⟨false,⟨ew,dC,eE⟩⟩,.iface et ex]) (by simp[results,results112,go_sem,bi,aY,aX,cu]) rfl ?_;exact auB),G);exact azq
   | false=>
    rw[eX] at eO;have aH:rs=((PX,.no,hv),σ1):=by rw[iN.out,X3,cZ.out];simp[eX]
    have cz:=hide aH;clear eX aH;go_wp2_with fail;refine cm eO ?_;rintro e ea ⟨rfl,cn⟩;have jD:=(jl.later cn);have nr:=(fB.later cn);have jm:=hide (stays cn dU.out);have lY:=(di.trans (Om.of (L:=L) cn (Oi ee)));obtain⟨hk,gn,gp,pR,ib,ic,id,pS,hm⟩:=PE jm.out;clear cy bQ b5 d' dn dp dq iL rl;go_wp2_with fail;obtain⟨b3,bz,bb,bx,bv,bi,aY,aX,cu⟩:=rt4 jm.out cI.out bI lY jD (NI false) (Nr 0) (Nr 0) (OG);rw[<-bz]
    refine bodyPost_ret (v:=.tuple #[RX PX,Pe]) (by simp[results,results112,go_sem,bi,aY,aX,cu,vU]) rfl ?_;rw[cz.out];exact⟨⟨_,rfl,rfl⟩,bv,bx,nr.Rk bb⟩
  ·obtain⟨et,ex,br⟩:=aN.er.Vs au ae;subst br;have aH:rs=((PX,av,hv),σ1):=by
    rw[iN.out,X3,cZ.out];exact XJ
   have cz:=hide aH;clear aH au;go_wp2_with fail;obtain⟨b3,bz,bb,bx,bv,bi,aY,aX,cu⟩:=rt4 dU.out cI.out bI di jl (NI false) (Nr 0) (Nr 0) (OG);rw[<-bz];refine bodyPost_ret (v:=.tuple #[RX PX,.iface et ex]) (by simp[results,results112,go_sem,bi,aY,aX,cu,vU]) rfl ?_;rw[cz.out];exact⟨⟨_,rfl,rQ.O6 bb NH⟩,bv,bx,fB.Rk bb⟩),G);exact zsc),G);exact V8),G);exact zsd),G);exact zso
theorem auw (ae:Yh es)(aK:Ms w0 mb af aa w σ){a:Ad}{d:Nd}(hd:Oa aa w a d)(E:d.2.kids.length=2)(p:Pl){l:Option Va}(hl:NY w L l)(h1:RF w0 mb af aa es σ (Nz d 0) p (F.v (Nz d 0) p σ))
  (O:∀ o σ1,Tc F (Nz d 0) p σ=((o,.no),σ1)->V7 w0 mb af aa es (σ1.opn p.scope o (-2)) (Nz d 1) { p with scope:=σ1.top } L l (F.s (Nz d 1) { p with scope:=σ1.top } l (σ1.opn p.scope o (-2)))/\Sz N σ1/\(σ1.M.ro p.scope).isSome=true) (hN:N<1000000000) :
  NK 113 #[Nu mb,Nu a.p,OQ p (LA L)] w (OY w0 mb af aa es L w (wiQ F d p l σ)):=by
 have z:=kk (∀{G}(h:G:=by
 have z:=kk (∀{G}(h:G:=by
 have z:=kk (∀{G}(h:G:=by
 have z:=kk (∀{G}(h:G:=by
 obtain⟨ce,bV,cC,cap0,c3,dJ,fT,fQ,jb⟩:=cS.acF E;obtain⟨q,bo⟩:=xH a.p;obtain⟨kp,dd⟩:=xE ce.p;obtain⟨wE,pZ⟩:=xH bV.p;have z:=kk (∀{G}(h:G:=by
 obtain⟨rs,bD⟩:=xH (wiQ F d ⟨aq,aF,st⟩ l σ);rw[<-bD.out,<-bo.out];have hblk:=cS.blk;have hblk2:=cS.aiL c3;rw[<-bo.out] at c3 dL hblk;rw[<-dd] at dJ bA;rw[<-pZ.out] at fT
 rcases U:Tc F (Nz d 0) ⟨aq,aF,st⟩ σ with ⟨⟨bG,av⟩,σ1⟩
 rw[U] at bA;have eB:=hide c3;have lz:=hide dJ;have n2:=hide fT;have ix:=hide hblk;have pW:=hide hblk2;have dx:=cell_lt dJ;have bY:=hide U;have gT:=hide O;have ep:=(hl.later aE);have r6:=hide ds;have td:=hide d5;clear bK hr2 U h1 ds cH d5 c3 dJ fT dd O hblk hblk2;go_enter func113,ntmps113;have z:=kk (∀{G}(h:G:=by
 have z:=kk (∀{G}(h:G:=by
 have z:=kk (∀{G}(h:G:=by
 have fB:=(ep.keep oG);have s1:=hide (oG.SX.RP eB.out ix.out (Or.inl rfl));have yB:=hide (oG.SX.RP n2.out pW.out (Or.inr rfl));have w8:Hid (∃ c,wz.heap[q]? = some (Og c 40)):=by obtain⟨c,ai⟩:=Ns ix;exact⟨c,oG.SX _ _ _ ai (Or.inl rfl)⟩
 have w3:Hid (∃ c,wz.heap[cC]? = some (Og c 22)):=by obtain⟨c,ai⟩:=Ns pW;exact⟨c,oG.SX _ _ _ ai (Or.inr rfl)⟩
 have yS:=(jb.kp oG.SX);have ee:=g6.lt;obtain⟨cy,bQ,b5,d',dn,dp,dq,iL,rl⟩:=PE dU.out
 by_cases au:av=.no
 ·subst au;have br:ev=Pe:=aI;subst br;obtain⟨hsc2,b6,mr⟩:=Ns gT bG σ1 bY.out;obtain⟨eZ,kX⟩:=xE (σ1.top:Int);obtain⟨ck,f'⟩:=xE (σ1.opn aq bG (-2));have cg:NK 50 #[Nu mb,Nr aq,Nr bG,Nr (-2)] wz fun e w'=>e=NU (Nr eZ)/\Ms w0 mb af aa w' ck/\Om none mb wz w':=by
   obtain⟨_,_,_,_,ac⟩:=id g6;refine(X4 ac b6 hN aq bG (-2) mr).mono ?_;rintro e w' ⟨rfl,wG,e8,cQ⟩;rw[kX,f'];exact⟨rfl,⟨_,_,_,_,e8⟩,cQ.ZO ac⟩
  have aH:rs=F.s (Nz d 1) ⟨eZ,aF,st⟩ l ck:=by rw[bD.out];unfold wiQ;rw[bY.out,kX,f']
  have cz:=hide aH;have eU:V7 w0 mb af aa es ck (Nz d 1) ⟨eZ,aF,st⟩ L l rs:=by
   show V7 _ _ _ _ _ _ _ _ _ _ _
   rw[aH,kX,f'];exact hsc2
  obtain⟨aW,p1,cr,cL,_,dY⟩:=cells4 eG.out;clear mr kX f' aH cy bQ b5 d' dn dp dq iL rl;go_simp;go_wp2_with fail;refine cm cg ?_;rintro e ao ⟨rfl,eV,f4⟩;have fi:=hide (f4.keep eG.out NH);have c8:=hide (f4.keep dU.out NH);have uJ:=(fB.keep f4);have cV:=(di.trans f4);have qO:=hide (f4.SX.RP s1.out w8.out (Or.inl rfl));have s5:=hide (f4.SX.RP yB.out w3.out (Or.inr rfl));have tg:Hid (∃ c,ao.heap[q]? = some (Og c 40)):=by obtain⟨c,ai⟩:=Ns w8;exact⟨c,f4.SX _ _ _ ai (Or.inl rfl)⟩
  have wZ:Hid (∃ c,ao.heap[cC]? = some (Og c 22)):=by obtain⟨c,ai⟩:=Ns w3;exact⟨c,f4.SX _ _ _ ai (Or.inr rfl)⟩
  have FV:=(yS.kp f4.SX);clear aW p1 cr cL dY;obtain⟨aW,p1,cr,cL,gQ,dY⟩:=cells4 fi.out;have o6:=gQ 0;clear gQ;go_wp2_with fail;have bP:=kk (∀{G}(h:G:=by
  have m6:Kp ao (ao.setCell (Nv bc 0) (Nr eZ)):=fun b c e D au=>lk.rest b c e D (by rcases au with rfl|rfl <;> decide);have kF:=(eV.Xd lk NH);have uR:=hide (cells4 (XE fi.out (Nr eZ)));have gA:Hid (bB.heap[aR]? = some (Og #[NI false,Nr 0,Nr 0,OG] 67)):=by
   exact apK
  have fI:=(cV.newT lk (YF r6.out _));have qT:=(uJ.Rk lk);have yz:=hide (m6.RP qO.out tg.out (Or.inl rfl));have yA:=hide (m6.RP s5.out wZ.out (Or.inr rfl));have Ca:=(FV.kp m6);rw[<-eL] at kF uR fI qT yz yA Ca ⊢;have fa:=hide (fun X (aj:NJ bB X)=>eU X bV (kF.later aj) (Ca.kp (Kp.of aj)) (qT.later aj));rw[<-kG.out,<-pZ.out] at fa;have gx:=kF.lt;have lj:=uR.out.2.2.2.2.2;have tY:=cell_lt yz.out;have m4:=cell_lt yA.out;clear eL aW p1 cr cL dY o6;refine Rj 8 fun ab=>?_
  have z:=kk (∀{G}(h:G:=by
  refine uk 4 yz.out ab ?_;refine up 5 cC 1 ab ?_;refine uk 6 yA.out ab ?_;refine uk4 7 uR.out ab ?_;refine O0 8 fun K A=>?_;have z:=kk (∀{G}(h:G:=by
  have jJ:=(Om.of (L:=L) ab (Oi gx)).trans ak;have dG:=hide (jJ.P7 qT gA.out NH NH);have fc:=(fI.up.trans jJ);have z:=kk (∀{G}(h:G:=by
  refine bodyPost_ret (v:=.tuple #[RX jR,ev]) (by simp[results,results113,go_sem,bi,aY,aX,cu]) rfl ?_;exact ap8),G);exact auu),G);exact amU),G);exact U5),G);exact azn
 ·obtain⟨et,ex,br⟩:=aI.Vs au ae;subst br;have aH:rs=((PX,av,l),σ1):=by
   rw[bD.out];unfold wiQ;rw[bY.out];exact XJ
  have bJ:=hide aH;clear au aH;go_simp;go_wp2_with fail;obtain⟨b3,bz,bb,bx,bv,bi,aY,aX,cu⟩:=rt4 dU.out cI.out bI di g6 (NI false) (Nr 0) (Nr 0) (OG);rw[<-bz];refine bodyPost_ret (v:=.tuple #[RX PX,.iface et ex]) (by simp[results,results113,go_sem,bi,aY,aX,cu,vU]) rfl ?_;rw[bJ.out];exact⟨⟨_,rfl,rQ.O6 bb NH⟩,bv,bx.up,fB.Rk bb⟩),G);exact aub),G);exact U5),G);exact apT),G);exact auc),G);exact zsc),G);exact V8),G);exact zsd),G);exact zso
variable {d:Nd}{p:Pl}{l:Option Va}{f:Nat}
theorem aiS (ae:¬ σ.steps<20000):Yg F d p σ=((vU,.stop),σ.step):=if_pos (show 20000<σ.steps+1 by omega)
theorem aiU (ae:¬ σ.steps<20000):stF F f d p l σ=((PX,.stop,l),σ.step):=if_pos (show 20000<σ.steps+1 by omega)
section
variable (ae:σ.steps<20000)
include ae
theorem arZ (E:d.2.kd=17):Yg F d p σ=((VF d.2.n,.no),σ.step):=by
 obtain⟨no,kd,tx,n,ks⟩:=d;change kd=17 at E;exact Uo
theorem ar0 (E:d.2.kd=18):Yg F d p σ=((U1 d.2.tx,.no),σ.step):=by
 obtain⟨no,kd,tx,n,ks⟩:=d;change kd=18 at E;exact Uo
theorem ar1 (E:d.2.kd=19):Yg F d p σ=((Pg true,.no),σ.step):=by
 obtain⟨no,kd,tx,n,ks⟩:=d;change kd=19 at E;exact Uo
theorem ar2 (E:d.2.kd=20):Yg F d p σ=((Pg false,.no),σ.step):=by
 obtain⟨no,kd,tx,n,ks⟩:=d;change kd=20 at E;exact Uo
theorem ar4 (E:d.2.kd=21):Yg F d p σ=((afd,.no),σ.step):=by
 obtain⟨no,kd,tx,n,ks⟩:=d;change kd=21 at E;exact Uo
theorem ar5 (E:d.2.kd=23):Yg F d p σ=afg d p σ.step:=by
 obtain⟨no,kd,tx,n,ks⟩:=d;change kd=23 at E;exact Uo
theorem ar6 (E:d.2.kd=24):Yg F d p σ=aj9 F d p σ.step:=by
 obtain⟨no,kd,tx,n,ks⟩:=d;change kd=24 at E;exact Uo
theorem ar7 (E:d.2.kd=25):Yg F d p σ=aaT F d p σ.step:=by
 obtain⟨no,kd,tx,n,ks⟩:=d;change kd=25 at E;exact Uo
theorem ar8 (E:d.2.kd=26):Yg F d p σ=aaT F d p σ.step:=by
 obtain⟨no,kd,tx,n,ks⟩:=d;change kd=26 at E;exact Uo
theorem ar9 (E:d.2.kd=27):Yg F d p σ=Zf F d p σ.step:=by
 obtain⟨no,kd,tx,n,ks⟩:=d;change kd=27 at E;exact Uo
theorem asa (E:d.2.kd=28):Yg F d p σ=Zf F d p σ.step:=by
 obtain⟨no,kd,tx,n,ks⟩:=d;change kd=28 at E;exact Uo
theorem asb (E:d.2.kd=29):Yg F d p σ=Zf F d p σ.step:=by
 obtain⟨no,kd,tx,n,ks⟩:=d;change kd=29 at E;exact Uo
theorem asc (E:d.2.kd=30):Yg F d p σ=Zf F d p σ.step:=by
 obtain⟨no,kd,tx,n,ks⟩:=d;change kd=30 at E;exact Uo
theorem ase (E:d.2.kd=31):Yg F d p σ=Zf F d p σ.step:=by
 obtain⟨no,kd,tx,n,ks⟩:=d;change kd=31 at E;exact Uo
theorem asf (E:d.2.kd=32):Yg F d p σ=akb F d p σ.step:=by
 obtain⟨no,kd,tx,n,ks⟩:=d;change kd=32 at E;exact Uo
theorem ash (E:d.2.kd=33):Yg F d p σ=adu F d p σ.step:=by
 obtain⟨no,kd,tx,n,ks⟩:=d;change kd=33 at E;exact Uo
theorem asi (E:d.2.kd=34):Yg F d p σ=aaR F d p σ.step:=by
 obtain⟨no,kd,tx,n,ks⟩:=d;change kd=34 at E;exact Uo
theorem asj (E:d.2.kd=35):Yg F d p σ=Yy F d p σ.step:=by
 obtain⟨no,kd,tx,n,ks⟩:=d;change kd=35 at E;exact Uo
theorem asl (E:d.2.kd=36):Yg F d p σ=akc F d p σ.step:=by
 obtain⟨no,kd,tx,n,ks⟩:=d;change kd=36 at E;exact Uo
theorem asn (E:d.2.kd=37):Yg F d p σ=(((VG d p σ.step).1,.no),(VG d p σ.step).2):=by
 obtain⟨no,kd,tx,n,ks⟩:=d;change kd=37 at E;exact Uo
theorem aso (E:d.2.kd=38):Yg F d p σ=Y9 F p σ.step.M.objs.length (O3 d) { σ.step with M:=σ.step.M.Oy 0 }:=by
 obtain⟨no,kd,tx,n,ks⟩:=d;change kd=38 at E;exact Uo
theorem aAr (E:d.2.kd=2):stF F f d p l σ=if d.2.kids.length=0 then ((PX,.no,l),σ.step) else ((PX,(avQ F d p σ.step).1,l),(avQ F d p σ.step).2):=by
 obtain⟨no,kd,tx,n,ks⟩:=d;change kd=2 at E;have z:=kk (∀{G}(h:G:=by
 by_cases h0:ks.length=0
 ·exact(if_pos h0).trans (if_pos h0).symm
 ·refine((if_neg h0).trans ?_).trans (if_neg h0).symm;unfold avQ
  show (match F.v _ p σ.step with | ((v,.no),σ1)=>_ | ((_,e),σ1)=>_)=_
  rcases F.v (Nz (no,.mk 2 tx n ks) 0) p σ.step with ⟨⟨v,e⟩,σ1⟩
  cases e <;> rfl),G);exact ahQ
theorem aAt (E:d.2.kd=3):stF F f d p l σ=((PX,(aa0 d p (TV F (O3 d) p σ.step)).1,l),(aa0 d p (TV F (O3 d) p σ.step)).2):=by
 obtain⟨no,kd,tx,n,ks⟩:=d;change kd=3 at E;have z:=kk (∀{G}(h:G:=by
 show (match TV F _ p σ.step with | ((v,.no),σ1)=>_ | ((_,e),σ1)=>_)=_
 rcases TV F (O3 (no,.mk 3 tx n ks)) p σ.step with ⟨⟨v,e⟩,σ1⟩
 cases e <;> rfl),G);exact ahQ
theorem aAu (E:d.2.kd=4):stF F f d p l σ=((PX,(aa0 d p (TV F (O3 d) p σ.step)).1,l),(aa0 d p (TV F (O3 d) p σ.step)).2):=by
 obtain⟨no,kd,tx,n,ks⟩:=d;change kd=4 at E;have z:=kk (∀{G}(h:G:=by
 show (match TV F _ p σ.step with | ((v,.no),σ1)=>_ | ((_,e),σ1)=>_)=_
 rcases TV F (O3 (no,.mk 4 tx n ks)) p σ.step with ⟨⟨v,e⟩,σ1⟩
 cases e <;> rfl),G);exact ahQ
theorem aAv (E:d.2.kd=6):stF F f d p l σ=QC F (O8 d p σ.step).1 (O3 d) l (O8 d p σ.step).2:=by
 obtain⟨no,kd,tx,n,ks⟩:=d;change kd=6 at E;exact Uo
theorem aAw (E:d.2.kd=7):stF F f d p l σ=chQ F d p l σ.step:=by
 obtain⟨no,kd,tx,n,ks⟩:=d;change kd=7 at E;exact Uo
theorem aAx (E:d.2.kd=8):stF F f d p l σ=X3 F d p f l σ.step:=by
 obtain⟨no,kd,tx,n,ks⟩:=d;change kd=8 at E;exact Uo
theorem aAy (E:d.2.kd=9):stF F f d p l σ=wiQ F d p l σ.step:=by
 obtain⟨no,kd,tx,n,ks⟩:=d;change kd=9 at E;exact Uo
theorem asr (E:d.2.kd=10):stF F f d p l σ=((⟨aqm (TV F (O3 d) p σ.step).1.2,(TV F (O3 d) p σ.step).1.1⟩,(TV F (O3 d) p σ.step).1.2,l),(TV F (O3 d) p σ.step).2):=by
 obtain⟨no,kd,tx,n,ks⟩:=d;change kd=10 at E;have z:=kk (∀{G}(h:G:=by
 show (match TV F _ p σ.step with | ((v,.no),σ1)=>_ | ((v,e),σ1)=>_)=_
 rcases TV F (O3 (no,.mk 10 tx n ks)) p σ.step with ⟨⟨v,e⟩,σ1⟩
 cases e <;> rfl),G);exact ahQ
theorem asu (E:d.2.kd=11):stF F f d p l σ=((PX,(amS (F.v (Nz d 0) p σ.step)).1,l),(amS (F.v (Nz d 0) p σ.step)).2):=by
 obtain⟨no,kd,tx,n,ks⟩:=d;change kd=11 at E;have z:=kk (∀{G}(h:G:=by
 show (match F.v _ p σ.step with | ((v,.no),σ1)=>_ | ((_,e),σ1)=>_)=_
 rcases F.v (Nz (no,.mk 11 tx n ks) 0) p σ.step with ⟨⟨v,e⟩,σ1⟩
 cases e <;> rfl),G);exact ahQ
theorem asw (E:d.2.kd=12):stF F f d p l σ=Za F p (O3 d).tail (F.s (Nz d 0) p l σ.step).1.1 (F.s (Nz d 0) p l σ.step).1.2.1 (F.s (Nz d 0) p l σ.step).1.2.2 (F.s (Nz d 0) p l σ.step).2:=by
 obtain⟨no,kd,tx,n,ks⟩:=d;change kd=12 at E;exact Uo
theorem asv (E:d.2.kd=15):stF F f d p l σ=((PX,(afp l (F.v (Nz d 0) p σ.step)).1.1,(afp l (F.v (Nz d 0) p σ.step)).1.2),(afp l (F.v (Nz d 0) p σ.step)).2):=by
 obtain⟨no,kd,tx,n,ks⟩:=d;change kd=15 at E;have z:=kk (∀{G}(h:G:=by
 show (match F.v _ p σ.step with | ((v,.no),σ1)=>_ | ((_,e),σ1)=>_)=_
 rcases F.v (Nz (no,.mk 15 tx n ks) 0) p σ.step with ⟨⟨v,e⟩,σ1⟩
 cases e <;> rfl),G);exact ahQ
theorem asq (E:d.2.kd≠17/\d.2.kd≠18/\d.2.kd≠19/\d.2.kd≠20/\d.2.kd≠21/\d.2.kd≠23/\d.2.kd≠24/\d.2.kd≠25/\d.2.kd≠26/\d.2.kd≠27/\d.2.kd≠28/\d.2.kd≠29/\d.2.kd≠30/\d.2.kd≠31/\d.2.kd≠32/\d.2.kd≠33/\d.2.kd≠34/\d.2.kd≠35/\d.2.kd≠36/\d.2.kd≠37/\d.2.kd≠38):Yg F d p σ=((vU,.no),σ.step):=by
 obtain⟨HH,qe,HI,q7,HK,ii,HL,HM,HN,Ld,vp,mU,zL,sn,vq,mg,HR,zM,qf,HS,HT⟩:=E;refine(if_neg (show ¬ 20000<σ.steps+1 by omega)).trans ?_;refine(if_neg HH).trans ?_;refine(if_neg qe).trans ?_;refine(if_neg (fun h=>h.elim HI q7)).trans ?_;refine(if_neg HK).trans ?_;refine(if_neg ii).trans ?_;refine(if_neg HL).trans ?_;refine(if_neg (fun h=>h.elim HM HN)).trans ?_;refine(if_neg (fun h=>by omega)).trans ?_;refine(if_neg vq).trans ?_;refine(if_neg mg).trans ?_;refine(if_neg HR).trans ?_
 refine(if_neg zM).trans ?_;refine(if_neg qf).trans ?_;refine(if_neg HS).trans ?_;refine(if_neg HT).trans ?_;rfl
theorem aiT (E:d.2.kd≠2/\d.2.kd≠3/\d.2.kd≠4/\d.2.kd≠6/\d.2.kd≠7/\d.2.kd≠8/\d.2.kd≠9/\d.2.kd≠10/\d.2.kd≠11/\d.2.kd≠12/\d.2.kd≠15):stF F f d p l σ=((PX,.no,l),σ.step):=by
 obtain⟨O,ax,aU,cA,j1,hI,hq,kN,nF,hH,i7⟩:=E;refine(if_neg (show ¬ 20000<σ.steps+1 by omega)).trans ?_;refine(if_neg O).trans ?_;refine(if_neg (fun h=>h.elim ax aU)).trans ?_;refine(if_neg cA).trans ?_;refine(if_neg j1).trans ?_;refine(if_neg hI).trans ?_;refine(if_neg hq).trans ?_;refine(if_neg kN).trans ?_;refine(if_neg nF).trans ?_;refine(if_neg hH).trans ?_;refine(if_neg i7).trans ?_;rfl
end
end
section
variable {d:Nd} (h:Nk 0 d.2)
include d h
theorem Nk.VP (E:24<=d.2.kd/\d.2.kd<=36):Nk 0 (Nz d 0).2/\1<=d.2.kids.length:=by
 obtain⟨no,t⟩:=d;have ae:=h.sh;simp only at ae E h
 cases ae with
 | alz _ a'=>exact⟨h.kid List.mem_cons_self a',OH⟩
 | call a' _ _=>exact⟨h.kid List.mem_cons_self a',by show 1<=(_::_).length;simp⟩
 | one _ a'=>exact⟨h.kid List.mem_cons_self a',OH⟩
 | two _ a' _=>exact⟨h.kid List.mem_cons_self a',by show 1<=2;omega⟩
 | asg _ a' _=>exact⟨h.kid List.mem_cons_self a',by show 1<=2;omega⟩
 | lit h1=>simp only[Tr.kd] at E;omega
 | _=>simp only[Tr.kd] at E;omega
theorem Nk.ahy (E:24<=d.2.kd/\d.2.kd<=31):Nk 0 (Nz d 1).2/\d.2.kids.length=2:=by
 obtain⟨no,t⟩:=d;have ae:=h.sh;simp only at ae E h
 cases ae with
 | two _ _ a'=>exact⟨h.kid (List.mem_cons_of_mem _ List.mem_cons_self) a',rfl⟩
 | asg _ _ a'=>exact⟨h.kid (List.mem_cons_of_mem _ List.mem_cons_self) a',rfl⟩
 | lit h1=>simp only[Tr.kd] at E;omega
 | one h1=>simp only[Tr.kd] at E;omega
 | _=>simp only[Tr.kd] at E;omega
theorem Nk.one1 (E:32<=d.2.kd/\d.2.kd<=36/\d.2.kd≠35):d.2.kids.length=1:=by
 obtain⟨no,t⟩:=d;have ae:=h.sh;simp only at ae E h
 cases ae with
 | alz _ a'=>rfl
 | one _ a'=>rfl
 | lit h1=>simp only[Tr.kd] at E;omega
 | two h1=>simp only[Tr.kd] at E;omega
 | _=>simp only[Tr.kd] at E;omega
theorem Nk.aFw (E:d.2.kd=24):(Nz d 0).2.kd=23\/(Nz d 0).2.kd=36:=by
 obtain⟨no,t⟩:=d;have ae:=h.sh;simp only at ae E h
 cases ae with
 | asg h1 _ _=>exact h1
 | lit h1=>simp only[Tr.kd] at E;omega
 | one h1=>simp only[Tr.kd] at E;omega
 | two h1=>simp only[Tr.kd] at E;omega
 | _=>cases E
theorem Nk.lam (E:d.2.kd=37):Fg d.2:=by
 refine⟨h.ct,h.nb,?_⟩;obtain⟨no,t⟩:=d;have ae:=h.sh;simp only at ae E h
 cases ae with
 | lam _ al D=>exact⟨_,_,_,_,_,rfl,al,D⟩
 | lit h1=>simp only[Tr.kd] at E;omega
 | one h1=>simp only[Tr.kd] at E;omega
 | two h1=>simp only[Tr.kd] at E;omega
 | _=>cases E
theorem Nk.obj (E:d.2.kd=38):(∀ k ∈ O3 d,Nk 0 (Nz k 0).2/\k.2.kids.length=1)/\d.2.kids.length<=8:=by
 obtain⟨no,t⟩:=d;have ae:=h.sh;simp only at ae E h
 cases ae with
 | obj ae hl=>
  refine⟨fun k E=>?_,hl⟩;have aV:=Py E;have h1:=ae _ aV;have O:=h.kid aV h1;obtain⟨JZ,u⟩:=k;simp only at h1 O
  cases h1 with
  | prop _ ap=>exact⟨O.kid List.mem_cons_self ap,rfl⟩
 | lit h1=>simp only[Tr.kd] at E;omega
 | one h1=>simp only[Tr.kd] at E;omega
 | two h1=>simp only[Tr.kd] at E;omega
 | _=>cases E
end
theorem Nk.num {t:Tr}(h:Nk 0 t)(E:t.kd=17):Nb t.n:=by
 have ae:=h.sh
 cases ae with
 | num h1=>exact h1
 | lit h1=>simp only[Tr.kd] at E;omega
 | one h1=>simp only[Tr.kd] at E;omega
 | two h1=>simp only[Tr.kd] at E;omega
 | _=>cases E
theorem Nk.str {t:Tr}(h:Nk 0 t)(E:t.kd=18):Sm t.tx:=by
 have ae:=h.sh
 cases ae with
 | str h1=>exact h1
 | lit h1=>simp only[Tr.kd] at E;omega
 | one h1=>simp only[Tr.kd] at E;omega
 | two h1=>simp only[Tr.kd] at E;omega
 | _=>cases E
section
variable {N N':Int} {σ σ1 ck:St} {v:Va} {e:Er} {f:Nat} {p:Pl} {F:Fx} {d:Nd} {l b8:Option Va} {o:Oc}
theorem Ex.step (σ:St):Ex σ σ.step:=⟨OH,OH,rfl,Nat.le_succ _,fun _ _ x=>x⟩
theorem Iv.step (h:Iv N σ):Iv (N - 10000) σ.step:=by
 obtain⟨n,aJ,aA⟩:=h.pz;exact⟨⟨n,⟨aJ.go,aJ.ow,aJ.fn,aJ.lg,aJ.se,aJ.oe⟩,by show (n:Int)<=N - 10000+10000 * ((σ.steps+1:Nat):Int);push_cast;omega⟩,h.gm,h.fn,h.ca,h.lr,h.lo⟩
theorem Q.step (h:Q (f+1) N p σ)(ae:¬ 20000<σ.step.steps):Q f (N - 10000) p σ.step:=⟨by have:=h.fu;show 20001<σ.steps+1+f;omega,by omega,h.iv.step,h.po⟩
section
variable (ak:FI F f) (h:Q f N p σ) (hd:Nk 0 d.2)
include ak h hd
theorem avV (E:d.2.kd=24):VO (N+10) σ (aj9 F d p σ):=by
 have h0:=(hd.VP Nw).1;have h1:=(hd.ahy Nw).1;unfold aj9;simp only
 split
 ·rename_i qf
  have ap:=(ak.v h (h0.VP Nw).1).1
  rcases U:F.v (Nz (Nz d 0) 0) p σ with ⟨⟨ob,e⟩,σ1⟩
  rw[U] at ap
  cases e with
  | no=>
   simp only;have hw:=(ak.v (h.next ap) h1).1
   rcases hr2:F.v (Nz d 1) p σ1 with ⟨⟨v,e⟩,ck⟩
   rw[hr2] at hw;have f9:=(ap.va).up hw.ex.ob;have nL:=ap.ex.trans hw.ex
   cases e with
   | no=>
    simp only
    split
    ·exact⟨hw.iv.up Nw,nL,⟨hw.er,gvT smT⟩,Um _⟩
    ·rename_i bN
     have pI:=f9.r (by simpa using bN);have cA:=hw.iv.put hw.va ob.n (Nz d 0).2.tx false;refine⟨cA.iv.up Nw,nL.trans cA.ex,?_,hw.va.up cA.ex.ob⟩;rw[aod pI];exact hw.er
   | _=>exact⟨hw.iv.up Nw,nL,hw.er,Um _⟩
  | _=>exact⟨ap.iv.up Nw,ap.ex,ap.er,Um _⟩
 ·have O:=h.iv.look (Nz d 0) p;have ap:=(ak.v (h.nx O) h1).1
  rcases U:F.v (Nz d 1) p (look (Nz d 0) p σ).2 with ⟨⟨v,e⟩,σ1⟩
  rw[U] at ap;have nL:=O.ex.trans ap.ex
  cases e with
  | no=>
   simp only;obtain⟨bN,cA,j1⟩:=aof ap.iv ap.er ap.va (look (Nz d 0) p σ).1 (Nz d 0).2.tx p.strict;exact⟨bN.up Nw,nL.trans cA,j1,ap.va.up cA.ob⟩
  | _=>exact⟨ap.iv.up Nw,nL,ap.er,Um _⟩
theorem avW (E:d.2.kd=34):VO (N+10) σ (aaR F d p σ):=by
 have h0:=(hd.VP Nw).1;unfold aaR;simp only
 split
 ·have h1:=h.iv.drop (σ.M.find p.scope (Nz d 0).2.tx) (Nz d 0).2.tx;exact .ret (h1.up Nw) h.st (gvB _ _)
 ·split
  ·obtain⟨b0,d4,d1,mQ⟩:=Zj ak h (d:=Nz (Nz d 0) 0) (h0.VP Nw).1
   rcases U:Tc F (Nz (Nz d 0) 0) p σ with ⟨⟨o,e⟩,σ1⟩
   rw[U] at b0 d4 d1
   cases e with
   | no=>
    simp only;have bN:=b0.cut o (Nz d 0).2.tx
    split
    ·exact⟨bN.iv.up Nw,d4.trans bN.ex,⟨d1,gvT smT⟩,Um _⟩
    ·exact⟨bN.iv.up Nw,d4.trans bN.ex,d1,gvB _ _⟩
   | _=>exact⟨b0.up Nw,d4,d1,Um _⟩
  ·have ap:=(ak.v h h0).1
   rcases U:F.v (Nz d 0) p σ with ⟨⟨v,e⟩,σ1⟩
   rw[U] at ap
   cases e with
   | no=>exact⟨ap.iv.up Nw,ap.ex,ap.er,gvB _ _⟩
   | _=>exact⟨ap.iv.up Nw,ap.ex,ap.er,Um _⟩
end
theorem Nk.acF {d:Nd}(hd:Nk 0 d.2)(E:27<=d.2.kd/\d.2.kd<=31):∀ x ∈ O3 d,Nk 0 x.2:=fun x ac=>by
 have O:=hd.ahy Nw;have h0:=hd.VP Nw;have aV:=Py ac;obtain⟨i,ay,e⟩:=List.getElem_of_mem aV;have ax:=VN d i;rw[List.getD_eq_getElem?_getD,List.getElem?_eq_getElem ay,e] at ax;rw[O.2] at ay;rw[show x.2=(Nz d i).2 from ax.symm]
 rcases i with _|_|i
 ·exact h0.1
 ·exact O.1
 ·omega
theorem avX (ak:FI F f)(h:Q f N p σ)(hd:Nk 0 d.2)(E:27<=d.2.kd/\d.2.kd<=31):VO N σ (Zf F d p σ):=by
 have hl:=abd ak (O3 d) [] h (hd.acF E) (fun _ h=>by cases h);unfold Zf
 rcases U:TU F p (O3 d) [] σ with ⟨⟨vs,e⟩,σ1⟩
 rw[U] at hl
 rcases vs with _|⟨a,_|⟨b,vs⟩⟩
 ·exact⟨hl.iv,hl.ex,hl.er,Um _⟩
 ·exact⟨hl.iv,hl.ex,hl.er,Um _⟩
 ·
  cases e with
  | no=>
   obtain⟨bN,cA⟩:=ari σ1.M.objs.length σ1.M d.2.kd a b;refine⟨hl.iv,hl.ex,?_,bN⟩
   show Eo σ1 (U2 σ1.M d.2.kd a b).2
   rcases cA with cA|⟨s,cA,j1⟩
   ·rw[cA];exact hl.er
   ·rw[cA];exact⟨hl.er,gvT j1⟩
  | _=>exact⟨hl.iv,hl.ex,hl.er,Um _⟩
theorem aC0 (ak:FI F f)(h:Q (f+1) N p σ)(hd:Nk 0 d.2):VO N σ (Yg F d p σ)/\σ.steps<(Yg F d p σ).2.steps:=by
 suffices H:VO N σ.step (Yg F d p σ) from ⟨H.after (Ex.step σ),H.ex.st⟩
 by_cases ae:σ.steps<20000
 ·have ag:=h.step (show ¬ 20000<σ.steps+1 by omega);have aA:=(Nx.refl ag.iv).up (show N - 10000<=N by omega)
  by_cases wB:d.2.kd=17
  ·rw[arZ ae wB];exact .ret aA ag.st (gvN (hd.num wB))
  by_cases wC:d.2.kd=18
  ·rw[ar0 ae wC];exact .ret aA ag.st (gvT (hd.str wC))
  by_cases x1:d.2.kd=19
  ·rw[ar1 ae x1];exact .ret aA ag.st (gvB _ _)
  by_cases x2:d.2.kd=20
  ·rw[ar2 ae x2];exact .ret aA ag.st (gvB _ _)
  by_cases x3:d.2.kd=21
  ·rw[ar4 ae x3];exact .ret aA ag.st ⟨fun _=>by decide,sm0,fun e=>by cases e⟩
  by_cases nY:d.2.kd=23
  ·rw[ar5 ae nY];have h1:=ag.iv.look d p;unfold afg;simp only
   split
   ·exact .ret (h1.up Nw) ag.st (arh h1.iv.gm _ _)
   ·exact .bad (h1.up Nw) ag.st smR
  by_cases o1:d.2.kd=24
  ·rw[ar6 ae o1];exact(avV ak ag hd o1).up Nw
  by_cases wD:d.2.kd=25\/d.2.kd=26
  ·have e:Yg F d p σ=aaT F d p σ.step:=by rcases wD with k|k;exact ar7 ae k;exact ar8 ae k
   rw[e];have ap:=(ak.v ag (hd.VP Nw).1).1;unfold aaT
   rcases U:F.v (Nz d 0) p σ.step with ⟨⟨v,e⟩,σ1⟩
   rw[U] at ap
   cases e with
   | no=>
    simp only
    split
    ·exact ap.up Nw
    ·exact((ak.v (ag.next ap) (hd.ahy Nw).1).1.after ap.ex).up Nw
   | _=>exact ap.up Nw
  by_cases nZ:27<=d.2.kd/\d.2.kd<=31
  ·have e:Yg F d p σ=Zf F d p σ.step:=by
    obtain h|h|h|h|h:d.2.kd=27\/d.2.kd=28\/d.2.kd=29\/d.2.kd=30\/d.2.kd=31:=Nw
    ·exact ar9 ae h
    ·exact asa ae h
    ·exact asb ae h
    ·exact asc ae h
    ·exact ase ae h
   rw[e];exact(avX ak ag hd nZ).up Nw
  by_cases x5:d.2.kd=32
  ·rw[asf ae x5];have ap:=(ak.v ag (hd.VP Nw).1).1;unfold akb
   rcases U:F.v (Nz d 0) p σ.step with ⟨⟨v,e⟩,σ1⟩
   rw[U] at ap
   cases e with
   | no=>exact⟨ap.iv.up Nw,ap.ex,ap.er,gvB _ _⟩
   | _=>exact ap.err.up Nw
  by_cases x6:d.2.kd=33
  ·rw[ash ae x6];have ap:=(ak.v ag (hd.VP Nw).1).1;unfold adu
   split
   ·exact .ret aA ag.st (gvT NH)
   ·rcases U:F.v (Nz d 0) p σ.step with ⟨⟨v,e⟩,σ1⟩
    rw[U] at ap
    cases e with
    | no=>exact⟨ap.iv.up Nw,ap.ex,ap.er,gvT (arj _ _)⟩
    | _=>exact ap.err.up Nw
  by_cases o2:d.2.kd=34
  ·rw[asi ae o2];exact(avW ak ag hd o2).up Nw
  by_cases ue:d.2.kd=35
  ·rw[asj ae ue];exact(arl ak ag hd ue).up Nw
  by_cases qG:d.2.kd=36
  ·rw[asl ae qG];obtain⟨b0,d4,d1,_⟩:=Zj ak ag (d:=Nz d 0) (hd.VP Nw).1;unfold akc
   rcases U:Tc F (Nz d 0) p σ.step with ⟨⟨o,e⟩,σ1⟩
   rw[U] at b0 d4 d1
   cases e with
   | no=>
    refine⟨b0.up Nw,d4,d1,?_⟩
    show Gv _ (((σ1.M.prop o d.2.tx).map Pr.v).getD vU)
    cases al:σ1.M.prop o d.2.tx with
    | none=>exact Um _
    | some q=>exact ai9 b0.gm al
   | _=>exact⟨b0.up Nw,d4,d1,Um _⟩
  by_cases uf:d.2.kd=37
  ·rw[asn ae uf];obtain⟨h1,O⟩:=ag.iv.lam (hd.lam uf) ag.po;exact .ret (h1.up Nw) ag.st O
  by_cases ug:d.2.kd=38
  ·rw[aso ae ug];obtain⟨h1,O⟩:=hd.obj ug;have ax:=ag.iv.Oy (c:=0) Nw;have aU:=aoh ak σ.step.M.objs.length (O3 d) (ag.nx ax) ⟨by omega,by simp[Mo.Oy];omega⟩ (fun k E=>(h1 k E).1)
   exact(VO.after ax.ex aU).up (by rw[QI];omega)
  rw[asq ae Nw];exact .ret aA ag.st (Um _)
 ·rw[aiS ae];have:=h.st;exact⟨h.iv.step.up Nw,Ex.refl _,by show σ.steps+1=20001;omega,Um _⟩
end
inductive Sk (d:Nd):Prop
 | decl (E:d.2.kd=2\/d.2.kd=3\/d.2.kd=4) (hl:d.2.kids.length<=1) (ae:∀ k ∈ O3 d,Nk 0 k.2)
 | func (E:d.2.kd=5)|empty (E:d.2.kd=16)
 | blk (E:d.2.kd=6) (D:Bk d.2)
 | sif (E:d.2.kd=7) (hl:d.2.kids.length=2\/d.2.kids.length=3) (h0:Nk 0 (Nz d 0).2) (h1:Nk 1 (Nz d 1).2) (bT:OI (Nz d 1).2=false) (O:d.2.kids.length=3->Nk 1 (Nz d 2).2/\OI (Nz d 2).2=false)
 | loop (E:d.2.kd=8\/d.2.kd=9) (hl:d.2.kids.length=2) (h0:Nk 0 (Nz d 0).2) (h1:Nk 1 (Nz d 1).2) (bT:OI (Nz d 1).2=false)
 | give (E:d.2.kd=10) (hl:d.2.kids.length<=1) (ae:∀ k ∈ O3 d,Nk 0 k.2)
 | one (E:d.2.kd=11\/d.2.kd=15) (hl:d.2.kids.length=1) (h0:Nk 0 (Nz d 0).2)
 | atm (E:d.2.kd=12) (hl:2<=d.2.kids.length/\d.2.kids.length<=3) (h0:Nk 1 (Nz d 0).2) (dm:OI (Nz d 0).2=false) (ae:∀ k ∈ (O3 d).tail,(k.2.kd=13\/k.2.kd=14)/\k.2.kids.length=1/\Nk 1 (Nz k 0).2/\OI (Nz k 0).2=false)
theorem Nk.avY {t:Tr}(h:Nk 3 t):Nk 1 t/\OI t=false:=by
 have ae:=h.sh;refine⟨⟨.agK h.sh,h.ct,h.nb⟩,?_⟩
 cases ae with
 | blk _=>rfl
theorem ad7 {t:Tr}(h:Vw t=false):OI t=false:=by
 unfold Vw at h;unfold OI
 revert h
 cases t.kd==3 <;> cases t.kd==4 <;> simp
theorem Nk.sk {d:Nd}(h:Nk 1 d.2):Sk d:=by
 have fl:=(YG h.nb).2;obtain⟨no,t⟩:=d;have ae:=h.sh;simp only at ae h fl;have kid:∀ {c:Nat} {k:Tr},k ∈ t.kids->Qz Sm Sm Nb c k->Nk c k:=fun aV E=>h.kid aV E
 cases ae with
 | decl E _ ap hl _=>exact .decl E hl fun k E=>kid (Py E) (ap _ (Py E))
 | func _ _ _=>exact .func rfl
 | agK ax=>
  have aU:Nk 3 t:=⟨ax,h.ct,h.nb⟩;refine .blk ?_ (aU.bk Nw)
  cases ax with
  | blk _=>rfl
 | @sif a b ap ae=>
  have cO:b ∈ [a,b]:=List.mem_cons_of_mem _ List.mem_cons_self;exact .sif rfl (.inl rfl) (kid List.mem_cons_self ap) (kid cO ae) (ad7 (fl (.inl rfl) _ cO)) (fun e=>by cases e)
 | @aoY a b c ap ae au=>
  have cO:b ∈ [a,b,c]:=List.mem_cons_of_mem _ List.mem_cons_self;have cP:c ∈ [a,b,c]:=List.mem_cons_of_mem _ (List.mem_cons_of_mem _ List.mem_cons_self);exact .sif rfl (.inr rfl) (kid List.mem_cons_self ap) (kid cO ae) (ad7 (fl (.inl rfl) _ cO)) (fun _=>⟨kid cP au,ad7 (fl (.inl rfl) _ cP)⟩)
 | @loop kd a b E ap ae=>
  have cO:b ∈ [a,b]:=List.mem_cons_of_mem _ List.mem_cons_self;exact .loop E rfl (kid List.mem_cons_self ap) (kid cO ae) (ad7 (fl (.inr E) _ cO))
 | @give kd v E ap hl ai=>
  rcases E with rfl|rfl
  ·exact .give rfl hl fun k E=>kid (Py E) (ap _ (Py E))
  ·have:=ai rfl
   rcases v with _|⟨a,_|⟨b,v⟩⟩
   ·simp at this
   ·exact .one (.inl rfl) rfl (kid List.mem_cons_self (ap _ List.mem_cons_self))
   ·simp at this
 | @atm b c f D ai aG hl=>
  obtain⟨b0,d4⟩:=Nk.avY (kid List.mem_cons_self D);refine .atm rfl ⟨by show 2<=(b::(c++f)).length;simp;omega,by show (b::(c++f)).length<=3;simp;omega⟩ b0 d4 fun k E=>?_
  have aV:k.2 ∈ c++f:=by
   have h1:k.2 ∈ ((O3 (no,.mk 12 NC 0 (b::(c++f)))).tail).map (·.2):=List.mem_map.2 ⟨k,E,rfl⟩;rw[List.map_tail,aa6] at h1;exact h1
  have dc:k.2 ∈ b::(c++f):=List.mem_cons_of_mem _ aV;obtain⟨JZ,u⟩:=k;simp only at aV dc
  rcases List.mem_append.1 aV with aV|aV
  ·have bN:=ai u aV;have cA:=kid dc bN
   cases bN with
   | cat _ D=>exact⟨.inl rfl,rfl,Nk.avY (cA.kid List.mem_cons_self D)⟩
  ·have bN:=aG u aV;have cA:=kid dc bN
   cases bN with
   | fin D=>exact⟨.inr rfl,rfl,Nk.avY (cA.kid List.mem_cons_self D)⟩
 | empty=>exact .empty rfl
 | expr ap=>exact .one (.inr rfl) rfl (kid List.mem_cons_self ap)
section
variable {N N':Int} {σ σ1 ck:St} {v:Va} {e:Er} {f:Nat} {p:Pl} {F:Fx} {d:Nd} {l b8:Option Va} {o:Oc}
theorem ahA (ak:FI F f)(h:Q f N p σ)(ae:∀ k ∈ O3 d,Nk 0 k.2):VO N σ (TV F (O3 d) p σ):=by
 unfold TV
 split
 ·exact .ret (Nx.refl h.iv) h.st (Um _)
 ·rename_i k ks au
  exact(ak.v h (ae k (by rw[au];exact List.mem_cons_self))).1
theorem aoi (ak:FI F f)(h0:Nk 0 (Nz d 0).2)(h1:Nk 1 (Nz d 1).2)(bT:OI (Nz d 1).2=false):∀ (k:Nat) {l:Option Va} {σ:St},Q f N p σ->20001<σ.steps+k->Lg σ l->SO N σ (X3 F d p k l σ)
 | 0,l,σ,h,E,_=>by have:=h.st;omega
 | k+1,l,σ,h,E,hl=>by
  obtain⟨ap,eT⟩:=ak.v h h0;rw[X3]
  rcases U:F.v (Nz d 0) p σ with ⟨⟨v,e⟩,σ1⟩
  rw[U] at ap eT;have eR:=hl.up ap.ex
  cases e with
  | no=>
   simp only;have ag:=h.next ap
   split
   ·obtain⟨hw,de⟩:=ak.s ag h1 (fun e=>by rw[bT] at e;cases e) eR
    rcases hr2:F.s (Nz d 1) p l σ1 with ⟨⟨o,e,b8⟩,ck⟩
    rw[hr2] at hw de
    cases e with
    | no=>
     simp only
     split
     ·exact hw.after ap.ex
     ·exact((aoi ak h0 h1 bT k (ag.nexts hw) (by dsimp only at eT de;omega) hw.la).after hw.ex).after ap.ex
    | _=>exact hw.after ap.ex
   ·exact⟨ap.iv,ap.ex,ap.er,Um _,eR⟩
  | _=>exact⟨ap.iv,ap.ex,ap.er,Um _,eR⟩
structure Z (f:Nat)(N:Int)(p:Pl)(σ:St)(o:Oc)(e:Er)(l:Option Va):Prop where
 fu:20001<σ.steps+f
 iv:Iv N σ
 po:Po p σ
 er:Eo σ e
 va:Gv σ.M.objs.length o.v
 la:Lg σ l
theorem Z.q (h:Z f N p σ o e l)(au:e≠.stop):Q f N p σ:=⟨h.fu,by
 have:=h.er
 cases e with
 | no=>exact this
 | stop=>exact absurd rfl au
 | Wq v=>exact this.1
 | mis=>exact this.elim,h.iv,h.po⟩
theorem Z.so (h:Z f N p σ o e l):SO N σ ((o,e,l),σ):=⟨h.iv,Ex.refl _,h.er,h.va,h.la⟩
theorem Eo.up (h:Eo σ e)(k:Eo σ1 .no)(x:Ex σ σ1)(au:e≠.stop):Eo σ1 e:=by
 cases e with
 | no=>exact k
 | stop=>exact absurd rfl au
 | Wq v=>exact⟨k,h.2.up x.ob⟩
 | mis=>exact h
section
variable (ak:FI F f) (h:Z f N p σ o e l) (h0:Nk 1 (Nz d 0).2) (dm:OI (Nz d 0).2=false)
include ak h h0 dm
theorem anj:SO (N+2) σ (WC F d p o e l σ):=by
 unfold WC
 cases e with
 | Wq v=>
  simp only;have z:=kk (∀{G}(h:G:=by
  have eK:Q f (N+2) { p with scope:=σ.top } ((σ.opn p.scope (-1) (own d)).dec σ.top d.2.tx 0 v):=⟨by rw[hH.st];exact ag.fu,by rw[hH.st];exact ag.st,hH.iv.up Nw,kn⟩
  exact(ak.s eK h0 (fun e=>by rw[dm] at e;cases e) (h.la.up hH.ex)).1.after hH.ex),G);exact aAp
 | _=>exact h.so.up Nw
theorem ank:SO (N+2) σ (U3 F d p o e l σ):=by
 by_cases au:e=.stop
 ·subst au;exact h.so.up Nw
 ·have hw:=(ak.s (h.q au) h0 (fun e=>by rw[dm] at e;cases e) h.la).1
  have z:=kk (∀{G}(h:G:=by
  cases av with
  | no=>
   simp only
   split
   ·exact hw.up Nw
   ·exact⟨hw.iv.up Nw,hw.ex,h.er.up hw.er hw.ex au,h.va.up hw.ex.ob,hw.la⟩
  | _=>exact hw.up Nw),G);exact aAq
end
theorem aoj (ak:FI F f):∀ (ks:List Nd) {N:Int} {o:Oc} {e:Er} {l:Option Va} {σ:St},Z f N p σ o e l->(∀ k ∈ ks,Nk 1 (Nz k 0).2/\OI (Nz k 0).2=false)->SO (N+2 * ks.length) σ (Za F p ks o e l σ)
 | [],N,o,e,l,σ,h,_=>h.so.up Oq
 | k::ks,N,o,e,l,σ,h,E=>by
  obtain⟨cC,b0⟩:=E k List.mem_cons_self;rw[Za];have h1:SO (N+2) σ (if k.2.kd=13 then WC F k p o e l σ else U3 F k p o e l σ):=by
   split
   ·exact anj ak h cC b0
   ·exact ank ak h cC b0
  generalize (if k.2.kd=13 then WC F k p o e l σ else U3 F k p o e l σ)=r at h1 ⊢
  have O:=aoj ak ks (N:=N+2) (o:=r.1.1) (e:=r.1.2.1) (l:=r.1.2.2) (σ:=r.2) ⟨by have:=h.fu;have:=h1.ex.st;omega,h1.iv,h.po.up h1.ex,h1.er,h1.va,h1.la⟩ (fun x ac=>E x (List.mem_cons_of_mem _ ac))
  exact(O.after h1.ex).up (by rw[List.length_cons];push_cast;omega)
theorem aC1 (ak:FI F f)(h:Q (f+1) N p σ)(hd:Nk 1 d.2)(m6:OI d.2=true->K4 σ.M p.scope d.2.tx)(hl:Lg σ l):SO N σ (stF F f d p l σ)/\σ.steps<(stF F f d p l σ).2.steps:=by
 suffices H:SO N σ.step (stF F f d p l σ) from ⟨H.after (Ex.step σ),H.ex.st⟩
 by_cases ae:σ.steps<20000
 ·have ag:=h.step (show ¬ 20000<σ.steps+1 by omega);have aA:=(Nx.refl ag.iv).up (show N - 10000<=N by omega);have eR:Lg σ.step l:=hl
  cases hd.sk with
  | decl E cJ eJ=>
   by_cases dB:d.2.kd=2
   ·rw[aAr ae dB]
    split
    ·exact .ret aA ag.st (Um _) eR
    ·rename_i h0
     have aV:(Nz d 0) ∈ O3 d:=by
      exact aAs
     have ap:=(ak.v ag (eJ _ aV)).1;unfold avQ
     rcases U:F.v (Nz d 0) p σ.step with ⟨⟨v,e⟩,σ1⟩
     rw[U] at ap
     cases e with
     | no=>
      obtain⟨bN,cA,j1⟩:=aof ap.iv ap.er ap.va (σ.step.M.find p.scope d.2.tx) d.2.tx p.strict;exact⟨bN.up Nw,ap.ex.trans cA,j1,Um _,eR.up (ap.ex.trans cA)⟩
     | _=>exact(ap.aoc eR).up Nw
   ·have aH:stF F f d p l σ=((PX,(aa0 d p (TV F (O3 d) p σ.step)).1,l),(aa0 d p (TV F (O3 d) p σ.step)).2):=by
     rcases E with k|k|k
     ·exact absurd k dB
     ·exact aAt ae k
     ·exact aAu ae k
    have hlet:OI d.2=true:=by
     unfold OI
     rcases E with k|k|k
     ·exact absurd k dB
     all_goals
      rw[k];rfl
    rw[aH];have ap:=ahA ak ag eJ;unfold aa0
    rcases U:TV F (O3 d) p σ.step with ⟨⟨v,e⟩,σ1⟩
    rw[U] at ap
    cases e with
    | no=>
     have bN:=ap.iv.start ap.va p.scope d.2.tx;have cA:K4 σ1.M p.scope d.2.tx:=ap.ex.k4 _ _ (m6 hlet);refine⟨bN.iv.up Nw,ap.ex.trans bN.ex,?_,Um _,eR.up (ap.ex.trans bN.ex)⟩
     show Eo _ (erP (σ1.M.start p.scope d.2.tx v).1)
     rw[aoe cA];exact ap.er
    | _=>exact(ap.aoc eR).up Nw
  | func E=>rw[aiT ae Nw];exact .ret aA ag.st (Um _) eR
  | empty E=>rw[aiT ae Nw];exact .ret aA ag.st (Um _) eR
  | blk E D=>
   rw[aAv ae E];obtain⟨h1,O,ax⟩:=ag.iv.block D ag.po;have eK:Q f (N - 10000+5000) (O8 d p σ.step).1 (O8 d p σ.step).2:=⟨by rw[h1.st];exact ag.fu,by rw[h1.st];exact ag.st,h1.iv,O⟩
   exact((Zk ak (O3 d) eK (fun k E=>D.ks _ (Py E)) ax (eR.up h1.ex)).after h1.ex).up Nw
  | sif E cJ cC b0 bT d4=>
   rw[aAw ae E];have ap:=(ak.v ag cC).1;unfold chQ
   rcases U:F.v (Nz d 0) p σ.step with ⟨⟨v,e⟩,σ1⟩
   rw[U] at ap;have gg:=eR.up ap.ex
   cases e with
   | no=>
    simp only
    split
    ·exact((ak.s (ag.next ap) b0 (fun e=>by rw[bT] at e;cases e) gg).1.after ap.ex).up Nw
    ·split
     ·obtain⟨d1,hx⟩:=d4 Nw;exact((ak.s (ag.next ap) d1 (fun e=>by rw[hx] at e;cases e) gg).1.after ap.ex).up Nw
     ·exact⟨ap.iv.up Nw,ap.ex,ap.er,Um _,gg⟩
   | _=>exact(ap.aoc eR).up Nw
  | loop E cJ cC b0 bT=>
   rcases E with E|E
   ·rw[aAx ae E];exact(aoi ak cC b0 bT f ag ag.fu eR).up Nw
   ·rw[aAy ae E];obtain⟨bW,cK,h',_⟩:=Zj ak ag (d:=Nz d 0) cC;unfold wiQ
    rcases U:Tc F (Nz d 0) p σ.step with ⟨⟨o,e⟩,σ1⟩
    rw[U] at bW cK h';have gg:=eR.up cK
    cases e with
    | no=>
     simp only;have h1:=bW.opn p.scope o (-2);have z:=kk (∀{G}(h:G:=by
     have eK:Q f (N - 10000+1) { p with scope:=σ1.top } (σ1.opn p.scope o (-2)):=⟨by have:=ag.fu;have:=cK.st;dsimp only at this;show 20001<σ1.steps+f;omega,by rw[h1.st];exact h',h1.iv,kn⟩
     exact((ak.s eK b0 (fun e=>by rw[bT] at e;cases e) (gg.up h1.ex)).1.after (cK.trans h1.ex)).up Nw),G);exact aAz
    | _=>exact⟨bW.up Nw,cK,h',Um _,gg⟩
  | give E cJ eJ=>
   rw[asr ae E];have ap:=ahA ak ag eJ;exact⟨ap.iv.up Nw,ap.ex,ap.er,ap.va,eR.up ap.ex⟩
  | one E cJ cC=>
   have ap:=(ak.v ag cC).1
   rcases E with E|E
   ·rw[asu ae E];unfold amS
    rcases U:F.v (Nz d 0) p σ.step with ⟨⟨v,e⟩,σ1⟩
    rw[U] at ap
    cases e with
    | no=>exact⟨ap.iv.up Nw,ap.ex,⟨ap.er,ap.va⟩,Um _,eR.up ap.ex⟩
    | _=>exact(ap.aoc eR).up Nw
   ·rw[asv ae E];unfold afp
    rcases U:F.v (Nz d 0) p σ.step with ⟨⟨v,e⟩,σ1⟩
    rw[U] at ap
    cases e with
    | no=>
     refine⟨ap.iv.up Nw,ap.ex,ap.er,Um _,fun x ac=>?_⟩
     cases l with
     | none=>cases ac
     | some y=>cases ac;exact ap.va
    | _=>exact(ap.aoc eR).up Nw
  | atm E cJ cC dm eJ=>
   rw[asw ae E];have hw:=(ak.s ag cC (fun e=>by rw[dm] at e;cases e) eR).1
   generalize F.s (Nz d 0) p l σ.step=r at hw ⊢
   have O:=aoj ak (O3 d).tail (N:=N - 10000) (o:=r.1.1) (e:=r.1.2.1) (l:=r.1.2.2) (σ:=r.2) ⟨by have:=ag.fu;have:=hw.ex.st;omega,hw.iv,ag.po.up hw.ex,hw.er,hw.va,hw.la⟩ (fun x ac=>⟨(eJ x ac).2.2.1,(eJ x ac).2.2.2⟩)
   exact(O.after hw.ex).up (by rw[List.length_tail,QI];omega)
 ·rw[aiU ae];have:=h.st;exact⟨h.iv.step.up Nw,Ex.refl _,by show σ.steps+1=20001;omega,Um _,hl⟩
theorem abe:∀ f,FI (fx f) f
 | 0=>⟨fun h _=>by have:=h.fu;have:=h.st;omega,fun h _ _ _=>by have:=h.fu;have:=h.st;omega⟩
 | f+1=>⟨fun h hd=>aC0 (abe f) h hd,fun h hd E hl=>aC1 (abe f) h hd E hl⟩
def base0:St:=⟨⟨[⟨0,[]⟩],[⟨-1,0,[]⟩,⟨0,-1,[]⟩]⟩,[],0,[],[-1,0],[],0⟩
theorem aiX:Iv 10 base0:=by
 refine⟨⟨10,⟨⟨⟨fun i x h=>?_,fun i x h=>?_,fun i x h=>?_,fun i x h=>?_⟩,by decide,by decide,fun x ac=>?_,fun x ac=>?_⟩,by decide,by decide,by decide,by decide,rfl⟩,by decide⟩,⟨fun x ac q ag=>?_,fun x ac q ag=>?_,fun x ac=>?_⟩,(fun f aG=>by cases aG),by decide,by decide,by decide⟩
 ·rcases i with _|_|i
  ·
   cases h;exact⟨by decide,by decide⟩
  ·
   cases h;exact⟨by decide,by decide⟩
  ·
   cases h
 ·rcases i with _|_|i
  ·
   cases h;exact .inr ⟨0,rfl,by decide⟩
  ·
   cases h;exact .inl rfl
  ·
   cases h
 ·rcases i with _|i
  ·
   cases h;intro i j c d ai;cases ai
  ·
   cases h
 ·rcases i with _|_|i
  ·
   cases h;intro i j c d ai;cases ai
  ·
   cases h;intro i j c d ai;cases ai
  ·
   cases h
 ·rw[List.mem_singleton.1 ac];exact Nat.zero_le _
 ·rcases List.mem_cons.1 ac with rfl|ac
  ·exact Nat.zero_le _
  ·rw[List.mem_singleton.1 ac];exact Nat.zero_le _
 ·rw[List.mem_singleton.1 ac] at ag;cases ag
 ·rcases List.mem_cons.1 ac with rfl|ac
  ·
   cases ag
  ·rw[List.mem_singleton.1 ac] at ag;cases ag
 ·rw[List.mem_singleton.1 ac];exact⟨by decide,by decide⟩
theorem Xi:Iv 100 Qr/\N4 Qr.M 1:=by
 have h1:=aiX.Oy (c:=1) NH;have O:=h1.iv.put (v:=Rz 1) (gvR ⟨by decide,by decide⟩) 0 Tv false;have ax:=O.iv.Oy (c:=2) ⟨by decide,by show (2:Int)<3+_;omega⟩
 have aU:=ax.iv.put (v:=Rz 2) (gvR ⟨by decide,by
  show (2:Int)<((Mo.Oy _ 2).objs.length:Nat)
  have e:(Mo.put (base0.M.Oy 1) 0 Tv (Rz 1) false).2.objs.length=2:=by rw[(UN _ _ _ _ _).ol];rfl
  show (2:Int)<(((Mo.put (base0.M.Oy 1) 0 Tv (Rz 1) false).2.objs++[_]).length:Nat)
  rw[List.length_append,e]
  decide⟩) 0 TK false
 have dm:N4 base0.M 1:=⟨1,_,rfl,rfl,rfl,fun c ai=>by cases ai⟩;have cY:=N4.chg (M:=base0.M.Oy 1) (show N4 (base0.M.Oy 1) 1 from dm) (UN _ 0 Tv (Rz 1) false) NH;have rC:=N4.chg (M:=((base0.M.Oy 1).put 0 Tv (Rz 1) false).2.Oy 2) cY (UN _ 0 TK (Rz 2) false) NH;exact⟨aU.iv.up NH,rC⟩
theorem au9 {t:Tr}(a':Bk t):SO 9000 Qr ((QC (fx 20002) (Px (some 0,t) Qr).1 (O3 (some 0,t)) none (Px (some 0,t) Qr).2)):=by
 obtain⟨h1,O,ax⟩:=Xi.1.prog (d:=(some 0,t)) a' Xi.2;have ag:Q 20002 9000 (Px (some 0,t) Qr).1 (Px (some 0,t) Qr).2:=⟨by omega,by rw[h1.st];decide,h1.iv.up Nw,O⟩
 exact(Zk (abe 20002) (O3 (some 0,t)) (l:=none) ag (fun k E=>a'.ks _ (Py E)) ax (fun _ e=>by cases e)).after h1.ex
end
end Hp
end Go.Proofs.YticfnaiehdpbmaaGreatDoor
