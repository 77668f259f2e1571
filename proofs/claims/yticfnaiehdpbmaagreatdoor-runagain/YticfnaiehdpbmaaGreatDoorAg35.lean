import Derived.Test.YticfnaiehdpbmaaGreatDoorAg33
set_option maxRecDepth 100000
set_option maxHeartbeats 8000000
set_option linter.unusedVariables false
namespace Go.Proofs.YticfnaiehdpbmaaGreatDoor
open Go.RowKit Go.Proofs.Tryz
namespace Hp
section
variable {w0:Ny} {mb af:Nat} {aa:List Nat} {es aS aB az aL:NP} {w w':Ny} {σ:St} {N:Nat} {F:Fx} {L:Option Nat}
theorem Oa.ar {a:Ad}{d:Nd}(h:Oa aa w a d):∃ cT dO,w.cell? (Nv a.p 3)=some (.slice cT d.2.kids.length dO)/\QT 0 w (.slice cT d.2.kids.length dO) a.ks:=by
 obtain⟨BI,c3,hrow,_⟩:=QD.row h.at_;obtain⟨cT,dO,aO⟩:=hrow.form;rw[h.ks] at aO;subst aO;exact⟨cT,dO,c3,hrow⟩
section
variable (aK:Ms w0 mb af aa w σ) {a:Ad} {d:Nd} (hd:Oa aa w a d)
include aK a d hd
theorem adB (E:d.2.kids.length=0)(p:Pl)(aC:Option Addr) :
  NK 108 #[Nu mb,Nu a.p,OQ p aC] w (EPost w0 mb af aa es w (.no,σ)):=by
 have bI:=aK.lt;obtain⟨aq,aF,st⟩:=p;have aE:=(Below.refl w.heap.size w).alloc OH (.cells #[Nr aq,Nr aF,NI st,.pointer aC] 73);have bP:=kk (∀{G}(h:G:=by
 obtain⟨cT,dO,c3,_⟩:=hd.ar;rw[E] at c3;have pH:=hd.cells.1;obtain⟨q,ag⟩:=xE a.p;rw[<-ag] at c3 pH ⊢;clear ag;go_enter func108,ntmps108;go_wp2_with fail;exact bodyPost_ret (v:=Pe) (by simp[results,results108,go_sem]) rfl ⟨⟨_,rfl,rfl⟩,dj,da⟩),G);exact zti
theorem acG (E:d.2.kids.length<=1){u:NP}(U:QT 0 w u a.ks)(p:Pl)(aC:Option Addr)(h1:∀ fU ∈ O3 d,RF w0 mb af aa es σ fU p (F.v fU p σ)) :
  NK 114 #[Nu mb,u,OQ p aC] w (Oh w0 mb af aa es w (TV F (O3 d) p σ)):=by
 have fm:=hd.ndl;have cJ:=hd.ks;have mo:=QI d;obtain⟨cW,e3⟩:=xE a.ks;obtain⟨a1,hds⟩:=xE (O3 d);rw[<-e3] at U fm cJ;rw[<-hds] at fm mo h1 ⊢;clear e3 hds
 match cW,a1,U,fm,h1 with
 | [],[],U,_,_=>exact ahh aK U p aC
 | [k],[fU],U,fm,h1=>exact afq aK U fm.1 p aC (h1 fU Oq)
 | [],_::_,_,fm,_=>exact fm.elim
 | _::_,[],_,fm,_=>exact fm.elim
 | _::_::_,_,_,_,_=>simp at cJ;omega
 | [_],_::_::_,_,fm,_=>exact fm.2.elim
end
theorem ap7 (ae:Yh es)(aK:Ms w0 mb af aa w σ){a:Ad}{d:Nd}(hd:Oa aa w a d)(E:d.2.kids.length<=1)(p:Pl)(aC:Option Addr)(h1:∀ fU ∈ O3 d,RF w0 mb af aa es σ fU p (F.v fU p σ))(cq:∀ v1 σ1,TV F (O3 d) p σ=((v1,.no),σ1)->Sz N σ1)(hN:N<1000000000) :
  NK 109 #[Nu mb,Nu a.p,OQ p aC] w (EPost w0 mb af aa es w (aa0 d p (TV F (O3 d) p σ))):=by
 have bI:=aK.lt;have z:=kk (∀{G}(h:G:=by
 have ds:w.heap.size<=bc:=Nw;have z:=kk (∀{G}(h:G:=by
 have z:=kk (∀{G}(h:G:=by
 obtain⟨cT,dO,c3,hrow⟩:=cS.ar;obtain⟨n,aA⟩:=xE d.2.kids.length;rw[<-aA] at c3 hrow;obtain⟨q,ag⟩:=xE a.p;have bA:=hide (fun X (aj:NJ w2 X)=>acG (dj.later aj) (cS.kp (Kp.of aj)) E (hrow.later aj) ⟨aq,aF,st⟩ aC h1)
 rcases U:TV F (O3 d) ⟨aq,aF,st⟩ σ with ⟨⟨v1,av⟩,σ1⟩
 rw[U] at bA;obtain⟨tx,lF⟩:=xH d.2.tx;obtain⟨rs,bD⟩:=xH (aa0 d ⟨aq,aF,st⟩ ((v1,av),σ1));rw[<-bD.out];have bY:=hide U;have r7:=hide cq;have gd:=cS.cells.2.2.1;rw[<-lF.out] at gd;have hblk:=cS.blk;rw[<-ag] at c3 dL gd hblk ⊢;have eB:=hide c3;have mJ:=hide gd;have ix:=hide hblk;clear bK U ag h1 ds cq gd hblk c3 aA E;go_enter func109,ntmps109;go_wp2_with fail;rw[<-bu.out,<-bU];clear bU;refine UC (H:=fun wz vb ev=>VB w0 mb af aa es w2 v1 av σ1 wz vb ev) (G:=?GG) (fun dI=>?ways) ?rest
 case ways=>
  refine Rj 6 fun ab=>?_;have z:=kk (∀{G}(h:G:=by
  refine uk 4 eB.out ab ?_;refine uk4 5 ga.out ab ?_;refine uq2 6 10 (fun K A=>?_) fun K A=>?_
  ·have z:=kk (∀{G}(h:G:=by
   refine uz 7 (.tuple #[(vA v1),ev]) ?_;refine uz 8 (vA v1) ?_;refine uz 9 ev ?_;refine O0 10 fun K A=>?_;go_simp;refine ko A ?_;clear A K;refine O0 11 fun K A=>?_;go_simp;refine ko A ?_;clear A K;refine uz 12 ev ?_;exact ay9),G);exact apX
  ·have z:=kk (∀{G}(h:G:=by
   have fe:aD.heap[w2.heap.size]? = some (Og #[Nr 0,Nr 0,OG] 65):=ak.keep (NG _ _) NH;obtain⟨z0,mC,z2,mD,mE,mF,zl⟩:=Ot fe;refine uz 7 (.tuple #[(vA v1),ev]) ?_;refine uz 8 (vA v1) ?_;refine uz 9 ev ?_;refine O0 11 fun K A=>?_;go_simp;refine ko A ?_;clear A K;refine uz 12 ev ?_;exact azg),G);exact azh),G);exact U5
 rintro wz vb ev aN;have ee:=aN.ms.lt;have di:Om none mb w wz:=da.trans aN.fr;have eG:=hide (aN.fr.keep dF.out NH)
 by_cases au:av=.no
 ·subst au;have br:ev=Pe:=aN.er;subst br;have b6:=Ns r7 v1 σ1 bY.out;obtain⟨cs,fF⟩:=xE ((σ1.M.start aq tx v1).1);obtain⟨ck,f'⟩:=xE ({ σ1 with M:=(σ1.M.start aq tx v1).2 }:St);have aH:rs=(erP cs,ck):=by rw[bD.out,fF,f',lF.out];rfl
  have cz:=hide aH;have fL:=hide (ag9 σ1.M aq tx v1);rw[<-fF] at fL;have kC:Hid (∀ X,NJ wz X->NK 198 #[Nu mb,Nr aq,ND tx,vA v1] X fun e w'=>e=NU (RY cs)/\Ms w0 mb af aa w' ck/\OB Th mb X w'):=fun X aj=>by
   obtain⟨_,_,_,_,ac⟩:=aN.ms.later aj;refine(apF ac.hh b6.go.sm (Oi hN) aq tx v1).mono ?_;rintro e w' ⟨rfl,O,ax⟩;rw[fF,f'];exact⟨rfl,⟨_,_,_,_,ac.heap O ax⟩,ax⟩
  have gc:=hide (cells3 aN.v);have r1:=hide (cells4 eG.out);have n4:=hide (aN.fr.SX.RP mJ.out ix.out (Or.inl rfl));have g':=cell_lt n4.out;have iR:=lt_of_heap eG.out;have EB:=lt_of_heap aN.v;clear fF f' aH;go_wp2_with fail;refine Rj 10 fun ab=>?_;have z:=kk (∀{G}(h:G:=by
  refine up 3 bc 0 ab ?_;refine uk 4 (r1.out.1) ab ?_;refine up 5 q 0 ab ?_;refine up 6 q 0 ab ?_;refine up 7 q 1 ab ?_;refine uk 8 n4.out ab ?_;refine uk3 9 gc.out ab ?_;refine O0 10 fun K A=>?_;go_simp;refine cm (Ns kC _ ab) ?_;rintro e dM ⟨rfl,qi,qh⟩;refine ko A ?_;clear A K;have j':=(di.trans ((Om.of (L:=none) ab (Oi ee)).trans (Om.ofT qh)));refine uz 11 (RY cs) ?_;refine QX ?_ _;go_simp;go_wp2_with fail;refine bodyPost_ret (v:=RY cs) (by simp[results,results109,go_sem]) rfl ?_;rw[cz.out]
  exact⟨⟨_,rfl,amE fL.out⟩,qi,j'⟩),G);exact RU
 ·have z:=kk (∀{G}(h:G:=by
  refine bodyPost_ret (v:=.iface et ex) (by simp[results,results109,go_sem]) rfl ?_;rw[bJ.out];exact⟨⟨_,rfl,aN.er⟩,aN.ms,di⟩),G);exact aut),G);exact zsn),G);exact zsf),G);exact zsr
end
end Hp
end Go.Proofs.YticfnaiehdpbmaaGreatDoor
