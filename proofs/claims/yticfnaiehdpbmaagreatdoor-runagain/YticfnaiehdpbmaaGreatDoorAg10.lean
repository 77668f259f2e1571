import Derived.Test.YticfnaiehdpbmaaGreatDoorAg8
import Derived.Deep.AppendLies
set_option maxRecDepth 100000
set_option maxHeartbeats 8000000
set_option linter.unusedVariables false
namespace Go.Proofs.YticfnaiehdpbmaaGreatDoor
open Go.RowKit Go.Proofs.Tryz
theorem VQ {w:Ny}{B:Nat}{u:NP}{ps:List Nat}(h:w.ownsRow B 22 1 u ps.length (ps.map Nu))(ci:0<ps.length) :
  ∃ g cap,u=.slice (some (Nv g 0)) ps.length cap/\∀ j,(aT:j<ps.length)->w.cell? (Nv g j)=some (Nu ps[j]):=by
 rcases h.2 with aA|⟨g,cap,cl,ap,D,hg,h1,O,ax,aU⟩
 ·omega
 ·refine⟨g,cap,ap,fun j aT=>?_⟩;rw[cell_of hg,<-Array.getElem?_toList];have:(cl.toList.take (ps.length * 1))[j]? =(ps.map Nu)[j]?:=by rw[aU]
  rw[List.getElem?_take_of_lt Nw] at this;rw[this,List.getElem?_map,List.getElem?_eq_getElem aT];rfl
theorem Tt {w:Ny}{B:Nat}{u:NP}{n:Nat}{xs:List NP}(h:w.ownsRow B 22 1 u n xs):∃ a cap,u=.slice a n cap:=by
 rcases h.2 with aA|⟨g,cap,cl,ap,_⟩
 ·exact⟨none,0,by rw[aA.1,aA.2]⟩
 ·exact⟨_,cap,ap⟩
theorem Wl {t:Tr}(h:∀ bV r dB bQ,t.kids=bV::r->bV.kids=dB::bQ->bV.kd=15->dB.kd=18->dB.tx≠ajG):TL t=t:=by
 unfold TL
 split
 ·rename_i kd tx n bV nh bT dB t2 cY rB bQ r
  rw[if_neg];rintro⟨a,b,e⟩;exact h _ _ _ _ rfl rfl a b e
 ·rfl
theorem aea {t bV dB:Tr}{r bQ:List Tr}(h1:t.kids=bV::r)(O:bV.kids=dB::bQ)(ax:bV.kd=15)(aU:dB.kd=18)(bN:dB.tx=ajG):TL t=.mk t.kd UF t.n t.kids:=by
 cases t with
 | mk kd tx n ks=>
  simp only[Tr.kids] at h1;subst h1
  cases bV with
  | mk a b c a1=>
   simp only[Tr.kids] at O;subst O
   cases dB with
   | mk a2 b2 c2 hp=>
    simp only[Tr.kd,Tr.tx] at ax aU bN;simp only[TL,Tr.kd,Tr.n,Tr.kids];rw[if_pos ⟨ax,aU,bN⟩]
theorem EV.text {B:Nat}{w:Ny}{t:Tr}{p:Nat}(h:EV B w t (Nu p))(s:NR):EV B (w.setCell (Nv p 1) (ND s)) (.mk t.kd s t.n t.kids) (Nu p):=by
 obtain⟨cE,u,ps,au,al,D,U,aO,E⟩:=h;have:cE=p:=by simpa[Nu] using au.symm
 subst this;have ae:∀ b,b≠cE->(w.setCell (Nv cE 1) (ND s)).heap[b]? = w.heap[b]?:=fun b D=>Below.heap_setCell w (Nv cE 1) _ b D;refine⟨cE,u,ps,rfl,al,by rw[heap_set D];rfl,?_,aO,NT.later (fun b h _=>ae b h.2.1) _ _ E⟩
 exact Qs (I:=fun b=>b≠cE) (fun b h _=>ae b h) (fun g hg e=>aO (by rw[hg,e])) U
theorem node_cells {w:Ny}{p:Nat}{kd n:Int}{tx:NR}{u:NP}(h:w.heap[p]? = some (OA kd tx n u)) :
  w.cell? (Nv p 0)=some (Nr kd)/\w.cell? (Nv p 1)=some (ND tx)/\w.cell? (Nv p 2)=some (Nr n)/\w.cell? (Nv p 3)=some u/\(∀ o,w.frozen? (Nv p o)=false):=
 ⟨by rw[cell_of h];rfl,by rw[cell_of h];rfl,by rw[cell_of h];rfl,by rw[cell_of h];rfl,QM h⟩
section
variable {I:Nat->Prop} {w:Ny} {t:Tr}
include I w t
theorem O7.opens {p:Nat}(h:O7 I w t p):∃ u ps,w.heap[p]? = some (OA t.kd t.tx t.n u)/\w.ownsRow 0 22 1 u ps.length (ps.map Nu)/\NT I w t.kids ps:=by
 cases t with
 | mk kd tx n ks=>
  rw[O7] at h;obtain⟨_,u,ps,h1,O,ax⟩:=h;exact⟨u,ps,h1,O.1,NT.mono (fun b D _=>D.1) _ _ ax⟩
theorem NT.head {am:List Tr}{ps:List Nat}(h:NT I w (t::am) ps):∃ p eu,ps=p::eu/\O7 I w t p:=by
 obtain⟨p,eu,e,h1,_⟩:=h.parts;exact⟨p,eu,e,h1⟩
end
def aok (t:Tr):Prop:=∀ bV r,t.kids=bV::r->bV.kd=15->∃ dB bQ,bV.kids=dB::bQ
theorem W9 (B:Nat)(t:Tr)(v:NP)(w:Ny)(h:EV B w t v)(au:aok t) :
  NK 161 #[v] w fun e w'=>e=NU v/\EV B w' (TL t) v/\Below B w w':=by
 have dw:=h;obtain⟨p,u,ps,rfl,al,D,U,aO,E⟩:=h;obtain⟨_,_,_,fO,fz⟩:=node_cells D;have HP:=hide al;have hlen:=NT.length _ _ E
 cases eJ:t.kids with
 | nil=>
  rw[eJ] at hlen;have h0:ps.length=0:=hlen;obtain⟨a,cap,kY⟩:=Tt U;rw[h0] at kY;subst kY;have ah:=hide (Wl (t:=t) (fun bV r dB bQ e=>by rw[eJ] at e;cases e))
  clear D aO hlen eJ h0 al fz;exact aqS
 | cons bV r=>
  rw[eJ] at hlen E;have h0:0<ps.length:=by rw[hlen];simp
  obtain⟨g,cap,kY,hcell⟩:=VQ U h0;subst kY;obtain⟨p1,MZ,v7,gG⟩:=NT.head E;have c0:w.cell? (Nv g 0)=some (Nu p1):=by
   rw[hcell 0 h0];simp[v7]
  obtain⟨g4,dR,b4,hr1,iQ⟩:=gG.opens;obtain⟨tC,_,_,Df,_⟩:=node_cells b4;have K':(0:Int)<(ps.length:Int):=Nw
  by_cases i7:bV.kd=15
  ·obtain⟨dB,bQ,e4⟩:=au bV r eJ i7;rw[e4] at iQ;have hlen1:=NT.length _ _ iQ;have Dj:0<dR.length:=by rw[hlen1];simp
   obtain⟨b0,cap1,Jd,hcell1⟩:=VQ hr1 Dj;subst Jd;obtain⟨cr,M0,xT,kl⟩:=NT.head iQ;have gC:w.cell? (Nv b0 0)=some (Nu cr):=by
    rw[hcell1 0 Dj];simp[xT]
   obtain⟨gR,M6,aE,_,_⟩:=kl.opens;obtain⟨KY,KZ,_,_,_⟩:=node_cells aE;have K8:(0:Int)<(dR.length:Int):=Nw;have Ha:(bV.kd==15)=true:=beq_iff_eq.2 i7
   by_cases qe:dB.kd=18
   ·have Hb:(dB.kd==18)=true:=beq_iff_eq.2 qe
    by_cases kY:dB.tx=ajG
    ·have ah:=hide (aea eJ e4 i7 qe kY);have Hj:(dB.tx.toList==[117,115,101,32,115,116,114,105,99,116])=true:=UW (b:=ajG) rfl kY;clear D aO hlen eJ al b4 aE hcell hcell1 hlen1 e4 i7 qe kY v7 xT;go_enter func161,ntmps161;go_wp2_with fail;go_ret;exact⟨rfl,by rw[ah.out];exact dw.text _,P8.setCell (p:=(Nv p 1)) HP.out _⟩
    ·have ah:=hide (Wl (t:=t) (fun jZ EU a2 EW av bC _ _ e=>by rw[eJ] at av;cases av;rw[e4] at bC;cases bC;exact kY e))
     have Hj:(dB.tx.toList==[117,115,101,32,115,116,114,105,99,116])=false:=Uw (b:=ajG) rfl kY;clear D aO hlen eJ al b4 aE hcell hcell1 hlen1 e4 i7 qe kY v7 xT;exact aqS
   ·have Hb:(dB.kd==18)=false:=beq_eq_false_iff_ne.2 qe;have ah:=hide (Wl (t:=t) (fun jZ EU a2 EW av bC _ e=>by rw[eJ] at av;cases av;rw[e4] at bC;cases bC;exact absurd e qe))
    clear D aO hlen eJ al b4 aE hcell hcell1 hlen1 e4 i7 qe v7 xT;exact aqS
  ·have Ha:(bV.kd==15)=false:=beq_eq_false_iff_ne.2 i7;have ah:=hide (Wl (t:=t) (fun jZ EU a2 EW av _ e=>by rw[eJ] at av;cases av;exact absurd e i7))
   clear D aO hlen eJ al b4 hcell i7 v7;exact aqS
section
variable {c:Ctx} {w:Ny} {i d:Nat} (h:OU c w i d)
include c w i d h
theorem OU.drew:OU c w.drew i d:=h.later P8.drew
theorem OU.alloc (o:Obj):OU c (w.alloc o) i d:=h.later OM
end
abbrev Rt:Obj:=.cells #[OG,Nr 0,Nr 0,Nr 0] 275
theorem Zg {w:Ny}{b:Nat}{a0 jZ a2 a3:NP}{t:TypeId}{fr:Nat × Nat}(h:w.heap[b]? = some (.cells #[a0,jZ,a2,a3] t fr))(v0 v1 v2 v3:NP) :
  ((((w.setCell (Nv b 0) v0).setCell (Nv b 1) v1).setCell (Nv b 2) v2).setCell (Nv b 3) v3).heap[b]? = some (.cells #[v0,v1,v2,v3] t fr):=by
 rw[heap_set (heap_set (heap_set (heap_set h v0) v1) v2) v3];rfl
def ah2 (b:Nat)(w1:Ny)(v0 v1 v2 v3:NP):Prop:=
 w1.cell? (Nv b 0)=some v0/\w1.cell? (Nv b 1)=some v1/\w1.cell? (Nv b 2)=some v2/\w1.cell? (Nv b 3)=some v3/\(∀ o,w1.frozen? (Nv b o)=false)/\b<w1.heap.size
theorem c160 {b:Nat}{w1:Ny}{v0 v1 v2 v3:NP}(aW:w1.heap[b]? = some (.cells #[v0,v1,v2,v3] 275)):ah2 b w1 v0 v1 v2 v3:=
 ⟨by rw[cell_of aW];rfl,by rw[cell_of aW];rfl,by rw[cell_of aW];rfl,by rw[cell_of aW];rfl,QM aW,lt_of_heap aW⟩
section
variable {c:Ctx} {w w1:Ny} {i d:Nat} (h:OU c w i d)
include c w w1 i d h
theorem avG (D:Below (w.alloc Rt).drew.heap.size (w.alloc Rt).drew w1) :
  OU c w1 i d/\NJ w w1/\w1.heap[w.heap.size]? = some Rt:=
 ⟨(h.alloc Rt).drew.later D,((P8.alloc OH Rt).drew).trans (D.mono Oq),(D.block _ Oq).trans (NG w Rt)⟩
theorem avy (D:Below ((w.alloc Rt).alloc Rt).drew.heap.size ((w.alloc Rt).alloc Rt).drew w1) :
  OU c w1 i d/\NJ w w1/\w1.heap[w.heap.size]? = some Rt/\w1.heap[w.heap.size+1]? = some Rt:=by
 refine⟨((h.alloc Rt).alloc Rt).drew.later D,(((P8.alloc OH Rt).alloc Oq Rt).drew).trans (D.mono Qa),(D.block _ Qa).trans ((Below.heap_alloc (w.alloc Rt) Rt w.heap.size Oq).trans (NG w Rt)),?_⟩;have:=NG (w.alloc Rt) Rt;simp only[World.size_alloc] at this;exact(D.block _ Oq).trans this
end
section
variable {c:Ctx} {w w1 gB:Ny} {i d:Nat} {v0 v1 v2 v3:NP} (h:OU c w1 i d)
include c w w1 gB i d v0 v1 v2 v3 h
theorem ah7 (nN:c.lo<=w.heap.size)(aW:w1.heap[w.heap.size]? = some Rt)(p1:w1.heap[w.heap.size+1]? = some Rt)(D:NJ w w1)(a6:gB=(((w1.setCell (Nv (w.heap.size+1) 0) v0).setCell (Nv (w.heap.size+1) 1) v1).setCell (Nv (w.heap.size+1) 2) v2).setCell (Nv (w.heap.size+1) 3) v3) :
  OU c gB i d/\NJ w gB/\ah2 w.heap.size gB (OG) (Nr 0) (Nr 0) (Nr 0)/\ah2 (w.heap.size+1) gB v0 v1 v2 v3:=by
 have aZ:Below (w.heap.size+1) w1 gB:=by
  rw[a6];exact((((Below.refl _ w1).setCell (p:=(Nv (w.heap.size+1) 0)) OH v0).setCell (p:=(Nv (w.heap.size+1) 1)) OH v1).setCell (p:=(Nv (w.heap.size+1) 2)) OH v2).setCell (p:=(Nv (w.heap.size+1) 3)) OH v3
 refine⟨h.ap aZ Nw,D.trans (aZ.mono Nw),c160 ((aZ.block _ Nw).trans aW),c160 ?_⟩;rw[a6];exact Zg p1 v0 v1 v2 v3
theorem ah8 (aW:w1.heap[w.heap.size]? = some Rt)(D:NJ w w1)(a6:gB=w1.alloc (.cells #[v0,v1,v2,v3] 275)) :
  OU c gB i d/\NJ w gB/\ah2 w.heap.size gB (OG) (Nr 0) (Nr 0) (Nr 0)/\ah2 w1.heap.size gB v0 v1 v2 v3:=by
 subst a6;exact⟨h.alloc _,D.alloc D.size _,c160 ((Below.heap_alloc _ _ _ (lt_of_heap aW)).trans aW),c160 (NG _ _)⟩
end
theorem anQ {w gB:Ny}{b:Nat}(D:NJ w gB)(h:w.heap.size<=b)(v0 v1 v2 v3:NP) :
  NJ w ((((gB.setCell (Nv b 0) v0).setCell (Nv b 1) v1).setCell (Nv b 2) v2).setCell (Nv b 3) v3):=
 (((D.setCell (p:=(Nv b 0)) h _).setCell (p:=(Nv b 1)) h _).setCell (p:=(Nv b 2)) h _).setCell (p:=(Nv b 3)) h _
theorem ak3 (c:Ctx)(k:Int)(s:NR)(w:Ny)(i d:Nat)(h:OU c w i d)(ae:s=fx c.l i)(aM:Yp s=none) :
  NK 312 #[Ov c,Nr k] w fun e w'=>e=NU (.tuple #[anR,NI false])/\NJ w w':=by
 have bD:=h;have dk:=((h.alloc Rt).drew);have r3:=(((h.alloc Rt).alloc Rt).drew);have dV:Hid (∀ W:Ny,OU c W i d->(Instr.lookup 229 (.map (some c.mS)) (ND s) true).run prog W=.ok (.tuple #[.agg #[OG,Nr 0,Nr 0,Nr 0],NI false]) W):=fun W a6=>by
  have:=Wh c s W a6.base.signs;rw[aM] at this;exact this
 have bP:=kk (∀{G}(h:G:=by
 have z:=kk (∀{G}(h:G:=by
 have z:=kk (∀{G}(h:G:=by
 refine wpAnyH_ready (rs:=[5,10]) OJ Oq (AllReadyH.cons rfl (fun K A=>?_) (AllReadyH.cons rfl (fun K A=>?_) AllReadyH.nil))
 ·have z:=kk (∀{G}(h:G:=by
  have z:=kk (∀{G}(h:G:=by
  have z:=kk (∀{G}(h:G:=by
  have z:=kk (∀{G}(h:G:=by
  obtain⟨gB,iA⟩:=xE (w1.alloc (.cells #[OG,Nr 0,Nr 0,Nr 0] 275));obtain⟨hr2,aE,⟨bi,aY,aX,cu,wL,wM⟩,⟨fZ,ku,s2,o7,sT,sU⟩⟩:=ah8 (v0:=OG) (v1:=Nr 0) (v2:=Nr 0) (v3:=Nr 0) bJ sb.out fs iA;exact aCP),G);exact anV),G);exact aq1),G);exact aCo),G);exact avF
 ·have z:=kk (∀{G}(h:G:=by
  have z:=kk (∀{G}(h:G:=by
  have z:=kk (∀{G}(h:G:=by
  refine WG 11 fun K A=>?_;go_simp;clear cy bQ b5 d' en YV;obtain⟨gB,iA⟩:=xE ((((w1.setCell (Nv (w.heap.size+1) 0) (OG)).setCell (Nv (w.heap.size+1) 1) (Nr 0)).setCell (Nv (w.heap.size+1) 2) (Nr 0)).setCell (Nv (w.heap.size+1) 3) (Nr 0));obtain⟨hr2,aE,⟨bi,aY,aX,cu,wL,wM⟩,⟨fZ,ku,s2,o7,sT,sU⟩⟩:=ah7 (v0:=OG) (v1:=Nr 0) (v2:=Nr 0) (v3:=Nr 0) bJ bD.base.size sb.out tu.out fs iA;exact aCP),G);exact aq1),G);exact aCo),G);exact avx),G);exact avA),G);exact Z7),G);exact aBK
section
variable (c:Ctx) (k:Int) (s:NR) (x:Sg) (w:Ny) (i d:Nat) (h:OU c w i d) (ae:s=fx c.l i) (aM:Yp s=some x)
include c k s x w i d h ae aM
theorem ah9 (E:(x.parts==k)=false) :
  NK 312 #[Ov c,Nr k] w fun e w'=>e=NU (.tuple #[anR,NI false])/\NJ w w':=by
 have z:=kk (∀{G}(h:G:=by
 have z:=kk (∀{G}(h:G:=by
 have z:=kk (∀{G}(h:G:=by
 refine wpAnyH_ready (rs:=[5,10]) OJ Oq (AllReadyH.cons rfl (fun K A=>?_) (AllReadyH.cons rfl (fun K A=>?_) AllReadyH.nil))
 ·have z:=kk (∀{G}(h:G:=by
  have z:=kk (∀{G}(h:G:=by
  have z:=kk (∀{G}(h:G:=by
  obtain⟨gB,iA⟩:=xE (w1.alloc (.cells #[ND x.tx,Nr x.kd,Nr x.parts,Nr x.str] 275));obtain⟨hr2,aE,⟨bi,aY,aX,cu,wL,wM⟩,⟨fZ,ku,s2,o7,sT,sU⟩⟩:=ah8 (v0:=ND x.tx) (v1:=Nr x.kd) (v2:=Nr x.parts) (v3:=Nr x.str) bJ sb.out fs iA;exact aCQ),G);exact anV),G);exact aqU),G);exact avF
 ·have z:=kk (∀{G}(h:G:=by
  have z:=kk (∀{G}(h:G:=by
  have z:=kk (∀{G}(h:G:=by
  obtain⟨hr2,aE,⟨bi,aY,aX,cu,wL,wM⟩,⟨fZ,ku,s2,o7,sT,sU⟩⟩:=ah7 (v0:=ND x.tx) (v1:=Nr x.kd) (v2:=Nr x.parts) (v3:=Nr x.str) bJ bD.base.size sb.out tu.out fs iA;exact aCQ),G);exact aCa),G);exact aqU),G);exact avx),G);exact avA),G);exact Z7),G);exact aB1
theorem ak4 (E:(x.parts==k)=true) :
  NK 312 #[Ov c,Nr k] w fun e w'=>e=NU (.tuple #[sgV x,NI true])/\NJ w w':=by
 have z:=kk (∀{G}(h:G:=by
 have z:=kk (∀{G}(h:G:=by
 have z:=kk (∀{G}(h:G:=by
 refine wpAnyH_ready (rs:=[5,10]) OJ Oq (AllReadyH.cons rfl (fun K A=>?_) (AllReadyH.cons rfl (fun K A=>?_) AllReadyH.nil))
 ·have z:=kk (∀{G}(h:G:=by
  have z:=kk (∀{G}(h:G:=by
  have z:=kk (∀{G}(h:G:=by
  obtain⟨gB,iA⟩:=xE (w1.alloc (.cells #[ND x.tx,Nr x.kd,Nr x.parts,Nr x.str] 275));obtain⟨hr2,aE,⟨bi,aY,aX,cu,wL,wM⟩,⟨fZ,ku,s2,o7,sT,sU⟩⟩:=ah8 (v0:=ND x.tx) (v1:=Nr x.kd) (v2:=Nr x.parts) (v3:=Nr x.str) bJ sb.out fs iA;exact aBs),G);exact anV),G);exact aqU),G);exact avF
 ·have z:=kk (∀{G}(h:G:=by
  have z:=kk (∀{G}(h:G:=by
  have z:=kk (∀{G}(h:G:=by
  obtain⟨hr2,aE,⟨bi,aY,aX,cu,wL,wM⟩,⟨fZ,ku,s2,o7,sT,sU⟩⟩:=ah7 (v0:=ND x.tx) (v1:=Nr x.kd) (v2:=Nr x.parts) (v3:=Nr x.str) bJ bD.base.size sb.out tu.out fs iA;exact aBs),G);exact aCa),G);exact aqU),G);exact avx),G);exact avA),G);exact Z7),G);exact aB1
end
theorem U9 (c:Ctx)(k:Int)(w:Ny)(i d:Nat)(h:OU c w i d) :
  NK 312 #[Ov c,Nr k] w fun e w'=>e=NU (.tuple #[aqT (YR k (fx c.l i)),NI (YR k (fx c.l i)).isSome])/\NJ w w':=by
 cases aM:Yp (fx c.l i) with
 | none=>
  have:YR k (fx c.l i)=none:=by simp[YR,aM]
  rw[this];exact ak3 c k _ w i d h rfl aM
 | some x=>
  cases E:x.parts==k with
  | false=>
   have:YR k (fx c.l i)=none:=by simp[YR,aM,Option.filter,E]
   rw[this];exact ah9 c k _ x w i d h rfl aM E
  | true=>
   have:YR k (fx c.l i)=some x:=by simp[YR,aM,Option.filter,E]
   rw[this];exact ak4 c k _ x w i d h rfl aM E
structure FC (c:Ctx)(F:Rq):Prop where
 st:Does c 160 NV F.st
 vl:Does c 224 NV F.vl
 pr:∀ b:Int,2<=b->b<=8->∀ w d i r,F.pr b d i=r->r≠.out->OU c w i d->NK 280 #[Ov c,Nr b] w (Pm c w d (NV w.heap.size) r)
 sg:Does c 311 NV F.sg
theorem aDh:UE 160:=fun _ _=>by kernel_rfl
theorem aDi:UE 224:=fun _ _=>by kernel_rfl
theorem aDj:UE 311:=fun _ _=>by kernel_rfl
section
variable {c:Ctx} {F:Rq} (ak:FC c F) (w:Ny) (d i:Nat) (h:OU c w i d)
include c F ak w d i h
theorem Ur (aM:OL c.l F.vl d i≠.out):NK 159 #[Ov c,TP c.R 224] w (Pm c w d (NV w.heap.size) (OL c.l F.vl d i)):=
 Ye c 224 F.vl ak.vl aDi w d i _ rfl aM h
theorem ZF (aM:OL c.l F.st d i≠.out):NK 159 #[Ov c,TP c.R 160] w (Pm c w d (NV w.heap.size) (OL c.l F.st d i)):=
 Ye c 160 F.st ak.st aDh w d i _ rfl aM h
theorem aCt (aM:OL c.l F.sg d i≠.out):NK 159 #[Ov c,TP c.R 311] w (Pm c w d (NV w.heap.size) (OL c.l F.sg d i)):=
 Ye c 311 F.sg ak.sg aDj w d i _ rfl aM h
end
theorem bind_ok {α β:Type}(x:α)(i:Nat)(f:α->Nat->PR β):(PR.ok x i).bind f=f x i:=rfl
theorem OE {α β:Type}(er:Int)(p:Nat)(f:α->Nat->PR β):(PR.bad er p:PR α).bind f=.bad er p:=rfl
theorem abq {α β:Type}(f:α->Nat->PR β):(PR.out:PR α).bind f=.out:=rfl
abbrev From (B:Nat):Nat->Prop:=fun b=>B<=b
theorem QW {c:Ctx}{B:Nat}{w w':Ny}{t:Tr}{p:Nat}(h:O7 (From B) w t p)(aw:Ap c.R w.heap.size w w')(aZ:c.R<B):O7 (From B) w' t p:=
 O7.later (TM.Ws aw aZ fun _ h=>h) _ _ h
theorem Q7 {B B':Nat}{w:Ny}{t:Tr}{p:Nat}(h:O7 (From B) w t p)(aZ:B'<=B):O7 (From B') w t p:=O7.mono (fun _ h _=>Nat.le_trans aZ h) _ _ h
theorem Zp {c:Ctx}{B:Nat}{w w':Ny}{t u:Tr}{p q:Nat}(h:O7 (From B) w t p)(aw:Ap c.R w.heap.size w w')(cR:c.R<B)(aZ:B<=w.heap.size)(O:O7 (From w.heap.size) w' u q):NT (From B) w' [t,u] [p,q]:=
 NT.pair (M:=w.heap.size) (O7.later (I:=fun b=>From B b/\b<w.heap.size) (TM.Ws aw cR fun _ h=>h.1) _ _ (O7.mono (fun _ D hl=>⟨D,hl⟩) _ _ h)) (O7.mono (fun _ D _=>⟨Nat.le_trans aZ D,D⟩) _ _ O)
section
variable {c:Ctx} {w W:Ny} {j d:Nat} {am:List Tr}
include c w W j d am
theorem made {ps:List Nat}(cR:OU c W j d)(dK:Ap c.R w.heap.size w W)(aA:NT (From w.heap.size) W am ps)(hl:ps.length<=maxLen)(cs:Array NP)(ai:cs.toList=ps.map Nu)(n:Nat)(hlen:ps.length=n)(kd:Int)(tx:NR)(q:Nat)(ag:q=W.heap.size+1) :
  EV w.heap.size ((W.alloc (.cells cs 22)).alloc (OA kd tx 0 (.slice (some (Nv W.heap.size 0)) n n))) (.mk kd tx 0 am) (Nu q) /\
  OU c ((W.alloc (.cells cs 22)).alloc (OA kd tx 0 (.slice (some (Nv W.heap.size 0)) n n))) j d /\
  Ap c.R w.heap.size w ((W.alloc (.cells cs 22)).alloc (OA kd tx 0 (.slice (some (Nv W.heap.size 0)) n n))):=by
 subst hlen;have ae:q=(W.alloc (.cells cs 22)).heap.size:=by rw[ag];simp
 rw[ae];exact⟨EV.new (KV.row aA dK.size hl cs ai) (by simp;have:=dK.size;omega) kd tx 0,(cR.alloc _).alloc _,(dK.alloc dK.size _).alloc (by simp;have:=dK.size;omega) _⟩
theorem ZE {v:NP}(cR:OU c W j d)(dK:Ap c.R w.heap.size w W)(aA:KV w.heap.size W am v)(kd:Int)(tx:NR)(q:Nat)(ag:q=W.heap.size) :
  EV w.heap.size (W.alloc (OA kd tx 0 v)) (.mk kd tx 0 am) (Nu q)/\OU c (W.alloc (OA kd tx 0 v)) j d/\Ap c.R w.heap.size w (W.alloc (OA kd tx 0 v)):=by
 subst ag;exact⟨EV.new aA dK.size kd tx 0,cR.alloc _,dK.alloc dK.size _⟩
end
theorem Zv {c:Ctx}{F:Rq}(ak:FC c F):Does c 155 NV (Tj c.l F):=by
 have im:=PU c.R 224;have z:=kk (∀{G}(h:G:=by
 unfold Tj at ae;have ba:=hide ae;have dr:=hide aM;clear ae aM;go_enter func155,ntmps155
 cases U:OD c.l Qi i with
 | out=>
  exact QA
 | bad er p=>
  have ah:=(Oz c Qi w i d h NH);exact Z5
 | ok cj bW=>
  have ah:=(Oz c Qi w i d h NH);have z:=kk (∀{G}(h:G:=by
  have z:=kk (∀{G}(h:G:=by
  have bJ:=a8;clear h
  cases U:OL c.l F.vl d bW with
  | out=>
   exact QA
  | bad er p=>
   have ah:=(Ur ak w1 d bW bJ (by rw[U];nofun))
   exact anP
  | ok dD cK=>
   have ah:=(Ur ak w1 d bW bJ (by rw[U];nofun))
   have z:=kk (∀{G}(h:G:=by
   intro e w2 al;obtain⟨⟨v2,rfl,cr,rfl,kl⟩,a8,aw⟩:=al;have ec:=(eo.next aw);have bj:=a8;have jX:=(Q7 kl eo.size)
   cases U:OD c.l RJ cK with
   | out=>
    exact QA
   | bad er p=>
    have ah:=(Oz c RJ w2 cK d bj NH);exact anO
   | ok jg h'=>
    have ah:=(Oz c RJ w2 cK d bj NH);have z:=kk (∀{G}(h:G:=by
    intro e ao al;obtain⟨⟨v3,rfl,rfl⟩,a8,aw⟩:=al;have ji:=(ec.next aw);replace jX:=(QW jX aw bS.out);go_wp2_with fail;go_ret;exact RG ba.out.symm ⟨cr,rfl,jX⟩ a8 ji),G);exact WH),G);exact WH),G);exact afW),G);exact WH),G);exact afX
theorem info22:(prog.info? 22).map (fun i=>(i.zero,i.size,i.bytes))=some (some Qb,1,8):=by kernel_rfl
section
variable {B:Nat} {w:Ny} {am:List Tr} {v:NP} (h:KV B w am v)
include B w am v h
theorem KV.shape:∃ a cap,v=.slice a am.length cap:=by
 obtain⟨ps,U,E⟩:=h;rw[<-NT.length _ _ E];exact Tt U
theorem KV.own (g:Nat)(hg:v.ownBlock=some g):g<w.heap.size/\B<=g:=by
 obtain⟨ps,U,_⟩:=h;exact O9 U g hg
end
theorem KV.mono {B B':Nat}{w:Ny}{am:List Tr}{v:NP}(h:KV B w am v)(aZ:B'<=B):KV B' w am v:=by
 obtain⟨ps,U,E⟩:=h;refine⟨ps,⟨U.1,?_⟩,NT.mono (fun b h _=>⟨by omega,h.2⟩) _ _ E⟩;exact awU
theorem ai3 {B:Nat}{w1 ao:Ny}{am gj:List Tr}{v:NP}{ps dR:List Nat}{g cap n:Nat}{o:Obj}(E:NT (fun b=>B<=b/\v.ownBlock≠some b) w1 (am++gj) (ps++dR))
  (hown:ao.ownsRow B 22 1 (.slice (some (Nv g 0)) n cap) n ((ps++dR).map Nu)) (aA:n=(ps++dR).length) (db:(w1.alloc o).grownBy ao v.ownBlock)
  (hg:v.ownBlock=some g\/g=w1.heap.size+1):KV B ao (am++gj) (.slice (some (Nv g 0)) n cap):=by
 subst aA;refine⟨ps++dR,hown,?_⟩;have ae:TM (fun b=>B<=b/\b≠g/\v.ownBlock≠some b) w1 ao:=by
  intro b D hl;have h1:NJ w1 (w1.alloc o):=OM;rw[<-h1.block b hl];exact db.block b Qa (fun e=>D.2.2 e.symm)
 have h0:=NT.mono (J:=fun b=>B<=b/\b≠g/\v.ownBlock≠some b) (fun b D hl=>⟨D.1,fun e=>by (rcases hg with hg|hg);(exact D.2 (by rw[hg,e]));omega,D.2⟩) _ _ E
 exact NT.mono (fun b D _=>⟨D.1,fun e=>by simp only[Value.ownBlock,Option.some.injEq] at e;exact D.2.1 e.symm⟩) _ _ (NT.later ae _ _ h0)
def nxt (c:Ctx)(w:Ny):Nat:=match w.cell? (Nv c.R 1) with|some (.int _ v)=>v.toNat|_=>0
theorem TF {c:Ctx}{w:Ny}{i d:Nat}(h:OU c w i d):nxt c w=i:=by unfold nxt;rw[h.c1];rfl
theorem QE (w:Ny)(p H:Nat)(h:w.heap.size=H):∀ j u,[Nu p][j]? = some u->(w.alloc (.cells #[Nu p] 22)).cell? (((Nv H 0):Addr).add j)=some u:=by
 intro j u aT
 match j,aT with
 | 0,aT=>
  simp only[List.getElem?_cons_zero,Option.some.injEq] at aT;subst aT;subst h;rw[show ((Nv w.heap.size 0):Addr).add 0=(Nv w.heap.size 0) from rfl,cell_of (NG _ _)];rfl
 | j+1,aT=>simp at aT
theorem one_one (p:Nat):∀ u ∈ [Nu p],u.oneCell'=true:=by
 intro u aO;simp only[List.mem_singleton] at aO;subst aO;rfl
theorem Zr {c:Ctx}{B:Nat}{w w1:Ny}{am:List Tr}{v:NP}{t:Tr}{p:Nat}(E:KV B w am v)(aZ:B<=w.heap.size)(aw:Ap c.R w.heap.size w w1)(cR:c.R<B)(aA:O7 (From w.heap.size) w1 t p) :
  ∃ ps,w1.ownsRow B 22 1 v ps.length (ps.map Nu)/\NT (fun b=>B<=b/\v.ownBlock≠some b) w1 am ps/\NT (fun b=>B<=b/\v.ownBlock≠some b) w1 (am++[t]) (ps++[p]):=by
 have hown:=E.own;obtain⟨ps,U,ae⟩:=E;have h1:=NT.later (I:=fun b=>(B<=b/\v.ownBlock≠some b)/\b<w.heap.size) (TM.Ws aw cR fun _ h=>h.1.1) _ _ (NT.mono (fun _ D hl=>⟨D,hl⟩) _ _ ae);refine⟨ps,Qs (I:=fun b=>B<=b) (TM.Ws aw cR fun _ h=>h) (fun g hg=>(O9 U g hg).2) U,NT.mono (fun b D _=>D.1) _ _ h1,NT.append (M:=w.heap.size) _ _ (NT.cons ?_ NT.nil) h1⟩;exact O7.mono (fun b D _=>⟨⟨Nat.le_trans aZ D,fun e=>by have:=(hown b e).1;have:w.heap.size<=b:=D;omega⟩,D⟩) _ _ aA
theorem Qc {c:Ctx}{F:Rq}(ak:FC c F)(hN:∃ k,FNx c.l k F):Does c 149 EV (Pj c.l F):=by
 have im:=PU c.R 160;intro w d i r ae aM h;have dw:=h.base.ends;have dV:=hide h.base.len;have z:=kk (∀{G}(h:G:=by
 have fA:=(Ap.refl c.R w.heap.size w);have bS:=hide h.YV;have ny:=hide hN;unfold Pj at ae;have ba:=hide ae;have dr:=hide aM;clear ae aM hN;go_enter func149,ntmps149
 cases U:OD c.l OV i with
 | out=>
  exact QA
 | bad er p=>
  have ah:=(Oz c OV w i d h NH);exact Z5
 | ok cj bW=>
  have ah:=(Oz c OV w i d h NH);have z:=kk (∀{G}(h:G:=by
  have z:=kk (∀{G}(h:G:=by
  have bJ:=a8;clear aw h;go_wp2_with fail
  go_loopw [3] (fun v wr=>∃ k be j,(PV c.l F d k be j).bind (fun am i2=>PR.ok (.mk 6 NC 0 am) i2)=r/\OU c wr j d/\Ap c.R w.heap.size w wr/\KV w.heap.size wr be v/\be.length<=j) (fun _ wr=>c.l.length - nxt c wr)
  case atStart=>exact⟨F.fuel,[],bW,ba.out,bJ,eo,KV.nil _ _,Nat.zero_le _⟩
  case round=>
   obtain⟨k,be,j,ag,a8,gv,nM,h5⟩:=hrel
   cases k with
   | zero=>exact absurd ag.symm dr.out
   | succ k=>
    have dz:=Ns dV;have m5:=a8.lt;have bj:=a8;have oh:=a8;have p2:=hide h5
    by_cases ac:fx c.l j=Vg
    ·have bo:Hid (PR.ok (.mk 6 NC 0 be) (j+1)=r):=by
      unfold PV at ag;rw[if_pos ac,bind_ok] at ag;exact ag
     have ah:=(QU c Vg wr j d a8 ac NH);obtain⟨va,dv,rfl⟩:=nM.shape;clear ag h5 ac;go_wp2_with fail;refine cm ah ?_;rintro e ao ⟨rfl,iI,ha3⟩;have ji:=(gv.next ha3);have c8:=iI;have jz:=(KV.later nM ha3 bS.out);have ah:=(OT 6 NC (.slice va be.length dv) ao ⟨_,_,_,rfl⟩);have z:=kk (∀{G}(h:G:=by
     obtain⟨cO,cP,c'⟩:=ZE c8 ji jz 6 NC _ rfl;exact RG bo.out.symm cO cP c'),G);exact Zq
    ·have bo:Hid ((OL c.l F.st d j).bind (fun t a7=>(PV c.l F d k (be++[t]) a7).bind fun am i2=>PR.ok (.mk 6 NC 0 am) i2)=r):=by
      unfold PV at ag;rw[if_neg ac] at ag;rw[<-ag]
      cases OL c.l F.st d j <;> rfl
     have ah:=(RH c Vg wr j d a8 ac);clear ag h5 ac
     cases U:OL c.l F.st d j with
     | out=>
      exact avt
     | bad er p=>
      have bY:=hide U;rw[U] at bo;simp only[OE] at bo;clear U;have z:=kk (∀{G}(h:G:=by
      have ah:=(ZF ak ao d j c8 (by rw[bY.out];nofun))
      exact aBD),G);exact anW
     | ok t cK=>
      have bY:=hide U;rw[U] at bo;simp only[bind_ok] at bo;clear U;have z:=kk (∀{G}(h:G:=by
      have jz:=(KV.later nM (Ap.of bm) bS.out);have ah:=(ZF ak ao d j c8 (by rw[bY.out];nofun))
      have z:=kk (∀{G}(h:G:=by
      have kR:j<cK:=by
       obtain⟨kk,cM⟩:=Ns ny;exact((Qk (l:=c.l) (d:=d) (cM.st (d+1) j m5)).2 t cK bY.out).1
      have z:=kk (∀{G}(h:G:=by
      go_roundw
      case rel=>exact⟨k,be++[t],cK,bo.out,fM,mH,lZ,by simp;omega⟩
      case measure=>rw[TF fM,TF oh];omega),G);exact aBX),G);exact aCb),G);exact anW),G);exact afW),G);exact WH),G);exact akN
def Asks (c:Ctx)(f:Nat)(b:Nat->Bool):Prop:=
 ∀ w d i,OU c w i d->NK f #[Ov c] w fun e w'=>e=NU (NI (b i))/\NJ w w'
def LV (B:Nat)(w:Ny)(am:List Tr)(v:NP):Prop:=KV B w am v/\(am=[]->v=.slice none 0 0)/\am.length<=3001
theorem Xp {c:Ctx}(q5 zI:Nat)(begins:Nat->Bool)(ng:Nat->Nat->PR Tr)(opn shut:NR)(D:Asks c q5 begins)(al:Does c zI NV ng)
  (KU:UE q5) (KW:UE zI)
  (gH:opn≠NC) (fo:shut≠NC) (tT:∀ d i t j,i<c.l.length->ng d i=.ok t j->i<j)
  (k:Nat) (w:Ny) (d i:Nat) (r:PR (List Tr)) (ae:Vh c.l opn shut begins (ng d) k i=r) (aM:r≠.out) (h:OU c w i d) :
  NK 227 #[Ov c,ND opn,ND shut,TP c.R q5,TP c.R zI] w (Pm c w d (LV w.heap.size) r):=by
 have dV:=hide h.base.len;have z:=kk (∀{G}(h:G:=by
 have fA:=(Ap.refl c.R w.heap.size w);have bS:=hide h.YV;have HP:=al;have mL:=hide gH;have fJ:=hide fo;have yQ:=hide tT;unfold Vh at ae;have ba:=hide ae;have dr:=hide aM;clear ae aM gH fo tT;unfold TP;go_enter func227,ntmps227
 cases U:OD c.l opn i with
 | out=>
  exact QA
 | bad er p=>
  have ah:=hide (Oz c opn w i d h mL.out);rw[U] at ah ba;simp only[OE] at ba;clear U;go_wp2_with fail;refine cm ah.out ?_;exact avk
 | ok cj bW=>
  have ah:=hide (Oz c opn w i d h mL.out);rw[U] at ah ba;simp only[bind_ok] at ba;clear U;go_wp2_with fail;refine cm ah.out ?_;have z:=kk (∀{G}(h:G:=by
  have bJ:=a8;clear aw h
  by_cases ac:fx c.l bW=shut
  ·have ah:=hide (QU c shut w1 bW d bJ ac fJ.out);rw[if_pos ac] at ba;clear ac;go_wp2_with fail;refine cm ah.out ?_;rintro e w2 ⟨rfl,hr2,ha2⟩;have ec:=(eo.next ha2);have bj:=hr2;go_wp2_with fail;go_ret;exact RG ba.out.symm ⟨KV.nil _ _,fun _=>rfl,by simp⟩ bj ec
  ·have ah:=hide (RH c shut w1 bW d bJ ac);rw[if_neg ac] at ba;clear ac;go_wp2_with fail;refine cm ah.out ?_;rintro e w2 ⟨rfl,aE⟩;have ec:=(eo.next (Ap.of aE));have bj:=(bJ.later aE);go_wp2_with fail
   go_loopw [11] (fun v wr=>∃ k be j,Ry c.l shut begins (ng d) k be j=r/\OU c wr j d/\Ap c.R w.heap.size w wr/\KV w.heap.size wr be v/\be.length<=j) (fun _ wr=>c.l.length - nxt c wr)
   case atStart=>exact⟨k,[],bW,ba.out,bj,ec,KV.nil _ _,Nat.zero_le _⟩
   case round=>
    obtain⟨k,be,j,ag,a8,gv,nM,h5⟩:=hrel
    cases k with
    | zero=>exact absurd ag.symm dr.out
    | succ k=>
     have dz:=Ns dV;have m5:=a8.lt;have bj:=a8;have oh:=a8;have ec:=gv;have p2:=hide h5;unfold Ry at ag;have bo:=hide ag;clear ag h5;obtain⟨va,dv,rfl⟩:=nM.shape
     by_cases hI:be.length=8
     ·
      cases hbg:begins j with
      | true=>
       rw[if_pos ⟨hI,hbg⟩] at bo;have z:=kk (∀{G}(h:G:=by
       have ah:=hide (TY c 4 ao j d (bj.later bm));go_wp2_with fail;refine cm ah.out ?_;rintro e bB ⟨rfl,du⟩;exact⟨rfl,Pn bo.out.symm (ji.next (Ap.of du))⟩),G);exact aCf
      | false=>
       rw[if_neg (by rw[hbg];rintro⟨_,hh⟩;cases hh)] at bo
       have z:=kk (∀{G}(h:G:=by
       have c8:=(bj.later bm);have jz:=(KV.later nM (Ap.of bm) bS.out);clear Do;have z:=kk (∀{G}(h:G:=by
       cases U:ng d j with
       | out=>
        exact avh
       | bad er p=>
        have ah:Hid _:=HP ao d j _ rfl (by rw[U];nofun) c8
        have z:=kk (∀{G}(h:G:=by
        exact⟨rfl,Pn k9.out.symm (ji.next aw)⟩),G);exact avi
       | ok t cK=>
        have ah:Hid _:=HP ao d j _ rfl (by rw[U];nofun) c8
        have z:=kk (∀{G}(h:G:=by
        have sY:=(ji.next aw);have gA:=a8;have tc:=hide (Zr jz ji.size aw bS.out rp);have kE:=(KV.later jz aw bS.out);exact aA2),G);exact aCl),G);exact aCn),G);exact aCf
     ·rw[if_neg (fun hh=>hI hh.1)] at bo;have Do:((be.length:Int)==8)=false:=beq_eq_false_iff_ne.2 Nw;clear hI;have z:=kk (∀{G}(h:G:=by
      cases U:ng d j with
      | out=>
       exact avh
      | bad er p=>
       have ah:Hid _:=HP wr d j _ rfl (by rw[U];nofun) bj
       have z:=kk (∀{G}(h:G:=by
       exact⟨rfl,Pn k9.out.symm (ec.next aw)⟩),G);exact avi
      | ok t cK=>
       have ah:Hid _:=HP wr d j _ rfl (by rw[U];nofun) bj
       have z:=kk (∀{G}(h:G:=by
       have sY:=(ec.next aw);have gA:=a8;have tc:=hide (Zr nM ec.size aw bS.out rp);have kE:=(KV.later nM aw bS.out);exact aA2),G);exact aCl),G);exact aCn),G);exact afW),G);exact akN
def FOk (F:Rq):Prop:=∀ d i t j,F.st d i=.ok t j->t.kd=15->∃ v r,t.kids=v::r
theorem af7 {l:List Tk}{f:Nat->Nat->PR Tr}{d i j:Nat}{t:Tr}(h:OL l f d i=.ok t j):f (d+1) i=.ok t j:=by
 unfold OL at h
 split at h
 ·
  cases h
 ·exact h
section
variable {l:List Tk} {F:Rq} (ak:FOk F)
include l F ak
theorem ab5 {d:Nat}:∀ n be i am j,(∀ t ∈ be,t.kd=15->∃ v r,t.kids=v::r)->PV l F d n be i=.ok am j->∀ t ∈ am,t.kd=15->∃ v r,t.kids=v::r:=by
 intro n
 induction n with
 | zero=>intro be i am j _ h;cases h
 | succ n bR=>
  intro be i am j hacc h;unfold PV at h
  split at h
  ·
   cases h;exact hacc
  ·
   cases U:OL l F.st d i with
   | out=>rw[U] at h;cases h
   | bad er p=>rw[U] at h;cases h
   | ok t bW=>
    rw[U,bind_ok] at h;refine bR _ _ _ _ (fun u aO=>?_) h
    rcases List.mem_append.1 aO with aO|aO
    ·exact hacc u aO
    ·rw[List.mem_singleton] at aO;subst aO;exact ak _ _ _ _ (af7 U)
theorem Vt {d i j:Nat}{t:Tr}(h:Pj l F d i=.ok t j):aok t:=by
 unfold Pj at h
 cases aV:OD l OV i with
 | out=>rw[aV] at h;cases h
 | bad er p=>rw[aV] at h;cases h
 | ok x bW=>
  rw[aV,bind_ok] at h
  cases D:PV l F d F.fuel [] bW with
  | out=>rw[D] at h;cases h
  | bad er p=>rw[D] at h;cases h
  | ok am cK=>
   rw[D,bind_ok] at h;cases h;intro bV r E i7;have DZ:am=bV::r:=E;exact ab5 ak _ _ _ _ _ (fun _ aO=>absurd aO Oq) D bV (by rw[DZ];simp) i7
end
theorem ajd:UE 228:=fun _ _=>by kernel_rfl
theorem asH:UE 281:=fun _ _=>by kernel_rfl
theorem asI:UE 229:=fun _ _=>by kernel_rfl
theorem YO (c:Ctx):Asks c 228 (isName c.l):=fun w d i h=>Yc c w i d h
section
variable {c:Ctx}
include c
theorem aq4 {F:Rq}(ak:FC c F):Does c 349 NV (aeN c.l F):=by
 have im:=PU c.R 224;have z:=kk (∀{G}(h:G:=by
 unfold aeN at ae;have ba:=hide ae;have dr:=hide aM;clear ae aM;go_enter func349,ntmps349
 cases U:OL c.l F.vl d i with
 | out=>
  rw[U] at ba;exact absurd ba.out.symm dr.out
 | bad er p=>
  have ah:=(Ur ak w d i h (by rw[U];nofun))
  rw[U] at ah ba;clear U;go_wp2_with fail;refine cm ah ?_;exact avk
 | ok cj bW=>
  have ah:=(Ur ak w d i h (by rw[U];nofun))
  rw[U] at ah ba;clear U;go_wp2_with fail;have z:=kk (∀{G}(h:G:=by
  have eo:=(fA.next aw);have eg:=(Q7 gG fA.size);clear h;go_wp2_with fail;go_ret;exact RG ba.out.symm ⟨p1,rfl,eg⟩ a8 eo),G);exact aqX),G);exact afX
theorem acV:Does c 281 NV (fun _=>TS c.l):=by
 have z:=kk (∀{G}(h:G:=by
 dsimp only at ae
 unfold TS at ae;have ba:=hide ae;have dr:=hide aM;clear ae aM;go_enter func281,ntmps281
 cases U:nameP c.l i with
 | out=>
  exact QA
 | bad er p=>
  have ah:=(name_any c w i d h);exact Z5
 | ok cj bW=>
  have ah:=(name_any c w i d h);have z:=kk (∀{G}(h:G:=by
  have z:=kk (∀{G}(h:G:=by
  clear h;have ah:=(OT 23 cj PG w1 ⟨_,_,_,rfl⟩);have z:=kk (∀{G}(h:G:=by
  obtain⟨cO,cP,c'⟩:=ZE a8 eo (KV.nil _ _) 23 cj _ rfl;exact RG ba.out.symm cO.nv cP c'),G);exact Zq),G);exact afW),G);exact WH),G);exact afX
theorem agd {F:Rq}(ak:FC c F):Does c 229 NV (VA c.l F):=by
 have im:=PU c.R 224;have z:=kk (∀{G}(h:G:=by
 unfold VA at ae;have ba:=hide ae;have dr:=hide aM;clear ae aM;go_enter func229,ntmps229
 cases U:nameP c.l i with
 | out=>
  exact QA
 | bad er p=>
  have ah:=(name_any c w i d h);exact Z5
 | ok cj bW=>
  have ah:=(name_any c w i d h);have z:=kk (∀{G}(h:G:=by
  have z:=kk (∀{G}(h:G:=by
  have bJ:=a8;clear h
  cases U:OD c.l ac3 bW with
  | out=>
   exact QA
  | bad er p=>
   have ah:=(Oz c ac3 w1 bW d bJ NH);exact anP
  | ok dD cK=>
   have ah:=(Oz c ac3 w1 bW d bJ NH);have z:=kk (∀{G}(h:G:=by
   intro e w2 al;obtain⟨⟨v2,rfl,rfl⟩,a8,aw⟩:=al;have ec:=(eo.next aw);have bj:=a8
   cases U:OL c.l F.vl d cK with
   | out=>
    exact QA
   | bad er p=>
    have ah:=(Ur ak w2 d cK bj (by rw[U];nofun))
    exact anO
   | ok jg h'=>
    have ah:=(Ur ak w2 d cK bj (by rw[U];nofun))
    have z:=kk (∀{G}(h:G:=by
    intro e ao al;obtain⟨⟨v3,rfl,cL,rfl,oN⟩,a8,aw⟩:=al;have ji:=(ec.next aw);have s':=(Q7 oN ec.size);have ah:=(OT 39 cj (.slice (some (Nv ao.heap.size 0)) 1 1) (ao.alloc (.cells #[Nu cL] 22)) ⟨_,_,_,rfl⟩);have z:=kk (∀{G}(h:G:=by
    obtain⟨cO,cP,c'⟩:=made a8 ji (NT.cons s' NT.nil) (by simp[maxLen]) #[Nu cL] rfl 1 rfl 39 cj (ao.heap.size+1) rfl;exact RG ba.out.symm cO.nv cP c'),G);exact Zq),G);exact WH),G);exact WH),G);exact afW),G);exact WH),G);exact afX
theorem acW (aI:Ends c.l)(d i:Nat)(t:Tr)(j:Nat)(ay:i<c.l.length)(h:(fun(_:Nat)=>TS c.l) d i=.ok t j):i<j:=((acp (q:=True) aI ay).2 t j h).1
theorem agf {F:Rq}{k:Nat}(hN:FNx c.l k F)(aI:Ends c.l)(d i:Nat)(t:Tr)(j:Nat)(ay:i<c.l.length)(h:VA c.l F d i=.ok t j):i<j:=((aeS (q:=False) aI hN ay (fun h=>h.elim)).2 t j h).1
theorem aq5 {F:Rq}{k:Nat}(hN:FNx c.l k F)(d i:Nat)(t:Tr)(j:Nat)(ay:i<c.l.length)(h:aeN c.l F d i=.ok t j):i<j:=((adb (q:=False) hN ay (fun h=>h.elim)).2 t j h).1
theorem ahZ {F:Rq}:Does c 226 NV (fun _=>Rh c.l F):=by
 have im:=PU c.R 228;have D7:=PU c.R 281;intro w d i r ae aM h;have dw:=h.base.ends;have fA:=(Ap.refl c.R w.heap.size w);have bS:=hide h.YV
 dsimp only at ae
 unfold Rh at ae;have ba:=hide ae;have dr:=hide aM;clear ae aM;go_enter func226,ntmps226
 cases U:Vh c.l Qi RJ (isName c.l) (TS c.l) F.fuel i with
 | out=>
  exact QA
 | bad er p=>
  have ah:=(Xp 228 281 (isName c.l) (fun _=>TS c.l) Qi RJ (YO c) acV ajd asH NH NH (acW dw) F.fuel w d i _ rfl (by rw[U];nofun) h)
  exact Z5
 | ok cj bW=>
  have ah:=(Xp 228 281 (isName c.l) (fun _=>TS c.l) Qi RJ (YO c) acV ajd asH NH NH (acW dw) F.fuel w d i _ rfl (by rw[U];nofun) h)
  have z:=kk (∀{G}(h:G:=by
  have z:=kk (∀{G}(h:G:=by
  have ah:=(OT 40 NC (.slice va cj.length dv) w1 ⟨_,_,_,rfl⟩);have z:=kk (∀{G}(h:G:=by
  obtain⟨cO,cP,c'⟩:=ZE a8 eo eg 40 NC _ rfl;exact RG ba.out.symm cO.nv cP c'),G);exact Zq),G);exact aCD),G);exact WH
theorem ah0 {F:Rq}(ak:FC c F)(hN:∃ k,FNx c.l k F):Does c 156 NV (UJ c.l F):=by
 have im:=PU c.R 228;have D7:=PU c.R 229;obtain⟨k,hN⟩:=hN;intro w d i r ae aM h;have dw:=h.base.ends;have fA:=(Ap.refl c.R w.heap.size w);have bS:=hide h.YV;unfold UJ at ae;have ba:=hide ae;have dr:=hide aM;clear ae aM;go_enter func156,ntmps156
 cases U:Vh c.l OV Vg (isName c.l) (VA c.l F d) F.fuel i with
 | out=>
  exact QA
 | bad er p=>
  have ah:=(Xp 228 229 (isName c.l) (VA c.l F) OV Vg (YO c) (agd ak) ajd asI NH NH (agf hN dw) F.fuel w d i _ rfl (by rw[U];nofun) h)
  exact Z5
 | ok cj bW=>
  have ah:=(Xp 228 229 (isName c.l) (VA c.l F) OV Vg (YO c) (agd ak) ajd asI NH NH (agf hN dw) F.fuel w d i _ rfl (by rw[U];nofun) h)
  have z:=kk (∀{G}(h:G:=by
  have z:=kk (∀{G}(h:G:=by
  have ah:=(OT 38 NC (.slice va cj.length dv) w1 ⟨_,_,_,rfl⟩);have z:=kk (∀{G}(h:G:=by
  obtain⟨cO,cP,c'⟩:=ZE a8 eo eg 38 NC _ rfl;exact RG ba.out.symm cO.nv cP c'),G);exact Zq),G);exact aCD),G);exact WH
theorem empty_any:Does c 150 NV (fun _ i=>(OD c.l O5 i).bind fun _ a7=>.ok (.mk 16 NC 0 []) a7):=by
 have z:=kk (∀{G}(h:G:=by
 dsimp only at ae
 have ba:=hide ae;have dr:=hide aM;clear ae aM;go_enter func150,ntmps150
 cases U:OD c.l O5 i with
 | out=>
  exact QA
 | bad er p=>
  have ah:=(Oz c O5 w i d h NH);exact Z5
 | ok cj bW=>
  have ah:=(Oz c O5 w i d h NH);have z:=kk (∀{G}(h:G:=by
  have z:=kk (∀{G}(h:G:=by
  clear h;have ah:=(OT 16 NC PG w1 ⟨_,_,_,rfl⟩);have z:=kk (∀{G}(h:G:=by
  obtain⟨cO,cP,c'⟩:=ZE a8 eo (KV.nil _ _) 16 NC _ rfl;exact RG ba.out.symm cO.nv cP c'),G);exact Zq),G);exact afW),G);exact WH),G);exact afX
end
structure Open (B:Nat)(w:Ny)(t:Tr)(p:Nat)(u:NP)(ps:List Nat):Prop where
 low:B<=p
 blk:w.heap[p]? = some (OA t.kd t.tx t.n u)
 row:w.ownsRow B 22 1 u ps.length (ps.map Nu)
 own:u.ownBlock≠some p
 kids:NT (fun b=>B<=b/\b≠p/\u.ownBlock≠some b) w t.kids ps
theorem EV.opens {B:Nat}{w:Ny}{t:Tr}{v:NP}(h:EV B w t v):∃ p u ps,v=Nu p/\Open B w t p u ps:=by
 obtain⟨p,u,ps,rfl,h1,O,ax,aU,bN⟩:=h;exact⟨p,u,ps,rfl,h1,O,ax,aU,bN⟩
theorem Open.ev {B:Nat}{w:Ny}{t:Tr}{p:Nat}{u:NP}{ps:List Nat}(h:Open B w t p u ps):EV B w t (Nu p):=⟨p,u,ps,rfl,h.low,h.blk,h.row,h.own,h.kids⟩
theorem Open.later {c:Ctx}{B:Nat}{w w':Ny}{t:Tr}{p:Nat}{u:NP}{ps:List Nat}(h:Open B w t p u ps)(aw:Ap c.R w.heap.size w w')(aZ:c.R<B):Open B w' t p u ps:=
 ⟨h.low,by rw[aw.block p (lt_of_heap h.blk) (by have:=h.low;omega)];exact h.blk,Qs (I:=fun b=>B<=b) (TM.Ws aw aZ fun _ h=>h) (fun g hg=>(O9 h.row g hg).2) h.row,h.own,NT.later (TM.Ws aw aZ fun _ h=>h.1) _ _ h.kids⟩
section
variable {B:Nat} {w:Ny} {t:Tr} {p:Nat} {u:NP} {ps:List Nat} (h:Open B w t p u ps)
include B w t p u ps h
theorem Open.cell:w.cell? (Nv p 3)=some u/\(∀ o,w.frozen? (Nv p o)=false)/\p<w.heap.size:=
 ⟨(node_cells h.blk).2.2.2.1,(node_cells h.blk).2.2.2.2,lt_of_heap h.blk⟩
theorem Open.shape:∃ a cap,u=.slice a t.kids.length cap:=by
 rw[<-NT.length _ _ h.kids];exact Tt h.row
end
theorem Open.apart {c:Ctx}{B:Nat}{w w1:Ny}{t:Tr}{p:Nat}{u:NP}{ps:List Nat}(h:Open B w t p u ps)(aZ:B<=w.heap.size)(aw:Ap c.R w.heap.size w w1)(cR:c.R<B){gj:List Tr}{dR:List Nat}(aA:NT (From w.heap.size) w1 gj dR) :
  NT (fun b=>B<=b/\b≠p/\u.ownBlock≠some b) w1 (t.kids++gj) (ps++dR):=
 NT.append (M:=w.heap.size) _ _ (NT.mono (fun b D _=>by
  have h1:w.heap.size<=b:=D;have O:=lt_of_heap h.blk;exact⟨⟨by omega,by omega,fun e=>by have:=(O9 h.row b e).1;omega⟩,h1⟩) _ _ aA)
  (NT.later (I:=fun b=>(B<=b/\b≠p/\u.ownBlock≠some b)/\b<w.heap.size) (TM.Ws aw cR fun _ h=>h.1.1) _ _ (NT.mono (fun _ D hl=>⟨D,hl⟩) _ _ h.kids))
theorem ajf {B:Nat}{w0 ao:Ny}{kd n:Int}{tx:NR}{am gj:List Tr}{ps dR:List Nat}{p g m cap:Nat}{u:NP}(aZ:B<=p)(D:w0.heap[p]? = some (OA kd tx n u))(aO:u.ownBlock≠some p)
  (E:NT (fun b=>B<=b/\b≠p/\u.ownBlock≠some b) w0 (am++gj) (ps++dR))
  (hown:ao.ownsRow B 22 1 (.slice (some (Nv g 0)) m cap) m ((ps++dR).map Nu)) (aV:m=(ps++dR).length) (db:w0.grownBy ao u.ownBlock) (hg:u.ownBlock=some g\/g=w0.heap.size) :
  EV B (ao.setCell (Nv p 3) (.slice (some (Nv g 0)) m cap)) (.mk kd tx n (am++gj)) (Nu p):=by
 subst aV;have aQ:=lt_of_heap D;have DV:g≠p:=by
  rcases hg with hg|hg
  ·exact fun e=>aO (by rw[hg,e])
  ·omega
 have ax:ao.heap[p]? = some (OA kd tx n u):=by rw[db.block p aQ (fun e=>aO e.symm)];exact D
 have hset:∀ b,b≠p->(ao.setCell (Nv p 3) (.slice (some (Nv g 0)) (ps++dR).length cap)).heap[b]? = ao.heap[b]?:=fun b D=>Below.heap_setCell ao (Nv p 3) _ b D;refine⟨p,.slice (some (Nv g 0)) (ps++dR).length cap,ps++dR,rfl,aZ,by rw[heap_set ax];rfl,?_,fun e=>DV (by simpa[Value.ownBlock] using e),?_⟩
 ·exact Qs (I:=fun b=>b=g) (fun b D _=>hset b (by rw[D];exact DV)) (fun gX iD=>by simpa[Value.ownBlock] using iD.symm) hown
 ·have h0:=NT.mono (J:=fun b=>B<=b/\b≠p/\b≠g/\u.ownBlock≠some b) (fun b D hl=>⟨D.1,D.2.1,fun e=>by (rcases hg with hg|hg);(exact D.2.2 (by rw[hg,e]));omega,D.2.2⟩) _ _ E
  have ae:TM (fun b=>B<=b/\b≠p/\b≠g/\u.ownBlock≠some b) w0 (ao.setCell (Nv p 3) (.slice (some (Nv g 0)) (ps++dR).length cap)):=by
   intro b D hl;rw[hset b D.2.1];exact db.block b hl (fun e=>D.2.2.2 e.symm)
  exact NT.mono (fun b D _=>⟨D.1,D.2.1,fun e=>by simp only[Value.ownBlock,Option.some.injEq] at e;exact D.2.2.1 e.symm⟩) _ _ (NT.later ae _ _ h0)
theorem XU {c:Ctx}{w w1 ao:Ny}{j d:Nat}{t x:Tr}{p q g cap:Nat}{u:NP}{ps:List Nat}(ez:Open w.heap.size w1 t p u ps)(ac:NT (fun b=>w.heap.size<=b/\b≠p/\u.ownBlock≠some b) w1 (t.kids++[x]) (ps++[q]))(cR:OU c w1 j d)(dK:Ap c.R w.heap.size w w1)(nN:c.lo<=w.heap.size)
  (hown:ao.ownsRow w.heap.size 22 1 (.slice (some (Nv g 0)) (t.kids.length+1) cap) (t.kids.length+1) (ps.map Nu++[Nu q])) (db:(w1.alloc (.cells #[Nu q] 22)).grownBy ao u.ownBlock) (hg:u.ownBlock=some g\/g=w1.heap.size+1) :
  EV w.heap.size (ao.setCell (Nv p 3) (.slice (some (Nv g 0)) (t.kids.length+1) cap)) (.mk t.kd t.tx t.n (t.kids++[x])) (Nu p) /\
  OU c (ao.setCell (Nv p 3) (.slice (some (Nv g 0)) (t.kids.length+1) cap)) j d /\
  Ap c.R w.heap.size w (ao.setCell (Nv p 3) (.slice (some (Nv g 0)) (t.kids.length+1) cap)):=by
 have hlen:=NT.length _ _ ez.kids;have bF:∀ I,TM I w1 (w1.alloc (.cells #[Nu q] 22)):=fun I b _ hl=>Below.heap_alloc w1 _ b hl;have D:(w1.alloc (.cells #[Nu q] 22)).heap[p]? = some (OA t.kd t.tx t.n u):=by rw[Below.heap_alloc w1 _ p (lt_of_heap ez.blk)];exact ez.blk
 have hrow:∀ k,u.ownBlock=some k->w.heap.size<=k:=fun k E=>(O9 ez.row k E).2;have hgrow:Below w.heap.size w1 ao:=((Below.refl w.heap.size w1).alloc dK.size _).grown db (by simp;have:=dK.size;omega) hrow
 have hset:Below w.heap.size w1 (ao.setCell (Nv p 3) (.slice (some (Nv g 0)) (t.kids.length+1) cap)):=hgrow.setCell (p:=(Nv p 3)) ez.low _;refine⟨?_,cR.ap hset nN,dK.trans (Ap.of hset)⟩;refine ajf (w0:=w1.alloc (.cells #[Nu q] 22)) ez.low D ez.own (NT.later (bF _) _ _ ac) (by rw[List.map_append];exact hown) (by simp[hlen]) db ?_
 rcases hg with hg|hg
 ·exact Or.inl hg
 ·exact Or.inr (by simp[hg])
end Go.Proofs.YticfnaiehdpbmaaGreatDoor
