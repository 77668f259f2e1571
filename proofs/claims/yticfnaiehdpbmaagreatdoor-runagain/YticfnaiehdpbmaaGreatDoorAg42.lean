import Derived.Test.YticfnaiehdpbmaaGreatDoorAg41
import Derived.Test.YticfnaiehdpbmaaGreatDoorAg39
import Derived.Test.YticfnaiehdpbmaaGreatDoorAg40
set_option maxRecDepth 100000
set_option maxHeartbeats 8000000
set_option linter.unusedVariables false
namespace Go.Proofs.YticfnaiehdpbmaaGreatDoor
open Go.RowKit Go.Proofs.Tryz
namespace Hp
structure Cx (w0:Ny)(mb af:Nat)(aa:List Nat)(es:NP)(eb:Addr):Prop where
 b:Bs w0 mb af aa es
 st:Stp w0 mb es eb
 tb:X5 w0
 gl:Gl w0
structure QQ (f:Nat)(N:Int)(p:Pl)(σ:St):Prop where
 q:Q f N p σ
 bd:N<=99000000+10 * σ.steps
structure FC (w0:Ny)(mb af:Nat)(aa:List Nat)(es:NP)(F:Fx)(f:Nat):Prop where
 v:∀ {N d p σ},QQ f N p σ->Nk 0 d.2->RF w0 mb af aa es σ d p (F.v d p σ)
 s:∀ {N d p l σ L},QQ f N p σ->Nk 1 d.2->(OI d.2=true->K4 σ.M p.scope d.2.tx)->Lg σ l->(∀ b,L=some b->mb<=b)->V7 w0 mb af aa es σ d p L l (F.s d p l σ)
section
variable {w0:Ny} {mb af:Nat} {aa:List Nat} {es:NP} {eb:Addr} {w:Ny} {σ σ1:St} {N N':Int} {F:Fx} {f:Nat} {p:Pl} {d:Nd} {l:Option Va} {L:Option Nat} {v:Va} {e:Er} {o:Oc}
section
variable (h:QQ f N p σ)
include h
theorem QQ.next (k:VO N σ ((v,.no),σ1)):QQ f N p σ1:=⟨h.q.next k,by have:=h.bd;have:=k.ex.st;dsimp only at this;omega⟩
theorem QQ.nexts (k:SO N σ ((o,.no,l),σ1)):QQ f N p σ1:=⟨h.q.nexts k,by have:=h.bd;have:=k.ex.st;dsimp only at this;omega⟩
theorem QQ.nx (k:Nx N' σ σ1)(D:N'<=99000000+10 * σ.steps):QQ f N' p σ1:=⟨h.q.nx k,by rw[k.st];exact D⟩
end
theorem QQ.step (h:QQ (f+1) N p σ)(ae:¬ 20000<σ.step.steps):QQ f (N - 10000) p σ.step:=⟨h.q.step ae,by have:=h.bd;show N - 10000<=99000000+10 * ((σ.steps+1:Nat):Int);omega⟩
theorem Iv.sz (h:Iv N σ)(hN:N<=99000000+10 * σ.steps)(ae:σ.steps<=20001):Sz 400000000 σ:=by
 obtain⟨n,aJ,aA⟩:=h.pz;exact aJ.up Nw
theorem Eo.le (h:Eo σ e):σ.steps<=20001:=by
 cases e with
 | no=>exact Nat.le_succ_of_le h
 | stop=>exact Nat.le_of_eq h
 | Wq v=>exact Nat.le_succ_of_le h.1
 | mis=>exact h.elim
theorem QQ.sz (h:QQ f N p σ):Sz 400000000 σ:=h.q.iv.sz h.bd (by have:=h.q.st;omega)
theorem VO.sz {r:(Va × Er) × St}(h:VO N σ r)(hN:N<=99000000+10 * σ.steps):Sz 400000000 r.2:=h.iv.sz (by have:=h.ex.st;omega) h.er.le
theorem P9.ls {aS aB az aL TW Vd:NP}{w':Ny}(ac:Mx w0 mb af aa aS aB az aL w σ)(aG:P9 mb az aL TW Vd w w'):Om none mb w w':=aG.ZO ac
theorem adS {lJ:Nat}{M:Mo}{v:Va}(h:Gv lJ v)(aG:lJ<=400000000):(M.shw v).size<=3000/\(-1000000000<=v.n/\v.n<=1000000000):=by
 have aA:-1000000000<=v.n/\v.n<=1000000000:=by
  by_cases bN:v.k=5
  ·have:=h.r bN;omega
  ·exact h.n bN
 refine⟨?_,aA⟩;unfold Mo.shw
 split
 ·decide
 split
 ·decide
 split
 ·split <;> decide
 split
 ·have:=Lib.itoa_length_le v.n Nw Nw
  show (List.toArray _).size<=3000
  rw[List.size_toArray];omega
 split
 ·exact h.s
 split
 ·split <;> decide
 ·decide
theorem auZ (aj:Cx w0 mb af aa es eb)(ak:FI F f)(bq:FC w0 mb af aa es F f)(h:QQ (f+1) N p σ)(hd:Nk 0 d.2)
  (zM:d.2.kd=35->∀ Y a aC,Ms w0 mb af aa Y σ.step->Oa aa Y a d->QQ f (N - 10000) p σ.step->NK 263 #[Nu mb,Nu a.p,OQ p aC] Y (Oh w0 mb af aa es Y (Yy F d p σ.step))):RF w0 mb af aa es σ d p (Yg F d p σ):=by
 intro X a aC aK aA;have ae:=aj.st.Vs;have h0:=h.q.st
 by_cases h1:σ.steps<20000
 ·have ag:=h.step (show ¬ 20000<σ.steps+1 by omega);have aJ:=ag.sz;have dX:=ag.bd
  by_cases wB:d.2.kd=17
  ·rw[arZ h1 wB];exact value_num aj.st aK aA wB h0 h1 p aC
  by_cases wC:d.2.kd=18
  ·rw[ar0 h1 wC];exact akv aj.st aK aA wC h0 h1 p aC
  by_cases x1:d.2.kd=19
  ·rw[ar1 h1 x1];exact ahq aj.st aK aA x1 h0 h1 p aC
  by_cases x2:d.2.kd=20
  ·rw[ar2 h1 x2];exact afu aj.st aK aA x2 h0 h1 p aC
  by_cases x3:d.2.kd=21
  ·rw[ar4 h1 x3];exact ahr aj.st aK aA x3 h0 h1 p aC
  by_cases nY:d.2.kd=23
  ·rw[ar5 h1 nY];exact ahm aj.st aK aA nY h0 h1 p aC fun Y cB d9=>atY aj.b cB aJ Nw d9 p aC
  by_cases o1:d.2.kd=24
  ·have cC:=(hd.VP Nw).1;have b0:=hd.ahy Nw;rw[ar6 h1 o1];refine adG aj.st aK aA o1 h0 h1 p aC fun Y cB d9=>?_
   by_cases qG:(Nz d 0).2.kd=36
   ·have av:aj9 F d p σ.step=adx F (Nz d 0) (Nz d 1) p σ.step:=if_pos qG;rw[av];have Dh:=(cC.VP Nw).1;have ap:=(ak.v ag.q Dh).1;refine ZP ae cB d9 b0.2 p aC qG (cC.one1 Nw) (bq.v ag Dh) (fun v1 σ1 U=>?_) (fun v1 σ1 v2 ck U hr2=>?_) (N:=400000000) Nw
    ·rw[U] at ap;exact bq.v (ag.next ap) b0.1
    ·rw[U] at ap;have hw:=(ak.v (ag.next ap).q b0.1).1;rw[hr2] at hw;exact hw.sz (ag.next ap).bd
   ·have av:aj9 F d p σ.step=apW F (Nz d 0) (Nz d 1) p σ.step:=if_neg qG;rw[av];have hl:=ag.q.iv.look (Nz d 0) p;have dL:=ag.nx hl (by have:=h.bd;show N - 10000+1<=99000000+10 * ((σ.steps+1:Nat):Int);omega)
    refine ZQ ae aj.b aj.st.et cB d9 b0.2 p aC qG (bq.v dL b0.1) aJ (fun v1 σ1 U=>?_) Nw;have hw:=(ak.v dL.q b0.1).1;rw[U] at hw;exact hw.sz dL.bd
  by_cases wD:d.2.kd=25
  ·have cC:=(hd.VP Nw).1;have b0:=hd.ahy Nw;rw[ar7 h1 wD];refine am1 aj.st aK aA wD h0 h1 p aC fun Y cB d9=>ake ae cB d9 b0.2 wD p aC (bq.v ag cC) fun v1 σ1 U=>?_;have ap:=(ak.v ag.q cC).1;rw[U] at ap;exact bq.v (ag.next ap) b0.1
  by_cases Br:d.2.kd=26
  ·have cC:=(hd.VP Nw).1;have b0:=hd.ahy Nw;rw[ar8 h1 Br];refine akq aj.st aK aA Br h0 h1 p aC fun Y cB d9=>akf ae cB d9 b0.2 Br p aC (bq.v ag cC) fun v1 σ1 U=>?_;have ap:=(ak.v ag.q cC).1;rw[U] at ap;exact bq.v (ag.next ap) b0.1
  by_cases nZ:27<=d.2.kd/\d.2.kd<=31
  ·have b0:=hd.ahy Nw;have bH:=hd.acF nZ;have key:∀ Y,Ms w0 mb af aa Y σ.step->Oa aa Y a d->NK 259 #[Nu mb,Nu a.p,OQ p aC] Y (Oh w0 mb af aa es Y (Zf F d p σ.step)):=fun Y cB d9=>by
    refine auo ae aj.b aj.tb cB d9 b0.2 p aC (fun bO=>QQ f (N - 10000) p bO) ag (fun ox sB bO m7=>⟨bq.v m7 (bH ox sB),fun v σ1 U=>?_⟩) (fun v1 v2 σ1 U=>?_)
    ·have ap:=(ak.v m7.q (bH ox sB)).1;rw[U] at ap;exact m7.next ap
    ·have hl:=abd ak (O3 d) [] ag.q bH (fun _ h=>by cases h);rw[U] at hl;have EH:=(hl.iv.sz (by have:=hl.ex.st;dsimp only at this ⊢;omega) hl.er.le).go.sm.o
     have jZ:=adS (M:=σ1.M) (hl.va v1 List.mem_cons_self) EH;have a2:=adS (M:=σ1.M) (hl.va v2 (List.mem_cons_of_mem _ List.mem_cons_self)) EH;exact⟨jZ.2,a2.2,by omega,by omega⟩
   obtain k|k|k|k|k:d.2.kd=27\/d.2.kd=28\/d.2.kd=29\/d.2.kd=30\/d.2.kd=31:=Nw
   ·rw[ar9 h1 k];exact ahn aj.st aK aA k h0 h1 p aC key
   ·rw[asa h1 k];exact aho aj.st aK aA k h0 h1 p aC key
   ·rw[asb h1 k];exact akr aj.st aK aA k h0 h1 p aC key
   ·rw[asc h1 k];exact aks aj.st aK aA k h0 h1 p aC key
   ·rw[ase h1 k];exact akt aj.st aK aA k h0 h1 p aC key
  by_cases x5:d.2.kd=32
  ·rw[asf h1 x5];exact aku aj.st aK aA x5 h0 h1 p aC fun Y cB d9=>ayO ae cB d9 (hd.one1 Nw) p aC (bq.v ag (hd.VP Nw).1)
  by_cases x6:d.2.kd=33
  ·rw[ash h1 x6];exact adH aj.st aK aA x6 h0 h1 p aC fun Y cB d9=>amN ae cB d9 (hd.one1 Nw) p aC (bq.v ag (hd.VP Nw).1) aJ Nw
  by_cases o2:d.2.kd=34
  ·have cC:=(hd.VP Nw).1;rw[asi h1 o2];refine adI aj.st aK aA o2 h0 h1 p aC fun Y cB d9=>amM ae cB d9 (hd.one1 Nw) p aC (bq.v ag cC) (fun k=>cC.one1 Nw) (fun k=>bq.v ag (cC.VP Nw).1) aJ ?_ Nw;intro k o σ1 U;obtain⟨b0,d4,d1,_⟩:=Zj ak ag.q (d:=Nz (Nz d 0) 0) (cC.VP Nw).1;rw[U] at b0 d4 d1;exact b0.sz (by have:=d4.st;dsimp only at this ⊢;omega) d1.le
  by_cases ue:d.2.kd=35
  ·rw[asj h1 ue];exact ahp aj.st aK aA ue h0 h1 p aC fun Y cB d9=>zM ue Y a aC cB d9 ag
  by_cases qG:d.2.kd=36
  ·rw[asl h1 qG];refine adJ aj.st aK aA qG h0 h1 p aC fun Y cB d9=>amI ae cB d9 (hd.one1 Nw) p aC (bq.v ag (hd.VP Nw).1) (fun o σ1 U=>?_) (N:=400000000) Nw;obtain⟨b0,d4,d1,_⟩:=Zj ak ag.q (d:=Nz d 0) (hd.VP Nw).1;rw[U] at b0 d4 d1;exact b0.sz (by have:=d4.st;dsimp only at this ⊢;omega) d1.le
  by_cases uf:d.2.kd=37
  ·rw[asn h1 uf];refine adL aj.st aK aA uf h0 h1 p aC fun Y cB d9=>?_;obtain⟨aS,aB,az,aL,ac⟩:=cB;obtain⟨_,_,_,_,_,zy,_,_⟩:=(hd.lam uf).sh;refine(amw aj.b ac aJ d9 (by rw[zy];rfl) Nw p aC ag.q.po.some).mono ?_
   rintro e w' ⟨rfl,TW,Vd,Bj,As⟩;exact⟨rfl,⟨_,_,_,_,Bj⟩,As.ZO ac⟩
  by_cases ug:d.2.kd=38
  ·obtain⟨b0,d4⟩:=hd.obj ug;rw[aso h1 ug];refine adK aj.st aK aA ug h0 h1 p aC fun Y cB d9=>?_;have ax:=ag.q.iv.Oy (c:=0) Nw;refine akl ae cB aJ Nw d9 Nw (fun k E=>(b0 k E).2) p aC (fun bO=>QQ f (N - 9999+(bO.steps - σ.step.steps)) p bO/\σ.step.steps<=bO.steps) ⟨ag.nx (ax.up (by show _<=N - 9999+((σ.step.steps:Int) - σ.step.steps);omega)) (by have:=h.bd;show N - 9999+((σ.step.steps:Int) - σ.step.steps)<=99000000+10 * ((σ.steps+1:Nat):Int);omega),OH⟩ (fun k E bO m7=>⟨bq.v m7.1 (b0 k E).1,fun v σ1 U=>?_⟩)
   obtain⟨ap,eT⟩:=ak.v m7.1.q (b0 k E).1;rw[U] at ap eT
   dsimp only at eT
   have bK:=ap.iv.put ap.va σ.step.M.objs.length k.2.tx false;have h5:=m7.2;have D:=h.bd;have es:(σ1.Qo σ.step.M.objs.length k.2.tx v false).steps=σ1.steps:=rfl;have Hx:σ.step.steps=σ.steps+1:=rfl;refine⟨ap.sz m7.1.bd,⟨(m7.1.next ap).q.nx (bK.up ?_),?_⟩,by rw[es];omega⟩
   all_goals
    rw[es];omega
  rw[asq h1 Nw];exact afv aj.st aK aA Nw h0 h1 p aC
 ·rw[aiS h1];exact ahl aj.st aK aA h0 Nw p aC
theorem EPost.x {n:Nat}{xs:Array NP}{r:Er × St}(hl:NY w L l)(h:NK n xs w (EPost w0 mb af aa es w r)):NK n xs w (YD w0 mb af aa es L w ((r.1,l),r.2)):=by
 refine h.mono ?_;rintro e w' ⟨h1,O,ax⟩;exact⟨h1,O,ax.up,hl.keep ax⟩
theorem QQ.st1 (h:QQ f N p σ):σ.steps<=20000:=h.q.st
theorem ahz {t:Tr}(h:Fg t):t.kids.length=2:=by
 obtain⟨_,_,_,_,_,rfl,_,_⟩:=h.sh;rfl
theorem Z.cq (h:Z f N p σ o (.Wq v) l):Nx (N+2) σ ((σ.opn p.scope (-1) (own d)).dec σ.top d.2.tx 0 v)/\Q f (N+2) { p with scope:=σ.top } ((σ.opn p.scope (-1) (own d)).dec σ.top d.2.tx 0 v):=by
 have z:=kk (∀{G}(h:G:=by
 exact⟨hH.up Nw,by rw[hH.st];exact ag.fu,by rw[hH.st];exact ag.st,hH.iv.up Nw,kn⟩),G);exact aAp
theorem ani (ak:FI F f)(h:Z f N p σ o e l)(h0:Nk 1 (Nz d 0).2)(dm:OI (Nz d 0).2=false):TD F d p o e l σ=((o,e,l),σ)\/σ.steps<(TD F d p o e l σ).2.steps:=by
 unfold TD
 split
 ·unfold WC
  cases e with
  | Wq v=>
   obtain⟨h1,O⟩:=h.cq (d:=d);exact .inr (ak.s O h0 (fun e=>by rw[dm] at e;cases e) (h.la.up h1.ex)).2
  | _=>exact .inl rfl
 ·by_cases au:e=.stop
  ·subst au;exact .inl rfl
  ·right;have hw:=(ak.s (h.q au) h0 (fun e=>by rw[dm] at e;cases e) h.la).2
   have z:=kk (∀{G}(h:G:=by
   cases av with
   | no=>
    simp only
    split <;> exact hw
   | _=>exact hw),G);exact aAq
theorem au0 (aj:Cx w0 mb af aa es eb)(ak:FI F f)(bq:FC w0 mb af aa es F f)(h:QQ (f+1) N p σ)(hd:Nk 1 d.2)(xN:Lg σ l)(dz:∀ b,L=some b->mb<=b):V7 w0 mb af aa es σ d p L l (stF F f d p l σ):=by
 intro X a aK aA hl;have ae:=aj.st.Vs;have h0:=h.q.st
 by_cases h1:σ.steps<20000
 ·have ag:=h.step (show ¬ 20000<σ.steps+1 by omega);have aJ:=ag.sz;have dX:=ag.bd;have D:=h.bd;have eR:Lg σ.step l:=xN;have Hx:σ.step.steps=σ.steps+1:=rfl
  cases hd.sk with
  | decl E cJ eJ=>
   by_cases dB:d.2.kd=2
   ·rw[aAr h1 dB]
    by_cases ce:d.2.kids.length=0
    ·rw[if_pos ce];exact XQ aj.st aK aA dB h0 h1 p hl fun Y cB d9 ik=>EPost.x ik (adB cB d9 ce p (LA L))
    ·rw[if_neg ce];have aV:(Nz d 0) ∈ O3 d:=by
      exact aAs
     have ap:=(ak.v ag.q (eJ _ aV)).1;refine XQ aj.st aK aA dB h0 h1 p hl fun Y cB d9 ik=>EPost.x ik (abY ae cB d9 Nw p (LA L) (bq.v ag (eJ _ aV)) aj.b aj.st.et aJ (fun v1 σ1 U=>?_) Nw);rw[U] at ap;exact ap.sz ag.bd
   ·have key:∀ Y,Ms w0 mb af aa Y σ.step->Oa aa Y a d->NY Y L l->NK 109 #[Nu mb,Nu a.p,OQ p (LA L)] Y (YD w0 mb af aa es L Y (((aa0 d p (TV F (O3 d) p σ.step)).1,l),(aa0 d p (TV F (O3 d) p σ.step)).2)):=fun Y cB d9 ik=>by
     have ap:=ahA ak ag.q eJ;refine EPost.x ik (ap7 ae cB d9 cJ p (LA L) (fun fU E=>bq.v ag (eJ fU E)) (fun v1 σ1 U=>?_) (N:=400000000) Nw);rw[U] at ap;exact ap.sz ag.bd
    rcases E with k|k|k
    ·exact absurd k dB
    ·rw[aAt h1 k];exact ab1 aj.st aK aA k h0 h1 p hl key
    ·rw[aAu h1 k];exact ZW aj.st aK aA k h0 h1 p hl key
  | func E=>rw[aiT h1 Nw];exact XR aj.st aK aA Nw h0 h1 p hl
  | empty E=>rw[aiT h1 Nw];exact XR aj.st aK aA Nw h0 h1 p hl
  | blk E e2=>
   rw[aAv h1 E];obtain⟨dl,b2,em⟩:=ag.q.iv.block e2 ag.q.po;have eK:QQ f (N - 10000+5000) (O8 d p σ.step).1 (O8 d p σ.step).2:=⟨⟨by rw[dl.st];exact ag.q.fu,by rw[dl.st];exact ag.q.st,dl.iv,b2⟩,by rw[dl.st];omega⟩
   refine ZY aj.st aK aA E h0 h1 p hl (fun Y cB d9=>?_) (fun Y u cB A2 d9 ik=>?_) (p1:=(O8 d p σ.step).1) (σ1:=(O8 d p σ.step).2)
   ·obtain⟨aS,aB,az,aL,ac⟩:=cB;refine(aqA aj.b ac aJ d9 e2.ct Nw (fun k E=>(ahz (X7 e2 k E))) p (LA L) ag.q.po.some).mono ?_;rintro e w' ⟨rfl,TW,Vd,Bj,As⟩;exact⟨rfl,⟨_,_,_,_,Bj⟩,As.ZO ac⟩
   ·refine YE ae cB A2 d9 ?_ _ ik (fun bO jQ=>QQ f (N - 10000+5000) (O8 d p σ.step).1 bO/\Lg bO jQ/\∀ k ∈ O3 d,OI k.2=true->K4 bO.M (O8 d p σ.step).1.scope k.2.tx) ⟨eK,eR.up dl.ex,em⟩ (fun k E bO jQ hP=>?_)
    ·have:=e2.ct;have:=Qg d.2;rw[QI];omega
    ·obtain⟨b0,d4,d1⟩:=hP;have pp:=e2.ks _ (Py E);refine⟨bq.s b0 pp (d1 k E) d4 dz,fun o b8 σ1 U=>?_⟩;have hw:=(ak.s b0.q pp (d1 k E) d4).1;rw[U] at hw;exact⟨b0.nexts hw,hw.la,fun k E ay=>hw.ex.k4 _ _ (d1 k E ay)⟩
  | sif E cJ cC b0 bT d4=>
   rw[aAw h1 E];have ap:=(ak.v ag.q cC).1;refine adF aj.st aK aA E h0 h1 p hl fun Y cB d9 ik=>?_
   rcases cJ with k|k
   ·refine amT ae cB d9 k p ik (bq.v ag cC) fun v1 σ1 U=>?_;rw[U] at ap;exact bq.s (ag.next ap) b0 (fun e=>by rw[bT] at e;cases e) (eR.up ap.ex) dz
   ·obtain⟨d1,hx⟩:=d4 k;refine amV ae cB d9 k p ik (bq.v ag cC) fun v1 σ1 U=>?_;rw[U] at ap;exact⟨bq.s (ag.next ap) b0 (fun e=>by rw[bT] at e;cases e) (eR.up ap.ex) dz,bq.s (ag.next ap) d1 (fun e=>by rw[hx] at e;cases e) (eR.up ap.ex) dz⟩
  | loop E cJ cC b0 bT=>
   rcases E with E|E
   ·rw[aAx h1 E];refine ZV aj.st aK aA E h0 h1 p hl fun Y cB d9 ik=>?_;refine amY ae cB d9 cJ p ik f (fun k bO jQ=>QQ f (N - 10000) p bO/\20001<bO.steps+k/\Lg bO jQ) ⟨ag,ag.q.fu,eR⟩ (fun bO jQ hP=>by have:=hP.1.q.st;have:=hP.2.1;omega) (fun k bO jQ hP=>?_)
    obtain⟨bW,cK,h'⟩:=hP;obtain⟨ap,eT⟩:=ak.v bW.q cC;refine⟨bq.v bW cC,fun v σ1 U _=>?_⟩;rw[U] at ap eT;have m8:=bW.next ap;obtain⟨hw,de⟩:=ak.s m8.q b0 (fun e=>by rw[bT] at e;cases e) (h'.up ap.ex)
    refine⟨bq.s m8 b0 (fun e=>by rw[bT] at e;cases e) (h'.up ap.ex) dz,fun o b8 ck hr2=>?_⟩
    rw[hr2] at hw de;exact⟨m8.nexts hw,by dsimp only at eT de;omega,hw.la⟩
   ·rw[aAy h1 E];obtain⟨bW,cK,h',_⟩:=Zj ak ag.q (d:=Nz d 0) cC;refine aa4 aj.st aK aA E h0 h1 p hl fun Y cB d9 ik=>auw ae cB d9 cJ p ik (bq.v ag cC) (fun o σ1 U=>?_) (N:=400000000) Nw;rw[U] at bW cK h';have Jy:=cK.st
    dsimp only at Jy
    have dl:=bW.opn p.scope o (-2);have z:=kk (∀{G}(h:G:=by
    have eK:QQ f (N - 10000+1) { p with scope:=σ1.top } (σ1.opn p.scope o (-2)):=⟨⟨by have:=ag.q.fu;show 20001<σ1.steps+f;omega,by rw[dl.st];exact h',dl.iv,kn⟩,by rw[dl.st];dsimp only;omega⟩
    exact⟨bq.s eK b0 (fun e=>by rw[bT] at e;cases e) ((eR.up cK).up dl.ex) dz,bW.sz (by dsimp only;omega) h'.le,(ag.q.po.up cK).some⟩),G);exact aAz
  | give E cJ eJ=>
   rw[asr h1 E];exact Zi aj.st aK aA E h0 h1 p hl fun Y u cB d9 A2=>acG cB d9 cJ A2 p (LA L) (fun fU E=>bq.v ag (eJ fU E))
  | one E cJ cC=>
   rcases E with E|E
   ·rw[asu h1 E];exact ZX aj.st aK aA E h0 h1 p hl fun Y cB d9 ik=>EPost.x ik (adA ae cB d9 cJ p (LA L) (bq.v ag cC))
   ·rw[asv h1 E];refine aa5 aj.st aK aA E h0 h1 p hl fun Y cB d9 ik=>?_
    cases L with
    | none=>
     cases l with
     | none=>exact ZR ae cB d9 cJ p (bq.v ag cC)
     | some v=>exact ik.elim
    | some b=>
     cases l with
     | none=>exact ik.elim
     | some v=>exact ZT ae cB d9 cJ p ik (dz b rfl) (bq.v ag cC)
  | atm E cJ cC dm eJ=>
   rw[asw h1 E];have hw:=(ak.s ag.q cC (fun e=>by rw[dm] at e;cases e) eR).1
   obtain⟨m,aV⟩:∃ m,d.2.kids.length=m+1:=⟨d.2.kids.length - 1,by omega⟩;refine abZ aj.st aK aA E h0 h1 p hl fun Y cB d9 ik=>azt ae cB d9 aV Nw Nw p ik (bq.s ag cC (fun e=>by rw[dm] at e;cases e) eR dz) (fun o e l σ=>∃ N':Int,Z f N' p σ o e l/\N'+2<=99000000+10 * σ.steps) (fun o e b8 σ1 U=>?_) (fun k E o e l σ hP=>?_)
   ·rw[U] at hw;have bF:=hw.ex.st
    dsimp only at bF
    exact⟨N - 10000,⟨by have:=ag.q.fu;omega,hw.iv,ag.q.po.up hw.ex,hw.er,hw.va,hw.la⟩,by omega⟩
   ·obtain⟨N',iB,H2⟩:=hP;obtain⟨kkq,EM,pp,wF⟩:=eJ k E;refine⟨fun Y KD ev cB d9 ik br=>⟨fun _=>?_,fun _=>?_⟩,fun bG av b8 σ1 U=>?_⟩
    ·refine aqh aj.st aj.b cB d9 EM p o br ik (N:=400000000) Nw fun x ac=>?_;subst ac;obtain⟨c1,c2⟩:=iB.cq (d:=k);have c3:=(iB.q Oq).iv.opn p.scope (-1) (own k);have c4:=(iB.q Oq).st;refine⟨iB.iv.sz Nw Nw,iB.po.some,c3.iv.sz (by rw[c3.st];omega) (by rw[c3.st];omega),bq.s ⟨c2,by rw[c1.st];omega⟩ pp (fun e=>by rw[wF] at e;cases e) (iB.la.up c1.ex) dz⟩
    ·refine akm aj.st cB d9 EM p o br ik fun au=>?_;exact bq.s ⟨iB.q au,by omega⟩ pp (fun e=>by rw[wF] at e;cases e) iB.la dz
    ·have hg:=ani ak iB pp wF;have O:SO (N'+2) σ (TD F k p o e l σ):=by
      unfold TD
      split
      ·exact anj ak iB pp wF
      ·exact ank ak iB pp wF
     rw[U] at hg O
     rcases hg with hg|hg
     ·
      cases hg;exact⟨N',iB,H2⟩
     ·have bF:=O.ex.st
      dsimp only at bF hg
      exact⟨N'+2,⟨by have:=iB.fu;omega,O.iv,iB.po.up O.ex,O.er,O.va,O.la⟩,by omega⟩
 ·rw[aiU h1];exact aa2 aj.st aK aA h0 Nw p hl
variable {bO:St}{cE:Pl}{u:NP}{cW:List Ad}{a1:List Nd}{vs:List Va}
theorem adT (aj:Cx w0 mb af aa es eb)(ak:FI F f)(bq:FC w0 mb af aa es F f)(h:QQ f N p σ)(eJ:∀ k ∈ a1,Nk 1 k.2)(m6:∀ k ∈ a1,OI k.2=true->K4 σ.M p.scope k.2.tx)(xN:Lg σ l)(dz:∀ b,L=some b->mb<=b)(hlen:a1.length<=1000000)(aK:Ms w0 mb af aa w σ)(U:QT 0 w u cW)(fm:RV aa w cW a1)(hl:NY w L l) :
  NK 28 #[Nu mb,u,OQ p (LA L)] w (OY w0 mb af aa es L w (QC F p a1 l σ)):=by
 refine YE aj.st.Vs aK U fm hlen p hl (fun bO jQ=>QQ f N p bO/\Lg bO jQ/\∀ k ∈ a1,OI k.2=true->K4 bO.M p.scope k.2.tx) ⟨h,xN,m6⟩ (fun k E bO jQ hP=>?_);obtain⟨b0,d4,d1⟩:=hP;refine⟨bq.s b0 (eJ k E) (d1 k E) d4 dz,fun o b8 σ1 U=>?_⟩;have hw:=(ak.s b0.q (eJ k E) (d1 k E) d4).1;rw[U] at hw;exact⟨b0.nexts hw,hw.la,fun k E ay=>hw.ex.k4 _ _ (d1 k E ay)⟩
theorem ahB (h:Bk d.2):(O3 d).length<=1000000:=by
 have:=h.ct;have:=Qg d.2;rw[QI];omega
theorem aiV (h:Q f N p σ){fn:Fu}(hs:Fg fn.d.2)(hl:vs.length<=1500)(aw:∀ v ∈ vs,Gv σ.M.objs.length v)(ai:σ.calls≠40) :
  Nx (N+9000) { σ with calls:=σ.calls+1 } (QZ fn.d ⟨σ.top,σ.top,fn.strict⟩ vs (St.opn { σ with calls:=σ.calls+1 } fn.scope (-1) (own fn.d)))/\Bk (Nz fn.d 1).2 /\
  (∀ k ∈ O3 (Nz fn.d 1),OI k.2=true->K4 (QZ fn.d ⟨σ.top,σ.top,fn.strict⟩ vs (St.opn { σ with calls:=σ.calls+1 } fn.scope (-1) (own fn.d))).M σ.top k.2.tx) /\
  Q f (N+9000) ⟨σ.top,σ.top,fn.strict⟩ (QZ fn.d ⟨σ.top,σ.top,fn.strict⟩ vs (St.opn { σ with calls:=σ.calls+1 } fn.scope (-1) (own fn.d))):=by
 have h1:=h.call ai;have O:=h1.iv.opn fn.scope (-1) (own fn.d);have ha1:∀ v ∈ vs,Gv (St.opn { σ with calls:=σ.calls+1 } fn.scope (-1) (own fn.d)).M.objs.length v:=aw;have bT:=adU { σ with calls:=σ.calls+1 } fn.scope (own fn.d);have kn:Po ⟨σ.top,σ.top,fn.strict⟩ (St.opn { σ with calls:=σ.calls+1 } fn.scope (-1) (own fn.d)):=
  ⟨by show (0:Int)<=(σ.M.NQ.length:Int);omega,by show (σ.M.NQ.length:Int)<_;simp[St.opn,Mo.scope];omega⟩
 obtain⟨ax,hbk,E⟩:=O.iv.body (d:=fn.d) (p:=⟨σ.top,σ.top,fn.strict⟩) hs kn bT hl ha1;have ii:=(O.trans ax).up (N':=N+9000) Nw;exact⟨ii,hbk,E,by rw[ii.st];exact h.fu,by rw[ii.st];exact h.st,ii.iv,kn.up ax.ex⟩
theorem akB (aj:Cx w0 mb af aa es eb)(ak:FI F f)(bq:FC w0 mb af aa es F f)(h:QQ f N p σ)(hN:N+9000<=99000000+10 * σ.steps){fn:Fu}(hs:Fg fn.d.2)(iS:0<=fn.scope/\fn.scope<σ.M.NQ.length)(hl:vs.length<=1500)(aw:∀ v ∈ vs,Gv σ.M.objs.length v)(aK:Ms w0 mb af aa w σ)(U:Sv w u vs){c:Ad}(aA:Oa aa w c fn.d) :
  NK 301 #[Nu mb,.agg #[Nu c.p,Nr fn.scope,NI fn.strict],u] w (Oh w0 mb af aa es w (V6 F fn vs σ)):=by
 obtain⟨aS,aB,az,aL,ac⟩:=aK;have hbk:Bk (Nz fn.d 1).2/\(Nz fn.d 0).2.kids.length<=8:=by
  obtain⟨kd,s,n,Bz,b,m1,sH,D⟩:=hs.sh;have aH:(Nz fn.d 0).2=Bz:=by rw[VN,m1];rfl
  have av:(Nz fn.d 1).2=b:=by rw[VN,m1];rfl
  have aV:b ∈ fn.d.2.kids:=by rw[m1];exact List.mem_cons_of_mem _ List.mem_cons_self
  have mo:Nk 4 b:=⟨D,by have:=XF aV;have:=hs.ct;omega,(YG hs.nb).1 b aV⟩
  rw[aH,av];refine⟨mo.bk Nw,?_⟩
  cases sH with
  | ajB _ hl=>exact hl
 refine aqp aj.b aj.tb ac h.sz Nw h.q.iv.ca aA (ahz hs) hs.ct hbk.2 (fun k E=>ahz (X7 hbk.1 k E)) (Po.some (p:=⟨fn.scope,0,false⟩) iS) U hl (g:=fun σ=>QC F ⟨σ.top,σ.top,fn.strict⟩ (O3 (Nz fn.d 1)) none (QZ fn.d ⟨σ.top,σ.top,fn.strict⟩ vs (σ.opn fn.scope (-1) (own fn.d)))) (fun ai=>?_) (fun ai X fR bV oC oU qv=>?_)
 ·obtain⟨h1,_,ax,aU⟩:=aiV h.q hs hl aw ai;have bN:=Zk ak (O3 (Nz fn.d 1)) (l:=none) aU (fun d hd=>hbk.1.ks _ (Py hd)) ax (fun _ e=>by cases e);exact(h1.ex.trans bN.ex).ca
 ·obtain⟨h1,_,ax,aU⟩:=aiV h.q hs hl aw ai;exact adT aj ak bq ⟨aU,by rw[h1.st];exact hN⟩ (fun d hd=>hbk.1.ks _ (Py hd)) ax (fun _ e=>by cases e) (fun _ e=>by cases e) (ahB hbk.1) oC oU qv trivial (L:=none)
theorem anl {s:NR}{st:Bool}{t:Tr}(h:evT s st=some t):Bk t:=by
 unfold evT at h
 split at h
 ·rename_i t' U
  split at h
  ·rename_i E
   cases h;exact(WI U E).bk Nw
  ·
   cases h
 ·
  cases h
theorem au1 (h:Q f N p σ){t:Tr}(a':Bk t)(ag:evQ (none,t) p σ=some (cE,bO)):Nx (N+9000) σ (NW (none,t) cE bO).2/\Q f (N+9000) (NW (none,t) cE bO).1 (NW (none,t) cE bO).2/\∀ k ∈ O3 (none,t),OI k.2=true->K4 (NW (none,t) cE bO).2.M (NW (none,t) cE bO).1.scope k.2.tx:=by
 have h1:Nx (N+1) σ bO/\Po cE bO:=by
  unfold evQ at ag
  split at ag
  ·
   cases ag
  ·simp only[Option.some.injEq] at ag
   split at ag
   ·
    cases ag;exact⟨h.iv.opn _ _ _,by show (0:Int)<=(σ.M.NQ.length:Int);omega,by show (σ.M.NQ.length:Int)<_;simp[St.opn,Mo.scope];omega⟩
   ·
    cases ag;exact⟨(Nx.refl h.iv).up Nw,h.po⟩
 obtain⟨h1,oQ⟩:=h1;obtain⟨O,bK,E⟩:=h1.iv.asx (d:=(none,t)) a' oQ;have hH:=(h1.trans O).up (N':=N+9000) Nw;exact⟨hH,⟨by rw[hH.st];exact h.fu,by rw[hH.st];exact h.st,hH.iv,bK⟩,E⟩
theorem au2 (ak:FI F f)(h:Q f N p σ)(s:NR):VO (N+9000) σ (evB F s p σ):=by
 unfold evB
 split
 ·rename_i t a'
  exact acK ak h (anl a')
 ·exact .bad ((Nx.refl h.iv).up Nw) h.st smS
section
variable (aj:Cx w0 mb af aa es eb) (ak:FI F f) (bq:FC w0 mb af aa es F f) (h:QQ f N p σ) (hN:N+9000<=99000000+10 * σ.steps)
include aj ak bq h hN
theorem anm (aK:Ms w0 mb af aa w σ)(U:Sv w u vs){c:Ad}(aA:Oa aa w c d)(aC:Option Addr) :
  NK 300 #[Nu mb,Nu c.p,OQ p aC,u] w (Oh w0 mb af aa es w (Xc F d.2 p vs σ)):=by
 obtain⟨aS,aB,az,aL,ac⟩:=aK
 cases vs with
 | nil=>exact akA ac p aC U
 | cons v vs=>
  rw[ang]
  by_cases E:v.k≠4
  ·rw[if_pos E];exact ahx ac p aC U E
  rw[if_neg E];have E:v.k=4:=Nw
  have key:∀ q:Pl,Po q σ->(σ.calls≠40->(evB F v.s q { σ with calls:=σ.calls+1 }).2.calls=σ.calls+1)/\(σ.calls≠40->∀ t,evT v.s q.strict=some t->∀ (a:Ad) cE bO,evQ (none,t) q { σ with calls:=σ.calls+1 }=some (cE,bO)->∀ X u (lb:Nat),mb<=lb->Ms w0 mb af aa X (NW (none,t) cE bO).2->QT 0 X u a.ks->RV aa X a.ks (O3 (none,t))->NY X (some lb) (some vU)->NK 28 #[Nu mb,u,OQ (NW (none,t) cE bO).1 (LA (some lb))] X (OY w0 mb af aa es (some lb) X (QC F (NW (none,t) cE bO).1 (O3 (none,t)) (some vU) (NW (none,t) cE bO).2))):=fun q ag=>by
   have m8:σ.calls≠40->Q f N q { σ with calls:=σ.calls+1 }:=fun ai=>⟨h.q.fu,h.q.st,(h.q.call ai).iv,ag⟩;refine⟨fun ai=>(au2 ak (m8 ai) v.s).ex.ca,fun ai t a' a cE bO au X u lb jt oC oU qv IE=>?_⟩;have D:=anl a';obtain⟨h1,O,ax⟩:=au1 (m8 ai) D au;exact adT aj ak bq ⟨O,by rw[h1.st];exact hN⟩ (fun d hd=>D.ks _ (Py hd)) ax (fun _ e=>by cases e;exact Um _) (fun b e=>by cases e;exact jt) (ahB (d:=(none,t)) D) oC oU qv IE
  have oQ:Po ⟨1,0,false⟩ σ:=⟨by show (0:Int)<=1;omega,by show (1:Int)<_;have:=h.q.iv.lr;omega⟩
  by_cases nY:d.2.kd=23
  ·by_cases x7:d.2.tx=TK
   ·have av:evP d.2 p=p:=if_neg (by simp[nY,x7]);rw[av];exact afJ aj.st.Vs aj.b aj.gl ac h.sz Nw h.q.iv.ca aA nY x7 p aC h.q.po h.q.iv.lr U E (key p h.q.po).1 (key p h.q.po).2
   ·have av:evP d.2 p=⟨1,0,false⟩:=if_pos (.inr x7);rw[av];exact aqz aj.st.Vs aj.b aj.gl ac h.sz Nw h.q.iv.ca aA nY x7 p aC h.q.po h.q.iv.lr U E (key _ oQ).1 (key _ oQ).2
  ·have av:evP d.2 p=⟨1,0,false⟩:=if_pos (.inl nY);rw[av];exact aqy aj.st.Vs aj.b aj.gl ac h.sz Nw h.q.iv.ca aA nY p aC h.q.po h.q.iv.lr U E (key _ oQ).1 (key _ oQ).2
theorem ano (hd:Nk 0 d.2)(E:d.2.kd=35)(aK:Ms w0 mb af aa w σ){a:Ad}(aA:Oa aa w a d)(aC:Option Addr) :
  NK 263 #[Nu mb,Nu a.p,OQ p aC] w (Oh w0 mb af aa es w (Yy F d p σ)):=by
 obtain⟨eJ,cJ⟩:=hd.asy E;have AG:∀ x ∈ O3 d,Nk 0 x.2:=fun x ac=>eJ _ (Py ac);have h1:=abd ak (O3 d) [] h.q AG (fun _ h=>by cases h);have key:∀ aL args σ1,TU F p (O3 d) [] σ=((aL::args,.no),σ1)->QQ f N p σ1/\N+9000<=99000000+10 * σ1.steps/\Gv σ1.M.objs.length aL/\(∀ v ∈ args,Gv σ1.M.objs.length v)/\args.length<=9:=fun aL args σ1 U=>by
  rw[U] at h1;have bF:=h1.ex.st;have kj:=h1.ln;have:=QI d;have:=h.bd
  dsimp only at bF kj
  refine⟨⟨⟨by have:=h.q.fu;omega,h1.er,h1.iv,h.q.po.up h1.ex⟩,by omega⟩,by omega,h1.va aL List.mem_cons_self,fun v ap=>h1.va v (List.mem_cons_of_mem _ ap),?_⟩
  simp at kj;omega
 refine auY aj.st.Vs aK aA ?_ cJ p aC (fun X u oC oU qv=>?_) (fun aL args σ1 U pD ai X u oC oU=>?_) (fun aL args σ1 U pD ai X u c oC oU qv=>?_) (fun aL args σ1 U pD c0 c1 c2=>?_)
 ·have we:=hd.sh
  cases m1:d.2 with
  | mk kd s n ks=>
   rw[m1] at we E
   cases we with
   | call _ _ _=>simp[Tr.kids]
   | lit h1=>simp only[Tr.kd] at E;omega
   | one h1=>simp only[Tr.kd] at E;omega
   | two h1=>simp only[Tr.kd] at E;omega
   | _=>cases E
 ·refine afm aj.st.Vs oC oU qv (by rw[QI];omega) p aC (fun bO=>QQ f N p bO) h (fun ox sB bO m7=>⟨bq.v m7 (AG ox sB),fun v σ1 U=>?_⟩)
  have ap:=(ak.v m7.q (AG ox sB)).1;rw[U] at ap;exact m7.next ap
 ·obtain⟨b0,d4,d1,mQ,xn⟩:=key _ _ _ U;have aJ:=b0.sz;refine aqo aj.b aj.tb oC oU Nw (fun v ap=>?_) (by have:=aJ.lg;omega)
  have:=adS (M:=σ1.M) (mQ v ap) aJ.go.sm.o;exact⟨⟨by omega,by omega⟩,this.1⟩
 ·obtain⟨b0,d4,d1,mQ,xn⟩:=key _ _ _ U;exact anm aj ak bq b0 d4 oC oU qv aC
 ·obtain⟨b0,d4,d1,mQ,xn⟩:=key _ _ _ U;have aJ:=b0.sz;have pB:0<=σ1.M.codeOf aL.n/\σ1.M.codeOf aL.n<3+σ1.Qn.length:=by
   unfold Mo.codeOf
   rcases Qm σ1.M aL.n with ⟨aH,_⟩|⟨i,x,_,av,bC⟩
   ·rw[aH];exact⟨by decide,by show (0:Int)<_;omega⟩
   ·rw[bC];exact b0.q.iv.gm.co x (List.mem_of_getElem? av)
  have fG:=aJ.fn;obtain⟨fn,hs⟩:∃ fn,σ1.Qn[(σ1.M.codeOf aL.n - 3).toNat]? = some fn:=⟨_,List.getElem?_eq_getElem Nw⟩;have Di:=b0.q.iv.fn fn (List.mem_of_getElem? hs);exact⟨fn,by omega,by omega,hs,fun X u c oC oU qv=>akB aj ak bq b0 d4 Di.1 Di.2 Nw mQ oC oU qv⟩
end
theorem adV (aj:Cx w0 mb af aa es eb):∀ f,FC w0 mb af aa es (fx f) f
 | 0=>⟨fun h _=>by have:=h.q.fu;have:=h.q.st;omega,fun h _ _ _ _=>by have:=h.q.fu;have:=h.q.st;omega⟩
 | f+1=>⟨fun h hd=>auZ aj (abe f) (adV aj f) h hd (fun E _ _ aC cB d9 ag=>ano aj (abe f) (adV aj f) ag (by have:=h.bd;have:=ag.q.fu;show _ - 10000+9000<=99000000+10 * ((_+1:Nat):Int);omega) hd E cB d9 aC),fun h hd _ hl dz=>au0 aj (abe f) (adV aj f) h hd hl dz⟩
theorem au3 {a:Ad}{d:Nd}(hd:Oa aa w a d)(E:d.2.kd=1) :
  NK 29 #[Nu a.p] w fun e w'=>w'=w/\∃ u,e=NU u/\QT 0 w u a.ks:=by
 obtain⟨cT,dO,c3,U⟩:=hd.ar;obtain⟨pH,c0,_⟩:=hd.cells;rw[E] at c0;obtain⟨q,ag⟩:=xE a.p;rw[<-ag] at c3 c0 pH ⊢;obtain⟨n,aA⟩:=xE d.2.kids.length;rw[<-aA] at c3 U;clear ag aA;go_enter func29,ntmps29;go_wp2_with fail;exact bodyPost_ret (v:=.slice cT n dO) (by simp[results,results29,go_sem]) rfl ⟨rfl,_,rfl,U⟩
end
section
variable {w0:Ny} {mb af:Nat} {aa:List Nat} {es aS aB az aL:NP} {w w':Ny} {σ:St} {N:Nat}
theorem anp (ac:Mx w0 mb af aa aS aB az aL w σ)(aJ:Sz N σ)(hN:N+1<1000000000)(nm:NR)(c:Int) :
  NK 52 #[Nu mb,ND nm,Nr c] w fun e w'=>e=NU (.tuple #[])/\Mx w0 mb af aa aS aB az aL w' (({ σ with M:=σ.M.Oy c }:St).Qo 0 nm (Rz σ.M.objs.length) false)/\OB Th mb w w':=by
 have bI:=ac.lt;have hd:=(Below.refl w.heap.size w).drew;have g3:=ac.later hd;have cX:w.drew.cell? (Nv mb 11)=some (Nr 0):=(g3.hh.at_ 9 _ rfl).1;have pC:OB Th mb w w.drew:=OB.of hd (Oi bI);have b6:Sz (N+1) ({ σ with M:=σ.M.Oy c }:St):=aJ.heap (Nat.le_succ _) (aJ.go.Oy c) rfl;have dE:=(Zc g3 aJ Nw c)
 have pg:Hid (∀ X,Mx w0 mb af aa aS aB az aL X { σ with M:=σ.M.Oy c }->NK 56 #[Nu mb,Nr 0,ND nm,vA (Rz σ.M.objs.length),NI false] X fun e w'=>e=NU (RY (({ σ with M:=σ.M.Oy c }:St).M.put 0 nm (Rz σ.M.objs.length) false).1)/\Mx w0 mb af aa aS aB az aL w' (({ σ with M:=σ.M.Oy c }:St).Qo 0 nm (Rz σ.M.objs.length) false)/\OB Th mb X w'):=fun X h=>XP h b6 hN 0 nm (Rz σ.M.objs.length) false
 generalize RY (({ σ with M:=σ.M.Oy c }:St).M.put 0 nm (Rz σ.M.objs.length) false).1=ev at pg
 generalize (({ σ with M:=σ.M.Oy c }:St).Qo 0 nm (Rz σ.M.objs.length) false)=ck at pg ⊢
 generalize ({ σ with M:=σ.M.Oy c }:St)=σ1 at dE pg
 obtain⟨o,aM⟩:=xE (σ.M.objs.length:Int);rw[<-aM] at dE pg;clear hN aM;go_enter func52,ntmps52;have ab:NJ w w.drew:=P8.drew;refine PO 14 (fun X=>X.cell? (Nv mb 11)=some (Nr 0)) OJ ?_;refine up 0 mb 0 cX ?_;refine up 1 mb 0 cX ?_;refine up 2 mb 0 cX ?_;refine up 3 mb 0 cX ?_;refine up 4 mb 0 cX ?_;refine up 5 mb 11 cX ?_;refine uc 6 (Nr 0) rfl (Or.inl ⟨by kernel_rfl,fun X aj=>by have h0:=aj;go_simp⟩) (cX) ?_
 refine uh 7 (ND nm) (cX) ?_;refine up 8 mb 0 cX ?_;refine up 9 mb 0 cX ?_;refine up 10 mb 0 cX ?_;refine uh 11 (Nr c) (cX) ?_;refine O0 12 fun K A=>?_;go_simp;refine cm dE ?_;rintro e b3 ⟨rfl,j5,bb⟩;have qj:b3.cell? (Nv mb 11)=some (Nr 0):=(j5.hh.at_ 9 _ rfl).1;refine A.out _ _ (fun _=>qj) ?_;clear A K;have mK:=(pC.trans bb);refine O0 13 fun K A=>?_;go_simp;refine cm (Yz o b3) ?_;rintro e k1 ⟨rfl,nG⟩;have pL:=j5.later nG;have DB:k1.cell? (Nv mb 11)=some (Nr 0):=(pL.hh.at_ 9 _ rfl).1
 refine A.out _ _ (fun _=>DB) ?_;clear A K;have rR:=(mK.trans (OB.of nG (Oi j5.lt)));refine O0 14 fun K A=>?_;go_simp;refine cm (Ns pg _ pL) ?_;rintro e Kr ⟨rfl,Bl,DQ⟩;refine ko A ?_;clear A K;have FB:=(rR.trans DQ);clear cX qj DB;refine QX ?_ _;go_simp;go_wp2_with fail
 go_end0
 exact⟨rfl,Bl,FB⟩
variable {eb:Addr}
def aAA (w0:Ny)(mb af:Nat)(aa:List Nat)(aS aB az aL:NP)(w:Ny)(σ:St)(c:Int)(e:Ending)(w':Ny):Prop:=
 e=NU (.tuple #[])/\∃ X,Mx w0 mb af aa aS aB az aL X σ/\NJ w X/\w'=X.setCell (Nv mb 3) (Nr c)
theorem au4 (ac:Mx w0 mb af aa aS aB az aL w σ):NK 31 #[Nu mb,Pe] w (aAA w0 mb af aa aS aB az aL w σ 1):=by
 have z:=kk (∀{G}(h:G:=by
 obtain⟨tb,ll⟩:=xE w.heap.size;have ej:=(ac.later aE);have kC:=(alk tb w2 123);go_enter func31,ntmps31;go_wp2_with fail;rw[<-bu.out,<-ll];clear ll;refine cm kC ?_;rintro e wz ⟨rfl,rfl⟩;have bI:=ej.lt;obtain⟨c3,fO⟩:=ej.hh.at_ 1 _ rfl;go_wp2_with fail
 go_end0
 exact⟨rfl,_,ej,aE,rfl⟩),G);exact au5
theorem anq (bF:Stp w0 mb es eb)(ac:Mx w0 mb af aa aS aB az aL w σ):NK 31 #[Nu mb,es] w (aAA w0 mb af aa aS aB az aL w σ 3):=by
 have z:=kk (∀{G}(h:G:=by
 obtain⟨tb,ll⟩:=xE w.heap.size;have eS:w2.heap[tb]? = some (Og #[Qb] 122):=by rw[bu.out,ll];exact NG _ _
 have eM:=ac.later aE;obtain⟨t0,tf,o9⟩:=aa1 eS;have kR:=bF.ety ⟨_,_,_,_,eM⟩;have kC:=(aeB eb tb w2 t0 (tf 0) o9 kR);rw[bF.is];clear eS t0 tf o9 kR;go_enter func31,ntmps31;go_wp2_with fail;rw[<-bu.out,<-ll];clear ll;refine cm kC ?_;rintro e wz ⟨rfl,iC⟩;have op:=(eM.later iC);have yw:=(aE.trans (iC.mono (by have:=aE.size;omega)))
 have bI:=op.lt;obtain⟨c3,fO⟩:=op.hh.at_ 1 _ rfl;go_wp2_with fail
 go_end0
 exact⟨rfl,_,op,yw,rfl⟩),G);exact au5
theorem aqB (aZ:Bs w0 mb af aa es)(a':X5 w0)(bF:Stp w0 mb es eb)(ac:Mx w0 mb af aa aS aB az aL w σ){v:Va}{lv:Nat}(EC:w.heap[lv]? = some (Og #[Nr v.k,Nr v.n,ND v.s] 126))(aA:-9223372036854775808<=v.n/\v.n<=9223372036854775807) :
  NK 31 #[Nu mb,.iface 122 (NM lv 0)] w fun e w'=>e=NU (.tuple #[])/\∃ X,Mx w0 mb af aa aS aB az aL X σ/\NJ w X/\w'=(X.setCell (Nv mb 3) (Nr 2)).setCell (Nv mb 4) (ND (σ.M.shw v)):=by
 have z:=kk (∀{G}(h:G:=by
 obtain⟨tb,tk⟩:=xH w.heap.size;have eS:w2.heap[tb]? = some (Og #[Qb] 122):=by rw[bu.out,tk.out];exact NG _ _
 have eM:=ac.later aE;have uZ:=hide EC;obtain⟨t0,tf,o9⟩:=aa1 eS;have kR:=bF.ety ⟨_,_,_,_,eM⟩;have kC:=(aio lv tb w2 eS t0 (tf 0) o9 kR);have Cz:Hid (∀ X,Mx w0 mb af aa aS aB az aL X σ->NK 61 #[Nu mb,vA v] X fun e w'=>e=NU (ND (σ.M.shw v))/\NJ X w'):=fun X h=>adz aZ a' ⟨_,_,_,_,h⟩ v aA;obtain⟨sh,we⟩:=xE (σ.M.shw v);rw[<-we] at Cz ⊢;clear eS t0 tf o9 kR a' aA EC we;obtain⟨ew,dC,eE⟩:=v;go_enter func31,ntmps31;go_wp2_with fail;rw[<-bu.out,<-tk.out];refine cm kC ?_;rintro e wz ⟨rfl,wm,iC⟩
 have pt:NJ w wz:=aE.trans (iC.mono (Nat.le_of_eq tk.out.symm));have op:=(ac.later pt);have GU:=hide (cells3 (stays pt uZ.out));have p9:=hide (aa1 wm);have bI:=op.lt;clear wm;go_wp2_with fail;refine Rj 13 fun ab=>?_;have z:=kk (∀{G}(h:G:=by
 refine up 3 mb 0 ab ?_;refine up 4 mb 0 ab ?_;refine uk 5 (p9.out.1) ab ?_;refine up 6 lv 0 ab ?_;refine up 7 lv 0 ab ?_;refine uk3 8 GU.out ab ?_;refine O0 9 fun K A=>?_;go_simp;refine cm (Ns Cz _ (op.later ab)) ?_;rintro e b3 ⟨rfl,ed⟩;have qj:NJ wz b3:=ab.trans (ed.mono ab.size);refine A.out _ _ (fun _=>qj) ?_;clear A K;have l8:=(op.later qj);have AN:=l8.lt;have yr:=(pt.trans (qj.mono pt.size));obtain⟨c3,fO⟩:=l8.hh.at_ 1 _ rfl;obtain⟨c4,Hz⟩:=l8.hh.at_ 2 _ rfl;refine up 10 mb 0 qj ?_;refine up 11 mb 2 qj ?_
 refine up 12 mb 3 qj ?_;refine O0 13 fun K A=>?_;go_simp;refine ko A ?_;clear A K;refine uz 14 (NM mb 0) ?_;refine uz 15 (NM mb 2) ?_;refine uz 16 (NM mb 4) ?_;refine O0 17 fun K A=>?_;go_simp;refine ko A ?_;clear A K;refine QX ?_ _;go_simp;clear c3 c4 fO Hz;go_wp2_with fail
 go_end0
 exact⟨rfl,_,l8,yr,rfl⟩),G);exact RU),G);exact au5
abbrev mRt (t:Int)(σ:St)(aS aB az aL:NP)(af:Nat):List NP:=(mR σ aS aB az aL af).set 11 (Nr t)
structure My (t:Int)(w0:Ny)(mb af:Nat)(aa:List Nat)(aS aB az aL:NP)(w:Ny)(σ:St):Prop where
 bw:Below mb w0 w
 hh:OO mb (mRt t σ aS aB az aL af) w σ.M
 lg:w.ownsRow mb 9 1 aS σ.log.length (σ.log.map Value.string)
 se:w.ownsRow mb 54 2 aB σ.seen.length (σ.seen.flatMap sn2)
 ow:w.ownsRow mb 3 1 az σ.PS.length (σ.PS.map (Value.int .i64))
 fu:∃ d0:List Ad,d0.length=σ.Qn.length/\w.ownsRow mb 211 3 aL σ.Qn.length ((d0.zip σ.Qn).flatMap fn3)/\∀ (i:Nat) a f,d0[i]? = some a->σ.Qn[i]? = some f->Oa aa w a f.d
variable {t:Int}
section
variable (h:My t w0 mb af aa aS aB az aL w σ)
include h
theorem My.lt:mb<w.heap.size:=h.hh.lt
theorem My.later (D:NJ w w'):My t w0 mb af aa aS aB az aL w' σ:=by
 exact azA
theorem My.heap {M:Mo}(hh:OO mb (mRt t σ aS aB az aL af) w' M)(aG:OB Th mb w w'):My t w0 mb af aa aS aB az aL w' { σ with M:=M }:=by
 exact azB
end
theorem aqC (aZ:Bs w0 mb af aa es)(ac:My t w0 mb af aa aS aB az aL w σ){a:Ad}{d:Nd}(hd:Oa aa w a d) :
  NK 51 #[Nu mb,Nu a.p] w fun e w'=>e=NU (Nr (own d))/\w'=w:=by
 have hl:=adR aZ ac.bw hd;obtain⟨xk,zF⟩:=ac.hh.at_ 5 _ rfl;have bI:=ac.lt;obtain⟨p,al⟩:=xE a.p;rw[<-al] at hl ⊢;obtain⟨no,tr⟩:=d;clear al
 cases no with
 | none=>
  have av:own (none,tr) = -3:=rfl;exact aAb
 | some k=>
  have av:own (some k,tr)=(k:Int):=rfl;exact aAc
theorem My.aiD (h:My t w0 mb af aa aS aB az aL w σ)(x:Int){ao:Ny}{TW:NP}(hg:w.grownBy ao az.ownBlock)(aM:ao.ownsRow mb 3 1 TW (σ.PS.length+1) (σ.PS.map (Value.int .i64)++[Nr x]))
  (ag:∀ q,TW.ownBlock=some q->az.ownBlock=some q\/w.heap.size<=q) :
  My t w0 mb af aa aS aB TW aL (ao.setCell (Nv mb 8) TW) { σ with PS:=σ.PS++[x] }/\P9 mb az aL TW aL w (ao.setCell (Nv mb 8) TW):=by
 exact aAd
theorem anr (ac:My t w0 mb af aa aS aB az aL w σ)(u o x:Int)(hl:σ.PS.length<=1000000000)
  (iS:∀ X R,OO mb R X σ.M->NK 105 #[Nu mb,Nr u,Nr o] X fun e w'=>e=NU (Nr (σ.M.NQ.length:Int))/\OO mb R w' (σ.M.scope u o)/\OB Th mb X w') :
  NK 50 #[Nu mb,Nr u,Nr o,Nr x] w fun e w'=>e=NU (Nr σ.top)/\∃ TW,My t w0 mb af aa aS aB TW aL w' (σ.opn u o x)/\P9 mb az aL TW aL w w':=by
 have z:=kk (∀{G}(h:G:=by
 show NK 50 #[Nu mb,Nr u,Nr o,Nr x] w fun e w'=>e=NU (Nr (σ.M.NQ.length:Int))/\∃ TW,My t w0 mb af aa aS aB TW aL w' (σ.opn u o x)/\P9 mb (.slice aC n iK) aL TW aL w w'
 exact aAe),G);exact aAf
theorem My.made (h:My t w0 mb af aa aS aB az aL w σ):Mx w0 mb af aa aS aB az aL (w.setCell (Nv mb 13) (Nr 1)) σ/\OB [84] mb w (w.setCell (Nv mb 13) (Nr 1)):=by
 obtain⟨h1,f⟩:=h.hh.cell 11 (Nr 1);obtain⟨d0,bV,dB,ir⟩:=h.fu;exact⟨⟨h.bw.trans f.below,h1,N7 h.lg f NH,N7 h.se f NH,N7 h.ow f NH,d0,bV,N7 dB f NH,fun i a g aw hg=>(ir i a g aw hg).kp (fun b c e D au=>f.rest b c e D (by rcases au with rfl|rfl <;> decide))⟩,f⟩
def bare:St:=⟨⟨[],[]⟩,[],0,[],[],[],0⟩
theorem anu (hw:Below mb w0 w)(D:w.heap[mb]? = some (Og #[PG,PG,PG,Nr 0,OG,Nr 0,PG,.map (some af),PG,PG,Nr 0,Nr 0,Nr 0,Nr 0] 84)) :
  My 0 w0 mb af aa PG PG PG PG w bare:=
 ⟨hw,⟨_,_,_,_,D,Tb.nil NH,Tb.nil NH⟩,World.ownsRow_nil _ _ _ _,World.ownsRow_nil _ _ _ _,World.ownsRow_nil _ _ _ _,[],rfl,World.ownsRow_nil _ _ _ _,fun i a f h=>by simp at h⟩
theorem My.zero (h:My t w0 mb af aa aS aB az aL w σ):My t w0 mb af aa aS aB az aL (w.setCell (Nv mb 11) (Nr 0)) σ/\My t w0 mb af aa aS aB az aL (w.setCell (Nv mb 12) (Nr 0)) σ:=by
 obtain⟨d0,bV,dB,ir⟩:=h.fu;obtain⟨h1,f⟩:=h.hh.cell 9 (Nr 0);obtain⟨O,g⟩:=h.hh.cell 10 (Nr 0);exact⟨⟨h.bw.trans f.below,h1,N7 h.lg f NH,N7 h.se f NH,N7 h.ow f NH,d0,bV,N7 dB f NH,fun i a q aw ag=>(ir i a q aw ag).kp (fun b c e D au=>f.rest b c e D (by rcases au with rfl|rfl <;> decide))⟩,
  ⟨h.bw.trans g.below,O,N7 h.lg g NH,N7 h.se g NH,N7 h.ow g NH,d0,bV,N7 dB g NH,fun i a q aw ag=>(ir i a q aw ag).kp (fun b c e D au=>g.rest b c e D (by rcases au with rfl|rfl <;> decide))⟩⟩
theorem start_eq:Qr=let σ1:St:={ bare with M:=bare.M.Oy 0 }
  let ck:=σ1.opn (-1) 0 (-1)
  let qL:=ck.opn 0 (-1) 0
  let BM:=({ qL with M:=qL.M.Oy 1 }:St).Qo 0 Tv (Rz qL.M.objs.length) false
  ({ BM with M:=BM.M.Oy 2 }:St).Qo 0 TK (Rz BM.M.objs.length) false:=by rfl
mutual
theorem QD.cls {I:Nat->Prop}{w:Ny}:∀ a:Ad,QD I w a->∀ q ∈ a.TG,Cl w q
 | .mk p kd tx n ks,h,q,ag=>by
  rw[QD] at h;obtain⟨_,_,⟨v,D,_⟩,E⟩:=h;rw[Ad.TG] at ag
  rcases List.mem_cons.1 ag with rfl|ag
  ·exact⟨_,_,D⟩
  ·exact Qd.cls ks E q ag
theorem Qd.cls {I:Nat->Prop}{w:Ny}:∀ es:List Ad,Qd I w es->∀ q ∈ Ad.Rl es,Cl w q
 | [],_,q,ag=>by rw[Ad.Rl] at ag;cases ag
 | a::es,h,q,ag=>by
  rw[Qd] at h;rw[Ad.Rl] at ag
  rcases List.mem_append.1 ag with ag|ag
  ·exact QD.cls a h.1 q ag
  ·exact Qd.cls es h.2 q ag
end
variable {a:Ad}
theorem aiW (h:QD (fun _=>True) w a):Oa a.TG w a (some 0,a.tr):=⟨h,rfl,[],[],by simp,rfl⟩
theorem au7 (h:QD (fun _=>True) w a)(hd:a.TG.Nodup)(au:w.cell? (Nv 1 0)=some es)(D:NJ w w')(aV:w'.heap[af]? = some (.map (VK (Ve a.TG)) a.TG.length)):Bs w' w'.heap.size af a.TG es/\Oa a.TG w' a (some 0,a.tr):=
 ⟨⟨rfl,aV,fun q ag=>by
  obtain⟨cs,t,ai⟩:=QD.cls a h q ag;exact⟨cs,t,stays D ai⟩,hd,Oj D au⟩,(aiW h).kp (Kp.of D)⟩
def st1:St:={ bare with M:=bare.M.Oy 0 }
def st2:St:=st1.opn (-1) 0 (-1)
def st3:St:=st2.opn 0 (-1) 0
def st4:St:=({ st3 with M:=st3.M.Oy 1 }:St).Qo 0 Tv (Rz st3.M.objs.length) false
theorem Kp.of' {w0 w:Ny}{mb af:Nat}{aa:List Nat}{es:NP}(aZ:Bs w0 mb af aa es)(h:Below mb w0 w):Kp w0 w:=Kp.of (h.mono (Nat.le_of_eq aZ.sz))
theorem abf:bare.M.Small 9/\st1.M.Small 9/\st2.M.Small 9:=by
 refine⟨⟨by decide,by decide,by decide,by decide⟩,⟨by decide,by decide,by decide,by decide⟩,⟨by decide,by decide,by decide,by decide⟩⟩
theorem adW (h:QD (fun _=>True) w a)(hd:a.TG.Nodup)(ai:a.cnt<=90000)(au:w.cell? (Nv 1 0)=some es)
  (c7:∀ w1 mb af aS aB az aL X,Mx w1 mb af a.TG aS aB az aL X st3->NK 52 #[Nu mb,ND Tv,Nr 1] X fun e w'=>e=NU (.tuple #[])/\Mx w1 mb af a.TG aS aB az aL w' st4/\OB Th mb X w')
  (m4:∀ w1 mb af aS aB az aL X,Mx w1 mb af a.TG aS aB az aL X st4->NK 52 #[Nu mb,ND TK,Nr 2] X fun e w'=>e=NU (.tuple #[])/\Mx w1 mb af a.TG aS aB az aL w' Qr/\OB Th mb X w') :
  NK 27 #[Nu a.p] w fun e w'=>∃ w1 mb af az,e=NU (Nu mb)/\NJ w w1/\Bs w1 mb af a.TG es/\Mx w1 mb af a.TG PG PG az PG w' Qr:=by
 have dE:=(ahD a w h hd ai);have yv:Hid (∀ w' af,NJ w w'->w'.heap[af]? = some (.map (VK (Ve a.TG)) a.TG.length)->Bs w' w'.heap.size af a.TG es/\Oa a.TG w' a (some 0,a.tr)):=fun _ _ D aV=>au7 h hd au D aV;have nn:=hide c7;have yO:=hide m4;obtain⟨q,bo⟩:=xH a.p;rw[<-bo.out] at dE ⊢;clear h hd ai au c7 m4;go_enter func27,ntmps27;go_wp2_with fail;refine cm dE ?_;rintro e w1 ⟨⟨af,rfl,_,aV⟩,D⟩;obtain⟨aZ,aA⟩:=Ns yv w1 af D aV
 obtain⟨w2,bu⟩:=xH (w1.alloc (.cells #[PG,PG,PG,Nr 0,OG,Nr 0,PG,.map (some af),PG,PG,Nr 0,Nr 0,Nr 0,Nr 0] 84));obtain⟨mb,rm⟩:=xE w1.heap.size;rw[<-rm] at aZ;have EE:My 0 w1 mb af a.TG PG PG PG PG w2 bare:=anu (by rw[bu.out,rm];exact OM) (by rw[bu.out,rm];exact NG _ _)
 have dr:NK 49 #[Nu mb,Nr 0] w2 fun e w'=>e=NU (Nr 0)/\My 0 w1 mb af a.TG PG PG PG PG w' st1/\OB Th mb w2 w':=(Yx EE.hh abf.1 NH 0).mono (by
  rintro e w' ⟨rfl,h1,O⟩;exact⟨rfl,EE.heap h1 O,O⟩)
 clear aV;go_wp2_with fail;rw[<-bu.out,<-rm];clear rm;refine cm dr ?_;rintro e ao ⟨rfl,Bm,cQ⟩;have gh:=Bm.lt;obtain⟨C',Hy⟩:=Bm.hh.at_ 9 _ rfl;obtain⟨bB,lH⟩:=xH (ao.setCell (Nv mb 11) (Nr 0));have xY:=Bm.zero.1;rw[<-lH.out] at xY;have gx:=xY.lt;have Hp:=(xY.hh.at_ 9 _ rfl).1;have cg:NK 50 #[Nu mb,Nr (-1),Nr 0,Nr (-1)] bB fun e w'=>e=NU (Nr 0)/\∃ TW,My 0 w1 mb af a.TG PG PG TW PG w' st2:=(anr xY (-1) 0 (-1) NH fun X R aj=>ado aj abf.2.1 NH (-1) 0 (.inl rfl) (.inr rfl)).mono (by
  rintro e w' ⟨rfl,TW,h1,_⟩;exact⟨rfl,TW,h1⟩)
 go_wp2_with (rw[<-lH.out])
 refine cm cg ?_;rintro e b' ⟨rfl,MV,Bn⟩;have hM:=Bn.lt;obtain⟨zw,gW⟩:=Bn.hh.at_ 10 _ rfl;obtain⟨b9,q2⟩:=xH (b'.setCell (Nv mb 12) (Nr 0));have wx:=Bn.zero.2;rw[<-q2.out] at wx;have rk:=wx.lt;have rL:=hide (wx.hh.at_ 10 _ rfl).1;have k8:Hid (∀ X,NJ b9 X->NK 51 #[Nu mb,Nu q] X fun e w'=>e=NU (Nr 0)/\w'=X):=fun X aj=>by
  have EF:=wx.later aj;have qm:Oa a.TG X a (some 0,a.tr):=aA.kp (Kp.of' aZ EF.bw);have:=aqC aZ EF qm;rw[bo.out];exact this
 have Gd:Hid (∀ X,NJ b9 X->NK 50 #[Nu mb,Nr 0,Nr (-1),Nr 0] X fun e w'=>e=NU (Nr 1)/\∃ TW,My 0 w1 mb af a.TG PG PG TW PG w' st3):=fun X aj=>(anr (wx.later aj) 0 (-1) 0 NH fun X R aj=>ado aj abf.2.2 NH 0 (-1) (.inr rfl) (.inl rfl)).mono (by
  rintro e w' ⟨rfl,TW,h1,_⟩;exact⟨rfl,TW,h1⟩)
 clear C' Hy Hp gh gx
 go_wp2_with (rw[<-q2.out])
 refine Rj 9 fun ab=>?_;have z:=kk (∀{G}(h:G:=by
 refine up 3 mb 0 ab ?_;refine up 4 mb 12 ab ?_;refine uk 5 rL.out ab ?_;refine up 6 mb 0 ab ?_;refine up 7 q 0 ab ?_;refine O0 8 fun K A=>?_;go_simp;refine cm (Ns k8 _ ab) ?_;rintro e eh ⟨rfl,rfl⟩;refine A.out _ _ (fun _=>ab) ?_;clear A K;refine O0 9 fun K A=>?_;go_simp;refine cm (Ns Gd _ ab) ?_;rintro e b3 ⟨rfl,MW,Bo⟩;refine ko A ?_;clear A K;have AN:=Bo.lt;obtain⟨tz,Df⟩:=Bo.hh.at_ 11 _ rfl;have yY:=Bo.made.1;refine uz 10 (NM mb 0) ?_;refine uz 11 (NM mb 13) ?_;refine O0 12 fun K A=>?_;go_simp;refine ko A ?_
 clear A K;refine QX ?_ _;go_simp;obtain⟨k1,wv⟩:=xE (b3.setCell (Nv mb 13) (Nr 1));rw[<-wv] at yY ⊢;clear wv tz Df;have AO:=yY.lt;go_wp2_with fail;refine cm (Ns nn _ _ _ _ _ _ _ _ yY) ?_;rintro e Kr ⟨rfl,Bl,DQ⟩;go_wp2_with fail;refine cm (Ns yO _ _ _ _ _ _ _ _ Bl) ?_;rintro e Nj ⟨rfl,Jm,LG⟩;go_wp2_with fail;exact bodyPost_ret (v:=Nu mb) (by simp[results,results27,go_sem]) rfl ⟨_,_,_,_,rfl,D,aZ,Jm⟩),G);exact RU
end
end Hp
end Go.Proofs.YticfnaiehdpbmaaGreatDoor
