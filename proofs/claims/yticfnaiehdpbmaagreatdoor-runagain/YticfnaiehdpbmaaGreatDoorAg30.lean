import Derived.Test.YticfnaiehdpbmaaGreatDoorAg28
set_option maxRecDepth 100000
set_option maxHeartbeats 8000000
set_option linter.unusedVariables false
namespace Go.Proofs.YticfnaiehdpbmaaGreatDoor
open Go.RowKit Go.Proofs.Tryz
namespace Hp
section
variable {w0:Ny} {mb af:Nat} {aa:List Nat} {es aS aB az aL:NP} {w w' w2:Ny} {σ:St} {N:Nat}
theorem Mx.calls (ac:Mx w0 mb af aa aS aB az aL w σ)(c:Nat):Mx w0 mb af aa aS aB az aL (w.setCell (Nv mb 10) (Nr (c:Int))) { σ with calls:=c }/\OB [84] mb w (w.setCell (Nv mb 10) (Nr (c:Int))):=by
 obtain⟨hh,aG⟩:=ac.hh.cell 8 (Nr (c:Int));have gf:OB Th mb w (w.setCell (Nv mb 10) (Nr (c:Int))):=⟨aG.below,fun b c e D au=>aG.rest b c e D (fun h=>au (by rw[List.mem_singleton.1 h];decide))⟩
 obtain⟨d0,h1,O,ax⟩:=ac.fu;exact⟨⟨ac.bw.trans gf.below,hh,N7 ac.lg gf NH,N7 ac.se gf NH,N7 ac.ow gf NH,d0,h1,N7 O gf NH,fun i a f aw hg=>(ax i a f aw hg).kp (OB.kp gf)⟩,aG⟩
theorem auM (D:Nat)(c:Nat)(u:FrameMode)(w:Ny)(ai:w.cell? (Nv D 0)=some (NM mb 0))(aV:w.cell? (Nv mb 10)=some (Nr ((c+1:Nat):Int)))(aG:w.frozen? (Nv mb 10)=false)(dP:c<=40) :
  CallsD prog 338 #[NM D 0] u w fun e fR w'=>fR=u/\(e=NU (.tuple #[])/\w'=w.setCell (Nv mb 10) (Nr (c:Int))):=by
 go_enter_d func338,ntmps338
 go_wp2
 go_end0
 exact⟨rfl,rfl⟩
def adM (w X:Ny):Prop:=∀ (b:Nat) c (e:TypeId),w.heap[b]? = some (Og c e)->e≠84->X.heap[b]? = some (Og c e)
theorem akx (ac:Mx w0 mb af aa aS aB az aL w σ)(dP:σ.calls<40){F:Nat}{caps:Array NP}(pA:UE F){r:(Va × Er) × St}(U:r.2.calls=σ.calls+1)
  (xo:∀ X,Mx w0 mb af aa aS aB az aL X { σ with calls:=σ.calls+1 }->adM w X->w.heap.size<=X.heap.size->NK F caps X (Oh w0 mb af aa es X r)) :
  NK 319 #[Nu mb,.func (.func F) #[] caps] w (Oh w0 mb af aa es w (r.1,{ r.2 with calls:=r.2.calls - 1 })):=by
 have im:=V9;have bI:=ac.lt;obtain⟨t1,hr⟩:=ac.calls (σ.calls+1);obtain⟨w1,tq⟩:=xH (w.setCell (Nv mb 10) (Nr ((σ.calls:Int)+1)));have av:((σ.calls+1:Nat):Int)=(σ.calls:Int)+1:=by push_cast;rfl
 rw[av,<-tq.out] at t1 hr;have c9:w1.heap.size=w.heap.size:=by rw[tq.out];simp
 obtain⟨w2,bu⟩:=xH ((w1.alloc (.cells #[Nu mb] 62)).alloc (.cells #[Nr 0,Nr 0,OG] 65));have aE:NJ w1 w2:=by rw[bu.out];exact OM.alloc Oq _
 obtain⟨bc,kI⟩:=xH w.heap.size;obtain⟨aR,d8⟩:=xH (w.heap.size+1);have bK:w2.heap[bc]? = some (Og #[Nu mb] 62):=by rw[bu.out,kI.out,<-c9];exact alloc_old (NG _ _)
 have hr2:w2.heap[aR]? = some (Og #[Nr 0,Nr 0,OG] 65):=by
  rw[bu.out,d8.out,<-c9,show w1.heap.size+1=(w1.alloc (.cells #[Nu mb] 62)).heap.size by simp];exact NG _ _
 have eM:=t1.later aE;have bF:adM w w2:=fun b c e D au=>by
  rw[aE.block b (by rw[c9];exact lt_of_block D)]
  exact hr.rest b c e D (by simpa using au)
 have hsz2:w.heap.size<=w2.heap.size:=by rw[<-c9];exact aE.size
 have H0:Om none mb w w2:=(Om.ofT (L:=none) (⟨hr.below,fun b c e D au=>hr.rest b c e D (fun h=>au (by rw[List.mem_singleton.1 h];decide))⟩:OB Th mb w w1)).trans (Om.of aE (by rw[c9];exact Oi bI))
 have d3:=(xo w2 eM bF hsz2);obtain⟨si,tC⟩:=ac.hh.at_ 8 _ rfl;have ci:(σ.calls:Int)≠40:=Nw;have Lz:(σ.calls:Int)<40:=Nw;have ge:(0:Int)<=(σ.calls:Int):=Nw;have Eg:r.2.calls=σ.calls+1:=U;obtain⟨v1,om⟩:=xH r.1.1;obtain⟨rs,fE⟩:=xH ((r.1,{ r.2 with calls:=r.2.calls - 1 }):(Va × Er) × St);rw[<-fE.out];have dG:=hide Eg;have dF:=hide bK;have bj:=hide hr2;clear xo U bK hr2 hsz2 c9 av Eg dP
 go_enter_defers func319,ntmps319
 go_wp2_with fail;rw[<-tq.out,<-bu.out,<-d8.out,<-kI.out];clear si tC;refine cm d3 ?_;rintro e ao ⟨⟨ev,rfl,aI⟩,aK,ak⟩;rw[<-om.out];have c8:=hide (ak.keep bj.out NH);have fi:=hide (ak.keep dF.out NH);have cV:=(H0.trans ak);have gh:=aK.lt;have z:=kk (∀{G}(h:G:=by
 go_wp2_with fail;obtain⟨b3,bz⟩:=xE (((ao.setCell (Nv aR 0) (Nr v1.k)).setCell (Nv aR 1) (Nr v1.n)).setCell (Nv aR 2) (ND v1.s));rw[<-bz];have d7:=YC c8.out (Nr v1.k) (Nr v1.n) (ND v1.s);have gF:mb<=aR:=by have:=Ns d8;omega
 have cH:w.heap.size<=aR:=by have:=Ns d8;omega
 have bb:=Qy c8.out gF (Nr v1.k) (Nr v1.n) (ND v1.s);have bx:=cV.newT bb (RD cH _ _ _);have bv:=aK.Xd bb NH;rw[<-bz] at d7 bx bv bb;have mW:=aI.O6 bb NH;have pF:=bb.rest bc _ _ fi.out NH;obtain⟨lv',sv',TW,Vd,j5⟩:=bv;obtain⟨Ho,HF⟩:=j5.hh.at_ 8 _ rfl;obtain⟨pL,kf⟩:=j5.calls σ.calls;have sA:b3.cell? (Nv mb 10)=some (Nr ((σ.calls+1:Nat):Int)):=by rw[<-dG.out];exact Ho
 have nW:b3.cell? (Nv bc 0)=some (NM mb 0):=by rw[cell_of pF];rfl
 have L7:mb≠aR:=by have:=Ns d8;omega
 refine leaves_cons (f:=338) (args:=#[NM bc 0]) Oq (by simp[go_sem]) ?_;refine(auM bc σ.calls .returning b3 nW sA HF Nw).mono ?_;rintro e fR k1 ⟨rfl,rfl,rfl⟩;have wc:=kf.rest aR _ _ d7 NH;obtain⟨bi,aY,aX,_,_⟩:=cells3 wc
 show Leaves _ _ _ _ [] .returning _
 refine⟨.tuple #[vA v1,ev],by simp[results,results319,go_sem,bi,aY,aX],⟨ev,?_,?_⟩,?_,?_⟩
 ·rw[fE.out,om.out]
 ·rw[fE.out];exact mW.O6 kf NH
 ·rw[fE.out];have ey:({ r.2 with calls:=r.2.calls - 1 }:St)={ r.2 with calls:=σ.calls }:=by rw[dG.out];rfl
  show Ms _ _ _ _ _ ({ r.2 with calls:=r.2.calls - 1 }:St)
  rw[ey];exact⟨_,_,_,_,pL⟩
 ·exact bx.trans (Om.ofT (⟨kf.below,fun b c e D au=>kf.rest b c e D (fun h=>au (by rw[List.mem_singleton.1 h];decide))⟩:OB Th mb b3 _))),G);exact atO
theorem afy (ac:Ms w0 mb af aa w σ)(dP:σ.calls=40)(aL:NP) :
  NK 319 #[Nu mb,aL] w (Oh w0 mb af aa es w ((vU,bad SS),σ)):=by
 have bI:=ac.lt;obtain⟨w2,bu⟩:=xH ((w.alloc (.cells #[Nu mb] 62)).alloc (.cells #[Nr 0,Nr 0,OG] 65));have aE:NJ w w2:=by rw[bu.out];exact OM.alloc Oq _
 obtain⟨aR,d8⟩:=xH (w.heap.size+1);have hr2:w2.heap[aR]? = some (Og #[Nr 0,Nr 0,OG] 65):=by
  rw[bu.out,d8.out,show w.heap.size+1=(w.alloc (.cells #[Nu mb] 62)).heap.size by simp];exact NG _ _
 have dj:=(ac.later aE);have dc:=dj.lt;have eO:=(TA (es:=es) dc SS);obtain⟨aS,aB,az,aL,ac⟩:=ac;obtain⟨si,tC⟩:=ac.hh.at_ 8 _ rfl;rw[dP] at si;have bj:=hide hr2;clear hr2 dP
 go_enter_defers func319,ntmps319
 go_wp2_with fail;rw[<-bu.out,<-d8.out];clear si tC;refine cm eO ?_;rintro e ao ⟨⟨ev,rfl,aI⟩,bm⟩;have c8:=hide (stays bm bj.out);have jC:=(dj.later bm);have cV:=(Om.of (L:=none) (aE.trans (bm.mono aE.size)) (Oi bI));have z:=kk (∀{G}(h:G:=by
 go_wp2_with fail;obtain⟨b3,bz⟩:=xE (((ao.setCell (Nv aR 0) (Nr 0)).setCell (Nv aR 1) (Nr 0)).setCell (Nv aR 2) (OG));rw[<-bz];have d7:=YC c8.out (Nr 0) (Nr 0) (OG);have gF:mb<=aR:=by have:=Ns d8;omega
 have cH:w.heap.size<=aR:=by have:=Ns d8;omega
 have bb:=Qy c8.out gF (Nr 0) (Nr 0) (OG);have bx:=cV.newT bb (RD cH _ _ _);have bv:=jC.Xd bb NH;rw[<-bz] at d7 bx bv bb;obtain⟨bi,aY,aX,_,_⟩:=cells3 d7
 show Leaves _ _ _ _ [] .returning _
 exact⟨.tuple #[vA vU,ev],by simp[results,results319,go_sem,bi,aY,aX,vU],⟨ev,rfl,aI.O6 bb NH⟩,bv,bx⟩),G);exact atO
theorem aa7 (ac:Mx w0 mb af aa aS aB az aL w σ)(dP:σ.calls<=40){F:Nat}{caps:Array NP}(pA:UE F){g:St->(Va × Er) × St}(U:σ.calls≠40->(g { σ with calls:=σ.calls+1 }).2.calls=σ.calls+1)
  (xo:σ.calls≠40->∀ X,Mx w0 mb af aa aS aB az aL X { σ with calls:=σ.calls+1 }->adM w X->w.heap.size<=X.heap.size->NK F caps X (Oh w0 mb af aa es X (g { σ with calls:=σ.calls+1 }))) :
  NK 319 #[Nu mb,.func (.func F) #[] caps] w (Oh w0 mb af aa es w (within σ g)):=by
 unfold Hp.within
 split
 ·rename_i h;exact afy ⟨_,_,_,_,ac⟩ h _
 ·rename_i h;exact akx ac Nw pA (U h) (xo h)
def RF (w0:Ny)(mb af:Nat)(aa:List Nat)(es:NP)(σ:St)(d:Nd)(p:Pl)(r:(Va × Er) × St):Prop:=
 ∀ (X:Ny) (a:Ad) (aC:Option Addr),Ms w0 mb af aa X σ->Oa aa X a d->NK 196 #[Nu mb,Nu a.p,OQ p aC] X (Oh w0 mb af aa es X r)
def akb (F:Fx)(d:Nd)(p:Pl)(σ:St):(Va × Er) × St:=match F.v (Nz d 0) p σ with
 | ((v,.no),σ1)=>((Pg (!v.tru),.no),σ1)
 | ((_,e),σ1)=>((vU,e),σ1)
def aaT (F:Fx)(d:Nd)(p:Pl)(σ:St):(Va × Er) × St:=match F.v (Nz d 0) p σ with
 | ((v,.no),σ1)=>if v.tru=decide (d.2.kd=25) then ((v,.no),σ1) else F.v (Nz d 1) p σ1
 | r=>r
def akc (F:Fx)(d:Nd)(p:Pl)(σ:St):(Va × Er) × St:=match Tc F (Nz d 0) p σ with
 | ((o,.no),σ1)=>((((σ1.M.prop o d.2.tx).map Pr.v).getD vU,.no),σ1)
 | ((_,e),σ1)=>((vU,e),σ1)
def ayN (w0:Ny)(mb af:Nat)(aa:List Nat)(es:NP)(w:Ny)(r:(Int × Er) × St)(e:Ending)(w':Ny):Prop:=
 (∃ ev,e=NU (.tuple #[Nr r.1.1,ev])/\U4 es w' ev r.1.2)/\Ms w0 mb af aa w' r.2/\Om none mb w w'
variable {F:Fx}
section
variable (ae:Yh es) (aK:Ms w0 mb af aa w σ) {a:Ad} {d:Nd} (hd:Oa aa w a d)
include ae aK a d hd
theorem amH (p:Pl)(aC:Option Addr)(h1:RF w0 mb af aa es σ d p (F.v d p σ)) :
  NK 200 #[Nu mb,Nu a.p,OQ p aC] w (ayN w0 mb af aa es w (Tc F d p σ)):=by
 have bI:=aK.lt;have z:=kk (∀{G}(h:G:=by
 have ds:w.heap.size<=bc:=Nw;have z:=kk (∀{G}(h:G:=by
 have z:=kk (∀{G}(h:G:=by
 obtain⟨q,ag⟩:=xE a.p;have bA:=(h1 w2 a aC dj cS);obtain⟨rs,bD⟩:=xH (Tc F d ⟨aq,aF,st⟩ σ);rw[<-bD.out,<-ag];rw[<-ag] at bA
 rcases U:F.v d ⟨aq,aF,st⟩ σ with ⟨⟨v1,av⟩,σ1⟩
 rw[U] at bA;have bY:=hide U;obtain⟨aW,p1,cr,cL,_,_⟩:=cells4 bK;clear bK U ag ds;go_enter func200,ntmps200;go_wp2_with fail;rw[<-bu.out,<-bU];clear bU;refine cm bA ?_;rintro e aD ⟨⟨ev,rfl,aI⟩,eV,f4⟩;have dw:=aI;have cV:=(da.trans f4);have gh:=eV.lt;clear aW p1 cr cL
 by_cases au:av=.no
 ·subst au;have br:ev=Pe:=aI;subst br
  by_cases bN:v1.k=5
  ·go_wp2_with fail;have aH:rs=((v1.n,.no),σ1):=by rw[bD.out];unfold Tc;rw[bY.out];simp[bN]
   refine bodyPost_ret (v:=.tuple #[Nr v1.n,Pe]) (by simp[results,results200,go_sem]) rfl ?_;rw[aH];exact⟨⟨_,rfl,rfl⟩,eV.later OM,cV.trans (Om.of OM (Oi gh))⟩
  ·have aH:rs=((-1,bad tType),σ1):=by rw[bD.out];unfold Tc;rw[bY.out];simp[bN]
   have cz:=hide aH;clear aH;go_wp2_with fail;have du:=(Below.refl aD.heap.size aD).alloc OH (.cells #[Nr v1.k,Nr v1.n,ND v1.s] 65);have kF:=(eV.later du);have fI:=(cV.trans (Om.of (L:=none) du (Oi gh)));have gx:=kF.lt;refine cm (TA (es:=es) gx tType) ?_;rintro e gS ⟨⟨ev,rfl,aI⟩,g0⟩;have oc:=(kF.later g0);have n7:=(fI.trans (Om.of (L:=none) g0 (Oi gx)));go_wp2_with fail;refine bodyPost_ret (v:=.tuple #[Nr (-1),ev]) (by simp[results,results200,go_sem]) rfl ?_;rw[cz.out];exact⟨⟨_,rfl,aI⟩,oc,n7⟩
 ·obtain⟨et,ex,br⟩:=aI.Vs au ae;subst br;have aH:rs=((-1,av),σ1):=by
   rw[bD.out];unfold Tc;rw[bY.out];exact XJ
  have cz:=hide aH;clear au aH;go_wp2_with fail;have du:=(Below.refl aD.heap.size aD).alloc OH (.cells #[Nr v1.k,Nr v1.n,ND v1.s] 65);refine bodyPost_ret (v:=.tuple #[Nr (-1),.iface et ex]) (by simp[results,results200,go_sem]) rfl ?_;rw[cz.out];exact⟨⟨_,rfl,dw.later du⟩,eV.later du,cV.trans (Om.of (L:=none) du (Oi gh))⟩),G);exact zsn),G);exact zsf),G);exact zsr
theorem ayO (E:d.2.kids.length=1)(p:Pl)(aC:Option Addr)(h1:RF w0 mb af aa es σ (Nz d 0) p (F.v (Nz d 0) p σ)) :
  NK 260 #[Nu mb,Nu a.p,OQ p aC] w (Oh w0 mb af aa es w (akb F d p σ)):=by
 have z:=kk (∀{G}(h:G:=by
 have z:=kk (∀{G}(h:G:=by
 have z:=kk (∀{G}(h:G:=by
 obtain⟨rs,d6⟩:=xE (akb F d ⟨aq,aF,st⟩ σ);rw[<-d6,<-bo.out];have z:=kk (∀{G}(h:G:=by
 have bD:=hide d6;have bY:=hide U;clear bK hr2 d6 U h1 ds cH d5 fS dJ dd;go_enter func260,ntmps260;go_wp2_with fail;rw[<-bu.out,<-b1,<-bU];clear bU b1;refine UC (H:=fun wz vb ev=>VB w0 mb af aa es w2 v1 av σ1 wz vb ev) (G:=?GG) (fun dI=>?ways) ?rest
 case ways=>
  exact adt
 rintro wz vb ev aN;have cR:=aN.fr.keep bj.out NH;have dU:=hide cR;obtain⟨cy,bQ,b5,dn,dp,dq,rl⟩:=Ot (cR);have ee:=aN.ms.lt;have ci:vb≠aR:=fun e=>by
  have h1:=aN.vb;have O:=lt_of_heap bj.out;omega
 have di:Om none mb w wz:=da.trans aN.fr;have eG:=hide (aN.fr.keep dF.out NH);clear cR;obtain⟨e',cj,dD,hf,hi,hj,g5⟩:=Ot (aN.v)
 by_cases au:av=.no
 ·subst au;have br:ev=Pe:=aN.er;subst br;have eO:=(VI v1 wz);obtain⟨bt,lW⟩:=xH v1.tru;rw[<-lW.out] at eO;go_wp2_with fail;refine cm eO ?_;rintro e ea ⟨rfl,cn⟩;go_wp2_with fail;obtain⟨bL,cZ⟩:=xH (Pg (!bt));have h3:=UA (!bt) ea;rw[<-cZ.out] at h3;refine cm h3 ?_;rintro e fq ⟨rfl,cp⟩;have jO:=cn.trans (cp.mono cn.size);have d8:=hide (stays jO dU.out);have k6:=(aN.ms.later jO);have jW:=(di.trans (Om.of (L:=none) jO (Oi ee)));obtain⟨hk,gn,gp,ib,ic,id,hm⟩:=Ot d8.out
  clear cy bQ b5 dn dp dq e' cj dD hf hi hj;have z:=kk (∀{G}(h:G:=by
  refine bodyPost_ret (v:=.tuple #[vA bL,Pe]) (by simp[results,results260,go_sem,bi,aY,aX]) rfl ?_;have aH:rs=((bL,.no),σ1):=by rw[bD.out];unfold akb;rw[bY.out,cZ.out,lW.out]
  rw[aH];exact⟨⟨_,rfl,rfl⟩,bv,bx⟩),G);exact afi
 ·obtain⟨et,ex,br⟩:=aN.er.Vs au ae;subst br;have aH:rs=((vU,av),σ1):=by
   rw[bD.out];unfold akb;rw[bY.out];exact XJ
  have bJ:=hide aH;clear au aH;have bD:=bJ;have z:=kk (∀{G}(h:G:=by
  refine bodyPost_ret (v:=.tuple #[vA vU,.iface et ex]) (by simp[results,results260,go_sem,bi,aY,aX,vU]) rfl ?_;exact apO),G);exact apP),G);exact akd),G);exact ahb),G);exact abW),G);exact VT
end
end
end Hp
theorem akG {l:List Tk}{F:Rq}{t:Tr}{j:Nat}(h:Ui l F=.ok t j):∃ am,Qj l F F.fuel [] 0=.ok am j/\t=TL (.mk 1 NC 0 am):=by
 unfold Ui at h;obtain⟨am,bW,h1,h⟩:=O4 h;cases h;exact⟨am,h1,rfl⟩
theorem anA (t:Tr):(TL t).kd=t.kd:=by unfold TL;split <;> rfl
theorem Vu {bf bH:List NR}{s:NR}{t:Tr}(h:QK bf bH s=.ok t):t.kd=1/\t.count<=1500:=by
 unfold QK at h
 split at h
 ·
  cases h
 ·split at h
  ·
   cases h
  ·split at h
   ·
    cases h
   ·rename_i U
    split at h
    ·
     cases h
    ·
     cases h;obtain⟨am,_,rfl⟩:=akG U;exact⟨anA _,by omega⟩
   ·
    cases h
def afO (r:PaR)(w:Ny)(e:Ending)(w':Ny):Prop:=
 match r with
 | .ok t=>∃ p,e=NU (.tuple #[Nu p,NI true])/\O7 (From w.heap.size) w' t p/\NJ w w'
 | _=>e=NU (.tuple #[.pointer none,NI false])/\NJ w w'
theorem ahK (r:PaR)(s:NR)(w:Ny)(E:∀ t,r=.ok t->t.kd=1)(bq:NK 15 #[ND s] w (Zl r w)):NK 9 #[ND s] w (afO r w):=by
 cases r with
 | ok t=>
  have iQ:=E t rfl;clear E;go_enter func9,ntmps9;go_wp2_with fail;refine cm bq ?_;rintro e w1 ⟨p,rfl,aA,D⟩;obtain⟨u,ps,hblk,_,_,_⟩:=aA.aaG;obtain⟨q4,_,_,_,_⟩:=node_cells hblk;rw[iQ] at q4;have bM:=D;clear hblk iQ;go_wp2_with fail
  go_region
  go_wp2_with fail;exact bodyPost_ret (v:=.tuple #[Nu p,NI true]) (by simp[results,results9,go_sem]) rfl ⟨p,rfl,O7.later (I:=From w.heap.size) (w:=w1) (w':=w1.drew) (fun b _ _=>rfl) _ _ aA,bM.drew⟩
 | «at» er pl=>
  clear E;go_enter func9,ntmps9;go_wp2_with fail;refine cm bq ?_;rintro e w1 ⟨b,rfl,_,_,D⟩;exact aAQ
 | bare=>
  clear E;go_enter func9,ntmps9;go_wp2_with fail;refine cm bq ?_;rintro e w1 ⟨rfl,D⟩;exact aAQ
theorem aan (bf bH:List NR)(s:NR)(w:Ny)(dz:Lists bf bH w)(lN:∀ g ∈ bH,1<=g.size)(dA:Tabs w):NK 9 #[ND s] w (afO (QK bf bH s) w):=
 ahK _ s w (fun _ h=>(Vu h).1) (parse_any bf bH s w dz lN dA)
theorem alx (P:Tk->Prop)(bf bH:List NR)(s:NR)(lN:∀ g ∈ bH,1<=g.size)(cA:P ⟨6,⟨#[]⟩,0,s.size⟩)(hP:∀ i kd tx n e,i<s.size->UR bf bH s i=.tok kd tx n e->P ⟨kd,tx,n,i⟩):∀ m i be l,s.size - i=m->i<=s.size->(∀ t ∈ be,P t)->Tf bf bH s i be=.ok l->∀ t ∈ l,P t:=by
 intro m
 induction m using Nat.strongRecOn with
 | ind m bR=>
  intro i be l aV ay aw h
  by_cases aQ:i<s.size
  ·
   cases U:UR bf bH s i with
   | bad er p=>rw[YX bf bH s i be er p aQ U] at h;cases h
   | tok kd tx n e=>
    have z:=kk (∀{G}(h:G:=by
    refine bR (s.size - Oo QN s e) Nw (Oo QN s e) _ l rfl h5 (fun t a'=>?_) h
    rcases List.mem_append.1 a' with a' | a'
    ·exact aw t a'
    ·rw[List.mem_singleton.1 a'];exact hP i kd tx n e aQ U),G);exact awX
  ·rw[Xu bf bH s i be aQ] at h;cases h;intro t a'
   rcases List.mem_append.1 a' with a' | a'
   ·exact aw t a'
   ·rw[List.mem_singleton.1 a'];exact cA
abbrev Sm (s:NR):Prop:=s.size<=3000
abbrev Nb (n:Int):Prop:=-1000000000<=n/\n<=1000000000
theorem aoW (s:NR)(k:Nat)(E:k<=s.size):∀ b ∈ (s.extract k (Oo Pz s k)).data.toList,Pz (b.toNat:Int)=true:=by
 have gE:=RZ Pz s k E;have rd:=Ug Pz s k;have c9:=extract_size s k (Oo Pz s k) Nw gE;exact awY
theorem aly {bf bH:List NR}{s:NR}(ae:s.size<=3000){i e:Nat}{kd n:Int}{tx:NR}(ay:i<s.size)(U:UR bf bH s i=.tok kd tx n e):Sm tx/\Nb n:=by
 have ac:∀ a b,(s.extract a b).size<=3000:=fun a b=>by rw[ByteArray.size_extract];omega
 unfold UR at U
 split at U
 ·unfold Ti at U
  split at U
  ·
   cases U;exact⟨ac _ _,by decide⟩
  ·split at U
   ·
    cases U
   ·
    cases U;exact⟨ac _ _,by decide⟩
 ·split at U
  ·unfold rdNum at U
   split at U
   ·
    cases U
   ·split at U
    ·
     cases U
    ·split at U
     ·
      cases U
     ·rename_i ax
      cases U;exact⟨by show (0:Nat)<=3000;omega,by have:=(XW _ (aoW s i (Oi ay))).1;omega,by omega⟩
  ·split at U
   ·unfold rdStr at U
    split at U
    ·split at U
     ·
      cases U
     ·rename_i bN
      cases U;exact⟨by show (List.toArray _).size<=3000;rw[List.size_toArray];omega,by decide⟩
    ·
     cases U
   ·unfold Uu at U
    split at U
    ·rename_i g hg
     cases U;have O:=List.find?_some hg;unfold aeH at O;simp at O;have ax:=ac i s.size;exact⟨by show tx.size<=3000;omega,by decide⟩
    ·
     cases U
theorem Qz.mono {cU dg CM CQ:NR->Prop}{df CN:Int->Prop}(h1:∀ s,cU s->CM s)(O:∀ s,dg s->CQ s)(ax:∀ n,df n->CN n){c:Nat}{t:Tr}(h:Qz cU dg df c t):Qz CM CQ CN c t:=by
 induction h with
 | name h=>exact .name (h1 _ h)
 | str h=>exact .str (O _ h)
 | num h=>exact .num (ax _ h)
 | lit h=>exact .lit h
 | alz h _ i=>exact .alz (h1 _ h) i
 | call _ _ hl i j=>exact .call i j hl
 | one h _ i=>exact .one h i
 | two h _ _ i j=>exact .two h i j
 | asg h _ _ i j=>exact .asg h i j
 | obj _ hl i=>exact .obj i hl
 | lam h _ _ i j=>exact .lam (h.imp id (h1 _)) i j
 | prop h _ i=>exact .prop (h1 _ h) i
 | par h=>exact .par (h1 _ h)
 | ajB _ hl i=>exact .ajB i hl
 | blk _ i=>exact .blk i
 | body h _ i=>exact .body h i
 | decl E h _ hl ai i=>exact .decl E (h1 _ h) i hl ai
 | func h _ _ i j=>exact .func (h1 _ h) i j
 | agK _ i=>exact .agK i
 | sif _ _ i j=>exact .sif i j
 | aoY _ _ _ i j k=>exact .aoY i j k
 | loop h _ _ i j=>exact .loop h i j
 | give h _ hl ai i=>exact .give h i hl ai
 | atm _ _ _ hl i j k=>exact .atm i j k hl
 | cat h _ i=>exact .cat (h1 _ h) i
 | fin _ i=>exact .fin i
 | empty=>exact .empty
 | expr _ i=>exact .expr i
 | prog h _ i=>exact .prog h i
theorem alA {bf bH:List NR}{s:NR}{t:Tr}(lN:∀ g ∈ bH,1<=g.size)(h:QK bf bH s=.ok t):Qz Sm Sm Nb 9 t:=by
 have ae:s.size<=3000:=by
  unfold QK at h
  split at h
  ·
   cases h
  ·omega
 obtain⟨l,hl,gZ⟩:=aeI h;have D:∀ t ∈ l,Sm t.tx/\Nb t.n:=alx (fun t=>Sm t.tx/\Nb t.n) bf bH s lN ⟨by show (0:Nat)<=3000;omega,show Nb 0 by decide⟩ (fun i kd tx n e ay U=>aly ae ay U) _ _ _ _ rfl (RZ QN s 0 (Nat.zero_le _)) (fun t a'=>by cases a') hl
 have E:∀ i,Sm (Ox l i).tx/\Nb (Ox l i).n:=fun i=>by
  unfold Ox;rw[List.getD_eq_getElem?_getD]
  cases ay:l[i]? with
  | none=>exact⟨by show (0:Nat)<=3000;omega,by decide⟩
  | some t=>exact D t (List.mem_of_getElem? ay)
 exact gZ.mono (fun s ⟨i,_,e⟩=>e ▸ (E i).1) (fun s ⟨i,e⟩=>e ▸ (E i).1) (fun n ⟨i,e⟩=>e ▸ (E i).2)
namespace Hp
structure Gv (m:Nat)(v:Va):Prop where
 n:v.k≠5->Nb v.n
 s:Sm v.s
 r:v.k=5->0<=v.n/\v.n<m
theorem Gv.up {n pO:Nat}{v:Va}(h:Gv n v)(aA:n<=pO):Gv pO v:=⟨h.n,h.s,fun e=>⟨(h.r e).1,by have:=(h.r e).2;omega⟩⟩
theorem sm0:Sm NC:=by decide
theorem Um (n:Nat):Gv n vU:=⟨fun _=>by decide,sm0,fun e=>by cases e⟩
theorem gvB (n:Nat)(b:Bool):Gv n (Pg b):=⟨fun _=>by cases b <;> decide,sm0,fun e=>by cases e⟩
theorem gvT {n:Nat}{s:NR}(h:Sm s):Gv n (U1 s):=⟨fun _=>show Nb 0 by decide,h,fun e=>by cases e⟩
theorem gvN {n:Nat}{k:Int}(h:Nb k):Gv n (VF k):=⟨fun _=>h,sm0,fun e=>by cases e⟩
structure Gm (lJ:Nat)(M:Mo):Prop where
 pv:∀ x ∈ M.objs,∀ p ∈ x.ps,Gv M.objs.length p.v
 cv:∀ x ∈ M.NQ,∀ c ∈ x.cs,Gv M.objs.length c.v
 co:∀ x ∈ M.objs,0<=x.code/\x.code<3+lJ
def K4 (M:Mo)(s:Int)(nm:NR):Prop:=∃ (i:Nat) (x:Ro) (c:Ce),s=i/\M.NQ[i]? = some x/\c ∈ x.cs/\YS nm c.name=true/\c.kind≠4
inductive Chg (V:Va->Prop) (ce:Int) (M:Mo):Mo->Prop
 | same:Chg V ce M M
 | ob (i:Nat) (x:Ob) (ps:List Pr) (ac:M.objs[i]? = some x) (al:∀ p ∈ ps,V p.v\/∃ q ∈ x.ps,q.v=p.v):Chg V ce M (M.Q5 i ⟨x.code,ps⟩)
 | ro (i:Nat) (x:Ro) (cs:List Ce) (ac:M.NQ[i]? = some x) (al:∀ c ∈ cs,V c.v\/∃ q ∈ x.cs,q.v=c.v) (E:∀ c ∈ x.cs,c.kind≠4->∃ ft ∈ cs,ft.name=c.name/\ft.kind=c.kind) (aA:∀ c ∈ cs,c.kind=ce\/∃ q ∈ x.cs,q.kind=c.kind):Chg V ce M (M.Qw i ⟨x.outer,x.object,cs⟩)
section
variable {V:Va->Prop} {ce:Int} {M oq:Mo} {lJ:Nat}
section
variable (h:Chg V ce M oq)
include h
theorem Chg.ol:oq.objs.length=M.objs.length:=by cases h <;> simp[Mo.Q5,Mo.Qw]
theorem Chg.rl:oq.NQ.length=M.NQ.length:=by cases h <;> simp[Mo.Q5,Mo.Qw]
theorem Chg.k4 {s:Int}{nm:NR}(E:K4 M s nm):K4 oq s nm:=by
 obtain⟨i,x,c,rfl,ac,ai,h1,O⟩:=E
 cases h with
 | same=>exact⟨i,x,c,rfl,ac,ai,h1,O⟩
 | ob=>exact⟨i,x,c,rfl,ac,ai,h1,O⟩
 | ro j y cs hy al E aA=>
  by_cases e:j=i
  ·subst e;rw[ac] at hy;cases hy;obtain⟨ft,ax,aU,bN⟩:=E c ai O;exact⟨j,_,ft,rfl,List.getElem?_set_self (List.getElem?_eq_some_iff.1 ac).1,ax,by rw[aU];exact h1,by rw[bN];exact O⟩
  ·exact⟨i,x,c,rfl,(List.getElem?_set_ne e).trans ac,ai,h1,O⟩
theorem Chg.gm (fV:∀ v,V v->Gv M.objs.length v)(hg:Gm lJ M):Gm lJ oq:=by
 have hl:=h.ol
 cases h with
 | same=>exact hg
 | ob i x ps ac al=>
  have ua:=List.mem_of_getElem? ac;refine⟨fun y hy p Ec=>?_,fun y hy c ai=>?_,fun y hy=>?_⟩
  ·rw[hl]
   rcases List.mem_or_eq_of_mem_set hy with hy|rfl
   ·exact hg.pv y hy p Ec
   ·rcases al p Ec with h|⟨q,ag,e⟩
    ·exact fV _ h
    ·rw[<-e];exact hg.pv x ua q ag
  ·rw[hl];exact hg.cv y hy c ai
  ·rcases List.mem_or_eq_of_mem_set hy with hy|rfl
   ·exact hg.co y hy
   ·exact hg.co x ua
 | ro i x cs ac al E aA=>
  have ua:=List.mem_of_getElem? ac;refine⟨hg.pv,fun y hy c ai=>?_,hg.co⟩
  rcases List.mem_or_eq_of_mem_set hy with hy|rfl
  ·exact hg.cv y hy c ai
  ·rcases al c ai with h|⟨q,ag,e⟩
   ·exact fV _ h
   ·rw[<-e];exact hg.cv x ua q ag
end
section
variable {α:Type} {f:α->Va} {P:Va->Prop} {l:List α}
include α f P l
theorem abw {k:Nat}{a:α}(aw:P (f a)):∀ p ∈ l.set k a,P (f p)\/∃ q ∈ l,f q=f p:=fun p al=>by
 rcases List.mem_or_eq_of_mem_set al with h|rfl
 ·exact .inr ⟨p,h,rfl⟩
 ·exact .inl aw
theorem af9 {a:α}(aw:P (f a)):∀ p ∈ l++[a],P (f p)\/∃ q ∈ l,f q=f p:=fun p al=>by
 rcases List.mem_append.1 al with h|h
 ·exact .inr ⟨p,h,rfl⟩
 ·rw[List.mem_singleton.1 h];exact .inl aw
end
theorem acR {l:List Ce}{k:Nat}{c a:Ce}(ai:l[k]? = some c)(aA:a.name=c.name)(E:a.kind=c.kind):∀ d ∈ l,d.kind≠4->∃ ft ∈ l.set k a,ft.name=d.name/\ft.kind=d.kind:=fun d hd _=>by
 obtain⟨j,aT⟩:=List.mem_iff_getElem?.1 hd;have cJ:=(List.getElem?_eq_some_iff.1 ai).1
 by_cases e:k=j
 ·subst e;rw[ai] at aT;cases aT;exact⟨a,List.mem_of_getElem? (List.getElem?_set_self cJ),aA,E⟩
 ·exact⟨d,List.mem_of_getElem? ((List.getElem?_set_ne e).trans aT),rfl,rfl⟩
theorem aga {ce:Int}{l:List Ce}{k:Nat}{c a:Ce}(ai:l[k]? = some c)(E:a.kind=c.kind):∀ d ∈ l.set k a,d.kind=ce\/∃ q ∈ l,q.kind=d.kind:=fun d hd=>by
 rcases List.mem_or_eq_of_mem_set hd with h|rfl
 ·exact .inr ⟨d,h,rfl⟩
 ·exact .inr ⟨c,List.mem_of_getElem? ai,E.symm⟩
theorem an6 {ce:Int}{l:List Ce}{a:Ce}(E:a.kind=ce):∀ d ∈ l++[a],d.kind=ce\/∃ q ∈ l,q.kind=d.kind:=fun d hd=>by
 rcases List.mem_append.1 hd with h|h
 ·exact .inr ⟨d,h,rfl⟩
 ·rw[List.mem_singleton.1 h];exact .inl E
theorem UN (M:Mo)(o:Int)(nm:NR)(v:Va)(fx:Bool):Chg (· = v) 0 M (M.put o nm v fx).2:=by
 unfold Mo.put
 rcases Qm M o with ⟨h0,_⟩|⟨i,x,rfl,ac,h1⟩
 ·rw[h0];exact .same
 ·rw[h1]
  cases E:fP nm x.ps with
  | none=>simp only[E];exact .ob i x _ ac (af9 (f:=Pr.v) (P:=(· = v)) rfl)
  | some k=>
   simp only[E]
   cases ai:x.ps[k]? with
   | none=>exact .same
   | some c=>exact .ob i x _ ac (abw (f:=Pr.v) (P:=(· = v)) rfl)
theorem ai7 (M:Mo)(o:Int)(nm:NR):Chg (fun _=>False) 0 M (M.cut o nm).2:=by
 unfold Mo.cut
 rcases Qm M o with ⟨h0,_⟩|⟨i,x,rfl,ac,h1⟩
 ·rw[h0];exact .same
 ·rw[h1]
  cases E:fP nm x.ps with
  | none=>simp only[E];exact .same
  | some k=>
   simp only[E]
   cases ai:x.ps[k]? with
   | none=>exact .same
   | some c=>
    simp only
    split
    ·exact .same
    ·exact .ob i x _ ac fun p al=>.inr ⟨p,List.mem_of_mem_eraseIdx al,rfl⟩
theorem Ut (M:Mo)(s:Int)(nm:NR)(kd:Int)(v:Va):Chg (· = v) kd M (M.declare s nm kd v).2:=by
 unfold Mo.declare
 rcases OX M s with ⟨h0,_⟩|⟨i,x,rfl,ac,h1⟩
 ·rw[h0];exact .same
 ·rw[h1];simp only
  split
  ·exact .same
  ·
   cases E:fC nm x.cs with
   | some j=>exact .same
   | none=>exact .ro i x _ ac (af9 (f:=Ce.v) (P:=(· = v)) rfl) (fun c ai _=>⟨c,List.mem_append_left _ ai,rfl,rfl⟩) (an6 rfl)
theorem akW (M:Mo)(s:Int)(nm:NR)(v:Va):Chg (· = v) 0 M (M.start s nm v).2:=by
 unfold Mo.start
 rcases OX M s with ⟨h0,_⟩|⟨i,x,rfl,ac,h1⟩
 ·rw[h0];exact .same
 ·rw[h1]
  cases E:fC nm x.cs with
  | none=>simp only[E];exact .same
  | some k=>
   simp only[E]
   cases ai:x.cs[k]? with
   | none=>exact .same
   | some c=>exact .ro i x _ ac (abw (f:=Ce.v) (P:=(· = v)) rfl) (acR ai rfl rfl) (aga ai rfl)
theorem an7 {M:Mo}{i:Nat}{x:Ro}{nm:NR}{c:Ce}(h1:M.ro i=some x)(ai:M.XM i nm=some c):∃ k,fC nm x.cs=some k/\x.cs[k]? = some c:=by
 unfold Mo.XM at ai;rw[h1] at ai
 rcases UM (fun c=>YS nm c.name) x.cs with ⟨O,ax⟩|⟨k,ft,O,ax,aU,_⟩
 ·exact absurd (ax.symm.trans ai) Oq
 ·have e:some ft=some c:=aU.symm.trans ai;cases e;exact⟨k,O,ax⟩
theorem acS (M:Mo)(s:Int)(nm:NR)(v:Va):Chg (· = v) 0 M (M.write s nm v).2:=by
 unfold Mo.write
 split
 ·
  cases ai:M.XM s nm with
  | none=>exact UN _ _ _ _ _
  | some c=>
   simp only
   split
   ·exact .same
   ·split
    ·exact .same
    ·split
     ·exact .same
     ·rcases OX M s with ⟨h0,_⟩|⟨i,x,rfl,ac,h1⟩
      ·rw[h0];exact .same
      ·obtain⟨k,O,ax⟩:=an7 h1 ai;rw[h1];simp only[O];exact .ro i x _ ac (abw (f:=Ce.v) (P:=(· = v)) rfl) (acR ax rfl rfl) (aga ax rfl)
 ·exact .same
theorem an8 (M:Mo)(s:Int)(nm:NR):Chg (fun _=>False) 0 M (M.drop s nm).2:=by
 unfold Mo.drop
 cases ai:M.XM s nm with
 | none=>exact ai7 _ _ _
 | some c=>
  simp only
  split
  ·exact .same
  ·rename_i E
   rcases OX M s with ⟨h0,_⟩|⟨i,x,rfl,ac,h1⟩
   ·rw[h0];exact .same
   ·obtain⟨k,O,ax⟩:=an7 h1 ai;rw[h1];simp only[O];refine .ro i x _ ac (fun p al=>.inr ⟨p,List.mem_of_mem_eraseIdx al,rfl⟩) (fun d hd aU=>⟨d,?_,rfl,rfl⟩) fun c ai=>.inr ⟨c,List.mem_of_mem_eraseIdx ai,rfl⟩;obtain⟨j,aT⟩:=List.mem_iff_getElem?.1 hd;have ci:j≠k:=fun e=>by
     subst e;rw[ax] at aT;cases aT;exact aU (by simpa using E)
    refine List.mem_eraseIdx_iff_getElem?.2 ⟨j,ci,aT⟩
def N4 (M:Mo)(s:Int):Prop:=∃ (i:Nat) (x:Ro),s=i/\M.NQ[i]? = some x/\x.object = -1/\∀ c ∈ x.cs,c.kind≠4
theorem N4.chg {V:Va->Prop}{ce:Int}{M oq:Mo}{s:Int}(h:N4 M s)(ai:Chg V ce M oq)(E:ce≠4):N4 oq s:=by
 obtain⟨i,x,rfl,ac,h1,O⟩:=h
 cases ai with
 | same=>exact⟨i,x,rfl,ac,h1,O⟩
 | ob=>exact⟨i,x,rfl,ac,h1,O⟩
 | ro j y cs hy al DZ aA=>
  by_cases e:j=i
  ·subst e;rw[ac] at hy;cases hy;refine⟨j,_,rfl,List.getElem?_set_self (List.getElem?_eq_some_iff.1 ac).1,h1,fun c ai=>?_⟩
   rcases aA c ai with h|⟨q,ag,h⟩
   ·rw[h];exact E
   ·rw[<-h];exact O q ag
  ·exact⟨i,x,rfl,(List.getElem?_set_ne e).trans ac,h1,O⟩
theorem N4.k4 {M:Mo}{s:Int}(h:N4 M s)(nm:NR){kd:Int}(E:kd≠4)(v:Va):K4 (M.declare s nm kd v).2 s nm:=by
 obtain⟨i,x,rfl,ac,h1,O⟩:=h;have U:M.ro i=some x:=by
  rcases OX M i with ⟨_,ax⟩|⟨j,y,e,hy,ax⟩
  ·have:=(List.getElem?_eq_some_iff.1 ac).1;omega
  ·have e:i=j:=Nw;subst e;rw[ac] at hy;cases hy;exact ax
 unfold Mo.declare;rw[U];simp only[h1]
 cases aG:fC nm x.cs with
 | some k=>
  obtain⟨c,ai,aU⟩:∃ c,x.cs[k]? = some c/\YS nm c.name=true:=by
   rcases UM (fun c=>YS nm c.name) x.cs with ⟨bN,_⟩|⟨lq,c,bN,cA,_,j1⟩
   ·exact absurd (bN.symm.trans aG) Oq
   ·have e:some lq=some k:=bN.symm.trans aG;cases e;exact⟨c,cA,j1⟩
  exact⟨i,x,c,rfl,ac,List.mem_of_getElem? ai,aU,O c (List.mem_of_getElem? ai)⟩
 | none=>
  refine⟨i,_,⟨nm,v,kd,!(kd==1||kd==2)⟩,rfl,List.getElem?_set_self (List.getElem?_eq_some_iff.1 ac).1,List.mem_append_right _ (List.mem_singleton.2 rfl),?_,E⟩;simp[YS]
mutual
def Tr.nbr:Tr->Bool
 | .mk kd _ _ ks=>!((kd==7||kd==8||kd==9)&&ks.any Vw)&&Tr.ahY ks
def Tr.ahY:List Tr->Bool
 | []=>true
 | t::am=>Tr.nbr t&&Tr.ahY am
end
mutual
theorem ai8:∀ (t:Tr) (s i b:Bool),chk t s i b=none->Tr.nbr t=true
 | .mk kd tx n ks,s,i,b,h=>by
  rw[chk] at h;rw[Tr.nbr]
  cases hw:wrT (.mk kd tx n ks) (s2 (.mk kd tx n ks) s) (i2 (.mk kd tx n ks) i) b with
  | some e=>rw[hw] at h;cases h
  | none=>
   rw[hw] at h;rw[agb ks _ _ _ h,Bool.and_true]
   by_cases E:kd=7\/kd=8\/kd=9
   ·have O:brE (.mk kd tx n ks) (s2 (.mk kd tx n ks) s)=none:=by
     rw[<-hw];unfold wrT
     rcases E with rfl|rfl|rfl <;> rfl
    unfold brE at O
    split at O
    ·
     cases O
    ·rename_i ax
     have aU:ks.any Vw=false:=by
      cases bN:ks.any Vw with
      | false=>rfl
      | true=>exact absurd (show _ from by rw[show (Tr.mk kd tx n ks).kids=ks from rfl,bN,Bool.or_true]) ax
     rw[aU,Bool.and_false];rfl
   ·have O:(kd==7||kd==8||kd==9)=false:=by simpa[not_or,and_assoc] using E
    rw[O];rfl
theorem agb:∀ (am:List Tr) (s i b:Bool),SK am s i b=none->Tr.ahY am=true
 | [],_,_,_,_=>by rw[Tr.ahY]
 | t::am,s,i,b,h=>by
  rw[SK] at h;rw[Tr.ahY]
  cases h1:chk t s i b with
  | some e=>rw[h1] at h;cases h
  | none=>
   rw[h1] at h;rw[ai8 t s i b h1,agb am s i b h];rfl
end
theorem agc:∀ {am:List Tr},Tr.ahY am=true->∀ t ∈ am,Tr.nbr t=true
 | [],_,_,h=>by cases h
 | u::am,h,t,a'=>by
  rw[Tr.ahY,Bool.and_eq_true] at h
  rcases List.mem_cons.1 a' with rfl|a'
  ·exact h.1
  ·exact agc h.2 t a'
theorem YG {t:Tr}(h:Tr.nbr t=true):(∀ k ∈ t.kids,Tr.nbr k=true)/\((t.kd=7\/t.kd=8\/t.kd=9)->∀ k ∈ t.kids,Vw k=false):=by
 cases t with
 | mk kd tx n ks=>
  rw[Tr.nbr,Bool.and_eq_true] at h;refine⟨agc h.2,fun E k aV=>?_⟩;have O:(kd==7||kd==8||kd==9)=true:=by
   rcases E with E|E|E <;> (change kd=_ at E;subst E;rfl)
  rw[O,Bool.true_and] at h;have ax:ks.any Vw=false:=by simpa using h.1
  exact Bool.eq_false_iff.2 fun e=>absurd (show ks.any Vw=true from List.any_eq_true.2 ⟨k,aV,e⟩) (by rw[ax];simp)
structure Nk (c:Nat)(t:Tr):Prop where
 sh:Qz Sm Sm Nb c t
 ct:t.count<=1500
 nb:Tr.nbr t=true
theorem XF {t k:Tr}(h:k ∈ t.kids):k.count<t.count:=by
 cases t with
 | mk kd tx n ks=>
  obtain⟨i,ay,e⟩:=List.getElem_of_mem h;have:=SY ks i ay;rw[Tr.count];change (ks[i]).count<=_ at this;change ks[i]=k at e;rw[e] at this;omega
theorem Nk.kid {c ft:Nat}{t k:Tr}(h:Nk c t)(E:k ∈ t.kids)(ae:Qz Sm Sm Nb ft k):Nk ft k:=⟨ae,by have:=XF E;have:=h.ct;omega,(YG h.nb).1 k E⟩
structure Fg (t:Tr):Prop where
 ct:t.count<=1500
 nb:Tr.nbr t=true
 sh:∃ kd s n p b,t=.mk kd s n [p,b]/\Qz Sm Sm Nb 5 p/\Qz Sm Sm Nb 4 b
structure Iv (N:Int)(σ:St):Prop where
 pz:∃ n:Nat,Sz n σ/\(n:Int)<=N+10000 * σ.steps
 gm:Gm σ.Qn.length σ.M
 fn:∀ f ∈ σ.Qn,Fg f.d.2/\0<=f.scope/\f.scope<σ.M.NQ.length
 ca:σ.calls<=40
 lr:2<=σ.M.NQ.length
 lo:1<=σ.M.objs.length
structure Ex (σ bO:St):Prop where
 ro:σ.M.NQ.length<=bO.M.NQ.length
 ob:σ.M.objs.length<=bO.M.objs.length
 ca:bO.calls=σ.calls
 st:σ.steps<=bO.steps
 k4:∀ s nm,K4 σ.M s nm->K4 bO.M s nm
def Po (p:Pl)(σ:St):Prop:=0<=p.scope/\p.scope<σ.M.NQ.length
structure Nx (N:Int)(σ bO:St):Prop where
 iv:Iv N bO
 ex:Ex σ bO
 st:bO.steps=σ.steps
variable {N N':Int}{σ σ1 ck:St}{v:Va}
theorem Ex.refl (σ:St):Ex σ σ:=⟨OH,OH,rfl,OH,fun _ _ h=>h⟩
theorem Ex.trans (h:Ex σ σ1)(k:Ex σ1 ck):Ex σ ck:=⟨Nat.le_trans h.ro k.ro,Nat.le_trans h.ob k.ob,k.ca.trans h.ca,Nat.le_trans h.st k.st,fun s nm x=>k.k4 s nm (h.k4 s nm x)⟩
theorem Iv.up (h:Iv N σ)(hN:N<=N'):Iv N' σ:=by
 obtain⟨n,h1,O⟩:=h.pz;exact⟨⟨n,h1,by omega⟩,h.gm,h.fn,h.ca,h.lr,h.lo⟩
theorem Nx.refl (h:Iv N σ):Nx N σ σ:=⟨h,Ex.refl _,rfl⟩
theorem Nx.trans (h:Nx N σ σ1)(k:Nx N' σ1 ck):Nx N' σ ck:=⟨k.iv,h.ex.trans k.ex,k.st.trans h.st⟩
theorem Nx.up (h:Nx N σ σ1)(hN:N<=N'):Nx N' σ σ1:=⟨h.iv.up hN,h.ex,h.st⟩
theorem Po.up {p:Pl}(h:Po p σ)(k:Ex σ σ1):Po p σ1:=⟨h.1,by have:=h.2;have:=k.ro;omega⟩
theorem Po.some {p:Pl}(h:Po p σ):(σ.M.ro p.scope).isSome=true:=by
 rcases OX σ.M p.scope with ⟨_,h1⟩|⟨i,x,_,_,h1⟩
 ·have:=h.1;have:=h.2;omega
 ·rw[h1];rfl
theorem Iv.heap {V:Va->Prop}{ce:Int}{M:Mo}(h:Iv N σ)(ai:Chg V ce σ.M M)(fV:∀ v,V v->Gv σ.M.objs.length v)(hg:∀ k,σ.M.Go k->M.Go (k+1)):Nx (N+1) σ { σ with M:=M }:=by
 obtain⟨n,h1,O⟩:=h.pz;refine⟨⟨⟨n+1,h1.heap (Nat.le_succ _) (hg _ h1.go) ai.rl,by show ((n+1:Nat):Int)<=N+1+10000 * σ.steps;omega⟩,ai.gm fV h.gm,fun f aG=>?_,h.ca,?_,?_⟩,⟨Nat.le_of_eq ai.rl.symm,Nat.le_of_eq ai.ol.symm,rfl,OH,fun _ _ x=>ai.k4 x⟩,rfl⟩
 ·show _/\_/\f.scope<(M.NQ.length:Int)
  rw[ai.rl];exact h.fn f aG
 ·show 2<=M.NQ.length
  rw[ai.rl];exact h.lr
 ·show 1<=M.objs.length
  rw[ai.ol];exact h.lo
section
variable (h:Iv N σ) (ap:Gv σ.M.objs.length v)
include h ap
theorem Iv.dec (s:Int)(nm:NR)(kd:Int):Nx (N+1) σ (σ.dec s nm kd v):=h.heap (Ut _ _ _ _ _) (fun _ e=>e ▸ ap) fun _ g=>g.declare _ _ _ _
theorem Iv.put (o:Int)(nm:NR)(fx:Bool):Nx (N+1) σ (σ.Qo o nm v fx):=h.heap (UN _ _ _ _ _) (fun _ e=>e ▸ ap) fun _ g=>g.put _ _ _ _
theorem Iv.write (s:Int)(nm:NR):Nx (N+1) σ { σ with M:=(σ.M.write s nm v).2 }:=h.heap (acS _ _ _ _) (fun _ e=>e ▸ ap) fun _ g=>g.write _ _ _
theorem Iv.start (s:Int)(nm:NR):Nx (N+1) σ { σ with M:=(σ.M.start s nm v).2 }:=h.heap (akW _ _ _ _) (fun _ e=>e ▸ ap) fun _ g=>g.start _ _ _
end
theorem Iv.drop (h:Iv N σ)(s:Int)(nm:NR):Nx (N+1) σ { σ with M:=(σ.M.drop s nm).2 }:=h.heap (an8 _ _ _) (fun _ e=>e.elim) fun _ g=>g.drop _ _
theorem Iv.cut (h:Iv N σ)(s:Int)(nm:NR):Nx (N+1) σ { σ with M:=(σ.M.cut s nm).2 }:=h.heap (ai7 _ _ _) (fun _ e=>e.elim) fun _ g=>g.cut _ _
theorem K4.app {M:Mo}{s:Int}{nm:NR}{os:List Ob}{l:List Ro}(h:K4 M s nm):K4 ⟨os,M.NQ++l⟩ s nm:=by
 obtain⟨i,x,c,h1,ac,O⟩:=h;exact⟨i,x,c,h1,(List.getElem?_append_left (List.getElem?_eq_some_iff.1 ac).1).trans ac,O⟩
theorem Gm.Oy {lJ zH:Nat}{M:Mo}{c:Int}(h:Gm lJ M)(aG:lJ<=zH)(ai:0<=c/\c<3+zH):Gm zH (M.Oy c):=by
 have hl:(M.Oy c).objs.length=M.objs.length+1:=by simp[Mo.Oy]
 refine⟨fun x ac p al=>?_,fun x ac p al=>?_,fun x ac=>?_⟩
 ·rw[hl]
  rcases List.mem_append.1 ac with ac|ac
  ·exact(h.pv x ac p al).up (Nat.le_succ _)
  ·rw[List.mem_singleton.1 ac] at al;cases al
 ·rw[hl];exact(h.cv x ac p al).up (Nat.le_succ _)
 ·rcases List.mem_append.1 ac with ac|ac
  ·have:=h.co x ac;omega
  ·rw[List.mem_singleton.1 ac];exact ai
theorem Iv.Oy (h:Iv N σ){c:Int}(ai:0<=c/\c<3+σ.Qn.length):Nx (N+1) σ { σ with M:=σ.M.Oy c }:=by
 obtain⟨n,h1,O⟩:=h.pz;exact⟨⟨⟨n+1,h1.heap (Nat.le_succ _) (h1.go.Oy _) rfl,by show ((n+1:Nat):Int)<=N+1+10000 * σ.steps;omega⟩,h.gm.Oy OH ai,h.fn,h.ca,h.lr,by have:=h.lo;simp[Mo.Oy]⟩,⟨OH,by simp[Mo.Oy],rfl,OH,fun _ _ x=>x⟩,rfl⟩
theorem Iv.mkFun (h:Iv N σ){d:Nd}{p:Pl}(hd:Fg d.2)(al:Po p σ):Nx (N+1) σ (mkFun d p σ).2/\Gv (mkFun d p σ).2.M.objs.length (mkFun d p σ).1:=by
 obtain⟨n,h1,O⟩:=h.pz;have nR:(Hp.mkFun d p σ).2.M.objs.length=σ.M.objs.length+1:=by simp[Hp.mkFun,Mo.Oy]
 have fG:(Hp.mkFun d p σ).2.Qn.length=σ.Qn.length+1:=by simp[Hp.mkFun]
 refine⟨⟨⟨⟨n+1,h1.mkFun d p,by show ((n+1:Nat):Int)<=N+1+10000 * σ.steps;omega⟩,?_,fun f aG=>?_,h.ca,h.lr,by omega⟩,⟨OH,by omega,rfl,OH,fun _ _ x=>x⟩,rfl⟩,?_⟩
 ·rw[fG];exact h.gm.Oy (Nat.le_succ _) ⟨by omega,by push_cast;omega⟩
 ·rcases List.mem_append.1 aG with aG|aG
  ·exact h.fn f aG
  ·rw[List.mem_singleton.1 aG];exact⟨hd,al⟩
 ·rw[nR];exact⟨fun e=>absurd rfl e,sm0,fun _=>⟨by show 0<=((σ.M.objs.length:Nat):Int);omega,by show ((σ.M.objs.length:Nat):Int)<_;omega⟩⟩
theorem Iv.opn (h:Iv N σ)(u o x:Int):Nx (N+1) σ (σ.opn u o x):=by
 obtain⟨n,h1,O⟩:=h.pz;have qy:(σ.opn u o x).M.NQ.length=σ.M.NQ.length+1:=by simp[St.opn,Mo.scope]
 refine⟨⟨⟨n+1,h1.opn u o x,by show ((n+1:Nat):Int)<=N+1+10000 * σ.steps;omega⟩,⟨h.gm.pv,fun y hy c ai=>?_,h.gm.co⟩,fun f aG=>?_,h.ca,by have:=h.lr;omega,h.lo⟩,⟨by omega,OH,rfl,OH,fun _ _ k=>k.app⟩,rfl⟩
 ·rcases List.mem_append.1 hy with hy|hy
  ·exact h.gm.cv y hy c ai
  ·rw[List.mem_singleton.1 hy] at ai;cases ai
 ·have:=h.fn f aG;rw[qy];exact⟨this.1,this.2.1,by omega⟩
theorem Nx.fold {α:Type}{f:St->α->St}{k:Nat}{P:St->Prop}(hP:∀ σ bO,Ex σ bO->P σ->P bO):∀ (l:List α),(∀ a ∈ l,∀ N σ,Iv N σ->P σ->Nx (N+k) σ (f σ a))->∀ {N:Int} {σ:St},Iv N σ->P σ->Nx (N+(k * l.length:Nat)) σ (l.foldl f σ)
 | [],_,N,σ,h,_=>(Nx.refl h).up Oq
 | a::l,aG,N,σ,h,al=>by
  have h1:=aG a List.mem_cons_self N σ h al;have O:=Nx.fold hP l (fun b D=>aG b (List.mem_cons_of_mem _ D)) h1.iv (hP _ _ h1.ex al);refine(h1.trans O).up ?_;rw[List.length_cons,Nat.mul_succ]
  push_cast
  omega
theorem Iv.settle (h:Iv N σ)(ap:Gv σ.M.objs.length v)(s:Int)(nm:NR):Nx (N+1) σ (settle s nm v σ):=by
 unfold Hp.settle
 split
 ·exact h.dec ap _ _ _
 ·exact h.write ap _ _
theorem akX {s:Int}(h:N4 σ.M s)(fh:Int)(nm:NR)(v:Va):N4 (settle fh nm v σ).M s:=by
 unfold Hp.settle
 split
 ·exact h.chg (Ut _ _ _ _ _) NH
 ·exact h.chg (acS _ _ _ _) NH
theorem Iv.lets (h:Iv N σ)(am:List Tr)(s:Int):Nx (N+am.length) σ (PK am s σ):=by
 have:=Nx.fold (P:=fun _=>True) (k:=1) (f:=fun σ (k:Tr)=>σ.dec s k.tx (if k.kd=4 then 2 else 1) vU) (fun _ _ _ h=>h) am (fun a _ N σ h _=>h.dec (Um _) _ _ _) h trivial;rw[Nat.one_mul] at this;exact this
theorem YM:∀ (am:List Tr) {s:Int} {N:Int} {σ:St},Iv N σ->N4 σ.M s->∀ k ∈ am,K4 (PK am s σ).M s k.tx
 | [],_,_,_,_,_,_,h=>by cases h
 | t::am,s,N,σ,h,aU,k,E=>by
  have h1:=h.dec (Um _) s t.tx (if t.kd=4 then 2 else 1);have ci:(if t.kd=4 then (2:Int) else 1)≠4:=by split <;> decide
  rcases List.mem_cons.1 E with rfl|E
  ·exact(h1.iv.lets am s).ex.k4 _ _ (aU.k4 _ ci _)
  ·exact YM am h1.iv (aU.chg (Ut _ _ _ _ _) ci) k E
theorem adU (σ:St)(u x:Int):N4 (σ.opn u (-1) x).M σ.top:=by
 refine⟨σ.M.NQ.length,_,rfl,by simp[St.opn,Mo.scope];rfl,?_,fun c ai=>by cases ai⟩
 simp
theorem Py {d k:Nd}(h:k ∈ O3 d):k.2 ∈ d.2.kids:=by
 have h1:k.2 ∈ (O3 d).map (·.2):=List.mem_map.2 ⟨k,h,rfl⟩
 rwa [aa6] at h1
structure Bk (t:Tr):Prop where
 ct:t.count<=1500
 ks:∀ u ∈ t.kids,Nk 1 u
theorem Nk.bk {c:Nat}{t:Tr}(h:Nk c t)(ai:c=3\/c=4\/c=9):Bk t:=by
 refine⟨h.ct,fun u aO=>?_⟩;have ae:=h.sh
 cases ae with
 | blk ae=>exact h.kid aO (ae u aO)
 | body _ ae=>exact h.kid aO (ae u aO)
 | prog _ ae=>exact h.kid aO (ae u aO)
 | _=>omega
theorem Nk.fg {t:Tr}(h:Nk 1 t)(E:t.kd=5):Fg t:=by
 refine⟨h.ct,h.nb,?_⟩;have ae:=h.sh
 cases ae with
 | func _ al D=>exact⟨_,_,_,_,_,rfl,al,D⟩
 | decl h1=>simp only[Tr.kd] at E;omega
 | agK h1=>cases h1;cases E
 | loop h1=>simp only[Tr.kd] at E;omega
 | give h1=>simp only[Tr.kd] at E;omega
 | _=>cases E
theorem X7 {d:Nd}(h:Bk d.2):∀ k ∈ Sl d,Fg k.2:=fun k E=>by
 obtain⟨h1,O⟩:=List.mem_filter.1 E;exact(h.ks _ (Py h1)).fg (by simpa[RN] using O)
theorem abx {d:Nd}(h:Bk d.2):(Sl d).length<=1500:=by
 have h1:=List.length_filter_le (fun k:Nd=>RN k.2) (O3 d);have O:=QI d;have ax:=Qg d.2;have aU:=h.ct;unfold Sl;omega
section
variable {t:Tr} (h:Bk t)
include t h
theorem Ru:(OC t).length<=1500:=by
 have h1:=List.length_filter_le OI t.kids;have ax:=Qg t;have aU:=h.ct;unfold OC;omega
theorem an9:(RS t).length<=1500:=by
 have h1:=List.length_filter_le RN t.kids;have ax:=Qg t;have aU:=h.ct;unfold RS;omega
theorem Zu:(O1 t).length<=1500:=by
 have h1:=WO t;have O:Tr.counts t.kids<t.count:=by cases t;rw[Tr.count];exact Nat.lt_add_of_pos_left Nw
 have aU:=h.ct;omega
end
theorem aoa {p:Pl}:∀ σ bO,Ex σ bO->Po p σ->Po p bO:=fun _ _ e h=>h.up e
theorem Iv.funcs (h:Iv N σ){d:Nd}{p:Pl}(hd:Bk d.2)(al:Po p σ):Nx (N+3000) σ (Tz d p σ):=by
 have h1:=Nx.fold (P:=Po p) (k:=2) (f:=fun σ k=>let r:=Hp.mkFun k p σ;Hp.settle p.scope k.2.tx r.1 r.2) aoa (Sl d) (fun a aw N σ h al=>by
  obtain⟨h1,O⟩:=h.mkFun (X7 hd a aw) al;exact(h1.trans (h1.iv.settle O _ _)).up (by push_cast;omega)) h al
 have O:=abx hd;exact h1.up (by push_cast;omega)
theorem aob {l:List NR}(h:(Wu l).length=0):l=[]:=by
 cases l with
 | nil=>rfl
 | cons a l=>
  exfalso;have key:∀ (l be:List NR),be.length<=(l.foldl Y6 be).length:=by
   intro l
   induction l with
   | nil=>intro be;exact OH
   | cons b l bR=>
    intro be;refine Nat.le_trans ?_ (bR _);unfold Y6
    split
    ·exact OH
    ·simp
  have h1:=key l (Y6 [] a);unfold Wu at h;rw[List.foldl_cons] at h;have O:(Y6 [] a).length=1:=by unfold Y6;rw[if_neg (by simp[hasB])];rfl
  omega
theorem XG {t k:Tr}(E:k ∈ t.kids)(hl:OI k=true):k ∈ OC t:=List.mem_filter.2 ⟨E,hl⟩
section
variable (h:Iv N σ)
include h
theorem Iv.block {d:Nd}{p:Pl}(hd:Bk d.2)(al:Po p σ):Nx (N+5000) σ (O8 d p σ).2/\Po (O8 d p σ).1 (O8 d p σ).2/\∀ k ∈ O3 d,OI k.2=true->K4 (O8 d p σ).2.M (O8 d p σ).1.scope k.2.tx:=by
 unfold O8
 split
 ·rename_i h0
  refine⟨(Nx.refl h).up Nw,al,fun k E hl=>?_⟩;unfold namesT at h0;have h1:=aob h0;have O:(OC d.2).map Tr.tx=[]:=(List.append_eq_nil_iff.1 h1).2;have ax:=XG (Py E) hl;rw[List.map_eq_nil_iff.1 O] at ax;cases ax
 ·have h1:=h.opn p.scope (-1) (own d);have O:=h1.iv.lets (OC d.2) σ.top;have kn:Po { p with scope:=σ.top } (PK (OC d.2) σ.top (σ.opn p.scope (-1) (own d))):=by
   refine Po.up ?_ O.ex;exact aBt
  have ax:=O.iv.funcs hd kn;have hl:=Ru hd;refine⟨((h1.trans O).trans ax).up Nw,kn.up ax.ex,fun k E hl=>?_⟩;exact ax.ex.k4 _ _ (YM _ h1.iv (adU _ _ _) _ (XG (Py E) hl))
theorem Iv.lam {d:Nd}{p:Pl}(hd:Fg d.2)(al:Po p σ):Nx (N+5) σ (VG d p σ).2/\Gv (VG d p σ).2.M.objs.length (VG d p σ).1:=by
 unfold VG
 split
 ·obtain⟨h1,O⟩:=h.mkFun hd al;exact⟨h1.up Nw,O⟩
 ·have h1:=h.opn p.scope (-1) (own d);have kn:Po { p with scope:=σ.top } (σ.opn p.scope (-1) (own d)):=
   ⟨by show (0:Int)<=(σ.M.NQ.length:Int);omega,by show (σ.M.NQ.length:Int)<_;simp[St.opn,Mo.scope];omega⟩
  obtain⟨O,ax⟩:=h1.iv.mkFun hd kn;have aU:=O.iv.dec ax σ.top d.2.tx 3;exact⟨((h1.trans O).trans aU).up Nw,ax.up aU.ex.ob⟩
theorem Iv.look (d:Nd)(p:Pl):Nx (N+1) σ (look d p σ).2:=by
 unfold Hp.look;simp only
 split
 ·split
  ·obtain⟨n,h1,O⟩:=h.pz;exact⟨⟨⟨n+1,⟨h1.go.up (Nat.le_succ _),Nat.le_succ_of_le h1.ow,Nat.le_succ_of_le h1.fn,Nat.le_succ_of_le h1.lg,by have:=h1.se;simp;omega,h1.oe⟩,by show ((n+1:Nat):Int)<=N+1+10000 * σ.steps;omega⟩,h.gm,h.fn,h.ca,h.lr,h.lo⟩,⟨OH,OH,rfl,OH,fun _ _ x=>x⟩,rfl⟩
  ·exact(Nx.refl h).up Nw
 ·exact(Nx.refl h).up Nw
theorem Iv.log (s:NR):Nx (N+1) σ { σ with log:=σ.log++[s] }:=by
 obtain⟨n,h1,O⟩:=h.pz;exact⟨⟨⟨n+1,⟨h1.go.up (Nat.le_succ _),Nat.le_succ_of_le h1.ow,Nat.le_succ_of_le h1.fn,by have:=h1.lg;simp;omega,Nat.le_succ_of_le h1.se,h1.oe⟩,by show ((n+1:Nat):Int)<=N+1+10000 * σ.steps;omega⟩,h.gm,h.fn,h.ca,h.lr,h.lo⟩,⟨OH,OH,rfl,OH,fun _ _ x=>x⟩,rfl⟩
end
theorem gvR {n:Nat}{o:Int}(h:0<=o/\o<n):Gv n (Rz o):=⟨fun e=>absurd rfl e,sm0,fun _=>h⟩
theorem aFo {v:Va}:∀ σ bO,Ex σ bO->Gv σ.M.objs.length v->Gv bO.M.objs.length v:=fun _ _ e h=>h.up e.ob
theorem ad6 {l:List Va}:∀ σ bO,Ex σ bO->(∀ v ∈ l,Gv σ.M.objs.length v)->∀ v ∈ l,Gv bO.M.objs.length v:=fun _ _ e h v ap=>(h v ap).up e.ob
theorem ard {α:Type}{l:List α}{x:α × Nat}(h:x ∈ l.zipIdx):x.1 ∈ l:=by
 obtain⟨a,i⟩:=x;exact List.fst_mem_of_mem_zipIdx h
theorem Iv.args (h:Iv N σ){args:List Va}(hl:args.length<=1500)(aw:∀ v ∈ args,Gv σ.M.objs.length v):Nx (N+2+args.length) σ (QY args σ).2/\Gv (QY args σ).2.M.objs.length (QY args σ).1:=by
 obtain⟨o,aM⟩:=xE (σ.M.objs.length:Int);have h1:=h.Oy (c:=0) Nw;have O:=h1.iv.put (v:=VF args.length) (gvN (by unfold Nb;omega)) o XC false
 have hH:=h1.trans O;have ax:Nx _ _ (args.zipIdx.foldl (fun σ (v,i)=>σ.Qo o (Xa ⟨#[97]⟩ (ZB i)) v false) _):=Nx.fold (P:=fun σ=>∀ v ∈ args,Gv σ.M.objs.length v) (k:=1) ad6 args.zipIdx (fun x ac N σ h al=>by
  have aV:=ard ac;obtain⟨v,i⟩:=x;exact h.put (al _ aV) _ _ _) hH.iv (ad6 _ _ hH.ex aw)
 unfold QY;rw[<-aM];refine⟨(hH.trans ax).up (by rw[List.length_zipIdx];push_cast;omega),gvR ⟨by omega,?_⟩⟩
 refine Int.lt_of_lt_of_le ?_ (Int.ofNat_le.2 ax.ex.ob);have cA:(({ σ with M:=σ.M.Oy 0 }:St).Qo o XC (VF args.length) false).M.objs.length=σ.M.objs.length+1:=by
  show (Mo.put _ _ _ _ _).2.objs.length=_
  rw[(UN _ _ _ _ _).ol];simp[Mo.Oy]
 rw[cA];omega
theorem acT:∀ (no:Option Nat) (am:List Tr) (i:Nat),((ZN no am).getD i apI).2=am.getD i apI.2
 | _,[],i=>by simp[ZN]
 | no,t::am,0=>rfl
 | no,t::am,i+1=>by
  rw[ZN];exact acT _ am i
theorem VN (d:Nd)(i:Nat):(Nz d i).2=d.2.kids.getD i apI.2:=acT _ _ _
theorem YN {α:Type}{f:St->α->St}{s:Int}(aG:∀ σ a,N4 σ.M s->N4 (f σ a).M s):∀ (l:List α) {σ:St},N4 σ.M s->N4 (l.foldl f σ).M s
 | [],_,h=>h
 | a::l,σ,h=>YN aG l (aG σ a h)
theorem arf {s:Int}(h:N4 σ.M s)(args:List Va):N4 (QY args σ).2.M s:=by
 unfold QY;refine YN (fun σ a h=>?_) _ ?_
 ·obtain⟨v,i⟩:=a;exact h.chg (UN _ _ _ _ _) NH
 ·exact N4.chg (M:=σ.M.Oy 0) h (UN _ _ _ _ _) NH
section
variable (h:Iv N σ)
include h
theorem Iv.body {d:Nd}{p:Pl}(hd:Fg d.2)(al:Po p σ)(aU:N4 σ.M p.scope){args:List Va}(hl:args.length<=1500)(aw:∀ v ∈ args,Gv σ.M.objs.length v) :
  Nx (N+8000) σ (QZ d p args σ)/\Bk (Nz d 1).2/\∀ k ∈ O3 (Nz d 1),OI k.2=true->K4 (QZ d p args σ).M p.scope k.2.tx:=by
 obtain⟨kd,s,n,Bz,b,m1,sH,D⟩:=hd.sh;have aH:(Nz d 0).2=Bz:=by rw[VN,m1];rfl
 have av:(Nz d 1).2=b:=by rw[VN,m1];rfl
 have hbk:Bk (Nz d 1).2:=by
  rw[av];have aV:b ∈ d.2.kids:=by rw[m1];exact List.mem_cons_of_mem _ (List.mem_singleton.2 rfl)
  exact Nk.bk (c:=4) ⟨D,by have:=XF aV;have:=hd.ct;omega,(YG hd.nb).1 b aV⟩ Nw
 have eY:(Nz d 0).2.kids.length<=8:=by
  rw[aH]
  cases sH with
  | ajB _ hl=>exact hl
 refine⟨?_,hbk,?_⟩
 all_goals
  have h1:Nx _ _ (((Nz d 0).2.kids.zipIdx).foldl (fun σ (k,i)=>Hp.settle p.scope k.tx (args.getD i vU) σ) σ):=Nx.fold (P:=fun σ=>∀ v ∈ args,Gv σ.M.objs.length v) (k:=1) ad6 (Nz d 0).2.kids.zipIdx (fun x ac N σ h al=>by
   obtain⟨k,i⟩:=x;refine h.settle ?_ _ _;rw[List.getD_eq_getElem?_getD]
   cases ay:args[i]? with
   | none=>exact Um _
   | some v=>exact al v (List.mem_of_getElem? ay)) h aw
  have bT:N4 (((Nz d 0).2.kids.zipIdx).foldl (fun σ (k,i)=>Hp.settle p.scope k.tx (args.getD i vU) σ) σ).M p.scope:=YN (fun σ a h=>by
   obtain⟨k,i⟩:=a;exact akX h _ _ _) _ aU
  unfold QZ;simp only
  generalize ((Nz d 0).2.kids.zipIdx).foldl (fun σ (k,i)=>Hp.settle p.scope k.tx (args.getD i vU) σ) σ=σ1 at h1 bT ⊢
  rw[List.length_zipIdx] at h1;have ha1:=ad6 _ _ h1.ex aw;obtain⟨ck,zK⟩:=xE (if hasArgs (Nz d 0).2.kids (Nz d 1).2=true then (QY args σ1).2.dec p.scope tArgs 0 (QY args σ1).1 else σ1);have O:Nx (N+1600) σ ck/\N4 ck.M p.scope:=by
   rw[zK]
   split
   ·obtain⟨bN,cA⟩:=h1.iv.args hl ha1;have j1:=bN.iv.dec cA p.scope tArgs 0;exact⟨((h1.trans bN).trans j1).up (by push_cast;omega),(arf bT args).chg (Ut _ _ _ _ _) NH⟩
   ·exact⟨h1.up (by push_cast;omega),bT⟩
  rw[<-zK];obtain⟨O,cY⟩:=O;clear zK;have ax:Nx _ _ ((O1 (Nz d 1).2).foldl (fun σ nm=>σ.dec p.scope nm 0 vU) ck):=Nx.fold (P:=fun _=>True) (k:=1) (fun _ _ _ h=>h) (O1 (Nz d 1).2) (fun x _ N σ h _=>h.dec (Um _) _ _ _) O.iv trivial;have hx:N4 ((O1 (Nz d 1).2).foldl (fun σ nm=>σ.dec p.scope nm 0 vU) ck).M p.scope:=YN (fun σ a h=>h.chg (Ut _ _ _ _ _) NH) _ cY
  generalize (O1 (Nz d 1).2).foldl (fun σ nm=>σ.dec p.scope nm 0 vU) ck=qL at ax hx ⊢
  have h7:=Zu hbk;have il:=Ru hbk;have bN:=ax.iv.lets (OC (Nz d 1).2) p.scope;have cA:=bN.iv.funcs (d:=Nz d 1) hbk ((al.up (O.trans ax).ex).up bN.ex)
 ·exact(((O.trans ax).trans bN).trans cA).up (by push_cast;omega)
 ·exact fun k E hl=>cA.ex.k4 _ _ (YM _ ax.iv hx _ (XG (Py E) hl))
theorem Iv.loosen (s:Int)(nm:NR):Nx (N+1) σ (loosen s nm σ):=by
 unfold Hp.loosen
 split
 ·exact(Nx.refl h).up Nw
 ·split
  ·exact h.put (Um _) _ _ _
  ·exact h.dec (Um _) _ _ _
theorem Iv.asx {d:Nd}{p:Pl}(hd:Bk d.2)(al:Po p σ):Nx (N+8000) σ (NW d p σ).2/\Po (NW d p σ).1 (NW d p σ).2/\∀ k ∈ O3 d,OI k.2=true->K4 (NW d p σ).2.M (NW d p σ).1.scope k.2.tx:=by
 have h1:Nx _ _ ((Ri d.2).foldl (fun σ nm=>Hp.loosen p.declares nm σ) σ):=Nx.fold (P:=fun _=>True) (k:=1) (fun _ _ _ h=>h) (Ri d.2) (fun x _ N σ h _=>h.loosen _ _) h trivial;unfold NW;simp only
 generalize (Ri d.2).foldl (fun σ nm=>Hp.loosen p.declares nm σ) σ=σ1 at h1 ⊢
 have xD:(Ri d.2).length<=3000:=by
  have:=Zu hd;have:=an9 hd;unfold Ri;rw[List.length_append,List.length_map];omega
 obtain⟨q,ag⟩:=xE (if 0<(OC d.2).length then ({ p with scope:=σ1.top },PK (OC d.2) σ1.top (σ1.opn p.scope (-1) (-3))) else (p,σ1):Pl × St);rw[<-ag];have O:Nx (N+4600) σ q.2/\Po q.1 q.2/\∀ k ∈ O3 d,OI k.2=true->K4 q.2.M q.1.scope k.2.tx:=by
  rw[ag]
  split
  ·have bN:=h1.iv.opn p.scope (-1) (-3);have cA:=bN.iv.lets (OC d.2) σ1.top;have il:=Ru hd;refine⟨((h1.trans bN).trans cA).up (by push_cast;omega),Po.up ?_ cA.ex,fun k E hl=>YM _ bN.iv (adU _ _ _) _ (XG (Py E) hl)⟩
   exact⟨by show (0:Int)<=(σ1.M.NQ.length:Int);omega,by show (σ1.M.NQ.length:Int)<_;simp[St.opn,Mo.scope];omega⟩
  ·rename_i h0
   refine⟨h1.up (by push_cast;omega),al.up h1.ex,fun k E hl=>?_⟩
   have:=XG (Py E) hl;rw[List.eq_nil_of_length_eq_zero (by omega:(OC d.2).length=0)] at this;cases this
 clear ag;obtain⟨O,bK,e4⟩:=O;have ax:Nx _ _ ((Sl d).foldl (fun σ k=>let r:=Hp.mkFun k q.1 σ;{ r.2 with M:=(r.2.M.write q.1.declares k.2.tx r.1).2 }) q.2):=Nx.fold (P:=Po q.1) (k:=2) aoa (Sl d) (fun a aw N σ h al=>by
  obtain⟨h1,O⟩:=h.mkFun (X7 hd a aw) al;exact(h1.trans (h1.iv.write O _ _)).up (by push_cast;omega)) O.iv bK
 have fG:=abx hd;exact⟨(O.trans ax).up (by push_cast;omega),bK.up ax.ex,fun k E hl=>ax.ex.k4 _ _ (e4 k E hl)⟩
theorem Iv.prog {d:Nd}(hd:Bk d.2)(aU:N4 σ.M 1):Nx (N+8000) σ (Px d σ).2/\Po (Px d σ).1 (Px d σ).2/\∀ k ∈ O3 d,OI k.2=true->K4 (Px d σ).2.M (Px d σ).1.scope k.2.tx:=by
 have h1:Nx _ _ ((O1 d.2).foldl (fun σ nm=>if σ.M.has 0 nm then σ else σ.Qo 0 nm vU true) σ):=Nx.fold (P:=fun _=>True) (k:=1) (fun _ _ _ h=>h) (O1 d.2) (fun x _ N σ h _=>by
  split
  ·exact(Nx.refl h).up Nw
  ·exact h.put (Um _) _ _ _) h trivial
 have bT:N4 ((O1 d.2).foldl (fun σ nm=>if σ.M.has 0 nm then σ else σ.Qo 0 nm vU true) σ).M 1:=YN (fun σ a h=>by
  split
  ·exact h
  ·exact h.chg (UN _ _ _ _ _) NH) _ aU
 unfold Px;simp only
 generalize (O1 d.2).foldl (fun σ nm=>if σ.M.has 0 nm then σ else σ.Qo 0 nm vU true) σ=σ1 at h1 bT ⊢
 have h7:=Zu hd;have il:=Ru hd;have O:=h1.iv.lets (OC d.2) 1;have bK:Po ⟨1,0,Ou d.2⟩ (PK (OC d.2) 1 σ1):=⟨by show (0:Int)<=1;omega,by show (1:Int)<_;have:=O.iv.lr;omega⟩
 have ax:Nx _ _ ((Sl d).foldl (fun σ k=>let r:=Hp.mkFun k ⟨1,0,Ou d.2⟩ σ;r.2.Qo 0 k.2.tx r.1 true) (PK (OC d.2) 1 σ1)):=Nx.fold (P:=Po ⟨1,0,Ou d.2⟩) (k:=2) aoa (Sl d) (fun a aw N σ h al=>by
  obtain⟨h1,O⟩:=h.mkFun (X7 hd a aw) al;exact(h1.trans (h1.iv.put O _ _ _)).up (by push_cast;omega)) O.iv bK
 have fG:=abx hd;exact⟨((h1.trans O).trans ax).up (by push_cast;omega),bK.up ax.ex,fun k E hl=>ax.ex.k4 _ _ (YM _ h1.iv bT _ (XG (Py E) hl))⟩
end
def Eo (σ:St):Er->Prop
 | .no=>σ.steps<=20000
 | .stop=>σ.steps=20001
 | .Wq v=>σ.steps<=20000/\Gv σ.M.objs.length v
 | .mis=>False
structure VO (N:Int)(σ:St)(r:(Va × Er) × St):Prop where
 iv:Iv N r.2
 ex:Ex σ r.2
 er:Eo r.2 r.1.2
 va:Gv r.2.M.objs.length r.1.1
structure Q (f:Nat)(N:Int)(p:Pl)(σ:St):Prop where
 fu:20001<σ.steps+f
 st:σ.steps<=20000
 iv:Iv N σ
 po:Po p σ
def Lg (σ:St)(l:Option Va):Prop:=∀ v,l=some v->Gv σ.M.objs.length v
structure SO (N:Int)(σ:St)(r:(Oc × Er × Option Va) × St):Prop where
 iv:Iv N r.2
 ex:Ex σ r.2
 er:Eo r.2 r.1.2.1
 va:Gv r.2.M.objs.length r.1.1.v
 la:Lg r.2 r.1.2.2
structure FI (F:Fx)(f:Nat):Prop where
 v:∀ {N d p σ},Q f N p σ->Nk 0 d.2->VO N σ (F.v d p σ)/\σ.steps<(F.v d p σ).2.steps
 s:∀ {N d p l σ},Q f N p σ->Nk 1 d.2->(OI d.2=true->K4 σ.M p.scope d.2.tx)->Lg σ l->SO N σ (F.s d p l σ)/\σ.steps<(F.s d p l σ).2.steps
variable {e:Er}{f:Nat}{p:Pl}{F:Fx}{d:Nd}{l b8:Option Va}{o:Oc}
section
variable (h:Q f N p σ)
include h
theorem Q.nx (k:Nx N' σ σ1):Q f N' p σ1:=⟨by rw[k.st];exact h.fu,by rw[k.st];exact h.st,k.iv,h.po.up k.ex⟩
theorem Q.next (k:VO N' σ ((v,.no),σ1)):Q f N' p σ1:=⟨by have:=h.fu;have:=k.ex.st;dsimp only at this;omega,k.er,k.iv,h.po.up k.ex⟩
theorem Q.nexts (k:SO N' σ ((o,.no,l),σ1)):Q f N' p σ1:=⟨by have:=h.fu;have:=k.ex.st;dsimp only at this;omega,k.er,k.iv,h.po.up k.ex⟩
theorem Q.up (hN:N<=N'):Q f N' p σ:=⟨h.fu,h.st,h.iv.up hN,h.po⟩
end
theorem VO.up {r:(Va × Er) × St}(h:VO N σ r)(hN:N<=N'):VO N' σ r:=⟨h.iv.up hN,h.ex,h.er,h.va⟩
theorem SO.up {r:(Oc × Er × Option Va) × St}(h:SO N σ r)(hN:N<=N'):SO N' σ r:=⟨h.iv.up hN,h.ex,h.er,h.va,h.la⟩
theorem VO.after {r:(Va × Er) × St}(k:Ex σ σ1)(h:VO N σ1 r):VO N σ r:=⟨h.iv,k.trans h.ex,h.er,h.va⟩
theorem SO.after {r:(Oc × Er × Option Va) × St}(k:Ex σ σ1)(h:SO N σ1 r):SO N σ r:=⟨h.iv,k.trans h.ex,h.er,h.va,h.la⟩
theorem VO.err (h:VO N σ ((v,e),σ1)):VO N σ ((vU,e),σ1):=⟨h.iv,h.ex,h.er,Um _⟩
theorem VO.aoc (h:VO N σ ((v,e),σ1))(hl:Lg σ l):SO N σ ((PX,e,l),σ1):=⟨h.iv,h.ex,h.er,Um _,fun x ac=>(hl x ac).up h.ex.ob⟩
theorem VO.ret (h:Nx N σ σ1)(ae:σ.steps<=20000)(ap:Gv σ1.M.objs.length v):VO N σ ((v,.no),σ1):=⟨h.iv,h.ex,by show σ1.steps<=20000;rw[h.st];exact ae,ap⟩
theorem VO.bad {s:NR}(h:Nx N σ σ1)(ae:σ.steps<=20000)(ap:Sm s):VO N σ ((vU,bad s),σ1):=⟨h.iv,h.ex,⟨by rw[h.st];exact ae,gvT ap⟩,Um _⟩
theorem Lg.up (h:Lg σ l)(k:Ex σ σ1):Lg σ1 l:=fun x ac=>(h x ac).up k.ob
theorem SO.ret (h:Nx N σ σ1)(ae:σ.steps<=20000)(ap:Gv σ1.M.objs.length o.v)(hl:Lg σ1 l):SO N σ ((o,.no,l),σ1):=⟨h.iv,h.ex,by show σ1.steps<=20000;rw[h.st];exact ae,ap,hl⟩
theorem ai9 {lJ:Nat}{M:Mo}{o:Int}{nm:NR}{q:Pr}(h:Gm lJ M)(al:M.prop o nm=some q):Gv M.objs.length q.v:=by
 unfold Mo.prop at al;obtain⟨x,h1,O⟩:=Option.bind_eq_some_iff.1 al;have ac:x ∈ M.objs:=by
  rcases Qm M o with ⟨h0,_⟩|⟨i,y,_,hy,ax⟩
  ·rw[h0] at h1;cases h1
  ·rw[ax] at h1;cases h1;exact List.mem_of_getElem? hy
 exact h.pv x ac q (List.mem_of_find?_eq_some O)
theorem arh {lJ:Nat}{M:Mo}(h:Gm lJ M)(s:Int)(nm:NR):Gv M.objs.length (M.read s nm).1:=by
 unfold Mo.read
 cases ai:M.XM s nm with
 | some c=>
  simp only
  split
  ·unfold Mo.XM at ai;obtain⟨x,h1,O⟩:=Option.bind_eq_some_iff.1 ai;have ac:x ∈ M.NQ:=by
    rcases OX M s with ⟨h0,_⟩|⟨i,y,_,hy,ax⟩
    ·rw[h0] at h1;cases h1
    ·rw[ax] at h1;cases h1;exact List.mem_of_getElem? hy
   exact h.cv x ac c (List.mem_of_find?_eq_some O)
  ·exact Um _
 | none=>
  simp only
  cases al:M.prop (M.Ql s) nm with
  | none=>exact Um _
  | some q=>exact ai9 h al
theorem smR:Sm Qe:=by decide
theorem smT:Sm tType:=by decide
theorem smG:Sm SS:=by decide
theorem smS:Sm SE:=by decide
theorem aod {M:Mo}{o:Int}(h:0<=o/\o<M.objs.length)(nm:NR)(v:Va)(fx:Bool):(M.put o nm v fx).1=0:=by
 unfold Mo.put
 rcases Qm M o with ⟨_,h1⟩|⟨i,x,rfl,ac,h1⟩
 ·omega
 ·rw[h1];simp only
  split
  ·rfl
  ·split <;> rfl
theorem aoe {M:Mo}{s:Int}{nm:NR}(h:K4 M s nm)(v:Va):(M.start s nm v).1=0:=by
 obtain⟨i,x,c,rfl,ac,ai,h1,_⟩:=h;unfold Mo.start
 rcases OX M i with ⟨_,O⟩|⟨j,y,e,hy,O⟩
 ·have:=(List.getElem?_eq_some_iff.1 ac).1;omega
 ·have e:i=j:=Nw;subst e;rw[ac] at hy;cases hy;rw[O];simp only
  rcases UM (fun c=>YS nm c.name) x.cs with ⟨ax,_⟩|⟨k,ft,ax,aU,_,_⟩
  ·exact absurd (List.findIdx?_eq_none_iff.1 ax c ai) (by rw[h1];simp)
  ·rw[show fC nm x.cs=some k from ax];simp only[aU]
section
variable (h:Iv N σ) (ae:σ.steps<=20000) (ap:Gv σ.M.objs.length v) (s:Int) (nm:NR) (st:Bool)
include h ae ap s nm st
theorem akY:Iv (N+1) (V5 s nm v st σ).2/\Ex σ (V5 s nm v st σ).2/\Eo (V5 s nm v st σ).2 (V5 s nm v st σ).1:=by
 unfold V5
 split
 ·exact⟨h.up Nw,Ex.refl _,ae,gvT smR⟩
 ·simp only;obtain⟨q,ag⟩:=xE (if σ.M.Ql s = -1 then 0 else σ.M.Ql s);rw[<-ag];have eK:0<=q/\q<σ.M.objs.length:=by
   have nN:=h.lo;rw[ag]
   split
   ·omega
   ·rename_i h0
    obtain⟨n,aJ,_⟩:=h.pz;unfold Mo.Ql at h0 ⊢
    rcases OX σ.M s with ⟨h1,_⟩|⟨i,x,rfl,ac,h1⟩
    ·rw[h1] at h0;exact absurd rfl h0
    ·rw[h1] at h0 ⊢;change x.object≠-1 at h0
     show 0<=x.object/\x.object<_
     rcases aJ.go.ok.obj i x ac with O|⟨j,O,ax⟩
     ·exact absurd O h0
     ·omega
  have h1:=h.put ap q nm false;refine⟨h1.iv,h1.ex,?_⟩;rw[aod eK]
  show (σ.Qo q nm v false).steps<=20000
  exact ae
theorem aof:Iv (N+2) (asg s nm v st σ).2/\Ex σ (asg s nm v st σ).2/\Eo (asg s nm v st σ).2 (asg s nm v st σ).1:=by
 have h1:=h.write ap s nm;unfold asg;simp only;have ay:=h1.iv.up (show N+1<=N+2 by omega)
 split
 ·obtain⟨O,ax,aU⟩:=akY h1.iv ae (ap.up h1.ex.ob) s nm st;exact⟨O.up Nw,h1.ex.trans ax,aU⟩
 ·split
  ·exact⟨ay,h1.ex,ae,gvT smR⟩
  ·split
   ·exact⟨ay,h1.ex,ae,gvT smT⟩
   ·split
    ·refine⟨ay,h1.ex,?_⟩
     dsimp only
     split
     ·exact⟨ae,gvT smT⟩
     ·exact ae
    ·exact⟨ay,h1.ex,ae⟩
end
theorem aja (M:Nat)(n:Int):Gv M (TJ n).1/\((TJ n).2=.no\/(TJ n).2=bad SS):=by
 unfold TJ
 split
 ·exact⟨Um _,.inr rfl⟩
 ·exact⟨gvN ⟨by omega,by omega⟩,.inl rfl⟩
theorem ari (n:Nat)(M:Mo)(kd:Int)(a b:Va):Gv n (U2 M kd a b).1/\((U2 M kd a b).2=.no\/∃ s,(U2 M kd a b).2=bad s/\Sm s):=by
 have aA:∀ k,Gv n (TJ k).1/\((TJ k).2=.no\/∃ s,(TJ k).2=bad s/\Sm s):=fun k=>⟨(aja n k).1,(aja n k).2.imp id fun e=>⟨_,e,smG⟩⟩;unfold U2
 split
 ·exact⟨gvB _ _,.inl rfl⟩
 ·split
  ·split
   ·exact⟨gvB _ _,.inl rfl⟩
   ·split
    ·exact aA _
    ·split <;> exact aA _
  ·split
   ·split
    ·exact⟨Um _,.inr ⟨_,rfl,smG⟩⟩
    ·rename_i h0
     refine⟨gvT ?_,.inl rfl⟩;have:(Xa (M.shw a) (M.shw b)).size=(M.shw a).size+(M.shw b).size:=by
      show (List.toArray _).size=_
      rw[List.size_toArray,List.length_append];rfl
     unfold Sm;omega
   ·split
    ·exact⟨gvB _ _,.inl rfl⟩
    ·exact⟨Um _,.inr ⟨_,rfl,smT⟩⟩
theorem arj (M:Mo)(v:Va):Sm (Ul M v):=by
 unfold Ul
 repeat' split
 all_goals decide
structure LO (N:Int)(σ:St)(r:(List Va × Er) × St)(n:Nat):Prop where
 iv:Iv N r.2
 ex:Ex σ r.2
 er:Eo r.2 r.1.2
 va:∀ v ∈ r.1.1,Gv r.2.M.objs.length v
 ln:r.1.1.length<=n
theorem abd (ak:FI F f):∀ (a1:List Nd) (be:List Va) {σ:St},Q f N p σ->(∀ d ∈ a1,Nk 0 d.2)->(∀ v ∈ be,Gv σ.M.objs.length v)->LO N σ (TU F p a1 be σ) (be.length+a1.length)
 | [],be,σ,h,_,aw=>⟨h.iv,Ex.refl _,h.st,aw,OH⟩
 | d::a1,be,σ,h,hd,aw=>by
  have h1:=(ak.v h (hd d List.mem_cons_self)).1;rw[TU]
  rcases U:F.v d p σ with ⟨⟨v,e⟩,σ1⟩
  rw[U] at h1
  cases e with
  | no=>
   have O:=abd ak a1 (be++[v]) (h.next h1) (fun x ac=>hd x (List.mem_cons_of_mem _ ac)) (fun x ac=>by
    rcases List.mem_append.1 ac with ac|ac
    ·exact(aw x ac).up h1.ex.ob
    ·rw[List.mem_singleton.1 ac];exact h1.va)
   exact⟨O.iv,h1.ex.trans O.ex,O.er,O.va,by have:=O.ln;simp at this ⊢;omega⟩
  | _=>exact⟨h1.iv,h1.ex,h1.er,(fun x ac=>by cases ac),Nat.zero_le _⟩
theorem Zk (ak:FI F f):∀ (a1:List Nd) {l:Option Va} {σ:St},Q f N p σ->(∀ d ∈ a1,Nk 1 d.2)->(∀ d ∈ a1,OI d.2=true->K4 σ.M p.scope d.2.tx)->Lg σ l->SO N σ (QC F p a1 l σ)
 | [],l,σ,h,_,_,hl=>⟨h.iv,Ex.refl _,h.st,Um _,hl⟩
 | d::a1,l,σ,h,hd,E,hl=>by
  have h1:=(ak.s h (hd d List.mem_cons_self) (E d List.mem_cons_self) hl).1;rw[QC]
  rcases U:F.s d p l σ with ⟨⟨o,e,b8⟩,σ1⟩
  rw[U] at h1
  cases e with
  | no=>
   dsimp only
   split
   ·exact h1
   ·exact(Zk ak a1 (h.nexts h1) (fun x ac=>hd x (List.mem_cons_of_mem _ ac)) (fun x ac eM=>h1.ex.k4 _ _ (E x (List.mem_cons_of_mem _ ac) eM)) h1.la).after h1.ex
  | _=>exact h1
theorem acU {g:St->(Va × Er) × St}(h:Q f N p σ)(hg:σ.calls≠40->VO N' { σ with calls:=σ.calls+1 } (g { σ with calls:=σ.calls+1 }))(hN:N<=N'):VO N' σ (within σ g):=by
 unfold Hp.within
 split
 ·exact .bad ((Nx.refl h.iv).up hN) h.st smG
 ·rename_i h0
  have h1:=hg h0;have ai:=h1.ex.ca
  dsimp only at ai
  refine⟨?_,⟨h1.ex.ro,h1.ex.ob,by show (g _).2.calls - 1=σ.calls;rw[ai];rfl,h1.ex.st,h1.ex.k4⟩,?_,h1.va⟩
  ·obtain⟨n,aJ,aA⟩:=h1.iv.pz;exact⟨⟨n,⟨aJ.go,aJ.ow,aJ.fn,aJ.lg,aJ.se,aJ.oe⟩,aA⟩,h1.iv.gm,h1.iv.fn,by have:=h1.iv.ca;show (g _).2.calls - 1<=40;omega,h1.iv.lr,h1.iv.lo⟩
  ·have O:=h1.er
   dsimp only
   revert O
   cases (g { σ with calls:=σ.calls+1 }).1.2 with
   | _=>exact id
theorem Q.call (h:Q f N p σ)(ai:σ.calls≠40):Q f N p { σ with calls:=σ.calls+1 }:=by
 obtain⟨n,aJ,aA⟩:=h.iv.pz;exact⟨h.fu,h.st,⟨⟨n,⟨aJ.go,aJ.ow,aJ.fn,aJ.lg,aJ.se,aJ.oe⟩,aA⟩,h.iv.gm,h.iv.fn,by have:=h.iv.ca;show σ.calls+1<=40;omega,h.iv.lr,h.iv.lo⟩,h.po⟩
theorem aog (ak:FI F f)(h:Q f N p σ){fn:Fu}(hs:Fg fn.d.2){args:List Va}(hl:args.length<=1500)(aw:∀ v ∈ args,Gv σ.M.objs.length v):VO (N+9000) σ (V6 F fn args σ):=by
 unfold V6;refine acU h (fun ai=>?_) Nw;have h1:=h.call ai
 dsimp only
 have O:=h1.iv.opn fn.scope (-1) (own fn.d);have ha1:∀ v ∈ args,Gv (St.opn { σ with calls:=σ.calls+1 } fn.scope (-1) (own fn.d)).M.objs.length v:=aw;have bT:=adU { σ with calls:=σ.calls+1 } fn.scope (own fn.d);have kn:Po ⟨St.top { σ with calls:=σ.calls+1 },St.top { σ with calls:=σ.calls+1 },fn.strict⟩ (St.opn { σ with calls:=σ.calls+1 } fn.scope (-1) (own fn.d)):=
  ⟨by show (0:Int)<=(σ.M.NQ.length:Int);omega,by show (σ.M.NQ.length:Int)<_;simp[St.opn,Mo.scope];omega⟩
 generalize St.opn { σ with calls:=σ.calls+1 } fn.scope (-1) (own fn.d)=σ1 at O ha1 bT kn ⊢
 generalize iS:St.top { σ with calls:=σ.calls+1 }=aq at bT kn ⊢
 obtain⟨ax,hbk,E⟩:=O.iv.body (d:=fn.d) (p:=⟨aq,aq,fn.strict⟩) hs kn bT hl ha1;have ii:=O.trans ax;have ag:Q f (N+9000) ⟨aq,aq,fn.strict⟩ (QZ fn.d ⟨aq,aq,fn.strict⟩ args σ1):=⟨by rw[ii.st];exact h.fu,by rw[ii.st];exact h.st,ii.iv.up Nw,kn.up ax.ex⟩
 have aU:=Zk ak (O3 (Nz fn.d 1)) (l:=none) ag (fun d hd=>hbk.ks _ (Py hd)) E (fun _ e=>by cases e);exact⟨aU.iv,ii.ex.trans aU.ex,aU.er,aU.va⟩
theorem acK (ak:FI F f)(h:Q f N p σ){t:Tr}(a':Bk t):VO (N+9000) σ (Xb F (none,t) p σ):=by
 unfold Xb;simp only
 split
 ·exact .bad ((Nx.refl h.iv).up Nw) h.st smS
 ·obtain⟨q,ag⟩:=xE (if (p.strict||Ou t)=true then (⟨σ.top,σ.top,true⟩,σ.opn p.scope (-1) (-3)) else ({ p with strict:=p.strict||Ou t },σ):Pl × St);rw[<-ag];have h1:Nx (N+1) σ q.2/\Po q.1 q.2:=by
   rw[ag]
   split
   ·exact⟨h.iv.opn _ _ _,by show (0:Int)<=(σ.M.NQ.length:Int);omega,by show (σ.M.NQ.length:Int)<_;simp[St.opn,Mo.scope];omega⟩
   ·exact⟨(Nx.refl h.iv).up Nw,h.po⟩
  clear ag;obtain⟨h1,oQ⟩:=h1;obtain⟨O,bK,E⟩:=h1.iv.asx (d:=(none,t)) a' oQ
  generalize NW (none,t) q.1 q.2=bE at O bK E ⊢
  have hH:=h1.trans O;have ag:Q f (N+9000) bE.1 bE.2:=⟨by rw[hH.st];exact h.fu,by rw[hH.st];exact h.st,hH.iv.up Nw,bK⟩
  have aU:=Zk ak (O3 (none,t)) (l:=some vU) ag (fun d hd=>a'.ks _ (Py hd)) E (fun _ e=>by cases e;exact Um _)
  rcases U:QC F bE.1 (O3 (none,t)) (some vU) bE.2 with ⟨⟨o,e,b8⟩,σ1⟩
  rw[U] at aU;have nL:=hH.ex.trans aU.ex
  cases e with
  | no=>
   refine⟨aU.iv,nL,aU.er,?_⟩
   show Gv _ (b8.getD vU)
   cases b8 with
   | none=>exact Um _
   | some v=>exact aU.la v rfl
  | _=>exact⟨aU.iv,nL,aU.er,Um _⟩
theorem Xr:∀ g ∈ Pq,1<=g.size:=by decide
theorem WI {s:NR}{t:Tr}{st:Bool}(h:QK PI Pq s=.ok t)(ai:chk t st false false=none):Nk 9 t:=⟨alA Xr h,(Vu h).2,ai8 t _ _ _ ai⟩
theorem ark (ak:FI F f)(h:Q f N p σ)(c:Tr){args:List Va}(aw:∀ v ∈ args,Gv σ.M.objs.length v):VO (N+9000) σ (Xc F c p args σ):=by
 unfold Xc
 cases args with
 | nil=>exact .ret ((Nx.refl h.iv).up Nw) h.st (Um _)
 | cons a more=>
  dsimp only
  split
  ·exact .ret ((Nx.refl h.iv).up Nw) h.st (aw a List.mem_cons_self)
  ·obtain⟨q,ag⟩:=xE (if c.kd≠23\/c.tx≠TK then ⟨1,0,false⟩ else p:Pl);rw[<-ag];have al:Po q σ:=by
    rw[ag]
    split
    ·exact⟨by show (0:Int)<=1;omega,by show (1:Int)<_;have:=h.iv.lr;omega⟩
    ·exact h.po
   clear ag;refine acU h (fun ai=>?_) Nw;have h1:Q f N q { σ with calls:=σ.calls+1 }:=⟨h.fu,h.st,(h.call ai).iv,al⟩;have D:∀ {s:NR},Sm s->VO (N+9000) { σ with calls:=σ.calls+1 } ((vU,Hp.bad s),{ σ with calls:=σ.calls+1 }):=fun ae=>.bad ((Nx.refl h1.iv).up Nw) h1.st ae
   generalize ({ σ with calls:=σ.calls+1 }:St)=τ at h1 D ⊢
   cases U:QK PI Pq a.s with
   | ok t=>
    simp only
    cases E:chk t q.strict false false with
    | none=>exact acK ak h1 ((WI U E).bk Nw)
    | some e=>exact D smS
   | _=>exact D smS
theorem Nk.asy {t:Tr}(h:Nk 0 t)(E:t.kd=35):(∀ u ∈ t.kids,Nk 0 u)/\t.kids.length<=9:=by
 have ae:=h.sh
 cases ae with
 | call a' ae hl=>exact⟨fun u aO=>h.kid aO (by rcases List.mem_cons.1 aO with rfl|aO;exact a';exact ae u aO),by show (_::_).length<=9;simp;omega⟩
 | lit h1=>simp only[Tr.kd] at E;omega
 | one h1=>simp only[Tr.kd] at E;omega
 | two h1=>simp only[Tr.kd] at E;omega
 | _=>cases E
section
variable (ak:FI F f) (h:Q f N p σ) (hd:Nk 0 d.2)
include ak h hd
theorem arl (E:d.2.kd=35):VO (N+9000) σ (Yy F d p σ):=by
 obtain⟨eJ,cJ⟩:=hd.asy E;have h1:=abd ak (O3 d) [] h (fun x ac=>eJ _ (Py ac)) (fun _ h=>by cases h);unfold Yy
 rcases U:TU F p (O3 d) [] σ with ⟨⟨vs,e⟩,σ1⟩
 rw[U] at h1;have kj:vs.length<=9:=by have:=h1.ln;have:=QI d;simp at *;omega
 cases vs with
 | nil=>exact⟨h1.iv.up Nw,h1.ex,h1.er,Um _⟩
 | cons aL args=>
  cases e with
  | no=>
   have ag:Q f N p σ1:=⟨by have:=h.fu;have:=h1.ex.st;dsimp only at this;omega,h1.er,h1.iv,h.po.up h1.ex⟩
   have vI:=h1.va aL List.mem_cons_self;have sF:∀ v ∈ args,Gv σ1.M.objs.length v:=fun v ap=>h1.va v (List.mem_cons_of_mem _ ap);have mY:args.length<=1500:=by simp at kj;omega
   have aA:=(Nx.refl ag.iv).up (show N<=N+9000 by omega);simp only;refine VO.after h1.ex ?_
   split
   ·exact .bad aA ag.st smT
   ·split
    ·exact .bad aA ag.st smT
    ·split
     ·exact .ret ((ag.iv.log _).up Nw) ag.st (Um _)
     ·split
      ·exact ark ak ag _ sF
      ·split
       ·rename_i fn hs
        exact aog ak ag (ag.iv.fn fn (List.mem_of_getElem? hs)).1 mY sF
       ·exact .ret aA ag.st (Um _)
  | _=>exact⟨h1.iv.up Nw,h1.ex,h1.er,Um _⟩
theorem Zj:Iv N (Tc F d p σ).2/\Ex σ (Tc F d p σ).2/\Eo (Tc F d p σ).2 (Tc F d p σ).1.2/\((Tc F d p σ).1.2=.no->0<=(Tc F d p σ).1.1/\(Tc F d p σ).1.1<(Tc F d p σ).2.M.objs.length):=by
 have h1:=(ak.v h hd).1;unfold Tc
 rcases U:F.v d p σ with ⟨⟨v,e⟩,σ1⟩
 rw[U] at h1
 cases e with
 | no=>
  simp only
  split
  ·exact⟨h1.iv,h1.ex,⟨h1.er,gvT smT⟩,fun e=>by cases e⟩
  ·rename_i bN
   exact⟨h1.iv,h1.ex,h1.er,fun _=>h1.va.r (by simpa using bN)⟩
 | _=>exact⟨h1.iv,h1.ex,h1.er,fun e=>by cases e⟩
end
theorem aoh (ak:FI F f)(o:Int):∀ (ks:List Nd) {N:Int} {σ:St},Q f N p σ->(0<=o/\o<σ.M.objs.length)->(∀ k ∈ ks,Nk 0 (Nz k 0).2)->VO (N+ks.length) σ (Y9 F p o ks σ)
 | [],N,σ,h,aM,_=>.ret ((Nx.refl h.iv).up Oq) h.st (gvR aM)
 | k::ks,N,σ,h,aM,E=>by
  have h1:=(ak.v h (E k List.mem_cons_self)).1;rw[Y9]
  rcases U:F.v (Nz k 0) p σ with ⟨⟨v,e⟩,σ1⟩
  rw[U] at h1
  cases e with
  | no=>
   have O:=h1.iv.put h1.va o k.2.tx false;have f9:=(h1.ex.trans O.ex).ob;have ax:=aoh ak o ks ((h.next h1).nx O) ⟨aM.1,Int.lt_of_lt_of_le aM.2 (Int.ofNat_le.2 f9)⟩ (fun x ac=>E x (List.mem_cons_of_mem _ ac));refine(VO.after (h1.ex.trans O.ex) ax).up ?_;rw[List.length_cons];push_cast;omega
  | _=>exact⟨h1.iv.up Nw,h1.ex,h1.er,Um _⟩
end
end Hp
end Go.Proofs.YticfnaiehdpbmaaGreatDoor
