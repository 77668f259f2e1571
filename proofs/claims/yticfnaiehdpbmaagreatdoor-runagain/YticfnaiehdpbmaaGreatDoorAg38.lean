import Derived.Test.YticfnaiehdpbmaaGreatDoorAg34
set_option maxRecDepth 100000
set_option maxHeartbeats 8000000
set_option linter.unusedVariables false
namespace Go.Proofs.YticfnaiehdpbmaaGreatDoor
open Go.RowKit Go.Proofs.Tryz
namespace Hp
structure Stp (w0:Ny)(mb:Nat)(es:NP)(eb:Addr):Prop where
 is:es=.iface 359 (.pointer (some eb))
 at1:w0.cell? (Nv 1 0)=some es
 et:Qp w0
 lt:1<mb
section
variable {w0:Ny} {mb af:Nat} {aa:List Nat} {es aS aB az aL:NP} {w w' w2:Ny} {σ:St} {N:Nat} {F:Fx} {L:Option Nat} {eb:Addr}
theorem Stp.Vs (h:Stp w0 mb es eb):Yh es:=⟨_,_,h.is⟩
section
variable (h:Stp w0 mb es eb) (aK:Ms w0 mb af aa w σ)
include h aK
theorem Stp.cell:w.cell? (Nv 1 0)=some (.iface 359 (.pointer (some eb))):=by
 rw[aK.below.cell (p:=(Nv 1 0)) h.lt,h.at1,h.is]
theorem Stp.ety:Qp w:=Ua h.et aK.below (by have:=h.lt;omega)
end
theorem azs (W:Ny):(binOp .eql 31 Pe (.iface 359 (.pointer (some eb)))).run prog W=.ok (NI false) W:=by kernel_rfl
theorem auC (W:Ny):(binOp .eql 31 (.iface 34 (Nr 7)) (.iface 359 (.pointer (some eb)))).run prog W=.ok (NI false) W:=by kernel_rfl
theorem auD (tb:Nat)(W:Ny):(binOp .eql 31 (.iface 122 (NM tb 0)) (.iface 359 (.pointer (some eb)))).run prog W=.ok (NI false) W:=by kernel_rfl
theorem aqc (W:Ny):(binOp .eql 31 (.iface 359 (.pointer (some eb))) (.iface 359 (.pointer (some eb)))).run prog W=.ok (NI true) W:=by
 have h1:(prog.info? 359).map (·.comparable)=some true:=by kernel_rfl
 obtain⟨i,ay,hcmp⟩:=Option.map_eq_some_iff.1 h1;obtain⟨j,aT⟩:=Option.isSome_iff_exists.1 (show (prog.info? 361).isSome=true by kernel_rfl);exact run_eql_iface_ptr_same W _ underlying31 underlying359 ay hcmp aT
theorem U4.P7 {v:NP}{e:Er}{l:Option Va}(h:U4 es w v e)(aG:Om L mb w w')(hl:NY w L l):U4 es w' v e:=by
 cases e with
 | no=>exact h
 | stop=>exact h
 | mis=>exact h
 | Wq x=>obtain⟨b,h1,O⟩:=h;exact⟨b,h1,aG.P7 hl O NH NH⟩
section
variable (bF:Stp w0 mb es eb) (aK:Ms w0 mb af aa w σ) {a:Ad} {d:Nd} (hd:Oa aa w a d)
include bF aK a d hd
theorem ahi (E:d.2.kids.length=1)(p:Pl)(o:Oc)(br:U4 es w Pe (.no)){l:Option Va}(hl:NY w L l)(h1:V7 w0 mb af aa es σ (Nz d 0) p L l (F.s (Nz d 0) p l σ)) :
  NK 202 #[Nu mb,Nu a.p,OQ p (LA L),RX o,Pe] w (OY w0 mb af aa es L w (U3 F d p o (.no) l σ)):=by
 have z:=kk (∀{G}(h:G:=by
 have z:=kk (∀{G}(h:G:=by
 have z:=kk (∀{G}(h:G:=by
 have z:=kk (∀{G}(h:G:=by
 have ae:=bF.Vs;have qo:=azs (eb:=eb);have z:=kk (∀{G}(h:G:=by
 obtain⟨rs,bD⟩:=xH (U3 F d ⟨aq,aF,st⟩ ⟨fY,⟨ok,on,fX⟩⟩ (.no) l σ);have z:=kk (∀{G}(h:G:=by
 refine UC (H:=fun wz vb ev=>SB w0 mb af aa es L w2 bG av b8 σ1 wz vb ev) (G:=?GG) (fun dI=>?ways) ?rest
 case ways=>
  exact aqd
 rintro wt lb oz cG;have gb:=hide (cG.fr.P7 ep bj.out NH NH);have uO:=hide (cG.fr.P7 ep rW.out NH NH);have ig:=(da.trans cG.fr);have ns:=cG.ms;have jy:=cG.er;have yM:=(lD.P7 cG.fr ep);have bS:=cG.la;have AP:=cG.ms.lt;have vR:lb≠aR:=fun e=>by
  have h1:=cG.ob;have O:=lt_of_heap bj.out;omega
 obtain⟨iu,⟨ew,dC,eE⟩⟩:=bG;obtain⟨cy,bQ,b5,d',dn,dp,dq,iL,rl⟩:=PE gb.out;obtain⟨hk,gn,gp,pR,ib,ic,id,pS,hm⟩:=PE (cG.o);obtain⟨z0,mC,z2,z3,mD,mE,mF,sW,zl⟩:=PE uO.out
 cases iu with
 | true=>
  exact auE
 | false=>
  by_cases gw:av=.no
  ·subst gw;have hev2:oz=Pe:=cG.er;subst hev2;have aH:rs=((⟨fY,⟨ok,on,fX⟩⟩,.no,b8),σ1):=by rw[bD.out];unfold U3;rw[bY.out];rfl
   have z:=kk (∀{G}(h:G:=by
   refine bodyPost_ret (v:=.tuple #[RX ⟨fY,⟨ok,on,fX⟩⟩,Pe]) (by simp[results,results202,go_sem,bi,aY,aX,cu]) rfl ?_;exact auF),G);exact auG
  ·exact auH),G);exact auI),G);exact auJ),G);exact zsn),G);exact aqe),G);exact zsk),G);exact aqf
theorem afs (E:d.2.kids.length=1)(p:Pl)(o:Oc)(br:U4 es w (.iface 34 (Nr 7)) (.mis)){l:Option Va}(hl:NY w L l)(h1:V7 w0 mb af aa es σ (Nz d 0) p L l (F.s (Nz d 0) p l σ)) :
  NK 202 #[Nu mb,Nu a.p,OQ p (LA L),RX o,.iface 34 (Nr 7)] w (OY w0 mb af aa es L w (U3 F d p o (.mis) l σ)):=by
 have z:=kk (∀{G}(h:G:=by
 have z:=kk (∀{G}(h:G:=by
 have z:=kk (∀{G}(h:G:=by
 have z:=kk (∀{G}(h:G:=by
 have ae:=bF.Vs;have qo:=auC (eb:=eb);have z:=kk (∀{G}(h:G:=by
 obtain⟨rs,bD⟩:=xH (U3 F d ⟨aq,aF,st⟩ ⟨fY,⟨ok,on,fX⟩⟩ (.mis) l σ);have z:=kk (∀{G}(h:G:=by
 refine UC (H:=fun wz vb ev=>SB w0 mb af aa es L w2 bG av b8 σ1 wz vb ev) (G:=?GG) (fun dI=>?ways) ?rest
 case ways=>
  exact aqd
 rintro wt lb oz cG;have gb:=hide (cG.fr.P7 ep bj.out NH NH);have uO:=hide (cG.fr.P7 ep rW.out NH NH);have ig:=(da.trans cG.fr);have ns:=cG.ms;have jy:=cG.er;have yM:=(lD.P7 cG.fr ep);have bS:=cG.la;have AP:=cG.ms.lt;have vR:lb≠aR:=fun e=>by
  have h1:=cG.ob;have O:=lt_of_heap bj.out;omega
 obtain⟨iu,⟨ew,dC,eE⟩⟩:=bG;obtain⟨cy,bQ,b5,d',dn,dp,dq,iL,rl⟩:=PE gb.out;obtain⟨hk,gn,gp,pR,ib,ic,id,pS,hm⟩:=PE (cG.o);obtain⟨z0,mC,z2,z3,mD,mE,mF,sW,zl⟩:=PE uO.out
 cases iu with
 | true=>
  exact auE
 | false=>
  by_cases gw:av=.no
  ·subst gw;have hev2:oz=Pe:=cG.er;subst hev2;have aH:rs=((⟨fY,⟨ok,on,fX⟩⟩,.mis,b8),σ1):=by rw[bD.out];unfold U3;rw[bY.out];rfl
   have z:=kk (∀{G}(h:G:=by
   refine bodyPost_ret (v:=.tuple #[RX ⟨fY,⟨ok,on,fX⟩⟩,.iface 34 (Nr 7)]) (by simp[results,results202,go_sem,bi,aY,aX,cu]) rfl ?_;exact auF),G);exact auG
  ·exact auH),G);exact auI),G);exact auJ),G);exact zsn),G);exact aqe),G);exact zsk),G);exact aqf
theorem aft (E:d.2.kids.length=1)(p:Pl)(o:Oc)(tb:Nat)(x:Va)(br:U4 es w (.iface 122 (NM tb 0)) (.Wq x)){l:Option Va}(hl:NY w L l)(h1:V7 w0 mb af aa es σ (Nz d 0) p L l (F.s (Nz d 0) p l σ)) :
  NK 202 #[Nu mb,Nu a.p,OQ p (LA L),RX o,.iface 122 (NM tb 0)] w (OY w0 mb af aa es L w (U3 F d p o (.Wq x) l σ)):=by
 have z:=kk (∀{G}(h:G:=by
 have z:=kk (∀{G}(h:G:=by
 have z:=kk (∀{G}(h:G:=by
 have z:=kk (∀{G}(h:G:=by
 have ae:=bF.Vs;have qo:=auD (tb:=tb) (eb:=eb);have z:=kk (∀{G}(h:G:=by
 obtain⟨rs,bD⟩:=xH (U3 F d ⟨aq,aF,st⟩ ⟨fY,⟨ok,on,fX⟩⟩ (.Wq x) l σ);have z:=kk (∀{G}(h:G:=by
 refine UC (H:=fun wz vb ev=>SB w0 mb af aa es L w2 bG av b8 σ1 wz vb ev) (G:=?GG) (fun dI=>?ways) ?rest
 case ways=>
  exact aqd
 rintro wt lb oz cG;have gb:=hide (cG.fr.P7 ep bj.out NH NH);have uO:=hide (cG.fr.P7 ep rW.out NH NH);have ig:=(da.trans cG.fr);have ns:=cG.ms;have jy:=cG.er;have yM:=(lD.P7 cG.fr ep);have bS:=cG.la;have AP:=cG.ms.lt;have vR:lb≠aR:=fun e=>by
  have h1:=cG.ob;have O:=lt_of_heap bj.out;omega
 obtain⟨iu,⟨ew,dC,eE⟩⟩:=bG;obtain⟨cy,bQ,b5,d',dn,dp,dq,iL,rl⟩:=PE gb.out;obtain⟨hk,gn,gp,pR,ib,ic,id,pS,hm⟩:=PE (cG.o);obtain⟨z0,mC,z2,z3,mD,mE,mF,sW,zl⟩:=PE uO.out
 cases iu with
 | true=>
  exact auE
 | false=>
  by_cases gw:av=.no
  ·subst gw;have hev2:oz=Pe:=cG.er;subst hev2;have aH:rs=((⟨fY,⟨ok,on,fX⟩⟩,.Wq x,b8),σ1):=by rw[bD.out];unfold U3;rw[bY.out];rfl
   have z:=kk (∀{G}(h:G:=by
   refine bodyPost_ret (v:=.tuple #[RX ⟨fY,⟨ok,on,fX⟩⟩,.iface 122 (NM tb 0)]) (by simp[results,results202,go_sem,bi,aY,aX,cu]) rfl ?_;exact auF),G);exact auG
  ·exact auH),G);exact auI),G);exact auJ),G);exact zsn),G);exact aqe),G);exact zsk),G);exact aqf
theorem adD (p:Pl)(o:Oc){l:Option Va}(hl:NY w L l) :
  NK 202 #[Nu mb,Nu a.p,OQ p (LA L),RX o,.iface 359 (.pointer (some eb))] w (OY w0 mb af aa es L w (U3 F d p o .stop l σ)):=by
 have z:=kk (∀{G}(h:G:=by
 have z:=kk (∀{G}(h:G:=by
 have z:=kk (∀{G}(h:G:=by
 have z:=kk (∀{G}(h:G:=by
 have qo:=aqc (eb:=eb);have qr:=bF.cell aK;have mm:1<w.heap.size:=cell_lt qr;have iE:=bF.cell dj;rw[de] at iE;have n6:=hide bF.is;clear qr;obtain⟨ao,p'⟩:=xH (((w.alloc (.cells #[Nr aq,Nr aF,NI st,.pointer aC] 73)).alloc (.cells #[NI fY,Nr ok,Nr on,ND fX] 67)).alloc (.cells #[NI fY,Nr ok,Nr on,ND fX] 67));have bm:NJ w ao:=by rw[p'.out];exact(OM.alloc Oq _).alloc Qa _
 have iI:ao.heap[aR]? = some (Og #[NI fY,Nr ok,Nr on,ND fX] 67):=by
  rw[p'.out,b1,show w.heap.size+2=((w.alloc (.cells #[Nr aq,Nr aF,NI st,.pointer aC] 73)).alloc (.cells #[NI fY,Nr ok,Nr on,ND fX] 67)).heap.size by simp];exact NG _ _
 have c8:=hide iI;have Ef:aR=w.heap.size+1+1:=b1;obtain⟨q,ag⟩:=xE a.p;obtain⟨rs,d6⟩:=xE (U3 F d ⟨aq,aF,st⟩ ⟨fY,⟨ok,on,fX⟩⟩ .stop l σ);rw[<-d6,<-ag];rw[<-ag] at dL;have aH:rs=((⟨fY,⟨ok,on,fX⟩⟩,.stop,l),σ):=d6;have cz:=hide aH;have d8:=hide Ef;clear bK hr2 j2 de d6 ag ds cH d5 oO aH iI bU b1 f9 Ef Ea dc hpl2 dL;go_enter func202,ntmps202;go_wp2_with fail;rw[<-p'.out,<-d8.out];obtain⟨bi,aY,aX,cu,_,_⟩:=cells4 c8.out
 refine bodyPost_ret (v:=.tuple #[RX ⟨fY,⟨ok,on,fX⟩⟩,.iface 359 (.pointer (some eb))]) (by simp[results,results202,go_sem,bi,aY,aX,cu]) rfl ?_;rw[cz.out];exact⟨⟨_,rfl,n6.out.symm⟩,aK.later bm,Om.of bm (Oi bI),hl.later bm⟩),G);exact zsn),G);exact aqe),G);exact zsk),G);exact aqf
theorem akm (E:d.2.kids.length=1)(p:Pl)(o:Oc){e:Er}{ev:NP}(br:U4 es w ev e){l:Option Va}(hl:NY w L l)(h1:e≠.stop->V7 w0 mb af aa es σ (Nz d 0) p L l (F.s (Nz d 0) p l σ)) :
  NK 202 #[Nu mb,Nu a.p,OQ p (LA L),RX o,ev] w (OY w0 mb af aa es L w (U3 F d p o e l σ)):=by
 cases e with
 | no=>obtain rfl:ev=.nilIface:=br;exact ahi bF aK hd E p o rfl hl (h1 Oq)
 | stop=>rw[show ev=.iface 359 (.pointer (some eb)) from (show ev=es from br).trans bF.is];exact adD bF aK hd p o hl
 | mis=>obtain rfl:ev=.iface 34 (Nr 7):=br;exact afs bF aK hd E p o rfl hl (h1 Oq)
 | Wq x=>obtain⟨tb,rfl,h⟩:=br;exact aft bF aK hd E p o tb x ⟨tb,rfl,h⟩ hl (h1 Oq)
end
theorem adE (bF:Stp w0 mb es eb)(aK:Ms w0 mb af aa w σ)(ae:σ.steps<=20000) :
  NK 107 #[Nu mb] w fun e w'=>e=NU (if 20000<σ.steps+1 then es else Pe)/\Ms w0 mb af aa w' σ.step/\Om none mb w w':=by
 have ai:=bF.cell aK;obtain⟨aS,aB,az,aL,ac⟩:=aK;rw[<-bF.is] at ai;refine(amW ac.hh ae ai bF.lt).mono ?_;rintro e w' ⟨rfl,hh,aG⟩;have gf:OB Th mb w w':=⟨aG.below,fun b c e D au=>aG.rest b c e D (fun h=>au (by rw[List.mem_singleton.1 h];decide))⟩
 obtain⟨d0,h1,O,ax⟩:=ac.fu;exact⟨rfl,⟨aS,aB,az,aL,ac.bw.trans gf.below,hh,N7 ac.lg gf NH,N7 ac.se gf NH,N7 ac.ow gf NH,d0,h1,N7 O gf NH,fun i a f aw hg=>(ax i a f aw hg).kp (OB.kp gf)⟩,Om.ofT gf⟩
section
variable (bF:Stp w0 mb es eb) (aK:Ms w0 mb af aa w σ) {a:Ad} {d:Nd} (hd:Oa aa w a d)
include bF aK a d hd
theorem aa2 (eA:σ.steps<=20000)(hst1:20000<=σ.steps)(p:Pl){l:Option Va}(hl:NY w L l) :
  NK 53 #[Nu mb,Nu a.p,OQ p (LA L)] w (OY w0 mb af aa es L w ((PX,.stop,l),σ.step)):=by
 have z:=kk (∀{G}(h:G:=by
 have z:=kk (∀{G}(h:G:=by
 have z:=kk (∀{G}(h:G:=by
 have z:=kk (∀{G}(h:G:=by
 have hstep:=adE bF dj eA;rw[if_pos Nw,bF.is] at hstep;have n6:=hide bF.is;have z:=kk (∀{G}(h:G:=by
 clear bK hr2 ds cH d5;go_enter func53,ntmps53;have z:=kk (∀{G}(h:G:=by
 have fB:=(ep.keep i8);have ee:=g6.lt;obtain⟨cy,bQ,b5,d',dn,dp,dq,iL,rl⟩:=PE dU.out;have z:=kk (∀{G}(h:G:=by
 refine bodyPost_ret (v:=.tuple #[RX PX,.iface 359 (.pointer (some eb))]) (by simp[results,results53,go_sem,bi,aY,aX,cu,vU]) rfl ?_;exact⟨⟨_,rfl,n6.out.symm⟩,bv,bx,fB.Rk bb⟩),G);exact azw),G);exact aa3),G);exact Zh),G);exact zsc),G);exact V8),G);exact zsd),G);exact zso
theorem adF (bn:d.2.kd=7)(eA:σ.steps<=20000)(hst1:σ.steps<20000)(p:Pl){l:Option Va}(hl:NY w L l){rs:(Oc × Er × Option Va) × St}(bq:∀ X,Ms w0 mb af aa X σ.step->Oa aa X a d->NY X L l->NK 111 #[Nu mb,Nu a.p,OQ p (LA L)] X (OY w0 mb af aa es L X rs)) :
  NK 53 #[Nu mb,Nu a.p,OQ p (LA L)] w (OY w0 mb af aa es L w rs):=by
 have z:=kk (∀{G}(h:G:=by
 have z:=kk (∀{G}(h:G:=by
 have z:=kk (∀{G}(h:G:=by
 have z:=kk (∀{G}(h:G:=by
 have z:=kk (∀{G}(h:G:=by
 have z:=kk (∀{G}(h:G:=by
 have ah:=hide bq;have e5:(d.2.kd:Int)=7:=by rw[bn]
 exact aqj),G);exact Zh),G);exact ZU),G);exact zsc),G);exact V8),G);exact zsd),G);exact zso
theorem ZV (bn:d.2.kd=8)(eA:σ.steps<=20000)(hst1:σ.steps<20000)(p:Pl){l:Option Va}(hl:NY w L l){rs:(Oc × Er × Option Va) × St}(bq:∀ X,Ms w0 mb af aa X σ.step->Oa aa X a d->NY X L l->NK 112 #[Nu mb,Nu a.p,OQ p (LA L)] X (OY w0 mb af aa es L X rs)) :
  NK 53 #[Nu mb,Nu a.p,OQ p (LA L)] w (OY w0 mb af aa es L w rs):=by
 have z:=kk (∀{G}(h:G:=by
 have z:=kk (∀{G}(h:G:=by
 have z:=kk (∀{G}(h:G:=by
 have z:=kk (∀{G}(h:G:=by
 have z:=kk (∀{G}(h:G:=by
 have z:=kk (∀{G}(h:G:=by
 have ah:=hide bq;have e5:(d.2.kd:Int)=8:=by rw[bn]
 exact aqj),G);exact Zh),G);exact ZU),G);exact zsc),G);exact V8),G);exact zsd),G);exact zso
theorem aa4 (bn:d.2.kd=9)(eA:σ.steps<=20000)(hst1:σ.steps<20000)(p:Pl){l:Option Va}(hl:NY w L l){rs:(Oc × Er × Option Va) × St}(bq:∀ X,Ms w0 mb af aa X σ.step->Oa aa X a d->NY X L l->NK 113 #[Nu mb,Nu a.p,OQ p (LA L)] X (OY w0 mb af aa es L X rs)) :
  NK 53 #[Nu mb,Nu a.p,OQ p (LA L)] w (OY w0 mb af aa es L w rs):=by
 have z:=kk (∀{G}(h:G:=by
 have z:=kk (∀{G}(h:G:=by
 have z:=kk (∀{G}(h:G:=by
 have z:=kk (∀{G}(h:G:=by
 have z:=kk (∀{G}(h:G:=by
 have z:=kk (∀{G}(h:G:=by
 have ah:=hide bq;have e5:(d.2.kd:Int)=9:=by rw[bn]
 exact aqj),G);exact Zh),G);exact ZU),G);exact zsc),G);exact V8),G);exact zsd),G);exact zso
theorem abZ (bn:d.2.kd=12)(eA:σ.steps<=20000)(hst1:σ.steps<20000)(p:Pl){l:Option Va}(hl:NY w L l){rs:(Oc × Er × Option Va) × St}(bq:∀ X,Ms w0 mb af aa X σ.step->Oa aa X a d->NY X L l->NK 116 #[Nu mb,Nu a.p,OQ p (LA L)] X (OY w0 mb af aa es L X rs)) :
  NK 53 #[Nu mb,Nu a.p,OQ p (LA L)] w (OY w0 mb af aa es L w rs):=by
 have z:=kk (∀{G}(h:G:=by
 have z:=kk (∀{G}(h:G:=by
 have z:=kk (∀{G}(h:G:=by
 have z:=kk (∀{G}(h:G:=by
 have z:=kk (∀{G}(h:G:=by
 have z:=kk (∀{G}(h:G:=by
 have ah:=hide bq;have e5:(d.2.kd:Int)=12:=by rw[bn]
 exact aqj),G);exact Zh),G);exact ZU),G);exact zsc),G);exact V8),G);exact zsd),G);exact zso
theorem XQ (bn:d.2.kd=2)(eA:σ.steps<=20000)(hst1:σ.steps<20000)(p:Pl){l:Option Va}(hl:NY w L l){av:Er}{b8:Option Va}{σ1:St}(bq:∀ X,Ms w0 mb af aa X σ.step->Oa aa X a d->NY X L l->NK 108 #[Nu mb,Nu a.p,OQ p (LA L)] X (YD w0 mb af aa es L X ((av,b8),σ1))) :
  NK 53 #[Nu mb,Nu a.p,OQ p (LA L)] w (OY w0 mb af aa es L w ((PX,av,b8),σ1)):=by
 have z:=kk (∀{G}(h:G:=by
 have z:=kk (∀{G}(h:G:=by
 have z:=kk (∀{G}(h:G:=by
 have z:=kk (∀{G}(h:G:=by
 have z:=kk (∀{G}(h:G:=by
 have z:=kk (∀{G}(h:G:=by
 have ah:=hide bq;have e5:(d.2.kd:Int)=2:=by rw[bn]
 exact am0),G);exact Zh),G);exact ZU),G);exact zsc),G);exact V8),G);exact zsd),G);exact zso
theorem ab1 (bn:d.2.kd=3)(eA:σ.steps<=20000)(hst1:σ.steps<20000)(p:Pl){l:Option Va}(hl:NY w L l){av:Er}{b8:Option Va}{σ1:St}(bq:∀ X,Ms w0 mb af aa X σ.step->Oa aa X a d->NY X L l->NK 109 #[Nu mb,Nu a.p,OQ p (LA L)] X (YD w0 mb af aa es L X ((av,b8),σ1))) :
  NK 53 #[Nu mb,Nu a.p,OQ p (LA L)] w (OY w0 mb af aa es L w ((PX,av,b8),σ1)):=by
 have z:=kk (∀{G}(h:G:=by
 have z:=kk (∀{G}(h:G:=by
 have z:=kk (∀{G}(h:G:=by
 have z:=kk (∀{G}(h:G:=by
 have z:=kk (∀{G}(h:G:=by
 have z:=kk (∀{G}(h:G:=by
 have ah:=hide bq;have e5:(d.2.kd:Int)=3:=by rw[bn]
 exact am0),G);exact Zh),G);exact ZU),G);exact zsc),G);exact V8),G);exact zsd),G);exact zso
theorem ZW (bn:d.2.kd=4)(eA:σ.steps<=20000)(hst1:σ.steps<20000)(p:Pl){l:Option Va}(hl:NY w L l){av:Er}{b8:Option Va}{σ1:St}(bq:∀ X,Ms w0 mb af aa X σ.step->Oa aa X a d->NY X L l->NK 109 #[Nu mb,Nu a.p,OQ p (LA L)] X (YD w0 mb af aa es L X ((av,b8),σ1))) :
  NK 53 #[Nu mb,Nu a.p,OQ p (LA L)] w (OY w0 mb af aa es L w ((PX,av,b8),σ1)):=by
 have z:=kk (∀{G}(h:G:=by
 have z:=kk (∀{G}(h:G:=by
 have z:=kk (∀{G}(h:G:=by
 have z:=kk (∀{G}(h:G:=by
 have z:=kk (∀{G}(h:G:=by
 have z:=kk (∀{G}(h:G:=by
 have ah:=hide bq;have e5:(d.2.kd:Int)=4:=by rw[bn]
 exact am0),G);exact Zh),G);exact ZU),G);exact zsc),G);exact V8),G);exact zsd),G);exact zso
theorem ZX (bn:d.2.kd=11)(eA:σ.steps<=20000)(hst1:σ.steps<20000)(p:Pl){l:Option Va}(hl:NY w L l){av:Er}{b8:Option Va}{σ1:St}(bq:∀ X,Ms w0 mb af aa X σ.step->Oa aa X a d->NY X L l->NK 115 #[Nu mb,Nu a.p,OQ p (LA L)] X (YD w0 mb af aa es L X ((av,b8),σ1))) :
  NK 53 #[Nu mb,Nu a.p,OQ p (LA L)] w (OY w0 mb af aa es L w ((PX,av,b8),σ1)):=by
 have z:=kk (∀{G}(h:G:=by
 have z:=kk (∀{G}(h:G:=by
 have z:=kk (∀{G}(h:G:=by
 have z:=kk (∀{G}(h:G:=by
 have z:=kk (∀{G}(h:G:=by
 have z:=kk (∀{G}(h:G:=by
 have ah:=hide bq;have e5:(d.2.kd:Int)=11:=by rw[bn]
 exact am0),G);exact Zh),G);exact ZU),G);exact zsc),G);exact V8),G);exact zsd),G);exact zso
theorem aa5 (bn:d.2.kd=15)(eA:σ.steps<=20000)(hst1:σ.steps<20000)(p:Pl){l:Option Va}(hl:NY w L l){av:Er}{b8:Option Va}{σ1:St}(bq:∀ X,Ms w0 mb af aa X σ.step->Oa aa X a d->NY X L l->NK 117 #[Nu mb,Nu a.p,OQ p (LA L)] X (YD w0 mb af aa es L X ((av,b8),σ1))) :
  NK 53 #[Nu mb,Nu a.p,OQ p (LA L)] w (OY w0 mb af aa es L w ((PX,av,b8),σ1)):=by
 have z:=kk (∀{G}(h:G:=by
 have z:=kk (∀{G}(h:G:=by
 have z:=kk (∀{G}(h:G:=by
 have z:=kk (∀{G}(h:G:=by
 have z:=kk (∀{G}(h:G:=by
 have z:=kk (∀{G}(h:G:=by
 have ah:=hide bq;have e5:(d.2.kd:Int)=15:=by rw[bn]
 exact am0),G);exact Zh),G);exact ZU),G);exact zsc),G);exact V8),G);exact zsd),G);exact zso
theorem XR (bn:d.2.kd≠2/\d.2.kd≠3/\d.2.kd≠4/\d.2.kd≠6/\d.2.kd≠7/\d.2.kd≠8/\d.2.kd≠9/\d.2.kd≠10/\d.2.kd≠11/\d.2.kd≠12/\d.2.kd≠15)(eA:σ.steps<=20000)(hst1:σ.steps<20000)(p:Pl){l:Option Va}(hl:NY w L l) :
  NK 53 #[Nu mb,Nu a.p,OQ p (LA L)] w (OY w0 mb af aa es L w ((PX,.no,l),σ.step)):=by
 have z:=kk (∀{G}(h:G:=by
 have z:=kk (∀{G}(h:G:=by
 have z:=kk (∀{G}(h:G:=by
 have z:=kk (∀{G}(h:G:=by
 have z:=kk (∀{G}(h:G:=by
 have z:=kk (∀{G}(h:G:=by
 obtain⟨cY,hx,rC,o4,o5,n0,yc,x8,JE,JF,JG⟩:=bn;obtain⟨kkq,pd⟩:=xH d.2.kd;rw[<-pd.out] at cY hx rC o4 o5 n0 yc x8 JE JF JG;clear bK hr2 ds cH d5;go_enter func53,ntmps53;have z:=kk (∀{G}(h:G:=by
 have fB:=(ep.keep i8);have z:=kk (∀{G}(h:G:=by
 rw[<-bo.out] at g' g7;rw[<-pd.out] at g7;obtain⟨hz,g4,gR,j7,kx,ky,kz,wO,kA⟩:=PE dU.out;have z:=kk (∀{G}(h:G:=by
 refine bodyPost_ret (v:=.tuple #[RX PX,Pe]) (by simp[results,results53,go_sem,bi,aY,aX,cu,vU]) rfl ?_;exact⟨⟨_,rfl,rfl⟩,bv,bx,fB.Rk bb⟩),G);exact azw),G);exact ahk),G);exact aa3),G);exact Zh),G);exact ZU),G);exact zsc),G);exact V8),G);exact zsd),G);exact zso
end
end
end Hp
end Go.Proofs.YticfnaiehdpbmaaGreatDoor
