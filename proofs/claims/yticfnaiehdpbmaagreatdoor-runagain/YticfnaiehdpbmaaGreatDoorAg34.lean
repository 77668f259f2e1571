import Derived.Test.YticfnaiehdpbmaaGreatDoorAg33
set_option maxRecDepth 100000
set_option maxHeartbeats 8000000
set_option linter.unusedVariables false
namespace Go.Proofs.YticfnaiehdpbmaaGreatDoor
open Go.RowKit Go.Proofs.Tryz
namespace Hp
abbrev RX (o:Oc):NP:=.agg #[NI o.ret,Nr o.v.k,Nr o.v.n,ND o.v.s]
def OY (w0:Ny)(mb af:Nat)(aa:List Nat)(es:NP)(L:Option Nat)(w:Ny)(r:(Oc × Er × Option Va) × St)(e:Ending)(w':Ny):Prop:=
 (∃ ev,e=NU (.tuple #[RX r.1.1,ev])/\U4 es w' ev r.1.2.1)/\Ms w0 mb af aa w' r.2/\Om L mb w w'/\NY w' L r.1.2.2
def V7 (w0:Ny)(mb af:Nat)(aa:List Nat)(es:NP)(σ:St)(d:Nd)(p:Pl)(L:Option Nat)(l:Option Va)(r:(Oc × Er × Option Va) × St):Prop:=
 ∀ (X:Ny) (a:Ad),Ms w0 mb af aa X σ->Oa aa X a d->NY X L l->NK 53 #[Nu mb,Nu a.p,OQ p (LA L)] X (OY w0 mb af aa es L X r)
def chQ (F:Fx)(d:Nd)(p:Pl)(l:Option Va)(σ:St):(Oc × Er × Option Va) × St:=match F.v (Nz d 0) p σ with
 | ((v,.no),σ1)=>if v.tru then F.s (Nz d 1) p l σ1 else if 2<d.2.kids.length then F.s (Nz d 2) p l σ1 else ((PX,.no,l),σ1)
 | ((_,e),σ1)=>((PX,e,l),σ1)
def wiQ (F:Fx)(d:Nd)(p:Pl)(l:Option Va)(σ:St):(Oc × Er × Option Va) × St:=match Tc F (Nz d 0) p σ with
 | ((o,.no),σ1)=>F.s (Nz d 1) { p with scope:=σ1.top } l (σ1.opn p.scope o (-2))
 | ((_,e),σ1)=>((PX,e,l),σ1)
section
variable {w0:Ny} {mb af:Nat} {aa:List Nat} {es aS aB az aL:NP} {w w':Ny} {σ:St} {N:Nat} {F:Fx} {L:Option Nat}
section
variable {l:Option Va} (h:Om L mb w w') (hl:NY w L l)
include l h hl
theorem Om.P7 {b:Nat}{c:Array NP}{t:TypeId}(D:w.heap[b]? = some (Og c t))(a':t ∉ Tm)(HW:t≠65):w'.heap[b]? = some (Og c t):=by
 refine h.rest b c t D a' (fun e=>?_)
 cases L with
 | none=>cases e
 | some lb=>
  cases e
  cases l with
  | none=>exact hl
  | some v=>exact PW D hl HW rfl
theorem Om.kpL:Kp w w':=fun b c e D au=>h.P7 hl D (by rcases au with rfl|rfl <;> decide) (by rcases au with rfl|rfl <;> decide)
theorem Om.aE6 {w2:Ny}{b:Nat}{c:Array NP}(Dw:NY w2 L l)(D:w.heap[b]? = some (Og c 65))(aA:w2.heap.size<=b):w'.heap[b]? = some (Og c 65):=by
 refine h.rest b c 65 D NH (fun e=>?_)
 cases L with
 | none=>cases e
 | some lb=>
  cases e
  cases l with
  | none=>exact Dw
  | some v=>exact absurd (lt_of_heap Dw) Nw
end
theorem NY.Rk {l:Option Va}{T:List TypeId}(h:NY w L l)(aG:OB T mb w w')(dA:65 ∉ T:=by decide):NY w' L l:=by
 cases L <;> cases l <;> first|exact h|exact aG.rest _ _ _ h dA
theorem NY.later {l:Option Va}(h:NY w L l)(D:NJ w w'):NY w' L l:=by
 cases L <;> cases l <;> first|exact h|exact stays D h
section
variable (ae:Yh es) (aK:Ms w0 mb af aa w σ) {a:Ad} {d:Nd} (hd:Oa aa w a d)
include ae aK a d hd
theorem amT (E:d.2.kids.length=2)(p:Pl){l:Option Va}(hl:NY w L l)(h1:RF w0 mb af aa es σ (Nz d 0) p (F.v (Nz d 0) p σ))(O:∀ v1 σ1,F.v (Nz d 0) p σ=((v1,.no),σ1)->V7 w0 mb af aa es σ1 (Nz d 1) p L l (F.s (Nz d 1) p l σ1)) :
  NK 111 #[Nu mb,Nu a.p,OQ p (LA L)] w (OY w0 mb af aa es L w (chQ F d p l σ)):=by
 have z:=kk (∀{G}(h:G:=by
 have z:=kk (∀{G}(h:G:=by
 have z:=kk (∀{G}(h:G:=by
 have z:=kk (∀{G}(h:G:=by
 have z:=kk (∀{G}(h:G:=by
 have z:=kk (∀{G}(h:G:=by
 obtain⟨rs,bD⟩:=xH (chQ F d ⟨aq,aF,st⟩ l σ);rw[<-bD.out,<-bo.out];have z:=kk (∀{G}(h:G:=by
 have z:=kk (∀{G}(h:G:=by
 refine UC (H:=fun wz vb ev=>VB w0 mb af aa es w2 v1 av σ1 wz vb ev) (G:=?GG) (fun dI=>?ways) ?rest
 case ways=>
  exact adt
 rintro wz vb ev aN;have cR:=aN.fr.keep bj.out NH;have dU:=hide cR;obtain⟨cy,bQ,b5,d',dn,dp,dq,iL,rl⟩:=PE (cR);have ee:=aN.ms.lt;have ci:vb≠aR:=fun e=>by
  have h1:=aN.vb;have O:=lt_of_heap bj.out;omega
 have di:Om none mb w wz:=da.trans aN.fr;have eG:=hide (aN.fr.keep dF.out NH);clear cR;obtain⟨e',cj,dD,hf,hi,hj,g5⟩:=Ot (aN.v);have g8:=cS.kp aN.fr.SX;have fB:=(ep.keep aN.fr)
 by_cases au:av=.no
 ·subst au;have br:ev=Pe:=aN.er;subst br;have eO:=(VI v1 wz)
  cases eX:v1.tru with
  | true=>
   have z:=kk (∀{G}(h:G:=by
   have z:=kk (∀{G}(h:G:=by
   have fa:=hide (fun X (aj:NJ ea X)=>(Ns gT v1 σ1 bY.out) X bV (jD.later aj) (jb.kp (Kp.of aj)) (nr.later aj));have z:=kk (∀{G}(h:G:=by
   have z:=kk (∀{G}(h:G:=by
   refine uk 4 uw.out ab ?_;refine up 5 b0 1 ab ?_;refine uk 6 n2.out ab ?_;refine uk4 7 r0.out ab ?_;refine O0 8 fun K A=>?_;have z:=kk (∀{G}(h:G:=by
   have jJ:=(Om.of (L:=L) ab (Oi oM)).trans ak;have dG:=hide (jJ.P7 nr jm.out NH NH);have fc:=(lY.up.trans jJ);have z:=kk (∀{G}(h:G:=by
   refine bodyPost_ret (v:=.tuple #[RX jR,ev]) (by simp[results,results111,go_sem,bi,aY,aX,cu]) rfl ?_;exact ap8),G);exact auu),G);exact amU),G);exact U5),G);exact azi),G);exact auv),G);exact ap9
  | false=>
   have z:=kk (∀{G}(h:G:=by
   obtain⟨bV,b0,cap1,jF,fT,jb,_⟩:=sC.Xe (i:=1) Nw;have sJ:=sC.cells.1;rw[cM,<-bo.out] at jF;rw[<-bo.out] at sJ;have aH:rs=((PX,.no,l),σ1):=by rw[bD.out];unfold chQ;rw[bY.out];simp[lW.out,pX.out]
   have cz:=hide aH;obtain⟨hk,gn,gp,pR,ib,ic,id,pS,hm⟩:=PE jm.out;clear cy bQ b5 d' dn dp dq iL rl e' cj dD hf hi hj g5 fT cM aH;go_wp2_with fail;obtain⟨b3,bz,bb,bx,bv,bi,aY,aX,cu⟩:=rt4 jm.out cI.out bI lY jD (NI false) (Nr 0) (Nr 0) (OG);rw[<-bz];refine bodyPost_ret (v:=.tuple #[RX PX,Pe]) (by simp[results,results111,go_sem,bi,aY,aX,cu,vU]) rfl ?_;rw[cz.out];exact⟨⟨_,rfl,rfl⟩,bv,bx.up,nr.Rk bb⟩),G);exact ap9
 ·exact azj),G);exact azk),G);exact akd),G);exact ahb),G);exact abW),G);exact zsc),G);exact V8),G);exact zsd),G);exact zso
theorem amV (E:d.2.kids.length=3)(p:Pl){l:Option Va}(hl:NY w L l)(h1:RF w0 mb af aa es σ (Nz d 0) p (F.v (Nz d 0) p σ))(O:∀ v1 σ1,F.v (Nz d 0) p σ=((v1,.no),σ1)->V7 w0 mb af aa es σ1 (Nz d 1) p L l (F.s (Nz d 1) p l σ1)/\V7 w0 mb af aa es σ1 (Nz d 2) p L l (F.s (Nz d 2) p l σ1)) :
  NK 111 #[Nu mb,Nu a.p,OQ p (LA L)] w (OY w0 mb af aa es L w (chQ F d p l σ)):=by
 have z:=kk (∀{G}(h:G:=by
 have z:=kk (∀{G}(h:G:=by
 have z:=kk (∀{G}(h:G:=by
 have z:=kk (∀{G}(h:G:=by
 have z:=kk (∀{G}(h:G:=by
 have z:=kk (∀{G}(h:G:=by
 obtain⟨rs,bD⟩:=xH (chQ F d ⟨aq,aF,st⟩ l σ);rw[<-bD.out,<-bo.out];have z:=kk (∀{G}(h:G:=by
 have z:=kk (∀{G}(h:G:=by
 refine UC (H:=fun wz vb ev=>VB w0 mb af aa es w2 v1 av σ1 wz vb ev) (G:=?GG) (fun dI=>?ways) ?rest
 case ways=>
  exact adt
 rintro wz vb ev aN;have cR:=aN.fr.keep bj.out NH;have dU:=hide cR;obtain⟨cy,bQ,b5,d',dn,dp,dq,iL,rl⟩:=PE (cR);have ee:=aN.ms.lt;have ci:vb≠aR:=fun e=>by
  have h1:=aN.vb;have O:=lt_of_heap bj.out;omega
 have di:Om none mb w wz:=da.trans aN.fr;have eG:=hide (aN.fr.keep dF.out NH);clear cR;obtain⟨e',cj,dD,hf,hi,hj,g5⟩:=Ot (aN.v);have g8:=cS.kp aN.fr.SX;have fB:=(ep.keep aN.fr)
 by_cases au:av=.no
 ·subst au;have br:ev=Pe:=aN.er;subst br;have eO:=(VI v1 wz)
  cases eX:v1.tru with
  | true=>
   have z:=kk (∀{G}(h:G:=by
   have z:=kk (∀{G}(h:G:=by
   have fa:=hide (fun X (aj:NJ ea X)=>(Ns gT v1 σ1 bY.out).1 X bV (jD.later aj) (jb.kp (Kp.of aj)) (nr.later aj));have z:=kk (∀{G}(h:G:=by
   have z:=kk (∀{G}(h:G:=by
   refine uk 4 uw.out ab ?_;refine up 5 b0 1 ab ?_;exact azl),G);exact U5),G);exact azi),G);exact auv),G);exact ap9
  | false=>
   have z:=kk (∀{G}(h:G:=by
   obtain⟨bV,b0,cap1,jF,fT,jb,_⟩:=sC.Xe (i:=2) Nw;rw[cM,<-bo.out] at jF;obtain⟨wE,pE⟩:=xE bV.p;have fa:=hide (fun X (aj:NJ ea X)=>(Ns gT v1 σ1 bY.out).2 X bV (jD.later aj) (jb.kp (Kp.of aj)) (nr.later aj));have bP:=kk (∀{G}(h:G:=by
   have aH:rs=F.s (Nz d 2) ⟨aq,aF,st⟩ l σ1:=by rw[bD.out];unfold chQ;rw[bY.out];simp[lW.out,pX.out]
   have cz:=hide aH;rw[<-aH] at fa;clear cy bQ b5 d' dn dp dq iL rl e' cj dD hf hi hj g5 fT pE cM aH;go_wp2_with fail;clear jF;refine Rj 8 fun ab=>?_;have z:=kk (∀{G}(h:G:=by
   refine uk 4 uw.out ab ?_;refine up 5 b0 2 ab ?_;exact azl),G);exact U5),G);exact ztw),G);exact ap9
 ·exact azj),G);exact azk),G);exact akd),G);exact ahb),G);exact abW),G);exact zsc),G);exact V8),G);exact zsd),G);exact zso
end
abbrev ocO (o:Oc):Obj:=Og #[NI o.ret,Nr o.v.k,Nr o.v.n,ND o.v.s] 67
variable {w2:Ny}
structure SB (w0:Ny)(mb af:Nat)(aa:List Nat)(es:NP)(L:Option Nat)(w2:Ny)(o:Oc)(e:Er)(l:Option Va)(σ:St)(wz:Ny)(ob:Nat)(ev:NP):Prop where
 o:wz.heap[ob]? = some (ocO o)
 ob:w2.heap.size<=ob
 er:U4 es wz ev e
 ms:Ms w0 mb af aa wz σ
 fr:Om L mb w2 wz
 la:NY wz L l
theorem SB.late {aD:Ny}{ev:NP}{o:Oc}{e:Er}{l:Option Va}(aI:U4 es aD ev e)(aK:Ms w0 mb af aa aD σ)(ak:Om L mb w2 aD)(hl:NY aD L l):SB w0 mb af aa es L w2 o e l σ (aD.alloc (.cells #[NI o.ret,Nr o.v.k,Nr o.v.n,ND o.v.s] 67)) aD.heap.size ev:=by
 have D:NJ aD (aD.alloc (.cells #[NI o.ret,Nr o.v.k,Nr o.v.n,ND o.v.s] 67)):=OM;exact⟨NG _ _,ak.below.size,aI.later D,aK.later D,ak.trans (Om.of D (Oi aK.lt)),hl.later D⟩
theorem SB.early {aD:Ny}{ev x y bE u:NP}{o:Oc}{e:Er}{l:Option Va}{vb:Nat}(ap:aD.heap[vb]? = some (Og #[x,y,bE,u] 67))(aN:w2.heap.size<=vb)(aV:mb<=w2.heap.size)(aI:U4 es aD ev e)(aK:Ms w0 mb af aa aD σ)(ak:Om L mb w2 aD)(hl:NY aD L l) :
  SB w0 mb af aa es L w2 o e l σ ((((aD.setCell (Nv vb 0) (NI o.ret)).setCell (Nv vb 1) (Nr o.v.k)).setCell (Nv vb 2) (Nr o.v.n)).setCell (Nv vb 3) (ND o.v.s)) vb ev:=by
 have aG:=Sr ap (Nat.le_trans aV aN) (NI o.ret) (Nr o.v.k) (Nr o.v.n) (ND o.v.s);exact⟨Zg ap _ _ _ _,aN,aI.O6 aG NH,aK.Xd aG NH,ak.newT aG (TB aN _ _ _ _),hl.Rk aG⟩
section
variable {p:Pl} {d:Nd} {a1:List Nd} {l b8:Option Va} {o:Oc}
include p d a1 l b8 o
theorem aqa {σ1:St}(h:F.s d p l σ=((o,.no,b8),σ1))(U:o.ret=false):QC F p (d::a1) l σ=QC F p a1 b8 σ1:=by rw[QC,h];simp[U]
theorem amX {σ1:St}(h:F.s d p l σ=((o,.no,b8),σ1))(U:o.ret=true):QC F p (d::a1) l σ=((o,.no,b8),σ1):=by rw[QC,h];simp[U]
theorem aiO {e:Er}{σ1:St}(h:F.s d p l σ=((o,e,b8),σ1))(au:e≠.no):QC F p (d::a1) l σ=((o,e,b8),σ1):=by
 rw[QC,h];exact aui
end
theorem YE (ae:Yh es)(aK:Ms w0 mb af aa w σ){u:NP}{cW:List Ad}{a1:List Nd}(U:QT 0 w u cW)(fm:RV aa w cW a1)(hlen:a1.length<=1000000)(p:Pl){l:Option Va}(hl:NY w L l)
  (P:St->Option Va->Prop) (hP:P σ l) (bq:∀ d ∈ a1,∀ σ l,P σ l->V7 w0 mb af aa es σ d p L l (F.s d p l σ)/\∀ o b8 σ1,F.s d p l σ=((o,.no,b8),σ1)->P σ1 b8) :
  NK 28 #[Nu mb,u,OQ p (LA L)] w (OY w0 mb af aa es L w (QC F p a1 l σ)):=by
 have z:=kk (∀{G}(h:G:=by
 have z:=kk (∀{G}(h:G:=by
 have z:=kk (∀{G}(h:G:=by
 have z:=kk (∀{G}(h:G:=by
 have e3:=RV.len _ _ fm;obtain⟨rs,fE⟩:=xH (QC F ⟨aq,aF,st⟩ a1 l σ);rw[<-fE.out];have dj:=(aK.later aE);have da:=(Om.of (L:=L) aE (Oi bI));have dF:=hide bK;have bj:=hide hr2;have ep:=(hl.later aE);have cI:=hide cH;have dk:=(U.later aE);have nu:=(RV.kp (Kp.of aE) _ _ fm);have od:=hide hP;have ah:=hide bq;obtain⟨cT,dO,aO⟩:=U.form;subst aO;have dc:=dj.lt;have n5:=hide e3;have DP:cW.length<=1000000:=Nw;clear bK hr2 hP bq ds cH d5 e3;go_enter func28,ntmps28;go_wp2_with fail
 rw[<-bu.out,<-b1,<-bU];clear bU b1
 go_loopw [14] (fun i wr=>∃ (k:Nat) (hv:Option Va) (dy:St),k<=cW.length/\i=Nr k/\Ms w0 mb af aa wr dy/\P dy hv/\Om L mb w2 wr/\NY wr L hv/\rs=QC F ⟨aq,aF,st⟩ (a1.drop k) hv dy) (fun i _=>cW.length - (intOf i).toNat)
 case atStart=>exact⟨0,l,σ,Nat.zero_le _,rfl,dj,od.out,Om.of P8 (Oi dc),ep,fE.out⟩
 case round=>
  obtain⟨k,hv,dy,E,rfl,aK,ld,ak,ki,iJ⟩:=hrel;have l2:=hide ld;have iN:=hide iJ;have h6:=aK.lt;have dd:=ak.kpL ep;have bY:=hide (ak.P7 ep bj.out NH NH);have AZ:=ak.P7 ep dF.out NH NH;clear ld iJ
  by_cases aQ:k<cW.length
  ·have bn:k<a1.length:=by rw[<-n5.out];exact aQ
   obtain⟨g,cap,ap,hg,ai,aA⟩:=(dk.kp dd).cell k aQ;have z:=kk (∀{G}(h:G:=by
   obtain⟨ch,ij⟩:=Ns ah a1[k] (List.getElem_mem _) dy hv l2.out;have bA:=(ch wr cW[k] aK ((RV.get _ _ nu k aQ bn).kp dd) ki);rw[<-kG.out] at bA;obtain⟨q,ag⟩:=xE ((cW[k]).p);rw[<-ag] at ai bA
   rcases dh:F.s a1[k] ⟨aq,aF,st⟩ hv dy with ⟨⟨bG,av,b8⟩,σ1⟩
   rw[dh] at bA;have lA:=hide ij;have cZ:=hide dh;have lX:=hide (List.drop_eq_getElem_cons bn);obtain⟨aW,p1,cr,cL,_,dY⟩:=cells4 AZ;clear ij ag dh AZ;go_wp2_with fail;refine cm bA ?_;rintro e aD ⟨⟨ev,rfl,aI⟩,gY,gu,gD⟩;have fc:=(ak.trans gu);have dG:=hide (gu.P7 ki bY.out NH NH);have ht:=gY.lt;clear aW p1 cr cL dY ai;obtain⟨iu,⟨ew,dC,eE⟩⟩:=bG
   cases iu with
   | true=>
    by_cases au:av=.no
    ·subst au;have br:ev=Pe:=aI;subst br;have aH:rs=((⟨true,⟨ew,dC,eE⟩⟩,.no,b8),σ1):=by rw[iN.out,lX.out];exact amX cZ.out rfl
     have cz:=hide aH;clear aH;have z:=kk (∀{G}(h:G:=by
     refine bodyPost_ret (v:=.tuple #[RX ⟨true,⟨ew,dC,eE⟩⟩,Pe]) (by simp[results,results28,go_sem,bi,aY,aX,cu]) rfl ?_;rw[cz.out];exact⟨⟨_,rfl,mW⟩,bv,bx,xr⟩),G);exact azm
    ·obtain⟨et,ex,br⟩:=aI.Vs au ae;subst br;have aH:rs=((⟨true,⟨ew,dC,eE⟩⟩,av,b8),σ1):=by rw[iN.out,lX.out];exact aiO cZ.out au
     have cz:=hide aH;clear aH au;have z:=kk (∀{G}(h:G:=by
     refine bodyPost_ret (v:=.tuple #[RX ⟨true,⟨ew,dC,eE⟩⟩,.iface et ex]) (by simp[results,results28,go_sem,bi,aY,aX,cu]) rfl ?_;rw[cz.out];exact⟨⟨_,rfl,mW⟩,bv,bx,xr⟩),G);exact azm
   | false=>
    by_cases au:av=.no
    ·subst au;have br:ev=Pe:=aI;subst br;go_wp2_with fail;have ed:=(Below.refl aD.heap.size aD).alloc OH (.cells #[NI false,Nr ew,Nr dC,ND eE] 67);have jC:=(gY.later ed);have cV:=(fc.trans (Om.of (L:=L) ed (Oi ht)));have uJ:=(gD.later ed)
     go_roundw
     case rel=>
      refine⟨k+1,b8,σ1,by omega,by go_num,jC,Ns lA _ b8 σ1 cZ.out,cV,uJ,?_⟩;rw[iN.out,lX.out];exact aqa cZ.out rfl
     case measure=>simp[intOf];omega
    ·obtain⟨et,ex,br⟩:=aI.Vs au ae;subst br;have aH:rs=((⟨false,⟨ew,dC,eE⟩⟩,av,b8),σ1):=by rw[iN.out,lX.out];exact aiO cZ.out au
     have cz:=hide aH;clear aH au;obtain⟨cy,bQ,b5,d',dn,dp,dq,iL,rl⟩:=PE dG.out;go_wp2_with fail;obtain⟨b3,bz⟩:=xE (((((aD.setCell (Nv aR 0) (NI false)).setCell (Nv aR 1) (Nr ew)).setCell (Nv aR 2) (Nr dC)).setCell (Nv aR 3) (ND eE)).alloc (.cells #[NI false,Nr ew,Nr dC,ND eE] 67));rw[<-bz];have gF:mb<=aR:=by have:=Ns cI;omega
     have bb:=Sr dG.out gF (NI false) (Nr ew) (Nr dC) (ND eE);have ed:=(Below.refl _ ((((aD.setCell (Nv aR 0) (NI false)).setCell (Nv aR 1) (Nr ew)).setCell (Nv aR 2) (Nr dC)).setCell (Nv aR 3) (ND eE))).alloc OH (.cells #[NI false,Nr ew,Nr dC,ND eE] 67);have d7:=stays ed (Zg dG.out (NI false) (Nr ew) (Nr dC) (ND eE));have bP:=kk (∀{G}(h:G:=by
     refine bodyPost_ret (v:=.tuple #[RX ⟨false,⟨ew,dC,eE⟩⟩,.iface et ex]) (by simp[results,results28,go_sem,bi,aY,aX,cu]) rfl ?_;rw[cz.out];exact⟨⟨_,rfl,mW⟩,bv,bx,xr⟩),G);exact ztm),G);exact auj
  ·have cM:k=cW.length:=Nw;have aH:rs=((PX,.no,hv),dy):=by rw[iN.out,cM,n5.out,List.drop_length];rfl
   have cz:=hide aH;have hL:¬ (k:Int)<(cW.length:Int):=Nw;obtain⟨cy,bQ,b5,d',dn,dp,dq,iL,rl⟩:=PE bY.out;clear aH cM AZ;go_wp2_with fail;obtain⟨b3,bz,bb,bx,bv,bi,aY,aX,cu⟩:=rt4 bY.out cI.out bI (da.trans ak) aK (NI false) (Nr 0) (Nr 0) (OG);rw[<-bz];refine bodyPost_ret (v:=.tuple #[RX PX,Pe]) (by simp[results,results28,go_sem,bi,aY,aX,cu,vU]) rfl ?_;rw[cz.out];exact⟨⟨_,rfl,rfl⟩,bv,bx,ki.Rk bb⟩),G);exact zsg),G);exact V8),G);exact zsd),G);exact zso
end
end Hp
end Go.Proofs.YticfnaiehdpbmaaGreatDoor
