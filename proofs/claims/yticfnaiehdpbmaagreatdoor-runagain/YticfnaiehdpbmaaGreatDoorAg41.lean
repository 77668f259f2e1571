import Derived.Test.YticfnaiehdpbmaaGreatDoorAg37
import Derived.Test.YticfnaiehdpbmaaGreatDoorAg36
set_option maxRecDepth 100000
set_option maxHeartbeats 8000000
set_option linter.unusedVariables false
namespace Go.Proofs.YticfnaiehdpbmaaGreatDoor
open Go.RowKit Go.Proofs.Tryz
namespace Hp
section
variable {w0:Ny} {mb af:Nat} {aa:List Nat} {es aS aB az aL:NP} {w w':Ny} {σ:St} {N:Nat} {F:Fx} {u:NP} {vs:List Va}
def evQ (d:Nd)(p:Pl)(σ:St):Option (Pl × St):=
 if (!(p.strict||Ou d.2)&&hidden σ.M d.2 { p with strict:=p.strict||Ou d.2 })=true then none else
  some (if (p.strict||Ou d.2)=true then (⟨σ.top,σ.top,true⟩,σ.opn p.scope (-1) (-3)) else ({ p with strict:=p.strict||Ou d.2 },σ))
theorem akz (d:Nd)(p:Pl)(σ:St):Xb F d p σ=match evQ d p σ with
  | none=>((vU,bad SE),σ)
  | some q=>evR (QC F (NW d q.1 q.2).1 (O3 d) (some vU) (NW d q.1 q.2).2).1.2.1 (QC F (NW d q.1 q.2).1 (O3 d) (some vU) (NW d q.1 q.2).2).1.2.2 (QC F (NW d q.1 q.2).1 (O3 d) (some vU) (NW d q.1 q.2).2).2:=by
 unfold Xb evQ;simp only
 split
 ·rfl
 ·simp only
  generalize QC F _ (O3 d) (some vU) _=r
  unfold evR
  rcases r with ⟨⟨o,e,l⟩,mG⟩
  cases e <;> rfl
theorem anc (ae:Yh es)(ac:Mx w0 mb af aa aS aB az aL w σ)(aJ:Sz N σ)(hN:N+10000<1000000000){a:Ad}{d:Nd}(hd:Oa aa w a d)(ai:d.2.count<=1500)(O:∀ k ∈ Sl d,k.2.kids.length=2)(p:Pl)(aC:Option Addr)(al:0<=p.scope/\p.scope<σ.M.NQ.length)
  (bq:∀ cE bO,evQ d p σ=some (cE,bO)->∀ X u (lb:Nat),mb<=lb->Ms w0 mb af aa X (NW d cE bO).2->QT 0 X u a.ks->RV aa X a.ks (O3 d)->NY X (some lb) (some vU)->NK 28 #[Nu mb,u,OQ (NW d cE bO).1 (LA (some lb))] X (OY w0 mb af aa es (some lb) X (QC F (NW d cE bO).1 (O3 d) (some vU) (NW d cE bO).2))) :
  NK 322 #[Nu mb,Nu a.p,OQ p aC] w (Oh w0 mb af aa es w (Xb F d p σ)):=by
 have au:=akz (F:=F) d p σ;have tG:∀ X u (lb:Nat) (cE:Pl) (bO:St),mb<=lb->evQ d p σ=some (cE,bO)->Ms w0 mb af aa X (NW d cE bO).2->QT 0 X u a.ks->RV aa X a.ks (O3 d)->NY X (some lb) (some vU)->NK 28 #[Nu mb,u,OQ (NW d cE bO).1 (LA (some lb))] X (OY w0 mb af aa es (some lb) X (QC F (NW d cE bO).1 (O3 d) (some vU) (NW d cE bO).2)):=fun X u lb cE bO aV h=>bq cE bO h X u lb aV;obtain⟨aq,aF,st⟩:=p
 cases st with
 | true=>
  have ag:evQ d ⟨aq,aF,true⟩ σ=some (⟨σ.top,σ.top,true⟩,σ.opn aq (-1) (-3)):=rfl;refine am8 ae ac aJ hN hd ai O aq aF aC al (fun cE bO=>evQ d ⟨aq,aF,true⟩ σ=some (cE,bO)) ag tG ?_;rw[au,ag]
 | false=>
  cases dA:Ou d.2 with
  | true=>
   have ag:evQ d ⟨aq,aF,false⟩ σ=some (⟨σ.top,σ.top,true⟩,σ.opn aq (-1) (-3)):=by unfold evQ;rw[dA];rfl
   refine am9 ae ac aJ hN hd ai O aq aF aC al (fun cE bO=>evQ d ⟨aq,aF,false⟩ σ=some (cE,bO)) ag tG ?_ dA;rw[au,ag]
  | false=>
   cases fk:hidden σ.M d.2 ⟨aq,aF,false⟩ with
   | true=>
    have ag:evQ d ⟨aq,aF,false⟩ σ=none:=by unfold evQ;rw[dA];exact if_pos fk
    refine ana ac aJ hN hd ai aq aF aC al ?_ dA fk;rw[au,ag]
   | false=>
    have ag:evQ d ⟨aq,aF,false⟩ σ=some (⟨aq,aF,false⟩,σ):=by
     unfold evQ;rw[dA];refine(if_neg (fun h=>?_)).trans rfl;have ax:hidden σ.M d.2 ⟨aq,aF,false⟩=true:=h;rw[fk] at ax;cases ax
    refine anb ae ac aJ hN hd ai O aq aF aC al (fun cE bO=>evQ d ⟨aq,aF,false⟩ σ=some (cE,bO)) ag tG ?_ dA fk;rw[au,ag]
def evB (F:Fx)(s:NR)(p:Pl)(σ:St):(Va × Er) × St:=match evT s p.strict with
 | some t=>Xb F (none,t) p σ
 | none=>((vU,bad SE),σ)
theorem ane {t:Tr}{q:Nat}(aZ:Bs w0 mb af aa es)(aV:mb<=w.heap.size)(h:O7 (From w.heap.size) w' t q):∃ a:Ad,a.p=q/\Oa aa w' a (none,t):=by
 obtain⟨a,h1,O,ax,_,bN⟩:=O7.ad t q h;refine⟨a,O,QD.mono (fun _ _ _=>trivial) _ ax,h1,fun b D dK=>?_⟩;have cA:w.heap.size<=b:=bN b D;obtain⟨cs,qJ,ai⟩:=aZ.an b dK;have j1:=lt_of_heap ai;rw[aZ.sz] at j1;omega
theorem arX:UE 320:=fun _ _=>by kernel_rfl
theorem aiQ (ae:Yh es)(aZ:Bs w0 mb af aa es)(hg:Gl w0)(ac:Mx w0 mb af aa aS aB az aL w σ)(aJ:Sz N σ)(hN:N+10000<1000000000)(aq aF:Int)(st:Bool)(aC:Option Addr)(al:0<=aq/\aq<σ.M.NQ.length){v:Va}{vs:List Va}{dl bc em:Nat}(b0:w.heap[dl]? = some (Og #[Nu mb] 62))(sk:w.heap[bc]? = some (Og #[Nr aq,Nr aF,NI st,.pointer aC] 73))(d1:w.heap[em]? = some (Og #[u] 311))(U:Sv w u (v::vs))
  (bq:∀ t,evT v.s st=some t->∀ (a:Ad) cE bO,evQ (none,t) ⟨aq,aF,st⟩ σ=some (cE,bO)->∀ X u (lb:Nat),mb<=lb->Ms w0 mb af aa X (NW (none,t) cE bO).2->QT 0 X u a.ks->RV aa X a.ks (O3 (none,t))->NY X (some lb) (some vU)->NK 28 #[Nu mb,u,OQ (NW (none,t) cE bO).1 (LA (some lb))] X (OY w0 mb af aa es (some lb) X (QC F (NW (none,t) cE bO).1 (O3 (none,t)) (some vU) (NW (none,t) cE bO).2))) :
  NK 320 #[NM em 0,NM bc 0,NM dl 0] w (Oh w0 mb af aa es w (evB F v.s ⟨aq,aF,st⟩ σ)):=by
 have bI:=ac.lt;have H3:=hN;have z:=kk (∀{G}(h:G:=by
 obtain⟨o8,A'⟩:=xE v.s;have eM:=ac.later aE;have bj:=hide hr2;have hT:=hide (stays aE b0);have n8:=hide (stays aE sk);have da:=(Om.of (L:=none) aE (Oi bI));have dG:=hide (fun X (aj:NJ w2 X)=>aht (es:=es) v.s st X (Gl.ms hg aZ ⟨_,_,_,_,eM.later aj⟩));obtain⟨g,iV,cap,aO,dx,gC,eq,hp⟩:=(U.later aE).cells (i:=0) rfl;rw[Nat.zero_mul,Nat.add_zero] at gC eq hp;subst aO;rw[<-A'] at hp dG;obtain⟨et,jy⟩:=xH (evT o8 st);rw[<-jy.out] at dG;obtain⟨bL,cZ⟩:=xH (evB F o8 ⟨aq,aF,st⟩ σ);rw[<-A'] at bq ⊢
 rw[<-cZ.out];have ah:=hide bq;have hn:=hide hp;have mI:=hide (bx1 (stays aE d1));have e1:=hide (bx1 hT.out);have ga:=hide (cells4 n8.out);have cI:=hide cH;have dc:=eM.lt;have xM:=lt_of_heap (stays aE d1);have LX:=lt_of_heap n8.out;have od:=hide al;have Kt:=hide dx;clear hr2 cH A' b0 sk d1 gC eq hp bq al;go_enter func320,ntmps320;go_wp2_with fail;rw[<-bu.out,<-b1];clear b1
 cases et with
 | none=>
  have aH:bL=((vU,bad SE),σ):=by
   rw[cZ.out];unfold evB
   show (match evT o8 st with|some t=>_|none=>_)=_
   rw[<-jy.out]
  have cz:=hide aH;clear aH;have z:=kk (∀{G}(h:G:=by
  rintro e aD ⟨i',ev,rfl,aI⟩;refine ko A ?_;clear A K;have pq:=ab.trans (i'.mono ab.size);have d8:=hide (stays pq bj.out);have k6:Ms w0 mb af aa aD σ:=⟨_,_,_,_,eM.later pq⟩;have jW:=(da.trans (Om.of (L:=none) pq (Oi dc)));obtain⟨qJ,ex,br⟩:=aI.Vs Oq ae;subst br;have yJ:=aI;refine uz 7 (.tuple #[Qb,.iface qJ ex]) ?_;refine uz 8 Qb ?_;refine uz 9 (.iface qJ ex) ?_;refine uz 10 Qb ?_;refine uz 11 (.iface qJ ex) ?_;refine QX ?_ _;go_simp;obtain⟨cy,bQ,b5,dn,dp,dq,rl⟩:=Ot d8.out;have z:=kk (∀{G}(h:G:=by
  refine bodyPost_ret (v:=.tuple #[vA vU,.iface qJ ex]) (by simp[results,results320,go_sem,bi,aY,aX,vU]) rfl ?_;rw[cz.out];exact⟨⟨_,rfl,yJ.O6 bb NH⟩,bv,bx⟩),G);exact auW),G);exact aAa
 | some t=>
  have aH:bL=Xb F (none,t) ⟨aq,aF,st⟩ σ:=by
   rw[cZ.out];unfold evB
   show (match evT o8 st with|some t=>_|none=>_)=_
   rw[<-jy.out]
  have cz:=hide aH;have mo:Nk 9 t:=by
   have h:=Ns jy;unfold evT at h
   cases al:QK PI Pq o8 with
   | ok t2=>
    rw[al] at h;simp only at h
    cases E:chk t2 st false false with
    | none=>rw[E] at h;cases h;exact WI al E
    | some e=>rw[E] at h;cases h
   | _=>rw[al] at h;cases h
  have hbk:=mo.bk Nw;have hcnt:t.count<=1500:=mo.ct;have O:∀ k ∈ Sl ((none,t):Nd),k.2.kids.length=2:=fun k E=>by
   obtain⟨kd,ku,bT,p1,dl,ax,_⟩:=(X7 (d:=(none,t)) hbk k E).sh;rw[ax];rfl
  have gT:=hide O;clear aH O;have z:=kk (∀{G}(h:G:=by
  rintro e aD ⟨i',BC,rfl,hN⟩;refine ko A ?_;clear A K;have pq:=ab.trans (i'.mono ab.size);obtain⟨a,aw,jd⟩:=ane aZ (Oi ((eM.later ab).lt)) hN;have d8:=hide (stays pq bj.out);have uZ:=(eM.later pq);have jW:=(da.trans (Om.of (L:=none) pq (Oi dc)));have cj:=bx1 (stays pq hT.out);have eR:=lt_of_heap (stays pq hT.out);obtain⟨aW,p1,cr,cL,_,dY⟩:=cells4 (stays pq n8.out);have lD:=(anc ae uZ aJ H3 jd hcnt gT.out ⟨aq,aF,st⟩ aC od.out (Ns ah t jy.out.symm a));rw[<-cz.out,aw] at lD;clear hN aw
  refine uz 7 (.tuple #[NM BC 0,Pe]) ?_;refine uz 8 (NM BC 0) ?_;refine uz 9 Pe ?_;refine uz 10 (NM BC 0) ?_;refine uz 11 Pe ?_;refine QX ?_ _;go_simp;go_wp2_with fail;refine cm lD ?_;rintro e wd ⟨⟨ev,rfl,aI⟩,aK,ak⟩;have hW:=hide (ak.keep d8.out NH);have ho:=(jW.trans ak);obtain⟨v9,jn⟩:=xH bL.1.1;rw[<-jn.out];clear cj aW p1 cr cL dY eR;obtain⟨hz,g4,gR,kx,ky,kz,kA⟩:=Ot hW.out;go_wp2_with fail;obtain⟨b3,bz,bb,bx,bv,bi,aY,aX⟩:=rt3 hW.out cI.out bI ho aK (Nr v9.k) (Nr v9.n) (ND v9.s);rw[<-bz]
  refine bodyPost_ret (v:=.tuple #[vA v9,ev]) (by simp[results,results320,go_sem,bi,aY,aX]) rfl ?_;exact⟨⟨_,by rw[jn.out],aI.O6 bb NH⟩,bv,bx⟩),G);exact aAa),G);exact azD
def evP (c:Tr)(p:Pl):Pl:=if c.kd≠23\/c.tx≠TK then ⟨1,0,false⟩ else p
theorem ang (c:Tr)(p:Pl)(a:Va)(more:List Va)(σ:St):Xc F c p (a::more) σ=if a.k≠4 then ((a,.no),σ) else within σ (evB F a.s (evP c p)):=by
 unfold Xc evP;simp only
 split
 ·rfl
 ·congr 1
  funext σ
  unfold evB evT
  cases QK PI Pq a.s with
  | ok t=>
   simp only
   cases chk t _ false false with
   | none=>rfl
   | some e=>rfl
  | _=>rfl
section
variable (ac:Mx w0 mb af aa aS aB az aL w σ) {c:Ad} (p:Pl) (aC:Option Addr)
include ac c p aC
theorem akA (U:Sv w u []) :
  NK 300 #[Nu mb,Nu c.p,OQ p aC,u] w (Oh w0 mb af aa es w ((vU,.no),σ)):=by
 have im:=V9;have bI:=ac.lt;obtain⟨aq,aF,st⟩:=p;obtain⟨cT,dO,aO⟩:=U.form;subst aO;obtain⟨dC,rt⟩:=xE (List.length ([]:List Va));have z:=kk (∀{G}(h:G:=by
 have pK:dC=0:=rt;subst pK;rw[<-ag];clear de hr2 cH ds d5 b4 bU bm b1 b0 sk d1 ag rt;go_enter func300,ntmps300;go_wp2_with fail;rw[<-bu.out,<-d8.out];obtain⟨bi,aY,aX,_,_⟩:=cells3 bj.out;refine bodyPost_ret (v:=.tuple #[vA vU,Pe]) (by simp[results,results300,go_sem,bi,aY,aX,vU]) rfl ?_;exact⟨⟨_,rfl,rfl⟩,dj,da⟩),G);exact zsl
theorem ahx {v:Va}{vs:List Va}(U:Sv w u (v::vs))(E:v.k≠4) :
  NK 300 #[Nu mb,Nu c.p,OQ p aC,u] w (Oh w0 mb af aa es w ((v,.no),σ)):=by
 have z:=kk (∀{G}(h:G:=by
 have z:=kk (∀{G}(h:G:=by
 have pK:dC≠0:=by rw[rt];simp
 have sM:¬ (dC:Int)=0:=Nw;have xW:(0:Int)<(dC:Int):=Nw;obtain⟨g,iV,cap,aO,dx,gC,eq,hp⟩:=U.cells (i:=0) rfl;rw[Nat.zero_mul,Nat.add_zero] at gC eq hp;have bP:=kk (∀{G}(h:G:=by
 rw[<-ag];have e4:(v.k==4)=false:=beq_eq_false_iff_ne.2 E;obtain⟨b3,bz⟩:=xE ((((w.alloc (.cells #[Nu mb] 62)).alloc (.cells #[Nr aq,Nr aF,NI st,.pointer aC] 73)).alloc (.cells #[.slice (some (Nv g iV)) dC dO] 311)).alloc (.cells #[Nr v.k,Nr v.n,ND v.s] 65));have Jl:=ac;clear de hr2 cH ds d5 b4 bU bm b0 sk d1 ag rt;have d7:b3.heap[aR]? = some (XI v):=by
  rw[bz,b1,show w.heap.size+1+1+1=(((w.alloc (.cells #[Nu mb] 62)).alloc (.cells #[Nr aq,Nr aF,NI st,.pointer aC] 73)).alloc (.cells #[.slice (some (Nv g iV)) dC dO] 311)).heap.size by simp];exact NG _ _
 have ed:NJ w b3:=by rw[bz];exact((OM.alloc Oq _).alloc Qa _).alloc Qa _
 have og:=hide d7;have y0:Ms w0 mb af aa w σ:=⟨_,_,_,_,Jl⟩;have zq:=hide bz;clear d7 bz b1;go_enter func300,ntmps300;go_wp2_with fail;rw[<-zq.out,<-d8.out];obtain⟨bi,aY,aX,_,_⟩:=cells3 og.out;refine bodyPost_ret (v:=.tuple #[vA v,Pe]) (by simp[results,results300,go_sem,bi,aY,aX]) rfl ?_;exact⟨⟨_,rfl,rfl⟩,y0.later ed,Om.of ed (Oi bI)⟩),G);exact aAi),G);exact zsl),G);exact aqx
end
theorem afJ (ae:Yh es)(aZ:Bs w0 mb af aa es)(vJ:Gl w0)(ac:Mx w0 mb af aa aS aB az aL w σ)(aJ:Sz N σ)(hN:N+10000<1000000000)(dP:σ.calls<=40){c:Ad}{mc:Nd}(Aq:Oa aa w c mc)(bn:mc.2.kd=23)(cD:mc.2.tx=TK)(p:Pl)(aC:Option Addr)(al:0<=p.scope/\p.scope<σ.M.NQ.length)(xP:2<=σ.M.NQ.length){v:Va}{vs:List Va}(U:Sv w u (v::vs))(E:v.k=4)
  (bZ:σ.calls≠40->(evB F v.s p { σ with calls:=σ.calls+1 }).2.calls=σ.calls+1)
  (bq:σ.calls≠40->∀ t,evT v.s p.strict=some t->∀ (a:Ad) cE bO,evQ (none,t) p { σ with calls:=σ.calls+1 }=some (cE,bO)->∀ X u (lb:Nat),mb<=lb->Ms w0 mb af aa X (NW (none,t) cE bO).2->QT 0 X u a.ks->RV aa X a.ks (O3 (none,t))->NY X (some lb) (some vU)->NK 28 #[Nu mb,u,OQ (NW (none,t) cE bO).1 (LA (some lb))] X (OY w0 mb af aa es (some lb) X (QC F (NW (none,t) cE bO).1 (O3 (none,t)) (some vU) (NW (none,t) cE bO).2))) :
  NK 300 #[Nu mb,Nu c.p,OQ p aC,u] w (Oh w0 mb af aa es w (within σ (evB F v.s p))):=by
 have z:=kk (∀{G}(h:G:=by
 have z:=kk (∀{G}(h:G:=by
 have z:=kk (∀{G}(h:G:=by
 rw[bn] at c0;have av:=UW (b:=TK) rfl cD;obtain⟨tx,wl⟩:=xE mc.2.tx;rw[<-wl] at c1 av;clear wl cD bn;obtain⟨rs,eD⟩:=xE (within σ (evB F v.s ⟨aq,aF,st⟩));have a6:=fun X (aj:Mx w0 mb af aa aS aB az aL X σ) (bV:X.heap[dl]? = some (Og #[Nu mb] 62)) (kp:X.heap[bc]? = some (Og #[Nr aq,Nr aF,NI st,.pointer aC] 73)) (ir:X.heap[em]? = some (Og #[.slice (some (Nv g iV)) dC dO] 311)) (Bu:Sv X (.slice (some (Nv g iV)) dC dO) (v::vs))=>
  aa7 (es:=es) aj dP arX (caps:=#[NM em 0,NM bc 0,NM dl 0]) (g:=evB F v.s ⟨aq,aF,st⟩) bZ (fun vr Y cB bF c9=>
   aiQ ae aZ vJ cB (aJ.calls _) hN aq aF st aC al (bF _ _ _ bV NH) (bF _ _ _ kp NH) (bF _ _ _ ir NH) (Bu.keep fun b c D=>bF b c 65 D NH) (bq vr))
 have z:=kk (∀{G}(h:G:=by
 obtain⟨ao,j4⟩:=xE w2;have c8:=bj;have cV:=da;rw[<-j4] at c8 cV eM hT n8 nn l4 ⊢;clear j4;refine cm (Ns zr ao eM hT.out n8.out nn.out l4) ?_;exact aAj),G);exact aAk),G);exact auX),G);exact zsl),G);exact aqx
theorem aqy (ae:Yh es)(aZ:Bs w0 mb af aa es)(vJ:Gl w0)(ac:Mx w0 mb af aa aS aB az aL w σ)(aJ:Sz N σ)(hN:N+10000<1000000000)(dP:σ.calls<=40){c:Ad}{mc:Nd}(Aq:Oa aa w c mc)(bn:mc.2.kd≠23)(p:Pl)(aC:Option Addr)(al:0<=p.scope/\p.scope<σ.M.NQ.length)(xP:2<=σ.M.NQ.length){v:Va}{vs:List Va}(U:Sv w u (v::vs))(E:v.k=4)
  (bZ:σ.calls≠40->(evB F v.s ⟨1,0,false⟩ { σ with calls:=σ.calls+1 }).2.calls=σ.calls+1)
  (bq:σ.calls≠40->∀ t,evT v.s false=some t->∀ (a:Ad) cE bO,evQ (none,t) ⟨1,0,false⟩ { σ with calls:=σ.calls+1 }=some (cE,bO)->∀ X u (lb:Nat),mb<=lb->Ms w0 mb af aa X (NW (none,t) cE bO).2->QT 0 X u a.ks->RV aa X a.ks (O3 (none,t))->NY X (some lb) (some vU)->NK 28 #[Nu mb,u,OQ (NW (none,t) cE bO).1 (LA (some lb))] X (OY w0 mb af aa es (some lb) X (QC F (NW (none,t) cE bO).1 (O3 (none,t)) (some vU) (NW (none,t) cE bO).2))) :
  NK 300 #[Nu mb,Nu c.p,OQ p aC,u] w (Oh w0 mb af aa es w (within σ (evB F v.s ⟨1,0,false⟩))):=by
 have z:=kk (∀{G}(h:G:=by
 have z:=kk (∀{G}(h:G:=by
 have z:=kk (∀{G}(h:G:=by
 have e5:(mc.2.kd==23)=false:=beq_eq_false_iff_ne.2 bn;obtain⟨kd,cM⟩:=xE mc.2.kd;rw[<-cM] at c0 e5 bn;clear cM;exact aAl),G);exact auX),G);exact zsl),G);exact aqx
theorem aqz (ae:Yh es)(aZ:Bs w0 mb af aa es)(vJ:Gl w0)(ac:Mx w0 mb af aa aS aB az aL w σ)(aJ:Sz N σ)(hN:N+10000<1000000000)(dP:σ.calls<=40){c:Ad}{mc:Nd}(Aq:Oa aa w c mc)(bn:mc.2.kd=23)(cD:mc.2.tx≠TK)(p:Pl)(aC:Option Addr)(al:0<=p.scope/\p.scope<σ.M.NQ.length)(xP:2<=σ.M.NQ.length){v:Va}{vs:List Va}(U:Sv w u (v::vs))(E:v.k=4)
  (bZ:σ.calls≠40->(evB F v.s ⟨1,0,false⟩ { σ with calls:=σ.calls+1 }).2.calls=σ.calls+1)
  (bq:σ.calls≠40->∀ t,evT v.s false=some t->∀ (a:Ad) cE bO,evQ (none,t) ⟨1,0,false⟩ { σ with calls:=σ.calls+1 }=some (cE,bO)->∀ X u (lb:Nat),mb<=lb->Ms w0 mb af aa X (NW (none,t) cE bO).2->QT 0 X u a.ks->RV aa X a.ks (O3 (none,t))->NY X (some lb) (some vU)->NK 28 #[Nu mb,u,OQ (NW (none,t) cE bO).1 (LA (some lb))] X (OY w0 mb af aa es (some lb) X (QC F (NW (none,t) cE bO).1 (O3 (none,t)) (some vU) (NW (none,t) cE bO).2))) :
  NK 300 #[Nu mb,Nu c.p,OQ p aC,u] w (Oh w0 mb af aa es w (within σ (evB F v.s ⟨1,0,false⟩))):=by
 have z:=kk (∀{G}(h:G:=by
 have z:=kk (∀{G}(h:G:=by
 have z:=kk (∀{G}(h:G:=by
 rw[bn] at c0;have av:=Uw (b:=TK) rfl cD;obtain⟨tx,wl⟩:=xE mc.2.tx;rw[<-wl] at c1 av;clear wl cD bn;exact aAl),G);exact auX),G);exact zsl),G);exact aqx
def arY (F:Fx)(d:Nd)(p:Pl)(r:(List Va × Er) × St):(Va × Er) × St:=match r with
 | ((f::args,.no),σ1)=>
  if f.k≠5 then ((vU,bad tType),σ1) else
  let c:=σ1.M.codeOf f.n
  if c=0 then ((vU,bad tType),σ1)
  else if c=1 then ((vU,.no),{ σ1 with log:=σ1.log++[Wv (args.map σ1.M.shw)] })
  else if c=2 then Xc F (Nz d 0).2 p args σ1
  else match σ1.Qn[(c - 3).toNat]? with
   | some fn=>V6 F fn args σ1
   | none=>((vU,.no),σ1)
 | ((_,e),σ1)=>((vU,e),σ1)
theorem anh (d:Nd)(p:Pl)(σ:St):Yy F d p σ=arY F d p (TU F p (O3 d) [] σ):=rfl
theorem Ze.head {B g n cap:Nat}{v:Va}(h:Ze B w (.slice (some (Nv g 0)) n cap) (v::vs)):n=vs.length+1/\n<=cap/\g<w.heap.size/\w.cell? (Nv g 0)=some (Nr v.k)/\w.cell? (Nv g 1)=some (Nr v.n)/\w.cell? (Nv g 2)=some (ND v.s)/\∀ m c,m=vs.length->(vs≠[]->c=3)->∀ ov,Sv w (.slice (some (Nv g c)) m ov) vs:=by
 have h1:=h.2
 rcases h1 with ⟨h1,_⟩|⟨gX,cap',cl,h1,_,hg,ai,_,_,a'⟩
 ·
  cases h1
 ·simp only[Value.slice.injEq,Option.some.injEq,Addr.mk.injEq,and_true] at h1;obtain⟨rfl,rfl,rfl⟩:=h1;have hcell:∀ j x,((v::vs).flatMap Xf)[j]? = some x->cl[j]? = some x:=fun j x aT=>by
   rw[<-a',List.getElem?_take] at aT
   split at aT
   ·rw[<-aT,Array.getElem?_toList]
   ·
    cases aT
  refine⟨rfl,ai,lt_of_heap hg,?_,?_,?_,?_⟩
  ·simp[World.cell?,hg,hcell 0 _ rfl]
  ·simp[World.cell?,hg,hcell 1 _ rfl]
  ·simp[World.cell?,hg,hcell 2 _ rfl]
  ·intro m c aV lL ov;subst aV;refine⟨⟨_,_,rfl⟩,fun i x ay=>?_⟩;have ci:vs≠[]:=fun e=>by rw[e] at ay;cases ay
   have H':=lL ci;subst H';have ap:∀ j y,(Xf x)[j]? = some y->j<3->cl[3+i * 3+j]? = some y:=fun j y aT vN=>by
    refine hcell _ _ ?_;have av:(v::vs).flatMap Xf=Xf v++vs.flatMap Xf:=rfl;rw[av,List.getElem?_append_right (by show 3<=_;omega)]
    have bC:3+i * 3+j - (Xf v).length=i * 3+j:=by show 3+i * 3+j - 3=_;omega
    rw[bC,VZ (s:=3) (fun _=>rfl) vs i j vN,ay];exact aT
   exact⟨g,3,ov,cl,rfl,hg,ap 0 _ rfl Nw,ap 1 _ rfl Nw,ap 2 _ rfl Nw⟩
theorem auY (ae:Yh es)(aK:Ms w0 mb af aa w σ){a:Ad}{d:Nd}(hd:Oa aa w a d)(E:1<=d.2.kids.length)(D0:d.2.kids.length<=9)(p:Pl)(aC:Option Addr)
  (h1:∀ X u,Ms w0 mb af aa X σ->QT 0 X u a.ks->RV aa X a.ks (O3 d)->NK 293 #[Nu mb,u,OQ p aC] X (arU w0 mb af aa es X (TU F p (O3 d) [] σ)))
  (hP:∀ f args σ1,TU F p (O3 d) [] σ=((f::args,.no),σ1)->f.k=5->σ1.M.codeOf f.n=1->∀ X u,Ms w0 mb af aa X σ1->Sv X u args->NK 299 #[Nu mb,u] X fun e w'=>e=NU (.tuple #[])/\Ms w0 mb af aa w' { σ1 with log:=σ1.log++[Wv (args.map σ1.M.shw)] }/\Om none mb X w')
  (aI:∀ f args σ1,TU F p (O3 d) [] σ=((f::args,.no),σ1)->f.k=5->σ1.M.codeOf f.n=2->∀ X u (c:Ad),Ms w0 mb af aa X σ1->Sv X u args->Oa aa X c (Nz d 0)->NK 300 #[Nu mb,Nu c.p,OQ p aC,u] X (Oh w0 mb af aa es X (Xc F (Nz d 0).2 p args σ1)))
  (ak:∀ f args σ1,TU F p (O3 d) [] σ=((f::args,.no),σ1)->f.k=5->σ1.M.codeOf f.n≠0->σ1.M.codeOf f.n≠1->σ1.M.codeOf f.n≠2->∃ fn,3<=σ1.M.codeOf f.n/\σ1.M.codeOf f.n<1000000000/\σ1.Qn[(σ1.M.codeOf f.n - 3).toNat]? = some fn/\∀ X u (c:Ad),Ms w0 mb af aa X σ1->Sv X u args->Oa aa X c fn.d->NK 301 #[Nu mb,.agg #[Nu c.p,Nr fn.scope,NI fn.strict],u] X (Oh w0 mb af aa es X (V6 F fn args σ1))) :
  NK 263 #[Nu mb,Nu a.p,OQ p aC] w (Oh w0 mb af aa es w (Yy F d p σ)):=by
 obtain⟨rs,eD⟩:=xE (Yy F d p σ);rw[<-eD];have z:=kk (∀{G}(h:G:=by
 obtain⟨cT,dO,c3,hrow⟩:=cS.ar;obtain⟨gy,nw⟩:=xH d.2.kids.length;rw[<-nw.out] at c3 hrow E D0;have bA:=hide (fun X (aj:NJ w2 X)=>h1 X _ (dj.later aj) (hrow.later aj) ((cS.kp (Kp.of aj)).ndl))
 rcases U:TU F ⟨aq,aF,st⟩ (O3 d) [] σ with ⟨⟨vs,av⟩,σ1⟩
 rw[U] at bA hP aI ak;have kj:av=.no->vs.length=gy:=fun e=>by
  subst e;have:=aaZ _ _ _ _ _ U;rw[this,nw.out,QI];simp
 have s8:=hide kj;have fE:Hid (rs=arY F d ⟨aq,aF,st⟩ ((vs,av),σ1)):=by
  show _=_
  rw[eD,anh,U]
 obtain⟨q,bo⟩:=xH a.p;rw[<-bo.out] at c3 dL ⊢;have eB:=hide c3;have FS:=hide hP;have FP:=hide aI;have FQ:=hide ak;clear bK hr2 U h1 hP aI ak ds cH d5 c3 eD kj;go_enter func263,ntmps263;go_wp2_with fail;rw[<-bu.out,<-b1,<-bU];clear bU b1;refine Rj 6 fun ab=>?_;have z:=kk (∀{G}(h:G:=by
 refine uk 4 eB.out ab ?_;refine uk4 5 ga.out ab ?_;refine O0 6 fun K A=>?_;go_simp;refine cm (Ns bA _ ab) ?_;rintro e ao ⟨⟨j7,ev,rfl,kq,zQ⟩,eV,f4⟩;refine ko A ?_;clear A K;have m2:=(Om.of (L:=none) ab (Oi dc)).trans f4;have c8:=hide (m2.keep bj.out NH);have fi:=hide (m2.keep dF.out NH);have lC:=(cS.kp m2.SX);have cV:=(da.trans m2);have l4:=kq;have gh:=eV.lt;obtain⟨va,dv,wo⟩:=N8 kq;subst wo;clear hpl2 dL;obtain⟨cy,bQ,b5,dn,dp,dq,rl⟩:=Ot c8.out
 refine uz 7 (.tuple #[.slice va vs.length dv,ev]) ?_;refine uz 8 (.slice va vs.length dv) ?_;refine uz 9 ev ?_;refine uz 10 (.slice va vs.length dv) ?_;refine uz 11 ev ?_;refine QX ?_ _;go_simp
 by_cases au:av=.no
 ·subst au;have br:ev=Pe:=zQ;subst br;obtain⟨f,args,rfl⟩:∃ f args,vs=f::args:=by
   cases vs with
   | nil=>have:=Ns s8 rfl;simp at this;omega
   | cons f args=>exact⟨f,args,rfl⟩
  have mY:=Ns s8 rfl;obtain⟨g,cap,ap,qr,_⟩:=World.ownsRow.form l4 Oq;simp only[Value.slice.injEq] at ap;obtain⟨rfl,hdrop,rfl⟩:=ap;clear hdrop;obtain⟨m,aV⟩:=xE ((f::args).length);rw[<-aV] at l4 mY ⊢;obtain⟨nO,ht,dx,gC,eq,hp,Ew⟩:=l4.head;have vP:(1:Int)<=(m:Int):=Nw;have yE:=hide (show ao.cell? (Nv g 0)=some (Nr f.k)/\ao.cell? (Nv g 1)=some (Nr f.n)/\ao.cell? (Nv g 2)=some (ND f.s) from ⟨gC,eq,hp⟩);have zn:=hide Ew;have jB:=hide nO;have AO:m<=9:=Nw;clear Ew gC eq hp aV nO mY
  obtain⟨bT,gG⟩:=xE args.length;obtain⟨qc,rfl⟩:∃ qc,dv=qc+1:=⟨dv - 1,by omega⟩;obtain rfl:m=bT+1:=by rw[gG];exact Ns jB
  obtain⟨iV,pP,sL⟩:∃ iV pP,(if qc=0 then iV=0/\pP=0 else iV=3/\pP=qc):=by
   by_cases h:qc=0
   ·exact⟨0,0,by rw[if_pos h];exact⟨rfl,rfl⟩⟩
   ·exact⟨3,qc,by rw[if_neg h];exact⟨rfl,rfl⟩⟩
  have Jf:Sv ao (.slice (some (Nv g iV)) bT pP) args:=Ns zn bT iV gG (fun ci=>by
   rw[if_neg (fun h=>ci (List.eq_nil_of_length_eq_zero Nw))] at sL;exact sL.1) pP
  clear gG;go_wp2_with fail;refine Rj 6 fun ab=>?_;refine uh 0 (.slice (some (Nv g 0)) (bT+1) (qc+1)) (ab) ?_;refine up 1 g 0 ab ?_;refine uc 2 (.agg #[Nr f.k,Nr f.n,ND f.s]) rfl (Or.inl ⟨by kernel_rfl,fun X aj=>by have h0:=Oj aj (yE.out.1);have h1:=Oj aj (yE.out.2.1);have O:=Oj aj (yE.out.2.2);go_simp⟩) (ab) ?_
  refine uh 3 (.slice (some (Nv g 0)) (bT+1) (qc+1)) (ab) ?_;refine uh 4 (.slice (some (Nv g iV)) bT pP) (ab) ?_ (hy:=Or.inl ⟨by kernel_rfl,fun _ _=>by by_cases eI:qc=0;· { rw[if_pos eI] at sL;obtain⟨rfl,rfl⟩:=sL;subst eI;obtain rfl:bT=0:=Nw;go_simp };· { rw[if_neg eI] at sL;obtain⟨rfl,rfl⟩:=sL;go_simp;intro h;omega }⟩)
  refine O0 5 fun K A=>?_;go_simp;refine A.out _ _ (fun _=>OM.drew) ?_;clear A K;refine O0 6 fun K A=>?_;go_simp;refine ko A ?_;clear A K;refine uz 7 (.slice (some (Nv g iV)) bT pP) ?_;refine QX ?_ _;go_simp;clear sL;obtain⟨vb,aN⟩:=xE ao.heap.size;obtain⟨b',ha⟩:=xE ((ao.alloc (.cells #[Nr f.k,Nr f.n,ND f.s] 65)).drew);have fv:NJ ao b':=by rw[ha];exact OM.drew
  have Bf:b'.heap[vb]? = some (XI f):=by
   rw[ha,aN];exact stays ((Below.refl _ (ao.alloc (.cells #[Nr f.k,Nr f.n,ND f.s] 65))).drew) (NG _ _)
  rw[<-ha,<-aN];have hV:=(eV.later fv);have fM:=hide (stays fv c8.out);have i6:=hide (stays fv fi.out);have gq:=(cV.trans (Om.of (L:=none) fv (Oi gh)));have ni:=(lC.kp (Kp.of fv));have mH:=(Jf.later fv);have gc:=hide (cells3 Bf);have hM:=hV.lt;have h7:=lt_of_heap Bf;have Jg:vb≠aR:=fun e=>by
   have:=lt_of_heap c8.out;omega
  clear ha aN Bf cy bQ b5 dn dp dq rl dx qr AO;obtain⟨e',cj,dD,_,_⟩:=Ns gc
  by_cases pD:f.k=5
  ·rw[pD] at e';obtain⟨c,ux⟩:=xH (σ1.M.codeOf f.n);have n3:=hide (fun X (aj:Ms w0 mb af aa X σ1)=>by
    obtain⟨_,_,_,_,ac⟩:=aj;exact ag8 ac.hh f.n)
   rw[<-ux.out] at n3;have lZ:=hide pD;clear pD;go_wp2_with fail;clear e' cj dD;refine Rj 5 fun ab=>?_;have z:=kk (∀{G}(h:G:=by
   refine up 3 vb 1 ab ?_;refine uk 4 (gc.out.2.1) ab ?_;refine O0 5 fun K A=>?_;go_simp;refine cm (Ns n3 _ (hV.later ab)) ?_;rintro e b9 ⟨rfl,g2⟩;rw[g2];refine ko A ?_;clear A K;clear g2;refine uz 6 (Nr c) ?_;refine QX ?_ _;go_simp;obtain⟨b9,g2⟩:=xE b'.drew;have e2:NJ b' b9:=by rw[g2];exact P8.drew
   rw[<-g2];replace hV:=(hV.later e2);replace fM:=hide (stays e2 fM.out);replace i6:=hide (stays e2 i6.out);replace gq:=(gq.trans (Om.of (L:=none) e2 (Oi hM)));replace ni:=(ni.kp (Kp.of e2));replace mH:=(mH.later e2);replace hM:=hV.lt;clear g2 h7 Jg;have Ed:rs=if c=0 then ((vU,bad tType),σ1)
    else if c=1 then ((vU,.no),{ σ1 with log:=σ1.log++[Wv (args.map σ1.M.shw)] })
    else if c=2 then Xc F (Nz d 0).2 ⟨aq,aF,st⟩ args σ1
    else match σ1.Qn[(c - 3).toNat]? with
     | some fn=>V6 F fn args σ1
     | none=>((vU,.no),σ1):=by
    rw[fE.out,ux.out]
    show (if f.k≠5 then _ else _)=_
    rw[if_neg (by rw[lZ.out];simp)]
   have r2:=hide Ed;clear Ed;obtain⟨cy,bQ,b5,dn,dp,dq,rl⟩:=Ot fM.out
   by_cases h0:c=0
   ·have cz:Hid (rs=((vU,bad tType),σ1)):=by show _=_;rw[r2.out,if_pos h0]
    subst h0;go_wp2_with fail;exact aAm
   by_cases h1:c=1
   ·have cz:Hid (rs=((vU,.no),{ σ1 with log:=σ1.log++[Wv (args.map σ1.M.shw)] })):=by show _=_;rw[r2.out,if_neg h0,if_pos h1]
    have fD:=(Ns FS f args σ1 rfl lZ.out (ux.out.symm.trans h1) b9 _ hV mH);subst h1;clear h0;go_wp2_with fail;refine cm fD ?_;rintro e wd ⟨rfl,aK,ak⟩;have hW:=hide (ak.keep fM.out NH);have l0:=aK;have ho:=(gq.trans ak);clear ak;obtain⟨hz,g4,gR,kx,ky,kz,kA⟩:=Ot hW.out;go_wp2_with fail;obtain⟨b3,bz,bb,bx,bv,bi,aY,aX⟩:=rt3 hW.out cI.out bI ho l0 (Nr 0) (Nr 0) (OG);rw[<-bz];refine bodyPost_ret (v:=.tuple #[vA vU,Pe]) (by simp[results,results263,go_sem,bi,aY,aX,vU]) rfl ?_;rw[cz.out]
    exact⟨⟨_,rfl,rfl⟩,bv,bx⟩
   have Dk:(c==0)=false:=beq_eq_false_iff_ne.2 h0;have HJ:(c==1)=false:=beq_eq_false_iff_ne.2 h1
   by_cases O:c=2
   ·have cz:Hid (rs=Xc F (Nz d 0).2 ⟨aq,aF,st⟩ args σ1):=by show _=_;rw[r2.out,if_neg h0,if_neg h1,if_pos O]
    obtain⟨ce,cC,cap0,ey,xl,fQ,_⟩:=ni.Xe (i:=0) (by rw[<-nw.out];omega)
    obtain⟨bL,dh⟩:=xE (Xc F (Nz d 0).2 ⟨aq,aF,st⟩ args σ1);have lD:=hide (fun X (aj:NJ b9 X)=>Ns FP f args σ1 rfl lZ.out (ux.out.symm.trans O) X (.slice (some (Nv g iV)) bT pP) ce (hV.later aj) (mH.later aj) (fQ.kp (Kp.of aj)));rw[<-dh] at lD cz;rw[<-nw.out,<-bo.out] at ey;obtain⟨kp,dd⟩:=xE ce.p;rw[<-dd] at xl lD;have Fh:=hide ey;have lz:=hide xl;have ga:=hide (cells4 i6.out);have dL:=cell_lt ey;have dx:=cell_lt xl;have IS:=lt_of_heap i6.out;subst O;clear h0 h1 Dk HJ ey xl dd dh;go_wp2_with fail
    refine Rj 9 fun ab=>?_;have z:=kk (∀{G}(h:G:=by
    refine uk 4 (Ns Fh) ab ?_;refine uh 5 (NM cC 0) (ab) ?_ (hy:=Or.inl ⟨by kernel_rfl,fun _ _=>by go_simp;intro h;omega⟩)
    refine uk 6 lz.out ab ?_;refine uk4 7 ga.out ab ?_;refine uh 8 (.slice (some (Nv g iV)) bT pP) (ab) ?_;refine O0 9 fun K A=>?_;go_simp;refine cm (Ns lD _ ab) ?_;rintro e wd ⟨⟨ev,rfl,aI⟩,aK,ak⟩;refine ko A ?_;clear A K;replace ak:=(Om.of (L:=none) ab (Oi hM)).trans ak;have z:=kk (∀{G}(h:G:=by
    obtain⟨hz,g4,gR,kx,ky,kz,kA⟩:=Ot hW.out;refine uz 10 (vA v9) ?_;have bP:=kk (∀{G}(h:G:=by
    refine uz 13 ev ?_;refine QX ?_ _;go_simp;exact aAn),G);exact ztl),G);exact aAo),G);exact U5
   have Le:(c==2)=false:=beq_eq_false_iff_ne.2 O;have kg:=Ns FQ f args σ1 rfl lZ.out;rw[<-ux.out] at kg;obtain⟨fn,lL,Ia,hs,Dt⟩:=kg h0 h1 O;have cz:Hid (rs=V6 F fn args σ1):=by show _=_;rw[r2.out,if_neg h0,if_neg h1,if_neg O,hs]
   obtain⟨aS,aB,az,aL,oY⟩:=id hV;obtain⟨d0,fG,f8,pC⟩:=oY.fu;obtain⟨i,ay⟩:=xE ((c - 3).toNat);rw[<-ay] at hs;have rf:i<σ1.Qn.length:=(List.getElem?_eq_some_iff.1 hs).1;obtain⟨pN,qs⟩:∃ pN,d0[i]? = some pN:=⟨_,List.getElem?_eq_getElem Nw⟩;have jd:=pC i pN fn qs hs;obtain⟨fg,mf,Ih,_,_⟩:=f8.form Nw;subst Ih;have Ib:c=(i:Int)+3:=Nw;have hcell:∀ j x,(fn3 (pN,fn))[j]? = some x->j<3->b9.cell? (Nv fg (i * 3+j))=some x:=fun j x aT vN=>by
    have aJ:(d0.zip σ1.Qn)[i]? = some (pN,fn):=by rw[List.getElem?_zip_eq_some];exact⟨qs,hs⟩
    rw[f8.cellAt _ Nw,VZ (s:=3) (fun _=>rfl) _ i j vN,aJ];exact aT
   have ce:=hcell 0 _ rfl Nw;have bV:=hcell 1 _ rfl Nw;have dB:=hcell 2 _ rfl Nw;rw[Nat.add_zero] at ce;have LH:fg<b9.heap.size:=(f8.lt fg rfl).2;obtain⟨l',_⟩:=oY.hh.at_ 7 _ rfl;obtain⟨fp,D'⟩:=xE σ1.Qn.length;rw[<-D'] at l' rf;have LN:(i:Int)<(fp:Int):=Nw;obtain⟨bL,dh⟩:=xE (V6 F fn args σ1);have qP:=(Dt b9 (.slice (some (Nv g iV)) bT pP) pN hV mH jd);rw[<-dh] at qP cz;obtain⟨Mv,D1⟩:=xE pN.p;obtain⟨q6,tQ⟩:=xE fn.scope;obtain⟨pk,tR⟩:=xE fn.strict;rw[<-D1] at qP ce;rw[<-tQ] at qP bV
   rw[<-tR] at qP dB;subst Ib;have Ly:(i:Int)<1000000000:=Nw;clear h0 h1 O hcell pC fG qs hs ay D' dh D1 tQ tR Dt lL Ia rf;go_wp2_with fail;refine cm qP ?_;rintro e wd ⟨⟨ev,rfl,aI⟩,aK,ak⟩;clear ce bV dB l';have z:=kk (∀{G}(h:G:=by
   obtain⟨hz,g4,gR,kx,ky,kz,kA⟩:=Ot hW.out;exact aAn),G);exact aAo),G);exact RU
  ·have LQ:(f.k==5)=false:=beq_eq_false_iff_ne.2 pD;have cz:Hid (rs=((vU,bad tType),σ1)):=by
    show _=_
    rw[fE.out]
    show (if f.k≠5 then _ else _)=_
    rw[if_pos pD]
   clear pD;go_wp2_with fail;clear e' cj dD;exact aAm
 ·obtain⟨et,ex,br⟩:=zQ.Vs au ae;subst br;have aH:rs=((vU,av),σ1):=by
   rw[fE.out]
   cases av with
   | no=>exact absurd rfl au
   | stop=>cases vs <;> rfl
   | mis=>cases vs <;> rfl
   | Wq x=>cases vs <;> rfl
  have cz:=hide aH;clear aH au;go_wp2_with fail;obtain⟨b3,bz,bb,bx,bv,bi,aY,aX⟩:=rt3 c8.out cI.out bI cV eV (Nr 0) (Nr 0) (OG);rw[<-bz];refine bodyPost_ret (v:=.tuple #[vA vU,.iface et ex]) (by simp[results,results263,go_sem,bi,aY,aX,vU]) rfl ?_;rw[cz.out];exact⟨⟨_,rfl,zQ.O6 bb NH⟩,bv,bx⟩),G);exact U5),G);exact VT
end
end Hp
end Go.Proofs.YticfnaiehdpbmaaGreatDoor
