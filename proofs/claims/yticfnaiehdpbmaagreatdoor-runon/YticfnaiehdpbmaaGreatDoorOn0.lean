import Derived.Test.YticfnaiehdpbmaaGreatDoorProg
import Derived.WalkKit
import Derived.Deep.LoopGhost
import Derived.Deep.RegionWith
set_option maxRecDepth 100000
set_option maxHeartbeats 8000000
set_option linter.all false
namespace Go.Proofs.YticfnaiehdpbmaaGreatDoor
open Go.RowKit Go.Proofs.Tryz
section
structure Kk (C:Prop):Prop where
 o:C
def Oq (C:Prop)(k:C:=by exact fun h=>h):Kk C:=⟨k⟩
attribute [go_sem] results108 results109 results110 results111 results112 results113 results114 results115 results116 results117 results141 results143 results144 results145 results15 results196 results200 results201 results202 results215 results256 results257 results258 results259 results260 results261 results262 results263 results264 results265 results266 results27 results28 results29 results292 results293 results294 results295 results298 results30 results300 results301 results312 results320 results321 results322 results323 results340 results342 results36 results53 results60 results68 results9
variable {P:Program} {fn:Func} {R:Ending->World->Prop} {a:Act} {w:World} {v:Value}
def WA (cE:R (.returned v) w)(aa:(results fn a.tmps).run P w=.ok v w:=by simp[results,go_sem,cG,b4,bT])(hd:a.defers=[]:=by rfl):bodyPost P fn R .ret a w:=⟨hd,v,aa,cE⟩
def Vm (cE:R (.returned v) w)(aa:(results fn a.tmps).run P w=.ok v w:=by simp[results,go_sem,cG,b4,bT,eg])(hd:a.defers=[]:=by rfl):bodyPost P fn R .ret a w:=⟨hd,v,aa,cE⟩
def Y9 (cE:R (.returned v) w)(aa:(results fn a.tmps).run P w=.ok v w:=by simp[results,go_sem,cG,b4,bT,vU])(hd:a.defers=[]:=by rfl):bodyPost P fn R .ret a w:=⟨hd,v,aa,cE⟩
def UU (cE:R (.returned v) w)(aa:(results fn a.tmps).run P w=.ok v w:=by simp[results,go_sem])(hd:a.defers=[]:=by rfl):bodyPost P fn R .ret a w:=⟨hd,v,aa,cE⟩
def afk (cE:R (.returned v) w)(aa:(results fn a.tmps).run P w=.ok v w:=by simp[results,go_sem,aj])(hd:a.defers=[]:=by rfl):bodyPost P fn R .ret a w:=⟨hd,v,aa,cE⟩
def agX (cE:R (.returned v) w)(aa:(results fn a.tmps).run P w=.ok v w:=by simp[results,go_sem,cG,b4,bT,eg,vU])(hd:a.defers=[]:=by rfl):bodyPost P fn R .ret a w:=⟨hd,v,aa,cE⟩
end
section
variable {G:Prop}
def zta (h:G:=by
  rw[<-rz] at aa ⊢;obtain⟨w2,da⟩:=xE ((((w.alloc (.cells #[Oo mb] 62)).alloc (.cells #[Ol au,Ol aG,OC st,.pointer aB] 73)).alloc (.cells #[.slice cV dL dP] 311)).alloc (.cells #[Ol 0,Ol 0,PN] 65));have aF:OD w w2:=by rw[da];exact((PO.alloc O8 _).alloc Rh _).alloc Rh _
  obtain⟨dq,b6⟩:=xE w.heap.size;obtain⟨bf,bV⟩:=xE (w.heap.size+1);obtain⟨em,br⟩:=xE (w.heap.size+1+1);obtain⟨aU,b0⟩:=xE (w.heap.size+1+1+1);have b5:w2.heap[dq]? = some (O1 #[Oo mb] 62):=by rw[da,b6];exact alloc_old (alloc_old (alloc_old (OA _ _)))
  have sv:w2.heap[bf]? = some (O1 #[Ol au,Ol aG,OC st,.pointer aB] 73):=aG2
  have d7:w2.heap[em]? = some (O1 #[.slice cV dL dP] 311):=aGX
  have hr2:w2.heap[aU]? = some (O1 #[Ol 0,Ol 0,PN] 65):=aGW
  have cL:w.heap.size<=aU:=Ou;have dx:w.heap.size<=bf:=Ou;have d0:bf≠aU:=Ou;have eJ:=ae.later aF;exact bN.o):G:=h
def ztb (h:G:=by
  have Is := @run_callFunc_extern prog 62 _ (fun args => ReflectliteValue.unpack (args.getD 0 (.tuple #[]))) func62 PK PK PK PK; have Mc := @run_callFunc_extern prog 63 _ (ReflectliteValue.methodAny (ReflectliteValue.valueError "reflectlite.Value.Type" 0) (fun t _ _ _ => ReflectliteType.toType t)) func63 PK PK PK PK; have Md := @run_callFunc_extern prog 64 _ (ReflectliteValue.method (ReflectliteValue.valueError "reflectlite.Value.IsNil" 0) ReflectliteValue.isNil) func64 PK PK PK PK
  have Mg := @run_callFunc_extern prog 371 _ (ReflectliteType.abiMethod fun t => do pure (.int .u8 (<- Rtype.kind t))) func371 PK PK PK PK; have L8 := @run_callFunc_extern prog 385 _ (ReflectliteType.method ReflectliteType.elem) func385 PK PK PK PK; have L9 := @run_callFunc_extern prog 386 _ (ReflectliteType.relation "Implements" ReflectliteType.implements_) func386 PK PK PK PK; have NS := R9.azh; have NQ := R9.azi; have NR := R9.azj; exact bN.o):G:=h
def ztc (h:G:=by
  have bG:=aJ.lt;obtain⟨au,aG,st⟩:=p;obtain⟨w2,bu⟩:=xH ((w.alloc (.cells #[Ol au,Ol aG,OC st,.pointer aB] 73)).alloc (.cells #[Ol 0,Ol 0,PN] 65));have aF:OD w w2:=by rw[bu.out];exact PO.alloc O8 _
  obtain⟨bf,bV⟩:=xE w.heap.size;obtain⟨aU,b0⟩:=xE (w.heap.size+1);have be:w2.heap[bf]? = some (O1 #[Ol au,Ol aG,OC st,.pointer aB] 73):=by rw[bu.out,bV];exact alloc_old (OA _ _)
  have hr2:w2.heap[aU]? = some (O1 #[Ol 0,Ol 0,PN] 65):=ash
  have dx:w.heap.size<=bf:=Ou;have cL:w.heap.size<=aU:=Ou;exact bN.o):G:=h
def ztd (h:G:=by
  have cu:=(O5.of (L:=none) aF (O0 bG));obtain⟨aW,aC,aA,aM,ae⟩:=aJ;have el:=(ae.later aF);have di:=el.lt;have mf:=hide (fun X (ak:OD w2 X)=>aeL (el.later ak).hh aI.go.sm Ou s nm v);obtain⟨σ1,iU⟩:=xH ({ σ with M:=(σ.M.write s nm v).2 }:St);have b9:Sz (N+1) σ1:=by rw[iU.out];exact aI.heap (Nat.le_succ _) (aI.go.write s nm v) (Yl _ _ _ _)
  rw[<-iU.out];exact bN.o):G:=h
def zte (h:G:=by
  refine uh 3 (Ol s) (ab) ?_;refine uh 4 (OB nm) (ab) ?_;refine uk3 5 gh.out ab ?_;refine P5 6 fun K A=>?_;go_simp;refine cm (Om mf _ ab) ?_;rintro e ap ⟨rfl,kU,cS⟩;refine ko A ?_;clear A K;have fc:=(el.later ab).heap kU cS;rw[<-iU.out] at fc;have eA:Ms w0 mb af O ap σ1:=⟨_,_,_,_,fc⟩;have nY:=(O5.of (L:=none) ab (O0 di)).trans (O5.ofT cS);exact bN.o):G:=h
def ztf (h:G:=by
  obtain⟨ep,me⟩:=xH (w.alloc (.cells #[Ol n.k,Ol n.n,OB n.s] 65));have IT:g<ep.heap.size:=by rw[me.out];exact hg
  rw[show w.alloc (vO n)=ep by rw[me.out]] at ai d4 pJ fs hrow' kc rZ cY e2;clear dK am h av bz mE lj hg;go_enter func128,ntmps128;go_wp2_with fail;rw[<-me.out];refine cm ai ?_;rintro e w' ⟨rfl,hw⟩;rw[hw];clear hw;go_wp2_with fail;exact bN.o):G:=h
def ztg (h:G:=by
  refine A.out _ _ eW (fun _=>?_);clear A K;refine wg 6 (.tuple #[.nilFunc,OC false]) rfl (Or.inl ⟨by kernel_rfl,fun W a1=>by have hh:=dU.out W a1;go_simp⟩) eW ?_
  refine wh 7 (.tuple #[.nilFunc,OC false]) eW ?_;refine wh 8 .nilFunc eW ?_;refine wh 9 (OC false) eW ?_;refine wh 10 .nilFunc eW ?_;refine wh 11 (OC false) eW ?_;refine wpAnyH_done PK ?_ _;go_simp;exact bN.o):G:=h
def zth (h:G:=by
  have Dw:Lists aY bb (w.alloc O35):=dr.later PO;have dj:=hide aa;have dU:=hide hl;clear aa hl;go_enter func68,ntmps68;go_wp2_with fail;refine(acH _).mono ?_;rintro ay w1 ⟨x,rfl,⟨d5,c1,rfl,LQ,hb⟩,hbel⟩;have uV:=hide (hb w1 QX);clear hb;go_wp2_with fail;refine cm (Om uV _) ?_;rw[dU.out];rintro bz w2 ⟨rfl,rfl⟩;go_wp2_with fail;exact bN.o):G:=h
def zti (h:G:=by
  have fO:Hid (aY.heap[aU]? = some (O1 #[Ol 0,Ol 0,PN] 65)):=by show _=_;rw[gR,heap_setCell_other _ _ _ _ (Ne.symm d0)];exact Om bj
  have xk:=(cu.newT kX (fun b D=>by rw[gR];exact heap_setCell_other _ _ _ _ (show b≠bf by omega)))
  have pm:Kp w2 aY:=fun b c e D aq=>kX.rest b c e D (by rcases aq with rfl|rfl <;> decide);exact bN.o):G:=h
def ztj (h:G:=by
  refine wh 4 (Pj c) bB.drew ?_;refine XY 5 fun K A=>?_;go_simp;refine cm (SN c _ i d bB.drew) ?_;rintro e fA ⟨rfl,jK⟩;have eW:=(bB.drew.later jK);exact bN.o):G:=h
def ztk (h:G:=by
  refine uz 11 ev ?_;refine P5 12 fun K A=>?_;go_simp;refine ko A ?_;clear A K;exact bN.o):G:=h
def ztl (h:G:=by
  have pF:=g4.YC bi Oz;have bF:=((cu.trans fl).newT bi (U6 cR.out _ _ _ _)).trans (O5.of (L:=L) d8 (O0 pF.lt));have bC:=pF.later d8;have oJ:=(aD.Qw bi Oz).later d8;have xQ:=(g3.Uc bi).later d8;rw[<-bx] at d1 bF bC oJ xQ;obtain⟨cG,b4,bT,eg,_,_⟩:=cells4 d1;exact bN.o):G:=h
def ztm (h:G:=by
  unfold tkV at ai;go_wp2_with fail;refine cm ai ?_;rintro e wt ⟨rfl,tZ⟩;have qN:=(rN.next (Ap.of tZ));have qd:=(q0.later tZ);have n6:=(tZ.block aY.heap.size O8).trans tz.out;obtain⟨ce,bQ,ds,iA,Kf,Nz⟩:=c160 n6;have f0:=qd.c1;have gB:=qd.fz;have dK:=qd.rlt;exact bN.o):G:=h
def ztn (h:G:=by
  have dH:=hide aq;clear aq;go_enter func143,ntmps143;go_wp2_with fail;refine(aaA _).mono ?_;rintro ay w1 ⟨x,rfl,ae,hbel⟩;obtain⟨aj,aH⟩:=ZV hbel;have l4:=hbel;go_wp2_with fail;have hpast:=Yq s k x Ql w1 (by unfold maxLen;omega) Ou ae
  rw[dH.out] at hpast;refine hpast.mono ?_;exact bN.o):G:=h
def zto (h:G:=by
  have gQ:t.count=1+Tr.counts t.kids:=by cases t with|mk kd tx gt ks=>exact count_mk _ _ _ _
  exact bN.o):G:=h
def ztp (h:G:=by
  have aQ:6<w.heap.size:=(Array.getElem?_eq_some_iff.1 hg).1;have dH:=hide aq;have gZ:=hide hg;have dB:=hide az;have fB:=hide hw;clear hg az aq hw;go_enter func141,ntmps141;go_wp2_with fail;refine(ath _).mono ?_;rintro ay w1 ⟨x,rfl,ae,hbel⟩;obtain⟨aj,aH⟩:=ZV hbel;exact bN.o):G:=h
def ztq (h:G:=by
  have lR:=av9 am E aj;have a':=(Yz (h.later e2) ac A i nm);rw[show M.has i nm=true by simp[Mo.has,lR]] at a';have dU:Hid (∀ w1,OD w w1->_):=fun w1 D=>YR (h.later D) ac A i nm;have gD:=hide am;have f5:=hide E;have gf:=hide aj;have kc:=hide lR;exact bN.o):G:=h
def ztr (h:G:=by
  have rN:=(pg.alloc pg.size (.cells #[PN,Ol 0,Ol 0,Ol 0] 275));have q0:=(mc.alloc (.cells #[PN,Ol 0,Ol 0,Ol 0] 275));exact bN.o):G:=h
def zts (h:G:=by
  go_simp;refine A.out _ _ (fun _=>PO.drew) ?_;clear A K;refine P5 8 fun K A=>?_;go_simp;exact bN.o):G:=h
def ztt (h:G:=by
  obtain⟨t0,pq⟩:=xH (.mk 12 Ox 0 [b]:Tr);rw[<-pq.out] at cO;have jb:Hid (t0.kids.length=1):=by
   show _=_
   rw[pq.out];rfl
  obtain⟨aZ,ho,BQ,gP,eo⟩:=cO.opens;have iP:aZ=fy.heap.size+1:=by simpa[Oo] using gP.symm
  rw[iP] at eo;exact bN.o):G:=h
def ztu (h:G:=by
  have rM:=(xg.next ax);obtain⟨bf,rfl,rt⟩:=(EV.mono e' xg.size).nv;have ai:=(PV 12 Ox (.slice (some (Ot fy.heap.size 0)) 1 1) (fy.alloc (.cells #[Oo bf] 22)) ⟨_,_,_,rfl⟩);go_wp2_with fail;refine cm ai ?_;rintro e BZ ⟨rfl,rfl⟩;exact bN.o):G:=h
def ztv (h:G:=by
  rw[<-kI.out] at fj;rw[<-pN] at fW fj;have p':=hide (cells4 (stays cr eR.out));have wv:=lt_of_heap (stays cr eR.out);have sR:q<ed.heap.size:=by rw[bm.out];exact sL.cells.1
  have sN:=cell_lt fW;have uO:=hide jI;have od:=hide fW;exact bN.o):G:=h
def ztw (h:G:=by
  rw[tA.out] at ai;simp only[atv,ap6,Option.isSome] at ai;go_wp2_with fail;refine cm ai ?_;rintro e aY ⟨rfl,nU⟩;exact bN.o):G:=h
def ztx (h:G:=by
  have A8:ob≠aU:=Ou;have d0:bf≠aU:=Ou;have Bf:bf≠tb:=Ou;have htb':tb=aU+1:=Ou;have rx:bf<tb/\ob<tb/\aU<tb/\w.heap.size<=tb:=Ou;have cZ:=(aJ.later aF);have cu:=(O5.of (L:=L) aF (O0 bG));exact bN.o):G:=h
def zty (h:G:=by
  have sB:gF.frozen? (Ot T 0)=false:=by rw[iV,World.frozen?_alloc_old _ _ _ Rh,World.frozen?_alloc_old _ _ _ Rh];exact ah
  have b9:gF.heap.size=w.heap.size+2:=by rw[iV];simp
  have kh:OD w gF:=by rw[iV];exact PO.alloc O8 _
  exact bN.o):G:=h
def ztz (h:G:=by
  have G7:=ba;have xg:=(e1.next ax);have ai:=(QZ ah hN ed d i0 _ rfl (by rw[D];nofun) G7)
  rw[D] at ai;go_wp2_with fail;refine cm ai ?_;intro e fy al;obtain⟨⟨vb,rfl,e'⟩,ba,ax⟩:=al;exact bN.o):G:=h
def aD8 (h:G:=by
  refine wh 0 (Pj c) bB.drew ?_;refine wh 1 (Pj c) bB.drew ?_;refine wh 2 (OM c.R 5) bB.drew ?_;refine wg 3 (.map (some c.mV)) rfl (Or.inl ⟨by kernel_rfl,fun W a1=>by have hh:=PW.c5 a1;go_simp⟩) bB.drew ?_
  exact bN.o):G:=h
def aCn (h:G:=by
  refine cm (Om hZ w2 fo) ?_;rintro e k0 ⟨rfl,i1⟩;rw[i1];clear bV b0 i1;obtain⟨aZ,p1,cK,cX,gV,d2⟩:=cells4 b8.out;have w6:=gV 2;clear gV;go_wp2_with fail;have lU:mb<=bf:=Ou;exact bN.o):G:=h
def axp (h:G:=by
  have jx:=Yk;have bG:=ae.lt;obtain⟨au,aG,st⟩:=p;obtain⟨cV,dP,aT⟩:=aa.form;subst aT;exact bN.o):G:=h
def aD9 (h:G:=by
  have aQ:=h.rlt;have eM:Hid (∀ (w:Ov),PW c w i d->OE 221 #[Pj c] w fun e w'=>e=OQ (OB s)/\OD w w'):=fun w h=>by rw[ac];exact SN c w i d h
  clear h ac aR;go_enter func312,ntmps312;exact bN.o):G:=h
def aCH (h:G:=by
  simp only[Value.slice.injEq] at aT;obtain⟨rfl,hdrop,rfl⟩:=aT;clear hdrop;have IV:g<w.heap.size+1:=Ou;have AL:g<w.heap.size+1+1:=Ou;have IW:g<w.heap.size+1+1+1:=Ou;exact bN.o):G:=h
def aBs (h:G:=by
  have d1:=stays d8 (ZJ dF.out (Ol 0) (Ol 0) (PN));have pF:=g4.YC bi Oz;have bF:=(fl.newT bi (Ua cR.out _ _ _)).trans (O5.of (L:=none) d8 (O0 pF.lt));have bC:=pF.later d8;exact bN.o):G:=h
def aEa (h:G:=by
  go_enter func267,ntmps267;go_wp2_with fail;refine cm a' ?_;rintro e w1 ⟨rfl,D⟩;have cC:=((Below.refl _ w).alloc O6 _).trans (D.mono O8);obtain⟨q,r,aO,eB,aa⟩:=dU.out w1 cC;exact bN.o):G:=h
def aCI (h:G:=by
  have d3:=hide br;have d9:=hide b0;obtain⟨q,ag⟩:=xE c.p;have qC:dL≠0:=by rw[rz];simp
  have uq:¬ (dL:Int)=0:=Ou;have Bz:(0:Int)<(dL:Int):=Ou;exact bN.o):G:=h
def aEb (h:G:=by
  have dU:Hid (∀ W:Ov,PW c W i d->(Instr.lookup 231 (.map (some c.mV)) (OB (fx c.l i)) true).run prog W=.ok (.tuple #[.nilFunc,OC false]) W):=fun W a1=>aDM
  exact bN.o):G:=h
def aA8 (h:G:=by
  have gh:=hide (cells3 e0);have ia:=lt_of_heap e0;clear e0;go_enter func197,ntmps197;go_wp2_with fail;rw[<-bu.out,<-aV];clear aV;refine TI 6 fun ab=>?_;exact bN.o):G:=h
def aEc (h:G:=by
  obtain⟨w2,bu⟩:=xH (w.alloc (.cells #[Ol v.k,Ol v.n,OB v.s] 65));obtain⟨vb,aV⟩:=xE w.heap.size;have aF:OD w w2:=by rw[bu.out];exact PO
  exact bN.o):G:=h
def aBO (h:G:=by
  have lU:mb<=bf:=by have:=Om sd;omega
  have lm:=Wu (j:=0) fM.out lU (Ol e6);obtain⟨bA,fJ⟩:=xE (ap.setCell (Ot bf 0) (Ol e6));exact bN.o):G:=h
def aEd (h:G:=by
  have bN:=Oq (∀{G}(h:G:=by
  exact z.o),G);exact ztg):G:=h
def aEe (h:G:=by
  have xi:=(qN.alloc qN.size (.cells #[Ol (O9 c.l i).kd,OB (O9 c.l i).tx,Ol (O9 c.l i).n,Ol ((O9 c.l i).pl:Int)] 144));have CJ:=(qd.alloc (.cells #[Ol (O9 c.l i).kd,OB (O9 c.l i).tx,Ol (O9 c.l i).n,Ol ((O9 c.l i).pl:Int)] 144));exact z.o):G:=h
def ax1 (h:G:=by
  have cU:=hd.kp (Kp.of aF);have cZ:=(aJ.later aF);have cu:=(O5.of (L:=none) aF (O0 bG));exact z.o):G:=h
def aEf (h:G:=by
  refine wh 7 (.tuple #[.agg #[OB x.tx,Ol x.kd,Ol x.parts,Ol x.str],OC true]) bM ?_;refine wh 8 (.agg #[OB x.tx,Ol x.kd,Ol x.parts,Ol x.str]) bM ?_;refine wh 9 (OC true) bM ?_;exact z.o):G:=h
def ax2 (h:G:=by
  rintro e aE ⟨⟨ev,rfl,aD⟩,aJ,ah⟩;refine ko A ?_;clear A K;exact z.o):G:=h
def ax3 (h:G:=by
  go_wp2_with fail;rw[<-bu.out,<-b0,<-bV];clear bV b0;exact z.o):G:=h
def aEg (h:G:=by
  have Bc:p<jk.heap.size:=by rw[gS] at Bd;simpa using Bd
  clear xF;go_wp2_with fail;rw[<-gS];clear gS hz px oG Db Bc;exact z.o):G:=h
def aEh (h:G:=by
  refine P5 14 fun K A=>?_;go_simp;refine ko A ?_;clear A K;refine uz 15 ev ?_;refine Sl ?_ _;go_simp;exact z.o):G:=h
def Xu (h:G:=by
  have bN:=Oq (∀{G}(h:G:=by
  have d0:bf≠aU:=Ou;exact ax1),G);exact ztc):G:=h
def zsb (h:G:=by
  have bN:=Oq (∀{G}(h:G:=by
  have d0:bf≠aU:=Ou;exact z.o),G);exact ztc):G:=h
def zsc (h:G:=by
  have aF:OD w w2:=by rw[bu.out];exact PO.alloc O8 _
  obtain⟨bf,bV⟩:=xE w.heap.size;obtain⟨aU,b0⟩:=xE (w.heap.size+1);have be:w2.heap[bf]? = some (O1 #[Ol au,Ol aG,OC st,.pointer aB] 73):=by rw[bu.out,bV];exact alloc_old (OA _ _)
  exact z.o):G:=h
def zsd (h:G:=by
  have dx:w.heap.size<=bf:=Ou;have cL:w.heap.size<=aU:=Ou;have d0:bf≠aU:=Ou;exact ax1):G:=h
def zse (h:G:=by
  have aF:OD w w2:=by rw[bu.out];exact PO.alloc O8 _
  obtain⟨bf,bV⟩:=xE w.heap.size;obtain⟨aU,b0⟩:=xE (w.heap.size+1);exact z.o):G:=h
def zsf (h:G:=by
  have dx:w.heap.size<=bf:=Ou;have cL:w.heap.size<=aU:=Ou;have d0:bf≠aU:=Ou;exact z.o):G:=h
def zsg (h:G:=by
  clear h;go_enter func347,ntmps347;go_wp2_with fail;refine wp_region_held (S:=fun W=>PW c W i d) PK ?_;change wpAnyH _ _ _ _ _ _ _ _ (World.drew _);have bN:=Oq (∀{G}(h:G:=by
  have bN:=Oq (∀{G}(h:G:=by
  have lD:=(e1.next (Ap.of (QX.drew.trans jK)));have bN:=Oq (∀{G}(h:G:=by
  have ai:=(Wy c 0 fA i d eW);have bN:=Oq (∀{G}(h:G:=by
  have pg:=(lD.next (Ap.of nU));have mc:=(eW.later nU);have bN:=Oq (∀{G}(h:G:=by
  have pR:(aY.alloc (.cells #[PN,Ol 0,Ol 0,Ol 0] 275)).heap[aY.heap.size]? = some (.cells #[PN,Ol 0,Ol 0,Ol 0] 275):=OA _ _;have tz:=hide pR;clear pR;have ai:=(RX c (aY.alloc (.cells #[PN,Ol 0,Ol 0,Ol 0] 275)) i d q0);have bN:=Oq (∀{G}(h:G:=by
  clear n6;exact aEe),G);exact ztm),G);exact ztr),G);exact ztw),G);exact ztg),G);exact ztj),G);exact aD8):G:=h
def Vd (h:G:=by
  have bj:=hide hr2;have cR:=hide cL;have di:=cZ.lt;have hpl2:=lt_of_heap be;have dz:=cU.cells.1;exact z.o):G:=h
def zsj (h:G:=by
  obtain⟨sY,dR,dA,b9,cn⟩:=info_parts info22;have bB:=h;have e1:=(Ap.refl c.R w.heap.size w);have bS:=hide h.rlt;clear h;go_enter func154,ntmps154;have ai:=(Pq c abJ w i d bB Oz);rw[aS] at ai;go_wp2_with fail;refine cm ai ?_;intro e ed al;obtain⟨⟨va,rfl,rfl⟩,ba,ax⟩:=al;have bN:=Oq (∀{G}(h:G:=by
  have vm:=ba;have bN:=Oq (∀{G}(h:G:=by
  obtain⟨cO,cP,df⟩:=made vm rM (OL.cons rt OL.nil) (by simp[maxLen]) #[Oo bf] rfl 1 rfl 12 Ox (fy.heap.size+1) rfl;have bN:=Oq (∀{G}(h:G:=by
  exact z.o),G);exact ztt),G);exact ztu),G);exact ztz):G:=h
def zsk (h:G:=by
  have dx:w.heap.size<=bf:=Ou;have cL:w.heap.size<=aU:=Ou;exact z.o):G:=h
def zsl (h:G:=by
  have di:=cZ.lt;have hpl2:=lt_of_heap be;have dz:=cU.cells.1;exact z.o):G:=h
def zsm (h:G:=by
  have bN:=Oq (∀{G}(h:G:=by
  rw[aj] at mf;clear aj;have bN:=Oq (∀{G}(h:G:=by
  refine up 0 mb 0 ab ?_;refine up 1 mb 0 ab ?_;refine up 2 mb 0 ab ?_;have bN:=Oq (∀{G}(h:G:=by
  exact z.o),G);exact zte),G);exact aA8),G);exact ztd):G:=h
def zsn (h:G:=by
  obtain⟨aB,kI⟩:=xH (LA L);rw[<-kI.out];have bG:=aJ.lt;obtain⟨au,aG,st⟩:=p;obtain⟨w2,bu⟩:=xH ((w.alloc (.cells #[Ol au,Ol aG,OC st,.pointer aB] 73)).alloc (.cells #[OC false,Ol 0,Ol 0,PN] 67));exact z.o):G:=h
def zso (h:G:=by
  have bN:=Oq (∀{G}(h:G:=by
  obtain⟨dL,rz⟩:=xE (List.length (v::vs));have bN:=Oq (∀{G}(h:G:=by
  have bj:=hide hr2;have cu:=(O5.of (L:=none) aF (O0 bG));have cZ:Ms w0 mb af O w2 σ:=⟨_,_,_,_,eJ⟩;have bu:=hide da;have cR:=hide cL;have f3:=hide b6;have FD:=hide bV;have bN:=Oq (∀{G}(h:G:=by
  have md:=(aa.later aF);obtain⟨g,i7,cap,aT,dI,gH,eq,hz⟩:=aa.cells (i:=0) rfl;rw[Nat.zero_mul,Nat.add_zero] at gH eq hz;rw[E] at gH;have bN:=Oq (∀{G}(h:G:=by
  obtain⟨dz,c0,c1,_⟩:=AD.cells;rw[<-ag] at dz c0 c1 ⊢;have JA:q<w.heap.size+1:=Ou;have JB:q<w.heap.size+1+1:=Ou;have sS:q<w.heap.size+1+1+1:=Ou;exact z.o),G);exact aCH),G);exact aCI),G);exact zta),G);exact axp):G:=h
def zsp (h:G:=by
  have bN:=Oq (∀{G}(h:G:=by
  exact z.o),G);exact zta):G:=h
def zsq (h:G:=by
  have bN:=Oq (∀{G}(h:G:=by
  have cM:t.kids.length<=20000:=by have:=S9 t.kids;omega
  obtain⟨ek,iy⟩:=xE (w.alloc (.cells #[OC s,OC i,OC b] 112));have hQ:OD w ek:=by rw[iy];exact PO
  have ku:XT w.heap.size s i b ek:=by rw[iy];exact XT.new _ _ _ _
  have wl:=h.later hQ;obtain⟨eP,c0,c1,u,c3,aa⟩:=h.cells;rw[bo] at c0;exact z.o),G);exact zto):G:=h
def zsr (h:G:=by
  have d4:=hide hd;clear hd;have bN:=Oq (∀{G}(h:G:=by
  refine(aaA _).mono ?_;rintro ez ap ⟨jk,rfl,⟨fU,c3,rfl,LR,cS⟩,sH⟩;have cQ:=hide (cS ap QX);have tg:=(hbel.trans (sH.mono hbel.size));clear cS;go_wp2_with fail;refine cm (Om cQ _) ?_;rw[d4.out];rintro hH bA ⟨rfl,rfl⟩;go_wp2_with fail;exact z.o),G);exact zth):G:=h
def zss (h:G:=by
  obtain⟨au,aG,st⟩:=p;obtain⟨w2,bu⟩:=xH (w.alloc (.cells #[Ol au,Ol aG,OC st,.pointer aB] 73));have aF:OD w w2:=by rw[bu.out];exact PO
  obtain⟨bf,bV⟩:=xE w.heap.size;have be:w2.heap[bf]? = some (O1 #[Ol au,Ol aG,OC st,.pointer aB] 73):=by rw[bu.out,bV];exact OA _ _
  exact z.o):G:=h
def XZ (h:G:=by
  rw[aa] at ai a';simp only[bind_ok] at a';clear aa;go_wp2_with fail;refine cm ai ?_;exact z.o):G:=h
def zsu (h:G:=by
  have bN:=Oq (∀{G}(h:G:=by
  have lD:=(e1.next (Ap.of (QX.drew.trans jK)));exact aEd),G);exact ztj):G:=h
def zsv (h:G:=by
  have bN:=Oq (∀{G}(h:G:=by
  have K6:=R9.aia;have K0:=R9.ari;have Kd:=R9.arj;have n8:=R9.ark;have HW:=R9.arl;have J6:=R9.ac8;have dI:0<w.heap.size:=azb
  obtain⟨gF,iV⟩:=xE ((w.alloc (.cells #[OM T 0] 123)).alloc (.cells #[OM 13 123,OM w.heap.size 0,.int .u64 150] 130));have mw:((w.alloc (.cells #[OM T 0] 123)).alloc (.cells #[OM 13 123,OM w.heap.size 0,.int .u64 150] 130)).cell? (Ot 0 0)=some (.iface 215 (.agg #[OM 13 31])):=azc
  have ax:gF.cell? (Ot w.heap.size 0)=some (OM T 0):=azd
  exact z.o),G);exact ztb):G:=h
def zsw (h:G:=by
  have bN:=Oq (∀{G}(h:G:=by
  have cM:t.kids.length<=20000:=by have:=S9 t.kids;omega
  exact z.o),G);exact zto):G:=h
def zsx (h:G:=by
  have ck:=eo;have jH:=cP;have kb:=df;clear gP;obtain⟨fe,iz⟩:=xE ((fy.alloc (.cells #[Oo bf] 22)).alloc (Px 12 Ox 0 (.slice (some (Ot fy.heap.size 0)) 1 1)));rw[<-iz] at ck jH kb;rw[<-iP] at ck;rw[show (fy.alloc (.cells #[Oo bf] 22)).heap.size=aZ by rw[iP];simp,<-iz]
  clear iz iP;have ai:=(SQ c UH fe a7 d jH aj Oz);go_wp2_with fail;refine cm ai ?_;rintro e aE ⟨rfl,ba,ax⟩;have fS:=ba;have e7:=(kb.next ax);replace ck:=(Open.later ck (ax) bS.out);have ai:=(Pq c Rk aE (a7+1) d fS Oz);rw[U] at ai;go_wp2_with fail;refine cm ai ?_;intro e wd al;obtain⟨⟨K',rfl,rfl⟩,ba,ax⟩:=al;have ox:=ba;have jW:=(e7.next ax);replace ck:=(Open.later ck (ax) bS.out);have ai:=(name_any c wd i2 d ox);rw[aw] at ai;go_wp2_with fail;refine cm ai ?_;intro e BY al
  obtain⟨⟨La,rfl,rfl⟩,ba,ax⟩:=al;have zA:=ba;have xh:=(jW.next ax);replace ck:=(Open.later ck (ax) bS.out);have ai:=(Pq c SA BY i3 d zA Oz);rw[aL] at ai;go_wp2_with fail;refine cm ai ?_;intro e jV al;obtain⟨⟨Lb,rfl,rfl⟩,ba,ax⟩:=al;have G8:=ba;have qM:=(xh.next ax);replace ck:=(Open.later ck (ax) bS.out);have gf:=(QZ ah hN jV.drew d i4 _ rfl (by rw[bE];nofun) G8.drew)
  rw[bE] at gf;obtain⟨kj,pI,dK⟩:=ck.cell;obtain⟨cV,uc,lW⟩:=ck.shape;subst lW;go_wp2_with fail;exact z.o):G:=h
def zsy (h:G:=by
  have bG:=aJ.lt;obtain⟨au,aG,st⟩:=p;obtain⟨f2,⟨ok,on,f1⟩⟩:=o;obtain⟨w2,da⟩:=xE ((((w.alloc (.cells #[Ol au,Ol aG,OC st,.pointer aB] 73)).alloc (.cells #[OC f2,Ol ok,Ol on,OB f1] 67)).alloc (.cells #[OC false,Ol 0,Ol 0,PN] 67)).alloc (.cells #[Ri] 122));have aF:OD w w2:=by rw[da];exact((PO.alloc O8 _).alloc Rh _).alloc Rh _
  obtain⟨bf,bV⟩:=xE w.heap.size;obtain⟨ob,gd⟩:=xE (w.heap.size+1);obtain⟨aU,b0⟩:=xE (w.heap.size+2);obtain⟨tb,lp⟩:=xE (w.heap.size+3);have be:w2.heap[bf]? = some (O1 #[Ol au,Ol aG,OC st,.pointer aB] 73):=by rw[da,bV];exact alloc_old (alloc_old (alloc_old (OA _ _)))
  have kt:w2.heap[ob]? = some (O1 #[OC f2,Ol ok,Ol on,OB f1] 67):=aG4
  have hr2:w2.heap[aU]? = some (O1 #[OC false,Ol 0,Ol 0,PN] 67):=aG0
  have eV:w2.heap[tb]? = some (O1 #[Ri] 122):=aGY
  exact z.o):G:=h
def zsz (h:G:=by
  rw[aR] at pJ;rw[E,Yy] at d4;clear E;have bN:=Oq (∀{G}(h:G:=by
  refine cm d4 ?_;rintro e w1 ⟨rfl,D⟩;have f':Below (w.heap.size+1) (w.alloc (.cells #[Ol n.k,Ol n.n,OB n.s] 65)) w1:=by rw[<-me.out];exact D.mono (by rw[me.out];simp)
  obtain⟨dn,bR,c7,fw,nl⟩:=YK f';have bL:=(e2.trans (D.mono e2.size));have gv:=(fs.later D);have qZ:=(Pe hrow' D);have dI:g<w1.heap.size:=Nat.lt_of_lt_of_le rZ.out D.size;have f0:w1.cell? (Ot g (i * 3+2))=some v:=(cell_below D (a:=(Ot g (i * 3+2))) rZ.out).trans kc.out;have hfz1:w1.frozen? (Ot g (i * 3+2))=false:=(World.frozen?_of_block (w:=ep) (a:=(Ot g (i * 3+2))) (D.block g rZ.out)).trans (cY.out _);clear pJ;go_wp2_with fail;refine wp_region_any PK ?_;change wpAny _ _ _ _ _ _ _ (World.drew _)
  refine wt 0 (OM g (i * 3)) ?_;refine wt 1 (OM g (i * 3)) ?_;refine wt 2 (OM g (i * 3)) ?_;refine wt 3 (OM g (i * 3+2)) ?_;refine wt 5 (OB nm) ?_;exact z.o),G);exact ztf):G:=h
def aEj (h:G:=by
  have bN:=Oq (∀{G}(h:G:=by
  exact z.o),G);exact zth):G:=h
def Un (h:G:=by
  refine up 0 mb 0 ab ?_;refine up 1 mb 0 ab ?_;refine up 2 mb 0 ab ?_;exact z.o):G:=h
def aoI (h:G:=by
  obtain⟨h0,h1,aH,hb,hl⟩:=h.c;have e2:OD w (w.alloc (vO n)):=PO;have fs:=h.later e2;obtain⟨g,cap,v,bz,aQ,av,dK,hrow,hg,a8,lj,_⟩:=fs.ro.at_ (i:=i) (e:=x.h) (by simp[am]);have ai:=(aal g cap _ i aQ (w.alloc (vO n)));rw[<-bz] at ai;have hrow':(w.alloc (vO n)).ownsRow H 262 6 v x.cs.length (x.cs.flatMap Ce.h):=hrow;have d4:=(aeJ g (i * 3) v x.cs H nm (w.alloc (vO n)) (dK 2 v rfl) hrow' (by have:=ac.cs x (List.mem_of_getElem? am);omega))
  have mE:=ac.cs x (List.mem_of_getElem? am);have pJ:(w.alloc (vO n)).cell? (Ot g (i * 3+1))=some (Ol x.object):=dK 1 _ rfl;exact z.o):G:=h
def asK (h:G:=by
  obtain⟨aB,oY⟩:=xE (LA L);rw[<-oY];have bG:=aJ.lt;obtain⟨au,aG,st⟩:=p;obtain⟨f2,⟨ok,on,f1⟩⟩:=o;obtain⟨w2,da⟩:=xE (((w.alloc (.cells #[Ol au,Ol aG,OC st,.pointer aB] 73)).alloc (.cells #[OC f2,Ol ok,Ol on,OB f1] 67)).alloc (.cells #[OC false,Ol 0,Ol 0,PN] 67));have aF:OD w w2:=by rw[da];exact(PO.alloc O8 _).alloc Rh _
  obtain⟨bf,bV⟩:=xE w.heap.size;obtain⟨ob,gd⟩:=xE (w.heap.size+1);obtain⟨aU,b0⟩:=xE (w.heap.size+2);have be:w2.heap[bf]? = some (O1 #[Ol au,Ol aG,OC st,.pointer aB] 73):=by rw[da,bV];exact alloc_old (alloc_old (OA _ _))
  have kt:w2.heap[ob]? = some (O1 #[OC f2,Ol ok,Ol on,OB f1] 67):=aG5
  have hr2:w2.heap[aU]? = some (O1 #[OC false,Ol 0,Ol 0,PN] 67):=aG1
  exact z.o):G:=h
def WB (h:G:=by
  have hstep:=ae1 bI cZ eD;rw[if_neg Ou] at hstep;obtain⟨q,bm⟩:=xH a.p;rw[<-bm.out] at dz ⊢;exact z.o):G:=h
def aaB (h:G:=by
  refine wp_region_any PK ?_;change wpAny _ _ _ _ _ _ _ (World.drew _);refine wt 0 (Oo aZ) ?_;refine wt 1 (Oo aZ) ?_;refine wt 2 (Oo aZ) ?_;refine wt 3 (OM aZ 3) ?_;exact z.o):G:=h
def Ws (h:G:=by
  refine up 0 mb 0 ab ?_;refine up 1 q 0 ab ?_;refine up 2 q 0 ab ?_;refine up 3 q 3 ab ?_;exact z.o):G:=h
def aq8 (h:G:=by
  have Me := @run_callFunc_extern prog 135 _ ReflectliteType.typeOf func135 PK PK PK PK; have L7 := @run_callFunc_extern prog 383 _ (ReflectliteType.relation "AssignableTo" ReflectliteType.assignableTo) func383 PK PK PK PK; have Dl := @run_callFunc_extern prog 136 _ (ReflectliteValue.method (ReflectliteValue.valueError "reflectlite.Value.Elem" 0) ReflectliteValue.elem) func136 PK PK PK PK; have Mf := @run_callFunc_extern prog 137 _ ReflectliteValue.set func137 PK PK PK PK
  have Is:=@run_callFunc_extern prog 62 _ (fun args=>ReflectliteValue.unpack (args.getD 0 (.tuple #[]))) func62 PK PK PK PK;have NP:=R9.arn;exact z.o):G:=h
def al8 (h:G:=by
  obtain⟨ce,cB,cap0,fG,dC,fV,_⟩:=hd.Yj (i:=0) Ou;rw[E] at fG;have m7:=fV.kp (Kp.of aF);obtain⟨q,bm⟩:=xH a.p;obtain⟨kp,dc⟩:=xE ce.p;have nn:=hd.cells.1;have sO:=fV.cells.1;have eO:=m7.cells.1;have my:=fV.cells.2.1;have kP:=m7.cells.2.1;have fT:=m7.cells.2.2.1;have dI:=cell_lt dC;exact z.o):G:=h
def abe (h:G:=by
  go_wp2_with fail;refine wp_region_held (S:=fun W=>PW c W i d) PK ?_;change wpAnyH _ _ _ _ _ _ _ _ (World.drew _);exact z.o):G:=h
def aco (h:G:=by
  go_wp2_with fail;rw[<-bu.out,<-b0,<-bV];clear bV b0;refine cm hstep ?_;rintro e wz ⟨rfl,ha,hM⟩;have dV:=hide (hM.keep bj.out Oz);exact z.o):G:=h
def aiX (h:G:=by
  have bG:=aJ.lt;have bN:=Oq (∀{G}(h:G:=by
  have e0:w2.heap[vb]? = some (Y7 v):=by rw[bu.out,aV];exact OA _ _
  exact z.o),G);exact aEc):G:=h
def XH (h:G:=by
  have hr2:w2.heap[aU]? = some (O1 #[OC false,Ol 0,Ol 0,PN] 67):=ash
  exact z.o):G:=h
def ar1 (h:G:=by
  have e2:OD w ep:=by rw[sF];exact PO
  have gv:=(h.later e2);obtain⟨dn,bR,c7,fw,nl⟩:=YK (w1:=ep) (by rw[sF];exact QX)
  obtain⟨gH,eq,_,px,oG⟩:=gv.c;rw[<-sF];have hrow:ep.ownsRow H 198 3 aC M.OI.length (flat (M.OI.map Ro.h) cf):=by have:=gv.ro.row;rwa [List.length_map] at this
  clear sF h0 h1 aH hb gH;refine wp_region_any PK ?_;change wpAny _ _ _ _ _ _ _ (World.drew _);refine wt 0 (OM H 0) ?_;refine wt 1 (OM H 0) ?_;refine wt 2 (OM H 0) ?_;refine wt 3 (OM H 1) ?_;exact z.o):G:=h
def aa5 (h:G:=by
  have hstep:=ae1 bI cZ eD;rw[if_neg Ou] at hstep;have eL:=(hl.later aF);obtain⟨q,bm⟩:=xH a.p;rw[<-bm.out] at dz ⊢;exact z.o):G:=h
def axa (h:G:=by
  have cI:=hide aK;clear be hr2 kt eV da d' ag dx cL d0 Bf rx oY aK t0 tf n' km;go_enter func201,ntmps201;go_wp2_with fail;rw[<-bu.out,<-b0,<-gd,<-bV,<-htb'];clear bV b0 gd lp htb';refine cm kE ?_;rintro e wz ⟨rfl,iL⟩;have dV:=hide (stays iL bj.out);have zu:=hide (stays iL r3.out);have di:=cZ.lt;have jr:=(cZ.later iL);have f6:=(eL.later iL);have cY:=(cu.trans (O5.of (L:=L) iL (O0 di)));obtain⟨cH,bU,cg,eE,dt,du,dv,iT,rl⟩:=Qx dV.out;obtain⟨z0,mJ,z2,z3,mK,mL,mM,s9,zl⟩:=Qx zu.out
  go_wp2_with fail;obtain⟨b1,bx,bi,bF,bC,cG,b4,bT,eg⟩:=rt4 dV.out cR.out bG cY jr (OC f2) (Ol ok) (Ol on) (OB f1);rw[<-bx];exact z.o):G:=h
def XW (h:G:=by
  go_wp2_with fail;refine cm ai ?_;intro e w' al;obtain⟨rfl,ax⟩:=al;exact z.o):G:=h
def aCz (h:G:=by
  have mz:=k'.lt;obtain⟨lb,h9⟩:=xE i'.heap.size;have lU:mb<=bf:=Ou;have wF:=Wu (j:=3) iG.out lU (OM lb 0);have qy:=asX iG.out (OM lb 0);obtain⟨b7,hi⟩:=xE (i'.setCell (Ot bf 3) (OM lb 0));have hsz5:b7.heap.size=i'.heap.size:=by rw[hi];simp
  rw[<-hi] at wF qy;have lZ:=k'.YC wF Oz;obtain⟨ch,g6⟩:=xE (b7.alloc (.cells #[Ol 0,Ol 0,PN] 65));have e4:OD b7 ch:=by rw[g6];exact PO
  have AZ:ch.heap[lb]? = some (O1 #[Ol 0,Ol 0,PN] 65):=by rw[g6,h9,<-hsz5];exact OA _ _
  have mg:=(lZ.later e4);have l9:=hide (stays e4 qy);have xr:OV ch (some lb) (some vU):=AZ;have Bi:b7.heap[aU]? = some (O1 #[Ol 0,Ol 0,PN] 65):=wF.rest _ _ _ gg.out Oz;have g':=hide (stays e4 Bi);have nC:Kp w2 ch:=fun b c e D aq=>Kp.of e4 b c e (wF.rest b c e (kH b c e D aq) (by rcases aq with rfl|rfl <;> decide)) aq;have ke:O5 none mb w ch:=(ij.newT wF (fun b D=>by rw[hi];exact heap_setCell_other _ _ _ _ (show b≠bf by omega))).trans (O5.of e4 (by rw[hsz5];exact O0 mz))
  have rr:=mg.lt;have Ej:w.heap.size<=lb:=by have:=ij.below.size;omega
  have Es:mb<=lb:=Ou;have Em:lb≠aU:=fun e=>by have:=lt_of_heap gg.out;omega
  rw[<-h9,<-hi,<-g6];exact z.o):G:=h
def awc (h:G:=by
  obtain⟨h0,h1,aH,hb,hl⟩:=h.c;have e2:OD w (w.alloc (vO n)):=PO;have bN:=Oq (∀{G}(h:G:=by
  unfold vO at a';clear aj am E lR aH hb;have bN:=Oq (∀{G}(h:G:=by
  obtain⟨ce,bQ,_,_,_⟩:=(h.later cC).c;exact z.o),G);exact aEa),G);exact ztq):G:=h
def aDc (h:G:=by
  have bN:=Oq (∀{G}(h:G:=by
  exact z.o),G);exact aEc):G:=h
def agO (h:G:=by
  go_wp2_with fail;obtain⟨b1,bx,bi,bF,bC,cG,b4,bT⟩:=rt3 d9.out cR.out bG jY k2 (Ol bP.k) (Ol bP.n) (OB bP.s);rw[<-bx];refine WA (v:=.tuple #[vA bP,Qp]) ?_;exact z.o):G:=h
def adi (h:G:=by
  obtain⟨ce,cB,cap0,fG,dC,fV,_⟩:=cU.Yj (i:=0) Ou;rw[E] at fG;obtain⟨q,bm⟩:=xH a.p;obtain⟨kp,dc⟩:=xE ce.p;exact z.o):G:=h
def ap7 (h:G:=by
  have bN:=Oq (∀{G}(h:G:=by
  clear ag;have bB:=h;have e1:=(Ap.refl c.R w.heap.size w);have qP:=h.base.ends;have dr:=h.base.len;have tA:=hide fa;exact z.o),G);exact aEb):G:=h
def atw (h:G:=by
  refine A.out _ _ bM (fun _=>?_);clear A K;refine wg 6 (.tuple #[.agg #[OB x.tx,Ol x.kd,Ol x.parts,Ol x.str],OC true]) rfl (Or.inl ⟨by kernel_rfl,fun W a1=>by have hh:=dU.out W a1;go_simp⟩) bM ?_
  exact aEf):G:=h
def atx (h:G:=by
  clear aa;go_wp2_with fail;refine wp_region_held (S:=fun W=>W.heap[aY.heap.size]? = some (.cells #[OB x.tx,Ol x.kd,Ol x.parts,Ol x.str] 275)) PK ?_;change wpAnyH _ _ _ _ _ _ _ _ (World.drew _);refine wh 0 (OM aY.heap.size 1) eN.out ?_;refine wg 1 (Ol x.kd) rfl (Or.inl ⟨by kernel_rfl,fun W a1=>by obtain⟨_,j7,_,_,_,_⟩:=c160 a1;go_simp⟩) eN.out ?_
  exact z.o):G:=h
def aEl (h:G:=by
  have bN:=Oq (∀{G}(h:G:=by
  exact z.o),G);exact aEb):G:=h
def aaD (h:G:=by
  go_wp2_with fail;refine cm ai ?_;rintro e fe ⟨rfl,rfl⟩;go_wp2;go_ret;exact z.o):G:=h
def awp (h:G:=by
  refine up 3 bf 0 ab ?_;refine uk 4 (ei.out.1) ab ?_;refine up 5 q 0 ab ?_;refine up 6 q 0 ab ?_;refine up 7 q 1 ab ?_;refine uk 8 fi.out ab ?_;refine P5 9 fun K A=>?_;go_simp;refine cm (Om hx _ ab) ?_;rintro e ap ⟨rfl,br⟩;refine ko A ?_;clear A K;have Au:=ab.trans br;have eN:=(el.later Au);have cQ:=(cu.trans (O5.of (L:=none) Au (O0 di)));have kn:=afe a8 eN.bw (cU.kp (Kp.of Au));obtain⟨xG,_⟩:=eN.hh.at_ 5 _ rfl;have fD:=eN.lt;rw[<-bm.out] at kn;exact z.o):G:=h
def aBN (h:G:=by
  obtain⟨cH,bU,cg,eE,dt,du,dv,iT,rl⟩:=Qx dF.out;go_wp2_with fail;obtain⟨b1,bx⟩:=xE (((((aE.setCell (Ot aU 0) (OC true)).setCell (Ot aU 1) (Ol ey)).setCell (Ot aU 2) (Ol dL)).setCell (Ot aU 3) (OB eK)).alloc (.cells #[OC true,Ol ey,Ol dL,OB eK] 67));rw[<-bx];have gK:mb<=aU:=by have:=Om cR;omega
  have bi:=Uw dF.out gK (OC true) (Ol ey) (Ol dL) (OB eK);have d8:=(Below.refl _ ((((aE.setCell (Ot aU 0) (OC true)).setCell (Ot aU 1) (Ol ey)).setCell (Ot aU 2) (Ol dL)).setCell (Ot aU 3) (OB eK))).alloc O6 (.cells #[OC true,Ol ey,Ol dL,OB eK] 67);have d1:=stays d8 (aat dF.out (OC true) (Ol ey) (Ol dL) (OB eK));have bN:=Oq (∀{G}(h:G:=by
  exact z.o),G);exact ztl):G:=h
def alZ (h:G:=by
  obtain⟨h0,h1,aH,hb,hl⟩:=h.c;have e2:OD w (w.alloc (vO n)):=PO;exact z.o):G:=h
def al5 (h:G:=by
  rw[<-bm.out] at fG dz;rw[<-dc] at dC bJ
  rcases aa:F.v (Oy d 0) ⟨au,aG,st⟩ σ with ⟨⟨v1,ay⟩,σ1⟩
  rw[aa] at bJ;have eF:=hide fG;have lG:=hide dC;have dI:=cell_lt dC;exact z.o):G:=h
def asF (h:G:=by
  rw[e5] at eM;have l5:=hide e5;clear e5;go_wp2_with fail;refine cm eM ?_;rintro e ed ⟨rfl,cr⟩;have kL:=hide (stays cr dV.out);have j0:=(aV.ms.later cr);have nD:=(f6.later cr);have mW:=(cY.trans (O5.of (L:=none) cr (O0 ea)));have oV:=j0.lt;have sL:=gI.kp (Kp.of cr);have cT:=Om p5;exact z.o):G:=h
def awy (h:G:=by
  refine uk 4 eF.out ab ?_;refine up 5 cB 0 ab ?_;refine uk 6 lG.out ab ?_;refine uk4 7 ei.out ab ?_;refine P5 8 fun K A=>?_;go_simp;refine cm (Om bJ _ ab) ?_;rintro e wz ⟨⟨ev,rfl,aD⟩,ha,hM⟩;refine ko A ?_;clear A K;refine uz 9 (.tuple #[Ol bH,ev]) ?_;refine uz 10 (Ol bH) ?_;refine uz 11 ev ?_;refine uz 12 (Ol bH) ?_;refine uz 13 ev ?_;refine Sl ?_ _;have tn:=aD;have mu:=(O5.of (L:=none) ab (O0 di)).trans hM;have dV:=hide (mu.keep bj.out Oz);exact z.o):G:=h
def aEm (h:G:=by
  clear ax;obtain⟨ps,hown,nf,AW⟩:=Om qW;have hlen:=OL.length _ _ nf;have vR:=Qj hown;rw[hlen] at hown;have HLEN:=hide hlen;have dd:=tc.size;have gc:=Om p8;have lK:=hide vR;clear vR hlen
  go_wp2_with (at_builtin;refine wpList_append_lies _ rfl _ _ 38 rfl w.heap.size 22 i0 Ri 1 8 underlying38 dR dA b9 cn rfl Oz _ _ _ rfl (hown.alloc _) (Ot bA.heap.size 0) 1 1 [Oo nr] rfl rfl (RY bA nr _ rfl) (one_one nr) Oz (by unfold maxLen;omega) Ou Rh (bA.heap.size+1) O8 ?_)
  intro g cap b7 hown' hgrow hg _;have l7:KV w.heap.size b7 (aX++[t]) (.slice (some (Ot g 0)) (aX.length+1) cap):=akO AW (by rw[List.map_append];exact hown') (by simp[HLEN.out]) hgrow hg
  have mO:=((tc.alloc dd (.cells #[Oo nr] 22)).grown hgrow Rh (fun k E=>(Om lK k E).2));have fm:=(ba.ap (((Below.refl w.heap.size bA).alloc dd (.cells #[Oo nr] 22)).grown hgrow Rh (fun k E=>(Om lK k E).2)) iF.out);clear hg;go_wp2_with fail;exact z.o):G:=h
def anF (h:G:=by
  have lE:Hid (Ru t=true->∀ W,OD w W->OE 103 #[Oo p] W fun e w'=>(∃ q,e=OQ (Oo q)/\UA W (Qk t 1) q)/\w'=W):=fun aH W a1=>abB t p W (e' W a1) (by
   have:need t.kd=2:=aG3
   omega) Ou
  exact z.o):G:=h
def awr (h:G:=by
  have dx:w.heap.size<=bf:=Ou;have cU:=hd.kp (Kp.of aF);have fi:=hide cU.cells.2.2.1;have el:=(ae.later aF);have ei:=hide (cells4 be);have cu:=(O5.of (L:=none) aF (O0 bG));obtain⟨q,bm⟩:=xH a.p;obtain⟨tx,cD⟩:=xE d.2.tx;have dz:=cU.cells.1;rw[<-bm.out] at fi dz ⊢;rw[<-cD] at fi;have di:=el.lt;have hpl2:=lt_of_heap be;have hx:=hide (fun X (ak:OD w2 X)=>aeK (el.later ak).hh aI.go.ok aI.go.sm (O0 hN) au tx);exact z.o):G:=h
def asz (h:G:=by
  go_simp;refine cm (Om bJ _ ab) ?_;rintro e aE ⟨⟨ev,rfl,aD⟩,aJ,ah⟩;refine ko A ?_;clear A K;refine uz 9 (.tuple #[(vA v1),ev]) ?_;refine uz 10 (vA v1) ?_;have bN:=Oq (∀{G}(h:G:=by
  refine P5 13 fun K A=>?_;go_simp;refine ko A ?_;clear A K;exact z.o),G);exact ztk):G:=h
def ai3 (h:G:=by
  refine P5 13 fun K A=>?_;go_simp;refine ko A ?_;clear A K;refine uz 14 ev ?_;refine Sl ?_ _;go_simp;exact z.o):G:=h
def ax4 (h:G:=by
  refine wh 0 (Pj c) q1.drew ?_;refine wh 1 (Pj c) q1.drew ?_;refine wh 2 (OM c.R 5) q1.drew ?_;refine wg 3 (.map (some c.mV)) rfl (Or.inl ⟨by kernel_rfl,fun W a1=>by have hh:=PW.c5 a1;go_simp⟩) q1.drew ?_
  refine wh 4 (Pj c) q1.drew ?_;refine XY 5 fun K A=>?_;go_simp;refine cm (SN c _ i d q1.drew) ?_;rintro e fA ⟨rfl,jK⟩;have eW:=(q1.drew.later jK);have rQ:=(e5.trans ((QX.drew.trans jK).mono e5.size));exact z.o):G:=h
def avu (h:G:=by
  have re:gF.cell? (Ot T 0)=some Ri:=by rw[iV,World.cell?_alloc_past _ _ _ Rh,World.cell?_alloc_past _ _ _ lQ];exact dY
  have bN:=Oq (∀{G}(h:G:=by
  have rH:=R9.anv (Ot w.heap.size 0) (Ot T 0) gF ax;rw[iV] at rH;exact z.o),G);exact zty):G:=h
def aw7 (h:G:=by
  rw[<-bB.out,<-ag];rw[<-ag] at c3 dz;rw[<-dc] at dC bJ;rw[<-oY] at bJ
  rcases aa:F.s (Oy d 0) ⟨au,aG,st⟩ l σ with ⟨⟨bH,ay,b3⟩,σ1⟩
  rw[aa] at bJ;have eF:=hide c3;have lG:=hide dC;have dI:=cell_lt dC;have bW:=hide aa;clear be hr2 kt da aa ag h1 dx cL d0 c3 dC dc oY;go_enter func202,ntmps202;go_wp2_with fail;rw[<-bu.out,<-b0,<-gd,<-bV];clear bV b0 gd jw mw;go_wp2_with fail;exact z.o):G:=h
def aso (h:G:=by
  rw[e5] at eM;have l5:=hide e5;clear e5;go_wp2_with fail;refine TI 11 fun ab=>?_;refine uh 0 Qp (ab) ?_;refine uh 1 (OC false) (ab) ?_;refine uh 2 (OC false) (ab) ?_;refine uk3 3 gh.out ab ?_;refine up 5 q 0 ab ?_;refine up 6 q 0 ab ?_;refine up 7 q 0 ab ?_;refine uk 8 mP.out ab ?_;exact z.o):G:=h
def axb (h:G:=by
  have bN:=Oq (∀{G}(h:G:=by
  have r3:=hide kt;have zH:=hide eV;have bu:=hide da;have bj:=hide hr2;have cR:=hide cL;have eL:=(hl.later aF);obtain⟨t0,tf,n'⟩:=aau eV;have km:=bI.ety cZ;exact z.o),G);exact ztx):G:=h
def aCo (h:G:=by
  go_enter func322,ntmps322;go_wp2_with fail;rw[<-bu.out,<-b0,<-bV];have bN:=Oq (∀{G}(h:G:=by
  have kX:=Wu (j:=2) b8.out lU (OC false);have gq:=akx b8.out (OC false);obtain⟨aY,gR⟩:=xE (w2.setCell (Ot bf 2) (OC false));rw[<-gR] at kX gq ⊢;have pu:=(el.YC kX Oz);have bN:=Oq (∀{G}(h:G:=by
  have Et:=pu.lt;exact z.o),G);exact zti),G);exact aCn):G:=h
def aty (h:G:=by
  clear gP;obtain⟨fe,iz⟩:=xE ((fy.alloc (.cells #[Oo bf] 22)).alloc (Px 12 Ox 0 (.slice (some (Ot fy.heap.size 0)) 1 1)));exact z.o):G:=h
def aBl (h:G:=by
  rw[<-bm.out] at fG dz nn ⊢;rw[<-dc] at dC sO eO my kP fT;have yY:=hide kP;have mQ:=hide fT;clear be hr2 dx cL d0 dc cD kP fT aH bo;go_enter func261,ntmps261;go_wp2_with fail;rw[<-bu.out,<-b0,<-bV];clear bV b0;refine TI 15 fun ab=>?_;refine up 0 kp 0 ab ?_;refine up 1 kp 0 ab ?_;refine up 2 kp 0 ab ?_;refine uk 3 yY.out ab ?_;refine uh 4 (OC true) (ab) ?_;refine uh 5 (OC true) (ab) ?_;refine up 6 mb 0 ab ?_;refine up 7 mb 0 ab ?_;refine up 8 mb 0 ab ?_;refine up 9 bf 0 ab ?_;refine uk 10 (ei.out.1) ab ?_
  refine up 11 kp 0 ab ?_;refine up 12 kp 0 ab ?_;refine up 13 kp 1 ab ?_;refine uk 14 mQ.out ab ?_;refine P5 15 fun K A=>?_;go_simp;refine cm (Om hx _ ab) ?_;rintro e ed ⟨rfl,br⟩;refine ko A ?_;clear A K;have cr:=ab.trans br;exact z.o):G:=h
def amJ (h:G:=by
  have bB:=h;have e1:=(Ap.refl c.R w.heap.size w);have bS:=hide h.rlt;exact z.o):G:=h
def av6 (h:G:=by
  go_wp2_with fail;rw[<-me.out];refine cm ai ?_;rintro e w' ⟨rfl,hw⟩;rw[hw];clear hw;go_wp2_with fail;refine cm d4 ?_;rintro e w1 ⟨rfl,D⟩;exact z.o):G:=h
def agA (h:G:=by
  simp only[Value.slice.injEq,Option.some.injEq,Addr.mk.injEq,and_true,true_and] at hS;obtain⟨rfl,rfl⟩:=hS;exact z.o):G:=h
def asw (h:G:=by
  go_simp;refine cm (Om bJ _ ab) ?_;exact ax2):G:=h
def aAN (h:G:=by
  have bN:=Oq (∀{G}(h:G:=by
  exact z.o),G);exact aEa):G:=h
def aiK (h:G:=by
  go_wp2_with fail;refine cm aO ?_;rintro e w' ⟨rfl,rfl⟩;go_wp2_with fail;refine cm eB ?_;rintro e w1 ⟨rfl,D⟩;exact z.o):G:=h
def aCm (h:G:=by
  obtain⟨dS,gQ⟩:=xE (σ.top:Int);obtain⟨fK,hj⟩:=xE (σ.opn au (-1) (-3));rw[<-gQ,<-hj] at aD bv;have jp:=hide aD;have lJ:=hide bv;have mD:(σ.M.ro au).isSome=true:=Po.some (p:=⟨au,aG,true⟩) al;have ck:=hide (fun X (ak:Mx w0 mb af O aW aC aA aM X σ)=>Y6 ak aI Ou au (-1) (-3) mD);rw[<-gQ,<-hj] at ck;have nN:Sz (N+1) fK:=by show Sz _ _;rw[hj];exact aI.opn _ _ _
  have Jp:0<=dS/\dS<fK.M.OI.length:=by rw[gQ,hj];exact⟨by show (0:Int)<=(σ.M.OI.length:Int);omega,by show (σ.M.OI.length:Int)<_;simp[St.opn,Mo.scope];omega⟩
  rw[<-bm.out];clear be hr2 gQ hj aD bv mD bq al;go_enter func322,ntmps322;go_wp2_with fail;rw[<-bu.out,<-b0,<-bV];exact z.o):G:=h
def aoY (h:G:=by
  rw[aa] at bJ;have eF:=hide fG;have lG:=hide dC;have dI:=cell_lt dC;exact z.o):G:=h
def aw8 (h:G:=by
  have lJ:=(bv.later aF);have qu:=bI.cell aJ;have mw:1<w.heap.size:=cell_lt qu;have jw:=bI.cell cZ;rw[da] at jw;clear qu;obtain⟨ce,cB,cap0,c3,dC,fV,_⟩:=cU.Yj (i:=0) Ou;rw[E] at c3;obtain⟨q,ag⟩:=xE a.p;obtain⟨kp,dc⟩:=xE ce.p;have bJ:=hide (fun X (ak:OD w2 X)=>h1 X ce (cZ.later ak) (fV.kp (Kp.of ak)) (eL.later ak));exact z.o):G:=h
def aBr (h:G:=by
  have bM:=hide aK;clear aq aK;obtain⟨cH,bU,cg,dt,du,dv,rl⟩:=O7 dF.out;go_wp2_with fail;obtain⟨b1,bx⟩:=xE ((((aE.setCell (Ot aU 0) (Ol 0)).setCell (Ot aU 1) (Ol 0)).setCell (Ot aU 2) (PN)).alloc (.cells #[Ol v1.k,Ol v1.n,OB v1.s] 65));rw[<-bx];have gK:mb<=aU:=by have:=Om cR;omega
  have bi:=RJ dF.out gK (Ol 0) (Ol 0) (PN);have d8:=(Below.refl _ (((aE.setCell (Ot aU 0) (Ol 0)).setCell (Ot aU 1) (Ol 0)).setCell (Ot aU 2) (PN))).alloc O6 (.cells #[Ol v1.k,Ol v1.n,OB v1.s] 65);have bN:=Oq (∀{G}(h:G:=by
  exact z.o),G);exact aBs):G:=h
def aDB (h:G:=by
  have nG:=hide az;clear az;have bN:=Oq (∀{G}(h:G:=by
  rintro bz w2 ⟨rfl,rfl⟩;go_wp2_with fail;have hds:∀ i,(am:i<(s.extract k e).size)->Ql ((s.extract k e)[i].toNat:Int)=true:=fun i am=>aHi
  have dd:=extract_size s k e Ou gJ;refine(ap8 (s.extract k e) w2 Ou Ou hds).mono ?_;rw[nG.out];rintro ez ap ⟨rfl,sH⟩;have nR:=l4.trans (sH.mono l4.size);clear aj aH;obtain⟨aj,aH⟩:=ZV nR;have l4:=nR;exact z.o),G);exact ztn):G:=h
def aEo (h:G:=by
  have bN:=Oq (∀{G}(h:G:=by
  go_wp2_with fail;have hpast:=Yq s k x Vf w1 (by unfold maxLen;omega) Ou ae
  rw[dH.out] at hpast;refine hpast.mono ?_;rintro bz w2 ⟨rfl,rfl⟩;have pj:Hid (w2.heap[6]? = some (.cells (aY.map Value.string).toArray t fr)):=by
   show _=_
   rw[hbel.block 6 Rh,Below.heap_alloc w _ 6 aQ];exact Om gZ
  go_wp2_with fail;refine(acN aY (s.extract k e) w2 dB.out t fr pj.out).mono ?_;rw[fB.out];rintro ez ap ⟨rfl,rfl⟩;go_wp2_with fail;exact z.o),G);exact ztp):G:=h
def atz (h:G:=by
  refine cm ai ?_;intro e w1 al;obtain⟨⟨v1,rfl,p1,rfl,gL⟩,ba,ax⟩:=al;exact z.o):G:=h
def ahs (h:G:=by
  go_simp;refine cm ai ?_;intro e aE al;obtain⟨⟨dD,rfl,cA,rfl,jO⟩,ba,ax⟩:=al;exact z.o):G:=h
def aeE (h:G:=by
  go_wp2_with fail;refine cm ai ?_;rintro e w2 ⟨rfl,rfl⟩;go_wp2_with fail;exact z.o):G:=h
def awC (h:G:=by
  refine uh 6 undef (ab) ?_ (hy:=Or.inr ⟨by kernel_rfl,rfl⟩);refine uh 7 undef (ab) ?_ (hy:=Or.inr ⟨by kernel_rfl,rfl⟩);refine uh 8 undef (ab) ?_ (hy:=Or.inr ⟨by kernel_rfl,rfl⟩);refine uh 9 undef (ab) ?_ (hy:=Or.inr ⟨by kernel_rfl,rfl⟩);refine uh 10 undef (ab) ?_ (hy:=Or.inr ⟨by kernel_rfl,rfl⟩);exact z.o):G:=h
def ax5 (h:G:=by
  go_simp;refine A.out _ _ r9 (fun _=>?_);clear A K;refine XY 5 fun K A=>?_;go_simp;refine cm (eM.out _ r9) ?_;rintro e w1 ⟨rfl,D⟩;obtain⟨hr1,f',aZ,p1⟩:=ax6 bB D;obtain⟨cH,bU,cg,eE,eu,rlt⟩:=c160 p1;have bM:=hr1;have fB:=f';have sn:=hide aZ;have tI:=hide p1;clear aZ p1;exact z.o):G:=h
def aEp (h:G:=by
  have EM:(RW w).heap.size=w.heap.size+2:=by simp
  have hsz2:=aF.size;have cE:=Om FM;have c0:ap.heap[w.heap.size]? = some (O1 #[Ri] 22):=by
   rw[ax.block _ Ou Ou,aF.block _ Ou,Below.heap_alloc _ _ _ O8];exact OA _ _
  have c1:ap.heap[w.heap.size+1]? = some (O1 #[Qp] 31):=aHe
  have gH:ap.cell? (Ot w.heap.size 0)=some Ri:=by rw[cell_of c0];rfl
  have HO:=Sv c0;have eq:ap.cell? (Ot (w.heap.size+1) 0)=some Qp:=by rw[cell_of c1];rfl
  have HS:=Sv c1;have lF:OD w ap:=aHd
  have gY:Hid (w.heap.size+2<=w2.heap.size):=by show _<=_;omega
  exact z.o):G:=h
def asB (h:G:=by
  have bN:=Oq (∀{G}(h:G:=by
  refine cm (Om bJ _ (PO.drew)) ?_;exact ax2),G);exact zts):G:=h
def az4 (h:G:=by
  rw[hh] at ai;have il:=hide hh;clear hh;go_wp2_with fail;refine cm ai ?_;rintro e w2 ⟨rfl,rfl⟩
  go_wp2_with (at_builtin;refine wpList_append_lies _ rfl _ _ 38 rfl w1.heap.size 22 i0 Ri 1 8 underlying38 dR dA b9 cn rfl Oz _ _ _ rfl (dw.alloc _) (Ot w2.heap.size 0) 1 1 [Oo q] rfl rfl (aiI w2 q _ rfl) (aob q) Oz (by unfold maxLen;omega) Ou Rh (w2.heap.size+1) O8 ?_)
  intro g2 cap' ap hown' hgrow iM _;have d3:=(hbel.trans (((Below.refl w1.heap.size w2).alloc dd (.cells #[Oo q] 22)).grown hgrow Rh (fun b D=>(Om r4 b D).2)));clear iM;go_wp2_with fail;exact z.o):G:=h
def awl (h:G:=by
  have pd:=gV 0;clear gV;refine uz 7 (OM bf 0) ?_;refine P5 8 fun K A=>?_;go_simp;refine ko A ?_;clear A K;refine Sl ?_ _;go_simp;have bN:=Oq (∀{G}(h:G:=by
  exact z.o),G);exact aBO):G:=h
def atA (h:G:=by
  rw[show (fy.alloc (.cells #[Oo bf] 22)).heap.size=aZ by rw[iP];simp,<-iz]
  clear iz iP;exact z.o):G:=h
def ap9 (h:G:=by
  obtain⟨kj,pI,dK⟩:=ck.cell;obtain⟨cV,uc,lW⟩:=ck.shape;subst lW;exact z.o):G:=h
def aht (h:G:=by
  intro e w1 al;obtain⟨⟨v1,rfl,rfl⟩,ba,ax⟩:=al;have ew:=(e1.next ax);exact z.o):G:=h
def aw9 (h:G:=by
  have A8:ob≠aU:=Ou;have d0:bf≠aU:=Ou;have cU:=hd.kp (Kp.of aF);have cZ:=(aJ.later aF);have cu:=(O5.of (L:=L) aF (O0 bG));have r3:=hide kt;have ei:=hide (cells4 be);have bu:=hide da;have bj:=hide hr2;have cR:=hide cL;have eL:=(hl.later aF);exact z.o):G:=h
def apg (h:G:=by
  have cY:=(cu.trans hM);have f6:=(eL.keep hM);have ea:=ha.lt;have gI:=cU.kp hM.UD;have hf:=gI.cells.1;have gB:=gI.cells.2.1;exact z.o):G:=h
def aEq (h:G:=by
  have bB:=h;have dj:=((h.alloc TT).drew);have r9:=(((h.alloc TT).alloc TT).drew);have dU:Hid (∀ W:Ov,PW c W i d->(Instr.lookup 229 (.map (some c.mS)) (OB s) true).run prog W=.ok (.tuple #[.agg #[OB x.tx,Ol x.kd,Ol x.parts,Ol x.str],OC true]) W):=fun W a1=>by
   have:=XI c s W a1.base.signs;rw[aR] at this;exact this
  have bN:=Oq (∀{G}(h:G:=by
  exact z.o),G);exact aD9):G:=h
def azG (h:G:=by
  refine wh 3 (OB tx) ab ?_ (hy:=Or.inl ⟨by kernel_rfl,fun X ak=>by have hh:=O4 ak fi.out;go_simp⟩)
  refine wh 4 (X0 s i b) ab ?_ (hy:=Or.inl ⟨by kernel_rfl,fun X ak=>by
    have hh:=XT.later ku ak;have h0:=hh.c0;have h1:=hh.c1;have U:=hh.c2;clear hh;go_simp⟩)
  refine XY 5 fun K A=>?_;go_simp;refine cm (k3.out _) ?_;rintro e w2 ⟨rfl,aF⟩
  try rw[<-iy] at aF
  have f9:OD ek w2:=ab.trans (aF.mono O6);refine A.out _ _ f9 (fun _=>?_);clear A K;refine wh 6 (Vs er) f9 ?_;refine wpAnyH_done PK ?_ _;go_simp;exact z.o):G:=h
def aC2 (h:G:=by
  have hZ:Hid (∀ X,OD w2 X->OE 58 #[Oo b4] X fun e w'=>e=OQ (OC kZ)/\w'=X):=fun X ak=>aHc
  have eU:q<w2.heap.size:=by
   have h1:=hd.cells.1;rw[<-ag] at h1;have U:=aF.size;omega
  have di:mb<w2.heap.size:=by have:=aF.size;omega
  have gn:bf<w2.heap.size:=lt_of_heap be;have Eh:aU<w2.heap.size:=lt_of_heap hr2;have xv:Hid (w.heap.size<=aU):=by show _<=_;omega
  clear az n4 ag A c3 c1 cJ ni E be hr2 da;go_enter func60,ntmps60;exact ax3):G:=h
def atB (h:G:=by
  go_wp2_with fail;refine cm ai ?_;rintro e dM ⟨rfl,oN⟩;have j1:=(jH.later oN);have jC:=(kb.next (Ap.of oN));have ck:=(Open.later eo (Ap.of oN) bS.out);clear iW uf;exact z.o):G:=h
def alK (h:G:=by
  simp only[Value.slice.injEq] at av;obtain⟨rfl,_,rfl⟩:=av;have h8:(k:Int)<(l.length:Int):=Ou;exact z.o):G:=h
def arF (h:G:=by
  unfold Vs;have f4:=(Om nz dG cq);have hz:=n7.at.c2;have px:=Sv n7 2;have oG:=lt_of_heap n7;go_wp2_with fail;refine cm f4 ?_;rintro e jk ⟨rfl,rfl⟩;exact z.o):G:=h
def aC4 (h:G:=by
  refine up 3 mb 0 ab ?_;refine up 4 mb 0 ab ?_;refine up 5 mb 12 ab ?_;refine uk 6 rR.out ab ?_;refine uh 7 (OB x) (ab) ?_;refine P5 8 fun K A=>?_;go_simp;refine cm (Om Ck _ ab) ?_;rintro e bA ⟨rfl,dh⟩;refine ko A ?_;clear A K;have vX:OD wr bA:=ab.trans (dh.mono ab.size);have f7:=(eX.later vX);have fF:=(kF.trans (Q9.of vX (O0 h')));have gw:=hide (stays vX bW.out);have q3:=(Pe kx vX);have kG:Kp w2 bA:=fun b c e D aq=>Kp.of vX b c e (jq b c e D aq) aq;have gp:=f7.lt;exact z.o):G:=h
def arE (h:G:=by
  obtain⟨g,cap,q,av,hg,bY,az⟩:=(un.later D).cell k aQ;simp only[Value.slice.injEq] at av;obtain⟨rfl,_,rfl⟩:=av;have h8:(k:Int)<(t.kids.length:Int):=Ou;exact z.o):G:=h
def aEr (h:G:=by
  go_simp;have r9:=((eW.alloc TT).drew);refine A.out _ _ r9 (fun _=>?_);clear A K;refine XY 5 fun K A=>?_;go_simp;refine cm (SN c _ i d r9) ?_;rintro e w1 ⟨rfl,D⟩;have bM:=(r9.later D);have f3:=(rQ.trans ((((Below.refl fA.heap.size fA).alloc O6 TT).drew.trans (D.mono O8)).mono rQ.size));have p1:w1.heap[fA.heap.size]? = some TT:=(D.block _ O8).trans (OA fA TT);obtain⟨cH,bU,cg,eE,eu,rlt⟩:=c160 p1;have tI:=hide p1;clear p1;refine A.out _ _ bM (fun _=>?_);clear A K;exact z.o):G:=h
def aBI (h:G:=by
  have bN:=Oq (∀{G}(h:G:=by
  have aK:rs=F.s (Oy d 1) ⟨au,aG,st⟩ l σ1:=by rw[bB.out];unfold chQ;rw[bW.out];simp[l5.out]
  have cI:=hide aK;rw[<-aK] at fj;clear cH bU cg eE dt du dv iT rl fh cp dG hp hq hr g9 fW pN cT aK jI;go_wp2_with fail;refine TI 8 fun ab=>?_;exact z.o),G);exact ztv):G:=h
def aA0 (h:G:=by
  have bG:=aJ.lt;obtain⟨w2,bu⟩:=xH (w.alloc (.cells #[Ol v.k,Ol v.n,OB v.s] 65));obtain⟨vb,vr⟩:=xH w.heap.size;have aF:OD w w2:=by rw[bu.out];exact PO
  have e0:w2.heap[vb]? = some (Y7 v):=by rw[bu.out,vr.out];exact OA _ _
  have cZ:=(aJ.later aF);have di:=cZ.lt;have cu:=(O5.of (L:=none) aF (O0 bG));obtain⟨aW,aC,aA,aM,ae⟩:=aJ;have eJ:=ae.later aF;obtain⟨o,oZ⟩:=xE (σ.M.RD s);have lK:=(akq eJ.hh s);obtain⟨C8,_⟩:=eJ.hh.at_ 9 _ rfl;exact z.o):G:=h
def ao3 (h:G:=by
  refine uk 4 eF.out ab ?_;refine up 5 cB 0 ab ?_;refine uk 6 lG.out ab ?_;exact z.o):G:=h
def azN (h:G:=by
  have nB:Hid (∀ (k:Nat) (E:k<t.kids.length) (q:Nat) (W:Ov),UA W t.kids[k] q->OE 48 #[Oo q,X0 true true true] W fun e w'=>e=OQ (Vs (chk t.kids[k] true true true))/\OD W w'):=fun k E q W ag=>by
   have h1:=UO t.kids k E;exact bn t.kids[k] Ou (oS _ (List.getElem_mem _)) Ou q true true true W ag
  obtain⟨er,nW⟩:=xE (wrT t true true b);obtain⟨vE,fH⟩:=xE (TS t.kids true true true);rw[<-nW,<-fH] at mr;simp only[<-nW] at mf;rw[mr];have tj:=hide fH;exact z.o):G:=h
def aiZ (h:G:=by
  have bJ:=hide (fun X (ak:OD w2 X)=>h1 X ce aB (cZ.later ak) (fV.kp (Kp.of ak)));exact z.o):G:=h
def aqa (h:G:=by
  refine XY 10 fun K A=>?_;go_simp;refine A.out _ _ (bM.alloc TT) (fun _=>?_);clear A K;refine XY 11 fun K A=>?_;go_simp;exact z.o):G:=h
def atD (h:G:=by
  obtain⟨gx,gy,hI⟩:=(Open.later ck dy bS.out).cell;have pA:aZ<aE.heap.size+1:=Ou;have pB:aZ<aE.heap.size+1+1:=Ou;refine A _ _ ?_;clear A K;exact z.o):G:=h
def asl (h:G:=by
  go_wp2_with fail;obtain⟨b1,bx,bi,bF,bC,cG,b4,bT⟩:=rt3 lL.out cR.out bG oi oq (Ol 0) (Ol 0) (PN);rw[<-bx];refine Y9 (v:=.tuple #[vA vU,ev]) ?_;exact z.o):G:=h
def asZ (h:G:=by
  obtain⟨q,bm⟩:=xH a.p;have el:=(ae.later aF);have k1:=(hd.kp (Kp.of aF));have b8:=hide be;have bj:=hide hr2;have cu:=(O5.of (L:=none) aF (O0 bG));exact z.o):G:=h
def awv (h:G:=by
  refine P5 7 fun K A=>?_;go_simp;refine cm sa ?_;rintro e bA ⟨rfl,dh⟩;refine ko A ?_;clear A K;have jZ:=(eA.later dh);have fF:=(cQ.trans (O5.of (L:=none) dh (O0 fD)));have gp:=jZ.lt;refine Sl ?_ _;go_simp;go_wp2_with fail;exact z.o):G:=h
def aqb (h:G:=by
  go_wp2_with fail;refine cm ai ?_;rintro e ap ⟨rfl,br⟩;have jm:=(gA.next (Ap.of br));have dp:=(bj.later br);exact z.o):G:=h
def aC3 (h:G:=by
  obtain⟨i0,dR,dA,b9,cn⟩:=info_parts as7;obtain⟨bQ,g,cap,c3,c1,x3,_⟩:=hd.Yj (i:=1) Ou;rw[E] at c3;obtain⟨n,az⟩:=xE σ.Rq.length;obtain⟨ol,n4⟩:=xE ((σ.M.objs.length:Int):Int);obtain⟨q,ag⟩:=xE a.p;obtain⟨b4,ni⟩:=xE bQ.p;have bG:=ae.lt;rw[<-n4,<-ag];rw[<-az] at hl;rw[<-ag] at c3;rw[<-ni] at c1;have dQ:=ae;have d4:=hd;have dB:=hide az;have r4:=hide n4;have bm:=hide ag;have tB:=ac;have pk:=hide A;exact z.o):G:=h
def ax7 (h:G:=by
  have bB:=h;have yM:=(Below.refl w.heap.size w);have dq:((O9 c.l i).kd==1)=false:=beq_eq_false_iff_ne.2 h1;have em:((O9 c.l i).kd==3)=false:=beq_eq_false_iff_ne.2 aw;have oB:((O9 c.l i).kd==4)=false:=beq_eq_false_iff_ne.2 aL;exact z.o):G:=h
def aAt (h:G:=by
  obtain⟨cM,iO,eO⟩:=List.findIdx?_eq_some_iff_getElem.1 E;obtain⟨N,dB⟩:=xH bs.length;have fk:(bs.eraseIdx k).length=N - 1:=by rw[List.length_eraseIdx,if_pos cM,dB.out]
  rw[fk];obtain⟨m3,ju⟩:=Qc hrow (k:=g) rfl;have J3:bD≠g:=QK aI ju Oz;have o6:=lt_of_block aI;have pt:=hide aT;have dW:=hide aI;rw[<-dB.out] at ai hrow cM;rw[<-dB.out] at aS;have DB:bs.length=N:=dB.out.symm;clear E iO eO aI nq ju aT fk;rw[DB];clear DB;exact z.o):G:=h
def axj (h:G:=by
  go_wp2_with fail;refine cm pm ?_;rintro e bA ⟨rfl,dh⟩;have iD:=(oO.trans (dh.mono JI));have yN:=(Ax.trans (dh.mono Ax.size));have kJ:=hide (stays yN fM.out);have gp:mb<bA.heap.size:=by have:=iD.size;omega
  exact z.o):G:=h
def ao9 (h:G:=by
  go_simp;refine cm (Om fj _ ab) ?_;rintro e aE ⟨⟨ev,rfl,aD⟩,aJ,ah,g3⟩;refine ko A ?_;clear A K;exact z.o):G:=h
def amI (h:G:=by
  refine wt 5 (Pj c) ?_;refine wt 6 (Pj c) ?_;refine wt 7 (.func (.func 224) #[Pj c] #[]) ?_;exact z.o):G:=h
def amK (h:G:=by
  intro e aE al;obtain⟨⟨dD,rfl,jO⟩,ba,ax⟩:=al;obtain⟨cA,rfl,hB⟩:=jO.nv;exact z.o):G:=h
def aEs (h:G:=by
  refine wh 2 (Oo aZ) eN.out ?_;refine wh 3 (Pj c) eN.out ?_;refine wh 4 (OM aY.heap.size 3) eN.out ?_;refine wg 5 (Ol x.str) rfl (Or.inl ⟨by kernel_rfl,fun W a1=>by obtain⟨_,_,_,j7,_,_⟩:=c160 a1;go_simp⟩) eN.out ?_
  refine wg 6 (Ol (x.str+1)) rfl (Or.inl ⟨by kernel_rfl,fun W _=>by have hw:IntKind.i64.wrap (x.str+1)=x.str+1:=(by rw[IntKind.wrap_i64];omega);go_simp;try exact hw⟩) eN.out ?_
  refine XY 7 fun K A=>?_;go_simp;exact z.o):G:=h
def aAI (h:G:=by
  have oR:(M.OI.map Ro.h)[i]? = some x.h:=by simp[am]
  have hrow:w.ownsRow H 262 6 _ x.cs.length (x.cs.flatMap Ce.h):=h.ro.own i x.h _ oR av;obtain⟨g2,cap',hS,_⟩:=atC hrow D;simp only[Value.slice.injEq,Option.some.injEq,Addr.mk.injEq,and_true] at hS;obtain⟨rfl,rfl,rfl⟩:=hS;obtain⟨bU,b4⟩:=hrow.stored (k * 6+1) (Ol n.k);obtain⟨cg,bT⟩:=bU.stored (k * 6+2) (Ol n.n);obtain⟨eE,eg⟩:=cg.stored (k * 6+3) (OB n.s);exact z.o):G:=h
def atE (h:G:=by
  refine wh 7 (.tuple #[.agg #[PN,Ol 0,Ol 0,Ol 0],OC false]) bM ?_;refine wh 8 (.agg #[PN,Ol 0,Ol 0,Ol 0]) bM ?_;refine wh 9 (OC false) bM ?_;exact z.o):G:=h
def aoZ (h:G:=by
  rw[<-bB.out,<-bm.out];rw[<-bm.out] at fG dz;rw[<-dc] at dC bJ;exact z.o):G:=h
def aov (h:G:=by
  obtain⟨dn,bR,c7,fw,nl⟩:=YK (D.mono O8);have bL:=(((Below.refl _ w).alloc O6 _).trans (D.mono O8));exact z.o):G:=h
def asH (h:G:=by
  go_wp2_with fail;obtain⟨b1,bx,bi,bF,bC,cG,b4,bT,eg⟩:=rt4 gg.out cR.out bG ij nE (OC true) (Ol ey) (Ol dL) (OB eK);rw[<-bx];exact z.o):G:=h
def aAS (h:G:=by
  refine TI 6 fun ab=>?_;refine up 0 mb 0 ab ?_;refine up 1 bf 0 ab ?_;refine uk 2 (ei.out.1) ab ?_;refine up 3 mb 0 ab ?_;refine up 4 q 0 ab ?_;refine P5 5 fun K A=>?_;go_simp;refine cm (Om k5 _ ab) ?_;rintro e k0 ⟨rfl,i1⟩;rw[i1];clear i1 k0;refine A.out _ _ (fun _=>ab) ?_;clear A K;refine P5 6 fun K A=>?_;go_simp;refine cm (Om ck _ ab) ?_;rintro e ap ⟨rfl,w3,fc,cS⟩;refine ko A ?_;clear A K;exact z.o):G:=h
def aDx (h:G:=by
  go_wp2_with fail;obtain⟨b1,bx⟩:=xE (((fy.setCell (Ot w.heap.size 0) (Ol bP.k)).setCell (Ot w.heap.size 1) (Ol bP.n)).setCell (Ot w.heap.size 2) (OB bP.s));rw[<-bx];have d1:=ZJ d9.out (Ol bP.k) (Ol bP.n) (OB bP.s);have d8:=below3 hT O6 (Ol bP.k) (Ol bP.n) (OB bP.s);have bi:=RJ (mb:=w.heap.size) d9.out O6 (Ol bP.k) (Ol bP.n) (OB bP.s);rw[<-bx] at d1 d8 bi;obtain⟨cG,b4,bT,_,_⟩:=cells3 d1;exact z.o):G:=h
def ax8 (h:G:=by
  refine wh 0 (Pj c) dj ?_;refine wh 1 (Pj c) dj ?_;refine wh 2 (OM c.R 3) dj ?_;refine wg 3 (.map (some c.mS)) rfl (Or.inl ⟨by kernel_rfl,fun W a1=>by have hh:=PW.c3 a1;go_simp⟩) dj ?_
  refine wh 4 (Pj c) dj ?_;exact z.o):G:=h
def az3 (h:G:=by
  go_wp2_with (at_builtin;refine wpList_append_lies _ rfl _ _ 26 rfl w.heap.size 9 i0 (OB ByteArray.empty) 1 16 underlying26 dR dA b9 cn rfl Oz _ _ _ rfl (nK.alloc _) (Ot wr.heap.size 0) 1 1 [OB x] rfl rfl (Yd wr x _ rfl) (abS x) Oz (by unfold maxLen;omega) Ou Rh (wr.heap.size+1) O8 ?_)
  intro g2 cap' ap hown' hgrow iM _;have d3:=((hbel.alloc dd (.cells #[OB x] 9)).grown hgrow Rh (fun b D=>(Qj nK b D).2));exact z.o):G:=h
def anG (h:G:=by
  rw[ll,jM,kS] at mr;have e':∀ W,OD w W->UA W t p:=fun W a1=>h.later a1;have r2:=hide e';exact z.o):G:=h
def azK (h:G:=by
  have dh:OD w ja:=aDF
  have oX:UA ja t p:=Om r2 ja dh;obtain⟨Bd,_,_,uG,xF,un⟩:=oX.cells;obtain⟨cV,uc,rfl⟩:=un.form;have Db:(jk.setCell (Ot w.heap.size 2) (OC false)).cell? (Ot p 3)=some (.slice cV t.kids.length uc):=by rw[<-gS];exact xF
  exact aEg):G:=h
def ajD (h:G:=by
  subst E;refine(if_neg (show ¬ 20000<σ.steps+1 by omega)).trans ?_;exact z.o):G:=h
def axl (h:G:=by
  have cR:=hide cL;have di:=el.lt;have hZ:=hide (fun X (ak:UA X d.2 a.p)=>TU d.2 a.p X ak);rw[dY,<-bm.out] at hZ;have fo:UA w2 d.2 q:=by rw[bm.out,<-k1.tr];exact k1.at_.nat.nt
  exact z.o):G:=h
def axm (h:G:=by
  have be:w2.heap[bf]? = some (O1 #[Ol au,Ol aG,OC false,.pointer aB] 73):=by rw[bu.out,bV];exact alloc_old (OA _ _)
  have hr2:w2.heap[aU]? = some (O1 #[Ol 0,Ol 0,PN] 65):=aG7
  exact z.o):G:=h
def aAp (h:G:=by
  obtain⟨b,lh⟩:∃ b,bs[m+1]? = some b:=⟨_,List.getElem?_eq_getElem (by rw[<-dB.out];exact aQ)⟩
  have hkl':k<bs.length:=by rw[<-dB.out];exact cM
  have hml':m<bs.length:=by rw[<-dB.out];omega
  have iu:(Lm bs k m).length=N:=by rw[aoe hkl' hml',dB.out]
  have Ay:(Lm bs k m)[m+1]? = some b:=by rw[aAg hkl' hml' Ou];exact lh
  have hown2:=hown;rw[<-iu] at hown2;exact z.o):G:=h
def amL (h:G:=by
  have iF:=hide h.base.size;obtain⟨i0,dR,dA,b9,cn⟩:=info_parts info22;exact z.o):G:=h
def aAL (h:G:=by
  have fs:=h.later e2;obtain⟨g,cap,v,bz,aQ,av,dK,hrow,hg,a8,lj,_⟩:=fs.ob.at_ (i:=i) (e:=x.h) (by simp[am]);have ai:=(abY g cap _ i aQ (w.alloc (vO n)));rw[<-bz] at ai;have hrow':(w.alloc (vO n)).ownsRow H 207 5 v x.ps.length (x.ps.flatMap Pr.h):=hrow;have d4:=(aeI g (i * 2) v x.ps H nm (w.alloc (vO n)) (dK 1 v rfl) hrow' (by have:=ac.ps x (List.mem_of_getElem? am);omega))
  exact z.o):G:=h
def awd (h:G:=by
  have bJ:=hide av;have gD:=hide am;have jX:=hide bz;have kc:=hide (dK 2 v rfl);have HLEN:=hide mE;have rZ:=hide hg;have cY:=hide lj;obtain⟨lv,dR,dA,b9,cn⟩:=info_parts abm;exact z.o):G:=h
def ax9 (h:G:=by
  go_enter func348,ntmps348;have ai:=(RX c w i d bB);unfold tkV at ai;have fI:=abt (O9 c.l i);go_wp2_with fail;refine cm ai ?_;rintro e wt ⟨rfl,e5⟩;have q1:=(bB.later e5);exact z.o):G:=h
def asA (h:G:=by
  obtain⟨z0,mJ,z2,mK,mL,mM,zl⟩:=O7 fp;refine uz 9 (.tuple #[(vA v1),ev]) ?_;refine uz 10 (vA v1) ?_;refine uz 11 ev ?_;exact z.o):G:=h
def arH (h:G:=by
  go_wp2_with fail;refine cm (Om nz _ ((Below.refl w.heap.size w).alloc O6 _)) ?_;rintro e cp ⟨rfl,rfl⟩;go_wp2_with fail;exact z.o):G:=h
def av7 (h:G:=by
  obtain⟨oo,oZ⟩:=xE (M.RD s);have dw:Hid (∀ w1,OD w w1->OE 125 #[OM H 0,Ol s] w1 fun e w'=>e=OQ (Ol oo)/\w'=w1):=fun w1 D=>by rw[oZ];exact aam (h.later D) s
  exact z.o):G:=h
def aBv (h:G:=by
  obtain⟨ce,bQ,cB,cap0,c3,dC,fW,fV,jh⟩:=hd.adX E;have iW:=fV.kp (Kp.of aF);have iO:=jh.kp (Kp.of aF);obtain⟨q,ag⟩:=xE a.p;obtain⟨kp,qT⟩:=xH ce.p;obtain⟨wY,p7⟩:=xH bQ.p;have nn:=hd.cells.1;have sO:=fV.cells.1;have my:=fV.cells.2.1;have dI:=cell_lt dC;have hblk:=cU.akt (O4 aF c3);have nj:=cU.blk;have rk:=iW.blk;exact z.o):G:=h
def azT (h:G:=by
  have oX:UA ja t p:=Om r2 ja dh;obtain⟨Bd,_,_,uG,xF,un⟩:=oX.cells;obtain⟨cV,uc,rfl⟩:=un.form;have Db:(jk.setCell (Ot w.heap.size 2) (OC true)).cell? (Ot p 3)=some (.slice cV t.kids.length uc):=by rw[<-gS];exact xF
  exact aEg):G:=h
def as6 (h:G:=by
  have h1:=heap_setCell_same w b 0 _ t x' h;have U:=heap_setCell_same _ b 1 _ t jB h1;have aw:=heap_setCell_same _ b 2 _ t jl U;exact z.o):G:=h
def aCq (h:G:=by
  go_simp;refine cm (Om fj _ (pF) ue (tV)) ?_;rintro e aE ⟨⟨ev,rfl,aD⟩,g4,gz,g3⟩;refine ko A ?_;clear A K;refine uz 10 (.tuple #[(UY bH),ev]) ?_;refine uz 11 (UY bH) ?_;refine uz 12 ev ?_;refine P5 13 fun K A=>?_;go_simp;refine ko A ?_;clear A K;exact aEh):G:=h
def apj (h:G:=by
  refine P5 11 fun K A=>?_;go_simp;refine ko A ?_;clear A K;refine uz 12 ev ?_;refine Sl ?_ _;exact z.o):G:=h
def atF (h:G:=by
  rw[tA.out] at ai;simp only[atv,sgV,Option.isSome] at ai;go_wp2_with fail;refine cm ai ?_;rintro e aY ⟨rfl,nU⟩;exact z.o):G:=h
def aya (h:G:=by
  go_wp2_with fail;refine cm ai ?_;rintro e dM ⟨rfl,oN⟩;have j1:=(G9.later oN);have jC:=(gA.next (Ap.of oN));replace fo:=hide (SS (c:=c) fo (Ap.of oN) bS.out);exact z.o):G:=h
def ayb (h:G:=by
  go_simp;refine cm (PV 13 s (.slice (some (Ot aE.heap.size 0)) 1 1) (aE.alloc (.cells #[Oo cA] 22)) ⟨_,_,_,rfl⟩) ?_;rintro e BX ⟨rfl,rfl⟩;refine A _ _ ?_;clear A K;exact z.o):G:=h
def asU (h:G:=by
  have h1:=X4 d.2;have U:Tr.counts d.2.kids<d.2.count:=by cases d.2;rw[Tr.count];exact Nat.lt_add_of_pos_left Ou
  exact z.o):G:=h
def aEt (h:G:=by
  refine wt 12 (Oo ie) ?_;refine wt 13 (OM ie 3) ?_;refine QV 14 fun K A=>?_;go_simp;refine A _ _ ?_;clear A K;refine wpAny_done PK ?_ _;go_simp;obtain⟨cO,cP,df⟩:=Om gE;obtain⟨s4,rv,wp⟩:=cO.nv;have gP:s4=ie:=by simpa[Oo] using rv.symm
  subst gP;have jQ:=Om pq;have jF:=wp;have cZ:=cP;have jG:=df;clear rv;go_wp2_with fail;exact z.o):G:=h
def arD (h:G:=by
  have h0:=sQ.at.c0;have h1:=sQ.at.c1;have U:=sQ.at.c2;have yk:=lt_of_heap sQ;have ai:=(Om nB k aQ q wr az);exact z.o):G:=h
def awE (h:G:=by
  have dZ:OD aE wd:=by rw[fb];exact PO
  have l8:=(g4.later dZ);have hY:=hide (stays dZ dF.out);have uW:=(fl.trans (O5.of (L:=none) dZ (O0 hB)));have ug:=l8.lt;exact z.o):G:=h
def atp (h:G:=by
  go_wp2_with fail;refine cm ai ?_;rintro e w2 ⟨rfl,aF⟩;have cq:=(D.trans (aF.mono D.size));go_wp2_with fail;exact z.o):G:=h
def asP (h:G:=by
  rw[e9] at gB;obtain⟨aZ,p1,cK,cX,_,d2⟩:=cells4 eR.out;clear e9;go_wp2_with fail;refine cm bJ ?_;exact z.o):G:=h
def aEu (h:G:=by
  clear aa;go_wp2_with fail;refine wp_region_any PK ?_;change wpAny _ _ _ _ _ _ _ (World.drew _);refine wt 0 (Oo ie) ?_;refine wt 1 (Oo ie) ?_;refine wt 2 (Oo ie) ?_;refine wt 3 (OM ie 3) ?_;refine wt 5 (Pj c) ?_;refine wt 6 (Pj c) ?_;refine wt 7 (.func (.func 348) #[Pj c] #[]) ?_;refine wt 8 (Pj c) ?_;refine wt 9 (.func (.func 349) #[Pj c] #[]) ?_;exact z.o):G:=h
def aw5 (h:G:=by
  have cI:=hide aK;clear aK;go_wp2_with fail;obtain⟨b1,bx,bi,bF,bC,cG,b4,bT,eg⟩:=rt4 gg.out cR.out bG ij nE (OC f2) (Ol ok) (Ol on) (OB f1);rw[<-bx];exact z.o):G:=h
def aAm (h:G:=by
  have dn:ap.cell? (Ot wr.heap.size 0)=some (OB b.name):=by simp[World.cell?,hblk]
  have bR:ap.cell? (Ot wr.heap.size 1)=some (Ol b.v.k):=by simp[World.cell?,hblk]
  have c7:ap.cell? (Ot wr.heap.size 2)=some (Ol b.v.n):=by simp[World.cell?,hblk]
  have hD:ap.cell? (Ot wr.heap.size 3)=some (OB b.v.s):=by simp[World.cell?,hblk]
  exact z.o):G:=h
def aEv (h:G:=by
  go_simp;refine cm ai ?_;intro e aE al;obtain⟨⟨dD,rfl,qw⟩,ba,ax⟩:=al;have e7:=(kb.drew.next ax);have fS:=ba;have hlt2:=ba.lt;have eG:=(Open.later eo (((Ap.refl c.R fe.heap.size fe).drew).next ax) bS.out);have kI:=(((Ap.refl c.R fe.heap.size fe).drew).next ax);have zh:=qw;obtain⟨gx,gy,hI⟩:=eG.cell;exact z.o):G:=h
def avM (h:G:=by
  clear bc h7 aj h gQ n2 oS ll jM e' nW fH mr;go_enter func48,ntmps48;go_wp2_with fail;refine cm (Om hZ _ ((Below.refl w.heap.size w).alloc O6 _)) ?_;exact z.o):G:=h
def azP (h:G:=by
  rw[<-nW,<-fH] at mr;simp only[<-nW] at mf;rw[mr];have tj:=hide fH;have jo:=((Below.refl w.heap.size w).alloc O6 (.cells #[OC false,OC i,OC b] 112));exact z.o):G:=h
def aCs (h:G:=by
  refine A.out _ _ (fun _=>sE) ?_;clear A K;have tU:O5 (some lb) mb ch dT:=(O5.of ab (O0 rr)).trans fI;have pF:Ms w0 mb af O dT s':=⟨_,_,_,_,rA⟩;have ue:Kp ch dT:=fun b c e D aq=>m'.kp g7 b c e (Kp.of ab b c e D aq) aq;have tV:OV dT (some lb) (some vU):=m9.keep (stays ab xr) Oz;have A1:=rA.lt;exact z.o):G:=h
def ar2 (h:G:=by
  rintro e w1 ⟨rfl,hw⟩;rw[hw];clear hw;go_wp2_with fail;obtain⟨lv,dR,dA,b9,cn⟩:=info_parts ar0;exact z.o):G:=h
def axi (h:G:=by
  go_enter func354,ntmps354;go_wp2_with fail;refine cm dw ?_;rintro e w1 ⟨rfl,rfl⟩;go_wp2_with fail;refine cm il ?_;rintro e w2 ⟨rfl,D⟩;have bL:=D;exact z.o):G:=h
def aAf (h:G:=by
  clear fZ gQ ia;obtain⟨zQ,xW⟩:=xE (V++F);obtain⟨zR,xX⟩:=xE (zQ++G);rw[<-xW,<-xX];have By:zQ.length<=40000:=by rw[xW,List.length_append];omega
  have Ns:zR.length<=60000:=by rw[xX,List.length_append];omega
  have vq:=hide xW;have Hk:=hide xX;clear xW xX;go_enter func78,ntmps78;exact z.o):G:=h
def aqc (h:G:=by
  obtain⟨kj,pI,dK⟩:=eo.cell;obtain⟨cV,uc,lW⟩:=eo.shape;subst lW;exact z.o):G:=h
def ayc (h:G:=by
  go_simp;refine cm (eM.out _ dj) ?_;rintro e w1 ⟨rfl,D⟩;obtain⟨hr1,f',aZ⟩:=ayd bB D;have bM:=hr1;have fB:=f';have sn:=hide aZ;clear aZ;exact z.o):G:=h
def aAs (h:G:=by
  go_wp2_with fail;refine cm ai ?_;rintro e w1 ⟨rfl,D⟩;have qZ:=(Pe hrow D);have ik:w.grownBy w1 (some g):=⟨D.os,D.tape,D.output,D.size,fun j aN _=>D.block j aN⟩;have hcap:N<=cap:=aHb
  have MO:((k:Int) == -1)=false:=by rw[beq_eq_false_iff_ne];omega
  go_wp2_with fail;exact z.o):G:=h
def aok (h:G:=by
  obtain⟨h0,h1,aH,hb,Al⟩:=h.c;have HLEN:=hide ac.r;have qU:=hide Al;exact z.o):G:=h
def aoD (h:G:=by
  go_wp2_with fail;refine cm ai ?_;rintro e w' ⟨rfl,rfl⟩;go_wp2_with fail;exact z.o):G:=h
def aBm (h:G:=by
  rw[bo] at my kP;obtain⟨tx,cD⟩:=xE ((Oy d 0).2.tx);rw[<-cD] at fT;have hx:Hid (∀ X,OD w2 X->OE 195 #[Oo mb,Ol au,OB tx] X fun e w'=>e=OQ (Ol (σ.M.find au tx))/\OD X w'):=fun X ak=>by
   obtain⟨_,_,_,_,ae⟩:=cZ.later ak;exact aeK ae.hh aI.go.ok aI.go.sm (O0 hN) au tx
  exact z.o):G:=h
def aCQ (h:G:=by
  have aK:Wq F d p o e l σ=match F.s (Oy d 0) p l σ with
   | ((bH,.no,b3),σ1)=>if bH.ret then ((bH,.no,b3),σ1) else ((o,e,b3),σ1)
   | r=>r:=by
   unfold Wq
   cases e with
   | stop=>exact absurd rfl aq
   | _=>rfl
  rw[aK]
  rcases aa:F.s (Oy d 0) p l σ with ⟨⟨bH,ay,b3⟩,σ1⟩
  rw[aa] at hw;exact z.o):G:=h
def aCK (h:G:=by
  rw[<-eI];have zN:=hide a1;rw[<-eI] at zN;have ik:=hide b5;have om:=hide sv;have nA:=hide d7;have Jg:=yd;clear da hr2 b6 bV br b0 b5 sv d7 ag rz bY bq a1 eI dK al yd Jg E;go_enter func300,ntmps300;go_wp2_with fail;rw[<-bu.out,<-d9.out,<-d3.out,<-FD.out,<-f3.out];exact z.o):G:=h
def aCP (h:G:=by
  have ag:=h.q O8;have h1:=ag.iv.opn p.scope (-1) (own d);have U:=h1.iv.dec (h.er.2.up h1.ex.ob) σ.top d.2.tx 0;have hK:=h1.trans U;have kv:Po { p with scope:=σ.top } ((σ.opn p.scope (-1) (own d)).dec σ.top d.2.tx 0 v):=by
   refine Po.up (σ:=σ.opn p.scope (-1) (own d)) ?_ U.ex;exact aDT
  exact z.o):G:=h
def aB4 (h:G:=by
  obtain⟨w2,bu⟩:=xH (w.alloc (.cells #[Ol 0,Ol 0,PN] 65));have aF:OD w w2:=by rw[bu.out];exact PO
  obtain⟨aU,b0⟩:=xE w.heap.size;have hr2:w2.heap[aU]? = some (O1 #[Ol 0,Ol 0,PN] 65):=by rw[bu.out,b0];exact OA _ _
  have cL:w.heap.size<=aU:=Ou;exact z.o):G:=h
def aEw (h:G:=by
  have jx:=Yk;have dB:=hide dB;have HP:=hide HP
  go_enter_defers func34,ntmps34
  go_wp2_with fail;refine cm dB.out ?_;rintro e w2 ⟨c,rfl,dK,D2,ba,aF⟩;have ai:=(HP.out c w2 dK ba);have FM:=hide D2;clear dK D2;go_wp2_with fail;refine cm ai ?_;intro e ap al;exact z.o):G:=h
def aDa (h:G:=by
  refine uh 3 (Ol au) (ab) ?_;refine uh 4 (OB nm) (ab) ?_;refine uk3 5 bJ.out ab ?_;refine P5 6 fun K A=>?_;go_simp;refine cm (Om d4 _ ab) ?_;rintro e ap ⟨rfl,kU,cS⟩;refine ko A ?_;clear A K;have cQ:=((Py.of aF (O0 bG)).trans ((Py.of ab (O0 di)).trans cS));exact z.o):G:=h
def axn (h:G:=by
  have bG:=ae.lt;obtain⟨w2,bu⟩:=xH ((w.alloc (.cells #[Ol au,Ol aG,OC false,.pointer aB] 73)).alloc (.cells #[Ol 0,Ol 0,PN] 65));exact z.o):G:=h
def aC6 (h:G:=by
  simp only[Value.slice.injEq] at av;obtain⟨rfl,_,rfl⟩:=av;have bo:k<a6.length:=Ou;have oP:=(Uo.get _ _ Cz k aQ bo).kp jq;obtain⟨dz,_,c1,_⟩:=oP.cells;have h8:(k:Int)<(c9.length:Int):=Ou;obtain⟨x,ae⟩:=xE ((a6[k]).2.tx);rw[<-ae] at c1;exact z.o):G:=h
def aEx (h:G:=by
  replace nI:=(Qb.later (fun b D _=>ax.block b D.2 (by have h1:=Om bS;have U:=D.1;omega)) _ _ nI)
  have ai:=(Yf ap.heap.size tb vb fy az dQ);go_wp2_with fail;refine cm ai ?_;rintro e aE ⟨rfl,bv,f'⟩;have e7:=(rM.trans ((Ap.of f').mono jm.size));exact z.o):G:=h
def aBo (h:G:=by
  rcases aa:F.v (Oy d 0) ⟨au,aG,st⟩ σ with ⟨⟨v1,ay⟩,σ1⟩
  have bJ:=hide (fun X (aJ:Ms w0 mb af O X σ) (ak:O5 none mb w2 X)=>h1 X ce aB aJ (m7.kp ak.UD));rw[aa] at bJ;rw[<-dc] at bJ;obtain⟨rs,bB⟩:=xH (agP ((v1,ay),σ1));rw[<-bB.out];clear aa;exact z.o):G:=h
def asV (h:G:=by
  have cT:k=l.length:=Ou;subst cT;have h8:¬ (l.length:Int)<(l.length:Int):=Ou;exact z.o):G:=h
def arV (h:G:=by
  go_enter func36,ntmps36;go_wp2_with fail;refine cm ai ?_;rintro e w1 ⟨rfl,jw,ha1⟩;exact z.o):G:=h
def aCF (h:G:=by
  obtain⟨i0,dR,dA,b9,cn⟩:=info_parts info3;obtain⟨vC,vJ⟩:=ae.hh.at_ 6 _ rfl;have bG:=ae.lt;obtain⟨aB,iS,n5⟩:=OX ae.ow;have k5:=ae.ow;have CM:=hide iZ;obtain⟨n,dB⟩:=xH σ.QF.length;rw[<-dB.out] at k5 hl n5;clear iZ;subst n5;exact z.o):G:=h
def atG (h:G:=by
  go_simp;refine A _ _ ?_;clear A K;refine QV 6 fun K A=>?_;go_simp;refine cm jD ?_;exact z.o):G:=h
def aye (h:G:=by
  go_simp;refine cm (PV 14 Ox (.slice (some (Ot aE.heap.size 0)) 1 1) (aE.alloc (.cells #[Oo cA] 22)) ⟨_,_,_,rfl⟩) ?_;exact z.o):G:=h
def asq (h:G:=by
  refine up 4 q 0 ab ?_;refine up 5 q 0 ab ?_;refine up 6 q 1 ab ?_;refine uk 7 fi.out ab ?_;exact z.o):G:=h
def aEy (h:G:=by
  refine XY 11 fun K A=>?_;go_simp;clear cH bU cg eE eu rlt;obtain⟨gG,iK⟩:=xE ((((w1.setCell (Ot (w.heap.size+1) 0) (OB x.tx)).setCell (Ot (w.heap.size+1) 1) (Ol x.kd)).setCell (Ot (w.heap.size+1) 2) (Ol x.parts)).setCell (Ot (w.heap.size+1) 3) (Ol x.str));exact z.o):G:=h
def arX (h:G:=by
  obtain⟨h0,h1,aH,hb,hl⟩:=h.c;have e2:OD w (w.alloc (.cells #[OB nm] 9)):=PO;exact z.o):G:=h
def axz (h:G:=by
  have aF:OD w w2:=by rw[da];exact PO.alloc O8 _
  obtain⟨bf,bV⟩:=xE w.heap.size;obtain⟨aU,b0⟩:=xE (w.heap.size+1);exact z.o):G:=h
def arG (h:G:=by
  have ai:=(Om mf oa hT);rw[<-ls];refine cm ai ?_;rintro e dG ⟨rfl,eU⟩;exact z.o):G:=h
def ayf (h:G:=by
  rw[aa] at ai k6;simp only[PG] at k6;clear aa;go_wp2_with fail;refine cm ai.out ?_;intro e w' al;obtain⟨rfl,ax⟩:=al;exact z.o):G:=h
def av1 (h:G:=by
  obtain⟨g,cap,av,hcell⟩:=Xf hrow (by rw[HLEN.out];omega)
  simp only[Value.slice.injEq] at av;obtain⟨rfl,_,rfl⟩:=av;exact z.o):G:=h
def awN (h:G:=by
  have d9:=hide (stays cC bj.out);have hT:=(aF.trans (cC.mono aF.size));obtain⟨dn,bR,c7,l1,l2,l3,nl⟩:=O7 d9.out;exact z.o):G:=h
def asr (h:G:=by
  go_wp2_with fail;rw[<-bu.out,<-b0,<-bV];clear bV b0;refine TI 8 fun ab=>?_;exact z.o):G:=h
def aBE (h:G:=by
  have y6:=aD;have dF:=hide (stays iL dV.out);have ve:=(jr.later iL);have fl:=(cY.trans (O5.of (L:=none) iL (O0 ea)));obtain⟨v9,lX⟩:=xE ro.1;rw[<-lX];have k9:=hide lX;clear lX;obtain⟨ho,gW,gC,j8,j9,j',ka⟩:=O7 dF.out;exact z.o):G:=h
def aCA (h:G:=by
  refine TI 6 fun ab=>?_;refine uk 0 mP.out ab ?_;refine up 1 g i7 ab ?_;refine up 2 g (i7+2) ab ?_;refine uk 3 f4.out ab ?_;refine up 4 bf 2 ab ?_;refine uk 5 (ei.out.2.2.1) ab ?_;refine P5 6 fun K A=>?_;go_simp;refine cm (Om dF _ ab) ?_;exact z.o):G:=h
def aEz (h:G:=by
  rw[bW.out] at ai;go_wp2_with fail;refine cm ai ?_;intro e bA al;obtain⟨⟨v4,rfl,nr,rfl,oX⟩,ba,ax⟩:=al;have tc:=(jm.next ax);have qW:=hide (aaE jE jm.size ax bS.out oX);have kG:=(KV.later jE ax bS.out);have hlt2:=ba.lt;exact z.o):G:=h
def atH (h:G:=by
  have jx:=RN c.R 224;intro w d i r ac aR h;have e1:=(Ap.refl c.R w.heap.size w);exact z.o):G:=h
def axc (h:G:=by
  go_wp2_with fail;obtain⟨b1,bx,bi,bF,bC,cG,b4,bT⟩:=rt3 dV.out cR.out bG cY ha (Ol 0) (Ol 0) (PN);rw[<-bx];exact z.o):G:=h
