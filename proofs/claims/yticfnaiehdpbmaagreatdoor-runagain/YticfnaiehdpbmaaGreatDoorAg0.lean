import Derived.Test.YticfnaiehdpbmaaGreatDoorProg
import Derived.WalkKit
import Derived.Deep.LoopGhost
import Derived.Deep.RegionWith
set_option maxRecDepth 100000
set_option maxHeartbeats 8000000
set_option linter.unusedVariables false
namespace Go.Proofs.YticfnaiehdpbmaaGreatDoor
open Go.RowKit Go.Proofs.Tryz
structure Kk (C:Prop):Prop where
 o:C
theorem kk (C:Prop)(k:C:=by exact fun h=>h):Kk C:=⟨k⟩
section
variable {G:Prop}
theorem zta (h:G:=by
  have Kf:=R9.agH;have Ka:=R9.aoR;have Jz:=R9.aoS;have nY:=R9.aoT;have Hu:=R9.aoU;have Js:=R9.abO;have dx:0<w.heap.size:=by
   exact aBl
  obtain⟨fb,f6⟩:=xE ((w.alloc (.cells #[NM T 0] 123)).alloc (.cells #[NM 13 123,NM w.heap.size 0,.int .u64 150] 130));have mm:((w.alloc (.cells #[NM T 0] 123)).alloc (.cells #[NM 13 123,NM w.heap.size 0,.int .u64 150] 130)).cell? (Nv 0 0)=some (.iface 215 (.agg #[NM 13 31])):=by
   exact aBr
  have aw:fb.cell? (Nv w.heap.size 0)=some (NM T 0):=by
   exact aBq
  exact bP.o):G:=h
theorem ztb (h:G:=by
  have aE:NJ w w2:=by rw[bu.out];exact OM.alloc Oq _
  obtain⟨bc,bU⟩:=xE w.heap.size;obtain⟨aR,b1⟩:=xE (w.heap.size+1);have bK:w2.heap[bc]? = some (Og #[Nr aq,Nr aF,NI st,.pointer aC] 73):=by rw[bu.out,bU];exact alloc_old (NG _ _)
  exact bP.o):G:=h
theorem ztc (h:G:=by
  refine uh 3 (Nr s) (ab) ?_;refine uh 4 (ND nm) (ab) ?_;refine uk3 5 gc.out ab ?_;refine O0 6 fun K A=>?_;go_simp;refine cm (Ns l6 _ ab) ?_;rintro e ao ⟨rfl,kS,cQ⟩;refine ko A ?_;clear A K;have e8:=(ej.later ab).heap kS cQ;rw[<-iO.out] at e8;have eV:Ms w0 mb af aa ao σ1:=⟨_,_,_,_,e8⟩;have sE:=(Om.of (L:=none) ab (Oi dc)).trans (Om.ofT cQ);have lG:=hide (sE.keep fa.out NH);have cV:=(da.trans sE);have gh:=eV.lt;exact bP.o):G:=h
theorem ztd (h:G:=by
  have fa:=hide eT;have da:=(Om.of (L:=none) aE (Oi bI));obtain⟨aS,aB,az,aL,ac⟩:=aK;have ej:=(ac.later aE);have dc:=ej.lt;have l6:=hide (fun X (aj:NJ w2 X)=>adn (ej.later aj).hh aJ.go.sm Nw s nm v);obtain⟨σ1,iO⟩:=xH ({ σ with M:=(σ.M.write s nm v).2 }:St);have b6:Sz (N+1) σ1:=by rw[iO.out];exact aJ.heap (Nat.le_succ _) (aJ.go.write s nm v) (Xh _ _ _ _)
  rw[<-iO.out];exact bP.o):G:=h
theorem zte (h:G:=by
  obtain⟨el,l5⟩:=xH (w.alloc (.cells #[Nr n.k,Nr n.n,ND n.s] 65));have Ij:g<el.heap.size:=by rw[l5.out];exact hg
  rw[show w.alloc (vO n)=el by rw[l5.out]] at ah d3 pB fk hrow' k3 uH di eW;clear dP ay h ap bC mu ml hg;go_enter func128,ntmps128;go_wp2_with fail;rw[<-l5.out];refine cm ah ?_;rintro e w' ⟨rfl,hw⟩;rw[hw];clear hw;go_wp2_with fail;exact bP.o):G:=h
theorem ztf (h:G:=by
  refine A.out _ _ eN (fun _=>?_);clear A K;refine wg 6 (.tuple #[.nilFunc,NI false]) rfl (Or.inl ⟨by kernel_rfl,fun W a6=>by have hh:=dV.out W a6;go_simp⟩) eN ?_
  refine wh 7 (.tuple #[.nilFunc,NI false]) eN ?_;refine wh 8 .nilFunc eN ?_;refine wh 9 (NI false) eN ?_;refine wh 10 .nilFunc eN ?_;refine wh 11 (NI false) eN ?_;refine wpAnyH_done OJ ?_ _;go_simp;exact bP.o):G:=h
theorem ztg (h:G:=by
  have Dv:Lists bf bH (w.alloc O35):=dz.later OM;have dk:=hide U;have dV:=hide hl;clear U hl;go_enter func68,ntmps68;go_wp2_with fail;refine(abn _).mono ?_;rintro av w1 ⟨x,rfl,⟨dZ,c1,rfl,KS,hr⟩,hbel⟩;have uD:=hide (hr w1 P8);clear hr;go_wp2_with fail;refine cm (Ns uD _) ?_;rw[dV.out];rintro bC w2 ⟨rfl,rfl⟩;go_wp2_with fail;exact bP.o):G:=h
theorem zth (h:G:=by
  have fE:Hid (bf.heap[aR]? = some (Og #[Nr 0,Nr 0,OG] 65)):=by show _=_;rw[gM,heap_setCell_other _ _ _ _ (Ne.symm d5)];exact Ns bj
  have wX:=(da.newT kW (fun b D=>by rw[gM];exact heap_setCell_other _ _ _ _ (show b≠bc by omega)))
  have p0:Kp w2 bf:=fun b c e D au=>kW.rest b c e D (by rcases au with rfl|rfl <;> decide);exact bP.o):G:=h
theorem zti (h:G:=by
  have dj:=(aK.later aE);have da:=(Om.of (L:=none) aE (Oi bI));exact bP.o):G:=h
theorem ztj (h:G:=by
  refine wh 4 (Ov c) bD.drew ?_;refine WG 5 fun K A=>?_;go_simp;refine cm (QV c _ i d bD.drew) ?_;rintro e fy ⟨rfl,jI⟩;have eN:=(bD.drew.later jI);exact bP.o):G:=h
theorem ztk (h:G:=by
  obtain⟨w2,bu⟩:=xH (w.alloc (.cells #[Nr v.k,Nr v.n,ND v.s] 65));obtain⟨vb,aN⟩:=xE w.heap.size;have aE:NJ w w2:=by rw[bu.out];exact OM
  exact bP.o):G:=h
theorem ztl (h:G:=by
  refine uz 11 ev ?_;refine O0 12 fun K A=>?_;go_simp;refine ko A ?_;clear A K;exact bP.o):G:=h
theorem ztm (h:G:=by
  have pw:=gY.Xd bb NH;have bx:=((da.trans fc).newT bb (TB cI.out _ _ _ _)).trans (Om.of (L:=L) ed (Oi pw.lt));have bv:=pw.later ed;have mW:=(aI.O6 bb NH).later ed;have xr:=(gD.Rk bb).later ed;rw[<-bz] at d7 bx bv mW xr;obtain⟨bi,aY,aX,cu,_,_⟩:=cells4 d7;exact bP.o):G:=h
theorem ztn (h:G:=by
  unfold tkV at ah;go_wp2_with fail;refine cm ah ?_;rintro e wt ⟨rfl,tM⟩;have qN:=(rH.next (Ap.of tM));have p8:=(qX.later tM);have nW:=(tM.block bf.heap.size Oq).trans ti.out;obtain⟨ce,bV,dB,ir,JB,Mw⟩:=c160 nW;have f7:=p8.c1;have g7:=p8.fz;have dP:=p8.YV;exact bP.o):G:=h
theorem zto (h:G:=by
  have dw:=hide au;clear au;go_enter func143,ntmps143;go_wp2_with fail;refine(Zn _).mono ?_;rintro av w1 ⟨x,rfl,ac,hbel⟩;obtain⟨ai,aG⟩:=YJ hbel;have lV:=hbel;go_wp2_with fail;have hpast:=Xm s k x Pz w1 (by unfold maxLen;omega) Nw ac
  rw[dw.out] at hpast;refine hpast.mono ?_;exact bP.o):G:=h
theorem ztp (h:G:=by
  obtain⟨aq,aF,st⟩:=p;obtain⟨w2,bu⟩:=xH ((w.alloc (.cells #[Nr aq,Nr aF,NI st,.pointer aC] 73)).alloc (.cells #[Nr 0,Nr 0,OG] 65));exact bP.o):G:=h
theorem ztq (h:G:=by
  have gL:t.count=1+Tr.counts t.kids:=by cases t with|mk kd tx gy ks=>exact count_mk _ _ _ _
  exact bP.o):G:=h
theorem ztr (h:G:=by
  have aQ:6<w.heap.size:=(Array.getElem?_eq_some_iff.1 hg).1;have dw:=hide au;have gU:=hide hg;have dE:=hide aA;have fs:=hide hw;clear hg aA au hw;go_enter func141,ntmps141;go_wp2_with fail;refine(aqM _).mono ?_;rintro av w1 ⟨x,rfl,ac,hbel⟩;obtain⟨ai,aG⟩:=YJ hbel;exact bP.o):G:=h
theorem zts (h:G:=by
  have rH:=(o'.alloc o'.size (.cells #[OG,Nr 0,Nr 0,Nr 0] 275));have qX:=(l3.alloc (.cells #[OG,Nr 0,Nr 0,Nr 0] 275));exact bP.o):G:=h
theorem ztt (h:G:=by
  go_simp;refine A.out _ _ (fun _=>OM.drew) ?_;clear A K;refine O0 8 fun K A=>?_;go_simp;exact bP.o):G:=h
theorem ztu (h:G:=by
  obtain⟨t0,pf⟩:=xH (.mk 12 NC 0 [b]:Tr);rw[<-pf.out] at cO;have jA:Hid (t0.kids.length=1):=by
   show _=_
   rw[pf.out];rfl
  obtain⟨aW,hz,BA,gK,ek⟩:=cO.opens;have iG:aW=fq.heap.size+1:=by simpa[Nu] using gK.symm
  rw[iG] at ek;exact bP.o):G:=h
theorem ztv (h:G:=by
  have rG:=(wS.next aw);obtain⟨bc,rfl,rm⟩:=(EV.mono fl wS.size).nv;have ah:=(OT 12 NC (.slice (some (Nv fq.heap.size 0)) 1 1) (fq.alloc (.cells #[Nu bc] 22)) ⟨_,_,_,rfl⟩);go_wp2_with fail;refine cm ah ?_;rintro e BL ⟨rfl,rfl⟩;exact bP.o):G:=h
theorem ztw (h:G:=by
  rw[<-kG.out] at fa;rw[<-pE] at fT fa;have r0:=hide (cells4 (stays cn eG.out));have v6:=lt_of_heap (stays cn eG.out);have sJ:q<ea.heap.size:=by rw[bo.out];exact sC.cells.1
  have sF:=cell_lt fT;have uw:=hide jF;have n2:=hide fT;exact bP.o):G:=h
theorem ztx (h:G:=by
  rw[tj.out] at ah;simp only[aqT,anR,Option.isSome] at ah;go_wp2_with fail;refine cm ah ?_;rintro e bf ⟨rfl,nJ⟩;exact bP.o):G:=h
theorem zty (h:G:=by
  have oA:fb.frozen? (Nv T 0)=false:=by rw[f6,World.frozen?_alloc_old _ _ _ Qa,World.frozen?_alloc_old _ _ _ Qa];exact ak
  have b6:fb.heap.size=w.heap.size+2:=by rw[f6];simp
  have jq:NJ w fb:=by rw[f6];exact OM.alloc Oq _
  exact bP.o):G:=h
theorem ztz (h:G:=by
  obtain⟨em,bm⟩:=xE (w.heap.size+1+1);obtain⟨aR,b1⟩:=xE (w.heap.size+1+1+1);have b0:w2.heap[dl]? = some (Og #[Nu mb] 62):=by rw[de,b4];exact alloc_old (alloc_old (alloc_old (NG _ _)))
  exact bP.o):G:=h
theorem aBI (h:G:=by
  have GC:=a8;have wS:=(fA.next aw);have ah:=(Qc ak hN ea d i0 _ rfl (by rw[D];nofun) GC)
  rw[D] at ah;go_wp2_with fail;refine cm ah ?_;intro e fq al;obtain⟨⟨vb,rfl,fl⟩,a8,aw⟩:=al;exact bP.o):G:=h
theorem aBJ (h:G:=by
  refine wh 0 (Ov c) bD.drew ?_;refine wh 1 (Ov c) bD.drew ?_;refine wh 2 (NM c.R 5) bD.drew ?_;refine wg 3 (.map (some c.mV)) rfl (Or.inl ⟨by kernel_rfl,fun W a6=>by have hh:=OU.c5 a6;go_simp⟩) bD.drew ?_
  exact bP.o):G:=h
theorem azX (h:G:=by
  refine cm (Ns hB w2 fd) ?_;rintro e k2 ⟨rfl,iT⟩;rw[iT];clear bU b1 iT;obtain⟨aW,p1,cr,cL,gQ,dY⟩:=cells4 dF.out;have wJ:=gQ 2;clear gQ;go_wp2_with fail;have lP:mb<=bc:=Nw;exact bP.o):G:=h
theorem aBK (h:G:=by
  have aQ:=h.YV;have eO:Hid (∀ (w:Ny),OU c w i d->NK 221 #[Ov c] w fun e w'=>e=NU (ND s)/\NJ w w'):=fun w h=>by rw[ae];exact QV c w i d h
  clear h ae aM;go_enter func312,ntmps312;exact bP.o):G:=h
theorem aAi (h:G:=by
  simp only[Value.slice.injEq] at aO;obtain⟨rfl,hdrop,rfl⟩:=aO;clear hdrop;have Il:g<w.heap.size+1:=Nw;have Ax:g<w.heap.size+1+1:=Nw;have Im:g<w.heap.size+1+1+1:=Nw;exact bP.o):G:=h
theorem ay3 (h:G:=by
  have d7:=stays ed (YC dG.out (Nr 0) (Nr 0) (OG));have pw:=gY.Xd bb NH;have bx:=(fc.newT bb (RD cI.out _ _ _)).trans (Om.of (L:=none) ed (Oi pw.lt));have bv:=pw.later ed;exact bP.o):G:=h
theorem ayo (h:G:=by
  go_enter func267,ntmps267;go_wp2_with fail;refine cm ba ?_;rintro e w1 ⟨rfl,D⟩;have cp:=((Below.refl _ w).alloc OH _).trans (D.mono Oq);obtain⟨q,r,dK,ez,U⟩:=dV.out w1 cp;exact bP.o):G:=h
theorem aBL (h:G:=by
  have dV:Hid (∀ W:Ny,OU c W i d->(Instr.lookup 231 (.map (some c.mV)) (ND (fx c.l i)) true).run prog W=.ok (.tuple #[.nilFunc,NI false]) W):=fun W a6=>by
   exact aBm
  exact bP.o):G:=h
theorem ayM (h:G:=by
  have gc:=hide (cells3 eT);have h7:=lt_of_heap eT;clear eT;go_enter func197,ntmps197;go_wp2_with fail;rw[<-bu.out,<-aN];clear aN;refine Rj 6 fun ab=>?_;exact bP.o):G:=h
theorem azn (h:G:=by
  have lP:mb<=bc:=by have:=Ns r6;omega
  have lk:=U6 (j:=0) fi.out lP (Nr eZ);obtain⟨bB,eL⟩:=xE (ao.setCell (Nv bc 0) (Nr eZ));exact bP.o):G:=h
theorem aBM (h:G:=by
  have bP:=kk (∀{G}(h:G:=by
  exact z.o),G);exact ztf):G:=h
theorem aBN (h:G:=by
  have ds:w.heap.size<=bc:=Nw;have cH:w.heap.size<=aR:=Nw;have d5:bc≠aR:=Nw;have cS:=hd.kp (Kp.of aE);have bP:=kk (∀{G}(h:G:=by
  have dF:=hide bK;have ga:=hide (cells4 bK);have bj:=hide hr2;have cI:=hide cH;have dc:=dj.lt;have hpl2:=lt_of_heap bK;have dL:=cS.cells.1;exact z.o),G);exact zti):G:=h
theorem aBO (h:G:=by
  have wU:=(qN.alloc qN.size (.cells #[Nr (Ox c.l i).kd,ND (Ox c.l i).tx,Nr (Ox c.l i).n,Nr ((Ox c.l i).pl:Int)] 144));have Cu:=(p8.alloc (.cells #[Nr (Ox c.l i).kd,ND (Ox c.l i).tx,Nr (Ox c.l i).n,Nr ((Ox c.l i).pl:Int)] 144));exact z.o):G:=h
theorem aBP (h:G:=by
  refine wh 7 (.tuple #[.agg #[ND x.tx,Nr x.kd,Nr x.parts,Nr x.str],NI true]) bJ ?_;refine wh 8 (.agg #[ND x.tx,Nr x.kd,Nr x.parts,Nr x.str]) bJ ?_;refine wh 9 (NI true) bJ ?_;exact z.o):G:=h
theorem aBQ (h:G:=by
  go_wp2_with fail;obtain⟨b3,bz,bb,bx,bv,bi,aY,aX,cu⟩:=rt4 dG.out cI.out bI fc aK (NI jR.ret) (Nr jR.v.k) (Nr jR.v.n) (ND jR.v.s);rw[<-bz];exact z.o):G:=h
theorem avu (h:G:=by
  rintro e aD ⟨⟨ev,rfl,aI⟩,aK,ak⟩;refine ko A ?_;clear A K;exact z.o):G:=h
theorem avv (h:G:=by
  go_wp2_with fail;rw[<-bu.out,<-b1,<-bU];clear bU b1;exact z.o):G:=h
theorem aBR (h:G:=by
  have AX:p<jg.heap.size:=by rw[gN] at AY;simpa using AY
  clear xj;go_wp2_with fail;rw[<-gN];clear gN hp pi tB Dd AX;exact z.o):G:=h
theorem aBS (h:G:=by
  refine O0 14 fun K A=>?_;go_simp;refine ko A ?_;clear A K;refine uz 15 ev ?_;refine QX ?_ _;go_simp;exact z.o):G:=h
theorem VT (h:G:=by
  have bI:=aK.lt;have bP:=kk (∀{G}(h:G:=by
  have bP:=kk (∀{G}(h:G:=by
  have hr2:w2.heap[aR]? = some (Og #[Nr 0,Nr 0,OG] 65):=by
   exact amx
  exact aBN),G);exact ztb),G);exact ztp):G:=h
theorem zsb (h:G:=by
  have bI:=aK.lt;have bP:=kk (∀{G}(h:G:=by
  have bP:=kk (∀{G}(h:G:=by
  have hr2:w2.heap[aR]? = some (Og #[Nr 0,Nr 0,OG] 65):=by
   exact amx
  have ds:w.heap.size<=bc:=Nw;have cH:w.heap.size<=aR:=Nw;have d5:bc≠aR:=Nw;exact z.o),G);exact ztb),G);exact ztp):G:=h
theorem zsc (h:G:=by
  exact aBN):G:=h
theorem zsd (h:G:=by
  have bP:=kk (∀{G}(h:G:=by
  exact z.o),G);exact ztb):G:=h
theorem zse (h:G:=by
  have aE:NJ w w2:=by rw[bu.out];exact OM.alloc Oq _
  obtain⟨bc,bU⟩:=xE w.heap.size;obtain⟨aR,b1⟩:=xE (w.heap.size+1);exact z.o):G:=h
theorem zsf (h:G:=by
  have cS:=hd.kp (Kp.of aE);have bP:=kk (∀{G}(h:G:=by
  have dF:=hide bK;have ga:=hide (cells4 bK);exact z.o),G);exact zti):G:=h
theorem zsg (h:G:=by
  have ds:w.heap.size<=bc:=Nw;have cH:w.heap.size<=aR:=Nw;have d5:bc≠aR:=Nw;exact z.o):G:=h
theorem zsh (h:G:=by
  clear h;go_enter func347,ntmps347;go_wp2_with fail;refine wp_region_held (S:=fun W=>OU c W i d) OJ ?_;change wpAnyH _ _ _ _ _ _ _ _ (World.drew _);have bP:=kk (∀{G}(h:G:=by
  have bP:=kk (∀{G}(h:G:=by
  have lx:=(fA.next (Ap.of (P8.drew.trans jI)));have bP:=kk (∀{G}(h:G:=by
  have ah:=(U9 c 0 fy i d eN);have bP:=kk (∀{G}(h:G:=by
  have o':=(lx.next (Ap.of nJ));have l3:=(eN.later nJ);have bP:=kk (∀{G}(h:G:=by
  have pJ:(bf.alloc (.cells #[OG,Nr 0,Nr 0,Nr 0] 275)).heap[bf.heap.size]? = some (.cells #[OG,Nr 0,Nr 0,Nr 0] 275):=NG _ _;have ti:=hide pJ;clear pJ;have ah:=(QF c (bf.alloc (.cells #[OG,Nr 0,Nr 0,Nr 0] 275)) i d qX);have bP:=kk (∀{G}(h:G:=by
  clear nW;exact aBO),G);exact ztn),G);exact zts),G);exact ztx),G);exact ztf),G);exact ztj),G);exact aBJ):G:=h
theorem zsi (h:G:=by
  have i1:=hide h.base.size;obtain⟨ud,d2,dH,b6,cq⟩:=info_parts info22;have bD:=h;have fA:=(Ap.refl c.R w.heap.size w);have bS:=hide h.YV;clear h;go_enter func154,ntmps154;have ah:=(Oz c ZL w i d bD NH);rw[aV] at ah;go_wp2_with fail;refine cm ah ?_;intro e ea al;obtain⟨⟨va,rfl,rfl⟩,a8,aw⟩:=al;have bP:=kk (∀{G}(h:G:=by
  have uT:=a8;have bP:=kk (∀{G}(h:G:=by
  obtain⟨cO,cP,c'⟩:=made uT rG (NT.cons rm NT.nil) (by simp[maxLen]) #[Nu bc] rfl 1 rfl 12 NC (fq.heap.size+1) rfl;have bP:=kk (∀{G}(h:G:=by
  exact z.o),G);exact ztu),G);exact ztv),G);exact aBI):G:=h
theorem zsj (h:G:=by
  have bI:=aK.lt;have bP:=kk (∀{G}(h:G:=by
  have eT:w2.heap[vb]? = some (XI v):=by rw[bu.out,aN];exact NG _ _
  have bP:=kk (∀{G}(h:G:=by
  rw[ai] at l6;clear ai;have bP:=kk (∀{G}(h:G:=by
  refine up 0 mb 0 ab ?_;refine up 1 mb 0 ab ?_;refine up 2 mb 0 ab ?_;have bP:=kk (∀{G}(h:G:=by
  exact z.o),G);exact ztc),G);exact ayM),G);exact ztd),G);exact ztk):G:=h
theorem zsk (h:G:=by
  have ds:w.heap.size<=bc:=Nw;have cH:w.heap.size<=aR:=Nw;exact z.o):G:=h
theorem zsl (h:G:=by
  rw[<-rt] at U ⊢;obtain⟨w2,de⟩:=xE ((((w.alloc (.cells #[Nu mb] 62)).alloc (.cells #[Nr aq,Nr aF,NI st,.pointer aC] 73)).alloc (.cells #[.slice cT dC dO] 311)).alloc (.cells #[Nr 0,Nr 0,OG] 65));have aE:NJ w w2:=by rw[de];exact((OM.alloc Oq _).alloc Qa _).alloc Qa _
  obtain⟨dl,b4⟩:=xE w.heap.size;obtain⟨bc,bU⟩:=xE (w.heap.size+1);have bP:=kk (∀{G}(h:G:=by
  have sk:w2.heap[bc]? = some (Og #[Nr aq,Nr aF,NI st,.pointer aC] 73):=by
   exact aEq
  have d1:w2.heap[em]? = some (Og #[.slice cT dC dO] 311):=by
   exact aEl
  have hr2:w2.heap[aR]? = some (Og #[Nr 0,Nr 0,OG] 65):=by
   exact aEk
  have cH:w.heap.size<=aR:=Nw;have ds:w.heap.size<=bc:=Nw;have d5:bc≠aR:=Nw;have eM:=ac.later aE;have bj:=hide hr2;have da:=(Om.of (L:=none) aE (Oi bI));have dj:Ms w0 mb af aa w2 σ:=⟨_,_,_,_,eM⟩;have bu:=hide de;have cI:=hide cH;have f0:=hide b4;have Fd:=hide bU;have ef:=hide bm;have d8:=hide b1;obtain⟨q,ag⟩:=xE c.p;exact z.o),G);exact ztz):G:=h
theorem zsm (h:G:=by
  have HV := @run_callFunc_extern prog 62 _ (fun args => ReflectliteValue.unpack (args.getD 0 (.tuple #[]))) func62 OJ OJ OJ OJ; have Lh := @run_callFunc_extern prog 63 _ (ReflectliteValue.methodAny (ReflectliteValue.valueError "reflectlite.Value.Type" 0) (fun t _ _ _ => ReflectliteType.toType t)) func63 OJ OJ OJ OJ; have Li := @run_callFunc_extern prog 64 _ (ReflectliteValue.method (ReflectliteValue.valueError "reflectlite.Value.IsNil" 0) ReflectliteValue.isNil) func64 OJ OJ OJ OJ
  have Ll := @run_callFunc_extern prog 371 _ (ReflectliteType.abiMethod fun t => do pure (.int .u8 (<- Rtype.kind t))) func371 OJ OJ OJ OJ; have Lb := @run_callFunc_extern prog 385 _ (ReflectliteType.method ReflectliteType.elem) func385 OJ OJ OJ OJ; have Lc := @run_callFunc_extern prog 386 _ (ReflectliteType.relation "Implements" ReflectliteType.implements_) func386 OJ OJ OJ OJ; have MR := R9.awR; have MP := R9.awS; have MQ := R9.awT; exact z.o):G:=h
theorem zsn (h:G:=by
  have dc:=dj.lt;have hpl2:=lt_of_heap bK;have dL:=cS.cells.1;exact z.o):G:=h
theorem zso (h:G:=by
  obtain⟨aC,kG⟩:=xH (LA L);rw[<-kG.out];have bI:=aK.lt;obtain⟨aq,aF,st⟩:=p;obtain⟨w2,bu⟩:=xH ((w.alloc (.cells #[Nr aq,Nr aF,NI st,.pointer aC] 73)).alloc (.cells #[NI false,Nr 0,Nr 0,OG] 67));exact z.o):G:=h
theorem zsp (h:G:=by
  have bP:=kk (∀{G}(h:G:=by
  have cJ:t.kids.length<=20000:=by have:=Rx t.kids;omega
  obtain⟨ei,ip⟩:=xE (w.alloc (.cells #[NI s,NI i,NI b] 112));have hK:NJ w ei:=by rw[ip];exact OM
  have km:WA w.heap.size s i b ei:=by rw[ip];exact WA.new _ _ _ _
  have vQ:=h.later hK;obtain⟨eY,c0,c1,u,c3,U⟩:=h.cells;rw[bn] at c0;exact z.o),G);exact ztq):G:=h
theorem zsq (h:G:=by
  have d3:=hide hd;clear hd;have bP:=kk (∀{G}(h:G:=by
  refine(Zn _).mono ?_;rintro ey ao ⟨jg,rfl,⟨fO,c3,rfl,KT,cQ⟩,sx⟩;have cV:=hide (cQ ao P8);have s0:=(hbel.trans (sx.mono hbel.size));clear cQ;go_wp2_with fail;refine cm (Ns cV _) ?_;rw[d3.out];rintro hE bB ⟨rfl,rfl⟩;go_wp2_with fail;exact z.o),G);exact ztg):G:=h
theorem zsr (h:G:=by
  obtain⟨aq,aF,st⟩:=p;obtain⟨w2,bu⟩:=xH (w.alloc (.cells #[Nr aq,Nr aF,NI st,.pointer aC] 73));have aE:NJ w w2:=by rw[bu.out];exact OM
  obtain⟨bc,bU⟩:=xE w.heap.size;have bK:w2.heap[bc]? = some (Og #[Nr aq,Nr aF,NI st,.pointer aC] 73):=by rw[bu.out,bU];exact NG _ _
  exact z.o):G:=h
theorem zss (h:G:=by
  have Lj := @run_callFunc_extern prog 135 _ ReflectliteType.typeOf func135 OJ OJ OJ OJ; have La := @run_callFunc_extern prog 383 _ (ReflectliteType.relation "AssignableTo" ReflectliteType.assignableTo) func383 OJ OJ OJ OJ; have Dn := @run_callFunc_extern prog 136 _ (ReflectliteValue.method (ReflectliteValue.valueError "reflectlite.Value.Elem" 0) ReflectliteValue.elem) func136 OJ OJ OJ OJ; have Lk := @run_callFunc_extern prog 137 _ ReflectliteValue.set func137 OJ OJ OJ OJ
  have HV:=@run_callFunc_extern prog 62 _ (fun args=>ReflectliteValue.unpack (args.getD 0 (.tuple #[]))) func62 OJ OJ OJ OJ;have MO:=R9.aoV;exact z.o):G:=h
theorem WH (h:G:=by
  rw[U] at ah ba;simp only[bind_ok] at ba;clear U;go_wp2_with fail;refine cm ah ?_;exact z.o):G:=h
theorem zsu (h:G:=by
  have bP:=kk (∀{G}(h:G:=by
  have lx:=(fA.next (Ap.of (P8.drew.trans jI)));exact aBM),G);exact ztj):G:=h
theorem zsv (h:G:=by
  have bP:=kk (∀{G}(h:G:=by
  have cJ:t.kids.length<=20000:=by have:=Rx t.kids;omega
  exact z.o),G);exact ztq):G:=h
theorem zsw (h:G:=by
  have cg:=ek;have jE:=cP;have j8:=c';clear gK;obtain⟨e9,iq⟩:=xE ((fq.alloc (.cells #[Nu bc] 22)).alloc (OA 12 NC 0 (.slice (some (Nv fq.heap.size 0)) 1 1)));rw[<-iq] at cg jE j8;rw[<-iG] at cg;rw[show (fq.alloc (.cells #[Nu bc] 22)).heap.size=aW by rw[iG];simp,<-iq]
  clear iq iG;have ah:=(QU c Uy e9 a7 d jE ai NH);go_wp2_with fail;refine cm ah ?_;rintro e aD ⟨rfl,a8,aw⟩;have fN:=a8;have e0:=(j8.next aw);replace cg:=(Open.later cg (aw) bS.out);have ah:=(Oz c Qi aD (a7+1) d fN NH);rw[O] at ah;go_wp2_with fail;refine cm ah ?_;intro e wd al;obtain⟨⟨Km,rfl,rfl⟩,a8,aw⟩:=al;have oi:=a8;have jT:=(e0.next aw);replace cg:=(Open.later cg (aw) bS.out);have ah:=(name_any c wd i2 d oi);rw[ax] at ah;go_wp2_with fail;refine cm ah ?_;intro e BK al
  obtain⟨⟨Kn,rfl,rfl⟩,a8,aw⟩:=al;have zd:=a8;have wT:=(jT.next aw);replace cg:=(Open.later cg (aw) bS.out);have ah:=(Oz c RJ BK i3 d zd NH);rw[aU] at ah;go_wp2_with fail;refine cm ah ?_;intro e jS al;obtain⟨⟨Ko,rfl,rfl⟩,a8,aw⟩:=al;have GD:=a8;have qM:=(wT.next aw);replace cg:=(Open.later cg (aw) bS.out);have fL:=(Qc ak hN jS.drew d i4 _ rfl (by rw[bN];nofun) GD.drew)
  rw[bN] at fL;obtain⟨lL,pA,dP⟩:=cg.cell;obtain⟨cT,uc,lQ⟩:=cg.shape;subst lQ;go_wp2_with fail;exact z.o):G:=h
theorem zsx (h:G:=by
  have bI:=aK.lt;obtain⟨aq,aF,st⟩:=p;obtain⟨fY,⟨ok,on,fX⟩⟩:=o;obtain⟨w2,de⟩:=xE ((((w.alloc (.cells #[Nr aq,Nr aF,NI st,.pointer aC] 73)).alloc (.cells #[NI fY,Nr ok,Nr on,ND fX] 67)).alloc (.cells #[NI false,Nr 0,Nr 0,OG] 67)).alloc (.cells #[Qb] 122));have aE:NJ w w2:=by rw[de];exact((OM.alloc Oq _).alloc Qa _).alloc Qa _
  obtain⟨bc,bU⟩:=xE w.heap.size;obtain⟨ob,f9⟩:=xE (w.heap.size+1);obtain⟨aR,b1⟩:=xE (w.heap.size+2);obtain⟨tb,ll⟩:=xE (w.heap.size+3);have bK:w2.heap[bc]? = some (Og #[Nr aq,Nr aF,NI st,.pointer aC] 73):=by rw[de,bU];exact alloc_old (alloc_old (alloc_old (NG _ _)))
  have j2:w2.heap[ob]? = some (Og #[NI fY,Nr ok,Nr on,ND fX] 67):=by
   exact aEs
  have hr2:w2.heap[aR]? = some (Og #[NI false,Nr 0,Nr 0,OG] 67):=by
   exact aEo
  have eS:w2.heap[tb]? = some (Og #[Qb] 122):=by
   exact aEm
  exact z.o):G:=h
theorem zsy (h:G:=by
  have hstep:=adE bF dj eA;rw[if_neg Nw] at hstep;have n6:=hide bF.is;obtain⟨q,bo⟩:=xH a.p;rw[<-bo.out] at dL ⊢;exact z.o):G:=h
theorem zsz (h:G:=by
  obtain⟨h0,h1,aG,hr,hl⟩:=h.c;have eW:NJ w (w.alloc (vO n)):=OM;have fk:=h.later eW;obtain⟨g,cap,v,bC,aQ,ap,dP,hrow,hg,aZ,ml,_⟩:=fk.ro.at_ (i:=i) (e:=x.h) (by simp[ay]);have ah:=(Y7 g cap _ i aQ (w.alloc (vO n)));rw[<-bC] at ah;have hrow':(w.alloc (vO n)).ownsRow H 262 6 v x.cs.length (x.cs.flatMap Ce.h):=hrow;have d3:=(adk g (i * 3) v x.cs H nm (w.alloc (vO n)) (dP 2 v rfl) hrow' (by have:=ae.cs x (List.mem_of_getElem? ay);omega))
  have mu:=ae.cs x (List.mem_of_getElem? ay);have pB:(w.alloc (vO n)).cell? (Nv g (i * 3+1))=some (Nr x.object):=dP 1 _ rfl;have bA:=hide ap;have f1:=hide ay;have jV:=hide bC;exact z.o):G:=h
theorem atH (h:G:=by
  rw[aM] at pB;rw[E,Xy] at d3;clear E;have bP:=kk (∀{G}(h:G:=by
  refine cm d3 ?_;rintro e w1 ⟨rfl,D⟩;have fw:Below (w.heap.size+1) (w.alloc (.cells #[Nr n.k,Nr n.n,ND n.s] 65)) w1:=by rw[<-l5.out];exact D.mono (by rw[l5.out];simp)
  obtain⟨dm,bT,cY,fp,nl⟩:=XH fw;have bM:=(eW.trans (D.mono eW.size));have gr:=(fk.later D);have qW:=(N9 hrow' D);have dx:g<w1.heap.size:=Nat.lt_of_lt_of_le uH.out D.size;have f7:w1.cell? (Nv g (i * 3+2))=some v:=(cell_below D (a:=(Nv g (i * 3+2))) uH.out).trans k3.out;have hfz1:w1.frozen? (Nv g (i * 3+2))=false:=(World.frozen?_of_block (w:=el) (a:=(Nv g (i * 3+2))) (D.block g uH.out)).trans (di.out _);clear pB;go_wp2_with fail;refine wp_region_any OJ ?_;change wpAny _ _ _ _ _ _ _ (World.drew _)
  refine wt 0 (NM g (i * 3)) ?_;refine wt 1 (NM g (i * 3)) ?_;refine wt 2 (NM g (i * 3)) ?_;refine wt 3 (NM g (i * 3+2)) ?_;refine wt 5 (ND nm) ?_;exact z.o),G);exact zte):G:=h
theorem ZU (h:G:=by
  have hstep:=adE bF dj eA;rw[if_neg Nw] at hstep;have n6:=hide bF.is;exact z.o):G:=h
theorem aBT (h:G:=by
  exact aBM):G:=h
theorem aBU (h:G:=by
  have bP:=kk (∀{G}(h:G:=by
  exact z.o),G);exact ztg):G:=h
theorem RU (h:G:=by
  refine up 0 mb 0 ab ?_;refine up 1 mb 0 ab ?_;refine up 2 mb 0 ab ?_;exact z.o):G:=h
theorem aqf (h:G:=by
  obtain⟨aC,oO⟩:=xE (LA L);rw[<-oO];have bI:=aK.lt;obtain⟨aq,aF,st⟩:=p;obtain⟨fY,⟨ok,on,fX⟩⟩:=o;obtain⟨w2,de⟩:=xE (((w.alloc (.cells #[Nr aq,Nr aF,NI st,.pointer aC] 73)).alloc (.cells #[NI fY,Nr ok,Nr on,ND fX] 67)).alloc (.cells #[NI false,Nr 0,Nr 0,OG] 67));have aE:NJ w w2:=by rw[de];exact(OM.alloc Oq _).alloc Qa _
  obtain⟨bc,bU⟩:=xE w.heap.size;obtain⟨ob,f9⟩:=xE (w.heap.size+1);obtain⟨aR,b1⟩:=xE (w.heap.size+2);have bK:w2.heap[bc]? = some (Og #[Nr aq,Nr aF,NI st,.pointer aC] 73):=by rw[de,bU];exact alloc_old (alloc_old (NG _ _))
  have j2:w2.heap[ob]? = some (Og #[NI fY,Nr ok,Nr on,ND fX] 67):=by
   exact aEt
  have hr2:w2.heap[aR]? = some (Og #[NI false,Nr 0,Nr 0,OG] 67):=by
   exact aEp
  exact z.o):G:=h
theorem aa3 (h:G:=by
  go_wp2_with fail;rw[<-bu.out,<-b1,<-bU];clear bU b1;refine cm hstep ?_;rintro e wz ⟨rfl,g6,i8⟩;have dU:=hide (i8.keep bj.out NH);have eG:=hide (i8.keep dF.out NH);have di:=(da.trans i8);exact z.o):G:=h
theorem asX (h:G:=by
  have bP:=kk (∀{G}(h:G:=by
  have mX:fb.cell? (Nv T 0)=some Qb:=by rw[f6,World.cell?_alloc_past _ _ _ Qa,World.cell?_alloc_past _ _ _ jH];exact dA
  have bP:=kk (∀{G}(h:G:=by
  have n0:=R9.aeC (Nv w.heap.size 0) (Nv T 0) fb aw;rw[f6] at n0;exact z.o),G);exact zty),G);exact zta):G:=h
theorem apE (h:G:=by
  obtain⟨h0,h1,aG,hr,hl⟩:=h.c;have eW:NJ w (w.alloc (vO n)):=OM;have mi:=atG ay E ai;have ba:=(Xz (h.later eW) ae A i nm);rw[show M.has i nm=true by simp[Mo.has,mi]] at ba;have dV:Hid (∀ w1,NJ w w1->_):=fun w1 D=>XO (h.later D) ae A i nm;have f1:=hide ay;have f2:=hide E;have fL:=hide ai;have k3:=hide mi;have qU:=hide hl;unfold vO at ba;clear ai ay E mi aG hr;have bP:=kk (∀{G}(h:G:=by
  obtain⟨ce,bV,_,_,_⟩:=(h.later cp).c;exact z.o),G);exact ayo):G:=h
theorem Zo (h:G:=by
  refine wp_region_any OJ ?_;change wpAny _ _ _ _ _ _ _ (World.drew _);refine wt 0 (Nu aW) ?_;refine wt 1 (Nu aW) ?_;refine wt 2 (Nu aW) ?_;refine wt 3 (NM aW 3) ?_;exact z.o):G:=h
theorem U5 (h:G:=by
  refine up 0 mb 0 ab ?_;refine up 1 q 0 ab ?_;refine up 2 q 0 ab ?_;refine up 3 q 3 ab ?_;exact z.o):G:=h
theorem akg (h:G:=by
  obtain⟨ce,cC,cap0,fS,dJ,fQ,_⟩:=hd.Xe (i:=0) Nw;rw[E] at fS;have m0:=fQ.kp (Kp.of aE);obtain⟨q,bo⟩:=xH a.p;obtain⟨kp,dd⟩:=xE ce.p;have pH:=hd.cells.1;have xL:=fQ.cells.1;have e4:=m0.cells.1;have oK:=fQ.cells.2.1;have ma:=m0.cells.2.1;have gd:=m0.cells.2.2.1;have dx:=cell_lt dJ;exact z.o):G:=h
theorem Z7 (h:G:=by
  go_wp2_with fail;refine wp_region_held (S:=fun W=>OU c W i d) OJ ?_;change wpAnyH _ _ _ _ _ _ _ _ (World.drew _);exact z.o):G:=h
theorem aqg (h:G:=by
  have Ea:ob≠aR:=Nw;have d5:bc≠aR:=Nw;have A0:bc≠tb:=Nw;have htb':tb=aR+1:=Nw;have rr:bc<tb/\ob<tb/\aR<tb/\w.heap.size<=tb:=Nw;have dj:=(aK.later aE);have da:=(Om.of (L:=L) aE (Oi bI));have dF:=hide bK;have rW:=hide j2;have CC:=hide eS;have bu:=hide de;have bj:=hide hr2;have cI:=hide cH;have r6:=hide ds;have td:=hide d5;have Gn:=hide A0;have iM:=hide rr;have ep:=(hl.later aE);obtain⟨t0,tf,o9⟩:=aa1 eS;have kR:=bF.ety dj;exact z.o):G:=h
theorem alC (h:G:=by
  have hB:=hide (fun W (a6:NJ w W)=>Uh t p W (fl W a6));have ly:Hid (Qq t=true->∀ W,NJ w W->NK 103 #[Nu p] W fun e w'=>(∃ q,e=NU (Nu q)/\SC W (Ph t 1) q)/\w'=W):=fun aG W a6=>aau t p W (fl W a6) (by
   have:need t.kd=2:=by
    exact aEr
   omega) Nw
  have CA:=hide (fun(q:Nat) (W:Ny) (ag:SC W (Ph t 1) q)=>Uh (Ph t 1) q W ag);exact z.o):G:=h
theorem ayB (h:G:=by
  have bI:=aK.lt;have bP:=kk (∀{G}(h:G:=by
  have eT:w2.heap[vb]? = some (XI v):=by rw[bu.out,aN];exact NG _ _
  exact z.o),G);exact ztk):G:=h
theorem V8 (h:G:=by
  have hr2:w2.heap[aR]? = some (Og #[NI false,Nr 0,Nr 0,OG] 67):=by
   exact amx
  exact z.o):G:=h
theorem apv (h:G:=by
  have eW:NJ w el:=by rw[sv];exact OM
  have gr:=(h.later eW);obtain⟨dm,bT,cY,fp,nl⟩:=XH (w1:=el) (by rw[sv];exact P8)
  obtain⟨gC,eq,_,pi,tB⟩:=gr.c;rw[<-sv];have hrow:el.ownsRow H 198 3 aB M.NQ.length (flat (M.NQ.map Ro.h) b7):=by have:=gr.ro.row;rwa [List.length_map] at this
  clear sv h0 h1 aG hr gC;refine wp_region_any OJ ?_;change wpAny _ _ _ _ _ _ _ (World.drew _);refine wt 0 (NM H 0) ?_;refine wt 1 (NM H 0) ?_;refine wt 2 (NM H 0) ?_;refine wt 3 (NM H 1) ?_;exact z.o):G:=h
theorem auK (h:G:=by
  have cz:=hide aH;clear bK hr2 j2 eS de d6 ag ds cH d5 A0 rr oO aH t0 tf o9 kR;go_enter func201,ntmps201;go_wp2_with fail;rw[<-bu.out,<-b1,<-f9,<-bU,<-htb'];clear bU b1 f9 ll htb';refine cm kC ?_;rintro e wz ⟨rfl,iC⟩;have dU:=hide (stays iC bj.out);have y8:=hide (stays iC rW.out);have dc:=dj.lt;have jl:=(dj.later iC);have fB:=(ep.later iC);have di:=(da.trans (Om.of (L:=L) iC (Oi dc)));obtain⟨cy,bQ,b5,d',dn,dp,dq,iL,rl⟩:=PE dU.out;obtain⟨z0,mC,z2,z3,mD,mE,mF,sW,zl⟩:=PE y8.out
  go_wp2_with fail;obtain⟨b3,bz,bb,bx,bv,bi,aY,aX,cu⟩:=rt4 dU.out cI.out bI di jl (NI fY) (Nr ok) (Nr on) (ND fX);rw[<-bz];exact z.o):G:=h
theorem anS (h:G:=by
  have bP:=kk (∀{G}(h:G:=by
  clear ag;have bD:=h;have fA:=(Ap.refl c.R w.heap.size w);have bS:=hide h.YV;have qP:=h.base.ends;have oa:=hide h.lt;have dz:=h.base.len;have tj:=hide e6;exact z.o),G);exact aBL):G:=h
theorem WE (h:G:=by
  go_wp2_with fail;refine cm ah ?_;intro e w' al;obtain⟨rfl,aw⟩:=al;exact z.o):G:=h
theorem auX (h:G:=by
  have pK:dC≠0:=by rw[rt];simp
  have sM:¬ (dC:Int)=0:=Nw;have xW:(0:Int)<(dC:Int):=Nw;have l4:=(U.later aE);obtain⟨g,iV,cap,aO,dx,gC,eq,hp⟩:=U.cells (i:=0) rfl;rw[Nat.zero_mul,Nat.add_zero] at gC eq hp;rw[E] at gC;have bP:=kk (∀{G}(h:G:=by
  obtain⟨dL,c0,c1,_⟩:=Aq.cells;rw[<-ag] at dL c0 c1 ⊢;have IZ:q<w.heap.size+1:=Nw;have I0:q<w.heap.size+1+1:=Nw;have sK:q<w.heap.size+1+1+1:=Nw;exact z.o),G);exact aAi):G:=h
theorem az9 (h:G:=by
  have mn:=k'.lt;obtain⟨lb,jt⟩:=xE jf.heap.size;have lP:mb<=bc:=Nw;have wj:=U6 (j:=3) iM.out lP (NM lb 0);have qw:=aqu iM.out (NM lb 0);obtain⟨b',ha⟩:=xE (jf.setCell (Nv bc 3) (NM lb 0));have hsz5:b'.heap.size=jf.heap.size:=by rw[ha];simp
  rw[<-ha] at wj qw;have lS:=k'.Xd wj NH;obtain⟨b9,g2⟩:=xE (b'.alloc (.cells #[Nr 0,Nr 0,OG] 65));have e2:NJ b' b9:=by rw[g2];exact OM
  have AK:b9.heap[lb]? = some (Og #[Nr 0,Nr 0,OG] 65):=by rw[g2,jt,<-hsz5];exact NG _ _
  have l7:=(lS.later e2);have l1:=hide (stays e2 qw);have Cf:NY b9 (some lb) (some vU):=AK;have A3:b'.heap[aR]? = some (Og #[Nr 0,Nr 0,OG] 65):=wj.rest _ _ _ gb.out NH;have hA:=hide (stays e2 A3);have nq:Kp w2 b9:=fun b c e D au=>Kp.of e2 b c e (wj.rest b c e (k5 b c e D au) (by rcases au with rfl|rfl <;> decide)) au;have j9:Om none mb w b9:=(ig.newT wj (fun b D=>by rw[ha];exact heap_setCell_other _ _ _ _ (show b≠bc by omega))).trans (Om.of e2 (by rw[hsz5];exact Oi mn))
  have rk:=l7.lt;have D4:w.heap.size<=lb:=by have:=ig.below.size;omega
  have D8:mb<=lb:=Nw;have D5:lb≠aR:=fun e=>by have:=lt_of_heap gb.out;omega
  rw[<-jt,<-ha,<-g2];exact z.o):G:=h
theorem aAM (h:G:=by
  have bP:=kk (∀{G}(h:G:=by
  exact z.o),G);exact ztk):G:=h
theorem aBV (h:G:=by
  exact aBO):G:=h
theorem abW (h:G:=by
  obtain⟨ce,cC,cap0,fS,dJ,fQ,_⟩:=cS.Xe (i:=0) Nw;rw[E] at fS;obtain⟨q,bo⟩:=xH a.p;obtain⟨kp,dd⟩:=xE ce.p;exact z.o):G:=h
theorem ahS (h:G:=by
  have bD:=h;have fA:=(Ap.refl c.R w.heap.size w);have bS:=hide h.YV;exact z.o):G:=h
theorem asV (h:G:=by
  have bP:=kk (∀{G}(h:G:=by
  exact z.o),G);exact zty):G:=h
theorem aqU (h:G:=by
  refine A.out _ _ bJ (fun _=>?_);clear A K;refine wg 6 (.tuple #[.agg #[ND x.tx,Nr x.kd,Nr x.parts,Nr x.str],NI true]) rfl (Or.inl ⟨by kernel_rfl,fun W a6=>by have hh:=dV.out W a6;go_simp⟩) bJ ?_
  exact aBP):G:=h
theorem aub (h:G:=by
  refine uk 4 eB.out ab ?_;refine up 5 cC 0 ab ?_;refine uk 6 lz.out ab ?_;refine uk4 7 ga.out ab ?_;refine O0 8 fun K A=>?_;go_simp;refine cm (Ns bA _ ab) ?_;rintro e wz ⟨⟨ev,rfl,aI⟩,g6,i8⟩;refine ko A ?_;clear A K;refine uz 9 (.tuple #[Nr bG,ev]) ?_;refine uz 10 (Nr bG) ?_;refine uz 11 ev ?_;refine uz 12 (Nr bG) ?_;refine uz 13 ev ?_;refine QX ?_ _;have rQ:=aI;have oG:=(Om.of (L:=none) ab (Oi dc)).trans i8;have dU:=hide (oG.keep bj.out NH);have eG:=hide (oG.keep dF.out NH);have di:=(da.trans oG);exact z.o):G:=h
theorem aqV (h:G:=by
  clear U;go_wp2_with fail;refine wp_region_held (S:=fun W=>W.heap[bf.heap.size]? = some (.cells #[ND x.tx,Nr x.kd,Nr x.parts,Nr x.str] 275)) OJ ?_;change wpAnyH _ _ _ _ _ _ _ _ (World.drew _);refine wh 0 (NM bf.heap.size 1) eF.out ?_;refine wg 1 (Nr x.kd) rfl (Or.inl ⟨by kernel_rfl,fun W a6=>by obtain⟨_,kk,_,_,_,_⟩:=c160 a6;go_simp⟩) eF.out ?_
  exact z.o):G:=h
theorem aBW (h:G:=by
  have bP:=kk (∀{G}(h:G:=by
  exact z.o),G);exact aBL):G:=h
theorem Zq (h:G:=by
  go_wp2_with fail;refine cm ah ?_;rintro e e9 ⟨rfl,rfl⟩;go_wp2_with fail;go_ret;exact z.o):G:=h
theorem atV (h:G:=by
  refine up 3 bc 0 ab ?_;refine uk 4 (ga.out.1) ab ?_;refine up 5 q 0 ab ?_;refine up 6 q 0 ab ?_;refine up 7 q 1 ab ?_;refine uk 8 e1.out ab ?_;refine O0 9 fun K A=>?_;go_simp;refine cm (Ns ho _ ab) ?_;rintro e ao ⟨rfl,bm⟩;refine ko A ?_;clear A K;have Ai:=ab.trans bm;have eF:=(ej.later Ai);have cV:=(da.trans (Om.of (L:=none) Ai (Oi dc)));have ki:=adR aZ eF.bw (cS.kp (Kp.of Ai));obtain⟨xk,_⟩:=eF.hh.at_ 5 _ rfl;have gh:=eF.lt;rw[<-bo.out] at ki;exact z.o):G:=h
theorem aqe (h:G:=by
  have Ea:ob≠aR:=Nw;have d5:bc≠aR:=Nw;have cS:=hd.kp (Kp.of aE);have dj:=(aK.later aE);have da:=(Om.of (L:=L) aE (Oi bI));have dF:=hide bK;have rW:=hide j2;have ga:=hide (cells4 bK);have y5:=hide (cells4 j2);have bu:=hide de;have bj:=hide hr2;have cI:=hide cH;have ep:=(hl.later aE);exact z.o):G:=h
theorem azm (h:G:=by
  obtain⟨cy,bQ,b5,d',dn,dp,dq,iL,rl⟩:=PE dG.out;go_wp2_with fail;obtain⟨b3,bz⟩:=xE (((((aD.setCell (Nv aR 0) (NI true)).setCell (Nv aR 1) (Nr ew)).setCell (Nv aR 2) (Nr dC)).setCell (Nv aR 3) (ND eE)).alloc (.cells #[NI true,Nr ew,Nr dC,ND eE] 67));rw[<-bz];have gF:mb<=aR:=by have:=Ns cI;omega
  have bb:=Sr dG.out gF (NI true) (Nr ew) (Nr dC) (ND eE);have ed:=(Below.refl _ ((((aD.setCell (Nv aR 0) (NI true)).setCell (Nv aR 1) (Nr ew)).setCell (Nv aR 2) (Nr dC)).setCell (Nv aR 3) (ND eE))).alloc OH (.cells #[NI true,Nr ew,Nr dC,ND eE] 67);have d7:=stays ed (Zg dG.out (NI true) (Nr ew) (Nr dC) (ND eE));have bP:=kk (∀{G}(h:G:=by
  exact z.o),G);exact ztm):G:=h
theorem amj (h:G:=by
  obtain⟨h0,h1,aG,hr,hl⟩:=h.c;have eW:NJ w (w.alloc (vO n)):=OM;exact z.o):G:=h
theorem akd (h:G:=by
  rw[<-bo.out] at fS dL;rw[<-dd] at dJ bA
  rcases U:F.v (Nz d 0) ⟨aq,aF,st⟩ σ with ⟨⟨v1,av⟩,σ1⟩
  rw[U] at bA;have eB:=hide fS;have lz:=hide dJ;have dx:=cell_lt dJ;exact z.o):G:=h
theorem ap9 (h:G:=by
  rw[eX] at eO;have lW:=hide eX;clear eX;go_wp2_with fail;refine cm eO ?_;rintro e ea ⟨rfl,cn⟩;have jm:=hide (stays cn dU.out);have jD:=(aN.ms.later cn);have nr:=(fB.later cn);have lY:=(di.trans (Om.of (L:=none) cn (Oi ee)));have oM:=jD.lt;have sC:=g8.kp (Kp.of cn);have cM:=Ns pX;exact z.o):G:=h
theorem azY (h:G:=by
  go_enter func322,ntmps322;go_wp2_with fail;rw[<-bu.out,<-b1,<-bU];have bP:=kk (∀{G}(h:G:=by
  have kW:=U6 (j:=2) dF.out lP (NI false);have gi:=aiP dF.out (NI false);obtain⟨bf,gM⟩:=xE (w2.setCell (Nv bc 2) (NI false));rw[<-gM] at kW gi ⊢;have qb:=(ej.Xd kW NH);have bP:=kk (∀{G}(h:G:=by
  have D9:=qb.lt;have p6:=hide gi;refine cm (Ns B7 bf ⟨_,_,_,_,qb⟩ (lB.kp p0)) ?_;rintro e jf ⟨rfl,rb⟩;exact z.o),G);exact zth),G);exact azX):G:=h
theorem afi (h:G:=by
  go_wp2_with fail;obtain⟨b3,bz,bb,bx,bv,bi,aY,aX⟩:=rt3 d8.out cI.out bI jW k6 (Nr bL.k) (Nr bL.n) (ND bL.s);rw[<-bz];exact z.o):G:=h
theorem aBX (h:G:=by
  clear aw;obtain⟨ps,hown,m6,AH⟩:=Ns tc;have hlen:=NT.length _ _ m6;have vv:=O9 hown;rw[hlen] at hown;have HLEN:=hide hlen;have c9:=sY.size;have h5:=Ns p2;have lE:=hide vv;clear vv hlen
  go_wp2_with (at_builtin;refine wpList_append_lies _ rfl _ _ 38 rfl w.heap.size 22 i0 Qb 1 8 underlying38 d2 dH b6 cq rfl NH _ _ _ rfl (hown.alloc _) (Nv bB.heap.size 0) 1 1 [Nu kt] rfl rfl (QE bB kt _ rfl) (one_one kt) NH (by unfold maxLen;omega) Nw Qa (bB.heap.size+1) Oq ?_)
  intro g cap b' hown' hgrow hg _;have lZ:KV w.heap.size b' (be++[t]) (.slice (some (Nv g 0)) (be.length+1) cap):=ai3 AH (by rw[List.map_append];exact hown') (by simp[HLEN.out]) hgrow hg
  have mH:=((sY.alloc c9 (.cells #[Nu kt] 22)).grown hgrow Qa (fun k E=>(Ns lE k E).2));have fM:=(a8.ap (((Below.refl w.heap.size bB).alloc c9 (.cells #[Nu kt] 22)).grown hgrow Qa (fun k E=>(Ns lE k E).2)) i1.out);clear hg;go_wp2_with fail;exact z.o):G:=h
theorem Zh (h:G:=by
  have ep:=(hl.later aE);obtain⟨q,bo⟩:=xH a.p;rw[<-bo.out] at dL ⊢;exact z.o):G:=h
theorem atX (h:G:=by
  have ds:w.heap.size<=bc:=Nw;have cS:=hd.kp (Kp.of aE);have e1:=hide cS.cells.2.2.1;have ej:=(ac.later aE);have ga:=hide (cells4 bK);have da:=(Om.of (L:=none) aE (Oi bI));obtain⟨q,bo⟩:=xH a.p;obtain⟨tx,cD⟩:=xE d.2.tx;have dL:=cS.cells.1;rw[<-bo.out] at e1 dL ⊢;rw[<-cD] at e1;have dc:=ej.lt;have hpl2:=lt_of_heap bK;have ho:=hide (fun X (aj:NJ w2 X)=>adl (ej.later aj).hh aJ.go.ok aJ.go.sm (Oi hN) aq tx);exact z.o):G:=h
theorem ap0 (h:G:=by
  go_simp;refine cm (Ns bA _ ab) ?_;rintro e aD ⟨⟨ev,rfl,aI⟩,aK,ak⟩;refine ko A ?_;clear A K;refine uz 9 (.tuple #[(vA v1),ev]) ?_;refine uz 10 (vA v1) ?_;have bP:=kk (∀{G}(h:G:=by
  refine O0 13 fun K A=>?_;go_simp;refine ko A ?_;clear A K;exact z.o),G);exact ztl):G:=h
theorem aBY (h:G:=by
  exact aBP):G:=h
theorem ahf (h:G:=by
  refine O0 13 fun K A=>?_;go_simp;refine ko A ?_;clear A K;refine uz 14 ev ?_;refine QX ?_ _;go_simp;exact z.o):G:=h
theorem avw (h:G:=by
  refine wh 0 (Ov c) qY.drew ?_;refine wh 1 (Ov c) qY.drew ?_;refine wh 2 (NM c.R 5) qY.drew ?_;refine wg 3 (.map (some c.mV)) rfl (Or.inl ⟨by kernel_rfl,fun W a6=>by have hh:=OU.c5 a6;go_simp⟩) qY.drew ?_
  refine wh 4 (Ov c) qY.drew ?_;refine WG 5 fun K A=>?_;go_simp;refine cm (QV c _ i d qY.drew) ?_;rintro e fy ⟨rfl,jI⟩;have eN:=(qY.drew.later jI);have rK:=(eX.trans ((P8.drew.trans jI).mono eX.size));exact z.o):G:=h
theorem auI (h:G:=by
  rw[<-bD.out,<-ag];rw[<-ag] at c3 dL;rw[<-dd] at dJ bA;rw[<-oO] at bA
  rcases U:F.s (Nz d 0) ⟨aq,aF,st⟩ l σ with ⟨⟨bG,av,b8⟩,σ1⟩
  rw[U] at bA;have eB:=hide c3;have lz:=hide dJ;have dx:=cell_lt dJ;have bY:=hide U;clear bK hr2 j2 de U ag h1 ds cH d5 c3 dJ dd oO;go_enter func202,ntmps202;go_wp2_with fail;rw[<-bu.out,<-b1,<-f9,<-bU];clear bU b1 f9 iE mm;go_wp2_with fail;exact z.o):G:=h
theorem aun (h:G:=by
  go_wp2_with fail;obtain⟨b3,bz⟩:=xE (((fq.setCell (Nv w.heap.size 0) (Nr bL.k)).setCell (Nv w.heap.size 1) (Nr bL.n)).setCell (Nv w.heap.size 2) (ND bL.s));rw[<-bz];have d7:=YC d8.out (Nr bL.k) (Nr bL.n) (ND bL.s);have ed:=below3 ie OH (Nr bL.k) (Nr bL.n) (ND bL.s);have bb:=Qy (mb:=w.heap.size) d8.out OH (Nr bL.k) (Nr bL.n) (ND bL.s);rw[<-bz] at d7 ed bb;obtain⟨bi,aY,aX,_,_⟩:=cells3 d7;exact z.o):G:=h
theorem apQ (h:G:=by
  rw[eX] at eO;have lW:=hide eX;clear eX;go_wp2_with fail;refine Rj 11 fun ab=>?_;refine uh 0 Pe (ab) ?_;refine uh 1 (NI false) (ab) ?_;refine uh 2 (NI false) (ab) ?_;refine uk3 3 gc.out ab ?_;refine up 5 q 0 ab ?_;refine up 6 q 0 ab ?_;refine up 7 q 0 ab ?_;refine uk 8 mI.out ab ?_;exact z.o):G:=h
theorem ay2 (h:G:=by
  have bJ:=hide aH;clear au aH;obtain⟨cy,bQ,b5,dn,dp,dq,rl⟩:=Ot dG.out;go_wp2_with fail;obtain⟨b3,bz⟩:=xE ((((aD.setCell (Nv aR 0) (Nr 0)).setCell (Nv aR 1) (Nr 0)).setCell (Nv aR 2) (OG)).alloc (.cells #[Nr v1.k,Nr v1.n,ND v1.s] 65));rw[<-bz];have gF:mb<=aR:=by have:=Ns cI;omega
  have bb:=Qy dG.out gF (Nr 0) (Nr 0) (OG);have ed:=(Below.refl _ (((aD.setCell (Nv aR 0) (Nr 0)).setCell (Nv aR 1) (Nr 0)).setCell (Nv aR 2) (OG))).alloc OH (.cells #[Nr v1.k,Nr v1.n,ND v1.s] 65);have bP:=kk (∀{G}(h:G:=by
  have mW:=(aI.O6 bb NH).later ed;rw[<-bz] at d7 bx bv mW;obtain⟨bi,aY,aX,_,_⟩:=cells3 d7;exact z.o),G);exact ay3):G:=h
theorem auu (h:G:=by
  obtain⟨jR,p4⟩:=xH rs.1.1;rw[<-p4.out];obtain⟨hz,g4,gR,j7,kx,ky,kz,wO,kA⟩:=PE dG.out;refine uz 9 (RX jR) ?_;refine uz 10 ev ?_;refine O0 11 fun K A=>?_;go_simp;refine ko A ?_;clear A K;refine uz 12 ev ?_;refine QX ?_ _;go_simp;exact aBQ):G:=h
theorem aqW (h:G:=by
  clear gK;obtain⟨e9,iq⟩:=xE ((fq.alloc (.cells #[Nu bc] 22)).alloc (OA 12 NC 0 (.slice (some (Nv fq.heap.size 0)) 1 1)));exact z.o):G:=h
theorem ayX (h:G:=by
  rw[<-bo.out] at fS dL pH ⊢;rw[<-dd] at dJ xL e4 oK ma gd;have yC:=hide ma;have mJ:=hide gd;clear bK hr2 ds cH d5 dd cD ma gd aG bn;go_enter func261,ntmps261;go_wp2_with fail;rw[<-bu.out,<-b1,<-bU];clear bU b1;refine Rj 15 fun ab=>?_;refine up 0 kp 0 ab ?_;refine up 1 kp 0 ab ?_;refine up 2 kp 0 ab ?_;refine uk 3 yC.out ab ?_;refine uh 4 (NI true) (ab) ?_;refine uh 5 (NI true) (ab) ?_;refine up 6 mb 0 ab ?_;refine up 7 mb 0 ab ?_;refine up 8 mb 0 ab ?_;refine up 9 bc 0 ab ?_;refine uk 10 (ga.out.1) ab ?_
  refine up 11 kp 0 ab ?_;refine up 12 kp 0 ab ?_;refine up 13 kp 1 ab ?_;refine uk 14 mJ.out ab ?_;refine O0 15 fun K A=>?_;go_simp;refine cm (Ns ho _ ab) ?_;rintro e ea ⟨rfl,bm⟩;refine ko A ?_;clear A K;have cn:=ab.trans bm;exact z.o):G:=h
theorem atD (h:G:=by
  go_wp2_with fail;rw[<-l5.out];refine cm ah ?_;rintro e w' ⟨rfl,hw⟩;rw[hw];clear hw;go_wp2_with fail;refine cm d3 ?_;rintro e w1 ⟨rfl,D⟩;exact z.o):G:=h
theorem ae3 (h:G:=by
  simp only[Value.slice.injEq,Option.some.injEq,Addr.mk.injEq,and_true,true_and] at hO;obtain⟨rfl,rfl⟩:=hO;exact z.o):G:=h
theorem apN (h:G:=by
  refine O0 7 fun K A=>?_;go_simp;refine cm tl ?_;rintro e bB ⟨rfl,du⟩;refine ko A ?_;clear A K;have kF:=(eV.later du);have q0:=hide (stays du lG.out);have fI:=(cV.trans (Om.of (L:=none) du (Oi gh)));have gx:=kF.lt;refine QX ?_ _;exact z.o):G:=h
theorem apX (h:G:=by
  go_simp;refine cm (Ns bA _ ab) ?_;exact avu):G:=h
theorem agX (h:G:=by
  go_wp2_with fail;refine cm dK ?_;rintro e w' ⟨rfl,rfl⟩;go_wp2_with fail;refine cm ez ?_;rintro e w1 ⟨rfl,D⟩;exact z.o):G:=h
theorem azV (h:G:=by
  obtain⟨dT,gL⟩:=xE (σ.top:Int);obtain⟨fH,hb⟩:=xE (σ.opn aq (-1) (-3));rw[<-gL,<-hb] at aI br;have jy:=hide aI;have lD:=hide br;have mr:(σ.M.ro aq).isSome=true:=Po.some (p:=⟨aq,aF,true⟩) al;have cg:=hide (fun X (aj:Mx w0 mb af aa aS aB az aL X σ)=>X4 aj aJ Nw aq (-1) (-3) mr);rw[<-gL,<-hb] at cg;have nD:Sz (N+1) fH:=by show Sz _ _;rw[hb];exact aJ.opn _ _ _
  have IP:0<=dT/\dT<fH.M.NQ.length:=by rw[gL,hb];exact⟨by show (0:Int)<=(σ.M.NQ.length:Int);omega,by show (σ.M.NQ.length:Int)<_;simp[St.opn,Mo.scope];omega⟩
  rw[<-bo.out];clear bK hr2 gL hb aI br mr bq al;go_enter func322,ntmps322;go_wp2_with fail;rw[<-bu.out,<-b1,<-bU];exact z.o):G:=h
theorem amJ (h:G:=by
  rw[U] at bA;have eB:=hide fS;have lz:=hide dJ;have dx:=cell_lt dJ;exact z.o):G:=h
theorem auJ (h:G:=by
  have lD:=(br.later aE);have qr:=bF.cell aK;have mm:1<w.heap.size:=cell_lt qr;have iE:=bF.cell dj;rw[de] at iE;clear qr;obtain⟨ce,cC,cap0,c3,dJ,fQ,_⟩:=cS.Xe (i:=0) Nw;rw[E] at c3;obtain⟨q,ag⟩:=xE a.p;obtain⟨kp,dd⟩:=xE ce.p;have bA:=hide (fun X (aj:NJ w2 X)=>h1 X ce (dj.later aj) (fQ.kp (Kp.of aj)) (ep.later aj));exact z.o):G:=h
theorem aA8 (h:G:=by
  have nw:=hide aA;clear aA;have bP:=kk (∀{G}(h:G:=by
  rintro bC w2 ⟨rfl,rfl⟩;go_wp2_with fail;have hds:∀ i,(ay:i<(s.extract k e).size)->Pz ((s.extract k e)[i].toNat:Int)=true:=fun i ay=>by
   exact aEH
  have c9:=extract_size s k e Nw gE;refine(anT (s.extract k e) w2 Nw Nw hds).mono ?_;rw[nw.out];rintro ey ao ⟨rfl,sx⟩;have nI:=lV.trans (sx.mono lV.size);clear ai aG;obtain⟨ai,aG⟩:=YJ nI;have lV:=nI;exact z.o),G);exact zto):G:=h
theorem aBZ (h:G:=by
  have bP:=kk (∀{G}(h:G:=by
  go_wp2_with fail;have hpast:=Xm s k x U7 w1 (by unfold maxLen;omega) Nw ac
  rw[dw.out] at hpast;refine hpast.mono ?_;rintro bC w2 ⟨rfl,rfl⟩;have pc:Hid (w2.heap[6]? = some (.cells (bf.map Value.string).toArray t fr)):=by
   show _=_
   rw[hbel.block 6 Qa,Below.heap_alloc w _ 6 aQ];exact Ns gU
  go_wp2_with fail;refine(abr bf (s.extract k e) w2 dE.out t fr pc.out).mono ?_;rw[fs.out];rintro ey ao ⟨rfl,rfl⟩;go_wp2_with fail;exact z.o),G);exact ztr):G:=h
theorem aAC (h:G:=by
  have dF:=hide (cells4 bK);have bj:=hide hr2;have bu:=hide de;have cf:=aE;have d8:=hide b1;have eB:=hide (Oj aE c3);have e1:=hide (Oj aE c1);have hB:Hid (∀ X,NJ w2 X->NK 58 #[Nu aY] X fun e w'=>e=NU (NI k0)/\w'=X):=fun X aj=>by
   exact aEz
  have eK:q<w2.heap.size:=by
   have h1:=hd.cells.1;rw[<-ag] at h1;have O:=aE.size;omega
  have dc:mb<w2.heap.size:=by have:=aE.size;omega
  have gg:bc<w2.heap.size:=lt_of_heap bK;have xM:aR<w2.heap.size:=lt_of_heap hr2;have w9:Hid (w.heap.size<=aR):=by show _<=_;omega
  clear aA nR ag A c3 c1 cG m8 E bK hr2 de;go_enter func60,ntmps60;exact avv):G:=h
theorem aqX (h:G:=by
  refine cm ah ?_;intro e w1 al;obtain⟨⟨v1,rfl,p1,rfl,gG⟩,a8,aw⟩:=al;exact z.o):G:=h
theorem akj (h:G:=by
  go_wp2_with fail;obtain⟨b3,bz,bb,bx,bv,bi,aY,aX⟩:=rt3 dG.out cI.out bI fc aK (Nr v9.k) (Nr v9.n) (ND v9.s);rw[<-bz];exact z.o):G:=h
theorem awI (h:G:=by
  have Kf:=R9.ajq;have Ka:=R9.asY;have Jz:=R9.asZ;have nY:=R9.as1;have Hu:=R9.as2;have Js:=R9.ac1;have dx:0<w.heap.size:=by
   exact aBl
  obtain⟨fb,f6⟩:=xE ((w.alloc (.cells #[NM T 0] 86)).alloc (.cells #[NM 13 86,NM w.heap.size 0,.int .u64 150] 130));have mm:((w.alloc (.cells #[NM T 0] 86)).alloc (.cells #[NM 13 86,NM w.heap.size 0,.int .u64 150] 130)).cell? (Nv 0 0)=some (.iface 215 (.agg #[NM 13 31])):=by
   exact aBr
  have aw:fb.cell? (Nv w.heap.size 0)=some (NM T 0):=by
   exact aBq
  have mX:fb.cell? (Nv T 0)=some (Nr 0):=by rw[f6,World.cell?_alloc_past _ _ _ Qa,World.cell?_alloc_past _ _ _ jH];exact dA
  exact z.o):G:=h
theorem afV (h:G:=by
  go_simp;refine cm ah ?_;intro e aD al;obtain⟨⟨dv,rfl,cw,rfl,jL⟩,a8,aw⟩:=al;exact z.o):G:=h
theorem adf (h:G:=by
  go_wp2_with fail;refine cm ah ?_;rintro e w2 ⟨rfl,rfl⟩;go_wp2_with fail;exact z.o):G:=h
theorem azy (h:G:=by
  exact aBQ):G:=h
theorem aud (h:G:=by
  refine uh 6 undef (ab) ?_ (hy:=Or.inr ⟨by kernel_rfl,rfl⟩);refine uh 7 undef (ab) ?_ (hy:=Or.inr ⟨by kernel_rfl,rfl⟩);refine uh 8 undef (ab) ?_ (hy:=Or.inr ⟨by kernel_rfl,rfl⟩);refine uh 9 undef (ab) ?_ (hy:=Or.inr ⟨by kernel_rfl,rfl⟩);refine uh 10 undef (ab) ?_ (hy:=Or.inr ⟨by kernel_rfl,rfl⟩);exact z.o):G:=h
theorem awL (h:G:=by
  have BH:=R9.ajs;have G7:=R9.Yl;have Ke:=R9.agI;have cW:=R9.alr (Nv a 0) (Nv T 0) (w.alloc (.cells #[NM 13 123,NM a 0,.int .u64 150] 130)) (by rw[World.cell?_alloc_past _ _ _ mY];exact aw)
  have st:=R9.as3 (Nv T 0) (Nv (w.heap.size+1) 0) (Nv bc 0) Qb ((w.alloc (.cells #[NM 13 123,NM a 0,.int .u64 150] 130)).alloc (.cells #[NM bc 0] 122))
   (by rw[World.cell?_alloc_at _ _ _ _ Oq];rfl) (by rw[World.cell?_alloc_past _ _ _ Qa,World.cell?_alloc_past _ _ _ jH];exact dA) (by rw[World.frozen?_alloc_old _ _ _ Qa,World.frozen?_alloc_old _ _ _ Qa];exact ak)
  go_enter func65,ntmps65
  go_wp2
  exact z.o):G:=h
theorem avx (h:G:=by
  go_simp;refine A.out _ _ r3 (fun _=>?_);clear A K;refine WG 5 fun K A=>?_;go_simp;refine cm (eO.out _ r3) ?_;rintro e w1 ⟨rfl,D⟩;obtain⟨hr1,fw,aW,p1⟩:=avy bD D;obtain⟨cy,bQ,b5,d',en,YV⟩:=c160 p1;have bJ:=hr1;have fs:=fw;have sb:=hide aW;have tu:=hide p1;clear aW p1;exact z.o):G:=h
theorem aB0 (h:G:=by
  have Ep:(RW w).heap.size=w.heap.size+2:=by simp
  have hsz2:=aE.size;have cR:=Ns Fm;have c0:ao.heap[w.heap.size]? = some (Og #[Qb] 22):=by
   rw[aw.block _ Nw Nw,aE.block _ Nw,Below.heap_alloc _ _ _ Oq];exact NG _ _
  have c1:ao.heap[w.heap.size+1]? = some (Og #[Pe] 31):=by
   exact aEB
  have gC:ao.cell? (Nv w.heap.size 0)=some Qb:=by rw[cell_of c0];rfl
  have Hn:=QM c0;have eq:ao.cell? (Nv (w.heap.size+1) 0)=some Pe:=by rw[cell_of c1];rfl
  have Hq:=QM c1;have iZ:NJ w ao:=by
   exact aEA
  have gT:Hid (w.heap.size+2<=w2.heap.size):=by show _<=_;omega
  exact z.o):G:=h
theorem aqn (h:G:=by
  refine O0 11 fun K A=>?_;go_simp;refine ko A ?_;clear A K;refine uz 12 ev ?_;refine QX ?_ _;go_simp;exact z.o):G:=h
theorem ap2 (h:G:=by
  have bP:=kk (∀{G}(h:G:=by
  refine cm (Ns bA _ (OM.drew)) ?_;exact avu),G);exact ztt):G:=h
theorem awH (h:G:=by
  have BH:=R9.aeA;have G7:=R9.ZJ;have Ke:=R9.ajr;have cW:=R9.aoP (Nv a 0) (Nv T 0) (w.alloc (.cells #[NM 13 86,NM a 0,.int .u64 150] 130)) (by rw[World.cell?_alloc_past _ _ _ mY];exact aw)
  have st:=R9.awP (Nv T 0) (Nv (w.heap.size+1) 0) n (Nr 0) ((w.alloc (.cells #[NM 13 86,NM a 0,.int .u64 150] 130)).alloc (.cells #[Nr n] 34))
   (by rw[World.cell?_alloc_at _ _ _ _ Oq];rfl) (by rw[World.cell?_alloc_past _ _ _ Qa,World.cell?_alloc_past _ _ _ jH];exact dA) (by rw[World.frozen?_alloc_old _ _ _ Qa,World.frozen?_alloc_old _ _ _ Qa];exact ak)
  exact z.o):G:=h
theorem axF (h:G:=by
  rw[hh] at ah;have iw:=hide hh;clear hh;go_wp2_with fail;refine cm ah ?_;rintro e w2 ⟨rfl,rfl⟩
  go_wp2_with (at_builtin;refine wpList_append_lies _ rfl _ _ 38 rfl w1.heap.size 22 i0 Qb 1 8 underlying38 d2 dH b6 cq rfl NH _ _ _ rfl (dr.alloc _) (Nv w2.heap.size 0) 1 1 [Nu q] rfl rfl (agW w2 q _ rfl) (alT q) NH (by unfold maxLen;omega) Nw Qa (w2.heap.size+1) Oq ?_)
  intro gX cap' ao hown' hgrow iD _;have ef:=(hbel.trans (((Below.refl w1.heap.size w2).alloc c9 (.cells #[Nu q] 22)).grown hgrow Qa (fun b D=>(Ns rX b D).2)));clear iD;go_wp2_with fail;exact z.o):G:=h
theorem atQ (h:G:=by
  have o6:=gQ 0;clear gQ;refine uz 7 (NM bc 0) ?_;refine O0 8 fun K A=>?_;go_simp;refine ko A ?_;clear A K;refine QX ?_ _;go_simp;have bP:=kk (∀{G}(h:G:=by
  exact z.o),G);exact azn):G:=h
theorem aqY (h:G:=by
  rw[show (fq.alloc (.cells #[Nu bc] 22)).heap.size=aW by rw[iG];simp,<-iq]
  clear iq iG;exact z.o):G:=h
theorem amr (h:G:=by
  have k3:=hide (dP 2 v rfl);have HLEN:=hide mu;have uH:=hide hg;have di:=hide ml;obtain⟨mw,d2,dH,b6,cq⟩:=info_parts aiB;exact z.o):G:=h
theorem anU (h:G:=by
  obtain⟨lL,pA,dP⟩:=cg.cell;obtain⟨cT,uc,lQ⟩:=cg.shape;subst lQ;exact z.o):G:=h
theorem afW (h:G:=by
  intro e w1 al;obtain⟨⟨v1,rfl,rfl⟩,a8,aw⟩:=al;have eo:=(fA.next aw);exact z.o):G:=h
theorem afX (h:G:=by
  intro w d i r ae aM h;have fA:=(Ap.refl c.R w.heap.size w);have bS:=hide h.YV;exact z.o):G:=h
theorem aB1 (h:G:=by
  have bD:=h;have dk:=((h.alloc Rt).drew);have r3:=(((h.alloc Rt).alloc Rt).drew);have dV:Hid (∀ W:Ny,OU c W i d->(Instr.lookup 229 (.map (some c.mS)) (ND s) true).run prog W=.ok (.tuple #[.agg #[ND x.tx,Nr x.kd,Nr x.parts,Nr x.str],NI true]) W):=fun W a6=>by
   have:=Wh c s W a6.base.signs;rw[aM] at this;exact this
  have bP:=kk (∀{G}(h:G:=by
  exact z.o),G);exact aBK):G:=h
theorem axg (h:G:=by
  refine wh 3 (ND tx) ab ?_ (hy:=Or.inl ⟨by kernel_rfl,fun X aj=>by have hh:=Oj aj e1.out;go_simp⟩)
  refine wh 4 (WL s i b) ab ?_ (hy:=Or.inl ⟨by kernel_rfl,fun X aj=>by
    have hh:=WA.later km aj;have h0:=hh.c0;have h1:=hh.c1;have O:=hh.c2;clear hh;go_simp⟩)
  refine WG 5 fun K A=>?_;go_simp;refine cm (k7.out _) ?_;rintro e w2 ⟨rfl,aE⟩
  try rw[<-ip] at aE
  have f5:NJ ei w2:=ab.trans (aE.mono OH);refine A.out _ _ f5 (fun _=>?_);clear A K;refine wh 6 (Ub er) f5 ?_;refine wpAnyH_done OJ ?_ _;go_simp;exact z.o):G:=h
theorem apV (h:G:=by
  rw[<-bo.out] at fS dL pH ⊢;rw[<-dd] at dJ xL e4 oK ma gd;have yC:=hide ma;have mJ:=hide gd;exact z.o):G:=h
theorem aqZ (h:G:=by
  go_wp2_with fail;refine cm ah ?_;rintro e dM ⟨rfl,oD⟩;have jY:=(jE.later oD);have jw:=(j8.next (Ap.of oD));have cg:=(Open.later ek (Ap.of oD) bS.out);clear iP tU;exact z.o):G:=h
theorem ahk (h:G:=by
  have ee:=g6.lt;have g8:=cS.kp i8.SX;have g':=g8.cells.1;have g7:=g8.cells.2.1;exact z.o):G:=h
theorem ajQ (h:G:=by
  simp only[Value.slice.injEq] at ap;obtain⟨rfl,_,rfl⟩:=ap;have hL:(k:Int)<(l.length:Int):=Nw;exact z.o):G:=h
theorem apa (h:G:=by
  unfold Ub;have hn:=(Ns nk dD cf);have hp:=nX.at.c2;have pi:=QM nX 2;have tB:=lt_of_heap nX;go_wp2_with fail;refine cm hn ?_;rintro e jg ⟨rfl,rfl⟩;exact z.o):G:=h
theorem aAE (h:G:=by
  refine up 3 mb 0 ab ?_;refine up 4 mb 0 ab ?_;refine up 5 mb 12 ab ?_;refine uk 6 rL.out ab ?_;refine uh 7 (ND x) (ab) ?_;refine O0 8 fun K A=>?_;go_simp;refine cm (Ns B5 _ ab) ?_;rintro e bB ⟨rfl,du⟩;refine ko A ?_;clear A K;have vD:NJ wr bB:=ab.trans (du.mono ab.size);have f3:=(eP.later vD);have fI:=(kD.trans (P9.of vD (Oi h6)));have gA:=hide (stays vD bY.out);have q0:=(N9 kq vD);have kE:Kp w2 bB:=fun b c e D au=>Kp.of vD b c e (jk b c e D au) au;have gx:=f3.lt;exact z.o):G:=h
theorem ao9 (h:G:=by
  obtain⟨g,cap,q,ap,hg,bZ,aA⟩:=(oS.later D).cell k aQ;simp only[Value.slice.injEq] at ap;obtain⟨rfl,_,rfl⟩:=ap;have hL:(k:Int)<(t.kids.length:Int):=Nw;exact z.o):G:=h
theorem aB2 (h:G:=by
  go_simp;have r3:=((eN.alloc Rt).drew);refine A.out _ _ r3 (fun _=>?_);clear A K;refine WG 5 fun K A=>?_;go_simp;refine cm (QV c _ i d r3) ?_;rintro e w1 ⟨rfl,D⟩;have bJ:=(r3.later D);have f0:=(rK.trans ((((Below.refl fy.heap.size fy).alloc OH Rt).drew.trans (D.mono Oq)).mono rK.size));have p1:w1.heap[fy.heap.size]? = some Rt:=(D.block _ Oq).trans (NG fy Rt);obtain⟨cy,bQ,b5,d',en,YV⟩:=c160 p1;have tu:=hide p1;clear p1;refine A.out _ _ bJ (fun _=>?_);clear A K;exact z.o):G:=h
theorem azi (h:G:=by
  have bP:=kk (∀{G}(h:G:=by
  have aH:rs=F.s (Nz d 1) ⟨aq,aF,st⟩ l σ1:=by rw[bD.out];unfold chQ;rw[bY.out];simp[lW.out]
  have cz:=hide aH;rw[<-aH] at fa;clear cy bQ b5 d' dn dp dq iL rl e' cj dD hf hi hj g5 fT pE cM aH jF;go_wp2_with fail;refine Rj 8 fun ab=>?_;exact z.o),G);exact ztw):G:=h
theorem ayE (h:G:=by
  have bI:=aK.lt;obtain⟨w2,bu⟩:=xH (w.alloc (.cells #[Nr v.k,Nr v.n,ND v.s] 65));obtain⟨vb,uX⟩:=xH w.heap.size;have aE:NJ w w2:=by rw[bu.out];exact OM
  have eT:w2.heap[vb]? = some (XI v):=by rw[bu.out,uX.out];exact NG _ _
  have dj:=(aK.later aE);have dc:=dj.lt;have da:=(Om.of (L:=none) aE (Oi bI));obtain⟨aS,aB,az,aL,ac⟩:=aK;have eM:=ac.later aE;obtain⟨o,oP⟩:=xE (σ.M.Ql s);have lE:=(aiI eM.hh s);obtain⟨C',_⟩:=eM.hh.at_ 9 _ rfl;exact z.o):G:=h
theorem amO (h:G:=by
  refine uk 4 eB.out ab ?_;refine up 5 cC 0 ab ?_;refine uk 6 lz.out ab ?_;exact z.o):G:=h
theorem axn (h:G:=by
  have np:Hid (∀ (k:Nat) (E:k<t.kids.length) (q:Nat) (W:Ny),SC W t.kids[k] q->NK 48 #[Nu q,WL true true true] W fun e w'=>e=NU (Ub (chk t.kids[k] true true true))/\NJ W w'):=fun k E q W ag=>by
   have h1:=SY t.kids k E;exact bR t.kids[k] Nw (oI _ (List.getElem_mem _)) Nw q true true true W ag
  obtain⟨er,nK⟩:=xE (wrT t true true b);obtain⟨vh,fF⟩:=xE (SK t.kids true true true);rw[<-nK,<-fF] at mh;simp only[<-nK] at l6;rw[mh];have s4:=hide fF;exact z.o):G:=h
theorem ahb (h:G:=by
  have bA:=hide (fun X (aj:NJ w2 X)=>h1 X ce aC (dj.later aj) (fQ.kp (Kp.of aj)));exact z.o):G:=h
theorem anV (h:G:=by
  refine WG 10 fun K A=>?_;go_simp;refine A.out _ _ (bJ.alloc Rt) (fun _=>?_);clear A K;refine WG 11 fun K A=>?_;go_simp;exact z.o):G:=h
theorem aq0 (h:G:=by
  obtain⟨gs,gt,hF⟩:=(Open.later cg dt bS.out).cell;have pm:aW<aD.heap.size+1:=Nw;have pn:aW<aD.heap.size+1+1:=Nw;refine A _ _ ?_;clear A K;exact z.o):G:=h
theorem ax4 (h:G:=by
  obtain⟨cJ,iQ,e4⟩:=List.findIdx?_eq_some_iff_getElem.1 E;obtain⟨N,dE⟩:=xH bs.length;have e3:(bs.eraseIdx k).length=N - 1:=by rw[List.length_eraseIdx,if_pos cJ,dE.out]
  rw[e3];obtain⟨mP,jr⟩:=OZ hrow (k:=g) rfl;have Jq:bE≠g:=PW aJ jr NH;have qC:=lt_of_block aJ;have pg:=hide aO;have dN:=hide aJ;have n5:=hide e3;rw[<-dE.out] at ah hrow cJ;rw[<-dE.out] at aV;have DA:bs.length=N:=dE.out.symm;clear E iQ e4 aJ nf jr aO e3;rw[DA];clear DA;exact z.o):G:=h
theorem aqw (h:G:=by
  obtain⟨q,bo⟩:=xH a.p;have ej:=(ac.later aE);have lB:=(hd.kp (Kp.of aE));have dF:=hide bK;have bj:=hide hr2;have da:=(Om.of (L:=none) aE (Oi bI));exact z.o):G:=h
theorem anW (h:G:=by
  go_wp2_with fail;refine cm ah ?_;rintro e ao ⟨rfl,bm⟩;have ji:=(gv.next (Ap.of bm));have c8:=(bj.later bm);exact z.o):G:=h
theorem aAD (h:G:=by
  obtain⟨i0,d2,dH,b6,cq⟩:=info_parts aqE;obtain⟨bV,g,cap,c3,c1,tO,_⟩:=hd.Xe (i:=1) Nw;rw[E] at c3;obtain⟨n,aA⟩:=xE σ.Qn.length;obtain⟨ol,nR⟩:=xE ((σ.M.objs.length:Int):Int);obtain⟨q,ag⟩:=xE a.p;obtain⟨aY,m8⟩:=xE bV.p;have bI:=ac.lt;rw[<-nR,<-ag];rw[<-aA] at hl;rw[<-ag] at c3;rw[<-m8] at c1;have dS:=ac;have d3:=hd;have dE:=hide aA;have rX:=hide nR;have bo:=hide ag;have xb:=ae;have pd:=hide A;exact z.o):G:=h
theorem avz (h:G:=by
  have bD:=h;have yo:=(Below.refl w.heap.size w);have dl:((Ox c.l i).kd==1)=false:=beq_eq_false_iff_ne.2 h1;have em:((Ox c.l i).kd==3)=false:=beq_eq_false_iff_ne.2 ax;have ot:((Ox c.l i).kd==4)=false:=beq_eq_false_iff_ne.2 aU;exact z.o):G:=h
theorem auR (h:G:=by
  go_wp2_with fail;refine cm p0 ?_;rintro e bB ⟨rfl,du⟩;have jU:=(oE.trans (du.mono I7));have yp:=(Al.trans (du.mono Al.size));have kH:=hide (stays yp fi.out);have gx:mb<bB.heap.size:=by have:=jU.size;omega
  exact z.o):G:=h
theorem amU (h:G:=by
  go_simp;refine cm (Ns fa _ ab) ?_;rintro e aD ⟨⟨ev,rfl,aI⟩,aK,ak,gD⟩;refine ko A ?_;clear A K;exact z.o):G:=h
theorem akL (h:G:=by
  refine wt 5 (Ov c) ?_;refine wt 6 (Ov c) ?_;refine wt 7 (.func (.func 224) #[Ov c] #[]) ?_;exact z.o):G:=h
theorem akM (h:G:=by
  intro e aD al;obtain⟨⟨dv,rfl,jL⟩,a8,aw⟩:=al;obtain⟨cw,rfl,ht⟩:=jL.nv;exact z.o):G:=h
theorem aqx (h:G:=by
  have im:=V9;have bI:=ac.lt;obtain⟨aq,aF,st⟩:=p;obtain⟨cT,dO,aO⟩:=U.form;subst aO;obtain⟨dC,rt⟩:=xE (List.length (v::vs));exact z.o):G:=h
theorem aB3 (h:G:=by
  refine wh 2 (Nu aW) eF.out ?_;refine wh 3 (Ov c) eF.out ?_;refine wh 4 (NM bf.heap.size 3) eF.out ?_;refine wg 5 (Nr x.str) rfl (Or.inl ⟨by kernel_rfl,fun W a6=>by obtain⟨_,_,_,kk,_,_⟩:=c160 a6;go_simp⟩) eF.out ?_
  refine wg 6 (Nr (x.str+1)) rfl (Or.inl ⟨by kernel_rfl,fun W _=>by have hw:IntKind.i64.wrap (x.str+1)=x.str+1:=(by rw[IntKind.wrap_i64];omega);go_simp;try exact hw⟩) eF.out ?_
  refine WG 7 fun K A=>?_;go_simp;exact z.o):G:=h
theorem ayj (h:G:=by
  have oH:(M.NQ.map Ro.h)[i]? = some x.h:=by simp[ay]
  have hrow:w.ownsRow H 262 6 _ x.cs.length (x.cs.flatMap Ce.h):=h.ro.own i x.h _ oH ap;obtain⟨gX,cap',hO,_⟩:=atC hrow D;simp only[Value.slice.injEq,Option.some.injEq,Addr.mk.injEq,and_true] at hO;obtain⟨rfl,rfl,rfl⟩:=hO;obtain⟨bQ,aY⟩:=hrow.stored (k * 6+1) (Nr n.k);obtain⟨b5,aX⟩:=bQ.stored (k * 6+2) (Nr n.n);obtain⟨d',cu⟩:=b5.stored (k * 6+3) (ND n.s);exact z.o):G:=h
theorem aq1 (h:G:=by
  refine wh 7 (.tuple #[.agg #[OG,Nr 0,Nr 0,Nr 0],NI false]) bJ ?_;refine wh 8 (.agg #[OG,Nr 0,Nr 0,Nr 0]) bJ ?_;refine wh 9 (NI false) bJ ?_;exact z.o):G:=h
theorem amK (h:G:=by
  rw[<-bD.out,<-bo.out];rw[<-bo.out] at fS dL;rw[<-dd] at dJ bA;exact z.o):G:=h
theorem amc (h:G:=by
  obtain⟨dm,bT,cY,fp,nl⟩:=XH (D.mono Oq);have bM:=(((Below.refl _ w).alloc OH _).trans (D.mono Oq));exact z.o):G:=h
theorem aqb (h:G:=by
  go_wp2_with fail;obtain⟨b3,bz,bb,bx,bv,bi,aY,aX,cu⟩:=rt4 gb.out cI.out bI ig ns (NI true) (Nr ew) (Nr dC) (ND eE);rw[<-bz];exact z.o):G:=h
theorem ayv (h:G:=by
  refine Rj 6 fun ab=>?_;refine up 0 mb 0 ab ?_;refine up 1 bc 0 ab ?_;refine uk 2 (ga.out.1) ab ?_;refine up 3 mb 0 ab ?_;refine up 4 q 0 ab ?_;refine O0 5 fun K A=>?_;go_simp;refine cm (Ns k8 _ ab) ?_;rintro e k2 ⟨rfl,iT⟩;rw[iT];clear iT k2;refine A.out _ _ (fun _=>ab) ?_;clear A K;refine O0 6 fun K A=>?_;go_simp;refine cm (Ns cg _ ab) ?_;rintro e ao ⟨rfl,wG,e8,cQ⟩;refine ko A ?_;clear A K;exact z.o):G:=h
theorem awO (h:G:=by
  have dx:=XK hg;obtain⟨fb,f6⟩:=xE (w.alloc (.cells #[Nr 0] 34));have dA:fb.cell? (Nv w.heap.size 0)=some (Nr 0):=by rw[f6,World.cell?_alloc_at _ _ _ _ rfl];rfl
  have ak:fb.frozen? (Nv w.heap.size 0)=false:=by rw[f6];exact World.frozen?_alloc_at _ _ _ _ rfl
  have b6:fb.heap.size=w.heap.size+1:=by rw[f6];simp
  have jq:NJ w fb:=by rw[f6];exact OM
  have iE:Qp fb:=Ua hg jq dx;exact z.o):G:=h
theorem avA (h:G:=by
  refine wh 0 (Ov c) dk ?_;refine wh 1 (Ov c) dk ?_;refine wh 2 (NM c.R 3) dk ?_;refine wg 3 (.map (some c.mS)) rfl (Or.inl ⟨by kernel_rfl,fun W a6=>by have hh:=OU.c3 a6;go_simp⟩) dk ?_
  refine wh 4 (Ov c) dk ?_;exact z.o):G:=h
theorem axE (h:G:=by
  go_wp2_with (at_builtin;refine wpList_append_lies _ rfl _ _ 26 rfl w.heap.size 9 i0 (ND ByteArray.empty) 1 16 underlying26 d2 dH b6 cq rfl NH _ _ _ rfl (nz.alloc _) (Nv wr.heap.size 0) 1 1 [ND x] rfl rfl (WX wr x _ rfl) (aaF x) NH (by unfold maxLen;omega) Nw Qa (wr.heap.size+1) Oq ?_)
  intro gX cap' ao hown' hgrow iD _;have ef:=((hbel.alloc c9 (.cells #[ND x] 9)).grown hgrow Qa (fun b D=>(O9 nz b D).2));exact z.o):G:=h
theorem alD (h:G:=by
  rw[kV,kh,kP] at mh;have fl:∀ W,NJ w W->SC W t p:=fun W a6=>h.later a6;have rV:=hide fl;exact z.o):G:=h
theorem axk (h:G:=by
  have du:NJ w iX:=by
   exact axt
  have rp:SC iX t p:=Ns rV iX du;obtain⟨AY,_,_,um,xj,oS⟩:=rp.cells;obtain⟨cT,uc,rfl⟩:=oS.form;have Dd:(jg.setCell (Nv w.heap.size 2) (NI false)).cell? (Nv p 3)=some (.slice cT t.kids.length uc):=by rw[<-gN];exact xj
  exact aBR):G:=h
theorem ahQ (h:G:=by
  subst E;refine(if_neg (show ¬ 20000<σ.steps+1 by omega)).trans ?_;exact z.o):G:=h
theorem auT (h:G:=by
  have cI:=hide cH;have dc:=ej.lt;have hB:=hide (fun X (aj:SC X d.2 a.p)=>Uh d.2 a.p X aj);rw[dA,<-bo.out] at hB;have fd:SC w2 d.2 q:=by rw[bo.out,<-lB.tr];exact lB.at_.nat.nt
  exact z.o):G:=h
theorem auU (h:G:=by
  have bK:w2.heap[bc]? = some (Og #[Nr aq,Nr aF,NI false,.pointer aC] 73):=by rw[bu.out,bU];exact alloc_old (NG _ _)
  have hr2:w2.heap[aR]? = some (Og #[Nr 0,Nr 0,OG] 65):=by
   exact aEv
  exact z.o):G:=h
theorem ax0 (h:G:=by
  obtain⟨b,lf⟩:∃ b,bs[m+1]? = some b:=⟨_,List.getElem?_eq_getElem (by rw[<-dE.out];exact aQ)⟩
  have hkl':k<bs.length:=by rw[<-dE.out];exact cJ
  have hml':m<bs.length:=by rw[<-dE.out];omega
  have il:(Lm bs k m).length=N:=by rw[alW hkl' hml',dE.out]
  have Am:(Lm bs k m)[m+1]? = some b:=by rw[axR hkl' hml' Nw];exact lf
  have hown2:=hown;rw[<-il] at hown2;exact z.o):G:=h
theorem akN (h:G:=by
  have i1:=hide h.base.size;obtain⟨i0,d2,dH,b6,cq⟩:=info_parts info22;exact z.o):G:=h
theorem aym (h:G:=by
  have fk:=h.later eW;obtain⟨g,cap,v,bC,aQ,ap,dP,hrow,hg,aZ,ml,_⟩:=fk.ob.at_ (i:=i) (e:=x.h) (by simp[ay]);have ah:=(aaM g cap _ i aQ (w.alloc (vO n)));rw[<-bC] at ah;have hrow':(w.alloc (vO n)).ownsRow H 207 5 v x.ps.length (x.ps.flatMap Pr.h):=hrow;have d3:=(adi g (i * 2) v x.ps H nm (w.alloc (vO n)) (dP 1 v rfl) hrow' (by have:=ae.ps x (List.mem_of_getElem? ay);omega))
  exact z.o):G:=h
theorem ap4 (h:G:=by
  have d8:=hide (stays cp bj.out);have ie:=(aE.trans (cp.mono aE.size));obtain⟨dm,bT,cY,my,mz,mA,nl⟩:=Ot d8.out;exact z.o):G:=h
theorem apP (h:G:=by
  go_wp2_with fail;obtain⟨b3,bz,bb,bx,bv,bi,aY,aX⟩:=rt3 dU.out cI.out bI di (aN.ms) (Nr 0) (Nr 0) (OG);rw[<-bz];exact z.o):G:=h
theorem avC (h:G:=by
  go_enter func348,ntmps348;have ah:=(QF c w i d bD);unfold tkV at ah;have fG:=aai (Ox c.l i);go_wp2_with fail;refine cm ah ?_;rintro e wt ⟨rfl,eX⟩;have qY:=(bD.later eX);exact z.o):G:=h
theorem ap1 (h:G:=by
  obtain⟨z0,mC,z2,mD,mE,mF,zl⟩:=Ot fe;refine uz 9 (.tuple #[(vA v1),ev]) ?_;refine uz 10 (vA v1) ?_;refine uz 11 ev ?_;exact z.o):G:=h
theorem apc (h:G:=by
  go_wp2_with fail;refine cm (Ns nk _ ((Below.refl w.heap.size w).alloc OH _)) ?_;rintro e cj ⟨rfl,rfl⟩;go_wp2_with fail;exact z.o):G:=h
theorem atE (h:G:=by
  obtain⟨oo,oP⟩:=xE (M.Ql s);have dr:Hid (∀ w1,NJ w w1->NK 125 #[NM H 0,Nr s] w1 fun e w'=>e=NU (Nr oo)/\w'=w1):=fun w1 D=>by rw[oP];exact Y8 (h.later D) s
  exact z.o):G:=h
theorem aAL (h:G:=by
  have eT:w2.heap[vb]? = some (Og #[Nr v.k,Nr v.n,ND v.s] 65):=by rw[bu.out,aN];exact NG _ _
  have h7:=lt_of_heap eT;have dc:mb<w2.heap.size:=by have:=aE.size;omega
  have bA:=hide (cells3 eT);have fa:=hide eT;have iw:=(h.later aE);have d3:=hide (fun X (aj:NJ w2 X)=>XA ((h.later aE).later aj) ae.sm (Oi hN) aq nm 0 v);have cz:=hide h0;clear h eT;exact z.o):G:=h
theorem ay6 (h:G:=by
  obtain⟨ce,bV,cC,cap0,c3,dJ,fT,fQ,jb⟩:=hd.acF E;have iP:=fQ.kp (Kp.of aE);have iQ:=jb.kp (Kp.of aE);obtain⟨q,ag⟩:=xE a.p;obtain⟨kp,qS⟩:=xH ce.p;obtain⟨wE,pZ⟩:=xH bV.p;have pH:=hd.cells.1;have xL:=fQ.cells.1;have oK:=fQ.cells.2.1;have dx:=cell_lt dJ;have hblk:=cS.aiL (Oj aE c3);have m9:=cS.blk;have rh:=iP.blk;exact z.o):G:=h
theorem axu (h:G:=by
  have rp:SC iX t p:=Ns rV iX du;obtain⟨AY,_,_,um,xj,oS⟩:=rp.cells;obtain⟨cT,uc,rfl⟩:=oS.form;have Dd:(jg.setCell (Nv w.heap.size 2) (NI true)).cell? (Nv p 3)=some (.slice cT t.kids.length uc):=by rw[<-gN];exact xj
  exact aBR):G:=h
theorem apS (h:G:=by
  go_wp2_with fail;obtain⟨b3,bz,bb,bx,bv,bi,aY,aX⟩:=rt3 dU.out cI.out bI di g6 (Nr 0) (Nr 0) (OG);rw[<-bz];exact z.o):G:=h
theorem apM (h:G:=by
  go_wp2_with fail;obtain⟨b3,bz,bb,bx,bv,bi,aY,aX⟩:=rt3 nB.out cI.out bI n7 oc (Nr 0) (Nr 0) (OG);rw[<-bz];exact z.o):G:=h
theorem aqD (h:G:=by
  have h1:=heap_setCell_same w b 0 _ t x' h;have O:=heap_setCell_same _ b 1 _ t jv h1;have ax:=heap_setCell_same _ b 2 _ t jh O;exact z.o):G:=h
theorem az0 (h:G:=by
  go_simp;refine cm (Ns fa _ (pw) xJ (tI)) ?_;rintro e aD ⟨⟨ev,rfl,aI⟩,gY,gu,gD⟩;refine ko A ?_;clear A K;refine uz 10 (.tuple #[(RX bG),ev]) ?_;refine uz 11 (RX bG) ?_;refine uz 12 ev ?_;refine O0 13 fun K A=>?_;go_simp;refine ko A ?_;clear A K;exact aBS):G:=h
theorem aq2 (h:G:=by
  rw[tj.out] at ah;simp only[aqT,sgV,Option.isSome] at ah;go_wp2_with fail;refine cm ah ?_;rintro e bf ⟨rfl,nJ⟩;exact z.o):G:=h
theorem avD (h:G:=by
  go_wp2_with fail;refine cm ah ?_;rintro e dM ⟨rfl,oD⟩;have jY:=(GE.later oD);have jw:=(gv.next (Ap.of oD));replace fd:=hide (QW (c:=c) fd (Ap.of oD) bS.out);exact z.o):G:=h
theorem avE (h:G:=by
  go_simp;refine cm (OT 13 s (.slice (some (Nv aD.heap.size 0)) 1 1) (aD.alloc (.cells #[Nu cw] 22)) ⟨_,_,_,rfl⟩) ?_;rintro e BJ ⟨rfl,rfl⟩;refine A _ _ ?_;clear A K;exact z.o):G:=h
theorem aqr (h:G:=by
  have h1:=WO d.2;have O:Tr.counts d.2.kids<d.2.count:=by cases d.2;rw[Tr.count];exact Nat.lt_add_of_pos_left Nw
  exact z.o):G:=h
theorem aB4 (h:G:=by
  refine wt 12 (Nu ia) ?_;refine wt 13 (NM ia 3) ?_;refine P6 14 fun K A=>?_;go_simp;refine A _ _ ?_;clear A K;refine wpAny_done OJ ?_ _;go_simp;obtain⟨cO,cP,c'⟩:=Ns gz;obtain⟨sR,rq,vV⟩:=cO.nv;have gK:sR=ia:=by simpa[Nu] using rq.symm
  subst gK;have jN:=Ns pf;have jB:=vV;have dj:=cP;have jC:=c';clear rq;go_wp2_with fail;exact z.o):G:=h
theorem ao8 (h:G:=by
  have h0:=sI.at.c0;have h1:=sI.at.c1;have O:=sI.at.c2;have xX:=lt_of_heap sI;have ah:=(Ns np k aQ q wr aA);exact z.o):G:=h
theorem aue (h:G:=by
  have dX:NJ aD wd:=by rw[e7];exact OM
  have l0:=(gY.later dX);have hW:=hide (stays dX dG.out);have uE:=(fc.trans (Om.of (L:=none) dX (Oi ht)));have tV:=l0.lt;exact z.o):G:=h
theorem aqO (h:G:=by
  go_wp2_with fail;refine cm ah ?_;rintro e w2 ⟨rfl,aE⟩;have cf:=(D.trans (aE.mono D.size));go_wp2_with fail;exact z.o):G:=h
theorem aql (h:G:=by
  rw[e5] at g7;obtain⟨aW,p1,cr,cL,_,dY⟩:=cells4 eG.out;clear e5;go_wp2_with fail;refine cm bA ?_;exact z.o):G:=h
theorem aB5 (h:G:=by
  clear U;go_wp2_with fail;refine wp_region_any OJ ?_;change wpAny _ _ _ _ _ _ _ (World.drew _);refine wt 0 (Nu ia) ?_;refine wt 1 (Nu ia) ?_;refine wt 2 (Nu ia) ?_;refine wt 3 (NM ia 3) ?_;refine wt 5 (Ov c) ?_;refine wt 6 (Ov c) ?_;refine wt 7 (.func (.func 348) #[Ov c] #[]) ?_;refine wt 8 (Ov c) ?_;refine wt 9 (.func (.func 349) #[Ov c] #[]) ?_;exact z.o):G:=h
theorem auG (h:G:=by
  have cz:=hide aH;clear aH;go_wp2_with fail;obtain⟨b3,bz,bb,bx,bv,bi,aY,aX,cu⟩:=rt4 gb.out cI.out bI ig ns (NI fY) (Nr ok) (Nr on) (ND fX);rw[<-bz];exact z.o):G:=h
theorem axX (h:G:=by
  have dm:ao.cell? (Nv wr.heap.size 0)=some (ND b.name):=by simp[World.cell?,hblk]
  have bT:ao.cell? (Nv wr.heap.size 1)=some (Nr b.v.k):=by simp[World.cell?,hblk]
  have cY:ao.cell? (Nv wr.heap.size 2)=some (Nr b.v.n):=by simp[World.cell?,hblk]
  have hx:ao.cell? (Nv wr.heap.size 3)=some (ND b.v.s):=by simp[World.cell?,hblk]
  exact z.o):G:=h
theorem aAK (h:G:=by
  refine uh 3 (Nr aq) (ab) ?_;refine uh 4 (ND nm) (ab) ?_;refine uk3 5 bA.out ab ?_;refine O0 6 fun K A=>?_;go_simp;refine cm (Ns d3 _ ab) ?_;rintro e ao ⟨rfl,kS,cQ⟩;refine ko A ?_;clear A K;have cV:=((OB.of aE (Oi bI)).trans ((OB.of ab (Oi dc)).trans cQ));have lG:=hide (cQ.rest vb _ 65 (stays ab fa.out) NH);exact z.o):G:=h
theorem aB6 (h:G:=by
  go_simp;refine cm ah ?_;intro e aD al;obtain⟨⟨dv,rfl,qu⟩,a8,aw⟩:=al;have e0:=(j8.drew.next aw);have fN:=a8;have hlt2:=a8.lt;have eC:=(Open.later ek (((Ap.refl c.R e9.heap.size e9).drew).next aw) bS.out);have kG:=(((Ap.refl c.R e9.heap.size e9).drew).next aw);have yV:=qu;obtain⟨gs,gt,hF⟩:=eC.cell;exact z.o):G:=h
theorem atj (h:G:=by
  clear a' h4 ai h gL nP oI kV kh fl nK fF mh;go_enter func48,ntmps48;go_wp2_with fail;refine cm (Ns hB _ ((Below.refl w.heap.size w).alloc OH _)) ?_;exact z.o):G:=h
theorem axp (h:G:=by
  rw[<-nK,<-fF] at mh;simp only[<-nK] at l6;rw[mh];have s4:=hide fF;have jj:=((Below.refl w.heap.size w).alloc OH (.cells #[NI false,NI i,NI b] 112));exact z.o):G:=h
theorem az2 (h:G:=by
  refine A.out _ _ (fun _=>su) ?_;clear A K;have tH:Om (some lb) mb b9 eh:=(Om.of ab (Oi rk)).trans fG;have pw:Ms w0 mb af aa eh sX:=⟨_,_,_,_,ru⟩;have xJ:Kp b9 eh:=fun b c e D au=>m3.kp g3 b c e (Kp.of ab b c e D au) au;have tI:NY eh (some lb) (some vU):=m2.keep (stays ab Cf) NH;have AM:=ru.lt;exact z.o):G:=h
theorem apw (h:G:=by
  rintro e w1 ⟨rfl,hw⟩;rw[hw];clear hw;go_wp2_with fail;obtain⟨mw,d2,dH,b6,cq⟩:=info_parts apu;exact z.o):G:=h
theorem auQ (h:G:=by
  go_enter func354,ntmps354;go_wp2_with fail;refine cm dr ?_;rintro e w1 ⟨rfl,rfl⟩;go_wp2_with fail;refine cm iw ?_;rintro e w2 ⟨rfl,D⟩;have bM:=D;exact z.o):G:=h
theorem axQ (h:G:=by
  clear fV gL h7;obtain⟨zt,xx⟩:=xE (V++F);obtain⟨zu,xy⟩:=xE (zt++G);rw[<-xx,<-xy];have Bh:zt.length<=40000:=by rw[xx,List.length_append];omega
  have Mp:zu.length<=60000:=by rw[xy,List.length_append];omega
  have uW:=hide xx;have GR:=hide xy;clear xx xy;go_enter func78,ntmps78;exact z.o):G:=h
theorem anX (h:G:=by
  obtain⟨lL,pA,dP⟩:=ek.cell;obtain⟨cT,uc,lQ⟩:=ek.shape;subst lQ;exact z.o):G:=h
theorem awD (h:G:=by
  go_enter func3,ntmps3;go_wp2_with fail;refine cm dk ?_;rintro e w1 ⟨p,rfl,aA,D⟩;have bM:=D;have bJ:=hide (fun Y cB=>Ns GB w1 Y p D cB aA);go_wp2_with fail;refine cm (Ns za w1 bM) ?_;rintro e w2 ⟨rfl,aE⟩;have cf:=aE;go_wp2_with fail;refine cm (Ns bJ w2 cf) ?_;intro e ao ax;exact z.o):G:=h
theorem avF (h:G:=by
  go_simp;refine cm (eO.out _ dk) ?_;rintro e w1 ⟨rfl,D⟩;obtain⟨hr1,fw,aW⟩:=avG bD D;have bJ:=hr1;have fs:=fw;have sb:=hide aW;clear aW;exact z.o):G:=h
theorem ax3 (h:G:=by
  go_wp2_with fail;refine cm ah ?_;rintro e w1 ⟨rfl,D⟩;have qW:=(N9 hrow D);have hT:w.grownBy w1 (some g):=⟨D.os,D.tape,D.output,D.size,fun j aT _=>D.block j aT⟩;have hcap:N<=cap:=by
   exact aEy
  have LS:((k:Int) == -1)=false:=by rw[beq_eq_false_iff_ne];omega
  go_wp2_with fail;exact z.o):G:=h
theorem al2 (h:G:=by
  obtain⟨h0,h1,aG,hr,zS⟩:=h.c;have HLEN:=hide ae.r;have qU:=hide zS;exact z.o):G:=h
theorem aml (h:G:=by
  go_wp2_with fail;refine cm ah ?_;rintro e w' ⟨rfl,rfl⟩;go_wp2_with fail;exact z.o):G:=h
theorem aB7 (h:G:=by
  have i1:=hide h.base.size;obtain⟨ud,d2,dH,b6,cq⟩:=info_parts info22;have fA:=(Ap.refl c.R w.heap.size w);have bS:=hide h.YV;go_enter func154,ntmps154;have ah:=(Oz c ZL w i d h NH);rw[aV] at ah;go_wp2_with fail;refine cm ah ?_;intro e ea al;obtain⟨⟨va,rfl,rfl⟩,a8,aw⟩:=al;exact z.o):G:=h
theorem ayY (h:G:=by
  rw[bn] at oK ma;obtain⟨tx,cD⟩:=xE ((Nz d 0).2.tx);rw[<-cD] at gd;have ho:Hid (∀ X,NJ w2 X->NK 195 #[Nu mb,Nr aq,ND tx] X fun e w'=>e=NU (Nr (σ.M.find aq tx))/\NJ X w'):=fun X aj=>by
   obtain⟨_,_,_,_,ac⟩:=dj.later aj;exact adl ac.hh aJ.go.ok aJ.go.sm (Oi hN) aq tx
  exact z.o):G:=h
theorem ay5 (h:G:=by
  rw[<-ag] at c3 dL pH m9 ⊢;rw[<-qS.out] at dJ xL oK rh;rw[<-pZ.out] at fT;have eB:=hide (Oj aE c3);have wV:=hide (Oj aE dJ);have n2:=hide (Oj aE fT);have pW:=hide hblk;have ix:=hide m9;have Cc:=hide rh;have mm:=cell_lt wV.out;have iZ:=hide (lt_of_heap dF.out);exact z.o):G:=h
end
end Go.Proofs.YticfnaiehdpbmaaGreatDoor
