import Derived.Test.YticfnaiehdpbmaaGreatDoorAg0
set_option maxRecDepth 100000
set_option maxHeartbeats 8000000
set_option linter.unusedVariables false
namespace Go.Proofs.YticfnaiehdpbmaaGreatDoor
open Go.RowKit Go.Proofs.Tryz
section
variable {G:Prop}
theorem aAq (h:G:=by
  have aH:U3 F d p o e l σ=match F.s (Nz d 0) p l σ with
   | ((bG,.no,b8),σ1)=>if bG.ret then ((bG,.no,b8),σ1) else ((o,e,b8),σ1)
   | r=>r:=by
   unfold U3
   cases e with
   | stop=>exact absurd rfl au
   | _=>rfl
  rw[aH]
  rcases U:F.s (Nz d 0) p l σ with ⟨⟨bG,av,b8⟩,σ1⟩
  rw[U] at hw;exact z.o):G:=h
theorem aAk (h:G:=by
  rw[<-eD];have zr:=hide a6;rw[<-eD] at zr;have hT:=hide b0;have n8:=hide sk;have nn:=hide d1;have IH:=xP;clear de hr2 b4 bU bm b1 b0 sk d1 ag rt bZ bq a6 eD dP al xP IH E;go_enter func300,ntmps300;go_wp2_with fail;rw[<-bu.out,<-d8.out,<-ef.out,<-Fd.out,<-f0.out];exact z.o):G:=h
theorem aut (h:G:=by
  obtain⟨et,ex,br⟩:=aN.er.Vs au ae;subst br;have aH:rs=(av,σ1):=by
   rw[bD.out];exact XJ
  have bJ:=hide aH;clear au aH;go_wp2_with fail;exact z.o):G:=h
theorem aB8 (h:G:=by
  have F4:=hide bS.out;replace nx:=(O7.later (fun b D _=>aw.block b D.2 (by have h1:=Ns bS;have O:=D.1;omega)) _ _ nx)
  have ah:=(W9 ao.heap.size tb vb fq aA dS);go_wp2_with fail;refine cm ah ?_;rintro e aD ⟨rfl,br,fw⟩;have e0:=(rG.trans ((Ap.of fw).mono ji.size));exact z.o):G:=h
theorem aAp (h:G:=by
  have ag:=h.q Oq;have h1:=ag.iv.opn p.scope (-1) (own d);have O:=h1.iv.dec (h.er.2.up h1.ex.ob) σ.top d.2.tx 0;have hH:=h1.trans O;have kn:Po { p with scope:=σ.top } ((σ.opn p.scope (-1) (own d)).dec σ.top d.2.tx 0 v):=by
   refine Po.up (σ:=σ.opn p.scope (-1) (own d)) ?_ O.ex;exact aBt
  exact z.o):G:=h
theorem ap6 (h:G:=by
  rw[<-qB];have jn:=hide qB;clear qB;obtain⟨hz,g4,gR,kx,ky,kz,kA⟩:=Ot dG.out;exact z.o):G:=h
theorem azD (h:G:=by
  obtain⟨w2,bu⟩:=xH (w.alloc (.cells #[Nr 0,Nr 0,OG] 65));have aE:NJ w w2:=by rw[bu.out];exact OM
  obtain⟨aR,b1⟩:=xE w.heap.size;have hr2:w2.heap[aR]? = some (Og #[Nr 0,Nr 0,OG] 65):=by rw[bu.out,b1];exact NG _ _
  have cH:w.heap.size<=aR:=Nw;exact z.o):G:=h
theorem aB9 (h:G:=by
  have im:=V9;have dE:=hide dE;have HP:=hide HP
  go_enter_defers func34,ntmps34
  go_wp2_with fail;refine cm dE.out ?_;rintro e w2 ⟨c,rfl,dP,DN,a8,aE⟩;have ah:=(HP.out c w2 dP a8);have Fm:=hide DN;clear dP DN;go_wp2_with fail;refine cm ah ?_;intro e ao al;exact z.o):G:=h
theorem auV (h:G:=by
  have bI:=ac.lt;obtain⟨w2,bu⟩:=xH ((w.alloc (.cells #[Nr aq,Nr aF,NI false,.pointer aC] 73)).alloc (.cells #[Nr 0,Nr 0,OG] 65));exact z.o):G:=h
theorem aAG (h:G:=by
  simp only[Value.slice.injEq] at ap;obtain⟨rfl,_,rfl⟩:=ap;have bn:k<a1.length:=Nw;have oF:=(RV.get _ _ Ck k aQ bn).kp jk;obtain⟨dL,_,c1,_⟩:=oF.cells;have hL:(k:Int)<(cW.length:Int):=Nw;obtain⟨x,ac⟩:=xE ((a1[k]).2.tx);rw[<-ac] at c1;exact z.o):G:=h
theorem ay0 (h:G:=by
  rcases U:F.v (Nz d 0) ⟨aq,aF,st⟩ σ with ⟨⟨v1,av⟩,σ1⟩
  have bA:=hide (fun X (aK:Ms w0 mb af aa X σ) (aj:Om none mb w2 X)=>h1 X ce aC aK (m0.kp aj.SX));rw[U] at bA;rw[<-dd] at bA;obtain⟨rs,bD⟩:=xH (afj ((v1,av),σ1));rw[<-bD.out];clear U;exact z.o):G:=h
theorem aqs (h:G:=by
  have cM:k=l.length:=Nw;subst cM;have hL:¬ (l.length:Int)<(l.length:Int):=Nw;exact z.o):G:=h
theorem apo (h:G:=by
  go_enter func36,ntmps36;go_wp2_with fail;refine cm ah ?_;rintro e w1 ⟨rfl,iE,ha1⟩;exact z.o):G:=h
theorem aAf (h:G:=by
  obtain⟨i0,d2,dH,b6,cq⟩:=info_parts info3;obtain⟨vf,vn⟩:=ac.hh.at_ 6 _ rfl;have bI:=ac.lt;obtain⟨aC,iK,nU⟩:=N8 ac.ow;have k8:=ac.ow;have Cy:=hide iS;obtain⟨n,dE⟩:=xH σ.PS.length;rw[<-dE.out] at k8 hl nU;clear iS;subst nU;exact z.o):G:=h
theorem aq3 (h:G:=by
  go_simp;refine A _ _ ?_;clear A K;refine P6 6 fun K A=>?_;go_simp;refine cm jx ?_;exact z.o):G:=h
theorem avH (h:G:=by
  go_simp;refine cm (OT 14 NC (.slice (some (Nv aD.heap.size 0)) 1 1) (aD.alloc (.cells #[Nu cw] 22)) ⟨_,_,_,rfl⟩) ?_;exact z.o):G:=h
theorem apR (h:G:=by
  refine up 4 q 0 ab ?_;refine up 5 q 0 ab ?_;refine up 6 q 1 ab ?_;refine uk 7 e1.out ab ?_;exact z.o):G:=h
theorem aCa (h:G:=by
  refine WG 11 fun K A=>?_;go_simp;clear cy bQ b5 d' en YV;obtain⟨gB,iA⟩:=xE ((((w1.setCell (Nv (w.heap.size+1) 0) (ND x.tx)).setCell (Nv (w.heap.size+1) 1) (Nr x.kd)).setCell (Nv (w.heap.size+1) 2) (Nr x.parts)).setCell (Nv (w.heap.size+1) 3) (Nr x.str));exact z.o):G:=h
theorem apr (h:G:=by
  obtain⟨h0,h1,aG,hr,hl⟩:=h.c;have eW:NJ w (w.alloc (.cells #[ND nm] 9)):=OM;exact z.o):G:=h
theorem au6 (h:G:=by
  have aE:NJ w w2:=by rw[de];exact OM.alloc Oq _
  obtain⟨bc,bU⟩:=xE w.heap.size;obtain⟨aR,b1⟩:=xE (w.heap.size+1);exact z.o):G:=h
theorem apb (h:G:=by
  have ah:=(Ns l6 n1 ie);rw[<-lm];refine cm ah ?_;rintro e dD ⟨rfl,eK⟩;exact z.o):G:=h
theorem avi (h:G:=by
  rw[U] at ah k9;simp only[OE] at k9;clear U;go_wp2_with fail;refine cm ah.out ?_;intro e w' al;obtain⟨rfl,aw⟩:=al;exact z.o):G:=h
theorem atw (h:G:=by
  obtain⟨g,cap,ap,hcell⟩:=VQ hrow (by rw[HLEN.out];omega)
  simp only[Value.slice.injEq] at ap;obtain⟨rfl,_,rfl⟩:=ap;exact z.o):G:=h
theorem apT (h:G:=by
  go_wp2_with fail;rw[<-bu.out,<-b1,<-bU];clear bU b1;refine Rj 8 fun ab=>?_;exact z.o):G:=h
theorem aBd (h:G:=by
  go_wp2_with fail;refine(abp _ _ _).mono ?_;rintro hE bB ⟨b,rfl,D,jt,Aj⟩;have hbel:=lV.trans (Aj.mono lV.size);have qt:=Nat.le_trans lV.size jt;clear ai aG;obtain⟨ai,aG⟩:=YJ hbel;have bM:=hide D;clear D jt;go_wp2_with fail;exact z.o):G:=h
theorem aAa (h:G:=by
  refine Rj 6 fun ab=>?_;refine uk 0 mI.out ab ?_;refine up 1 g iV ab ?_;refine up 2 g (iV+2) ab ?_;refine uk 3 hn.out ab ?_;refine up 4 bc 2 ab ?_;refine uk 5 (ga.out.2.2.1) ab ?_;refine O0 6 fun K A=>?_;go_simp;refine cm (Ns dG _ ab) ?_;exact z.o):G:=h
theorem aCb (h:G:=by
  rw[bY.out] at ah;go_wp2_with fail;refine cm ah ?_;intro e bB al;obtain⟨⟨v4,rfl,kt,rfl,rp⟩,a8,aw⟩:=al;have sY:=(ji.next aw);have tc:=hide (Zr jz ji.size aw bS.out rp);have kE:=(KV.later jz aw bS.out);have hlt2:=a8.lt;exact z.o):G:=h
theorem auW (h:G:=by
  go_wp2_with fail;obtain⟨b3,bz,bb,bx,bv,bi,aY,aX⟩:=rt3 d8.out cI.out bI jW k6 (Nr 0) (Nr 0) (OG);rw[<-bz];exact z.o):G:=h
theorem ata (h:G:=by
  refine cm (ph.hr1 _ ti) ?_;rintro e cj ⟨rfl,m8⟩;have iO:NJ ei cj:=ti.trans (m8.mono ti.size);go_wp2_with fail;exact z.o):G:=h
theorem as9 (h:G:=by
  refine cm (ph.ha1 _ iO) ?_;rintro e dD ⟨rfl,eK⟩;have eU:NJ ei dD:=iO.trans (eK.mono iO.size);go_wp2_with fail;exact z.o):G:=h
theorem ayz (h:G:=by
  obtain⟨z0,mC,z2,mD,mE,mF,zl⟩:=Ot fe;refine uz 12 (.tuple #[(vA v1),(RY c1)]) ?_;refine uz 13 (vA v1) ?_;refine uz 14 (RY c1) ?_;refine O0 16 fun K A=>?_;go_simp;refine ko A ?_;clear A K;refine uz 17 (RY c1) ?_;refine QX ?_ _;go_simp;exact z.o):G:=h
theorem ax7 (h:G:=by
  have lc:=bZ 4 _ rfl;rw[vH] at lc;have gr:=(fk.later D);have bM:=(eW.trans (D.mono eW.size));have jO:w1.heap[w.heap.size]? = some (Og #[ND nm] 9):=by
   refine ae7 (w:=w) (W:=w1) ?_;rw[<-l5.out];exact D.mono (by rw[l5.out];simp)
  exact z.o):G:=h
theorem az5 (h:G:=by
  refine A.out _ _ (fun _=>ke) ?_;clear A K;refine O0 8 fun K A=>?_;go_simp;refine cm (Ns om _ cn) ?_;rintro e eh ⟨rfl,J0,zF,ru,m3⟩;have g3:=l7.later cn;have fG:=m3.ZO (L:=some lb) g3;have m2:=m3.ZO (L:=none) g3;exact z.o):G:=h
theorem aCc (h:G:=by
  intro e ao al;obtain⟨⟨v3,rfl,cL,rfl,oN⟩,a8,aw⟩:=al;have ji:=(ec.next aw);have c8:=a8;have s':=(Q7 oN ec.size);have nx:=(O7.mono (J:=fun b=>w.heap.size<=b/\b<ao.heap.size) (fun _ D hl=>⟨D,hl⟩) _ _ s');exact z.o):G:=h
theorem azd (h:G:=by
  go_simp;refine A.out _ _ (fun _=>(OM.alloc Oq _).drew) ?_;clear A K;refine O0 8 fun K A=>?_;go_simp;refine A.out _ _ (fun _=>(OM.alloc Oq _).drew) ?_;clear A K;refine O0 9 fun K A=>?_;go_simp;refine ko A ?_;clear A K;refine QX ?_ _;go_simp;exact z.o):G:=h
theorem aCd (h:G:=by
  obtain⟨z0,mC,z2,z3,mD,mE,mF,sW,zl⟩:=PE (fe);refine uz 10 (.tuple #[(RX bG),ev]) ?_;refine uz 11 (RX bG) ?_;refine uz 12 ev ?_;exact aBS):G:=h
theorem auv (h:G:=by
  obtain⟨bV,b0,cap1,jF,fT,jb,_⟩:=sC.Xe (i:=1) Nw;rw[cM,<-bo.out] at jF;obtain⟨wE,pE⟩:=xE bV.p;exact z.o):G:=h
theorem aAZ (h:G:=by
  rintro e w2 ⟨y,rfl,hy,aE⟩;have kK:=hide hy;have cf:=hide aE;go_wp2_with fail;refine(ahP x y _ _ _ (dS.out.later cf.out) kK.out).mono ?_;rintro e ao ⟨bE,rfl,aJ,bm⟩;have dN:=hide aJ;have ef:=hide bm;go_wp2_with fail;go_ret;exact z.o):G:=h
theorem aCe (h:G:=by
  refine wh 0 (Ov c) eN.drew ?_;refine wh 1 (Ov c) eN.drew ?_;refine wh 2 (NM c.R 3) eN.drew ?_;refine wg 3 (.map (some c.mS)) rfl (Or.inl ⟨by kernel_rfl,fun W a6=>by have hh:=OU.c3 a6;go_simp⟩) eN.drew ?_
  refine wh 4 (Ov c) eN.drew ?_;exact z.o):G:=h
theorem aCf (h:G:=by
  have ah:Hid _:=D wr d j bj;rw[hbg] at ah;clear hbg;have Do:((be.length:Int)==8)=true:=beq_iff_eq.2 Nw;have Ks:=hide hI;clear hI;go_wp2_with fail;refine cm ah.out ?_;rintro e ao ⟨rfl,bm⟩;have ji:=(ec.next (Ap.of bm));exact z.o):G:=h
theorem ayT (h:G:=by
  have bD:=hide d6;have bY:=hide U;have gT:=hide O;have pX:=hide E;have n':=hide bn;clear bK hr2 d6 U h1 ds cH d5 fS dJ dd O E bn;go_enter func258,ntmps258;exact avv):G:=h
theorem ati (h:G:=by
  have nk:Hid (∀ W,NJ w W->NK 102 #[Nu p] W fun e w'=>e=NU (NI true)/\w'=W):=fun W a6=>by
   exact atf
  exact z.o):G:=h
theorem ayR (h:G:=by
  subst au;have br:ev=Pe:=aN.er;subst br;have c0:=g8.cells.2.1;have g':=g8.cells.1;rw[n'.out,<-bo.out] at c0;rw[<-bo.out] at g';have mI:=hide c0;have gc:=hide (cells3 aN.v);clear c0;have eO:=hide (fun X=>VI v1 X);exact z.o):G:=h
theorem ax8 (h:G:=by
  obtain⟨h0,h1,aG,hr,hl⟩:=h.c;obtain⟨el,l5⟩:=xH (w.alloc (.cells #[ND nm] 9));have dH:el.cell? (Nv w.heap.size 0)=some (ND nm):=by rw[l5.out];simp
  have eW:NJ w el:=by rw[l5.out];exact OM
  have fk:=h.later eW;exact z.o):G:=h
theorem avI (h:G:=by
  have o':=(gv.next (Ap.of nJ));have l3:=(bj.later nJ);replace fd:=hide (QW fd (Ap.of nJ) bS.out);exact z.o):G:=h
theorem azK (h:G:=by
  subst aH;clear U al ai h4;go_enter func321,ntmps321;go_wp2_with fail;refine cm HP ?_;rintro e w1 ⟨p,rfl,aA,D⟩;have dE:=aA;have bM:=D;go_wp2_with fail;refine cm (Ns ah p w1 dE.nt) ?_;rintro e w2 ⟨au,aE⟩;exact z.o):G:=h
theorem auS (h:G:=by
  have eP:=ju;have kD:=f8;have fD:=hide pG;have bY:=hide kU;have jk:=oL;have h6:=ju.lt;clear pG kU;exact z.o):G:=h
theorem aCg (h:G:=by
  replace nx:=(O7.later (fun b D _=>fw.block b D.2) _ _ nx);obtain⟨bc,rfl,fl⟩:=br.nv;have rV:=(O7.mono (J:=fun b=>From w.heap.size b/\ao.heap.size<=b) (fun _ D _=>⟨Nat.le_trans ji.size D,D⟩) _ _ fl);exact z.o):G:=h
theorem azc (h:G:=by
  have aE:=(Below.refl w.heap.size w).alloc OH (.cells #[Nr 0,Nr 0,OG] 65);have bj:=hide (NG w (.cells #[Nr 0,Nr 0,OG] 65));obtain⟨w2,bu⟩:=xH (w.alloc (.cells #[Nr 0,Nr 0,OG] 65));rw[<-bu.out] at bj aE;exact z.o):G:=h
theorem aCh (h:G:=by
  obtain⟨hd,AB⟩:=xE (PD (Ox c.l i).tx);rw[<-AB] at ba;have ah:=(Yw c w i d bD n'.out);rw[<-AB] at ah;clear AB;go_wp2_with fail;refine cm ah ?_;rintro e wk ⟨rfl,iJ,Ag⟩;have sZ:=(fA.next Ag);exact z.o):G:=h
theorem aAH (h:G:=by
  have cM:k=cW.length:=Nw;subst cM;have hL:¬ (cW.length:Int)<(cW.length:Int):=Nw;obtain⟨aW,p1,cr,cL,_,dY⟩:=cells4 fD.out;obtain⟨dm,bT,cY,hx,my,mz,mA,MT,nl⟩:=PE bY.out;go_wp2_with fail;exact z.o):G:=h
theorem aCi (h:G:=by
  have ah:=(RH c Uy e9 a7 d cP ai);go_wp2_with fail;refine cm ah ?_;rintro e aD ⟨rfl,D⟩;have fN:=(cP.later D);have e0:=(c'.next (Ap.of D));replace ek:=hide (Open.later ek (Ap.of D) bS.out);clear D;exact z.o):G:=h
theorem ay4 (h:G:=by
  have jJ:=(Om.of (L:=none) ab (Oi dc)).trans ak;have dG:=hide (jJ.keep bj.out NH);have fc:=(da.trans jJ);obtain⟨v9,jn⟩:=xH rs.1.1;rw[<-jn.out];obtain⟨hz,g4,gR,kx,ky,kz,kA⟩:=Ot dG.out;exact z.o):G:=h
theorem avo (h:G:=by
  have ah:=(Oz c O5 (ao.setCell (Nv aW 3) (.slice (some (Nv g 0)) (t0.kids.length+1) cap)) hc d dj NH);exact z.o):G:=h
theorem ayU (h:G:=by
  subst au;have br:ev=Pe:=aI;subst br;have b6:=Ns dN bG σ1 bY.out;have c1:=pV.cells.2.2.1;have g':=pV.cells.1;rw[<-bo.out] at c1 g';obtain⟨tx,cD⟩:=xE d.2.tx;rw[<-cD] at c1;have e1:=hide c1;exact z.o):G:=h
theorem azk (h:G:=by
  have bY:=hide U;have gT:=hide O;have pX:=hide E;have ep:=(hl.later aE);clear bK hr2 U h1 ds cH d5 fS dJ dd O E;go_enter func111,ntmps111;exact avv):G:=h
theorem ay1 (h:G:=by
  go_enter func262,ntmps262;go_wp2_with fail;rw[<-bu.out,<-b1,<-bU];clear bU b1;refine cm bA ?_;rintro e aD ⟨⟨ev,rfl,aI⟩,gY,gu⟩;have dG:=hide (gu.keep bj.out NH);have fc:=(da.trans gu);exact z.o):G:=h
theorem auj (h:G:=by
  simp only[Value.slice.injEq] at ap;obtain⟨rfl,_,rfl⟩:=ap;have hL:(k:Int)<(cW.length:Int):=Nw;exact z.o):G:=h
theorem auc (h:G:=by
  have bA:=hide (fun X (aj:NJ w2 X)=>amH ae (dj.later aj) (fQ.kp (Kp.of aj)) ⟨aq,aF,st⟩ aC h1);exact z.o):G:=h
theorem aA4 (h:G:=by
  refine O0 11 fun K A=>?_;go_simp;refine ko A ?_;clear A K;refine QX ?_ _;have jm:=hide (stays ke dU.out);have jD:=(aN.ms.later ke);have lY:=(di.trans (Om.of (L:=none) ke (Oi ee)));have oM:=jD.lt;exact z.o):G:=h
theorem aCj (h:G:=by
  go_simp;refine cm (QV c _ i d eN.drew) ?_;rintro e w1 ⟨rfl,D⟩;have bJ:=(eN.drew.later D);have f0:=(rK.trans ((P8.drew.trans D).mono rK.size));refine A.out _ _ bJ (fun _=>?_);clear A K;exact z.o):G:=h
theorem atO (h:G:=by
  obtain⟨cy,bQ,b5,en,rl⟩:=cells3 c8.out;have dn:=en 0;have dp:=en 1;have dq:=en 2;clear en;exact z.o):G:=h
theorem ax2 (h:G:=by
  obtain⟨m,rj,L1,rfl,rfl,db,hown⟩:=hrel;have jO:wr.heap[bE]? = some (Og #[ND s] 9):=(db.block bE qC (fun e=>Jq (Option.some.inj e))).trans dN.out;have dx:g<wr.heap.size:=(hown.lt g rfl).2;exact z.o):G:=h
theorem axY (h:G:=by
  have j':=hide kg;clear lf Am bZ kg aG nf jO il hget;go_wp2_with fail;refine cm d3 ?_;rintro e ao ⟨rfl,bm⟩;have hsz3:wr.heap.size+1<=ao.heap.size:=by have:=bm.size;simpa using this
  exact z.o):G:=h
theorem ayy (h:G:=by
  refine QX ?_ _;have gg:(Instr.lookup 80 (.map (some af)) (Nu q) true).run prog ao=.ok (.tuple #[(Nr (k:Int)),NI true]) ao:=by
   rw[ki];unfold noV;rw[mL.out];rfl
  clear ki;go_simp;go_wp2_with fail;exact z.o):G:=h
theorem aCk (h:G:=by
  rw[<-jN] at cO;have jA:Hid (t0.kids.length=0):=by
   show _=_
   rw[jN];rfl
  have iy:Hid (t0.kd=hd):=by
   show _=_
   rw[jN];rfl
  have pf:=hide jN;obtain⟨aW,hz,BA,gK,ek⟩:=cO.opens;exact z.o):G:=h
theorem aCl (h:G:=by
  have kR:j<cK:=Ns yQ d j t cK m5 U;rw[U] at ah k9;simp only[bind_ok] at k9;clear U;go_wp2_with fail;refine cm ah.out ?_;intro e bB al;obtain⟨⟨v4,rfl,kt,rfl,rp⟩,a8,aw⟩:=al;exact z.o):G:=h
theorem aug (h:G:=by
  refine O0 17 fun K A=>?_;go_simp;refine ko A ?_;clear A K;refine uz 18 ev ?_;refine QX ?_ _;go_simp;exact z.o):G:=h
theorem au5 (h:G:=by
  obtain⟨w2,bu⟩:=xH (w.alloc (.cells #[Qb] 122));have aE:NJ w w2:=by rw[bu.out];exact OM
  exact z.o):G:=h
theorem atv (h:G:=by
  obtain⟨q,ag⟩:=xE (ps[k]);rw[<-ag] at eI ah;have hL:(k:Int)<(t.kids.length:Int):=Nw;exact z.o):G:=h
theorem azh (h:G:=by
  go_simp;refine A.out _ _ (fun _=>OM.drew) ?_;clear A K;refine O0 6 fun K A=>?_;go_simp;refine cm (Ns bA _ (OM.drew)) ?_;exact avu):G:=h
theorem atW (h:G:=by
  go_enter func291,ntmps291;go_wp2_with fail;rw[<-bu.out,<-bU];clear bU;refine Rj 9 fun ab=>?_;exact z.o):G:=h
theorem ayA (h:G:=by
  have ss:ao.heap[bc]? = some (plO ⟨aq,aF,st⟩ aC)/\ao.cell? (Nv q 1)=some (ND tx):=⟨sr.keep eU.out.1 NH,sr.SX.Wx eU.out.2 ly.out⟩;refine A.out _ _ (fun _=>ss) ?_;clear A K;exact z.o):G:=h
theorem ayW (h:G:=by
  refine up 3 vb 1 ab ?_;refine uk 4 (gc.out.2.1) ab ?_;refine O0 5 fun K A=>?_;go_simp;refine cm (Ns n3 _ ab) ?_;rintro e k2 ⟨rfl,iT⟩;rw[iT];clear iT k2;refine ko A ?_;clear A K;exact z.o):G:=h
theorem aCm (h:G:=by
  have h1:=Wi ae;have ax:((Yp (fx l i)).filter (fun e=>decide (e.parts<2))).isSome=true:=by
   unfold YR at ae;have O:=Option.filter_eq_some_iff.1 ae;rw[O.1];simp[Option.filter,h1.2]
  exact z.o):G:=h
theorem aCn (h:G:=by
  have k9:Hid ((ng d j).bind (fun t a7=>if fx c.l a7=shut then PR.ok (be++[t]) (a7+1) else (OD c.l aaC a7).bind fun _ i2=>Ry c.l shut begins (ng d) k (be++[t]) i2)=r):=Ns bo;exact z.o):G:=h
theorem ayu (h:G:=by
  have fI:=(cV.new lk (YF r6.out _));have pb:=(lC.kp (fun b c e D au=>lk.rest b c e D (by rcases au with rfl|rfl <;> decide)));rw[<-eL] at f3 lj fI pb ⊢;have kH:=hide lj;exact z.o):G:=h
theorem aAO (h:G:=by
  go_enter func110,ntmps110;go_wp2_with fail;rw[<-bu.out,<-b1,<-bU];clear bU b1;refine cm ah ?_;rintro e w1 ⟨⟨u,rfl,U⟩,b4⟩;obtain⟨cT,dO,aO⟩:=N8 U;subst aO;exact z.o):G:=h
theorem aAz (h:G:=by
  have kn:Po { p with scope:=σ1.top } (σ1.opn p.scope o (-2)):=⟨by show (0:Int)<=(σ1.M.NQ.length:Int);omega,by show (σ1.M.NQ.length:Int)<_;simp[St.opn,Mo.scope];omega⟩
  exact z.o):G:=h
theorem aCo (h:G:=by
  refine A.out _ _ bJ (fun _=>?_);clear A K;refine wg 6 (.tuple #[.agg #[OG,Nr 0,Nr 0,Nr 0],NI false]) rfl (Or.inl ⟨by kernel_rfl,fun W a6=>by have hh:=dV.out W a6;go_simp⟩) bJ ?_
  exact z.o):G:=h
theorem axO (h:G:=by
  have bP:=kk (∀{G}(h:G:=by
  obtain⟨_,_,_,fO,_⟩:=node_cells hblk;obtain⟨cT,uc,aO⟩:=Tt hrow;subst aO;exact z.o),G);exact ztq):G:=h
theorem axU (h:G:=by
  obtain⟨cJ,iQ,e4⟩:=List.findIdx?_eq_some_iff_getElem.1 E;have FU:=hide iQ;have FW:=hide e4;have dN:=hide aJ;have tt:=hide (World.block_lt_of_cell? w _ aJ);clear aJ E iQ e4;exact z.o):G:=h
theorem awC (h:G:=by
  have jU:=(cf.trans ((bm.trans (du.mono bm.size)).mono cf.size));have lH:=hide eL;clear ax eL oS;go_wp2_with fail;rw[<-lH.out];refine cm (Ns bJ bB jU) ?_;intro e b' bN;exact z.o):G:=h
theorem az8 (h:G:=by
  rw[<-oZ,<-qF,eD] at fa;have yG:Hid (bL=evR av b8 mG):=by
   show bL=_
   have h:=Ns lD;rw[<-oZ,<-qF,eD] at h;exact h
  have eB:=hide c3;have dL:=cell_lt c3;exact z.o):G:=h
theorem aCp (h:G:=by
  have ah:=(ak.pr (x.str+1) Nw Nw ((bf.setCell (Nv c.R 1) (Nr ((j:Int)+1))).alloc (.cells #[ND x.tx,Nr x.kd,Nr x.parts,Nr x.str] 275)).drew d (j+1) _ rfl (by rw[U];nofun) t1)
  exact z.o):G:=h
theorem aCq (h:G:=by
  have O:=wpOp_putIf tX (hfree j oj tX iF hjun hnot) (fun cs c=>hsel i dQ cs c ay) (fun cs c=>hsel j oj cs c tX) hJ hy (H.2 j (ready_mono aT iF));refine wpOp_mono (fun l9 w' ax=>?_) O;exact z.o):G:=h
theorem ax1 (h:G:=by
  have IJ:N=m+1:=Nw;subst IJ;have hkl':k<bs.length:=by rw[<-dE.out];exact cJ
  have il:(Lm bs k m).length=m+1:=by rw[alW hkl' (by rw[<-dE.out];omega),dE.out]
  exact z.o):G:=h
theorem aCr (h:G:=by
  have HP:=hide al;clear al;go_wp2_with fail;refine(ab3 _ _ _ (by unfold maxLen;simp;omega) (by unfold maxLen;omega)).mono ?_
  rw[HP.out];rintro e w' ⟨rfl,rfl⟩;go_wp2_with fail;exact z.o):G:=h
theorem axh (h:G:=by
  go_enter func104,ntmps104;go_wp2_with fail;rw[<-ip];have ab:NJ ei ei.drew:=P8.drew;refine wp_region_held (S:=fun X=>NJ ei X) OJ ?_;change wpAnyH _ _ _ _ _ _ _ _ (World.drew _);exact z.o):G:=h
theorem ayD (h:G:=by
  go_enter func268,ntmps268;go_wp2_with fail;rw[<-bu.out,<-uX.out];refine cm lE ?_;rintro e k2 ⟨rfl,iT⟩;rw[iT];clear iT k2;go_wp2_with fail;refine Rj 6 fun ab=>?_;exact z.o):G:=h
theorem aCs (h:G:=by
  have ah:=(aCt ak ((bf.setCell (Nv c.R 1) (Nr ((i:Int)+1))).alloc (.cells #[ND x.tx,Nr x.kd,Nr x.parts,Nr x.str] 275)).drew d (i+1) t1 (by rw[U];nofun))
  rw[U] at ah ba;exact z.o):G:=h
theorem azq (h:G:=by
  have cz:=hide aH;clear aH gw;go_wp2_with fail;obtain⟨b3,bz,bb,bx,bv,bi,aY,aX,cu⟩:=rt4 gb.out cI.out bI ig ns (NI false) (Nr ew) (Nr dC) (ND eE);rw[<-bz];exact z.o):G:=h
theorem az3 (h:G:=by
  go_simp;refine cm (Ns om _ ab) ?_;rintro e eh ⟨rfl,J0,zF,ru,m3⟩;have g3:=l7.later ab;have fG:=m3.ZO (L:=some lb) g3;have m2:=m3.ZO (L:=none) g3;exact z.o):G:=h
theorem aCu (h:G:=by
  have ah:=(Xp 348 349 (isVal c.l) (aeN c.l F) Qi RJ (afY c) (aq4 ak) aCv aCw NH NH (aq5 cM) F.fuel e9.drew d j _ rfl (by rw[U];nofun) jE.drew)
  exact z.o):G:=h
theorem aA5 (h:G:=by
  refine O0 4 fun K A=>?_;go_simp;refine cm (Ns eO _) ?_;rintro e ea ⟨rfl,cn⟩;have ke:NJ wz ea:=ab.trans cn;refine A.out _ _ (fun _=>ke) ?_;clear A K;exact z.o):G:=h
theorem aw6 (h:G:=by
  obtain⟨g,cap,q,ap,hg,ai,aA⟩:=(dk.later D).cell k aQ;simp only[Value.slice.injEq] at ap;obtain⟨rfl,_,rfl⟩:=ap;have hL:(k:Int)<(am.length:Int):=Nw;exact z.o):G:=h
theorem aCx (h:G:=by
  have dt:=((Ap.refl c.R jS.heap.size jS).drew).next aw;have kK:Hid (Ap c.R jS.heap.size jS aD/\OU c aD i5 d/\O7 (From jS.heap.size) aD b2 cw):=⟨dt,a8,ht⟩;exact z.o):G:=h
theorem aAo (h:G:=by
  have hW:=hide (ak.keep fM.out NH);have l0:=aK;have yL:=aI;have ho:=(gq.trans ak);obtain⟨v9,qB⟩:=xE bL.1.1;rw[<-qB];have jn:=hide qB;clear aI ak qB;exact z.o):G:=h
theorem aCy (h:G:=by
  have rH:=(o'.alloc o'.size (.cells #[ND x.tx,Nr x.kd,Nr x.parts,Nr x.str] 275));have qX:=(l3.alloc (.cells #[ND x.tx,Nr x.kd,Nr x.parts,Nr x.str] 275));exact z.o):G:=h
theorem aCz (h:G:=by
  have dt:=((Ap.refl c.R w2.heap.size w2).drew).next aw;have kK:Hid (Ap c.R w2.heap.size w2 aD/\OU c aD hc d/\O7 (From w2.heap.size) aD lu cw):=⟨dt,a8,jL⟩;exact z.o):G:=h
theorem aCA (h:G:=by
  have ah:=(ak.pr 2 NH NH (wt.alloc (.cells #[Nr (Ox c.l i).kd,ND (Ox c.l i).tx,Nr (Ox c.l i).n,Nr ((Ox c.l i).pl:Int)] 144)) d i _ rfl (by rw[U];nofun) Cu)
  exact z.o):G:=h
theorem azZ (h:G:=by
  have B7:=hide (fun X (aK:Ms w0 mb af aa X σ) (qm:Oa aa X a d)=>am7 aK aJ Nw qm ai ⟨aq,aF,false⟩ aC al);rw[fk,<-bo.out] at B7;have lD:=hide br;exact z.o):G:=h
theorem awX (h:G:=by
  have D:=YL bf bH s i kd n tx e aQ lN U;rw[QJ bf bH s i be kd n tx e aQ U D.1] at h;have rd:=Ug QN s e;have h5:=RZ QN s e D.2;exact z.o):G:=h
theorem aCB (h:G:=by
  refine wg 6 (.tuple #[.agg #[ND x.tx,Nr x.kd,Nr x.parts,Nr x.str],NI true]) rfl (Or.inl ⟨by kernel_rfl,fun W a6=>by have hh:=ep.out W a6;go_simp⟩) bJ ?_
  exact z.o):G:=h
theorem aCC (h:G:=by
  obtain⟨iP,_,_,_,_⟩:=node_cells ek.blk;rw[iy.out] at iP;have tU:=lt_of_heap ek.blk;rw[iG] at ek iP tU;have jE:=cP;have j8:=c';clear gK jN;exact z.o):G:=h
theorem aBk (h:G:=by
  rw[de,b1,show w.heap.size+2=((w.alloc (.cells #[Nr aq,Nr aF,NI st,.pointer aC] 73)).alloc (.cells #[NI fY,Nr ok,Nr on,ND fX] 67)).heap.size by simp];exact z.o):G:=h
theorem azS (h:G:=by
  rintro e ao ⟨⟨j7,rfl,iI⟩,bm⟩;obtain⟨va,dv,wo⟩:=N8 iI;subst wo;have eF:=(ej.later bm);have cV:=(da.trans (P9.of bm (Oi ej.lt)));exact z.o):G:=h
theorem azN (h:G:=by
  rw[al] at hP;have HP:=hP;have aH:r=none:=by rw[U];unfold evT;rw[al]
  subst aH;clear U al;go_enter func321,ntmps321;go_wp2_with fail;refine cm HP ?_;exact z.o):G:=h
theorem azf (h:G:=by
  have yK:=aI;have dG:=hide (stays iC dU.out);have uM:=(jl.later iC);have fc:=(di.trans (Om.of (L:=none) iC (Oi ee)));obtain⟨v9,qB⟩:=xE ro.1;exact z.o):G:=h
theorem axZ (h:G:=by
  obtain⟨hz,ER⟩:=hget 0 NH;obtain⟨g4,bG⟩:=hget 1 NH;obtain⟨gR,iU⟩:=hget 2 NH;obtain⟨j7,wG⟩:=hget 3 NH;obtain⟨um,ES⟩:=hget 4 NH;exact z.o):G:=h
theorem aCD (h:G:=by
  intro e w1 al;obtain⟨⟨v1,rfl,gG⟩,a8,aw⟩:=al;have eo:=(fA.next aw);have eg:=(KV.mono gG.1 fA.size);clear h;obtain⟨va,dv,rfl⟩:=eg.shape;exact z.o):G:=h
theorem azw (h:G:=by
  go_wp2_with fail;obtain⟨b3,bz,bb,bx,bv,bi,aY,aX,cu⟩:=rt4 dU.out cI.out bI (Om.up (L:=L) di) g6 (NI false) (Nr 0) (Nr 0) (OG);rw[<-bz];exact z.o):G:=h
theorem axA (h:G:=by
  unfold U0 at h;obtain⟨_,i0,h0,h⟩:=binds h;obtain⟨b,a7,h1,h⟩:=binds h;obtain⟨c,i2,O,h⟩:=binds h;obtain⟨f,i3,ax,h⟩:=binds h;exact z.o):G:=h
theorem aCE (h:G:=by
  have tJ:=Dv.later hbel;obtain⟨t,fr,hg⟩:=tJ.hw;have ge:=ad2 bf s k w2 ae E tJ.lw t fr hg;rw[dk.out] at ge;refine cm ge ?_;clear hg;exact z.o):G:=h
theorem axW (h:G:=by
  have c7:∀ j,ao.cell? (Nv g j)=wr.cell? (Nv g j):=fun j=>by
   rw[cell_below fw (a:=(Nv g j)) (by show g<_;omega),World.cell?_alloc_past _ _ _ dx]
  exact z.o):G:=h
theorem aCF (h:G:=by
  have tJ:=Dv.later s0;obtain⟨t,fr,hg⟩:=tJ.hg;have ge:=ad3 bH s k bB ae E tJ.lg tJ.zg t fr hg;rw[dk.out] at ge;refine cm ge ?_;exact z.o):G:=h
theorem aA0 (h:G:=by
  unfold Oo;have E:k<s.data.toList.length:=by simpa using h
  have e:s.data.toList.drop k=s[k]::s.data.toList.drop (k+1):=List.drop_eq_getElem_cons E;exact z.o):G:=h
theorem axG (h:G:=by
  have ai:wr.cell? (Nv g k)=some (Nu q):=by rw[hbel.cell (p:=(Nv g k)) hg];exact ge
  have hL:(k:Int)<(am.length:Int):=Nw;have c9:=hbel.size;exact z.o):G:=h
theorem azH (h:G:=by
  rintro e eh ⟨⟨BI,rfl,dh⟩,fW⟩;obtain⟨va,dv,Je⟩:=N8 dh;subst Je;obtain⟨l,D3⟩:=xE (O1 bl.2);rw[<-D3] at dh xV gb ⊢;exact z.o):G:=h
theorem aAB (h:G:=by
  refine Rj 16 fun ab=>?_;refine up 0 q 0 ab ?_;refine up 1 bc 0 ab ?_;refine uk 2 (dF.out.1) ab ?_;refine up 3 bc 2 ab ?_;refine uk 4 (dF.out.2.2.1) ab ?_;exact z.o):G:=h
theorem aCG (h:G:=by
  go_simp;refine A _ _ ?_;clear A K;refine P6 8 fun K A=>?_;have z:=kk (∀{G}(h:G:=by
  rintro e BJ ⟨rfl,rfl⟩;refine A _ _ ?_;clear A K;refine P6 9 fun K A=>?_;exact aEI),G);exact avH):G:=h
theorem aCH (h:G:=by
  go_simp;refine A _ _ ?_;clear A K;refine P6 9 fun K A=>?_;have z:=kk (∀{G}(h:G:=by
  refine P6 10 fun K A=>?_;exact avJ),G);exact avE):G:=h
theorem avK (h:G:=by
  obtain⟨gs,gt,hF⟩:=(Open.later cg dt bS.out).cell;exact avm):G:=h
theorem avL (h:G:=by
  obtain⟨gs,gt,hF⟩:=(Open.later cg dt bS.out).cell;exact avM):G:=h
theorem az4 (h:G:=by
  refine A.out _ _ (fun _=>su) ?_;clear A K;have tH:Om (some lb) mb b9 eh:=(Om.of cn (Oi rk)).trans fG;have pw:Ms w0 mb af aa eh sX:=⟨_,_,_,_,ru⟩;have xJ:Kp b9 eh:=fun b c e D au=>m3.kp g3 b c e (Kp.of cn b c e D au) au;have tI:NY eh (some lb) (some vU):=m2.keep (stays cn Cf) NH;have AM:=ru.lt;have Jp:eh.heap[b9.heap.size]? = some (Og #[NI false,Nr 0,Nr 0,OG] 67):=m2.keep (NG b9.drew _) NH;refine O0 9 fun K A=>?_;go_simp;refine cm (Ns fa _ (pw) xJ (tI)) ?_;rintro e aD ⟨⟨ev,rfl,aI⟩,gY,gu,gD⟩
  refine ko A ?_;clear A K;have fe:aD.heap[b9.heap.size]? = some (Og #[NI false,Nr 0,Nr 0,OG] 67):=gu.P7 tI Jp NH NH;have z:=kk (∀{G}(h:G:=by
  have ch:=SB.early (w2:=b9) (o:=bG) fe OH (Oi rk) aI gY (tH.trans gu) gD
  generalize (((aD.setCell (Nv b9.heap.size 0) (NI bG.ret)).setCell (Nv b9.heap.size 1) (Nr bG.v.k)).setCell (Nv b9.heap.size 2) (Nr bG.v.n)).setCell (Nv b9.heap.size 3) (ND bG.v.s)=wz at ch ⊢
  generalize b9.heap.size=vb at ch ⊢
  exact dI wz vb ev ch),G);exact aCd):G:=h
theorem aCI (h:G:=by
  have z:=kk (∀{G}(h:G:=by
  refine wr2 4 7 (fun K A=>?_) fun K A=>?_
  ·go_simp;refine A _ _ ?_;clear A K;refine P6 7 fun K A=>?_;exact aCG
  ·go_simp;refine A _ _ ?_;clear A K;refine wr2 4 8 (fun K A=>?_) fun K A=>?_
   ·exact aCG
   ·have z:=kk (∀{G}(h:G:=by
    rintro e BJ ⟨rfl,rfl⟩;exact avM),G);exact avH),G);exact aq0):G:=h
theorem atc (h:G:=by
  have z:=kk (∀{G}(h:G:=by
  have ah:=(ZK t p s i b ei vQ Nw);have h0:=km.c0;have h1:=km.c1;have O:=km.c2
  generalize brE t s=er at ah
  exact alB),G);exact zsp):G:=h
theorem az1 (h:G:=by
  go_simp;have cn:NJ eh (eh.alloc (.cells #[NI false,Nr 0,Nr 0,OG] 67)):=OM;refine A.out _ _ (fun _=>⟨stays cn su.1,Oj cn su.2⟩) ?_;clear A K;refine O0 9 fun K A=>?_;go_simp;refine cm (Ns fa _ (pw.later cn) (fun b c e D au=>Kp.of cn b c e (xJ b c e D au) au) (tI.later cn)) ?_;rintro e aD ⟨⟨ev,rfl,aI⟩,gY,gu,gD⟩;refine ko A ?_;clear A K;have fe:aD.heap[eh.heap.size]? = some (Og #[NI false,Nr 0,Nr 0,OG] 67):=gu.P7 (tI.later cn) (NG _ _) NH NH;have z:=kk (∀{G}(h:G:=by
  have ch:=SB.early (w2:=b9) (o:=bG) fe tH.below.size (Oi rk) aI gY ((tH.trans (Om.of cn (Oi AM))).trans gu) gD
  generalize (((aD.setCell (Nv eh.heap.size 0) (NI bG.ret)).setCell (Nv eh.heap.size 1) (Nr bG.v.k)).setCell (Nv eh.heap.size 2) (Nr bG.v.n)).setCell (Nv eh.heap.size 3) (ND bG.v.s)=wz at ch ⊢
  generalize eh.heap.size=vb at ch ⊢
  exact dI wz vb ev ch),G);exact aCd):G:=h
theorem aCJ (h:G:=by
  have z:=kk (∀{G}(h:G:=by
  have z:=kk (∀{G}(h:G:=by
  refine wr2 4 8 (fun K A=>?_) fun K A=>?_
  ·go_simp;refine A _ _ ?_;clear A K;refine P6 8 fun K A=>?_;have z:=kk (∀{G}(h:G:=by
   have dt:=((Ap.refl c.R gS.heap.size gS).drew).next aw;have kK:Hid (Ap c.R gS.heap.size gS aD/\OU c aD hc d/\O7 (From gS.heap.size) aD lu cw):=⟨dt,a8,jL⟩;exact avK),G);exact afV
  ·have z:=kk (∀{G}(h:G:=by
   have dt:=((Ap.refl c.R gS.heap.size gS).drew).next aw;have kK:Hid (Ap c.R gS.heap.size gS aD/\OU c aD hc d/\O7 (From gS.heap.size) aD lu cw):=⟨dt,a8,jL⟩;exact avL),G);exact afV),G);exact akL),G);exact Zo):G:=h
theorem axb (h:G:=by
  have z:=kk (∀{G}(h:G:=by
  have ah:=(Yo t p s i b ei vQ E ai);have h0:=km.c0;have h1:=km.c1;have O:=km.c2
  generalize fnE t s=er at ah
  exact alB),G);exact zsp):G:=h
theorem az6 (h:G:=by
  subst au;have br:ev=Pe:=uC;subst br;obtain⟨vl,h7⟩:∃ vl,b8=some vl:=by
   have h:=yW
   cases b8 with
   | none=>exact h.elim
   | some v=>exact⟨v,rfl⟩
  subst h7;have D6:wt.heap[lb]? = some (XI vl):=yW;obtain⟨hk,gn,gp,_,hm⟩:=cells3 D6;clear D6;go_wp2_with fail;obtain⟨b3,bz,bb,bx,bv,bi,aY,aX⟩:=rt3 p7.out cI.out bI qQ y1 (Nr vl.k) (Nr vl.n) (ND vl.s);rw[<-bz];refine bodyPost_ret (v:=.tuple #[vA vl,Pe]) (by simp[results,results322,go_sem,bi,aY,aX]) rfl ?_;rw[yG.out];exact⟨⟨_,rfl,rfl⟩,bv,bx⟩):G:=h
theorem ay7 (h:G:=by
  refine uk 6 s5.out ab ?_;refine uk4 7 Cp.out ab ?_;refine uq2 8 12 (fun K A=>?_) fun K A=>?_
  ·have z:=kk (∀{G}(h:G:=by
   refine uz 14 ev ?_;refine QX ?_ _;go_simp;have ch:=VB.late (v:=v1) aI aK ((Om.of ab (Oi gh)).trans ak);exact auy),G);exact ap0
  ·exact aEj):G:=h
theorem avJ (h:G:=by
  go_simp;refine A _ _ ?_;clear A K;exact SQ (listed':=tf 11 4) OJ OJ (dI aD cw kK.out)):G:=h
theorem aAj (h:G:=by
  rintro e aD ⟨⟨ev,rfl,aI⟩,aK,ak⟩;have dG:=hide (ak.keep c8.out NH);have fc:=(cV.trans ak);obtain⟨v9,qB⟩:=xE rs.1.1;have z:=kk (∀{G}(h:G:=by
  have z:=kk (∀{G}(h:G:=by
  refine bodyPost_ret (v:=.tuple #[vA v9,ev]) (by simp[results,results300,go_sem,bi,aY,aX]) rfl ?_;exact⟨⟨_,by rw[jn.out],aI.O6 bb NH⟩,bv,bx⟩),G);exact akj),G);exact ap6):G:=h
theorem aA6 (h:G:=by
  go_wp2_with fail;refine cm ah ?_;rintro e E3 ⟨rfl,xU⟩;have iY:=(D.trans (xU.mono D.size))
  cases r with
  | some e=>
   have bZ:vh=some e:=by rw[s4.out];exact Ns hX e rfl
   subst bZ;unfold Ub;go_wp2_with fail;go_ret;exact⟨rfl,du.trans (iY.mono du.size)⟩
  | none=>
   unfold Ub;go_wp2_with fail
   go_roundw
   case rel=>exact⟨k+1,by omega,by go_num,Ns ej trivial,iY⟩
   case measure=>simp[intOf];omega):G:=h
theorem aCK (h:G:=by
  have z:=kk (∀{G}(h:G:=by
  refine P6 7 fun K A=>?_;go_simp;refine A _ _ ?_;clear A K;refine P6 8 fun K A=>?_;have z:=kk (∀{G}(h:G:=by
  rintro e BJ ⟨rfl,rfl⟩;exact avm),G);exact avH),G);exact aq0):G:=h
theorem aCL (h:G:=by
  have jB:=(Open.later cg (Ap.of g0) bS.out).ev
  cases U:OD c.l O5 bW with
  | out=>
   exact QA
  | bad er p=>
   exact aEx
  | ok dD cK=>
   have ah:=(Oz c O5 gS bW d qZ NH);have z:=kk (∀{G}(h:G:=by
   intro e w2 al;obtain⟨⟨v2,rfl,rfl⟩,a8,aw⟩:=al;have ec:=(pa.next aw);exact aBn),G);exact WH):G:=h
theorem aCM (h:G:=by
  have ah:=(Oz c tEq dM bW d Cv NH);rw[F8.out] at ah;go_wp2_with fail;refine cm ah ?_;intro e E2 al;obtain⟨⟨Ni,rfl,rfl⟩,a8,aw⟩:=al;have Ct:=a8;have ym:=(yn.next aw);replace eg:=(QW eg aw bS.out);clear tC
  cases U:OL c.l F.vl d (bW+1) with
  | out=>
   exact QA
  | bad er p=>
   exact aEw
  | ok dD cK=>
   exact aEn):G:=h
theorem avN (h:G:=by
  go_simp;refine A _ _ ?_;clear A K;exact SQ (listed':=tf 10 4) OJ OJ (dI aD cw kK.out)):G:=h
theorem aCN (h:G:=by
  have bP:=kk (∀{G}(h:G:=by
  rintro bC w2 ⟨rfl,rfl⟩;exact aBb),G);exact zto):G:=h
theorem aze (h:G:=by
  refine QX ?_ _;go_simp;go_wp2_with fail;obtain⟨b3,bz,bb,bx,bv,bi,aY,aX⟩:=rt3 dG.out cI.out bI fc uM (Nr v9.k) (Nr v9.n) (ND v9.s);rw[<-bz];refine bodyPost_ret (v:=.tuple #[vA v9,ev]) (by simp[results,results259,go_sem,bi,aY,aX]) rfl ?_;rw[bJ.out];exact⟨⟨_,by rw[jn.out],yK.O6 bb NH⟩,bv,bx⟩):G:=h
theorem az7 (h:G:=by
  have cz:=hide aH;clear aH au;go_wp2_with fail;obtain⟨b3,bz,bb,bx,bv,bi,aY,aX⟩:=rt3 p7.out cI.out bI qQ y1 (Nr 0) (Nr 0) (OG);rw[<-bz];refine bodyPost_ret (v:=.tuple #[vA vU,.iface et ex]) (by simp[results,results322,go_sem,bi,aY,aX,vU]) rfl ?_;rw[cz.out];exact⟨⟨_,rfl,uC.O6 bb NH⟩,bv,bx⟩):G:=h
theorem azg (h:G:=by
  refine QX ?_ _;go_simp;have ch:=VB.early (v:=v1) fe OH (Oi dc) aI aK ((Om.of (OM.drew) (Oi dc)).trans ak)
  generalize ((aD.setCell (Nv w2.heap.size 0) (Nr v1.k)).setCell (Nv w2.heap.size 1) (Nr v1.n)).setCell (Nv w2.heap.size 2) (ND v1.s)=wz at ch ⊢
  generalize w2.heap.size=vb at ch ⊢
  exact dI wz vb ev ch):G:=h
theorem avn (h:G:=by
  generalize aD.alloc (.cells #[NI bG.ret,Nr bG.v.k,Nr bG.v.n,ND bG.v.s] 67)=wz at ch ⊢
  generalize aD.heap.size=vb at ch ⊢
  exact dI wz vb ev ch):G:=h
theorem aCO (h:G:=by
  have z:=kk (∀{G}(h:G:=by
  have z:=kk (∀{G}(h:G:=by
  intro e w2 al;obtain⟨⟨v2,rfl,rfl⟩,a8,aw⟩:=al;have ec:=(jC.next aw);exact aBn),G);exact WH),G);exact avo):G:=h
theorem ap5 (h:G:=by
  go_wp2_with fail;obtain⟨bL,dh⟩:=xE (Pg false);have h3:=UA false wz;exact aup):G:=h
theorem avj (h:G:=by
  generalize aD.alloc (.cells #[Nr v1.k,Nr v1.n,ND v1.s] 65)=wz at ch ⊢
  generalize aD.heap.size=vb at ch ⊢
  exact dI wz vb ev ch):G:=h
theorem aBh (h:G:=by
  obtain⟨ai,aG⟩:=YJ nI;have ie:=hide D;clear D jt;go_wp2_with fail;exact bodyPost_ret (v:=.tuple #[Xn,Nr 0,.iface 150 (NM b 0)]) (by simp[results,results68,go_sem,ai]) rfl ⟨b,rfl,YK nI qt ie.out _ _ _ _⟩):G:=h
theorem aqN (h:G:=by
  rw[cz.out];exact⟨⟨_,rfl,jy.O6 bb NH⟩,bv,bx,bS.Rk bb⟩):G:=h
theorem aBa (h:G:=by
  have cM:k=t.kids.length:=Nw;subst cM;have mZ:vh=none:=by
   have h1:=Ns fJ;rw[List.take_length] at h1;rw[s4.out];exact h1
  subst mZ;go_wp2_with fail;go_ret;exact⟨rfl,du.trans (D.mono du.size)⟩):G:=h
theorem aBe (h:G:=by
  have h1:=cf;rw[gN];refine⟨h1.os,h1.tape,h1.output,by simpa using h1.size,fun k E=>?_⟩;rw[Below.heap_setCell jg (Nv w.heap.size 2) _ k (by show k≠w.heap.size;omega)]
  exact h1.block k E):G:=h
theorem ayI (h:G:=by
  rintro e b' ⟨⟨ev,rfl,aI⟩,fv⟩;have hV:=(kF.later fv);have gq:=(fI.trans (Om.of (L:=none) fv (Oi gx)));go_wp2_with fail;go_ret;exact⟨⟨_,rfl,aI⟩,hV,gq⟩):G:=h
theorem aEH (h:G:=by
  rw[X9 s k e i gE ay];have kh:i<e - k:=by rw[extract_size s k e Nw gE] at ay;exact ay
  exact ad1 Pz s (s.size - k) k Nw (k+i) Nw (by rw[dw.out];omega) Nw):G:=h
theorem avk (h:G:=by
  intro e w' al;obtain⟨rfl,aw⟩:=al;exact⟨rfl,Pn ba.out.symm (fA.next aw)⟩):G:=h
theorem aur (h:G:=by
  have cK:¬ v2.k=3:=fun h=>w1 bW h;clear w1 un uo bB;go_wp2_with fail;exact amR):G:=h
theorem avO (h:G:=by
  rintro kc b' ⟨rfl,fv⟩;have nI:=s0.trans (fv.mono s0.size);exact aBi):G:=h
theorem azM (h:G:=by
  have bM:=D;go_wp2_with fail;refine cm (VH SE w1) ?_;rintro e ao ⟨⟨tb,rfl,_,aI⟩,bm⟩;have ef:=(bM.trans (bm.mono bM.size));exact azL):G:=h
theorem avl (h:G:=by
  cases av with
  | no=>exact absurd rfl au
  | stop=>rfl
  | mis=>rfl
  | Wq x=>rfl):G:=h
theorem azx (h:G:=by
  rw[<-bz];refine bodyPost_ret (v:=.tuple #[vA bL,Pe]) (by simp[results,results196,go_sem,bi,aY,aX]) rfl ?_;exact⟨⟨_,rfl,rfl⟩,bv,bx⟩):G:=h
theorem azj (h:G:=by
  obtain⟨et,ex,br⟩:=aN.er.Vs au ae;subst br;have aH:rs=((PX,av,l),σ1):=by
   rw[bD.out];unfold chQ;rw[bY.out];exact XJ
  exact aEu):G:=h
theorem ayS (h:G:=by
  obtain⟨et,ex,br⟩:=aN.er.Vs au ae;subst br;have aH:rs=((v1,av),σ1):=by
   rw[bD.out];unfold aaT;rw[bY.out];exact XJ
  exact aEh):G:=h
theorem aBp (h:G:=by
  have bJ:=a8;replace jB:=(EV.later jB aw bS.out);have jN:=Ns pf;subst jN;go_wp2_with fail;go_ret;exact RG ba.out.symm jB.nv bJ eo):G:=h
theorem avh (h:G:=by
  rw[U] at k9;simp only[abq] at k9;exact absurd k9.out.symm dr.out):G:=h
theorem aCP (h:G:=by
  have bj:=hr2;have bu:=aE;rw[<-iA];clear iA;refine A.out _ _ bj (fun _=>?_);clear A K;refine wh 12 (NI false) bj ?_;exact aBj):G:=h
theorem aCQ (h:G:=by
  have bj:=hr2;have bu:=aE;rw[<-iA];clear iA;refine A.out _ _ bj (fun _=>?_);clear A K;refine wh 12 (NI true) bj ?_;exact aBj):G:=h
theorem aAc (h:G:=by
  rw[av];have gg:(Instr.lookup 80 (.map (some af)) (Nu p) true).run prog w=.ok (.tuple #[Nr (k:Int),NI true]) w:=hl;exact aBv):G:=h
theorem aAb (h:G:=by
  rw[av];have gg:(Instr.lookup 80 (.map (some af)) (Nu p) true).run prog w=.ok (.tuple #[Nr 0,NI false]) w:=hl;exact aBv):G:=h
theorem aBg (h:G:=by
  go_simp;refine cm ah ?_;intro e w' al;obtain⟨rfl,aw⟩:=al;exact⟨rfl,Pn ba.out.symm (pa.drew.next aw)⟩):G:=h
theorem aA3 (h:G:=by
  rw[bD.out];unfold U3;rw[bY.out]
  cases av with
  | no=>exact absurd rfl gw
  | stop=>rfl
  | mis=>rfl
  | Wq x=>rfl):G:=h
theorem ax5 (h:G:=by
  go_wp2_with fail;refine cm dK ?_;rintro e w' ⟨rfl,rfl⟩;go_wp2_with fail;refine cm ez ?_;exact ayn):G:=h
theorem X6 (h:G:=by
  clear bK hr2 ds cH d5 bq bn;go_enter func196,ntmps196;have z:=kk (∀{G}(h:G:=by
  have z:=kk (∀{G}(h:G:=by
  have bA:=(Ns ah wz g6 g8);rw[<-bo.out] at g' g7 bA;have z:=kk (∀{G}(h:G:=by
  rintro e aD ⟨⟨ev,rfl,aI⟩,aK,ak⟩;have dG:=hide (ak.keep dU.out NH);have fc:=(di.trans ak);obtain⟨v9,jn⟩:=xH rs.1.1;rw[<-jn.out];clear aW p1 cr cL dY g7 g';obtain⟨hz,g4,gR,kx,ky,kz,kA⟩:=Ot dG.out;have z:=kk (∀{G}(h:G:=by
  refine bodyPost_ret (v:=.tuple #[vA v9,ev]) (by simp[results,results196,go_sem,bi,aY,aX]) rfl ?_;exact⟨⟨_,by rw[jn.out],aI.O6 bb NH⟩,bv,bx⟩),G);exact akj),G);exact aql),G);exact ahk),G);exact aa3):G:=h
theorem adt (h:G:=by
  refine Rj 8 fun ab=>?_;have z:=kk (∀{G}(h:G:=by
  have z:=kk (∀{G}(h:G:=by
  refine uk4 7 ga.out ab ?_;refine uq2 8 12 (fun K A=>?_) fun K A=>?_
  ·have z:=kk (∀{G}(h:G:=by
   refine uz 14 ev ?_;refine QX ?_ _;go_simp;have ch:=VB.late (v:=v1) aI aK ((Om.of ab (Oi dc)).trans ak);exact avj),G);exact ap0
  ·have z:=kk (∀{G}(h:G:=by
   have fe:aD.heap[w2.heap.size]? = some (Og #[Nr 0,Nr 0,OG] 65):=ak.keep (NG _ _) NH;have z:=kk (∀{G}(h:G:=by
   refine O0 13 fun K A=>?_;go_simp;refine ko A ?_;clear A K;refine uz 14 ev ?_;exact azg),G);exact ap1),G);exact ap2),G);exact amO),G);exact U5):G:=h
theorem azU (h:G:=by
  refine cm (Ns cg bf qb) ?_;rintro e ao ⟨rfl,sQ,e8,cQ⟩;have fG:=cQ.ZO (L:=none) qb;have cV:=(wX.trans fG);have fi:=hide (fG.keep p6.out NH);have c8:=hide (fG.keep fE.out NH);have jz:Kp w2 ao:=fun b c e D au=>cQ.kp qb b c e (p0 b c e D au) au;obtain⟨aW,p1,cr,cL,gQ,dY⟩:=cells4 fi.out;have o6:=gQ 0;have By:=gQ 1;have wK:=gQ 3;clear gQ;go_wp2_with fail;have lP:mb<=bc:=Nw;have lk:=U6 (j:=0) fi.out lP (Nr dT);have lj:=XE fi.out (Nr dT);have Ba:=U6 (j:=1) lj lP (Nr dT)
  have AU:=aqv lj (Nr dT);obtain⟨jf,lp⟩:=xE ((ao.setCell (Nv bc 0) (Nr dT)).setCell (Nv bc 1) (Nr dT));have Es:jf.heap.size=ao.heap.size:=by rw[lp];simp
  have k':=((e8.Xd lk NH).Xd Ba NH);have ig:Om none mb w ((ao.setCell (Nv bc 0) (Nr dT)).setCell (Nv bc 1) (Nr dT)):=(cV.newT lk (fun b D=>heap_setCell_other _ _ _ _ (show b≠bc by omega))).newT Ba (fun b D=>heap_setCell_other _ _ _ _ (show b≠bc by omega));have gb:Hid (jf.heap[aR]? = some (Og #[Nr 0,Nr 0,OG] 65)):=by show _=_;rw[lp,heap_setCell_other _ _ _ _ (Ne.symm d5),heap_setCell_other _ _ _ _ (Ne.symm d5)];exact Ns c8
  have k5:Kp w2 ((ao.setCell (Nv bc 0) (Nr dT)).setCell (Nv bc 1) (Nr dT)):=fun b c e D au=>Ba.rest b c e (lk.rest b c e (jz b c e D au) (by rcases au with rfl|rfl <;> decide)) (by rcases au with rfl|rfl <;> decide);rw[<-lp] at k' ig k5 AU ⊢;have iM:=hide AU;rw[<-Es];clear lj AU lp Es lP;have z:=kk (∀{G}(h:G:=by
  clear ha g2 AK qw A3 hsz5 jt aW p1 cr cL o6 By wK dY;have ql:=lB.kp nq;obtain⟨cT,dO,c3,hrow⟩:=ql.ar;obtain⟨gy,g1⟩:=xE d.2.kids.length;rw[<-g1] at c3 hrow;rw[<-bo.out] at c3;obtain⟨zp,oZ⟩:=xE ((NW d ⟨dT,dT,true⟩ fH).1);obtain⟨sX,qF⟩:=xE ((NW d ⟨dT,dT,true⟩ fH).2);have om:=hide (fun X (aj:NJ b9 X)=>afG (l7.later aj) nD Nw (ql.kp (Kp.of aj)) ai O ⟨dT,dT,true⟩ (some (Nv lb 0)) IP);rw[<-oZ,<-qF,<-bo.out] at om
  rcases eD:QC F zp (O3 d) (some vU) sX with ⟨⟨bG,av,b8⟩,mG⟩
  have fa:=hide (fun X (aK:Ms w0 mb af aa X sX) (E:Kp b9 X) (hl:NY X (some lb) (some vU))=>Ns ah X (.slice cT gy dO) lb ⟨dT,dT,true⟩ fH D8 jy.out (by rw[<-qF];exact aK) (hrow.kp E) (RV.kp E _ _ ql.ndl) hl)
  have z:=kk (∀{G}(h:G:=by
  have m9:∃ c,b9.heap[q]? = some (Og c 40):=by
   have h1:=ql.at_;rw[bo.out]
   cases a with
   | mk p kd tx n ks=>
    rw[QD] at h1;obtain⟨_,_,⟨v,D,_⟩,_⟩:=h1;exact⟨_,D⟩
  have ix:=hide m9;clear c3 g1 eD m9 oZ qF;have cX:b9.drew.heap[bc]? = some (Og #[Nr dT,Nr dT,NI true,NM lb 0] 73)/\b9.drew.cell? (Nv q 3)=some (.slice cT gy dO):=⟨stays (Below.refl b9.heap.size b9).drew l1.out,Oj (Below.refl b9.heap.size b9).drew eB.out⟩;refine UC (H:=fun wz vb ev=>SB w0 mb af aa es (some lb) b9 bG av b8 mG wz vb ev) (G:=?GG) (fun dI=>?ways) ?rest
  case ways=>
   have ab:NJ b9 b9.drew:=P8.drew;refine PO 9 (fun X=>X.heap[bc]? = some (Og #[Nr dT,Nr dT,NI true,NM lb 0] 73)/\X.cell? (Nv q 3)=some (.slice cT gy dO)) OJ ?_;refine up 0 mb 0 cX ?_;refine up 1 q 0 cX ?_;refine up 2 q 0 cX ?_;refine up 3 q 3 cX ?_;refine uc 4 (.slice cT gy dO) rfl (Or.inl ⟨by kernel_rfl,fun X aj=>by have h0:=aj.2;go_simp⟩) (cX) ?_
   refine up 5 mb 0 cX ?_;refine up 6 q 0 cX ?_;refine uc 7 (.agg #[Nr dT,Nr dT,NI true,NM lb 0]) rfl (Or.inl ⟨by kernel_rfl,fun X aj=>by have h0:=(cells4 aj.1).1;have h1:=(cells4 aj.1).2.1;have O:=(cells4 aj.1).2.2.1;have ax:=(cells4 aj.1).2.2.2.1;go_simp⟩) (cX) ?_
   refine uq2 8 13 (fun K A=>?_) fun K A=>?_
   ·have z:=kk (∀{G}(h:G:=by
    have su:eh.heap[bc]? = some (Og #[Nr dT,Nr dT,NI true,NM lb 0] 73)/\eh.cell? (Nv q 3)=some (.slice cT gy dO):=⟨m2.keep (stays ab l1.out) NH,by
     obtain⟨c,D⟩:=Ns ix;exact(m3.kp g3).Wx (Oj ab eB.out) ⟨c,stays ab D⟩⟩
    have z:=kk (∀{G}(h:G:=by
    refine uq2 9 13 (fun K A=>?_) fun K A=>?_
    ·have z:=kk (∀{G}(h:G:=by
     have ch:=SB.late (w2:=b9) (o:=bG) aI gY (tH.trans gu) gD;exact avn),G);exact az0
    ·exact az1),G);exact az2),G);exact az3
   ·go_simp;have cn:NJ b9 (b9.drew.alloc (.cells #[NI false,Nr 0,Nr 0,OG] 67)):=P8.drew.alloc Oq _;have ke:(b9.drew.alloc (.cells #[NI false,Nr 0,Nr 0,OG] 67)).heap[bc]? = some (Og #[Nr dT,Nr dT,NI true,NM lb 0] 73)/\(b9.drew.alloc (.cells #[NI false,Nr 0,Nr 0,OG] 67)).cell? (Nv q 3)=some (.slice cT gy dO):=⟨stays cn l1.out,Oj cn eB.out⟩;have z:=kk (∀{G}(h:G:=by
    have su:eh.heap[bc]? = some (Og #[Nr dT,Nr dT,NI true,NM lb 0] 73)/\eh.cell? (Nv q 3)=some (.slice cT gy dO):=⟨m2.keep (stays cn l1.out) NH,by
     obtain⟨c,D⟩:=Ns ix;exact(m3.kp g3).Wx (Oj cn eB.out) ⟨c,stays cn D⟩⟩
    exact az4),G);exact az5
  rintro wt ob ev cG;have p7:=hide (cG.fr.rest aR _ _ hA.out NH (fun e=>D5 (by cases e;rfl)))
  have qQ:Om none mb w wt:=Om.down (j9.up.trans cG.fr) D4;have y1:=cG.ms;have uC:=cG.er;have yW:=cG.la;obtain⟨cy,bQ,b5,dn,dp,dq,rl⟩:=Ot p7.out;clear cX
  by_cases au:av=.no
  ·exact az6
  ·obtain⟨et,ex,br⟩:=uC.Vs au ae;subst br;have aH:bL=((vU,av),mG):=by
    rw[yG.out];exact avl
   exact az7),G);exact az8),G);exact az9):G:=h
theorem amx (h:G:=by
  rw[bu.out,b1,show w.heap.size+1=(w.alloc (.cells #[Nr aq,Nr aF,NI st,.pointer aC] 73)).heap.size by simp];exact NG _ _):G:=h
theorem avP (h:G:=by
  have z:=kk (∀{G}(h:G:=by
  refine wt 5 (ND s) ?_;refine wt 6 (Ov c) ?_;refine wr2 4 7 (fun K A=>?_) fun K A=>?_
  ·go_simp;refine A _ _ ?_;clear A K;refine P6 7 fun K A=>?_;go_simp;refine cm fL ?_;have z:=kk (∀{G}(h:G:=by
   have z:=kk (∀{G}(h:G:=by
   have z:=kk (∀{G}(h:G:=by
   refine P6 8 fun K A=>?_;go_simp;refine A _ _ ?_;clear A K;refine P6 9 fun K A=>?_;have z:=kk (∀{G}(h:G:=by
   refine P6 10 fun K A=>?_;go_simp;refine A _ _ ?_;clear A K;refine SQ (listed':=tf 11 4) OJ rfl ?_;exact dI aD cw kK.out),G);exact avE),G);exact aq0),G);exact aCx),G);exact akM
  ·go_simp;refine cm fL ?_;have z:=kk (∀{G}(h:G:=by
   have z:=kk (∀{G}(h:G:=by
   have z:=kk (∀{G}(h:G:=by
   refine wr2 4 8 (fun K A=>?_) fun K A=>?_
   ·go_simp;refine A _ _ ?_;clear A K;refine P6 8 fun K A=>?_;exact aCH
   ·go_simp;refine A _ _ ?_;clear A K;refine wr2 4 9 (fun K A=>?_) fun K A=>?_
    ·exact aCH
    ·have z:=kk (∀{G}(h:G:=by
     refine wr2 4 10 (fun K A=>?_) fun K A=>?_
     ·go_simp;refine A _ _ ?_;clear A K;refine P6 10 fun K A=>?_;exact avJ
     ·go_simp;refine A _ _ ?_;clear A K;refine P6 4 fun K A=>?_;exact avJ),G);exact avE),G);exact aq0),G);exact aCx),G);exact akM),G);exact Zo):G:=h
theorem azR (h:G:=by
  have fc:=(Ns nk jf (QD.kp k5 _ cS.at_));go_wp2_with fail;refine cm fc ?_;rintro e eh ⟨⟨EZ,rfl,wb⟩,fW⟩;obtain⟨d0,mf,Be⟩:=wb.form;subst Be;have qa:=(k'.later fW);have nj:=(ig.trans (P9.of fW (Oi mn)));have uP:=hide (stays fW iM.out);have ka:=hide (stays fW gb.out);have Ck:=(RV.kp (fun b c e D au=>Kp.of fW b c e (k5 b c e D au) au) _ _ fm);have p7:=wb;go_wp2_with fail
  go_loopw [41] (fun i wr=>∃ (k:Nat) (qd:NP),k<=cW.length/\i=Nr k/\Mx w0 mb af aa aS aB sQ qd wr (evF ⟨dT,aF,st⟩ a1 k fH)/\P9 mb az aL sQ qd w wr/\wr.heap[bc]? = some (Og #[Nr dT,Nr aF,NI st,.pointer aC] 73)/\wr.heap[aR]? = some (Og #[Nr 0,Nr 0,NI false,Qb] 73)/\Kp eh wr) (fun i _=>cW.length - (intOf i).toNat)
  case atStart=>exact⟨0,_,Nat.zero_le _,rfl,qa,nj,uP.out,ka.out,fun _ _ _ h _=>h⟩
  case round=>
   obtain⟨k,qd,E,rfl,ju,f8,pG,kU,oL⟩:=hrel;have z:=kk (∀{G}(h:G:=by
   by_cases aQ:k<cW.length
   ·obtain⟨g,cap,ap,hg,eH,aA⟩:=(p7.kp jk).cell k aQ;have z:=kk (∀{G}(h:G:=by
    obtain⟨dy,gO⟩:=xE (evF ⟨dT,aF,st⟩ a1 k fH);rw[<-gO] at eP;have jP:Sz (N+5000+2 * k) dy:=by rw[gO];exact Sz.evF _ a1 k nD Nw
    have e4:=Ns gT a1[k] (List.getElem_mem _);have hS:=hide (fun X (aj:NJ wr X)=>YB (eP.later aj) (oF.kp (Kp.of aj)) e4 jP Nw ⟨dT,aF,st⟩ aC);obtain⟨bL,dh⟩:=xE ((mkFun a1[k] ⟨dT,aF,st⟩ dy).1);obtain⟨rE,qE⟩:=xE ((mkFun a1[k] ⟨dT,aF,st⟩ dy).2);rw[<-dh,<-qE] at hS;have wy:Sz (N+5000+2 * k+1) rE:=by rw[qE];exact jP.mkFun _ _
    have uY:=hide (fun X gV (aj:Mx w0 mb af aa aS aB sQ gV X rE)=>aqt aj wy Nw aF x bL);have kc:({ rE with M:=(rE.M.write aF x bL).2 }:St)=evF ⟨dT,aF,st⟩ a1 (k+1) fH:=by
     rw[afF _ a1 k fH bn,<-gO];unfold fwF;rw[<-qE,<-dh,<-ac]
    rw[kc] at uY;obtain⟨he,m'⟩:=xE ((cW[k]).p);rw[<-m'] at eH dL c1 hS;have jI:∃ c,wr.heap[he]? = some (Og c 40):=by
     have h1:=oF.at_;rw[m']
     cases au:cW[k] with
     | mk p kd tx n ks=>
      rw[au,QD] at h1;obtain⟨_,_,⟨v,D,_⟩,_⟩:=h1;exact⟨_,D⟩
    have yu:=hide jI;have e1:=hide c1;clear ac gO e4 dh qE kc m' jI c1;go_wp2_with fail;clear eH hg;have Eb:wr.drew.heap[bc]? = some (Og #[Nr dT,Nr aF,NI st,.pointer aC] 73):=stays (Below.refl wr.heap.size wr).drew fD.out;have cX:wr.drew.heap[bc]? = some (Og #[Nr dT,Nr aF,NI st,.pointer aC] 73)/\wr.drew.cell? (Nv he 1)=some (ND x):=⟨Eb,Oj (Below.refl wr.heap.size wr).drew e1.out⟩;have ab:NJ wr wr.drew:=P8.drew
    refine PO 13 (fun X=>X.heap[bc]? = some (Og #[Nr dT,Nr aF,NI st,.pointer aC] 73)/\X.cell? (Nv he 1)=some (ND x)) OJ ?_;refine up 0 mb 0 cX ?_;refine up 1 mb 0 cX ?_;refine up 2 mb 0 cX ?_;refine up 3 bc 1 cX ?_;refine uc 4 (Nr aF) rfl (Or.inl ⟨by kernel_rfl,fun X aj=>by have h0:=(cells4 aj.1).2.1;go_simp⟩) (cX) ?_
    refine up 5 he 0 cX ?_;refine up 6 he 0 cX ?_;refine up 7 he 1 cX ?_;refine uc 8 (ND x) rfl (Or.inl ⟨by kernel_rfl,fun X aj=>by have h0:=aj.2;go_simp⟩) (cX) ?_
    refine up 9 mb 0 cX ?_;refine up 10 he 0 cX ?_;refine uc 11 (.agg #[Nr dT,Nr aF,NI st,.pointer aC]) rfl (Or.inl ⟨by kernel_rfl,fun X aj=>by have h0:=(cells4 aj.1).1;have h1:=(cells4 aj.1).2.1;have O:=(cells4 aj.1).2.2.1;have ax:=(cells4 aj.1).2.2.2.1;go_simp⟩) (cX) ?_
    refine O0 12 fun K A=>?_;go_simp;refine cm (Ns hS _ ab) ?_;rintro e b3 ⟨rfl,vn,j5,bb⟩;have g3:=eP.later ab;have pF:=(bb.ZO (L:=none) g3).keep cX.1 NH;have sA:b3.cell? (Nv he 1)=some (ND x):=by
     obtain⟨c,D⟩:=Ns yu;exact(bb.kp g3).Wx cX.2 ⟨c,stays ab D⟩
    refine A.out _ _ (fun _=>⟨pF,sA⟩) ?_;clear A K;have AN:=j5.lt;have l8:=j5;have mK:=((kD.trans (P9.of ab (Oi h6))).trans bb);have rZ:=hide pF;have og:=hide ((bb.ZO (L:=none) g3).keep (stays ab bY.out) NH);have pY:Kp eh b3:=fun b c e D au=>bb.kp g3 b c e (Kp.of ab b c e (jk b c e D au) au) au;clear pF sA;refine O0 13 fun K A=>?_;go_simp;refine cm (Ns uY _ _ l8) ?_;rintro e k1 ⟨rfl,pL,kf⟩;refine ko A ?_;clear A K;have zs:=pL;have rR:=(mK.VL kf);have uQ:=hide (kf.rest _ _ _ rZ.out NH)
    have r4:=hide (kf.rest _ _ _ og.out NH);have yU:Kp eh k1:=fun b c e D au=>OB.kp kf b c e (pY b c e D au) au;clear cX Eb;refine QX ?_ _;go_simp;go_wp2_with fail;exact⟨⟨k+1,vn,by omega,by go_num,zs,rR,uQ.out,r4.out,yU⟩,by simp[intOf];omega⟩),G);exact aAG
   ·have z:=kk (∀{G}(h:G:=by
    obtain⟨b3,bz⟩:=xE ((((wr.setCell (Nv aR 0) (Nr dT)).setCell (Nv aR 1) (Nr aF)).setCell (Nv aR 2) (NI st)).setCell (Nv aR 3) (.pointer aC));rw[<-bz];have d7:=Zg bY.out (Nr dT) (Nr aF) (NI st) (.pointer aC);have gF:mb<=aR:=by have:=Ns cI;omega
    have bb:=Sr bY.out gF (Nr dT) (Nr aF) (NI st) (.pointer aC);have bx:=kD.new bb (TB cI.out _ _ _ _);have bv:=eP.Xd bb NH;rw[<-bz] at d7 bx bv;obtain⟨bi,aY,aX,cu,_,_⟩:=cells4 d7;refine bodyPost_ret (v:=OQ ⟨dT,aF,st⟩ aC) (by simp[results,results340,go_sem,bi,aY,aX,cu]) rfl ?_;rw[BZ.out];rw[hell] at bv;exact⟨rfl,_,_,bv,bx⟩),G);exact aAH),G);exact auS):G:=h
theorem aqd (h:G:=by
  refine Rj 8 fun ab=>?_;have z:=kk (∀{G}(h:G:=by
  have z:=kk (∀{G}(h:G:=by
  refine uk4 7 ga.out ab ?_;refine uq2 8 12 (fun K A=>?_) fun K A=>?_
  ·go_simp;refine cm (Ns bA _ ab) ?_;rintro e aD ⟨⟨ev,rfl,aI⟩,aK,ak,gD⟩;refine ko A ?_;clear A K;refine uz 9 (.tuple #[(RX bG),ev]) ?_;refine uz 10 (RX bG) ?_;have bP:=kk (∀{G}(h:G:=by
   have z:=kk (∀{G}(h:G:=by
   have ch:=SB.late (o:=bG) aI aK ((Om.of ab (Oi dc)).trans ak) gD;exact avn),G);exact ahf),G);exact ztl
  ·have bP:=kk (∀{G}(h:G:=by
   refine cm (Ns bA _ (OM.drew)) ?_;rintro e aD ⟨⟨ev,rfl,aI⟩,aK,ak,gD⟩;refine ko A ?_;clear A K;have fe:aD.heap[w2.heap.size]? = some (Og #[NI false,Nr 0,Nr 0,OG] 67):=ak.P7 (ep.later (OM.drew)) (NG _ _) NH NH;obtain⟨z0,mC,z2,z3,mD,mE,mF,sW,zl⟩:=PE (fe);refine uz 9 (.tuple #[(RX bG),ev]) ?_;refine uz 10 (RX bG) ?_;refine uz 11 ev ?_;have z:=kk (∀{G}(h:G:=by
   have ch:=SB.early (o:=bG) fe OH (Oi dc) aI aK ((Om.of (OM.drew) (Oi dc)).trans ak) gD
   generalize (((aD.setCell (Nv w2.heap.size 0) (NI bG.ret)).setCell (Nv w2.heap.size 1) (Nr bG.v.k)).setCell (Nv w2.heap.size 2) (Nr bG.v.n)).setCell (Nv w2.heap.size 3) (ND bG.v.s)=wz at ch ⊢
   generalize w2.heap.size=vb at ch ⊢
   exact dI wz vb ev ch),G);exact ahf),G);exact ztt),G);exact amO),G);exact U5):G:=h
theorem am0 (h:G:=by
  clear bK hr2 ds cH d5 bq bn;go_enter func53,ntmps53;have z:=kk (∀{G}(h:G:=by
  have fB:=(ep.keep i8);have z:=kk (∀{G}(h:G:=by
  have bA:=(Ns ah wz g6 g8 fB);rw[<-bo.out] at g' g7 bA;rw[<-kG.out] at bA;have z:=kk (∀{G}(h:G:=by
  rintro e aD ⟨⟨ev,rfl,aI⟩,aK,ak,gD⟩;have dG:=hide (ak.P7 fB dU.out NH NH);have fc:=(di.up.trans ak);clear aW p1 cr cL dY g7 g';obtain⟨hz,g4,gR,j7,kx,ky,kz,wO,kA⟩:=PE dG.out;go_wp2_with fail;obtain⟨b3,bz,bb,bx,bv,bi,aY,aX,cu⟩:=rt4 dG.out cI.out bI fc aK (NI false) (Nr 0) (Nr 0) (OG);rw[<-bz];refine bodyPost_ret (v:=.tuple #[RX PX,ev]) (by simp[results,results53,go_sem,bi,aY,aX,cu,vU]) rfl ?_;exact⟨⟨_,rfl,aI.O6 bb NH⟩,bv,bx,gD.Rk bb⟩),G);exact aql),G);exact ahk),G);exact aa3):G:=h
theorem amR (h:G:=by
  refine cm (TA (es:=es) ee tType) ?_;rintro e gS ⟨⟨ev,rfl,aI⟩,g0⟩;have Fw:=aI;have nB:=hide (stays g0 dU.out);have oc:=(jl.later g0);have n7:=(di.trans (Om.of (L:=none) g0 (Oi ee)));obtain⟨dm,bT,cY,my,mz,mA,nl⟩:=Ot nB.out;clear cy bQ b5 dn dp dq rl;have z:=kk (∀{G}(h:G:=by
  refine bodyPost_ret (v:=.tuple #[vA vU,ev]) (by simp[results,results259,go_sem,bi,aY,aX,vU]) rfl ?_;have aH:rs=((vU,bad tType),σ1):=Ns bJ;rw[aH];exact⟨⟨_,rfl,Fw.O6 bb NH⟩,bv,bx⟩),G);exact apM):G:=h
theorem azG (h:G:=by
  have uP:=hide (stays fW iM.out);have yT:Kp ao eh:=fun b c e D au=>Kp.of fW b c e (Ns k5 b c e D au) au;have cZ:=dh;have AM:=qa.lt;clear D3;go_wp2_with fail
  go_loopw [70] (fun i wr=>∃ k:Nat,k<=l.length/\i=Nr k/\Mx w0 mb af aa aS aB az aL wr (Xg aq l k fH)/\P9 mb az aL az aL w wr/\wr.heap[bc]? = some (Og #[Nr aq,Nr aF,NI st,.pointer aC] 73)/\Qu jf.heap.size wr (.slice va l.length dv) l/\Kp ao wr) (fun i _=>l.length - (intOf i).toNat)
  case atStart=>exact⟨0,Nat.zero_le _,rfl,qa,nj,uP.out,cZ,yT⟩
  case round=>
   obtain⟨k,cJ,rfl,ju,f8,pG,kq,oL⟩:=hrel;have eP:=ju;have kD:=f8;have fD:=hide pG;have l4:=kq;have jk:=oL;have h6:=ju.lt;clear pG
   by_cases aQ:k<l.length
   ·obtain⟨g,cap,ap,hg,_,ai⟩:=S9 l4 k aQ;have z:=kk (∀{G}(h:G:=by
    obtain⟨x,ac⟩:=xE (l[k]);rw[<-ac] at ai;have dS:=hide ac;obtain⟨dy,gO⟩:=xE (Xg aq l k fH);rw[<-gO] at eP;have jP:Sz (N+1600+k) dy:=by rw[gO];exact Sz.Xg aq l k nD Nw
    have ba:=hide (fun X (aj:Mx w0 mb af aa aS aB az aL X dy)=>VJ aj jP Nw aq x 0 vU);have nC:=hide gO;have ga:=hide (cells4 fD.out);have IT:bc<wr.heap.size:=lt_of_heap fD.out;clear ac gO;go_wp2_with fail;clear ai;refine Rj 7 fun ab=>?_;have z:=kk (∀{G}(h:G:=by
    refine up 3 bc 0 ab ?_;refine uk 4 (ga.out.1) ab ?_;refine uh 5 (ND x) (ab) ?_;refine uh 6 (.agg #[Nr 0,Nr 0,OG]) (ab) ?_;refine O0 7 fun K A=>?_;go_simp;refine cm (Ns ba _ (eP.later ab)) ?_;rintro e b3 ⟨rfl,j5,bb⟩;refine ko A ?_;clear A K;have l8:=j5;have mK:=((kD.trans (P9.of ab (Oi h6))).VL bb);have rZ:=hide (bb.rest _ _ _ (stays ab fD.out) NH);have uV:=(N7 (N9 l4 ab) bb NH);have pY:Kp ao b3:=fun b c e D au=>OB.kp bb b c e (Kp.of ab b c e (jk b c e D au) au) au;refine QX ?_ _;go_simp
    go_wp2_with fail;refine⟨⟨k+1,by omega,by go_num,?_,mK,rZ.out,uV,pY⟩,by simp[intOf];omega⟩
    rw[acI aq l k fH aQ,<-dS.out,<-nC.out];exact l8),G);exact RU),G);exact ajQ
   ·have z:=kk (∀{G}(h:G:=by
    obtain⟨us,sO⟩:=xE (Xg aq l l.length fH);rw[<-sO] at eP gb;have fe:Sz (N+3200) us:=by rw[sO];exact(Sz.Xg aq l l.length nD OH).up Nw
    have lM:=rO.kp jk;have dV:=(adP eP fe lM Nw Nw aq);obtain⟨rF,rv⟩:=xE (PK (OC bl.2) aq us);rw[<-rv] at dV gb;have qC:Sz (N+5000) rF:=by
     rw[rv];refine(fe.lets (OC bl.2) aq).up ?_;have h1:=List.length_filter_le OI bl.2.kids
     show N+3200+(bl.2.kids.filter OI).length<=_
     omega
    have hS:=hide (fun X (aj:Mx w0 mb af aa aS aB az aL X rF) (qm:Oa aa X bV bl)=>aiY aj qC qm Nw Nw gT.out ⟨aq,aF,st⟩ aC);rw[<-gb.out,<-te.out] at hS;rw[<-te.out] at dV;have lX:=lM;obtain⟨aW,p1,cr,cL,_,dY⟩:=cells4 fD.out;clear sO rv;go_wp2_with fail;refine cm dV ?_;rintro e k1 ⟨rfl,pL,kf⟩;have zs:=pL;have rR:=(kD.VL kf);have uQ:=hide (kf.rest _ _ _ fD.out NH);have Fp:=(lX.kp (OB.kp kf));clear aW p1 cr cL dY;obtain⟨aW,p1,cr,cL,_,dY⟩:=cells4 uQ.out;go_wp2_with fail
    refine cm (Ns hS _ zs Fp) ?_;rintro e wz ⟨rfl,fz,Jn,ml⟩;have op:=Jn;have di:=(rR.trans ml);clear aW p1 cr cL dY;go_wp2_with fail
    go_end0
    exact⟨rfl,fz,op,di⟩),G);exact aqs):G:=h
theorem aqj (h:G:=by
  clear bK hr2 ds cH d5 bq bn;go_enter func53,ntmps53;have z:=kk (∀{G}(h:G:=by
  have fB:=(ep.keep i8);have z:=kk (∀{G}(h:G:=by
  have bA:=(Ns ah wz g6 g8 fB);rw[<-bo.out] at g' g7 bA;rw[<-kG.out] at bA;have z:=kk (∀{G}(h:G:=by
  rintro e aD ⟨⟨ev,rfl,aI⟩,aK,ak,gD⟩;have dG:=hide (ak.P7 fB dU.out NH NH);have fc:=(di.up.trans ak);obtain⟨jR,p4⟩:=xH rs.1.1;rw[<-p4.out];clear aW p1 cr cL dY g7 g';obtain⟨hz,g4,gR,j7,kx,ky,kz,wO,kA⟩:=PE dG.out;have z:=kk (∀{G}(h:G:=by
  refine bodyPost_ret (v:=.tuple #[RX jR,ev]) (by simp[results,results53,go_sem,bi,aY,aX,cu]) rfl ?_;exact⟨⟨_,by rw[p4.out],aI.O6 bb NH⟩,bv,bx,gD.Rk bb⟩),G);exact azy),G);exact aql),G);exact ahk),G);exact aa3):G:=h
theorem aAl (h:G:=by
  obtain⟨rs,eD⟩:=xE (within σ (evB F v.s ⟨1,0,false⟩));have a6:=fun X (aj:Mx w0 mb af aa aS aB az aL X σ) (bV:X.heap[dl]? = some (Og #[Nu mb] 62)) (kp:X.heap[bc]? = some (Og #[Nr 1,Nr 0,NI false,Qb] 73)) (ir:X.heap[em]? = some (Og #[.slice (some (Nv g iV)) dC dO] 311)) (Bu:Sv X (.slice (some (Nv g iV)) dC dO) (v::vs))=>
   aa7 (es:=es) aj dP arX (caps:=#[NM em 0,NM bc 0,NM dl 0]) (g:=evB F v.s ⟨1,0,false⟩) bZ (fun vr Y cB bF c9=>
    aiQ ae aZ vJ cB (aJ.calls _) hN 1 0 false none ⟨by omega,by show (1:Int)<(σ.M.NQ.length:Int);omega⟩ (bF _ _ _ bV NH) (bF _ _ _ kp NH) (bF _ _ _ ir NH) (Bu.keep fun b c D=>bF b c 65 D NH) (bq vr))
  have z:=kk (∀{G}(h:G:=by
  obtain⟨zw,_⟩:=eM.hh.at_ 10 _ rfl;obtain⟨tz,_⟩:=eM.hh.at_ 11 _ rfl;have cj:=bx1 hT.out;obtain⟨aW,p1,cr,cL,gQ,dY⟩:=cells4 n8.out;have o6:=gQ 0;have By:=gQ 1;have wJ:=gQ 2;have wK:=gQ 3;have dc:=eM.lt;have eR:=lt_of_heap hT.out;have rL:=hide zw;have yy:=hide tz;have hX:=hide cj;clear gQ c0 c1 gC eq hp dx Il Ax Im dL IZ I0 sK zw tz cj;refine Rj 9 fun ab=>?_;refine uk 0 hX.out ab ?_;refine up 1 mb 0 ab ?_;refine up 2 mb 13 ab ?_;refine uk 3 yy.out ab ?_;refine uk 4 hX.out ab ?_
  refine up 5 mb 0 ab ?_;refine up 6 mb 12 ab ?_;refine uk 7 rL.out ab ?_;refine uh 8 (.agg #[Nr 1,Nr 0,NI false,Qb]) (ab) ?_;refine O0 9 fun K A=>?_;go_simp;refine ko A ?_;clear A K;refine QX ?_ _;go_simp;have lP:mb<=bc:=Nw;have kW:=Sr n8.out lP (Nr 1) (Nr 0) (NI false) Qb;have AT:=Zg n8.out (Nr 1) (Nr 0) (NI false) Qb;have hold:∀ b,b<w.heap.size->_:=TB (w':=w2) ds (Nr 1) (Nr 0) (NI false) Qb
  obtain⟨bB,eL⟩:=xE ((((w2.setCell (Nv bc 0) (Nr 1)).setCell (Nv bc 1) (Nr 0)).setCell (Nv bc 2) (NI false)).setCell (Nv bc 3) Qb);rw[<-eL] at kW AT hold ⊢;obtain⟨ao,j4⟩:=xE bB.drew;have dX:NJ bB ao:=by rw[j4];exact P8.drew
  have gN:=eM.Xd kW NH;have c8:=hide (stays dX (kW.rest _ _ _ bj.out NH));have cV:=((da.newT kW hold).trans (Om.of (L:=none) dX (Oi gN.lt)));have eF:=(gN.later dX);have rS:=hide (stays dX (kW.rest _ _ _ hT.out NH));have wY:=hide (stays dX (kW.rest _ _ _ nn.out NH));have lG:=((l4.keep fun b c D=>kW.rest b c 65 D NH).later dX);have gi:=stays dX AT;rw[<-j4];have FM:=hide gi;have cj:=bx1 rS.out;have D2:=lt_of_heap rS.out;clear j4 eL gi AT hold aW p1 cr cL o6 By wJ wK dY eR;go_wp2_with fail
  refine cm (Ns zr ao eF rS.out FM.out wY.out lG) ?_;exact aAj),G);exact aAk):G:=h
theorem avM (h:G:=by
  refine A _ _ ?_;clear A K;refine wr2 4 9 (fun K A=>?_) fun K A=>?_
  ·go_simp;refine A _ _ ?_;clear A K;refine P6 9 fun K A=>?_;exact avN
  ·go_simp;refine A _ _ ?_;clear A K;refine P6 4 fun K A=>?_;exact avN):G:=h
theorem axm (h:G:=by
  have z:=kk (∀{G}(h:G:=by
  obtain⟨n1,lm⟩:=xE (w.alloc (.cells #[NI true,NI true,NI b] 112));have ie:NJ w n1:=by rw[lm];exact OM
  have kI:PlB w.heap.size true true b n1:=by rw[lm];exact NG _ _
  have z:=kk (∀{G}(h:G:=by
  have nX:PlB w.heap.size true true b dD:=(eK.block w.heap.size (lt_of_heap kI)).trans kI;have cf:=(ie.trans (eK.mono ie.size));clear lm
  cases er with
  | some e=>
   unfold Ub;go_wp2_with fail;go_ret;exact⟨rfl,cf⟩
  | none=>
   have z:=kk (∀{G}(h:G:=by
   obtain⟨iX,gN⟩:=xE (jg.setCell (Nv w.heap.size 2) (NI true));have oR:PlB w.heap.size true true true iX:=by rw[gN,PlB,heap_set nX];rfl
   have du:NJ w iX:=by
    exact aBe
   have z:=kk (∀{G}(h:G:=by
   go_loopw [41] (fun j wr=>∃ k:Nat,k<=t.kids.length/\j=Nr k/\SK (t.kids.take k) true true true=none/\NJ iX wr) (fun j _=>t.kids.length - (intOf j).toNat)
   case atStart=>exact⟨0,Nat.zero_le _,rfl,by rw[List.take_zero,SK],P8⟩
   case round=>
    obtain⟨k,E,rfl,fo,D⟩:=hrel;have fJ:=hide fo;clear fo
    by_cases aQ:k<t.kids.length
    ·have z:=kk (∀{G}(h:G:=by
     have sI:PlB w.heap.size true true true wr:=(D.block w.heap.size (lt_of_heap oR)).trans oR;have z:=kk (∀{G}(h:G:=by
     have hX:=hide (fun e=>WR t.kids true true true k aQ e fJ.out);have ej:=hide (Vz t.kids true true true k aQ fJ.out)
     generalize chk t.kids[k] true true true=r at ah hX ej
     exact aA6),G);exact ao8),G);exact ao9
    ·exact aBa),G);exact axu),G);exact apa),G);exact apb),G);exact apc):G:=h
theorem QA (h:G:=by
  rw[U] at ba;simp only[abq] at ba;exact absurd ba.out.symm dr.out):G:=h
theorem aup (h:G:=by
  rw[<-dh] at h3;refine cm h3 ?_;rintro e fq ⟨rfl,cp⟩;have d8:=hide (stays cp dU.out);have k6:=(jl.later cp);have jW:=(di.trans (Om.of (L:=none) cp (Oi ee)));have cZ:=hide dh;obtain⟨dm,bT,cY,my,mz,mA,nl⟩:=Ot d8.out;clear dh cy bQ b5 dn dp dq rl;have z:=kk (∀{G}(h:G:=by
  refine bodyPost_ret (v:=.tuple #[vA bL,Pe]) (by simp[results,results259,go_sem,bi,aY,aX]) rfl ?_;have aH:rs=((bL,.no),σ1):=by rw[bJ.out,cZ.out]
  rw[aH];exact⟨⟨_,rfl,rfl⟩,bv,bx⟩),G);exact afi):G:=h
theorem atd (h:G:=by
  have z:=kk (∀{G}(h:G:=by
  have k7:=hide (fun W=>Uc s i b t.tx W);have e1:=hide (Oj hK c1);have hpl2:=cell_lt e1.out
  generalize t.tx=tx at k7 e1 c1
  generalize nmE s tx=er at k7
  clear h ai gL cJ bn c3 c1;have z:=kk (∀{G}(h:G:=by
  refine wh 0 (Nu p) ab ?_;refine wh 1 (Nu p) ab ?_;refine wh 2 (NM p 1) ab ?_;have z:=kk (∀{G}(h:G:=by
  cases er <;>
  ·unfold Ub;go_wp2_with fail;go_ret;exact⟨rfl,hK.trans (f5.mono hK.size)⟩),G);exact axg),G);exact axh),G);exact zsp):G:=h
theorem aqk (h:G:=by
  clear bK hr2 ds cH d5 bn;go_enter func196,ntmps196;have z:=kk (∀{G}(h:G:=by
  have ee:=g6.lt;have g8:=cS.kp i8.SX;obtain⟨g',g7,f7,eH,_⟩:=g8.cells;rw[<-bo.out] at g' g7 f7 eH;rw[<-lF.out] at f7;rw[<-nw.out] at eH;rw[e5] at g7;clear e5;go_wp2_with fail;refine cm (Ns s3 wz) ?_;rintro e aD ⟨rfl,i'⟩;have dG:=hide (stays i' dU.out);have uM:=(g6.later i');have fc:=(di.trans (Om.of (L:=none) i' (Oi ee)));clear g7 g' f7 eH;obtain⟨hz,g4,gR,kx,ky,kz,kA⟩:=Ot dG.out;go_wp2_with fail
  obtain⟨b3,bz,bb,bx,bv,bi,aY,aX⟩:=rt3 dG.out cI.out bI fc uM (Nr bL.k) (Nr bL.n) (ND bL.s);exact azx),G);exact aa3):G:=h
theorem ayZ (h:G:=by
  have jD:=(dj.later cn);have jm:=hide (stays cn bj.out);have lY:=(da.trans (Om.of (L:=none) cn (Oi dc)));have oM:=jD.lt;obtain⟨aW,p1,cr,cL,_,dY⟩:=cells4 (stays cn dF.out);have zn:=(Ns bA ea jD (Om.of (L:=none) cn (Oi dc)));go_wp2_with fail;refine cm zn ?_;rintro e aD ⟨⟨ev,rfl,aI⟩,gY,gu⟩;have dG:=hide (gu.keep jm.out NH);have fc:=(lY.trans gu);have ht:=gY.lt;clear aW p1 cr cL dY
  by_cases au:av=.no
  ·subst au;have br:ev=Pe:=aI;subst br;go_wp2_with fail;obtain⟨wd,e7⟩:=xE (aD.alloc (.cells #[Nr v1.k,Nr v1.n,ND v1.s] 65));have z:=kk (∀{G}(h:G:=by
   rw[<-e7];obtain⟨tb,tk⟩:=xH (Ul σ1.M v1);have CE:=(ahc l0 v1);rw[<-tk.out] at CE;clear e7;refine cm CE ?_;rintro e dM ⟨rfl,oD⟩;have Cg:=(l0.later oD);have nA:=hide (stays oD hW.out);have j':=(uE.trans (Om.of (L:=none) oD (Oi tV)));have im:=Cg.lt;go_wp2_with fail;obtain⟨bL,cZ⟩:=xH (U1 tb);have h3:=YA tb dM;rw[<-cZ.out] at h3;refine cm h3 ?_;rintro e fq ⟨rfl,cp⟩;have d8:=hide (stays cp nA.out);have k6:=(Cg.later cp);have jW:=(j'.trans (Om.of (L:=none) cp (Oi im)))
   obtain⟨dm,bT,cY,my,mz,mA,nl⟩:=Ot d8.out;have z:=kk (∀{G}(h:G:=by
   refine bodyPost_ret (v:=.tuple #[vA bL,Pe]) (by simp[results,results261,go_sem,bi,aY,aX]) rfl ?_;have aH:rs=((bL,.no),σ1):=by rw[bD.out,cZ.out,tk.out];rfl
   rw[aH];exact⟨⟨_,rfl,rfl⟩,bv,bx⟩),G);exact afi),G);exact aue
  ·obtain⟨et,ex,br⟩:=aI.Vs au ae;subst br;have aH:rs=((vU,av),σ1):=by
    rw[bD.out];unfold afj;exact avl
   have z:=kk (∀{G}(h:G:=by
   refine bodyPost_ret (v:=.tuple #[vA vU,.iface et ex]) (by simp[results,results261,go_sem,bi,aY,aX,vU]) rfl ?_;rw[bJ.out];exact⟨⟨_,rfl,mW⟩,bv,bx⟩),G);exact ay2):G:=h
theorem aEI (h:G:=by
  exact avN):G:=h
theorem auq (h:G:=by
  refine Rj 9 fun ab=>?_;have z:=kk (∀{G}(h:G:=by
  refine uk3 3 CJ.out ab ?_;refine up 5 mb 0 ab ?_;refine up 6 mb 0 ab ?_;refine up 7 mb 0 ab ?_;refine uk3 8 CL.out ab ?_;refine O0 4 fun K A=>?_;go_simp;refine cm (Ns tq _ ab) ?_;rintro e ea ⟨rfl,cn⟩;have ke:NJ wz ea:=ab.trans (cn.mono ab.size);refine A.out _ _ (fun _=>ke) ?_;clear A K;refine O0 9 fun K A=>?_;go_simp;refine cm (Ns uX _ ke) ?_;rintro e fq ⟨rfl,cp⟩;refine ko A ?_;clear A K;have DC:NJ wz fq:=ke.trans (cp.mono ke.size);refine O0 10 fun K A=>?_;go_simp;refine cm (Ns n9 _) ?_
  rintro e aD ⟨⟨ev,rfl,aI⟩,i'⟩;refine ko A ?_;clear A K;have iC:=DC.trans (i'.mono DC.size);have z:=kk (∀{G}(h:G:=by
  have z:=kk (∀{G}(h:G:=by
  refine uz 11 (vA v9) ?_;refine uz 12 ev ?_;refine O0 13 fun K A=>?_;go_simp;refine ko A ?_;clear A K;refine uz 14 ev ?_;exact aze),G);exact ap6),G);exact azf),G);exact RU):G:=h
theorem aCR (h:G:=by
  refine A _ _ ?_;clear A K
  by_cases kY:gj=[]
  ·obtain rfl:=yV.2.1 kY;subst kY;obtain⟨Jb,K6,rfl⟩:=eC.cap (by rw[jA.out];decide)
   have gz:=hide (aCS eC fN e0 i1.out);refine P6 11 fun K A=>?_;go_simp;refine A _ _ ?_;clear A K Jb;have z:=kk (∀{G}(h:G:=by
   go_roundw
   case rel=>exact⟨k,.mk 35 NC 0 [t],cK,sR,rfl,ba.out,dj,jC,by have hq:=jB;rw[show Tr.mk t0.kd t0.tx t0.n (t0.kids++[])=Tr.mk 35 NC 0 [t] by rw[jN];rfl] at hq;exact hq⟩
   case measure=>rw[TF dj,TF oh];omega),G);exact aB4
  ·obtain⟨d4,cap2,dR,rfl,dL,I1,wa⟩:=yV.many kY;have oX:=yV.2.2;have hpos:0<gj.length:=List.length_pos_iff.2 kY;have dS:=(Open.apart ek j8.size kG bS.out (show NT (From e9.heap.size) aD gj dR from I1));have hlen:=NT.length _ _ eC.kids;have cJ:=Ns jA;have c9:=e0.size;have hown:=eC.row;rw[hlen] at hown;have HOWN:=hown;have Gr:=hide dL;have HLEN:=hide hlen;clear kY hlen;refine P6 11 fun K A=>?_
   refine step_append_lies _ rfl _ _ 38 rfl w.heap.size 22 i0 Qb 1 8 underlying38 d2 dH b6 cq rfl NH _ _ _ rfl HOWN (Nv d4 0) gj.length cap2 (dR.map Nu) rfl (by simp[dL]) wa (aq6 dR) hpos (by unfold maxLen;omega) Nw c9 aD.heap.size rfl ?_
   intro g cap ao hown3 eQ c7 _;refine A _ _ ?_;clear A K;have gz:=hide (aCT (m:=t0.kids.length+gj.length) eC dS fN e0 i1.out hown3 (by rw[HLEN.out,Gr.out]) eQ c7);have gi:ao.cell? (Nv ia 3)=aD.cell? (Nv ia 3)/\ao.frozen? (Nv ia 3)=aD.frozen? (Nv ia 3):=by
    have cp:ao.heap[ia]? = aD.heap[ia]?:=eQ.block ia hF (fun e=>eC.own e.symm);exact⟨World.cell?_of_block (w:=aD) cp,World.frozen?_of_block (w:=aD) cp⟩
   obtain⟨gI,gJ⟩:=gi;rw[gs] at gI;rw[gt 3] at gJ;clear c7 gs gt wa cJ;have z:=kk (∀{G}(h:G:=by
   go_roundw
   case rel=>exact⟨k,.mk 35 NC 0 (t::gj),cK,sR,rfl,ba.out,dj,jC,by have hq:=jB;rw[show Tr.mk t0.kd t0.tx t0.n (t0.kids++gj)=Tr.mk 35 NC 0 (t::gj) by rw[jN];rfl] at hq;exact hq⟩
   case measure=>rw[TF dj,TF oh];omega),G);exact aB4):G:=h
theorem aya (h:G:=by
  go_enter func105,ntmps105;go_wp2_with fail;refine cm xB ?_;rintro e w1 ⟨rfl,hw⟩;rw[hw];clear hw;go_wp2_with fail;refine cm d3 ?_;have z:=kk (∀{G}(h:G:=by
  obtain⟨el,sv⟩:=xE (w.alloc (.cells #[Nr (i:Int),Nr (-1),PG] 198));have z:=kk (∀{G}(h:G:=by
  refine wr2 4 5 (fun K A=>?ca) fun K A=>?cb
  case' ca=>
   go_simp;refine A _ _ ?_;clear A K;refine P6 5 fun K A=>?_;go_simp;refine A _ _ ?_;clear A K;refine P6 6 fun K A=>?_;go_simp;refine A _ _ ?_;clear A K
  case' cb=>
   go_simp;refine A _ _ ?_;clear A K;refine wr2 4 6 (fun K A=>?cc) fun K A=>?cd
  case' cc=>
   go_simp;refine A _ _ ?_;clear A K;refine P6 6 fun K A=>?_;go_simp;refine A _ _ ?_;clear A K
  case' cd=>
   go_simp;refine A _ _ ?_;clear A K;refine P6 4 fun K A=>?_;go_simp;refine A _ _ ?_;clear A K
  all_goals
   refine P6 7 fun K A=>?_;refine step_append_lies _ rfl _ _ 77 rfl H 198 mw _ 3 40 underlying77 d2 dH b6 cq rfl NH _ _ _ rfl (hrow.drew.alloc _) (Nv el.heap.size 0) 1 1 [Nr (i:Int),Nr (-1),PG] rfl rfl (V3 _ _ rfl _ _ _) (Yv _ _) NH (by have:=HLEN.out;unfold maxLen;omega) (by have:=HLEN.out;omega) Qa (el.heap.size+1) Oq ?_
   intro hG hD ao hown3 eQ c7 _;refine A _ _ ?_;clear A K;have db:el.grownBy ao aB.ownBlock:=NS (NS (b:=el.drew) ⟨rfl,rfl,rfl,OH,fun _ _ _=>rfl⟩ (World.grownBy_alloc _ _ _)) eQ;have dN:=hide (gr.aiE (i:Int) (-1) (tv':=.slice (some (Nv hG 0)) (M.NQ.length+1) hD) db hown3);have kr:ao.cell? (Nv H 1)=some aB/\ao.frozen? (Nv H 1)=false:=by
    have ci:some H≠aB.ownBlock:=fun e=>by
     obtain⟨c,ai⟩:=OZ gr.ro.row e.symm;exact PW ai gr.blk NH rfl
    have hbk:=db.block H tB ci;exact⟨(World.cell?_of_block (w:=el) (a:=(Nv H 1)) hbk).trans eq,(World.frozen?_of_block (w:=el) (a:=(Nv H 1)) hbk).trans pi⟩
   obtain⟨ry,rz⟩:=kr;clear c7 eq pi dm bT cY fp;have kj:=HLEN.out;refine wt 8 (NM H 0) ?_;refine wt 9 (NM H 1) ?_;refine P6 10 fun K A=>?_;go_simp;refine A _ _ ?_;clear A K;refine wpAny_done OJ ?_ _;go_simp;go_wp2_with fail;go_ret;exact⟨rfl,⟨_,_,_,_,dN.out.1⟩,(OB.of eW (Oi qU.out)).trans dN.out.2⟩),G);exact apv),G);exact apw):G:=h
end
end Go.Proofs.YticfnaiehdpbmaaGreatDoor
