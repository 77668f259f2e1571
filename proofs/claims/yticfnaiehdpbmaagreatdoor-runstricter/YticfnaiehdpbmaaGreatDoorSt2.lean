import Derived.Test.YticfnaiehdpbmaaGreatDoorSt0
import Derived.Test.YticfnaiehdpbmaaGreatDoorProg
import Derived.WalkSpells
import Derived.WalkLawsBesides
import Derived.Lib.Bytealg
set_option maxRecDepth 100000
set_option maxHeartbeats 8000000
set_option linter.all false
namespace Go.Proofs.YticfnaiehdpbmaaGreatDoor
open Go.RowKit Go.Proofs.Tryz
section
variable {G:Prop}
def ar6 (h:G:=by
  obtain⟨h0,h1,aF,hf,hl⟩:=h.c;have e0:Oo w (w.alloc (.cells #[Oj nm] 9)):=PE;exact z.o):G:=h
def axq (h:G:=by
  have aE:Oo w w2:=by rw[cM];exact PE.alloc OW _
  have⟨bc,bS⟩:=xE w.heap.size;have⟨aV,b4⟩:=xE (w.heap.size+1);exact z.o):G:=h
def arQ (h:G:=by
  have aj:=(NZ mn oa hQ);rw[<-ly];refine cm aj ?_;rintro e dO ⟨rfl,eX⟩;exact z.o):G:=h
def axL (h:G:=by
  rw[aa] at aj ld;simp only[O9] at ld;clear aa;go_wp2_with fail;refine cm aj.out ?_;intro e w' al;obtain⟨rfl,ay⟩:=al;exact z.o):G:=h
def avN (h:G:=by
  have⟨g,cap,am,hcell⟩:=WS hrow (by rw[HLEN.out];omega)
  simp only[Value.slice.injEq] at am;obtain⟨rfl,_,rfl⟩:=am;exact z.o):G:=h
def awz (h:G:=by
  have dS:=hide (stays cA bq.out);have hQ:=(aE.trans (cA.mono aE.size));have⟨dl,bT,cY,l7,l8,l9,nl⟩:=O3 dS.out;exact z.o):G:=h
def asC (h:G:=by
  go_wp2_with fail;rw[<-bo.out,<-b4,<-bS];clear bS b4;refine S9 8 fun ae=>?_;exact z.o):G:=h
def aBE (h:G:=by
  have y3:=aL;have dz:=hide (stays iC ed.out);have vj:=(jr.later iC);have fj:=(dm.trans (OV.of (L:=none) iC (OO eW)));have⟨v9,l2⟩:=xE ro.1;rw[<-l2];have lh:=hide l2;clear l2;have⟨hp,gp,gb,kb,kc,ke,kf⟩:=O3 dz.out;exact z.o):G:=h
def aCC (h:G:=by
  refine S9 6 fun ae=>?_;refine uk 0 mU.out ae ?_;refine up 1 g iZ ae ?_;refine up 2 g (iZ+2) ae ?_;refine uk 3 hq.out ae ?_;refine up 4 bc 2 ae ?_;refine uk 5 (ei.out.2.2.1) ae ?_;refine PS 6 fun K D=>?_;go_simp;refine cm (NZ dz _ ae) ?_;exact z.o):G:=h
def aEz (h:G:=by
  rw[bV.out] at aj;go_wp2_with fail;refine cm aj ?_;intro e bD al;obtain⟨⟨v4,rfl,kC,rfl,rD⟩,ba,ay⟩:=al;have tn:=(jn.next ay);have tG:=hide (aau jF jn.size ay bW.out rD);have kL:=(KV.later jF ay bW.out);have hlt2:=ba.lt;exact z.o):G:=h
def atX (h:G:=by
  have jx:=Rh c.R 224;intro w d i r ab aO h;have eZ:=(Ap.refl c.R w.heap.size w);exact z.o):G:=h
def aw1 (h:G:=by
  go_wp2_with fail;have⟨b3,bz,bh,bI,bE,cK,b1,bU⟩:=rt3 ed.out cQ.out bG dm hc (NY 0) (NY 0) (Pm);rw[<-bz];exact z.o):G:=h
def axd (h:G:=by
  go_wp2_with fail;have⟨b3,bz,bh,bI,bE,cK,b1,bU⟩:=rt3 dS.out cQ.out bG jZ k9 (NY 0) (NY 0) (Pm);rw[<-bz];exact z.o):G:=h
def asN (h:G:=by
  rintro wz vb ev a7;have eW:=a7.ms.lt;have dm:OV none mb w wz:=cG.trans a7.fr;exact z.o):G:=h
def arn (h:G:=by
  go_enter func65,ntmps65
  go_wp2
  refine wp_loop_rounds 1 ?_;rw[rounds_succ]
  go_wp2
  go_ret;exact z.o):G:=h
def avs (h:G:=by
  refine cm (pw.hr1 _ tL) ?_;rintro e cy ⟨rfl,np⟩;have iQ:Oo ek cy:=tL.trans (np.mono tL.size);go_wp2_with fail;exact z.o):G:=h
def avr (h:G:=by
  refine cm (pw.ha1 _ iQ) ?_;rintro e dO ⟨rfl,eX⟩;have e4:Oo ek dO:=iQ.trans (eX.mono iQ.size);go_wp2_with fail;exact z.o):G:=h
def aAV (h:G:=by
  have⟨z0,oc,z2,od,og,oh,zl⟩:=O3 fi;refine uz 12 (.tuple #[(vA v1),(TT c1)]) ?_;refine uz 13 (vA v1) ?_;refine uz 14 (TT c1) ?_;refine PS 16 fun K D=>?_;go_simp;refine ko D ?_;clear D K;refine uz 17 (TT c1) ?_;refine RY ?_ _;go_simp;exact z.o):G:=h
def aAv (h:G:=by
  have lj:=bX 4 _ rfl;rw[we] at lj;have gq:=(fl.later A);have bO:=(e0.trans (A.mono e0.size));have jU:w1.heap[w.heap.size]? = some (OM #[Oj nm] 9):=by
   refine agy (w:=w) (W:=w1) ?_;rw[<-mm.out];exact A.mono (by rw[mm.out];simp)
  exact z.o):G:=h
def aCw (h:G:=by
  refine D.out _ _ (fun _=>kl) ?_;clear D K;refine PS 8 fun K D=>?_;go_simp;refine cm (NZ oC _ cl) ?_;rintro e d6 ⟨rfl,Ki,zU,rI,ng⟩;have g7:=mo.later cl;have fO:=ng.frL (L:=some lb) g7;have nf:=ng.frL (L:=none) g7;exact z.o):G:=h
def aEA (h:G:=by
  intro e aq al;obtain⟨⟨v3,rfl,cJ,rfl,mE⟩,ba,ay⟩:=al;have jn:=(eg.next ay);have dg:=ba;have tF:=(Sr mE eg.size);have nI:=(PO.mono (J:=fun b=>w.heap.size<=b/\b<aq.heap.size) (fun _ A hl=>⟨A,hl⟩) _ _ tF);exact z.o):G:=h
def aBC (h:G:=by
  go_simp;refine D.out _ _ (fun _=>(PE.alloc OW _).drew) ?_;clear D K;refine PS 8 fun K D=>?_;go_simp;refine D.out _ _ (fun _=>(PE.alloc OW _).drew) ?_;clear D K;refine PS 9 fun K D=>?_;go_simp;refine ko D ?_;clear D K;refine RY ?_ _;go_simp;exact z.o):G:=h
def aEB (h:G:=by
  have⟨z0,oc,z2,z3,od,og,oh,xi,zl⟩:=QK (fi);refine uz 10 (.tuple #[(UD bH),ev]) ?_;refine uz 11 (UD bH) ?_;refine uz 12 ev ?_;exact aEh):G:=h
def awJ (h:G:=by
  have⟨bP,bK,cap1,jL,fW,jf,_⟩:=sV.Yb (i:=1) Oe;rw[cL,<-bj.out] at jL;have⟨wW,pO⟩:=xE bP.p;exact z.o):G:=h
def aDm (h:G:=by
  rintro e w2 ⟨y,rfl,hy,aE⟩;have kP:=hide hy;have cq:=hide aE;go_wp2_with fail;refine(aju x y _ _ _ (dT.out.later cq.out) kP.out).mono ?_;rintro e aq ⟨bB,rfl,aH,bn⟩;have dY:=hide aH;have dG:=hide bn;go_wp2;go_ret;exact z.o):G:=h
def aEC (h:G:=by
  refine wh 0 (O1 c) eQ.drew ?_;refine wh 1 (O1 c) eQ.drew ?_;refine wh 2 (Oy c.R 3) eQ.drew ?_;refine wg 3 (.map (some c.mS)) rfl (Or.inl ⟨by kernel_rfl,fun W a6=>by have hh:=PI.c3 a6;go_simp⟩) eQ.drew ?_
  refine wh 4 (O1 c) eQ.drew ?_;exact z.o):G:=h
def aED (h:G:=by
  have aj:Hid _:=A wr d j bq;rw[hbg] at aj;clear hbg;have Dh:((aX.length:Int)==8)=true:=beq_iff_eq.2 Oe;have KM:=hide hb;clear hb;go_wp2_with fail;refine cm aj.out ?_;rintro e aq ⟨rfl,bn⟩;have jn:=(eg.next (Ap.of bn));exact z.o):G:=h
def aBg (h:G:=by
  have bA:=hide d';have bV:=hide aa;have gY:=hide U;have p8:=hide E;have ov:=hide bm;clear bb hr2 d' aa h1 dq cE d2 fE dv c' U E bm;go_enter func258,ntmps258;exact ax0):G:=h
def avA (h:G:=by
  have nA:Hid (∀ W,Oo w W->Oq 102 #[N7 p] W fun e w'=>e=OA (Om true)/\w'=W):=fun W a6=>avx
  exact z.o):G:=h
def aBe (h:G:=by
  subst ao;have bu:ev=Qd:=a7.er;subst bu;have c0:=gI.cells.2.1;have hj:=gI.cells.1;rw[ov.out,<-bj.out] at c0;rw[<-bj.out] at hj;have mU:=hide c0;have gd:=hide (cells3 a7.v);clear c0;have eR:=hide (fun X=>WX v1 X);exact z.o):G:=h
def aAw (h:G:=by
  obtain⟨h0,h1,aF,hf,hl⟩:=h.c;have⟨ep,mm⟩:=xH (w.alloc (.cells #[Oj nm] 9));have dw:ep.cell? (N9 w.heap.size 0)=some (Oj nm):=by rw[mm.out];simp
  have e0:Oo w ep:=by rw[mm.out];exact PE
  have fl:=h.later e0;exact z.o):G:=h
def ayd (h:G:=by
  have pd:=(gx.next (Ap.of nW));have mj:=(bq.later nW);replace eG:=hide (RX eG (Ap.of nW) bW.out);exact z.o):G:=h
def aCb (h:G:=by
  subst aI;clear aa al ai h3;go_enter func321,ntmps321;go_wp2_with fail;refine cm HP ?_;rintro e w1 ⟨p,rfl,ax,A⟩;have dP:=ax;have bO:=A;go_wp2_with fail;refine cm (NZ aj p w1 dP.nt) ?_;rintro e w2 ⟨ao,aE⟩;exact z.o):G:=h
def aw9 (h:G:=by
  have eS:=jy;have kK:=hZ;have fL:=hide pQ;have bV:=hide kY;have jp:=oT;have h4:=jy.lt;clear pQ kY;exact z.o):G:=h
def aEE (h:G:=by
  replace nI:=(PO.later (fun b A _=>f7.block b A.2) _ _ nI);obtain⟨bc,rfl,fd⟩:=bu.nv;have sf:=(PO.mono (J:=fun b=>From w.heap.size b/\aq.heap.size<=b) (fun _ A _=>⟨Nat.le_trans jn.size A,A⟩) _ _ fd);exact z.o):G:=h
def aBA (h:G:=by
  have aE:=(Below.refl w.heap.size w).alloc Pg (.cells #[NY 0,NY 0,Pm] 65);have bq:=hide (Oi w (.cells #[NY 0,NY 0,Pm] 65));have⟨w2,bo⟩:=xH (w.alloc (.cells #[NY 0,NY 0,Pm] 65));rw[<-bo.out] at bq aE;exact z.o):G:=h
def aEF (h:G:=by
  have⟨hd,AE⟩:=xE (Ql (OX c.l i).tx);rw[<-AE] at a';have aj:=(Zr c w i d bA ov.out);rw[<-AE] at aj;clear AE;go_wp2_with fail;refine cm aj ?_;rintro e wk ⟨rfl,iV,Ak⟩;have tp:=(eZ.next Ak);exact z.o):G:=h
def aC4 (h:G:=by
  have cL:k=cZ.length:=Oe;subst cL;have hK:¬ (cZ.length:Int)<(cZ.length:Int):=Oe;have⟨aU,p1,cp,cJ,_,d3⟩:=cells4 fL.out;have⟨dl,bT,cY,hA,l7,l8,l9,Nv,nl⟩:=QK bV.out;go_wp2_with fail;exact z.o):G:=h
def aEG (h:G:=by
  have aj:=(TA c VA e8 a8 d cP ai);go_wp2_with fail;refine cm aj ?_;rintro e aD ⟨rfl,A⟩;have fR:=(cP.later A);have e3:=(db.next (Ap.of A));replace en:=hide (Open.later en (Ap.of A) bW.out);clear A;exact z.o):G:=h
def aBt (h:G:=by
  have jO:=(OV.of (L:=none) ae (OO dk)).trans ah;have dz:=hide (jO.keep bq.out Ol);have fj:=(cG.trans jO);have⟨v9,lh⟩:=xH rs.1.1;rw[<-lh.out];have⟨hp,gp,gb,kb,kc,ke,kf⟩:=O3 dz.out;exact z.o):G:=h
def axS (h:G:=by
  have aj:=(O5 c PY (aq.setCell (N9 aU 3) (.slice (some (N9 g 0)) (t0.kids.length+1) cap)) hn d cU Ol);exact z.o):G:=h
def aBh (h:G:=by
  subst ao;have bu:ev=Qd:=aL;subst bu;have b8:=NZ dY bH σ1 bV.out;have c1:=p6.cells.2.2.1;have hj:=p6.cells.1;rw[<-bj.out] at c1 hj;have⟨tx,cB⟩:=xE d.2.tx;rw[<-cB] at c1;have e9:=hide c1;exact z.o):G:=h
def aBL (h:G:=by
  have bV:=hide aa;have gY:=hide U;have p8:=hide E;have fe:=(hl.later aE);clear bb hr2 aa h1 dq cE d2 fE dv c' U E;go_enter func111,ntmps111;exact ax0):G:=h
def aBp (h:G:=by
  go_enter func262,ntmps262;go_wp2_with fail;rw[<-bo.out,<-b4,<-bS];clear bS b4;refine cm bF ?_;rintro e aD ⟨⟨ev,rfl,aL⟩,g4,gw⟩;have dz:=hide (gw.keep bq.out Ol);have fj:=(cG.trans gw);exact z.o):G:=h
def awv (h:G:=by
  simp only[Value.slice.injEq] at am;obtain⟨rfl,_,rfl⟩:=am;have hK:(k:Int)<(cZ.length:Int):=Oe;exact z.o):G:=h
def aC9 (h:G:=by
  have eY:w2.heap[vb]? = some (OM #[NY v.k,NY v.n,Oj v.s] 65):=by rw[bo.out,a7];exact Oi _ _
  have h5:=lt_of_heap eY;have dk:mb<w2.heap.size:=by have:=aE.size;omega
  have bF:=hide (cells3 eY);exact z.o):G:=h
def aBY (h:G:=by
  have e':=hide (hF.keep b7.out Ol);have dm:=(cG.trans hF);have eW:=hc.lt;have gI:=cR.kp hF.Ul;have hj:=gI.cells.1;have he:=gI.cells.2.1;have bF:=(NZ aj wz hc gI);rw[<-bj.out] at hj he bF;exact z.o):G:=h
def awn (h:G:=by
  have bF:=hide (fun X (ak:Oo w2 X)=>aoV ab (cU.later ak) (fU.kp (Kp.of ak)) ⟨au,aG,st⟩ aC h1);exact z.o):G:=h
def aDx (h:G:=by
  refine PS 11 fun K D=>?_;go_simp;refine ko D ?_;clear D K;refine RY ?_ _;have jJ:=hide (stays kl ed.out);have j0:=(a7.ms.later kl);have m0:=(dm.trans (OV.of (L:=none) kl (OO eW)));have oU:=j0.lt;exact z.o):G:=h
def aEH (h:G:=by
  go_simp;refine cm (RV c _ i d eQ.drew) ?_;rintro e w1 ⟨rfl,A⟩;have bN:=(eQ.drew.later A);have eE:=(r2.trans ((QI.drew.trans A).mono r2.size));refine D.out _ _ bN (fun _=>?_);clear D K;exact z.o):G:=h
def av6 (h:G:=by
  have⟨cS,bY,cg,eO,rl⟩:=cells3 dg.out;have dJ:=eO 0;have dK:=eO 1;have dL:=eO 2;clear eO;exact z.o):G:=h
def aAq (h:G:=by
  obtain⟨m,ry,MB,rfl,rfl,dd,hown⟩:=hrel;have jU:wr.heap[bB]? = some (OM #[Oj s] 9):=(dd.block bB qJ (fun e=>JG (Option.some.inj e))).trans dY.out;have dC:g<wr.heap.size:=(hown.lt g rfl).2;exact z.o):G:=h
def aAm (h:G:=by
  have ki:=hide kq;clear lm Ar bX kq aF nu jU ij hget;go_wp2_with fail;refine cm d7 ?_;rintro e aq ⟨rfl,bn⟩;have hsz3:wr.heap.size+1<=aq.heap.size:=by have:=bn.size;simpa using this
  exact z.o):G:=h
def aAU (h:G:=by
  refine RY ?_ _;have f8:(Instr.lookup 80 (.map (some af)) (N7 q) true).run prog aq=.ok (.tuple #[(NY (k:Int)),Om true]) aq:=by
   rw[ku];unfold noV;rw[m1.out];rfl
  clear ku;go_simp;go_wp2_with fail;exact z.o):G:=h
def aEI (h:G:=by
  rw[<-jT] at cO;have jG:Hid (t0.kids.length=0):=by
   show _=_
   rw[jT];rfl
  have iy:Hid (t0.kd=hd):=by
   show _=_
   rw[jT];rfl
  have pp:=hide jT;obtain⟨aU,hp,BD,gO,en⟩:=cO.opens;exact z.o):G:=h
def aEJ (h:G:=by
  have kr:j<cr:=NZ y8 d j t cr ni aa;rw[aa] at aj ld;simp only[bind_ok] at ld;clear aa;go_wp2_with fail;refine cm aj.out ?_;intro e bD al;obtain⟨⟨v4,rfl,kC,rfl,rD⟩,ba,ay⟩:=al;exact z.o):G:=h
def axo (h:G:=by
  have⟨w2,bo⟩:=xH (w.alloc (.cells #[QS] 122));have aE:Oo w w2:=by rw[bo.out];exact PE
  exact z.o):G:=h
def avM (h:G:=by
  have⟨q,ag⟩:=xE (ps[k]);rw[<-ag] at eJ aj;have hK:(k:Int)<(t.kids.length:Int):=Oe;exact z.o):G:=h
def aBH (h:G:=by
  go_simp;refine D.out _ _ (fun _=>PE.drew) ?_;clear D K;refine PS 6 fun K D=>?_;go_simp;refine cm (NZ bF _ (PE.drew)) ?_;exact axZ):G:=h
def awe (h:G:=by
  go_enter func291,ntmps291;go_wp2_with fail;rw[<-bo.out,<-bS];clear bS;refine S9 9 fun ae=>?_;exact z.o):G:=h
def aAW (h:G:=by
  have sN:aq.heap[bc]? = some (plO ⟨au,aG,st⟩ aC)/\aq.cell? (N9 q 1)=some (Oj tx):=⟨sM.keep e4.out.1 Ol,sM.Ul.XG e4.out.2 lI.out⟩;refine D.out _ _ (fun _=>sN) ?_;clear D K;exact z.o):G:=h
def aBJ (h:G:=by
  go_wp2_with fail;have⟨b3,bz,bh,bI,bE,cK,b1,bU,ej⟩:=rt4 jJ.out cQ.out bG m0 j0 (Om false) (NY 0) (NY 0) (Pm);rw[<-bz];refine agP (v:=.tuple #[UD Qy,Qd]) ?_;rw[cD.out];exact z.o):G:=h
def aBk (h:G:=by
  refine up 3 vb 1 ae ?_;refine uk 4 (gd.out.2.1) ae ?_;refine PS 5 fun K D=>?_;go_simp;refine cm (NZ om _ ae) ?_;rintro e k5 ⟨rfl,iX⟩;rw[iX];clear iX k5;refine ko D ?_;clear D K;exact z.o):G:=h
def aEK (h:G:=by
  have h1:=Xw ab;have av:((Zn (fx l i)).filter (fun e=>decide (e.parts<2))).isSome=true:=by
   unfold ZQ at ab;have U:=Option.filter_eq_some_iff.1 ab;rw[U.1];simp[Option.filter,h1.2]
  exact z.o):G:=h
def aEL (h:G:=by
  have ld:Hid ((nx d j).bind (fun t a8=>if fx c.l a8=shut then PR.ok (aX++[t]) (a8+1) else (O6 c.l abw a8).bind fun _ i2=>Rx c.l shut begins (nx d) k (aX++[t]) i2)=r):=NZ bj;exact z.o):G:=h
def aAQ (h:G:=by
  have fD:=(cT.new lu (ZA sv.out _));have p4:=(mX.kp (fun b c e A ao=>lu.rest b c e A (by rcases ao with rfl|rfl <;> decide)));rw[<-fH] at f3 ls fD p4 ⊢;have kN:=hide ls;exact z.o):G:=h
def aDc (h:G:=by
  go_enter func110,ntmps110;go_wp2_with fail;rw[<-bo.out,<-b4,<-bS];clear bS b4;refine cm aj ?_;rintro e w1 ⟨⟨u,rfl,aa⟩,bZ⟩;have⟨cV,dM,aQ⟩:=OG aa;subst aQ;exact z.o):G:=h
def aCU (h:G:=by
  have ky:Po { p with scope:=σ1.top } (σ1.opn p.scope o (-2)):=⟨by show (0:Int)<=(σ1.M.Ov.length:Int);omega,by show (σ1.M.Ov.length:Int)<_;simp[St.opn,Mo.scope];omega⟩
  exact z.o):G:=h
def aEM (h:G:=by
  refine D.out _ _ bN (fun _=>?_);clear D K;refine wg 6 (.tuple #[.agg #[Pm,NY 0,NY 0,NY 0],Om false]) rfl (Or.inl ⟨by kernel_rfl,fun W a6=>by have hh:=dX.out W a6;go_simp⟩) bN ?_
  exact z.o):G:=h
def aAc (h:G:=by
  have bL:=N8 (∀{G}(h:G:=by
  have⟨_,_,_,fT,_⟩:=node_cells hblk;have⟨cV,uc,aQ⟩:=UL hrow;subst aQ;exact z.o),G);exact zto):G:=h
def aAi (h:G:=by
  obtain⟨cI,iT,eK⟩:=List.findIdx?_eq_some_iff_getElem.1 E;have FV:=hide iT;have FX:=hide eK;have dY:=hide aH;have tS:=hide (World.block_lt_of_cell? w _ aH);clear aH E iT eK;exact z.o):G:=h
def aCA (h:G:=by
  rw[<-o4,<-qM,eB] at fa;have yZ:Hid (b5=evR aw bQ mP):=by
   show b5=_
   have h:=NZ mY;rw[<-o4,<-qM,eB] at h;exact h
  have ez:=hide c3;have ds:=cell_lt c3;exact z.o):G:=h
def aEN (h:G:=by
  have aj:=(ah.pr (x.str+1) Oe Oe ((aY.setCell (N9 c.R 1) (NY ((j:Int)+1))).alloc (.cells #[Oj x.tx,NY x.kd,NY x.parts,NY x.str] 275)).drew d (j+1) _ rfl (by rw[aa];nofun) uE)
  exact z.o):G:=h
def aEO (h:G:=by
  have U:=wpOp_putIf uy (hfree j oj uy iE hjun hnot) (fun cs c=>hsel i dH cs c az) (fun cs c=>hsel j oj cs c uy) hG hy (H.2 j (ready_mono aS iE));refine wpOp_mono (fun jc w' av=>?_) U;exact z.o):G:=h
def aAp (h:G:=by
  have IT:N=m+1:=Oe;subst IT;have hkl':k<bs.length:=by rw[<-dP.out];exact cI
  have ij:(Lm bs k m).length=m+1:=by rw[aoe hkl' (by rw[<-dP.out];omega),dP.out]
  exact z.o):G:=h
def aEP (h:G:=by
  have HP:=hide al;clear al;go_wp2_with fail;refine(adf _ _ _ (by unfold maxLen;simp;omega) (by unfold maxLen;omega)).mono ?_
  rw[HP.out];rintro e w' ⟨rfl,rfl⟩;go_wp2_with fail;exact z.o):G:=h
def aBu (h:G:=by
  rw[<-ag] at c3 ds ns nq ⊢;rw[<-q4.out] at dv sZ mD rv;rw[<-qa.out] at fW;have ez:=hide (OT aE c3);have uY:=hide (OT aE dv);have oi:=hide (OT aE fW);exact z.o):G:=h
def azH (h:G:=by
  go_enter func104,ntmps104;go_wp2_with fail;rw[<-il];have ae:Oo ek ek.drew:=QI.drew;refine wp_region_held (S:=fun X=>Oo ek X) Pe ?_;change wpAnyH _ _ _ _ _ _ _ _ (World.drew _);exact z.o):G:=h
def aAY (h:G:=by
  go_enter func268,ntmps268;go_wp2_with fail;rw[<-bo.out,<-vz.out];refine cm m3 ?_;rintro e k5 ⟨rfl,iX⟩;rw[iX];clear iX k5;go_wp2_with fail;refine S9 6 fun ae=>?_;exact z.o):G:=h
def aEQ (h:G:=by
  have aj:=(aER ah ((aY.setCell (N9 c.R 1) (NY ((i:Int)+1))).alloc (.cells #[Oj x.tx,NY x.kd,NY x.parts,NY x.str] 275)).drew d (i+1) uE (by rw[aa];nofun))
  rw[aa] at aj a';exact z.o):G:=h
def aBR (h:G:=by
  have cD:=hide aI;clear aI gy;go_wp2_with fail;have⟨b3,bz,bh,bI,bE,cK,b1,bU,ej⟩:=rt4 hs.out cQ.out bG i' pk (Om false) (NY eD) (NY dN) (Oj eP);rw[<-bz];exact z.o):G:=h
def aCu (h:G:=by
  go_simp;refine cm (NZ oC _ ae) ?_;rintro e d6 ⟨rfl,Ki,zU,rI,ng⟩;have g7:=mo.later ae;have fO:=ng.frL (L:=some lb) g7;have nf:=ng.frL (L:=none) g7;exact z.o):G:=h
def aBF (h:G:=by
  go_wp2_with fail;have⟨b3,bz,bh,bI,bE,cK,b1,bU⟩:=rt3 dg.out cQ.out bG cT eu (NY 0) (NY 0) (Pm);rw[<-bz];refine Y2 (v:=.tuple #[vA vU,.iface et ex]) ?_;exact z.o):G:=h
def aES (h:G:=by
  have aj:=(Yk 348 349 (isVal c.l) (acZ c.l F) RP TV (ahp c) (atY ah) aET aEU Ol Ol (atZ cL) F.fuel e8.drew d j _ rfl (by rw[aa];nofun) jK.drew)
  exact z.o):G:=h
def aEV (h:G:=by
  go_enter func154,ntmps154;have aj:=(O5 c abu w i d h Ol);rw[aR] at aj;go_wp2_with fail;refine cm aj ?_;intro e ef al;obtain⟨⟨va,rfl,rfl⟩,ba,ay⟩:=al;exact z.o):G:=h
def aDy (h:G:=by
  refine PS 4 fun K D=>?_;go_simp;refine cm (NZ eR _) ?_;rintro e ef ⟨rfl,cl⟩;have kl:Oo wz ef:=ae.trans cl;refine D.out _ _ (fun _=>kl) ?_;clear D K;exact z.o):G:=h
def azw (h:G:=by
  obtain⟨g,cap,q,am,hg,ai,ax⟩:=(dy.later A).cell k aM;simp only[Value.slice.injEq] at am;obtain⟨rfl,_,rfl⟩:=am;have hK:(k:Int)<(ap.length:Int):=Oe;exact z.o):G:=h
def aEW (h:G:=by
  have dr:=((Ap.refl c.R jW.heap.size jW).drew).next ay;have kP:Hid (Ap c.R jW.heap.size jW aD/\PI c aD i5 d/\PO (From jW.heap.size) aD b2 cw):=⟨dr,ba,hx⟩;exact z.o):G:=h
def aCQ (h:G:=by
  have hU:=hide (ah.keep gr.out Ol);have mg:=aJ;have y4:=aL;have hr:=(g'.trans ah);have⟨v9,l2⟩:=xE b5.1.1;rw[<-l2];have lh:=hide l2;clear aL ah l2;exact z.o):G:=h
def aEX (h:G:=by
  have rZ:=(pd.alloc pd.size (.cells #[Oj x.tx,NY x.kd,NY x.parts,NY x.str] 275));have q9:=(mj.alloc (.cells #[Oj x.tx,NY x.kd,NY x.parts,NY x.str] 275));exact z.o):G:=h
def aEY (h:G:=by
  have dr:=((Ap.refl c.R w2.heap.size w2).drew).next ay;have kP:Hid (Ap c.R w2.heap.size w2 aD/\PI c aD hn d/\PO (From w2.heap.size) aD lF cw):=⟨dr,ba,jR⟩;exact z.o):G:=h
def aEZ (h:G:=by
  have aj:=(ah.pr 2 Ol Ol (wt.alloc (.cells #[NY (OX c.l i).kd,Oj (OX c.l i).tx,NY (OX c.l i).n,NY ((OX c.l i).pl:Int)] 144)) d i _ rfl (by rw[aa];nofun) Cz)
  exact z.o):G:=h
def aCq (h:G:=by
  have y':=hide (fun X (aJ:Ms w0 mb af O X σ) (qw:OJ O X a d)=>apq aJ aH Oe qw ai ⟨au,aG,false⟩ aC al);rw[fl,<-bj.out] at y';have mY:=hide bu;exact z.o):G:=h
def azn (h:G:=by
  have A:=VP aY gs s i kd n tx e aM j6 aa;rw[P5 aY gs s i aX kd n tx e aM aa A.1] at h;have pM:=TU PU s e;have gh:=QU PU s e A.2;exact z.o):G:=h
def aE0 (h:G:=by
  refine wg 6 (.tuple #[.agg #[Oj x.tx,NY x.kd,NY x.parts,NY x.str],Om true]) rfl (Or.inl ⟨by kernel_rfl,fun W a6=>by have hh:=fe.out W a6;go_simp⟩) bN ?_
  exact z.o):G:=h
def aE1 (h:G:=by
  have⟨iS,_,_,_,_⟩:=node_cells en.blk;rw[iy.out] at iS;have uu:=lt_of_heap en.blk;rw[iF] at en iS uu;have jK:=cP;have kg:=db;clear gO jT;exact z.o):G:=h
def aDF (h:G:=by
  rw[cM,b4,show w.heap.size+2=((w.alloc (.cells #[NY au,NY aG,Om st,.pointer aC] 73)).alloc (.cells #[Om fZ,NY ok,NY on,Oj fY] 67)).heap.size by simp];exact z.o):G:=h
def aCj (h:G:=by
  rintro e aq ⟨⟨ka,rfl,iH⟩,bn⟩;have⟨va,du,wL⟩:=OG iH;subst wL;have eF:=(el.later bn);have cT:=(cG.trans (Q9.of bn (OO el.lt)));exact z.o):G:=h
def aCe (h:G:=by
  rw[al] at hP;have HP:=hP;have aI:r=none:=by rw[aa];unfold evT;rw[al]
  subst aI;clear aa al;go_enter func321,ntmps321;go_wp2_with fail;refine cm HP ?_;exact z.o):G:=h
def aAn (h:G:=by
  have⟨hp,ES⟩:=hget 0 Ol;have⟨gp,bH⟩:=hget 1 Ol;have⟨gb,iY⟩:=hget 2 Ol;have⟨ka,w3⟩:=hget 3 Ol;have⟨uO,ET⟩:=hget 4 Ol;exact z.o):G:=h
def aE2 (h:G:=by
  intro e w1 al;obtain⟨⟨v1,rfl,f9⟩,ba,ay⟩:=al;have eq:=(eZ.next ay);have ec:=(KV.mono f9.1 eZ.size);clear h;obtain⟨va,du,rfl⟩:=ec.shape;exact z.o):G:=h
def aBX (h:G:=by
  go_wp2_with fail;have⟨b3,bz,bh,bI,bE,cK,b1,bU,ej⟩:=rt4 ed.out cQ.out bG (OV.up (L:=L) dm) hc (Om false) (NY 0) (NY 0) (Pm);rw[<-bz];exact z.o):G:=h
def azZ (h:G:=by
  unfold TY at h;have⟨_,i0,h0,h⟩:=binds h;have⟨b,a8,h1,h⟩:=binds h;have⟨c,i2,U,h⟩:=binds h;have⟨f,i3,av,h⟩:=binds h;exact z.o):G:=h
def aE3 (h:G:=by
  have uf:=Do.later hbel;obtain⟨t,fr,hg⟩:=uf.hw;have gf:=afh aY s k w2 ab E uf.lw t fr hg;rw[dy.out] at gf;refine cm gf ?_;clear hg;exact z.o):G:=h
def aAk (h:G:=by
  have c9:∀ j,aq.cell? (N9 g j)=wr.cell? (N9 g j):=fun j=>by
   rw[cell_below f7 (a:=(N9 g j)) (by show g<_;omega),World.cell?_alloc_past _ _ _ dC]
  exact z.o):G:=h
def aE4 (h:G:=by
  have uf:=Do.later ts;obtain⟨t,fr,hg⟩:=uf.hg;have gf:=afi gs s k bD ab E uf.lg uf.zg t fr hg;rw[dy.out] at gf;refine cm gf ?_;exact z.o):G:=h
def aDn (h:G:=by
  unfold OC;have E:k<s.data.toList.length:=by simpa using h
  have e:s.data.toList.drop k=s[k]::s.data.toList.drop (k+1):=List.drop_eq_getElem_cons E;exact z.o):G:=h
def az4 (h:G:=by
  have ai:wr.cell? (N9 g k)=some (N7 q):=by rw[hbel.cell (p:=(N9 g k)) hg];exact gf
  have hK:(k:Int)<(ap.length:Int):=Oe;have da:=hbel.size;exact z.o):G:=h
def aB7 (h:G:=by
  rintro e d6 ⟨⟨BI,rfl,dt⟩,hH⟩;have⟨va,du,Jt⟩:=OG dt;subst Jt;have⟨l,yf⟩:=xE (Py bl.2);rw[<-yf] at dt yo hs ⊢;exact z.o):G:=h
def aCX (h:G:=by
  refine S9 16 fun ae=>?_;refine up 0 q 0 ae ?_;refine up 1 bc 0 ae ?_;refine uk 2 (b7.out.1) ae ?_;refine up 3 bc 2 ae ?_;refine uk 4 (b7.out.2.2.1) ae ?_;exact z.o):G:=h
def aE5 (h:G:=by
  go_simp;refine D _ _ ?_;clear D K;refine QF 8 fun K D=>?_;have z:=N8 (∀{G}(h:G:=by
  rintro e BJ ⟨rfl,rfl⟩;refine D _ _ ?_;clear D K;refine QF 9 fun K D=>?_;exact ayj),G);exact ayc):G:=h
def aE6 (h:G:=by
  go_simp;refine D _ _ ?_;clear D K;refine QF 9 fun K D=>?_;have z:=N8 (∀{G}(h:G:=by
  refine QF 10 fun K D=>?_;exact aye),G);exact ax9):G:=h
def awp (h:G:=by
  rw[<-bz];refine WB (v:=.tuple #[vA v9,ev]) ?_;exact⟨⟨_,by rw[lh.out],aL.Qn bh Ol⟩,bE,bI⟩):G:=h
def aCL (h:G:=by
  rintro e aD ⟨⟨ev,rfl,aL⟩,aJ,ah⟩;have dz:=hide (ah.keep dg.out Ol);have fj:=(cT.trans ah);have⟨v9,l2⟩:=xE rs.1.1;rw[<-l2];have lh:=hide l2;clear l2;exact aB9):G:=h
def ayf (h:G:=by
  obtain⟨gu,gv,hD⟩:=(Open.later ci dr bW.out).cell;exact axP):G:=h
def ayg (h:G:=by
  obtain⟨gu,gv,hD⟩:=(Open.later ci dr bW.out).cell;exact ayh):G:=h
def aCN (h:G:=by
  have⟨rs,eB⟩:=xE (within σ (evB F v.s ⟨1,0,false⟩))
  have a6:=fun X (ak:Mx w0 mb af O aT aB aA aK X σ) (bP:X.heap[dn]? = some (OM #[N7 mb] 62)) (kp:X.heap[bc]? = some (OM #[NY 1,NY 0,Om false,QS] 73)) (g8:X.heap[em]? = some (OM #[.slice (some (N9 g iZ)) dN dM] 311)) (Bx:Ue X (.slice (some (N9 g iZ)) dN dM) (v::vs))=>ab3 (es:=es) ak dE auW (caps:=#[Oy em 0,Oy bc 0,Oy dn 0]) (g:=evB F v.s ⟨1,0,false⟩) bX (fun vV Y bJ bC da=>akv ab a1 wi bJ (aH.calls _) hN 1 0 false none ⟨by omega,by show (1:Int)<(σ.M.Ov.length:Int);omega⟩ (bC _ _ _ bP Ol) (bC _ _ _ kp Ol) (bC _ _ _ g8 Ol) (Bx.keep fun b c A=>bC b c 65 A Ol) (br vV))
  have z:=N8 (∀{G}(h:G:=by
  have⟨zJ,_⟩:=eC.hh.at_ 10 _ rfl;have⟨tX,_⟩:=eC.hh.at_ 11 _ rfl;have cy:=bx1 ib.out;have⟨aU,p1,cp,cJ,gU,d3⟩:=cells4 ot.out;have pa:=gU 0;have BB:=gU 1;have w6:=gU 2;have w7:=gU 3;have dk:=eC.lt;have eV:=lt_of_heap ib.out;have r3:=hide zJ;have yR:=hide tX;have hV:=hide cy;clear gU c0 c1 gH d8 gt dC Is AA It ds Ja Jb s4 zJ tX cy;refine S9 9 fun ae=>?_;refine uk 0 hV.out ae ?_;refine up 1 mb 0 ae ?_;refine up 2 mb 13 ae ?_;refine uk 3 yR.out ae ?_;refine uk 4 hV.out ae ?_
  refine up 5 mb 0 ae ?_;refine up 6 mb 12 ae ?_;refine uk 7 r3.out ae ?_;refine uh 8 (.agg #[NY 1,NY 0,Om false,QS]) (ae) ?_;refine PS 9 fun K D=>?_;go_simp;refine ko D ?_;clear D K;refine RY ?_ _;go_simp;have lZ:mb<=bc:=Oe;have kZ:=Ud ot.out lZ (NY 1) (NY 0) (Om false) QS;have AX:=aai ot.out (NY 1) (NY 0) (Om false) QS;have hold:∀ b,b<w.heap.size->_:=UR (w':=w2) dq (NY 1) (NY 0) (Om false) QS
  have⟨bD,fH⟩:=xE ((((w2.setCell (N9 bc 0) (NY 1)).setCell (N9 bc 1) (NY 0)).setCell (N9 bc 2) (Om false)).setCell (N9 bc 3) QS);rw[<-fH] at kZ AX hold ⊢;have⟨aq,mL⟩:=xE bD.drew;have d1:Oo bD aq:=by rw[mL];exact QI.drew
  have gR:=eC.YC kZ Ol;have dg:=hide (stays d1 (kZ.rest _ _ _ bq.out Ol));have cT:=((cG.newT kZ hold).trans (OV.of (L:=none) d1 (OO gR.lt)));have eF:=(gR.later d1);have sa:=hide (stays d1 (kZ.rest _ _ _ ib.out Ol));have xq:=hide (stays d1 (kZ.rest _ _ _ nB.out Ol));have lP:=((ml.keep fun b c A=>kZ.rest b c 65 A Ol).later d1);have gi:=stays d1 AX;rw[<-mL];have FM:=hide gi;have cy:=bx1 sa.out;have D9:=lt_of_heap sa.out;clear mL fH gi AX hold aU p1 cp cJ pa BB w6 w7 d3 eV;go_wp2_with fail
  refine cm (NZ zE aq eF sa.out FM.out xq.out lP) ?_;exact aCL),G);exact aCM):G:=h
def aBd (h:G:=by
  have z:=N8 (∀{G}(h:G:=by
  refine uh 10 (Om false) (kl) ?_;have z:=N8 (∀{G}(h:G:=by
  have sV:=gI.kp (Kp.of kl);have cL:=NZ p8;have z:=N8 (∀{G}(h:G:=by
  have fa:=hide (fun X (ak:Oo ef X)=>NZ gY v1 σ1 bV.out X bP aC (j0.later ak) (jf.kp (Kp.of ak)));rw[<-pO] at fW fa;have pm:=hide (cells4 (stays kl e'.out));have wx:=lt_of_heap (stays kl e'.out);have s3:q<ef.heap.size:=by rw[bj.out];exact sV.cells.1
  have sY:=cell_lt fW;have uV:=hide jL;have oi:=hide fW;have aI:rs=F.v (Oa d 1) ⟨au,aG,st⟩ σ1:=by rw[bA.out];unfold Zw;rw[bV.out];simp[md.out,ov.out]
  rw[<-aI] at fa;clear cS bY cg dJ dK dL rl fB cy dO ip iq ir ia jL fW pO cL aI;go_simp;go_wp2_with fail;refine S9 8 fun ae=>?_;have z:=N8 (∀{G}(h:G:=by
  refine uk 4 uV.out ae ?_;refine up 5 bK 1 ae ?_;refine uk 6 oi.out ae ?_;refine uk4 7 pm.out ae ?_;refine PS 8 fun K D=>?_;go_simp;refine cm (NZ fa _ ae) ?_;rintro e aD ⟨⟨ev,rfl,aL⟩,aJ,ah⟩;refine ko D ?_;clear D K;have jO:=(OV.of (L:=none) ae (OO oU)).trans ah;have dz:=hide (jO.keep jJ.out Ol);have fj:=(m0.trans jO);have⟨v9,lh⟩:=xH rs.1.1;rw[<-lh.out];have⟨hp,gp,gb,kb,kc,ke,kf⟩:=O3 dz.out;refine uz 9 (vA v9) ?_;refine uz 10 ev ?_;have z:=N8 (∀{G}(h:G:=by
  go_simp;exact ayi),G);exact apj),G);exact VZ),G);exact awJ),G);exact aDx),G);exact aDy):G:=h
def aCv (h:G:=by
  refine D.out _ _ (fun _=>sO) ?_;clear D K;have ud:OV (some lb) mb ch d6:=(OV.of cl (OO rA)).trans fO;have pG:Ms w0 mb af O d6 tm:=⟨_,_,_,_,rI⟩;have yd:Kp ch d6:=fun b c e A ao=>ng.kp g7 b c e (Kp.of cl b c e A ao) ao;have ue:OE d6 (some lb) (some vU):=nf.keep (stays cl xx) Ol;have AP:=rI.lt;have JF:d6.heap[ch.heap.size]? = some (OM #[Om false,NY 0,NY 0,Pm] 67):=nf.keep (Oi ch.drew _) Ol;refine PS 9 fun K D=>?_;go_simp;refine cm (NZ fa _ (pG) yd (ue)) ?_;rintro e aD ⟨⟨ev,rfl,aL⟩,g4,gw,g3⟩
  refine ko D ?_;clear D K;have fi:aD.heap[ch.heap.size]? = some (OM #[Om false,NY 0,NY 0,Pm] 67):=gw.RS ue JF Ol Ol;have z:=N8 (∀{G}(h:G:=by
  have cj:=SB.early (w2:=ch) (o:=bH) fi Pg (OO rA) aL g4 (ud.trans gw) g3
  generalize (((aD.setCell (N9 ch.heap.size 0) (Om bH.ret)).setCell (N9 ch.heap.size 1) (NY bH.v.k)).setCell (N9 ch.heap.size 2) (NY bH.v.n)).setCell (N9 ch.heap.size 3) (Oj bH.v.s)=wz at cj ⊢
  generalize ch.heap.size=vb at cj ⊢
  exact dD wz vb ev cj),G);exact aEB):G:=h
def aE7 (h:G:=by
  have z:=N8 (∀{G}(h:G:=by
  refine wr2 4 7 (fun K D=>?_) fun K D=>?_
  ·go_simp;refine D _ _ ?_;clear D K;refine QF 7 fun K D=>?_;exact aE5
  ·go_simp;refine D _ _ ?_;clear D K;refine wr2 4 8 (fun K D=>?_) fun K D=>?_
   ·exact aE5
   ·have z:=N8 (∀{G}(h:G:=by
    rintro e BJ ⟨rfl,rfl⟩;exact ayh),G);exact ayc),G);exact atS):G:=h
def avu (h:G:=by
  have z:=N8 (∀{G}(h:G:=by
  have aj:=(aaO t p s i b ek wo Oe);have h0:=kx.c0;have h1:=kx.c1;have U:=kx.c2
  generalize brE t s=er at aj
  exact anJ),G);exact zsq):G:=h
def aCs (h:G:=by
  go_simp;have cl:Oo d6 (d6.alloc (.cells #[Om false,NY 0,NY 0,Pm] 67)):=PE;refine D.out _ _ (fun _=>⟨stays cl sO.1,OT cl sO.2⟩) ?_;clear D K;refine PS 9 fun K D=>?_;go_simp;refine cm (NZ fa _ (pG.later cl) (fun b c e A ao=>Kp.of cl b c e (yd b c e A ao) ao) (ue.later cl)) ?_;rintro e aD ⟨⟨ev,rfl,aL⟩,g4,gw,g3⟩;refine ko D ?_;clear D K;have fi:aD.heap[d6.heap.size]? = some (OM #[Om false,NY 0,NY 0,Pm] 67):=gw.RS (ue.later cl) (Oi _ _) Ol Ol;have z:=N8 (∀{G}(h:G:=by
  have cj:=SB.early (w2:=ch) (o:=bH) fi ud.below.size (OO rA) aL g4 ((ud.trans (OV.of cl (OO AP))).trans gw) g3
  generalize (((aD.setCell (N9 d6.heap.size 0) (Om bH.ret)).setCell (N9 d6.heap.size 1) (NY bH.v.k)).setCell (N9 d6.heap.size 2) (NY bH.v.n)).setCell (N9 d6.heap.size 3) (Oj bH.v.s)=wz at cj ⊢
  generalize d6.heap.size=vb at cj ⊢
  exact dD wz vb ev cj),G);exact aEB):G:=h
def aE8 (h:G:=by
  have z:=N8 (∀{G}(h:G:=by
  have z:=N8 (∀{G}(h:G:=by
  refine wr2 4 8 (fun K D=>?_) fun K D=>?_
  ·go_simp;refine D _ _ ?_;clear D K;refine QF 8 fun K D=>?_;have z:=N8 (∀{G}(h:G:=by
   have dr:=((Ap.refl c.R gV.heap.size gV).drew).next ay;have kP:Hid (Ap c.R gV.heap.size gV aD/\PI c aD hn d/\PO (From gV.heap.size) aD lF cw):=⟨dr,ba,jR⟩;exact ayf),G);exact ahn
  ·have z:=N8 (∀{G}(h:G:=by
   have dr:=((Ap.refl c.R gV.heap.size gV).drew).next ay;have kP:Hid (Ap c.R gV.heap.size gV aD/\PI c aD hn d/\PO (From gV.heap.size) aD lF cw):=⟨dr,ba,jR⟩;exact ayg),G);exact ahn),G);exact amK),G);exact aar):G:=h
def azB (h:G:=by
  have z:=N8 (∀{G}(h:G:=by
  have aj:=(Zm t p s i b ek wo E ai);have h0:=kx.c0;have h1:=kx.c1;have U:=kx.c2
  generalize fnE t s=er at aj
  exact anJ),G);exact zsq):G:=h
def aBw (h:G:=by
  refine uk 6 ty.out ae ?_;refine uk4 7 Ct.out ae ?_;refine uq2 8 12 (fun K D=>?_) fun K D=>?_
  ·have z:=N8 (∀{G}(h:G:=by
   refine uz 14 ev ?_;refine RY ?_ _;go_simp;have cj:=VB.late (v:=v1) aL aJ ((OV.of ae (OO fQ)).trans ah);exact axM),G);exact asI
  ·exact aGS):G:=h
def aye (h:G:=by
  go_simp;refine D _ _ ?_;clear D K;exact Uu (listed':=tf 11 4) Pe Pe (dD aD cw kP.out)):G:=h
def awI (h:G:=by
  have⟨lE,q6⟩:=xH rs.1.1;rw[<-q6.out];have⟨hp,gp,gb,ka,kb,kc,ke,xf,kf⟩:=QK dz.out;refine uz 9 (UD lE) ?_;refine uz 10 ev ?_;have z:=N8 (∀{G}(h:G:=by
  go_simp;exact aDr),G);exact apj):G:=h
def aCx (h:G:=by
  subst ao;have bu:ev=Qd:=xo;subst bu;obtain⟨vl,h5⟩:∃ vl,bQ=some vl:=by
   have h:=Cg
   cases bQ with
   | none=>exact h.elim
   | some v=>exact⟨v,rfl⟩
  subst h5;have Ea:wt.heap[lb]? = some (Y0 vl):=Cg;have⟨hM,gW,gX,_,hO⟩:=cells3 Ea;clear Ea;go_wp2_with fail;have⟨b3,bz,bh,bI,bE,cK,b1,bU⟩:=rt3 sr.out cQ.out bG r' Ck (NY vl.k) (NY vl.n) (Oj vl.s);rw[<-bz];refine WB (v:=.tuple #[vA vl,Qd]) ?_;rw[yZ.out];exact⟨⟨_,rfl,rfl⟩,bE,bI⟩):G:=h
def ayi (h:G:=by
  go_wp2_with fail;have⟨b3,bz,bh,bI,bE,cK,b1,bU⟩:=rt3 dz.out cQ.out bG fj aJ (NY v9.k) (NY v9.n) (Oj v9.s);exact awp):G:=h
def aDs (h:G:=by
  go_wp2_with fail;refine cm aj ?_;rintro e E2 ⟨rfl,yn⟩;have iu:=(A.trans (yn.mono A.size))
  cases r with
  | some e=>
   have bX:vJ=some e:=by rw[tw.out];exact NZ hV e rfl
   subst bX;unfold Ve;go_wp2;go_ret;exact⟨rfl,dc.trans (iu.mono dc.size)⟩
  | none=>
   unfold Ve;go_wp2
   go_roundw
   case rel=>exact⟨k+1,by omega,by go_num,NZ el trivial,iu⟩
   case measure=>simp[intOf];omega):G:=h
def aE9 (h:G:=by
  have z:=N8 (∀{G}(h:G:=by
  refine QF 7 fun K D=>?_;go_simp;refine D _ _ ?_;clear D K;refine QF 8 fun K D=>?_;have z:=N8 (∀{G}(h:G:=by
  rintro e BJ ⟨rfl,rfl⟩;exact axP),G);exact ayc),G);exact atS):G:=h
def aFa (h:G:=by
  have jH:=(Open.later ci (Ap.of g6) bW.out).ev
  cases aa:O6 c.l PY bR with
  | out=>
   exact Rl
  | bad er p=>
   exact aG7
  | ok dO cr=>
   have aj:=(O5 c PY gV bR d rb Ol);have z:=N8 (∀{G}(h:G:=by
   intro e w2 al;obtain⟨⟨v2,rfl,rfl⟩,ba,ay⟩:=al;have eg:=(pe.next ay);exact aDK),G);exact XM):G:=h
def aFb (h:G:=by
  have aj:=(O5 c tEq dF bR d CA Ol);rw[F'.out] at aj;go_wp2_with fail;refine cm aj ?_;intro e E1 al;obtain⟨⟨NP,rfl,rfl⟩,ba,ay⟩:=al;have Cy:=ba;have yH:=(yI.next ay);replace ec:=(RX ec ay bW.out);clear t6
  cases aa:Pn c.l F.vl d (bR+1) with
  | out=>
   exact Rl
  | bad er p=>
   exact aG6
  | ok dO cr=>
   exact aGW):G:=h
def ayj (h:G:=by
  go_simp;refine D _ _ ?_;clear D K;exact Uu (listed':=tf 10 4) Pe Pe (dD aD cw kP.out)):G:=h
def aFc (h:G:=by
  have bL:=N8 (∀{G}(h:G:=by
  rintro bi w2 ⟨rfl,rfl⟩;exact axR),G);exact ztn):G:=h
def aBG (h:G:=by
  refine RY ?_ _;go_simp;have cj:=VB.early (v:=v1) fi Pg (OO dk) aL aJ ((OV.of (PE.drew) (OO dk)).trans ah)
  generalize ((aD.setCell (N9 w2.heap.size 0) (NY v1.k)).setCell (N9 w2.heap.size 1) (NY v1.n)).setCell (N9 w2.heap.size 2) (Oj v1.s)=wz at cj ⊢
  generalize w2.heap.size=vb at cj ⊢
  exact dD wz vb ev cj):G:=h
def axQ (h:G:=by
  generalize aD.alloc (.cells #[Om bH.ret,NY bH.v.k,NY bH.v.n,Oj bH.v.s] 67)=wz at cj ⊢
  generalize aD.heap.size=vb at cj ⊢
  exact dD wz vb ev cj):G:=h
def aFd (h:G:=by
  have z:=N8 (∀{G}(h:G:=by
  have z:=N8 (∀{G}(h:G:=by
  intro e w2 al;obtain⟨⟨v2,rfl,rfl⟩,ba,ay⟩:=al;have eg:=(iO.next ay);exact aDK),G);exact XM),G);exact axS):G:=h
def aBD (h:G:=by
  refine RY ?_ _;go_simp;go_wp2_with fail;have⟨b3,bz,bh,bI,bE,cK,b1,bU⟩:=rt3 dz.out cQ.out bG fj vj (NY v9.k) (NY v9.n) (Oj v9.s);rw[<-bz];refine WB (v:=.tuple #[vA v9,ev]) ?_;rw[bN.out];exact⟨⟨_,by rw[lh.out],y3.Qn bh Ol⟩,bE,bI⟩):G:=h
def aDr (h:G:=by
  go_wp2_with fail;have⟨b3,bz,bh,bI,bE,cK,b1,bU,ej⟩:=rt4 dz.out cQ.out bG fj aJ (Om lE.ret) (NY lE.v.k) (NY lE.v.n) (Oj lE.v.s);rw[<-bz];refine U8 (v:=.tuple #[UD lE,ev]) ?_;exact⟨⟨_,by rw[q6.out],aL.Qn bh Ol⟩,bE,bI,g3.Tv bh⟩):G:=h
def asM (h:G:=by
  go_wp2_with fail;have⟨b5,dt⟩:=xE (PX false);have h2:=VF false wz;exact awD):G:=h
def axM (h:G:=by
  generalize aD.alloc (.cells #[NY v1.k,NY v1.n,Oj v1.s] 65)=wz at cj ⊢
  generalize aD.heap.size=vb at cj ⊢
  exact dD wz vb ev cj):G:=h
def aCy (h:G:=by
  have cD:=hide aI;clear aI ao;go_wp2_with fail;have⟨b3,bz,bh,bI,bE,cK,b1,bU⟩:=rt3 sr.out cQ.out bG r' Ck (NY 0) (NY 0) (Pm);rw[<-bz];refine Y2 (v:=.tuple #[vA vU,.iface et ex]) ?_;rw[cD.out];exact⟨⟨_,rfl,xo.Qn bh Ol⟩,bE,bI⟩):G:=h
def awG (h:G:=by
  have⟨et,ex,bu⟩:=a7.er.WC ao ab;subst bu;have aI:rs=(aw,σ1):=by
   rw[bA.out];exact axO
  exact aG5):G:=h
def atD (h:G:=by
  rw[cD.out];exact⟨⟨_,rfl,lM.Qn bh Ol⟩,bE,bI,bW.Tv bh⟩):G:=h
def aDA (h:G:=by
  have cL:k=t.kids.length:=Oe;subst cL;have m':vJ=none:=by
   have h1:=NZ fK;rw[List.take_length] at h1;rw[tw.out];exact h1
  subst m';go_wp2;go_ret;exact⟨rfl,dc.trans (A.mono dc.size)⟩):G:=h
def aDB (h:G:=by
  have h1:=cq;rw[gR];refine⟨h1.os,h1.tape,h1.output,by simpa using h1.size,fun k E=>?_⟩;rw[Below.heap_setCell jl (N9 w.heap.size 2) _ k (by show k≠w.heap.size;omega)]
  exact h1.block k E):G:=h
def aDE (h:G:=by
  have⟨ai,aF⟩:=ZK nU;have hQ:=hide A;clear A jw;go_wp2_with fail;exact afb (v:=.tuple #[YP,NY 0,.iface 150 (Oy b 0)]) ⟨b,rfl,abd nU rz hQ.out _ _ _ _⟩):G:=h
def aBz (h:G:=by
  rw[<-dt];have df:=hide dt;have z:=N8 (∀{G}(h:G:=by
  clear dt;exact aBB),G);exact awz):G:=h
def aA3 (h:G:=by
  rintro e ce ⟨⟨ev,rfl,aL⟩,fm⟩;have jI:=(jq.later fm);have g':=(fD.trans (OV.of (L:=none) fm (OO gz)));go_wp2;go_ret;exact⟨⟨_,rfl,aL⟩,jI,g'⟩):G:=h
def aHf (h:G:=by
  rw[Y8 s k e i gJ az];have kt:i<e - k:=by rw[extract_size s k e Oe gJ] at az;exact az
  exact afg Qe s (s.size - k) k Oe (k+i) Oe (by rw[dB.out];omega) Oe):G:=h
def aDG (h:G:=by
  rw[<-bz] at ea bI bE oK;have⟨cK,b1,bU,_,_⟩:=cells3 ea;refine Y2 (v:=.tuple #[vA vU,.iface et ex]) ?_;rw[bN.out];exact⟨⟨_,rfl,oK⟩,bE,bI⟩):G:=h
def axN (h:G:=by
  intro e w' al;obtain⟨rfl,ay⟩:=al;exact⟨rfl,Qc a'.out.symm (eZ.next ay)⟩):G:=h
def awF (h:G:=by
  have cr:¬ v2.k=3:=fun h=>w1 bR h;clear w1 uP uQ bD;go_wp2_with fail;exact ao6):G:=h
def ayk (h:G:=by
  rintro kj ce ⟨rfl,fm⟩;have nU:=ts.trans (fm.mono ts.size);exact aDH):G:=h
def axO (h:G:=by
  cases aw with
  | no=>exact absurd rfl ao
  | stop=>rfl
  | mis=>rfl
  | X8 x=>rfl):G:=h
def aBK (h:G:=by
  have⟨et,ex,bu⟩:=a7.er.WC ao ab;subst bu;have aI:rs=((Qy,aw,l),σ1):=by
   rw[bA.out];unfold chQ;rw[bV.out];exact axO
  exact aG3):G:=h
def aBf (h:G:=by
  have⟨et,ex,bu⟩:=a7.er.WC ao ab;subst bu;have aI:rs=((v1,aw),σ1):=by
   rw[bA.out];unfold Zw;rw[bV.out];exact axO
  exact aGQ):G:=h
def aDM (h:G:=by
  have bN:=ba;replace jH:=(EV.later jH ay bW.out);have jT:=NZ pp;subst jT;go_wp2;go_ret;exact Tz a'.out.symm jH.nv bN eq):G:=h
def axK (h:G:=by
  rw[aa] at ld;simp only[acv] at ld;exact absurd ld.out.symm dp.out):G:=h
def aFe (h:G:=by
  have bq:=hr2;have bo:=aE;rw[<-iB];clear iB;refine D.out _ _ bq (fun _=>?_);clear D K;refine wh 12 (Om false) bq ?_;exact aDJ):G:=h
def aCc (h:G:=by
  have dB:=hide aL;clear aL;go_wp2_with fail;refine UC (v:=.tuple #[QS,.iface 122 (Oy tb 0)]) ?_;exact⟨dG,_,rfl,tb,rfl,dB.out⟩):G:=h
def aFf (h:G:=by
  have bq:=hr2;have bo:=aE;rw[<-iB];clear iB;refine D.out _ _ bq (fun _=>?_);clear D K;refine wh 12 (Om true) bq ?_;exact aDJ):G:=h
def aCE (h:G:=by
  rw[aw];have f8:(Instr.lookup 80 (.map (some af)) (N7 p) true).run prog w=.ok (.tuple #[NY (k:Int),Om true]) w:=hl;exact aDS):G:=h
def aCD (h:G:=by
  rw[aw];have f8:(Instr.lookup 80 (.map (some af)) (N7 p) true).run prog w=.ok (.tuple #[NY 0,Om false]) w:=hl;exact aDS):G:=h
def aDD (h:G:=by
  go_simp;refine cm aj ?_;intro e w' al;obtain⟨rfl,ay⟩:=al;exact⟨rfl,Qc a'.out.symm (pe.drew.next ay)⟩):G:=h
def aDq (h:G:=by
  rw[bA.out];unfold VY;rw[bV.out]
  cases aw with
  | no=>exact absurd rfl gy
  | stop=>rfl
  | mis=>rfl
  | X8 x=>rfl):G:=h
def aAt (h:G:=by
  go_wp2_with fail;refine cm be ?_;rintro e w' ⟨rfl,rfl⟩;go_wp2_with fail;refine cm ew ?_;exact aAL):G:=h
def Y3 (h:G:=by
  clear bb hr2 dq cE d2 br bm;go_enter func196,ntmps196;have z:=N8 (∀{G}(h:G:=by
  have z:=N8 (∀{G}(h:G:=by
  have z:=N8 (∀{G}(h:G:=by
  rintro e aD ⟨⟨ev,rfl,aL⟩,aJ,ah⟩;have dz:=hide (ah.keep ed.out Ol);have fj:=(dm.trans ah);have⟨v9,lh⟩:=xH rs.1.1;rw[<-lh.out];clear aU p1 cp cJ d3 he hj;have⟨hp,gp,gb,kb,kc,ke,kf⟩:=O3 dz.out;exact ayi),G);exact as1),G);exact aBY),G);exact abY):G:=h
def aeF (h:G:=by
  refine S9 8 fun ae=>?_;have z:=N8 (∀{G}(h:G:=by
  have z:=N8 (∀{G}(h:G:=by
  refine uk4 7 ei.out ae ?_;refine uq2 8 12 (fun K D=>?_) fun K D=>?_
  ·have z:=N8 (∀{G}(h:G:=by
   refine uz 14 ev ?_;refine RY ?_ _;go_simp;have cj:=VB.late (v:=v1) aL aJ ((OV.of ae (OO dk)).trans ah);exact axM),G);exact asI
  ·have z:=N8 (∀{G}(h:G:=by
   have fi:aD.heap[w2.heap.size]? = some (OM #[NY 0,NY 0,Pm] 65):=ah.keep (Oi _ _) Ol;have z:=N8 (∀{G}(h:G:=by
   refine PS 13 fun K D=>?_;go_simp;refine ko D ?_;clear D K;refine uz 14 ev ?_;exact aBG),G);exact asJ),G);exact asK),G);exact ao3),G);exact VZ):G:=h
def aCl (h:G:=by
  refine cm (NZ ci aY pu) ?_;rintro e aq ⟨rfl,tg,fI,c7⟩;have fO:=c7.frL (L:=none) pu;have cT:=(xp.trans fO);have fk:=hide (fO.keep qe.out Ol);have dg:=hide (fO.keep fM.out Ol);have jF:Kp w2 aq:=fun b c e A ao=>c7.kp pu b c e (pi b c e A ao) ao;have⟨aU,p1,cp,cJ,gU,d3⟩:=cells4 fk.out;have pa:=gU 0;have BB:=gU 1;have w7:=gU 3;clear gU;go_wp2_with fail;have lZ:mb<=bc:=Oe;have lu:=V4 (j:=0) fk.out lZ (NY dR);have ls:=Yu fk.out (NY dR);have Bf:=V4 (j:=1) ls lZ (NY dR)
  have AY:=as9 ls (NY dR);have⟨i7,lz⟩:=xE ((aq.setCell (N9 bc 0) (NY dR)).setCell (N9 bc 1) (NY dR));have Ev:i7.heap.size=aq.heap.size:=by rw[lz];simp
  have lQ:=((fI.YC lu Ol).YC Bf Ol);have i':OV none mb w ((aq.setCell (N9 bc 0) (NY dR)).setCell (N9 bc 1) (NY dR)):=(cT.newT lu (fun b A=>heap_setCell_other _ _ _ _ (show b≠bc by omega))).newT Bf (fun b A=>heap_setCell_other _ _ _ _ (show b≠bc by omega));have hs:Hid (i7.heap[aV]? = some (OM #[NY 0,NY 0,Pm] 65)):=by show _=_;rw[lz,heap_setCell_other _ _ _ _ (Ne.symm d2),heap_setCell_other _ _ _ _ (Ne.symm d2)];exact NZ dg
  have k8:Kp w2 ((aq.setCell (N9 bc 0) (NY dR)).setCell (N9 bc 1) (NY dR)):=fun b c e A ao=>Bf.rest b c e (lu.rest b c e (jF b c e A ao) (by rcases ao with rfl|rfl <;> decide)) (by rcases ao with rfl|rfl <;> decide);rw[<-lz] at lQ i' k8 AY ⊢;have iP:=hide AY;rw[<-Ev];clear ls AY lz Ev lZ;have z:=N8 (∀{G}(h:G:=by
  clear h6 gn AN qF A8 hsz5 jw aU p1 cp cJ pa BB w7 d3;have qv:=k7.kp nD;obtain⟨cV,dM,c3,hrow⟩:=qv.ar;have⟨gB,gK⟩:=xE d.2.kids.length;rw[<-gK] at c3 hrow;rw[<-bj.out] at c3;have⟨zp,o4⟩:=xE ((OB d ⟨dR,dR,true⟩ fJ).1);have⟨tm,qM⟩:=xE ((OB d ⟨dR,dR,true⟩ fJ).2);have oC:=hide (fun X (ak:Oo ch X)=>ag4 (mo.later ak) nP Oe (qv.kp (Kp.of ak)) ai U ⟨dR,dR,true⟩ (some (N9 lb 0)) I1);rw[<-o4,<-qM,<-bj.out] at oC
  rcases eB:Qm F zp (Px d) (some vU) tm with ⟨⟨bH,aw,bQ⟩,mP⟩
  have fa:=hide (fun X (aJ:Ms w0 mb af O X tm) (E:Kp ch X) (hl:OE X (some lb) (some vU))=>NZ aj X (.slice cV gB dM) lb ⟨dR,dR,true⟩ fJ Ec lM.out (by rw[<-qM];exact aJ) (hrow.kp E) (Uc.kp E _ _ qv.ndl) hl)
  have z:=N8 (∀{G}(h:G:=by
  have nq:∃ c,ch.heap[q]? = some (OM c 40):=by
   have h1:=qv.at_;rw[bj.out]
   cases a with
   | mk p kd tx n ks=>
    rw[Ri] at h1;obtain⟨_,_,⟨v,A,_⟩,_⟩:=h1;exact⟨_,A⟩
  have ix:=hide nq;clear c3 gK eB nq o4 qM;have c8:ch.drew.heap[bc]? = some (OM #[NY dR,NY dR,Om true,Oy lb 0] 73)/\ch.drew.cell? (N9 q 3)=some (.slice cV gB dM):=⟨stays (Below.refl ch.heap.size ch).drew mh.out,OT (Below.refl ch.heap.size ch).drew ez.out⟩;refine VG (H:=fun wz vb ev=>SB w0 mb af O es (some lb) ch bH aw bQ mP wz vb ev) (G:=?GG) (fun dD=>?ways) ?rest
  case ways=>
   have ae:Oo ch ch.drew:=QI.drew;refine Qs 9 (fun X=>X.heap[bc]? = some (OM #[NY dR,NY dR,Om true,Oy lb 0] 73)/\X.cell? (N9 q 3)=some (.slice cV gB dM)) Pe ?_;refine up 0 mb 0 c8 ?_;refine up 1 q 0 c8 ?_;refine up 2 q 0 c8 ?_;refine up 3 q 3 c8 ?_;refine uc 4 (.slice cV gB dM) rfl (Or.inl ⟨by kernel_rfl,fun X ak=>by have h0:=ak.2;go_simp⟩) (c8) ?_
   refine up 5 mb 0 c8 ?_;refine up 6 q 0 c8 ?_;refine uc 7 (.agg #[NY dR,NY dR,Om true,Oy lb 0]) rfl (Or.inl ⟨by kernel_rfl,fun X ak=>by have h0:=(cells4 ak.1).1;have h1:=(cells4 ak.1).2.1;have U:=(cells4 ak.1).2.2.1;have av:=(cells4 ak.1).2.2.2.1;go_simp⟩) (c8) ?_
   refine uq2 8 13 (fun K D=>?_) fun K D=>?_
   ·have z:=N8 (∀{G}(h:G:=by
    have sO:d6.heap[bc]? = some (OM #[NY dR,NY dR,Om true,Oy lb 0] 73)/\d6.cell? (N9 q 3)=some (.slice cV gB dM):=⟨nf.keep (stays ae mh.out) Ol,by
     have⟨c,A⟩:=NZ ix;exact(ng.kp g7).XG (OT ae ez.out) ⟨c,stays ae A⟩⟩
    have z:=N8 (∀{G}(h:G:=by
    refine uq2 9 13 (fun K D=>?_) fun K D=>?_
    ·have z:=N8 (∀{G}(h:G:=by
     have cj:=SB.late (w2:=ch) (o:=bH) aL g4 (ud.trans gw) g3;exact axQ),G);exact aCr
    ·exact aCs),G);exact aCt),G);exact aCu
   ·go_simp;have cl:Oo ch (ch.drew.alloc (.cells #[Om false,NY 0,NY 0,Pm] 67)):=QI.drew.alloc OW _;have kl:(ch.drew.alloc (.cells #[Om false,NY 0,NY 0,Pm] 67)).heap[bc]? = some (OM #[NY dR,NY dR,Om true,Oy lb 0] 73)/\(ch.drew.alloc (.cells #[Om false,NY 0,NY 0,Pm] 67)).cell? (N9 q 3)=some (.slice cV gB dM):=⟨stays cl mh.out,OT cl ez.out⟩;have z:=N8 (∀{G}(h:G:=by
    have sO:d6.heap[bc]? = some (OM #[NY dR,NY dR,Om true,Oy lb 0] 73)/\d6.cell? (N9 q 3)=some (.slice cV gB dM):=⟨nf.keep (stays cl mh.out) Ol,by
     have⟨c,A⟩:=NZ ix;exact(ng.kp g7).XG (OT cl ez.out) ⟨c,stays cl A⟩⟩
    exact aCv),G);exact aCw
  case rest=>
   have z:=N8 (∀{G}(h:G:=by
   by_cases ao:aw=.no
   ·exact aCx
   ·have⟨et,ex,bu⟩:=xo.WC ao ab;subst bu;have aI:b5=((vU,aw),mP):=by
     rw[yZ.out];exact axO
    exact aCy),G);exact aCz),G);exact aCA),G);exact aCB):G:=h
def asu (h:G:=by
  rw[bo.out,b4,show w.heap.size+1=(w.alloc (.cells #[NY au,NY aG,Om st,.pointer aC] 73)).heap.size by simp];exact Oi _ _):G:=h
def ayl (h:G:=by
  have z:=N8 (∀{G}(h:G:=by
  refine wt 5 (Oj s) ?_;refine wt 6 (O1 c) ?_;refine wr2 4 7 (fun K D=>?_) fun K D=>?_
  ·go_simp;refine D _ _ ?_;clear D K;refine QF 7 fun K D=>?_;go_simp;refine cm gc ?_;have z:=N8 (∀{G}(h:G:=by
   have z:=N8 (∀{G}(h:G:=by
   have z:=N8 (∀{G}(h:G:=by
   refine QF 8 fun K D=>?_;go_simp;refine D _ _ ?_;clear D K;refine QF 9 fun K D=>?_;have z:=N8 (∀{G}(h:G:=by
   refine QF 10 fun K D=>?_;go_simp;refine D _ _ ?_;clear D K;refine Uu (listed':=tf 11 4) Pe rfl ?_;exact dD aD cw kP.out),G);exact ax9),G);exact atS),G);exact aEW),G);exact amM
  ·go_simp;refine cm gc ?_;have z:=N8 (∀{G}(h:G:=by
   have z:=N8 (∀{G}(h:G:=by
   have z:=N8 (∀{G}(h:G:=by
   refine wr2 4 8 (fun K D=>?_) fun K D=>?_
   ·go_simp;refine D _ _ ?_;clear D K;refine QF 8 fun K D=>?_;exact aE6
   ·go_simp;refine D _ _ ?_;clear D K;refine wr2 4 9 (fun K D=>?_) fun K D=>?_
    ·exact aE6
    ·have z:=N8 (∀{G}(h:G:=by
     refine wr2 4 10 (fun K D=>?_) fun K D=>?_
     ·go_simp;refine D _ _ ?_;clear D K;refine QF 10 fun K D=>?_;exact aye
     ·go_simp;refine D _ _ ?_;clear D K;refine QF 4 fun K D=>?_;exact aye),G);exact ax9),G);exact atS),G);exact aEW),G);exact amM),G);exact aar):G:=h
def aCi (h:G:=by
  have fj:=(NZ nA i7 (Ri.kp k8 _ cR.at_));have z:=N8 (∀{G}(h:G:=by
  have sr:=A6;go_wp2_with fail
  go_loopw [41] (fun i wr=>∃ (k:Nat) (ql:Ot),k<=cZ.length/\i=NY k/\Mx w0 mb af O aT aB tg ql wr (evF ⟨dR,aG,st⟩ aW k fJ)/\Q9 mb aA aK tg ql w wr/\wr.heap[bc]? = some (OM #[NY dR,NY aG,Om st,.pointer aC] 73)/\wr.heap[aV]? = some (OM #[NY 0,NY 0,Om false,QS] 73)/\Kp d6 wr) (fun i _=>cZ.length - (intOf i).toNat)
  case atStart=>exact⟨0,_,Nat.zero_le _,rfl,rf,p7,vn.out,nL.out,fun _ _ _ h _=>h⟩
  case round=>
   obtain⟨k,ql,E,rfl,jy,hZ,pQ,kY,oT⟩:=hrel;have z:=N8 (∀{G}(h:G:=by
   by_cases aM:k<cZ.length
   ·obtain⟨g,cap,am,hg,eI,ax⟩:=(sr.kp jp).cell k aM;have z:=N8 (∀{G}(h:G:=by
    have⟨dx,gS⟩:=xE (evF ⟨dR,aG,st⟩ aW k fJ);rw[<-gS] at eS;have jV:Sz (N+5000+2 * k) dx:=by rw[gS];exact Sz.evF _ aW k nP Oe
    have eK:=NZ gY aW[k] (List.getElem_mem _);have hS:=hide (fun X (ak:Oo wr X)=>Zv (eS.later ak) (oP.kp (Kp.of ak)) eK jV Oe ⟨dR,aG,st⟩ aC);have⟨b5,dt⟩:=xE ((mkFun aW[k] ⟨dR,aG,st⟩ dx).1);have⟨rV,qL⟩:=xE ((mkFun aW[k] ⟨dR,aG,st⟩ dx).2);rw[<-dt,<-qL] at hS;have wT:Sz (N+5000+2 * k+1) rV:=by rw[qL];exact jV.mkFun _ _
    have vB:=hide (fun X fv (ak:Mx w0 mb af O aT aB tg fv X rV)=>as7 ak wT Oe aG x b5);have kj:({ rV with M:=(rV.M.write aG x b5).2 }:St)=evF ⟨dR,aG,st⟩ aW (k+1) fJ:=by
     rw[ag3 _ aW k fJ bm,<-gS];unfold fwF;rw[<-qL,<-dt,<-ac]
    rw[kj] at vB;have⟨ho,nr⟩:=xE ((cZ[k]).p);rw[<-nr] at eI ds c1 hS;have jN:∃ c,wr.heap[ho]? = some (OM c 40):=by
     have h1:=oP.at_;rw[nr]
     cases ao:cZ[k] with
     | mk p kd tx n ks=>
      rw[ao,Ri] at h1;obtain⟨_,_,⟨v,A,_⟩,_⟩:=h1;exact⟨_,A⟩
    have yN:=hide jN;have e9:=hide c1;clear ac gS eK dt qL kj nr jN c1;go_wp2_with fail;clear eI hg;have Ef:wr.drew.heap[bc]? = some (OM #[NY dR,NY aG,Om st,.pointer aC] 73):=stays (Below.refl wr.heap.size wr).drew fL.out;have c8:wr.drew.heap[bc]? = some (OM #[NY dR,NY aG,Om st,.pointer aC] 73)/\wr.drew.cell? (N9 ho 1)=some (Oj x):=⟨Ef,OT (Below.refl wr.heap.size wr).drew e9.out⟩;have ae:Oo wr wr.drew:=QI.drew
    refine Qs 13 (fun X=>X.heap[bc]? = some (OM #[NY dR,NY aG,Om st,.pointer aC] 73)/\X.cell? (N9 ho 1)=some (Oj x)) Pe ?_;refine up 0 mb 0 c8 ?_;refine up 1 mb 0 c8 ?_;refine up 2 mb 0 c8 ?_;refine up 3 bc 1 c8 ?_;refine uc 4 (NY aG) rfl (Or.inl ⟨by kernel_rfl,fun X ak=>by have h0:=(cells4 ak.1).2.1;go_simp⟩) (c8) ?_
    refine up 5 ho 0 c8 ?_;refine up 6 ho 0 c8 ?_;refine up 7 ho 1 c8 ?_;refine uc 8 (Oj x) rfl (Or.inl ⟨by kernel_rfl,fun X ak=>by have h0:=ak.2;go_simp⟩) (c8) ?_
    refine up 9 mb 0 c8 ?_;refine up 10 ho 0 c8 ?_;refine uc 11 (.agg #[NY dR,NY aG,Om st,.pointer aC]) rfl (Or.inl ⟨by kernel_rfl,fun X ak=>by have h0:=(cells4 ak.1).1;have h1:=(cells4 ak.1).2.1;have U:=(cells4 ak.1).2.2.1;have av:=(cells4 ak.1).2.2.2.1;go_simp⟩) (c8) ?_
    refine PS 12 fun K D=>?_;go_simp;refine cm (NZ hS _ ae) ?_;rintro e b3 ⟨rfl,vQ,j8,bh⟩;have g7:=eS.later ae;have pP:=(bh.frL (L:=none) g7).keep c8.1 Ol;have sT:b3.cell? (N9 ho 1)=some (Oj x):=by
     have⟨c,A⟩:=NZ yN;exact(bh.kp g7).XG c8.2 ⟨c,stays ae A⟩
    refine D.out _ _ (fun _=>⟨pP,sT⟩) ?_;clear D K;have AQ:=j8.lt;have mp:=j8;have mZ:=((kK.trans (Q9.of ae (OO h4))).trans bh);have sk:=hide pP;have oz:=hide ((bh.frL (L:=none) g7).keep (stays ae bV.out) Ol);have p9:Kp d6 b3:=fun b c e A ao=>bh.kp g7 b c e (Kp.of ae b c e (jp b c e A ao) ao) ao;clear pP sT;refine PS 13 fun K D=>?_;go_simp;refine cm (NZ vB _ _ mp) ?_;rintro e kH ⟨rfl,pV,kn⟩;refine ko D ?_;clear D K;have zF:=pV;have r9:=(mZ.Xa kn);have vo:=hide (kn.rest _ _ _ sk.out Ol)
    have sq:=hide (kn.rest _ _ _ oz.out Ol);have zb:Kp d6 kH:=fun b c e A ao=>O8.kp kn b c e (p9 b c e A ao) ao;clear c8 Ef;refine RY ?_ _;go_simp;go_wp2_with fail;exact⟨⟨k+1,vQ,by omega,by go_num,zF,r9,vo.out,sq.out,zb⟩,by simp[intOf];omega⟩),G);exact aC3
   ·have z:=N8 (∀{G}(h:G:=by
    have⟨b3,bz⟩:=xE ((((wr.setCell (N9 aV 0) (NY dR)).setCell (N9 aV 1) (NY aG)).setCell (N9 aV 2) (Om st)).setCell (N9 aV 3) (.pointer aC));rw[<-bz];have ea:=aai bV.out (NY dR) (NY aG) (Om st) (.pointer aC);have hi:mb<=aV:=by have:=NZ cQ;omega
    have bh:=Ud bV.out hi (NY dR) (NY aG) (Om st) (.pointer aC);have bI:=kK.new bh (UR cQ.out _ _ _ _);have bE:=eS.YC bh Ol;rw[<-bz] at ea bI bE;have⟨cK,b1,bU,ej,_,_⟩:=cells4 ea;refine U8 (v:=PD ⟨dR,aG,st⟩ aC) ?_;rw[B1.out];rw[hell] at bE;exact⟨rfl,_,_,bE,bI⟩),G);exact aC4),G);exact aw9),G);exact aC5):G:=h
def asU (h:G:=by
  refine S9 8 fun ae=>?_;have z:=N8 (∀{G}(h:G:=by
  have z:=N8 (∀{G}(h:G:=by
  refine uk4 7 ei.out ae ?_;refine uq2 8 12 (fun K D=>?_) fun K D=>?_
  ·go_simp;refine cm (NZ bF _ ae) ?_;rintro e aD ⟨⟨ev,rfl,aL⟩,aJ,ah,g3⟩;refine ko D ?_;clear D K;refine uz 9 (.tuple #[(UD bH),ev]) ?_;refine uz 10 (UD bH) ?_;have bL:=N8 (∀{G}(h:G:=by
   have z:=N8 (∀{G}(h:G:=by
   have cj:=SB.late (o:=bH) aL aJ ((OV.of ae (OO dk)).trans ah) g3;exact axQ),G);exact aiV),G);exact ztk
  ·have bL:=N8 (∀{G}(h:G:=by
   refine cm (NZ bF _ (PE.drew)) ?_;rintro e aD ⟨⟨ev,rfl,aL⟩,aJ,ah,g3⟩;refine ko D ?_;clear D K;have fi:aD.heap[w2.heap.size]? = some (OM #[Om false,NY 0,NY 0,Pm] 67):=ah.RS (fe.later (PE.drew)) (Oi _ _) Ol Ol;have⟨z0,oc,z2,z3,od,og,oh,xi,zl⟩:=QK (fi);refine uz 9 (.tuple #[(UD bH),ev]) ?_;refine uz 10 (UD bH) ?_;refine uz 11 ev ?_;have z:=N8 (∀{G}(h:G:=by
   have cj:=SB.early (o:=bH) fi Pg (OO dk) aL aJ ((OV.of (PE.drew) (OO dk)).trans ah) g3
   generalize (((aD.setCell (N9 w2.heap.size 0) (Om bH.ret)).setCell (N9 w2.heap.size 1) (NY bH.v.k)).setCell (N9 w2.heap.size 2) (NY bH.v.n)).setCell (N9 w2.heap.size 3) (Oj bH.v.s)=wz at cj ⊢
   generalize w2.heap.size=vb at cj ⊢
   exact dD wz vb ev cj),G);exact aiV),G);exact zts),G);exact ao3),G);exact VZ):G:=h
def aB9 (h:G:=by
  have⟨hp,gp,gb,kb,kc,ke,kf⟩:=O3 dz.out;exact ayi):G:=h
def aCY (h:G:=by
  have⟨aq,mL⟩:=xE ((w2.alloc (.cells #[N7 q,NY au,Om j'] 211)).drew);rw[<-mL];have c7:aq.heap[w2.heap.size]? = some (OM #[N7 q,NY au,Om j'] 211):=by
   rw[mL];exact Oi w2 _
  have bn:Oo w2 aq:=by
   rw[mL];exact PE.drew
  have⟨t7,uo⟩:=xE w2.heap.size;rw[<-uo] at c7 ⊢;have hbw3:Oo w aq:=cq.trans (bn.mono cq.size);have fI:=dT.later hbw3;have⟨rh,zV⟩:=fI.hh.at_ 7 _ rfl;obtain⟨HG,Il,hZ,Im⟩:=fI.fu;have⟨BA,Ny,qE⟩:=OG hZ;have cT:=hide (cells3 c7);have dg:=hide (stays bn bq.out);have mX:=(d7.kp (Kp.of hbw3));rw[<-dP.out] at qE;subst qE;have yT:=hide rh;have fQ:mb<aq.heap.size:=by have:=bn.size;omega
  have fO:t7<aq.heap.size:=lt_of_heap c7;clear c7 bn rh zV hZ mL uo cq bo Il Im HG eX dk f8;go_wp2_with fail;refine S9 7 fun ae=>?_;have z:=N8 (∀{G}(h:G:=by
  refine up 3 mb 9 ae ?_;refine uk 4 yT.out ae ?_;refine uk3 5 cT.out ae ?_;refine PS 6 fun K D=>?_;go_simp;refine D.out _ _ (fun _=>PE.drew) ?_;clear D K;refine PS 7 fun K D=>?_;have oD:=(fI.later (w':=aq.drew.alloc (.cells #[N7 q,NY au,Om j'] 211)) (QI.drew.alloc OW _));obtain⟨d9,DX,hfr0,sX⟩:=oD.fu;have hZ:=hfr0;rw[<-dP.out] at hZ
  refine step_append_lies _ rfl _ _ 82 rfl mb 211 i0 _ 3 24 underlying82 dW dw b8 cn rfl Ol _ _ _ rfl hZ (N9 aq.heap.size 0) 1 1 [N7 q,NY au,Om j'] rfl rfl (apK aq.drew _ rfl q au j') (axp q au j') Ol (by unfold maxLen;omega) Oe QY (aq.heap.size+1) OW ?_
  intro hE iz bD hown4 nh pL AB;refine ko D ?_;clear D K;have⟨jh,hJ⟩:=oD.aCW (a:=a) (f:=⟨d,au,j'⟩) (mX.kp (Kp.of (QI.drew.alloc OW _))) (WA:=.slice (some (N9 hE 0)) (n+1) iz) nh DX hfr0 sX (by rw[<-dP.out];rw[bj.out] at hown4;exact hown4) (fun q ag=>by
   simp only[Value.ownBlock,Option.some.injEq] at ag;subst ag
   rcases pL with h|h
   ·exact .inl h
   ·right;simp;omega)
  obtain⟨Ld,LB⟩:=(oD.hh.keep (T:=[211]) (B:=mb) (w':=bD) (O8.grown nh QY fun k E=>by
   have⟨c,ai⟩:=PW hZ E;exact⟨(hZ.lt k E).1,c,211,ai,by simp⟩) Ol Ol Ol Ol Ol).at_ 7 _ rfl
  have jI:=jh;have DW:=(Q9.of ((Below.refl _ aq).drew.alloc OW _) (OO fQ)).trans hJ;have gr:=hide ((DW.frL (L:=none) fI).rest aV _ 65 dg.out Ol OW);have g':=((Q9.of hbw3 (OO bG)).trans DW);have gz:mb<bD.heap.size:=by have:=nh.size;simp at this;omega
  clear jh pL AB sX DX;refine uz 8 (Oy mb 0) ?_;refine uz 9 (Oy mb 9) ?_;refine PS 10 fun K D=>?_;go_simp;refine ko D ?_;clear D K;refine RY ?_ _;go_simp;have⟨ce,h6⟩:=xE (bD.setCell (N9 mb 9) (.slice (some (N9 hE 0)) (n+1) iz));rw[<-h6] at jI g' gr ⊢;clear h6;have⟨rh,zV⟩:=jI.hh.at_ 7 _ rfl;have jh:=jI.lt;have yT:=hide rh;have m3:=hide (fun X (ak:Oo ce X)=>abK (jI.later ak).hh zv p'.out (3+((n:Int)+1) - 1));clear rh zV;have rG:aV<ce.heap.size:=lt_of_heap gr.out;go_wp2_with fail
  refine S9 10 fun ae=>?_;refine up 0 mb 0 ae ?_;refine up 1 mb 0 ae ?_;refine up 2 mb 0 ae ?_;refine up 3 mb 0 ae ?_;refine up 4 mb 0 ae ?_;refine up 5 mb 9 ae ?_;refine uk 6 yT.out ae ?_;refine uh 7 (NY ((n:Int)+1)) (ae) ?_;refine uh 8 (NY (3+((n:Int)+1))) (ae) ?_ (hy:=Or.inl ⟨by kernel_rfl,fun _ _=>by go_simp;exact IntWalk.i64_in _ Oe⟩)
  refine uh 9 (NY (3+((n:Int)+1) - 1)) (ae) ?_ (hy:=Or.inl ⟨by kernel_rfl,fun _ _=>by go_simp;exact IntWalk.i64_in _ Oe⟩)
  refine PS 10 fun K D=>?_;go_simp;refine cm (NZ m3 _ ae) ?_;rintro e ch ⟨rfl,IA,km⟩;rw[<-tH.out];refine ko D ?_;clear D K;have Ch:=((jI.later ae).heap IA km);have lN:=(g'.trans ((Q9.of ae (OO jh)).trans (Q9.ofT km)));have ig:=hide (km.rest aV _ 65 (stays ae gr.out) Ol);refine PS 11 fun K D=>?_;go_simp;have⟨b5,dt⟩:=xE (SQ ol);have pS:=aa9 ol ch;rw[<-dt] at pS;have df:=hide dt;clear dt;refine cm pS ?_;rintro e d6 ⟨rfl,hH⟩;refine ko D ?_;clear D K;have F6:=(Ch.later hH)
  have p7:=(lN.trans (Q9.of hH (OO Ch.lt)));have⟨cS,bY,cg,eO,rl⟩:=cells3 (stays hH ig.out);have dJ:=eO 0;have dK:=eO 1;have dL:=eO 2;have nL:=hide (stays hH ig.out);clear eO;refine PS 12 fun K D=>?_;go_simp;refine ko D ?_;clear D K;refine RY ?_ _;go_simp;go_wp2_with fail;have⟨b3,bz⟩:=xE (((d6.setCell (N9 aV 0) (NY b5.k)).setCell (N9 aV 1) (NY b5.n)).setCell (N9 aV 2) (Oj b5.s));rw[<-bz];have ea:=aag nL.out (NY b5.k) (NY b5.n) (Oj b5.s);have hi:mb<=aV:=by have:=NZ Cv;omega
  have bh:=RF nL.out hi (NY b5.k) (NY b5.n) (Oj b5.s);have bI:=p7.new bh (Ub Cv.out _ _ _);have bE:=F6.YC bh Ol;rw[<-bz] at ea bI bE;have⟨cK,b1,bU,_,_⟩:=cells3 ea;rw[<-df.out];refine WB (v:=vA b5) ⟨rfl,_,?_,bI⟩;have aw:3+((n:Int)+1) - 1=3+(σ.Qg.length:Int):=by rw[<-dP.out];omega
  rw[aw] at bE;exact bE),G);exact TI):G:=h
def apf (h:G:=by
  clear bb hr2 dq cE d2 br bm;go_enter func53,ntmps53;have z:=N8 (∀{G}(h:G:=by
  have e':=hide (hF.keep b7.out Ol);have z:=N8 (∀{G}(h:G:=by
  have bF:=(NZ aj wz hc gI f2);rw[<-bj.out] at hj he bF;rw[<-kM.out] at bF;have z:=N8 (∀{G}(h:G:=by
  rintro e aD ⟨⟨ev,rfl,aL⟩,aJ,ah,g3⟩;have dz:=hide (ah.RS f2 ed.out Ol Ol);have fj:=(dm.up.trans ah);clear aU p1 cp cJ d3 he hj;have⟨hp,gp,gb,ka,kb,kc,ke,xf,kf⟩:=QK dz.out;go_wp2_with fail;have⟨b3,bz,bh,bI,bE,cK,b1,bU,ej⟩:=rt4 dz.out cQ.out bG fj aJ (Om false) (NY 0) (NY 0) (Pm);rw[<-bz];refine agP (v:=.tuple #[UD Qy,ev]) ?_;exact⟨⟨_,rfl,aL.Qn bh Ol⟩,bE,bI,g3.Tv bh⟩),G);exact as1),G);exact apg),G);exact abY):G:=h
def aB6 (h:G:=by
  have df:=dt;have AP:=rf.lt;clear yf;go_wp2_with fail
  go_loopw [70] (fun i wr=>∃ k:Nat,k<=l.length/\i=NY k/\Mx w0 mb af O aT aB aA aK wr (Y4 au l k fJ)/\Q9 mb aA aK aA aK w wr/\wr.heap[bc]? = some (OM #[NY au,NY aG,Om st,.pointer aC] 73)/\Q5 i7.heap.size wr (.slice va l.length du) l/\Kp aq wr) (fun i _=>l.length - (intOf i).toNat)
  case atStart=>exact⟨0,Nat.zero_le _,rfl,rf,p7,vn.out,df,xv⟩
  case round=>
   obtain⟨k,cI,rfl,jy,hZ,pQ,kz,oT⟩:=hrel;have eS:=jy;have kK:=hZ;have fL:=hide pQ;have ml:=kz;have jp:=oT;have h4:=jy.lt;clear pQ
   by_cases aM:k<l.length
   ·have⟨g,cap,am,hg,_,ai⟩:=Uy ml k aM;have z:=N8 (∀{G}(h:G:=by
    have⟨x,ac⟩:=xE (l[k]);rw[<-ac] at ai;have dT:=hide ac;have⟨dx,gS⟩:=xE (Y4 au l k fJ);rw[<-gS] at eS;have jV:Sz (N+1600+k) dx:=by rw[gS];exact Sz.Y4 au l k nP Oe
    have a':=hide (fun X (ak:Mx w0 mb af O aT aB aA aK X dx)=>WY ak jV Oe au x 0 vU);have nO:=hide gS;have ei:=hide (cells4 fL.out);have I5:bc<wr.heap.size:=lt_of_heap fL.out;clear ac gS;go_wp2_with fail;clear ai;refine S9 7 fun ae=>?_;have z:=N8 (∀{G}(h:G:=by
    refine up 3 bc 0 ae ?_;refine uk 4 (ei.out.1) ae ?_;refine uh 5 (Oj x) (ae) ?_;refine uh 6 (.agg #[NY 0,NY 0,Pm]) (ae) ?_;refine PS 7 fun K D=>?_;go_simp;refine cm (NZ a' _ (eS.later ae)) ?_;rintro e b3 ⟨rfl,j8,bh⟩;refine ko D ?_;clear D K;have mp:=j8;have mZ:=((kK.trans (Q9.of ae (OO h4))).Xa bh);have sk:=hide (bh.rest _ _ _ (stays ae fL.out) Ol);have vx:=(OH (OI ml ae) bh Ol);have p9:Kp aq b3:=fun b c e A ao=>O8.kp bh b c e (Kp.of ae b c e (jp b c e A ao) ao) ao;refine RY ?_ _;go_simp
    go_wp2_with fail;refine⟨⟨k+1,by omega,by go_num,?_,mZ,sk.out,vx,p9⟩,by simp[intOf];omega⟩
    rw[adO au l k fJ aM,<-dT.out,<-nO.out];exact mp),G);exact TI),G);exact alS
   ·have z:=N8 (∀{G}(h:G:=by
    have⟨uT,s8⟩:=xE (Y4 au l l.length fJ);rw[<-s8] at eS hs;have fi:Sz (N+3200) uT:=by rw[s8];exact(Sz.Y4 au l l.length nP Pg).up Oe
    have lW:=r6.kp jp;have dX:=(ae1 eS fi lW Oe Oe au);have⟨rW,rJ⟩:=xE (PN (OZ bl.2) au uT);rw[<-rJ] at dX hs;have qJ:Sz (N+5000) rW:=by
     rw[rJ];refine(fi.lets (OZ bl.2) au).up ?_;have h1:=List.length_filter_le Pj bl.2.kids
     show N+3200+(bl.2.kids.filter Pj).length<=_
     omega
    have hS:=hide (fun X (ak:Mx w0 mb af O aT aB aA aK X rW) (qw:OJ O X bP bl)=>akW ak qJ qw Oe Oe gY.out ⟨au,aG,st⟩ aC);rw[<-hs.out,<-tJ.out] at hS;rw[<-tJ.out] at dX;have me:=lW;have⟨aU,p1,cp,cJ,_,d3⟩:=cells4 fL.out;clear s8 rJ;go_wp2_with fail;refine cm dX ?_;rintro e kH ⟨rfl,pV,kn⟩;have zF:=pV;have r9:=(kK.Xa kn);have vo:=hide (kn.rest _ _ _ fL.out Ol);have Fo:=(me.kp (O8.kp kn));clear aU p1 cp cJ d3;have⟨aU,p1,cp,cJ,_,d3⟩:=cells4 vo.out;go_wp2_with fail
    refine cm (NZ hS _ zF Fo) ?_;rintro e wz ⟨rfl,fz,JD,lq⟩;have oE:=JD;have dm:=(r9.trans lq);clear aU p1 cp cJ d3;go_wp2
    go_end0
    exact⟨rfl,fz,oE,dm⟩),G);exact as6):G:=h
def ao6 (h:G:=by
  refine cm (UQ (es:=es) eW tType) ?_;rintro e gV ⟨⟨ev,rfl,aL⟩,g6⟩;have Fv:=aL;have nN:=hide (stays g6 ed.out);have ox:=(jr.later g6);have oq:=(dm.trans (OV.of (L:=none) g6 (OO eW)));have⟨dl,bT,cY,l7,l8,l9,nl⟩:=O3 nN.out;clear cS bY cg dJ dK dL rl;have z:=N8 (∀{G}(h:G:=by
  have aI:rs=((vU,bad tType),σ1):=NZ bN;rw[aI];exact⟨⟨_,rfl,Fv.Qn bh Ol⟩,bE,bI⟩),G);exact asx):G:=h
def asY (h:G:=by
  clear bb hr2 dq cE d2 br bm;go_enter func53,ntmps53;have z:=N8 (∀{G}(h:G:=by
  have e':=hide (hF.keep b7.out Ol);have z:=N8 (∀{G}(h:G:=by
  have bF:=(NZ aj wz hc gI f2);rw[<-bj.out] at hj he bF;rw[<-kM.out] at bF;have z:=N8 (∀{G}(h:G:=by
  rintro e aD ⟨⟨ev,rfl,aL⟩,aJ,ah,g3⟩;have dz:=hide (ah.RS f2 ed.out Ol Ol);have fj:=(dm.up.trans ah);have⟨lE,q6⟩:=xH rs.1.1;rw[<-q6.out];clear aU p1 cp cJ d3 he hj;have⟨hp,gp,gb,ka,kb,kc,ke,xf,kf⟩:=QK dz.out;exact aDr),G);exact as1),G);exact apg),G);exact abY):G:=h
def ayh (h:G:=by
  refine D _ _ ?_;clear D K;refine wr2 4 9 (fun K D=>?_) fun K D=>?_
  ·go_simp;refine D _ _ ?_;clear D K;refine QF 9 fun K D=>?_;exact ayj
  ·go_simp;refine D _ _ ?_;clear D K;refine QF 4 fun K D=>?_;exact ayj):G:=h
def azM (h:G:=by
  have z:=N8 (∀{G}(h:G:=by
  have⟨oa,ly⟩:=xE (w.alloc (.cells #[Om true,Om true,Om b] 112));have hQ:Oo w oa:=by rw[ly];exact PE
  have j2:PlB w.heap.size true true b oa:=by rw[ly];exact Oi _ _
  have z:=N8 (∀{G}(h:G:=by
  have n7:PlB w.heap.size true true b dO:=(eX.block w.heap.size (lt_of_heap j2)).trans j2;have cq:=(hQ.trans (eX.mono hQ.size));clear ly
  cases er with
  | some e=>
   unfold Ve;go_wp2;go_ret;exact⟨rfl,cq⟩
  | none=>
   have z:=N8 (∀{G}(h:G:=by
   have⟨i8,gR⟩:=xE (jl.setCell (N9 w.heap.size 2) (Om true));have oY:PlB w.heap.size true true true i8:=by rw[gR,PlB,heap_set n7];rfl
   have dc:Oo w i8:=aDB
   have z:=N8 (∀{G}(h:G:=by
   go_loopw [41] (fun j wr=>∃ k:Nat,k<=t.kids.length/\j=NY k/\SN (t.kids.take k) true true true=none/\Oo i8 wr) (fun j _=>t.kids.length - (intOf j).toNat)
   case atStart=>exact⟨0,Nat.zero_le _,rfl,by rw[List.take_zero,SN],QI⟩
   case round=>
    obtain⟨k,E,rfl,fo,A⟩:=hrel;have fK:=hide fo;clear fo
    by_cases aM:k<t.kids.length
    ·have z:=N8 (∀{G}(h:G:=by
     have s1:PlB w.heap.size true true true wr:=(A.block w.heap.size (lt_of_heap oY)).trans oY;have z:=N8 (∀{G}(h:G:=by
     have hV:=hide (fun e=>XU t.kids true true true k aM e fK.out);have el:=hide (WM t.kids true true true k aM fK.out)
     generalize chk t.kids[k] true true true=r at aj hV el
     exact aDs),G);exact arN),G);exact arO
    ·exact aDA),G);exact azT),G);exact arP),G);exact arQ),G);exact arR):G:=h
def Rl (h:G:=by
  rw[aa] at a';simp only[acv] at a';exact absurd a'.out.symm dp.out):G:=h
def avv (h:G:=by
  have z:=N8 (∀{G}(h:G:=by
  have k':=hide (fun W=>Vf s i b t.tx W);have e9:=hide (OT hI c1);have hpl2:=cell_lt e9.out
  generalize t.tx=tx at k' e9 c1
  generalize nmE s tx=er at k'
  clear h ai gP cI bm c3 c1;have z:=N8 (∀{G}(h:G:=by
  refine wh 0 (N7 p) ae ?_;refine wh 1 (N7 p) ae ?_;refine wh 2 (Oy p 1) ae ?_;have z:=N8 (∀{G}(h:G:=by
  cases er <;>
  ·unfold Ve;go_wp2;go_ret;exact⟨rfl,hI.trans (f6.mono hI.size)⟩),G);exact azG),G);exact azH),G);exact zsq):G:=h
def aBn (h:G:=by
  have j0:=(cU.later cl);have jJ:=hide (stays cl bq.out);have m0:=(cG.trans (OV.of (L:=none) cl (OO dk)));have oU:=j0.lt;have⟨aU,p1,cp,cJ,_,d3⟩:=cells4 (stays cl b7.out);have zB:=(NZ bF ef j0 (OV.of (L:=none) cl (OO dk)));go_wp2_with fail;refine cm zB ?_;rintro e aD ⟨⟨ev,rfl,aL⟩,g4,gw⟩;have dz:=hide (gw.keep jJ.out Ol);have fj:=(m0.trans gw);have hx:=g4.lt;clear aU p1 cp cJ d3
  by_cases ao:aw=.no
  ·subst ao;have bu:ev=Qd:=aL;subst bu;go_wp2_with fail;have⟨wd,e7⟩:=xE (aD.alloc (.cells #[NY v1.k,NY v1.n,Oj v1.s] 65));have z:=N8 (∀{G}(h:G:=by
   rw[<-e7];have⟨tb,rc⟩:=xH (Vq σ1.M v1);have CI:=(aiS mg v1);rw[<-rc.out] at CI;clear e7;refine cm CI ?_;rintro e dF ⟨rfl,oN⟩;have Ci:=(mg.later oN);have nM:=hide (stays oN hU.out);have ki:=(vd.trans (OV.of (L:=none) oN (OO uv)));have jx:=Ci.lt;go_wp2_with fail;have⟨b5,df⟩:=xH (VD tb);have h2:=Zu tb dF;rw[<-df.out] at h2;refine cm h2 ?_;rintro e fs ⟨rfl,cA⟩;have dS:=hide (stays cA nM.out);have k9:=(Ci.later cA);have jZ:=(ki.trans (OV.of (L:=none) cA (OO jx)))
   have⟨dl,bT,cY,l7,l8,l9,nl⟩:=O3 dS.out;have z:=N8 (∀{G}(h:G:=by
   have aI:rs=((b5,.no),σ1):=by rw[bA.out,df.out,rc.out];rfl
   rw[aI];exact⟨⟨_,rfl,rfl⟩,bE,bI⟩),G);exact agH),G);exact awq
  ·have⟨et,ex,bu⟩:=aL.WC ao ab;subst bu;have aI:rs=((vU,aw),σ1):=by
    rw[bA.out];unfold agI;exact axO
   have z:=N8 (∀{G}(h:G:=by
   have oK:=(aL.Qn bh Ol).later d0;exact aDG),G);exact aBr):G:=h
def awD (h:G:=by
  rw[<-dt] at h2;refine cm h2 ?_;rintro e fs ⟨rfl,cA⟩;have dS:=hide (stays cA ed.out);have k9:=(jr.later cA);have jZ:=(dm.trans (OV.of (L:=none) cA (OO eW)));have df:=hide dt;have⟨dl,bT,cY,l7,l8,l9,nl⟩:=O3 dS.out;clear dt cS bY cg dJ dK dL rl;have z:=N8 (∀{G}(h:G:=by
  have aI:rs=((b5,.no),σ1):=by rw[bN.out,df.out]
  rw[aI];exact⟨⟨_,rfl,rfl⟩,bE,bI⟩),G);exact agH):G:=h
def awE (h:G:=by
  refine S9 9 fun ae=>?_;have z:=N8 (∀{G}(h:G:=by
  refine uk3 3 CN.out ae ?_;refine up 5 mb 0 ae ?_;refine up 6 mb 0 ae ?_;refine up 7 mb 0 ae ?_;refine uk3 8 CO.out ae ?_;refine PS 4 fun K D=>?_;go_simp;refine cm (NZ tQ _ ae) ?_;rintro e ef ⟨rfl,cl⟩;have kl:Oo wz ef:=ae.trans (cl.mono ae.size);refine D.out _ _ (fun _=>kl) ?_;clear D K;refine PS 9 fun K D=>?_;go_simp;refine cm (NZ vz _ kl) ?_;rintro e fs ⟨rfl,cA⟩;refine ko D ?_;clear D K;have Du:Oo wz fs:=kl.trans (cA.mono kl.size);refine PS 10 fun K D=>?_;go_simp;refine cm (NZ ou _) ?_
  rintro e aD ⟨⟨ev,rfl,aL⟩,je⟩;refine ko D ?_;clear D K;have iC:=Du.trans (je.mono Du.size);have z:=N8 (∀{G}(h:G:=by
  refine uz 11 (vA v9) ?_;refine uz 12 ev ?_;refine PS 13 fun K D=>?_;go_simp;refine ko D ?_;clear D K;refine uz 14 ev ?_;exact aBD),G);exact aBE),G);exact TI):G:=h
def aFg (h:G:=by
  refine D _ _ ?_;clear D K
  by_cases k0:fq=[]
  ·obtain rfl:=zc.2.1 k0;subst k0;obtain⟨Jq,LE,rfl⟩:=eA.cap (by rw[jG.out];decide)
   have gD:=hide (aFh eA fR e3 iw.out);refine QF 11 fun K D=>?_;go_simp;refine D _ _ ?_;clear D K Jq;have z:=N8 (∀{G}(h:G:=by
   go_roundw
   case rel=>exact⟨k,.mk 35 Oh 0 [t],cr,th,rfl,a'.out,cU,iO,by have hu:=jH;rw[show Tr.mk t0.kd t0.tx t0.n (t0.kids++[])=Tr.mk 35 Oh 0 [t] by rw[jT];rfl] at hu;exact hu⟩
   case measure=>rw[UW cU,UW oA];omega),G);exact aEt
  ·obtain⟨cX,cap2,dI,rfl,ds,Jc,wC⟩:=zc.many k0;have o2:=zc.2.2;have hpos:0<fq.length:=List.length_pos_iff.2 k0;have dT:=(Open.apart en kg.size kM bW.out (show Oz (From e8.heap.size) aD fq dI from Jc));have hlen:=Oz.length _ _ eA.kids;have cI:=NZ jG;have da:=e3.size;have hown:=eA.row;rw[hlen] at hown;have HOWN:=hown;have Gx:=hide ds;have HLEN:=hide hlen;clear k0 hlen;refine QF 11 fun K D=>?_
   refine step_append_lies _ rfl _ _ 38 rfl w.heap.size 22 i0 QS 1 8 underlying38 dW dw b8 cn rfl Ol _ _ _ rfl HOWN (N9 cX 0) fq.length cap2 (dI.map N7) rfl (by simp[ds]) wC (at6 dI) hpos (by unfold maxLen;omega) Oe da aD.heap.size rfl ?_
   intro g cap aq hown3 eU c9 _;refine D _ _ ?_;clear D K;have gD:=hide (aFi (m:=t0.kids.length+fq.length) eA dT fR e3 iw.out hown3 (by rw[HLEN.out,Gx.out]) eU c9);have gi:aq.cell? (N9 h' 3)=aD.cell? (N9 h' 3)/\aq.frozen? (N9 h' 3)=aD.frozen? (N9 h' 3):=by
    have cA:aq.heap[h']? = aD.heap[h']?:=eU.block h' hD (fun e=>eA.own e.symm);exact⟨World.cell?_of_block (w:=aD) cA,World.frozen?_of_block (w:=aD) cA⟩
   obtain⟨gM,gN⟩:=gi;rw[gu] at gM;rw[gv 3] at gN;clear c9 gu gv wC cI;have z:=N8 (∀{G}(h:G:=by
   go_roundw
   case rel=>exact⟨k,.mk 35 Oh 0 (t::fq),cr,th,rfl,a'.out,cU,iO,by have hu:=jH;rw[show Tr.mk t0.kd t0.tx t0.n (t0.kids++fq)=Tr.mk 35 Oh 0 (t::fq) by rw[jT];rfl] at hu;exact hu⟩
   case measure=>rw[UW cU,UW oA];omega),G);exact aEt):G:=h
def asZ (h:G:=by
  clear bb hr2 dq cE d2 bm;go_enter func196,ntmps196;have z:=N8 (∀{G}(h:G:=by
  have dm:=(cG.trans hF);have eW:=hc.lt;have gI:=cR.kp hF.Ul;obtain⟨hj,he,fN,eI,_⟩:=gI.cells;rw[<-bj.out] at hj he fN eI;rw[<-lO.out] at fN;rw[<-nG.out] at eI;rw[e5] at he;clear e5;go_wp2_with fail;refine cm (NZ tu wz) ?_;rintro e aD ⟨rfl,je⟩;have dz:=hide (stays je ed.out);have vj:=(hc.later je);have fj:=(dm.trans (OV.of (L:=none) je (OO eW)));clear he hj fN eI;have⟨hp,gp,gb,kb,kc,ke,kf⟩:=O3 dz.out;go_wp2_with fail
  have⟨b3,bz,bh,bI,bE,cK,b1,bU⟩:=rt3 dz.out cQ.out bG fj vj (NY b5.k) (NY b5.n) (Oj b5.s);rw[<-bz];refine WB (v:=.tuple #[vA b5,Qd]) ?_;exact⟨⟨_,rfl,rfl⟩,bE,bI⟩),G);exact abY):G:=h
def aAy (h:G:=by
  go_enter func105,ntmps105;go_wp2_with fail;refine cm x7 ?_;rintro e w1 ⟨rfl,hw⟩;rw[hw];clear hw;go_wp2_with fail;refine cm d7 ?_;have z:=N8 (∀{G}(h:G:=by
  have⟨ep,sP⟩:=xE (w.alloc (.cells #[NY (i:Int),NY (-1),Qv] 198));have z:=N8 (∀{G}(h:G:=by
  refine wr2 4 5 (fun K D=>?ca) fun K D=>?cb
  case' ca=>
   go_simp;refine D _ _ ?_;clear D K;refine QF 5 fun K D=>?_;go_simp;refine D _ _ ?_;clear D K;refine QF 6 fun K D=>?_;go_simp;refine D _ _ ?_;clear D K
  case' cb=>
   go_simp;refine D _ _ ?_;clear D K;refine wr2 4 6 (fun K D=>?cc) fun K D=>?cd
  case' cc=>
   go_simp;refine D _ _ ?_;clear D K;refine QF 6 fun K D=>?_;go_simp;refine D _ _ ?_;clear D K
  case' cd=>
   go_simp;refine D _ _ ?_;clear D K;refine QF 4 fun K D=>?_;go_simp;refine D _ _ ?_;clear D K
  all_goals
   refine QF 7 fun K D=>?_;refine step_append_lies _ rfl _ _ 77 rfl H 198 lA _ 3 40 underlying77 dW dw b8 cn rfl Ol _ _ _ rfl (hrow.drew.alloc _) (N9 ep.heap.size 0) 1 1 [NY (i:Int),NY (-1),Qv] rfl rfl (Xl _ _ rfl _ _ _) (Zq _ _) Ol (by have:=HLEN.out;unfold maxLen;omega) (by have:=HLEN.out;omega) QY (ep.heap.size+1) OW ?_
   intro hE iz aq hown3 eU c9 _;refine D _ _ ?_;clear D K;have dd:ep.grownBy aq aB.ownBlock:=Ox (Ox (b:=ep.drew) ⟨rfl,rfl,rfl,Pg,fun _ _ _=>rfl⟩ (World.grownBy_alloc _ _ _)) eU;have dY:=hide (gq.akj (i:Int) (-1) (tv':=.slice (some (N9 hE 0)) (M.Ov.length+1) iz) dd hown3);have kB:aq.cell? (N9 H 1)=some aB/\aq.frozen? (N9 H 1)=false:=by
    have cC:some H≠aB.ownBlock:=fun e=>by
     have⟨c,ai⟩:=PW gq.ro.row e.symm;exact QA ai gq.blk Ol rfl
    have hbk:=dd.block H tZ cC;exact⟨(World.cell?_of_block (w:=ep) (a:=(N9 H 1)) hbk).trans d8,(World.frozen?_of_block (w:=ep) (a:=(N9 H 1)) hbk).trans px⟩
   obtain⟨rN,rO⟩:=kB;clear c9 d8 px dl bT cY fp;have kv:=HLEN.out;refine wt 8 (Oy H 0) ?_;refine wt 9 (Oy H 1) ?_;refine QF 10 fun K D=>?_;go_simp;refine D _ _ ?_;clear D K;refine wpAny_done Pe ?_ _;go_simp;go_wp2;go_ret;exact⟨rfl,⟨_,_,_,_,dY.out.1⟩,(O8.of e0 (OO q5.out)).trans dY.out.2⟩),G);exact asa),G);exact asb):G:=h
def aDp (h:G:=by
  have hlt2:=ba.lt;clear ay;have⟨ps,hown,nj,AK⟩:=NZ tG;have hlen:=Oz.length _ _ nj;have vY:=P6 hown;rw[hlen] at hown;have HOWN:=hown;have HLEN:=hide hlen;have p':=AK;have da:=tn.size;have gh:=NZ qb;have m3:=hide vY;clear vY hlen
  go_wp2_with (at_builtin;refine wpList_append_lies _ rfl _ _ 38 rfl w.heap.size 22 i0 QS 1 8 underlying38 dW dw b8 cn rfl Ol _ _ _ rfl (HOWN.alloc _) (N9 bD.heap.size 0) 1 1 [N7 kC] rfl rfl (Rq bD kC _ rfl) (one_one kC) Ol (by unfold maxLen;omega) Oe QY (bD.heap.size+1) OW ?_)
  intro g cap ce hown' hgrow hg _;have mf:KV w.heap.size ce (aX++[t]) (.slice (some (N9 g 0)) (aX.length+1) cap):=ak2 p' (by rw[List.map_append];exact hown') (by simp[HLEN.out]) hgrow hg
  have mQ:=((tn.alloc da (.cells #[N7 kC] 22)).grown hgrow QY (fun k E=>(NZ m3 k E).2));have gr:=(gE.ap (((Below.refl w.heap.size bD).alloc da (.cells #[N7 kC] 22)).grown hgrow QY (fun k E=>(NZ m3 k E).2)) iw.out);clear hg
  by_cases ac:fx c.l cr=shut
  ·have aj:=hide (RU c shut ce cr d gr ac fK.out);rw[if_pos ac] at ld;clear ac;go_wp2_with fail;refine cm aj.out ?_;rintro e ch ⟨rfl,oZ,DO⟩;have xj:=(mQ.next DO);have ig:=oZ;have nD:=(KV.later mf DO bW.out);go_wp2;go_ret;exact Tz ld.out.symm ⟨nD,fun hh=>absurd hh OW,by simp;omega⟩ ig xj
  ·have aj:=hide (TA c shut ce cr d gr ac);rw[if_neg ac] at ld;clear ac;go_wp2_with fail;refine cm aj.out ?_;rintro e ch ⟨rfl,fh⟩;have xj:=(mQ.next (Ap.of fh));have ig:=(gr.later fh);have nD:=(KV.later mf (Ap.of fh) bW.out)
   cases aa:O6 c.l abw cr with
   | out=>
    exact axK
   | bad er p=>
    have aj:=hide (O5 c abw ch cr d ig Ol);have z:=N8 (∀{G}(h:G:=by
    exact⟨rfl,Qc ld.out.symm (xj.next ay)⟩),G);exact axL
   | ok NS EM=>
    have aj:=hide (O5 c abw ch cr d ig Ol);have g2:cr<EM:=by
     unfold O6 at aa
     split at aa
     ·
      cases aa;omega
     ·
      cases aa
    rw[aa] at aj ld;simp only[bind_ok] at ld;clear aa;go_wp2_with fail;refine cm aj.out ?_;intro e d6 al;obtain⟨⟨EZ,rfl,rfl⟩,ba,ay⟩:=al;have E':=(xj.next ay);have nL:=ba;have xv:=(KV.later nD ay bW.out);have MA:=ba.lt;clear ay;go_wp2
    go_roundw
    case rel=>exact⟨k,aX++[t],EM,ld.out,nL,E',xv,by simp;omega⟩
    case measure=>rw[UW nL,UW oA];omega):G:=h
def aAd (h:G:=by
  go_wp2_with fail;refine cm aj ?_;rintro e w2 ⟨⟨gb,rfl,hr2⟩,aE⟩;obtain⟨a2,c2,rfl⟩:=hr2.form;have cq:=(eE.trans (aE.mono eE.size));have j1:=(ec.later aE);have fa:=(Q5.later oC aE);have hq:=(adB (TN t) _ w2 hr2 Oe);go_wp2_with fail;refine cm hq ?_;rintro e aq ⟨⟨ka,rfl,iH⟩,bn⟩;rw[<-ki.out] at iH;obtain⟨a3,c3,rfl⟩:=OG iH;have dG:=(cq.trans (bn.mono cq.size));have tF:=(j1.later bn);have lP:=(Q5.later fa bn);have dg:=iH
  go_wp2_with (at_builtin;refine X6 rfl _ _ 26 rfl w.heap.size _ 9 i0 (Oj ByteArray.empty) 16 underlying26 dW dw b8 cn rfl _ _ _ rfl lP _ _ _ rfl dg (adA F) (by unfold maxLen;omega) Oe dG.size ?_)
  intro v4 bD hown4 nh;have Em:Q5 w.heap.size bD v4 zG:=by
   show World.ownsRow _ _ _ _ _ _ _
   rw[vy.out,List.length_append,List.map_append];exact hown4
  have f':=fun k E=>(P6 lP k E).2;have iN:=(dG.grown nh dG.size f');have tG:Ug bD t p:=Ug.later h iN;obtain⟨a4,c4,rfl⟩:=OG Em;have rd:=Em;clear f';have aj:=(abo t p bD tG Oe);go_wp2_with fail;refine cm aj ?_;rintro e ce ⟨⟨xe,rfl,pR⟩,fm⟩;obtain⟨a5,c5,rfl⟩:=pR.form;have iu:=(iN.trans (fm.mono iN.size));have GU:=(Q5.later rd fm);have hq:=(adB (OZ t) _ ce pR Oe);go_wp2_with fail;refine cm hq ?_;rintro e ch ⟨⟨Kw,rfl,oZ⟩,fh⟩;rw[<-y7.out] at oZ;obtain⟨K6,c6,rfl⟩:=OG oZ
  have ny:=(iu.trans (fh.mono iu.size));have re:=(Q5.later GU fh);have ig:=oZ
  go_wp2_with (at_builtin;refine X6 rfl _ _ 26 rfl w.heap.size _ 9 i0 (Oj ByteArray.empty) 16 underlying26 dW dw b8 cn rfl _ _ _ rfl re _ _ _ rfl ig (adA G) (by unfold maxLen;omega) Oe ny.size ?_)
  intro EZ d6 I0 Iw;have En:Q5 w.heap.size d6 EZ zH:=by
   show World.ownsRow _ _ _ _ _ _ _
   rw[GV.out,List.length_append,List.map_append];exact I0
  have f':=fun k E=>(P6 re k E).2;have tq:=(ny.grown Iw ny.size f');obtain⟨K7,xQ,rfl⟩:=OG En;have aj:=(agn zH _ d6 En Oe);clear f';go_wp2_with fail;refine cm aj ?_;rintro e b3 ⟨⟨Ky,rfl,ea⟩,d0⟩;obtain⟨K8,vH,rfl⟩:=OG ea;have oz:=(ZW ea tq.size);have pf:=(tq.trans (d0.mono tq.size));go_wp2;go_ret;exact⟨⟨_,rfl,oz⟩,pf⟩):G:=h
def aBx (h:G:=by
  refine RY ?_ _;go_simp;have cj:=VB.late (v:=v1) aL aJ ((OV.of ae (OO dk)).trans ah);exact axM):G:=h
def awR (h:G:=by
  by_cases gy:aw=.no
  ·subst gy;have hev2:qk=Qd:=d5.er;subst hev2;have aI:rs=((⟨true,⟨eD,dN,eP⟩⟩,.no,bQ),σ1):=by rw[bA.out];unfold VY;rw[bV.out];rfl
   have cD:=hide aI;clear aI;have z:=N8 (∀{G}(h:G:=by
   refine U8 (v:=.tuple #[UD ⟨true,⟨eD,dN,eP⟩⟩,Qd]) ?_;exact atD),G);exact asR
  ·have⟨et,ex,hev2⟩:=d5.er.WC gy ab;subst hev2;have aI:rs=((⟨true,⟨eD,dN,eP⟩⟩,aw,bQ),σ1):=aDq
   have cD:=hide aI;clear aI gy;have z:=N8 (∀{G}(h:G:=by
   refine U8 (v:=.tuple #[UD ⟨true,⟨eD,dN,eP⟩⟩,.iface et ex]) ?_;exact atD),G);exact asR):G:=h
def aa1 (h:G:=by
  rw[aa] at aj a';simp only[O9] at a';clear aa;go_wp2_with fail;refine cm aj ?_;exact axN):G:=h
def ap2 (h:G:=by
  go_wp2_with fail;refine(acu _ _ _).mono ?_;rintro hC bD ⟨b,rfl,A,jw,An⟩;have nU:=a1.trans (An.mono da);have wc:Below (w.alloc O35).heap.size (w.alloc O35) bD:=by simpa using nU
  have⟨ai,aF⟩:=ZK wc;have hQ:=hide A;have yL:=wc;have rz:(w.alloc O35).heap.size<=b:=by simp;omega
  clear A jw;go_wp2_with fail;exact afb (v:=.tuple #[YP,NY 0,.iface 150 (Oy b 0)]) ⟨b,rfl,abd yL rz hQ.out _ _ _ _⟩):G:=h
def Vw (h:G:=by
  have z:=N8 (∀{G}(h:G:=by
  rfl),G);exact ajw):G:=h
def anJ (h:G:=by
  clear h ai gP cI bm;rw[il] at h0 h1 U aj hI;clear il;go_enter func104,ntmps104;go_wp2_with fail;refine cm aj ?_;rintro e w2 ⟨rfl,aE⟩;have cq:=(hI.trans (aE.mono hI.size))
  cases er <;>
  ·unfold Ve;go_wp2;go_ret;exact⟨rfl,cq⟩):G:=h
def azp (h:G:=by
  obtain⟨va,du,rfl⟩:=h.form;have dy:=h;have hR:=hide ah;clear h ah;go_enter func183,ntmps183;go_wp2_with fail
  go_loopw [8] (fun i wr=>∃ k:Nat,k<=ap.length/\i=NY k/\(ap.take k).any f=false/\Oo w wr) (fun i _=>ap.length - (intOf i).toNat)
  case atStart=>exact⟨0,Nat.zero_le _,rfl,rfl,QI⟩
  case round=>
   obtain⟨k,E,rfl,fo,A⟩:=hrel;have fK:=hide fo;clear fo
   by_cases aM:k<ap.length
   ·have z:=N8 (∀{G}(h:G:=by
    have aj:=(NZ hR ap[k] (List.getElem_mem _) q wr A ax);have iy:=hide (List.take_succ_eq_append_getElem aM)
    cases hh:f ap[k] with
    | true=>
     rw[hh] at aj;have ic:=hide hh;clear hh;have z:=N8 (∀{G}(h:G:=by
     go_ret;refine⟨⟨k,rfl,?_⟩,cq⟩;rw[decide_eq_true Oe,eq_comm,List.any_eq_true];exact⟨ap[k],List.getElem_mem _,ic.out⟩),G);exact atE
    | false=>
     rw[hh] at aj;have ic:=hide hh;clear hh;have z:=N8 (∀{G}(h:G:=by
     go_roundw
     case rel=>
      refine⟨k+1,by omega,by go_num,?_,cq⟩;rw[iy.out,List.any_append,fK.out];simp[ic.out]
     case measure=>simp[intOf];omega),G);exact atE),G);exact azw
   ·have cL:k=ap.length:=Oe;subst cL;go_wp2;go_ret;refine⟨⟨-1,rfl,?_⟩,A⟩;have h:=NZ fK;rw[List.take_length] at h;rw[h];rfl):G:=h
def awx (h:G:=by
  rw[<-dt];have df:=hide dt;have dB:=aL;have z:=N8 (∀{G}(h:G:=by
  clear dt;have z:=N8 (∀{G}(h:G:=by
  refine WB (v:=.tuple #[vA b5,ev]) ?_;rw[fM.out];exact⟨⟨_,by rw[df.out],dB.Qn bh Ol⟩,d0⟩),G);exact aDt),G);exact awz):G:=h
def aGQ (h:G:=by
  have bN:=hide aI;clear ao aI;have bA:=bN;go_wp2_with fail;refine S9 11 fun ae=>?_;refine uh 0 (.iface et ex) (ae) ?_;refine uh 1 (Om true) (ae) ?_;refine uh 2 (Om true) (ae) ?_;refine uh 3 undef (ae) ?_ (hy:=Or.inr ⟨by kernel_rfl,rfl⟩);refine uh 4 undef (ae) ?_ (hy:=Or.inr ⟨by kernel_rfl,rfl⟩);refine uh 5 undef (ae) ?_ (hy:=Or.inr ⟨by kernel_rfl,rfl⟩);have z:=N8 (∀{G}(h:G:=by
  refine PS 11 fun K D=>?_;go_simp;refine ko D ?_;clear D K;refine RY ?_ _;have⟨wd,e7⟩:=xE wz.drew;have d1:Oo wz wd:=by rw[e7];exact QI.drew
  have hU:=hide (stays d1 ed.out);have mg:=(a7.ms.later d1);have y4:=(a7.er.later d1);have hr:=(dm.trans (OV.of (L:=none) d1 (OO eW)));have⟨hM,gW,gX,iK,iL,iM,hO⟩:=O3 hU.out;have⟨z0,oc,z2,od,og,oh,zl⟩:=O3 (stays d1 a7.v);go_simp;rw[<-e7];clear e7 cS bY cg dJ dK dL rl fB cy dO ip iq ir ia;go_wp2_with fail;have⟨b3,bz,bh,bI,bE,cK,b1,bU⟩:=rt3 hU.out cQ.out bG hr mg (NY v1.k) (NY v1.n) (Oj v1.s);rw[<-bz];refine WB (v:=.tuple #[vA v1,.iface et ex]) ?_;rw[bA.out]
  exact⟨⟨_,rfl,y4.Qn bh Ol⟩,bE,bI⟩),G);exact awo):G:=h
def axP (h:G:=by
  refine D _ _ ?_;clear D K;refine QF 9 fun K D=>?_;go_simp;refine D _ _ ?_;clear D K;refine Uu (listed':=tf 10 4) Pe rfl ?_;exact dD aD cw kP.out):G:=h
def aB5 (h:G:=by
  have gd:=hide (cells3 k1);have fm:Oo wr ce:=by rw[h6];exact PE
  have ei:=hide (cells4 (stays fm fL.out));have Fe:=hide (OT fm e9.out);have iu:=fm;have IV:mb<ce.heap.size:=by have:=fm.size;omega
  have ML:ho<ce.heap.size:=by have:=fm.size;omega
  have h5:=lt_of_heap k1;have MI:bc<ce.heap.size:=lt_of_heap (stays fm fL.out);rw[<-h6,<-a7];clear h6 a7 k1 hg ai;refine S9 8 fun ae=>?_;refine up 0 mb 0 ae ?_;refine up 1 bc 0 ae ?_;refine uk 2 (ei.out.1) ae ?_;refine up 3 ho 0 ae ?_;refine up 4 ho 0 ae ?_;refine up 5 ho 1 ae ?_;refine uk 6 Fe.out ae ?_;refine uk3 7 gd.out ae ?_;refine PS 8 fun K D=>?_;go_simp;refine cm (NZ a' _ (eS.later (iu.trans (ae.mono iu.size)))) ?_;rintro e ch ⟨rfl,o3,km⟩;refine ko D ?_;clear D K
  have rm:Oo wr ce.drew:=iu.trans (ae.mono iu.size);have mo:=o3;have lN:=((kK.trans (Q9.of rm (OO h4))).Xa km);have mh:=hide (km.rest _ _ _ (stays rm fL.out) Ol);have re:=((ml.later rm).keep fun b c A=>km.rest b c 65 A Ol);have nD:Kp aq ch:=fun b c e A ao=>O8.kp km b c e (Kp.of rm b c e (jp b c e A ao) ao) ao;refine RY ?_ _;go_simp;go_wp2_with fail;refine⟨⟨k+1,by omega,by go_num,?_,lN,mh.out,re,nD⟩,by simp[intOf];omega⟩
  rw[adN au ps vs k σ aM,<-dT.out,<-bF.out,<-nO.out];exact mo):G:=h
def aCG (h:G:=by
  have⟨rl,rG⟩:=xE ((σ.M.Ov.length:Int):Int);rw[<-rG] at CC ⊢;clear rG;go_enter func50,ntmps50
  go_wp2_with (at_builtin;refine wpList_append_lies _ rfl _ _ 81 rfl mb 3 i0 (NY 0) 1 8 underlying81 dW dw b8 cn rfl Ol _ _ _ rfl (lc.alloc _) (N9 w.heap.size 0) 1 1 [NY x] rfl rfl (ajb w x _ rfl) (apx x) Ol (by unfold maxLen;omega) Oe QY (w.heap.size+1) OW ?_)
  intro g1 cap' aq hown' hgrow iD _;have bZ:Oo w (w.alloc (.cells #[NY x] 3)):=PE;obtain⟨aR,hZ⟩:=(ac.later bZ).aki x (Vr:=.slice (some (N9 g1 0)) (n+1) cap') hgrow (by rw[<-dP.out];exact hown') (fun q ag=>by
   simp only[Value.ownBlock,Option.some.injEq] at ag;subst ag
   rcases iD with h|h
   ·exact .inl h
   ·right;simp;omega)
  have hsz3:mb<aq.heap.size:=by have:=hgrow.size;simp at this;omega
  obtain⟨Lc,Lz⟩:=((ac.later bZ).hh.keep (T:=[3]) (B:=mb) (w':=aq) (O8.grown hgrow QY fun k E=>by
   have⟨c,ai⟩:=PW (ac.later bZ).ow E;exact⟨((ac.later bZ).ow.lt k E).1,c,3,ai,by simp⟩) Ol Ol Ol Ol Ol).at_ 6 _ rfl
  have hR:=((Q9.of bZ (OO bG)).trans hZ);have e4:=(NZ CC _ _ aR.hh);clear iD vH vQ;go_wp2_with fail;refine cm e4 ?_;rintro e bD ⟨rfl,lY,hY⟩;have jq:=(aR.heap lY hY);have fD:=(hR.trans (Q9.ofT hY));go_wp2;go_ret;exact⟨rfl,_,jq,fD⟩):G:=h
def awU (h:G:=by
  have⟨et,ex,hev2⟩:=d5.er.WC gy ab;subst hev2;have aI:rs=((⟨false,⟨eD,dN,eP⟩⟩,aw,bQ),σ1):=aDq
  have z:=N8 (∀{G}(h:G:=by
  refine U8 (v:=.tuple #[UD ⟨false,⟨eD,dN,eP⟩⟩,.iface et ex]) ?_;exact atD),G);exact aBR):G:=h
def axR (h:G:=by
  go_wp2_with fail;refine(acu _ _ _).mono ?_;rintro hC bD ⟨b,rfl,A,jw,An⟩;have hbel:=mc.trans (An.mono mc.size);have rz:=Nat.le_trans mc.size jw;clear ai aF;have⟨ai,aF⟩:=ZK hbel;have bO:=hide A;clear A jw;go_wp2_with fail;exact afb (v:=.tuple #[YP,NY 0,.iface 150 (Oy b 0)]) ⟨b,rfl,abd hbel rz bO.out _ _ _ _⟩):G:=h
def aBB (h:G:=by
  have z:=N8 (∀{G}(h:G:=by
  refine WB (v:=.tuple #[vA b5,Qd]) ?_;rw[fM.out,<-df.out];exact⟨⟨_,rfl,rfl⟩,d0⟩),G);exact aDt):G:=h
def aDu (h:G:=by
  have bL:=N8 (∀{G}(h:G:=by
  have lH:=(eZ.next (Ap.of (QI.drew.trans jN)));refine D.out _ _ eQ (fun _=>?_);clear D K;refine wg 6 (.tuple #[.func (.func f) #[Oy c.R 0] #[],Om true]) rfl (Or.inl ⟨by kernel_rfl,fun W a6=>by have hh:=dX.out W a6;go_simp⟩) eQ ?_
  refine wh 7 (.tuple #[.func (.func f) #[Oy c.R 0] #[],Om true]) eQ ?_;refine wh 8 (.func (.func f) #[Oy c.R 0] #[]) eQ ?_;refine wh 9 (Om true) eQ ?_;refine wh 10 (.func (.func f) #[Oy c.R 0] #[]) eQ ?_;refine wh 11 (Om true) eQ ?_;refine wpAnyH_done Pe ?_ _;go_simp;have aj:Hid _:=NZ HP fA eQ;go_wp2_with fail;refine cm aj.out ?_;intro e w2 al
  cases r with
  | out=>exact absurd rfl dp.out
  | bad er p=>
   obtain⟨rfl,ay⟩:=al;exact⟨rfl,Qc rfl (lH.next ay)⟩
  | ok x j=>
   obtain⟨⟨v,rfl,am⟩,ba,ay⟩:=al;have bF:=(NV.mono am lH.size);have eg:=(lH.next ay);go_wp2;go_ret;exact Tz rfl bF ba eg),G);exact ztj):G:=h
def aDv (h:G:=by
  have z:=N8 (∀{G}(h:G:=by
  clear hds da;go_wp2_with fail;exact afb (v:=.tuple #[.agg #[NY 3,Pm,NY n,NY (k:Int)],NY (e:Int),Qd]) ⟨rfl,Yj mc _ _ _ _⟩),G);exact aDw):G:=h
def aCF (h:G:=by
  have dU:O8 [3] mb w aq:=O8.grown hg (OO h.lt) fun k E=>by
   have⟨c,ai⟩:=PW h.ow E;exact⟨(h.ow.lt k E).1,c,3,ai,by simp⟩
  have kW:=h.hh.keep dU Ol Ol Ol Ol Ol;have⟨lY,dQ⟩:=kW.cell 6 Vr;have g0:O8 [3,84] mb w (aq.setCell (N9 mb 8) Vr):=(dU.mono Ol Pg).trans (dQ.mono Ol Pg);obtain⟨d9,h1,U,av⟩:=h.fu;refine⟨⟨h.bw.trans g0.below,lY,OH h.lg g0 Ol,OH h.se g0 Ol,?_,d9,h1,OH U g0 Ol,fun i a f ay gg=>(av i a f ay gg).kp (fun b c e A ao=>g0.rest b c e A (by rcases ao with rfl|rfl <;> decide))⟩,⟨g0.below,fun b c e A ao kw _=>?_,ag,fun _ h=>.inl h⟩⟩
  ·have bx:=OH aO dQ Ol
   show World.ownsRow _ _ _ _ _ (σ.Qw++[x]).length ((σ.Qw++[x]).map _)
   rw[List.length_append,List.map_append];exact bx
  ·have cf:aq.heap[b]? = some (OM c e):=(hg.block b (lt_of_block A) (fun e=>kw e.symm)).trans A;exact dQ.rest b c e cf (fun q=>ao (by rw[List.mem_singleton.1 q];decide))):G:=h
def aBM (h:G:=by
  refine uk 6 oi.out ae ?_;refine uk4 7 pm.out ae ?_;refine PS 8 fun K D=>?_;have z:=N8 (∀{G}(h:G:=by
  have jO:=(OV.of (L:=L) ae (OO oU)).trans ah;have dz:=hide (jO.RS nE jJ.out Ol Ol);have vj:=aJ;have y3:=aL;have F1:=g3;have fj:=(m0.up.trans jO);have⟨lE,AV⟩:=xE rs.1.1;rw[<-AV];have q6:=hide AV;clear AV;have⟨hp,gp,gb,ka,kb,kc,ke,xf,kf⟩:=QK dz.out;refine uz 9 (UD lE) ?_;refine uz 10 ev ?_;have z:=N8 (∀{G}(h:G:=by
  go_simp;go_wp2_with fail;have⟨b3,bz,bh,bI,bE,cK,b1,bU,ej⟩:=rt4 dz.out cQ.out bG fj vj (Om lE.ret) (NY lE.v.k) (NY lE.v.n) (Oj lE.v.s);rw[<-bz];refine U8 (v:=.tuple #[UD lE,ev]) ?_;exact⟨⟨_,by rw[q6.out],y3.Qn bh Ol⟩,bE,bI,F1.Tv bh⟩),G);exact apj),G);exact ao9):G:=h
def aBb (h:G:=by
  have z:=N8 (∀{G}(h:G:=by
  refine uh 10 (Om true) (kl) ?_;have z:=N8 (∀{G}(h:G:=by
  have⟨hM,gW,gX,iK,iL,iM,hO⟩:=O3 jJ.out;have⟨z0,oc,z2,od,og,oh,zl⟩:=O3 (stays kl a7.v);clear cS bY cg dJ dK dL rl fB cy dO ip iq ir ia;go_simp;go_wp2_with fail;have⟨b3,bz,bh,bI,bE,cK,b1,bU⟩:=rt3 jJ.out cQ.out bG m0 j0 (NY v1.k) (NY v1.n) (Oj v1.s);rw[<-bz];refine WB (v:=.tuple #[vA v1,Qd]) ?_;have aI:rs=((v1,.no),σ1):=by rw[bA.out];unfold Zw;rw[bV.out];simp[md.out,ov.out]
  rw[aI];exact⟨⟨_,rfl,rfl⟩,bE,bI⟩),G);exact aDx),G);exact aDy):G:=h
def aBW (h:G:=by
  rw[<-bC,df.out] at gc;clear qu bC cL;go_wp2_with fail;refine cm gc ?_;rintro e aD ⟨⟨qk,rfl,aL⟩,g4,gw,g3⟩;have aL:WZ es aD qk bi:=aL;have yk:=gw.RS xy si.out Ol Ol;have IW:mb<=ob:=by have:=NZ Cp;omega
  have bh:=Ud yk IW (Om iY.ret) (NY iY.v.k) (NY iY.v.n) (Oj iY.v.s);have Gf:=hide (aai yk (Om iY.ret) (NY iY.v.k) (NY iY.v.n) (Oj iY.v.s));have F7:=(g4.YC bh Ol);have Ft:=(aL.Qn bh Ol);have F0:=(OE.Tv g3 bh);have mZ:=((ah.trans gw).newT bh (UR Cp.out _ _ _ _));clear aU p1 cp cJ d3 hM gW gX rT iK iL iM rU hO ai gf;have⟨hM,gW,gX,rT,iK,iL,iM,rU,hO⟩:=QK (yk);clear aL g4 gw g3 bh yk;go_wp2
  go_roundw
  case rel=>
   exact⟨k+1,iY,bi,mN,b6,by omega,by go_num,F7,nJ.out,mZ,F0,Gf.out,Ft,zq.out⟩
  case measure=>simp[intOf];omega):G:=h
def atF (h:G:=by
  have z:=N8 (∀{G}(h:G:=by
  rw[aa] at aj a';simp only[O9] at a';clear aa;have z:=N8 (∀{G}(h:G:=by
  exact⟨rfl,Qc a'.out.symm (iO.next ay)⟩),G);exact XK),G);exact axS):G:=h
def aGS (h:G:=by
  have z:=N8 (∀{G}(h:G:=by
  have fi:aD.heap[aq.heap.size]? = some (OM #[NY 0,NY 0,Pm] 65):=ah.keep (Oi _ _) Ol;have z:=N8 (∀{G}(h:G:=by
  have z:=N8 (∀{G}(h:G:=by
  have cj:=VB.early (v:=v1) fi Pg (OO fQ) aL aJ ((OV.of (PE.drew) (OO fQ)).trans ah)
  generalize ((aD.setCell (N9 aq.heap.size 0) (NY v1.k)).setCell (N9 aq.heap.size 1) (NY v1.n)).setCell (N9 aq.heap.size 2) (Oj v1.s)=wz at cj ⊢
  generalize aq.heap.size=vb at cj ⊢
  exact dD wz vb ev cj),G);exact aiV),G);exact asJ),G);exact asK):G:=h
def aGT (h:G:=by
  rw[cM,b4,show w.heap.size+1+1+1=(((w.alloc (.cells #[N7 mb] 62)).alloc (.cells #[NY au,NY aG,Om st,.pointer aC] 73)).alloc (.cells #[.slice cV dN dM] 311)).heap.size by simp];exact Oi _ _):G:=h
def ap4 (h:G:=by
  have cA:aq.heap[aU]? = wd.heap[aU]?:=(eU.block aU QY (fun e=>ie.own e.symm)).trans (Below.heap_alloc wd _ aU py);exact⟨World.cell?_of_block (w:=wd) cA,World.frozen?_of_block (w:=wd) cA⟩):G:=h
def ap5 (h:G:=by
  have cA:aq.heap[aU]? = aD.heap[aU]?:=(eU.block aU QY (fun e=>eA.own e.symm)).trans (Below.heap_alloc aD _ aU hD);exact⟨World.cell?_of_block (w:=aD) cA,World.frozen?_of_block (w:=aD) cA⟩):G:=h
def aAh (h:G:=by
  clear bX cn
  by_cases IU:m=k
  ·subst IU;rw[show (b.name.toList==s.toList)=true by
    have:=FV.out;rw[List.getElem?_eq_getElem bG] at lm;rw[Option.some.inj lm] at this;exact this] at aj
   clear lm;have z:=N8 (∀{G}(h:G:=by
   go_ret;exact⟨rfl,cq⟩),G);exact atE
  ·rw[show (b.name.toList==s.toList)=false by
    have:=FX.out m Oe;rw[List.getElem?_eq_getElem bG] at lm;rw[Option.some.inj lm] at this;simpa[YW] using this] at aj
   clear lm;have z:=N8 (∀{G}(h:G:=by
   go_roundw
   case rel=>exact⟨m+1,by omega,by go_num,cq⟩
   case measure=>simp[intOf];omega),G);exact atE):G:=h
def aDC (h:G:=by
  have aj:=(Vx ah gV.drew d (bR+1) rb.drew (by rw[aa];nofun))
  rw[aa] at aj a';simp only[O9] at a';clear aa;go_wp2_with fail;have z:=N8 (∀{G}(h:G:=by
  have z:=N8 (∀{G}(h:G:=by
  refine wr2 4 8 (fun K D=>?_) fun K D=>?_
  ·go_simp;refine D _ _ ?_;clear D K;refine QF 8 fun K D=>?_;exact aDD
  ·exact aDD),G);exact amK),G);exact aar):G:=h
def asz (h:G:=by
  go_wp2_with fail;have⟨b3,bz,bh,bI,bE,cK,b1,bU⟩:=rt3 ed.out cQ.out bG dm (a7.ms) (NY 0) (NY 0) (Pm);rw[<-bz];refine Y2 (v:=.tuple #[vA vU,.iface et ex]) ?_;rw[bA.out];exact⟨⟨_,rfl,a7.er.Qn bh Ol⟩,bE,bI⟩):G:=h
def ap6 (h:G:=by
  rw[aa] at aj a';simp only[O9] at a';clear aa;have z:=N8 (∀{G}(h:G:=by
  exact⟨rfl,Qc a'.out.symm (eg.next ay)⟩),G);exact XK):G:=h
def ap7 (h:G:=by
  rw[aa] at aj a';simp only[O9] at a';clear aa;have z:=N8 (∀{G}(h:G:=by
  exact⟨rfl,Qc a'.out.symm (eq.next ay)⟩),G);exact XK):G:=h
def aGU (h:G:=by
  rw[cM,bn,show w.heap.size+1+1=((w.alloc (.cells #[N7 mb] 62)).alloc (.cells #[NY au,NY aG,Om st,.pointer aC] 73)).heap.size by simp];exact alloc_old (Oi _ _)):G:=h
def aGV (h:G:=by
  rw[cM,lv,show w.heap.size+3=(((w.alloc (.cells #[NY au,NY aG,Om st,.pointer aC] 73)).alloc (.cells #[Om fZ,NY ok,NY on,Oj fY] 67)).alloc (.cells #[Om false,NY 0,NY 0,Pm] 67)).heap.size by simp];exact Oi _ _):G:=h
def aGW (h:G:=by
  have aj:=(Vx ah E1 d (bR+1) Cy (by rw[aa];nofun))
  have z:=N8 (∀{G}(h:G:=by
  intro e w2 al;obtain⟨⟨v2,rfl,cp,rfl,jQ⟩,ba,ay⟩:=al;have eg:=(yH.next ay);have bq:=ba;replace ec:=(aas ec ay bW.out yH.size jQ);have aj:=(PG 24 Oh (.slice (some (N9 w2.heap.size 0)) 2 2) (w2.alloc (.cells #[N7 p1,N7 cp] 22)) ⟨_,_,_,rfl⟩);have z:=N8 (∀{G}(h:G:=by
  have⟨cO,cP,db⟩:=made bq eg ec (by simp[maxLen]) #[N7 p1,N7 cp] rfl 2 rfl 24 Oh (w2.heap.size+1) rfl;exact Tz a'.out.symm cO.nv cP db),G);exact aat),G);exact XM):G:=h
def axT (h:G:=by
  rintro kj ce ⟨b,rfl,A,jw,Ao⟩;have nU:=ts.trans (Ao.mono ts.size);have rz:=Nat.le_trans ts.size jw;exact aDE):G:=h
def aBj (h:G:=by
  rw[<-dt] at h2;refine cm h2 ?_;rintro e fs ⟨rfl,cA⟩;have dS:=hide (stays cA gE.out);have k9:=(Ae.later cA);have jZ:=(fD.trans (OV.of (L:=none) cA (OO gz)));have df:=hide dt;have⟨dl,bT,cY,l7,l8,l9,nl⟩:=O3 dS.out;clear dt hM gW gX iK iL iM hO aU p1 cp cJ d3;have z:=N8 (∀{G}(h:G:=by
  have aI:rs=((b5,.no),b6):=by rw[cD.out,df.out];rfl
  rw[aI];exact⟨⟨_,rfl,rfl⟩,bE,bI⟩),G);exact agH):G:=h
def aGX (h:G:=by
  have z:=N8 (∀{G}(h:G:=by
  exact alloc_old (Oi _ _)),G);exact aDF):G:=h
def aGY (h:G:=by
  have z:=N8 (∀{G}(h:G:=by
  exact Oi _ _),G);exact aDF):G:=h
def aC2 (h:G:=by
  refine PS 12 fun K D=>?_;go_simp;refine ko D ?_;clear D K;refine RY ?_ _;go_simp;have cj:Oo bD (bD.alloc (.cells #[NY 1,NY 0,Om st,QS] 73)).drew/\(bD.alloc (.cells #[NY 1,NY 0,Om st,QS] 73)).drew.heap[bD.heap.size]? = some (OM #[NY 1,NY 0,Om st,QS] 73):=⟨PE.drew,Oi _ _⟩
  generalize (bD.alloc (.cells #[NY 1,NY 0,Om st,QS] 73)).drew=wz at cj ⊢
  have ih:bD.heap.size<=bD.heap.size:=Pg
  generalize bS:bD.heap.size=bc at cj ih ⊢
  exact dD wz bc (by rw[bS];exact⟨cj.1,cj.2,ih⟩)):G:=h
def al5 (h:G:=by
  have z:=N8 (∀{G}(h:G:=by
  go_ret;exact⟨rfl,rfl⟩),G);exact aoD):G:=h
def aCO (h:G:=by
  refine cm (UQ (es:=es) jh tType) ?_;rintro e fs ⟨⟨ev,rfl,aL⟩,cA⟩;have dS:=hide (stays cA gr.out);have k9:=(jI.later cA);have jZ:=(g'.trans (OV.of (L:=none) cA (OO jh)));have y2:=aL;clear aL;have⟨hp,gp,gb,kb,kc,ke,kf⟩:=O3 dS.out;have z:=N8 (∀{G}(h:G:=by
  refine Y2 (v:=.tuple #[vA vU,ev]) ?_;rw[cD.out];exact⟨⟨_,rfl,y2.Qn bh Ol⟩,bE,bI⟩),G);exact axd):G:=h
def aDH (h:G:=by
  have⟨ai,aF⟩:=ZK nU;go_wp2_with fail;exact afb (v:=.tuple #[.agg #[NY kd,Oj tx,NY n,NY (k:Int)],NY (e:Int),Qd]) ⟨rfl,Yj nU _ _ _ _⟩):G:=h
def aGZ (h:G:=by
  rw[cM,bS,show w.heap.size+1=(w.alloc (.cells #[N7 mb] 62)).heap.size by simp];exact alloc_old (alloc_old (Oi _ _))):G:=h
def ar2 (h:G:=by
  go_wp2_with fail;refine cm aj ?_;rintro e w1 ⟨⟨u,rfl,aa⟩,A⟩;obtain⟨cV,uc,rfl⟩:=aa.form;go_wp2;go_ret;exact⟨⟨_,rfl,aa⟩,A⟩):G:=h
def axU (h:G:=by
  clear E;go_enter func348,ntmps348;have aj:=(Rt c w i d h);unfold tkV at aj;have fO:=abe (OX c.l i);go_wp2_with fail;refine cm aj ?_;rintro e wt ⟨rfl,e1⟩;have ra:=(h.later e1);go_wp2;go_ret;exact⟨rfl,e1⟩):G:=h
def aG0 (h:G:=by
  unfold QZ at aF;unfold need;rw[if_pos (by
   have h0:t.kd=5\/t.kd=37:=by simpa using aF
   exact h0.imp id Or.inl)]):G:=h
def aA5 (h:G:=by
  have z:=N8 (∀{G}(h:G:=by
  refine cm (UQ (es:=es) gz tType) ?_;exact aA3),G);exact awj):G:=h
def aDI (h:G:=by
  have:=adV c (fx c.l i) W a6.base.vals;rw[ag] at this;exact this):G:=h
def ahj (h:G:=by
  go_enter func37,ntmps37;go_wp2;go_ret;exact⟨rfl,rfl⟩):G:=h
def aG1 (h:G:=by
  rw[cM,f',show w.heap.size+1=(w.alloc (.cells #[NY au,NY aG,Om st,.pointer aC] 73)).heap.size by simp];exact alloc_old (alloc_old (Oi _ _))):G:=h
def aDJ (h:G:=by
  refine wpAnyH_done Pe ?_ _;go_simp;go_wp2_with fail;exact U8 (v:=.tuple #[.agg #[Pm,NY 0,NY 0,NY 0],Om false]) ⟨rfl,ap8 bo Pg _ _ _ _⟩):G:=h
def aDb (h:G:=by
  refine uh 9 (.agg #[NY 0,NY 0,Pm]) (ae) ?_;refine PS 10 fun K D=>?_;go_simp;refine cm (NZ d7 _ ae) ?_;rintro e aq ⟨rfl,kW,c7⟩;refine ko D ?_;clear D K;have FO:=kW;have cT:=(aF.trans ((O8.of ae (OO h4)).trans c7));refine RY ?_ _;go_simp;go_wp2
  go_roundw
  case rel=>
   refine⟨k+1,by omega,by go_num,?_,cT⟩;have h:=FO;rw[lO.out] at h;rw[iy.out];exact h
  case measure=>simp[intOf];omega):G:=h
def atG (h:G:=by
  have z:=N8 (∀{G}(h:G:=by
  have⟨cO,cP,db⟩:=NZ dT;exact Tz rfl cO cP db),G);exact aat):G:=h
def aDK (h:G:=by
  have bq:=ba;replace jH:=(EV.later jH ay bW.out);have jT:=NZ pp;subst jT;go_wp2;go_ret;exact Tz a'.out.symm jH.nv bq eg):G:=h
def aDL (h:G:=by
  have z:=N8 (∀{G}(h:G:=by
  have z:=N8 (∀{G}(h:G:=by
  intro e w1 al;obtain⟨⟨v1,rfl,rfl⟩,ba,ay⟩:=al;have eq:=(iO.next ay);exact aDM),G);exact XM),G);exact axS):G:=h
def aw4 (h:G:=by
  cases a with
  | mk p kd tx n ks=>
   rw[Ri] at h1;obtain⟨_,_,⟨v,A,_⟩,_⟩:=h1;exact⟨_,A⟩):G:=h
def aAF (h:G:=by
  clear ag;go_enter func55,ntmps55;have z:=N8 (∀{G}(h:G:=by
  have bO:=A;go_wp2_with fail;refine cm (dp.out w1 bO) ?_;rintro e w2 ⟨rfl,rfl⟩;go_wp2_with fail;refine cm (gZ.out w2 bO) ?_;rintro e aq ⟨rfl,bn⟩;have dG:=(bO.trans (bn.mono bO.size));go_wp2;go_ret;exact⟨rfl,dG.alloc dG.size _⟩),G);exact aiz):G:=h
def aG2 (h:G:=by
  rw[cM,f',show w.heap.size+1=(w.alloc (.cells #[NY au,NY aG,Om st,.pointer aC] 73)).heap.size by simp];exact alloc_old (Oi _ _)):G:=h
def aAX (h:G:=by
  refine uh 4 (Oj nm) (ae) ?_;refine uk3 5 gd.out ae ?_;refine PS 6 fun K D=>?_;go_simp;refine cm (NZ pn _ ae) ?_;rintro e aq ⟨rfl,fI,c7⟩;refine ko D ?_;clear D K;have cT:=(cG.trans ((OV.of (L:=none) ae (OO dk)).trans (OV.ofT c7)));refine uz 7 (TT oH) ?_;refine RY ?_ _;go_simp;go_wp2;go_ret;exact⟨⟨_,rfl,aoS lL.out⟩,⟨_,_,_,_,fI⟩,cT⟩):G:=h
def aAA (h:G:=by
  rw[ac] at aj;have dT:=hide ac;clear ac;have z:=N8 (∀{G}(h:G:=by
  go_roundw
  case rel=>
   refine⟨k+1,by omega,by go_num,?_,bO.drew⟩;intro j Hd aS Al
   rcases Nat.lt_or_ge j k with h|h
   ·exact m1.out j Hd h Al
   ·have:j=k:=Oe;subst this;rw[lI.out] at Al
    cases Al
    exact dT.out
  case measure=>simp[intOf];omega),G);exact aer):G:=h
def atH (h:G:=by
  go_simp;refine cm aj ?_;intro e w' al;obtain⟨rfl,ay⟩:=al;exact⟨rfl,Qc a'.out.symm (kg.drew.next ay)⟩):G:=h
def avq (h:G:=by
  refine cm (pw.ha2 _ e4) ?_;rintro e jl ⟨rfl,wB⟩;have kO:Oo ek jl:=e4.trans (wB.mono e4.size);go_wp2;go_ret;exact⟨rfl,jo.trans (kO.mono jo.size)⟩):G:=h
def axV (h:G:=by
  rw[aa] at aj a';simp only[O9] at a';clear aa;have z:=N8 (∀{G}(h:G:=by
  exact⟨rfl,Qc a'.out.symm (lH.next ay)⟩),G);exact XK):G:=h
def ao0 (h:G:=by
  rw[aw];clear aw;go_enter func296,ntmps296;go_wp2;go_ret;exact⟨rfl,aE⟩):G:=h
def azb (h:G:=by
  rcases Nat.lt_or_ge 0 w.heap.size with h|h
  ·exact h
  ·simp[World.cell?,Array.getElem?_eq_none h] at hg):G:=h
def aG3 (h:G:=by
  have bN:=hide aI;clear ao aI;go_wp2_with fail;have⟨b3,bz,bh,bI,bE,cK,b1,bU,ej⟩:=rt4 ed.out cQ.out bG dm (a7.ms) (Om false) (NY 0) (NY 0) (Pm);rw[<-bz];refine agP (v:=.tuple #[UD Qy,.iface et ex]) ?_;rw[bN.out];exact⟨⟨_,rfl,a7.er.Qn bh Ol⟩,bE,bI.up,f2.Tv bh⟩):G:=h
def aA6 (h:G:=by
  have z:=N8 (∀{G}(h:G:=by
  go_ret;exact⟨⟨_,rfl,rfl⟩,jq,fD⟩),G);exact awj):G:=h
def aDN (h:G:=by
  have bq:=hr2;have bo:=aE;rw[<-iB];clear iB;refine D.out _ _ bq (fun _=>?_);clear D K;refine wh 12 (Om true) bq ?_;refine wpAnyH_done Pe ?_ _;go_simp;go_wp2_with fail;exact U8 (v:=.tuple #[.agg #[Oj x.tx,NY x.kd,NY x.parts,NY x.str],Om true]) ⟨rfl,ap8 bo Pg _ _ _ _⟩):G:=h
def aDO (h:G:=by
  unfold Mo.YI at ai;have⟨x,h1,U⟩:=Option.bind_eq_some_iff.1 ai;have ac:x ∈ M.Ov:=by
   rcases PK M s with ⟨h0,_⟩|⟨i,y,_,hy,av⟩
   ·rw[h0] at h1;cases h1
   ·rw[av] at h1;cases h1;exact List.mem_of_getElem? hy
  exact h.cv x ac c (List.mem_of_find?_eq_some U)):G:=h
def aCd (h:G:=by
  have bO:=A;go_wp2_with fail;refine cm (WW Uk w1) ?_;rintro e aq ⟨⟨tb,rfl,_,aL⟩,bn⟩;have dG:=(bO.trans (bn.mono bO.size));exact aCc):G:=h
def aDP (h:G:=by
  go_wp2_with fail;refine cm (NZ xB w2 cq) ?_;rintro e aq ⟨rfl,bn⟩;have dG:=(cq.trans (bn.mono cq.size));go_wp2_with fail;refine cm (NZ xB aq dG) ?_;rintro e bD ⟨rfl,dc⟩;have iN:=(dG.trans (dc.mono dG.size));go_wp2;go_ret;exact⟨rfl,iN⟩):G:=h
def aCg (h:G:=by
  have z:=N8 (∀{G}(h:G:=by
  go_wp2;go_ret;exact⟨rfl,iN⟩),G);exact aw8):G:=h
def aBi (h:G:=by
  have bN:=hide aI;clear ao aI;go_simp;have z:=N8 (∀{G}(h:G:=by
  refine Y2 (v:=.tuple #[vA vU,.iface et ex]) ?_;rw[bN.out];exact⟨⟨_,rfl,tB.Qn bh Ol⟩,bE,bI⟩),G);exact aw1):G:=h
def avL (h:G:=by
  have:Tr.counts t.kids=Tr.counts (t.kids.take (k+1))+Tr.counts (t.kids.drop (k+1)):=by rw[<-Us,List.take_append_drop]
  omega):G:=h
def atI (h:G:=by
  go_enter func161,ntmps161;go_wp2;go_ret;exact⟨rfl,by rw[aj.out];exact dB,QI⟩):G:=h
def aG4 (h:G:=by
  rw[bo.out,b4,show w.heap.size+1=(w.alloc (.cells #[NY au,NY aG,Om false,.pointer aC] 73)).heap.size by simp];exact Oi _ _):G:=h
def aG5 (h:G:=by
  have bN:=hide aI;clear ao aI;go_wp2_with fail;refine UC (v:=.iface et ex) ?_;rw[bN.out];exact⟨⟨_,rfl,a7.er⟩,a7.ms,dm⟩):G:=h
def aDQ (h:G:=by
  exact⟨by show (0:Int)<=(σ.M.Ov.length:Int);omega,by show (σ.M.Ov.length:Int)<_;simp[St.opn,Mo.scope];omega⟩):G:=h
def aAL (h:G:=by
  rintro e w1 ⟨rfl,A⟩;have bO:=(((Below.refl _ w).alloc Pg _).trans (A.mono OW));go_wp2;go_ret;exact⟨rfl,bO⟩):G:=h
def aCP (h:G:=by
  go_wp2_with fail;have⟨b3,bz,bh,bI,bE,cK,b1,bU⟩:=rt3 hU.out cQ.out bG hr mg (NY v9.k) (NY v9.n) (Oj v9.s);rw[<-bz];refine WB (v:=.tuple #[vA v9,ev]) ?_;rw[cD.out];exact⟨⟨_,by rw[lh.out],y4.Qn bh Ol⟩,bE,bI⟩):G:=h
def aAJ (h:G:=by
  rcases VN (fun c=>YW nm c.name) x.cs with ⟨dU,dQ⟩|⟨lB,eT,dU,dQ,fT,_⟩
  ·rw[show fC nm x.cs=none from dU] at E;cases E
  ·rw[show fC nm x.cs=some lB from dU] at E;cases E;rw[ai] at dQ;cases dQ;simp[Mo.YI,aox az,fT]):G:=h
def asL (h:G:=by
  rw[aw];clear aw;go_enter func61,ntmps61;go_wp2;go_ret;exact⟨rfl,aE⟩):G:=h
def asc (h:G:=by
  go_wp2
  all_goals first|omega|skip
  all_goals go_ret
  all_goals exact⟨rfl,rfl⟩):G:=h
def azo (h:G:=by
  have:=abj (s.extract k (OC Qe s k)) (fun i az=>by
   rw[Y8 s k _ i gJ az];exact afg Qe s (s.size - k) k Oe (k+i) Oe Oe Oe) (OC Qe s k - k)
  rw[List.take_of_length_le (by rw[ahk];omega)] at this
  exact this):G:=h
def apl (h:G:=by
  rw[List.take_succ_eq_append_getElem hl,List.foldl_append];rfl):G:=h
def avx (h:G:=by
  have:=ah9 t p W (fd W a6);rw[kV] at this;exact this):G:=h
def aDR (h:G:=by
  have aj:=(QL ah hN aq d h9 _ rfl (by rw[aa];nofun) dg)
  rw[aa] at aj a';simp only[O9] at a';clear aa;have z:=N8 (∀{G}(h:G:=by
  exact⟨rfl,Qc a'.out.symm (jn.next ay)⟩),G);exact XK):G:=h
def asv (h:G:=by
  show _=_
  rw[fH,heap_setCell_other _ _ _ _ (Ne.symm tI.out)];exact NZ dg):G:=h
def azd (h:G:=by
  rw[iR,World.cell?_alloc_past _ _ _ OW,World.cell?_alloc_at _ _ _ _ rfl];rfl):G:=h
def azc (h:G:=by
  rw[World.cell?_alloc_past _ _ _ OW,World.cell?_alloc_past _ _ _ dC];exact hg):G:=h
def aG6 (h:G:=by
  have aj:=(Vx ah E1 d (bR+1) Cy (by rw[aa];nofun))
  rw[aa] at aj a';simp only[O9] at a';clear aa;have z:=N8 (∀{G}(h:G:=by
  exact⟨rfl,Qc a'.out.symm (yH.next ay)⟩),G);exact XK):G:=h
def azx (h:G:=by
  clear hu
  cases r <;>
  ·go_enter func194,ntmps194;go_wp2_with fail;rw[<-h7];refine cm aj ?_;rintro e w2 ⟨rfl,aE⟩;have cq:=(cl.trans (aE.mono cl.size));clear h7;go_wp2;go_ret;exact⟨rfl,cq⟩):G:=h
def azq (h:G:=by
  obtain⟨va,du,rfl⟩:=h.form;clear h ah;go_enter func248,ntmps248;go_wp2_with fail;refine cm aj ?_;rintro e w1 ⟨⟨k,rfl,E⟩,A⟩;have f1:=hide E;clear E;go_wp2;go_ret;exact⟨Ua f1.out,A⟩):G:=h
def aDS (h:G:=by
  clear hl;go_enter func51,ntmps51;go_wp2;go_ret;exact⟨rfl,rfl⟩):G:=h
def aG7 (h:G:=by
  have aj:=(O5 c PY gV bR d rb Ol);rw[aa] at aj a';simp only[O9] at a';clear aa;have z:=N8 (∀{G}(h:G:=by
  exact⟨rfl,Qc a'.out.symm (pe.next ay)⟩),G);exact XK):G:=h
def aB1 (h:G:=by
  obtain⟨d9,h1,U,av⟩:=h.fu;exact⟨h.bw.trans (A.mono (OO h.lt)),h.hh.later A,OI h.lg A,OI h.se A,OI h.ow A,d9,h1,OI U A,fun i a f ay aF=>(av i a f ay aF).kp (Kp.of A)⟩):G:=h
def aDT (h:G:=by
  intro j u aS
  match j,aS with
  | 0,aS=>simp at aS;subst aS;simp[Addr.add]
  | 1,aS=>simp at aS;subst aS;simp[Addr.add]
  | 2,aS=>simp at aS;subst aS;simp[Addr.add]
  | 3,aS=>simp at aS;subst aS;simp[Addr.add]):G:=h
def aAB (h:G:=by
  refine⟨aM,?_,?_⟩
  ·have:=lI.out;rw[List.getElem?_eq_getElem aM] at this;rw[Option.some.inj this];exact dT.out
  ·intro j aS;have:=m1.out j bs[j] aS (List.getElem?_eq_getElem Oe);simpa using this):G:=h
def aB2 (h:G:=by
  obtain⟨d9,h1,U,av⟩:=h.fu;exact⟨h.bw.trans aF.below,hh,OH h.lg aF Ol,OH h.se aF Ol,OH h.ow aF Ol,d9,h1,OH U aF Ol,fun i a f ay gg=>(av i a f ay gg).kp (O8.kp aF)⟩):G:=h
def aG8 (h:G:=by
  rcases hrow.2 with ⟨fb,_⟩|⟨g1,cap',ck,fb,_,_,ax,_⟩
  ·simp at fb
  ·simp only[Value.slice.injEq,Option.some.injEq,Addr.mk.injEq,and_true,true_and] at fb;obtain⟨rfl,rfl⟩:=fb;exact ax):G:=h
def aBy (h:G:=by
  generalize ((aD.setCell (N9 wr.heap.size 0) (NY v1.k)).setCell (N9 wr.heap.size 1) (NY v1.n)).setCell (N9 wr.heap.size 2) (Oj v1.s)=wz at cj ⊢
  generalize wr.heap.size=vb at cj ⊢
  exact dD wz vb ev cj):G:=h
def azf (h:G:=by
  rw[iR] at aj kk;clear b8 qo rp ay iR gF;go_enter func32,ntmps32;go_wp2_with fail;refine cm aj.out ?_;rintro e w2 ⟨rfl,aE⟩;go_wp2;go_ret;exact⟨rfl,kk.trans (aE.mono kk.size)⟩):G:=h
def aze (h:G:=by
  go_enter func32,ntmps32;go_wp2_with fail;refine cm aj.out ?_;rintro e w2 ⟨rfl,eI,aE⟩;have hq:=hide eI;clear eI;go_wp2;go_ret;exact⟨rfl,hq.out,(kk.mono (OO lU)).trans aE⟩):G:=h
def arJ (h:G:=by
  go_enter func192,ntmps192;go_wp2;go_ret;exact⟨rfl,bO⟩):G:=h
def aAz (h:G:=by
  go_wp2_with fail
  go_loopw [8] (fun i wr=>i=NY 0/\Oo w wr) (fun i _=>0)
  case atStart=>exact⟨rfl,QI⟩
  case round=>
   obtain⟨rfl,A⟩:=hrel;go_wp2;go_ret;exact⟨rfl,A⟩):G:=h
def aDU (h:G:=by
  rw[e];have bF:=hide am;clear dn b2 em A h1 U am;go_enter func217,ntmps217
  go_wp2
  go_ret2
  refine⟨?_,rfl⟩
  show Ending.returned (.tuple #[.int .u8 (s[i].toNat:Int),Om true])=_
  rw[bF.out];rfl):G:=h
def asr (h:G:=by
  rw[aw];go_enter func132,ntmps132
  go_wp2
  go_ret;exact⟨rfl,PE⟩):G:=h
def azX (h:G:=by
  split at h
  ·
   cases h;omega
  ·have⟨u,a8,h1,h⟩:=binds h;have U:=UK (l:=l) (ah.st _ _) u a8 h1;have aN:=bv _ _ _ _ h;rw[Us,OD,OL] at aN;omega):G:=h
def aAC (h:G:=by
  rcases am with ⟨rfl,ax⟩|⟨g1,cap,rfl⟩
  all_goals
   go_wp2_with fail;refine cm aj ?_;rintro e w' ⟨rfl,A⟩;go_wp2;go_ret;refine⟨rfl,PE.trans (A.mono OW)⟩):G:=h
def azY (h:G:=by
  have⟨v,a8,h1,h⟩:=binds h;have⟨_,i2,U,h⟩:=binds h;cases h;have aw:=UK (l:=l) (ah.vl _ _) v _ h1;have bi:=RJ U;rw[count_mk,OD,OL];omega):G:=h
def axW (h:G:=by
  have⟨_,_,_,h⟩:=Pv h;have⟨_,_,_,h⟩:=Pv h
  cases h;exact ahl):G:=h
def aAE (h:G:=by
  have z:=N8 (∀{G}(h:G:=by
  have bO:=A;go_wp2;go_ret;exact⟨rfl,bO⟩),G);exact aiz):G:=h
def azy (h:G:=by
  have z:=N8 (∀{G}(h:G:=by
  go_ret;exact⟨rfl,jo.trans (iQ.mono jo.size)⟩),G);exact avs):G:=h
def azA (h:G:=by
  refine cm (pw.ha3 _ lf) ?_;rintro e E2 ⟨rfl,yn⟩;have GL:Oo ek E2:=lf.trans (yn.mono lf.size);go_wp2;go_ret;exact⟨rfl,jo.trans (GL.mono jo.size)⟩):G:=h
def azz (h:G:=by
  have z:=N8 (∀{G}(h:G:=by
  go_ret;exact⟨rfl,jo.trans (e4.mono jo.size)⟩),G);exact avr):G:=h
def aB0 (h:G:=by
  rw[bO.out];have lW:Oo b3 b3.drew:=QI.drew;exact⟨⟨_,rfl,(Fz.Qn bh Ol).later lW⟩,bE.later lW,bI.trans (OV.of lW (OO bE.lt)),(F4.Tv bh).later lW⟩):G:=h
def aDV (h:G:=by
  rw[aa] at aj a';simp only[O9] at a';clear aa;have z:=N8 (∀{G}(h:G:=by
  exact⟨rfl,Qc a'.out.symm (tp.next ay)⟩),G);exact XK):G:=h
def aDW (h:G:=by
  have h1:=hall e ao A;have h0:=(mem_ready.1 aa).1;rw[qy] at h1
  cases ac:listed[i]? with
  | none=>simp[ac] at h1
  | some x=>simp[ac] at h0 h1;rw[h0] at h1;cases h1):G:=h
def aC6 (h:G:=by
  exact⟨ac.bw.trans f.below,h.lt,(h.at_ 0 _ rfl).1,(h.at_ 1 _ rfl).1,(h.at_ 2 _ rfl).1,(h.at_ 3 _ rfl).1,(h.at_ 4 _ rfl).1,OH ac.lg f Ol,OH ac.se f Ol⟩):G:=h
def av1 (h:G:=by
  rintro e w' ⟨rfl,⟨mO,U⟩,av⟩;exact⟨rfl,⟨aA,aB,os,mO,U⟩,av⟩):G:=h
def awr (h:G:=by
  cases bi with
  | no=>exact absurd rfl gy
  | stop=>rfl
  | mis=>rfl
  | X8 x=>rfl):G:=h
def aDX (h:G:=by
  refine D.out _ _ bq (fun _=>?_);clear D K;refine wh 12 (Om true) bq ?_;refine wpAnyH_done Pe ?_ _;go_simp;go_wp2;go_ret;exact⟨Ua OW,bo⟩):G:=h
def awu (h:G:=by
  cases e with
  | no=>exact absurd rfl ao
  | stop=>rfl
  | mis=>rfl
  | X8 x=>rfl):G:=h
def awS (h:G:=by
  rw[cD.out];exact⟨⟨_,rfl,Fy.Qn bh Ol⟩,bE,bI,bW.Tv bh⟩):G:=h
def az0 (h:G:=by
  refine⟨fun y j e=>(by cases e),fun _ y j e=>?_⟩
  cases qT with
  | ok x i=>exact h.2 (fun _ _=>nofun) x i rfl
  | bad er p=>cases e
  | out=>cases e):G:=h
def aDY (h:G:=by
  refine D.out _ _ bq (fun _=>?_);clear D K;refine wh 12 (Om false) bq ?_;refine wpAnyH_done Pe ?_ _;go_simp;go_wp2;go_ret;exact⟨rfl,bo⟩):G:=h
def aDo (h:G:=by
  refine wpAnyH_done Pe ?_ _;go_simp;go_wp2
  go_roundw
  case rel=>exact⟨k+1,by omega,by go_num,A.drew⟩
  case measure=>simp[intOf];omega):G:=h
def aG9 (h:G:=by
  have h1:=(um.kp (Kp.of (aE.trans (ak.mono aE.size)))).at_.nat.nt;rw[um.tr] at h1;have U:=Td _ _ X h1;rw[<-d5] at U;rw[np];exact U):G:=h
def aDZ (h:G:=by
  have:=ahm (ah c ai) ⟨KK,aip (by rw[ai];exact aL) KK⟩ (ajx c.l KK) W _ rfl (by rw[ai,aa];nofun) ba
  rw[ai,aa] at this;exact this):G:=h
def aCf (h:G:=by
  rintro e aq ⟨rfl,fI,c7⟩;have eF:=fI;have cT:=c7;go_wp2
  go_end0
  rw[a'.out];exact⟨rfl,eF,(O8.of bO (OO bG)).trans cT⟩):G:=h
def aCT (h:G:=by
  have:0<(Px d).length:=by rw[RG];omega
  unfold Oa;rw[List.getD_eq_getElem?_getD,List.getElem?_eq_getElem this];exact List.getElem_mem this):G:=h
def aD0 (h:G:=by
  rw[bV.out] at aj;have z:=N8 (∀{G}(h:G:=by
  exact⟨rfl,Qc bj.out.symm (jn.next ay)⟩),G);exact XK):G:=h
def aHa (h:G:=by
  have h1:Oo w (RW w):=PE.alloc OW _;have U:Oo w w2:=h1.trans (aE.mono Oe);exact U.trans ((ay.mono (B':=w.heap.size) Oe).below Oe)):G:=h
def aD1 (h:G:=by
  rcases QG M o with ⟨h0,_⟩|⟨i,y,_,hy,av⟩
  ·rw[h0] at h1;cases h1
  ·rw[av] at h1;cases h1;exact List.mem_of_getElem? hy):G:=h
def aDl (h:G:=by
  have dn:=NZ bO;have b2:=NZ cq;have em:=NZ dG;exact(dn.trans (b2.mono dn.size)).trans (em.mono (Nat.le_trans dn.size b2.size))):G:=h
def axX (h:G:=by
  rw[aa] at bj;simp only[acv] at bj;exact absurd bj.out.symm dp.out):G:=h
def aAu (h:G:=by
  obtain⟨rN,rO⟩:=kB;clear aH fN hfz1 lj;go_wp2;go_ret;exact⟨rfl,⟨_,dY.out.1⟩,(O8.of bO (OO hl)).trans dY.out.2⟩):G:=h
def aww (h:G:=by
  rintro e w1 ⟨rfl,rfl⟩;go_wp2;go_ret;exact⟨rfl,rfl⟩):G:=h
def avw (h:G:=by
  go_enter func104,ntmps104;go_wp2;go_ret;exact⟨rfl,hI⟩):G:=h
def az1 (h:G:=by
  subst cL;go_wp2;go_ret;refine⟨⟨_,rfl,?_⟩,hbel⟩;have h:=HOWN;rw[List.take_length] at h;rw[List.take_length];exact h):G:=h
def avD (h:G:=by
  intro t aZ
  cases t with
  | mk kd tx gB ks=>rw[count_mk] at aZ;omega):G:=h
def aCh (h:G:=by
  have h1:=List.length_filter_le (fun k:Nd=>TJ k.2) (Px d);rw[RG] at h1;rw[hds];show ((Px d).filter _).length<=_;omega):G:=h
def awi (h:G:=by
  generalize bu:TT c1=ev
  exact dD wz vb ev ⟨cj,bu.symm⟩):G:=h
def aD2 (h:G:=by
  split at h
  ·
   cases h;exact ay
  ·have⟨u,a8,h1,h⟩:=binds h;exact bv _ _ _ _ (ak3 ay (Um (ah.st _ _) u a8 h1)) h):G:=h
def azt (h:G:=by
  clear U
  cases h1:(kd==1) <;> cases cf:(kd==6) <;>
  ·go_enter func58,ntmps58;go_wp2;go_ret;exact⟨rfl,rfl⟩):G:=h
def az8 (h:G:=by
  go_simp;refine D _ _ ?_;clear D K;exact Uu (listed':=tf 6 2) Pe Pe dD):G:=h
def aAD (h:G:=by
  have z:=N8 (∀{G}(h:G:=by
  exact bX),G);exact agu):G:=h
def azk (h:G:=by
  rcases aa.2 with ax|⟨g,cap,ck,am,A,rest⟩
  ·exact Or.inl ax
  ·exact Or.inr ⟨g,cap,ck,am,by omega,rest⟩):G:=h
def aD3 (h:G:=by
  go_simp;refine cm aj ?_;intro e w' al;obtain⟨rfl,ay⟩:=al;exact⟨rfl,Qc a'.out.symm (jD.drew.next ay)⟩):G:=h
def aD4 (h:G:=by
  go_simp;refine cm aj ?_;intro e w' al;obtain⟨rfl,ay⟩:=al;exact⟨rfl,Qc a'.out.symm (eg.drew.next ay)⟩):G:=h
def aD5 (h:G:=by
  obtain⟨la,fy,rfl⟩:=OG av;obtain⟨g9,au,rfl⟩:=OG aN;exact⟨h1,la,fy,g9,au,U,av,aN⟩):G:=h
def aHb (h:G:=by
  rw[ay.block _ Oe Oe,aE.block _ Oe];have:=Oi (w.alloc (.cells #[QS] 22)) (.cells #[Qd] 31);simpa using this):G:=h
def aD6 (h:G:=by
  go_simp;refine cm gc ?_;intro e aD al;obtain⟨rfl,ay⟩:=al;exact⟨rfl,Qc rfl (qY.drew.next ay)⟩):G:=h
abbrev NY (n:Int):Value:=.int .i64 n
abbrev Oy (b o:Nat):Value:=.pointer (some ⟨b,o,none⟩)
abbrev N9 (b o:Nat):Addr:=⟨b,o,none⟩
abbrev Oq:=Calls prog
abbrev Oo (w x:World):Prop:=Below w.heap.size w x
abbrev Pm:Value:=.string ⟨#[]⟩
abbrev Oj (s:ByteArray):Value:=.string s
abbrev OM (cs:Array Value)(t:TypeId):Obj:=.cells cs t (0,0)
abbrev OA (v:Value):Ending:=.returned v
abbrev Om (b:Bool):Value:=.bool b
abbrev Og:=World
abbrev Ou:=ByteArray
abbrev Ot:=Value
def Oe {G:Prop}(h:G:=by omega):G:=h
def Ol {G:Prop}(h:G:=by decide):G:=h
def Pe {G:Prop}(h:G:=by kernel_rfl):G:=h
def OW {G:Prop}(h:G:=by simp):G:=h
def QY {G:Prop}(h:G:=by simp;omega):G:=h

abbrev Qv:Value:=.slice none 0 0
abbrev QS:Value:=.pointer none
abbrev Qd:Value:=.nilIface
abbrev lVZ (g n c:Nat):Value:=.slice (some ⟨g,0,none⟩) n c
abbrev VH (f:Nat):Prop:=∀ args W,(callFunc f args).run prog W=.ok (.enter f args) W
def OO {a b:Nat}(h:a<b):a<=b:=Nat.le_of_lt h
def Pg {a:Nat}:a<=a:=Nat.le_refl a
def PE {w:World}{o:Obj}:Below w.heap.size w (w.alloc o):=(Below.refl _ _).alloc (Nat.le_refl _) _
def QI {n:Nat}{w:World}:Below n w w:=Below.refl _ _
def afZ (lo az c:Int):Bool:=decide (lo<=c)&&decide (c<=az)
def aa0 (c:Int):Bool:=afZ 97 122 c||c==95
def Qe (c:Int):Bool:=afZ 48 57 c
def Vt (c:Int):Bool:=aa0 c||Qe c
def inB (s:List UInt8)(c:Int):Bool:=decide (0<=Lib.indexByte s c.toNat.toUInt8)
def hide {p:Prop}(h:p):Hid p:=h
def NZ {p:Prop}(h:Hid p):p:=h
def xH {α:Sort _}(a:α):∃ x,Hid (x=a):=⟨a,rfl⟩
def xE {α:Sort _}(a:α):∃ x,x=a:=⟨a,rfl⟩
def Ua {a b:Bool}(h:a=b):Ending.returned (Om a)=OA (Om b):=by rw[h]
def afe (c lo az:Int)(p q:Addr)(w:Og)(h1:w.cell? p=some (.int .u8 lo))(U:w.cell? q=some (.int .u8 az)) :
  Oq 274 #[.int .u8 c,.pointer (some p),.pointer (some q)] w fun e w'=>e=OA (Om (afZ lo az c))/\w'=w:=by
 go_enter func274,ntmps274
 go_wp2
 all_goals go_ret
 all_goals refine⟨Ua ?_,rfl⟩
 all_goals (simp[afZ, *];try omega)
def axC (s:Ou)(c:Int)(w:Og):(callFunc 272 #[Oj s,.int .u8 c]).run prog w=.ok (.value (NY (Lib.indexByte s.data.toList c.toNat.toUInt8))) w:=by
 rw[run_callFunc_extern func272 Pe Pe Pe (e:=Extern.BytealgIndexByte.indexByte) Pe,Lib.run_indexByteString];rfl
def ajt (c:Int)(p:Addr)(s:Ou)(w:Og)(h1:w.cell? p=some (Oj s)) :
  Oq 138 #[.int .u8 c,.pointer (some p)] w fun e w'=>e=OA (Om (inB s.data.toList c))/\w'=w:=by
 have jP:=axC s c;go_enter func138,ntmps138
 go_wp2
 go_ret;exact⟨Ua (by simp[inB]),rfl⟩
def aGM:VH 138:=fun _ _=>by kernel_rfl
def aGN:VH 273:=fun _ _=>by kernel_rfl
def aGO:VH 274:=fun _ _=>by kernel_rfl
/-- A value is a axB of p: in every later world it is a function that answers so and leaves the world as it was. -/
def V5 (w:Og)(v:Ot)(p:Int->Bool):Prop:=
 ∃ f caps,v=.func (.func f) #[] caps/\(∀ args W,(callFunc f args).run prog W=.ok (.enter f args) W)/\∀ W,Oo w W->∀ b:UInt8,Oq f (#[.int .u8 (b.toNat:Int)]++caps) W fun e CU=>e=OA (Om (p (b.toNat:Int)))/\CU=W
def V5.later {w w':Og}{v:Ot}{p:Int->Bool}(h:V5 w v p)(A:Oo w w'):V5 w' v p:=by
 obtain⟨f,caps,rfl,ao,h⟩:=h;exact⟨f,caps,rfl,ao,fun W a6 c=>h W (A.trans (a6.mono A.size)) c⟩
def Vu {w W:Og}{b o:Nat}{v:Ot}(A:Oo w W)(h:w.cell? (N9 b o)=some v)(aM:b<w.heap.size):W.cell? (N9 b o)=some v:=by
 rw[A.cell (p:=(N9 b o)) aM];exact h
def Yc:∀ (fn:Fn) (first cap:Array Ot) (w:Og),(Instr.makeFunc fn first cap).run prog w=.ok (.func fn first cap) w:=fun _ _ _ _=>rfl
def aaD (lo az:Int)(w:Og) :
  Oq 212 #[.int .u8 lo,.int .u8 az] w fun e w'=>∃ v,e=OA v/\V5 w' v (afZ lo az)/\Oo w w':=by
 have jx:=Yc;go_enter func212,ntmps212
 go_wp2
 go_ret;refine⟨_,rfl,⟨274,_,rfl,aGO,fun W a6 c=>?_⟩,PE.alloc OW _⟩;refine afe _ lo az _ _ W ?_ ?_
 ·exact Vu a6 (by simp[World.cell?_alloc_past,World.cell?_alloc_at]) QY
 ·exact Vu a6 (by simp[World.cell?_alloc_at]) OW
def adT (s:Ou)(w:Og) :
  Oq 66 #[Oj s] w fun e w'=>∃ v,e=OA v/\V5 w' v (inB s.data.toList)/\Oo w w':=by
 have jx:=Yc;go_enter func66,ntmps66
 go_wp2
 go_ret;refine⟨_,rfl,⟨138,_,rfl,aGM,fun W a6 c=>?_⟩,PE⟩;refine ajt _ _ s W ?_;exact Vu a6 (by simp[World.cell?_alloc_at]) OW
def ahf (c:Int)(p q:Addr)(f g:Nat)(oG m6:Array Ot)(P Q:Int->Bool)(w:Og)(vM:VH f)(C7:VH g)(h1:w.cell? p=some (.func (.func f) #[] oG))(U:w.cell? q=some (.func (.func g) #[] m6))
  (aF:Oq f (#[.int .u8 c]++oG) w fun e w'=>e=OA (Om (P c))/\w'=w)
  (hg:Oq g (#[.int .u8 c]++m6) w fun e w'=>e=OA (Om (Q c))/\w'=w) :
  Oq 273 #[.int .u8 c,.pointer (some p),.pointer (some q)] w fun e w'=>e=OA (Om (P c||Q c))/\w'=w:=by
 have sy:Hid _:=aF;have sA:Hid _:=hg
 cases hP:P c
 ·go_enter func273,ntmps273;go_wp2_with fail;refine Calls.mono sy.out ?_;rw[hP];rintro e w' ⟨rfl,rfl⟩;go_wp2_with fail;refine Calls.mono sA.out ?_;rintro e w' ⟨rfl,rfl⟩;go_wp2;go_ret;exact⟨Ua OW,rfl⟩
 ·go_enter func273,ntmps273;go_wp2_with fail;refine Calls.mono sy.out ?_;rw[hP];rintro e w' ⟨rfl,rfl⟩;go_wp2;go_ret;exact⟨Ua OW,rfl⟩
def aju (u v:Ot)(P Q:Int->Bool)(w:Og)(aQ:V5 w u P)(am:V5 w v Q) :
  Oq 211 #[u,v] w fun e w'=>∃ x,e=OA x/\V5 w' x (fun c=>P c||Q c)/\Oo w w':=by
 have jx:=Yc;obtain⟨f,oG,rfl,vM,aF⟩:=aQ;obtain⟨g,m6,rfl,C7,hg⟩:=am;have sy:=hide aF;have sA:=hide hg;clear aF hg;go_enter func211,ntmps211
 go_wp2
 go_ret;have A:Oo w ((w.alloc (.cells #[.func (.func f) #[] oG] 140)).alloc (.cells #[.func (.func g) #[] m6] 140)):=PE.alloc OW _;refine⟨_,rfl,⟨273,_,rfl,aGN,fun W a6 c=>?_⟩,A⟩;have DA:=A.trans (a6.mono A.size);refine ahf _ _ _ f g oG m6 P Q W vM C7 ?_ ?_ (NZ sy W DA c) (NZ sA W DA c)
 ·exact Vu a6 (by simp[World.cell?_alloc_past,World.cell?_alloc_at]) QY
 ·exact Vu a6 (by simp[World.cell?_alloc_at]) OW
def aaq (w:Og):Oq 142 #[] w fun e w'=>∃ x,e=OA x/\V5 w' x Qe/\Oo w w':=by
 go_enter func142,ntmps142;go_wp2_with fail;refine(aaD 48 57 _).mono ?_;rintro e w' ⟨x,rfl,ac,A⟩;have dT:=hide ac;have bO:=hide A;go_wp2;go_ret;exact⟨x,rfl,dT.out,bO.out⟩
def V5.congr {w:Og}{v:Ot}{p q:Int->Bool}(h:V5 w v p)(e:∀ b:UInt8,p (b.toNat:Int)=q (b.toNat:Int)):V5 w v q:=by
 obtain⟨f,caps,rfl,ao,h⟩:=h;exact⟨f,caps,rfl,ao,fun W a6 b=>by rw[<-e b];exact h W a6 b⟩
def amI (b:UInt8):inB [95] (b.toNat:Int)=((b.toNat:Int)==95):=by
 have key:∀ m:Fin 256,inB [95] ((m.val:Nat):Int)=(((m.val:Nat):Int)==95):=by decide +kernel
 exact key ⟨b.toNat,b.toNat_lt⟩
def PU (c:Int):Bool:=c==32||c==10
def aty (b:UInt8):inB [32,10] (b.toNat:Int)=PU (b.toNat:Int):=by
 have key:∀ m:Fin 256,inB [32,10] ((m.val:Nat):Int)=PU ((m.val:Nat):Int):=by decide +kernel
 exact key ⟨b.toNat,b.toNat_lt⟩
def acj (w:Og):Oq 140 #[] w fun e w'=>∃ x,e=OA x/\V5 w' x aa0/\Oo w w':=by
 go_enter func140,ntmps140;go_wp2_with fail;refine(aaD 97 122 _).mono ?_;rintro e w1 ⟨x,rfl,ac,A⟩;have dT:=hide ac;have bO:=hide A;go_wp2_with fail;refine(adT _ _).mono ?_;have z:=N8 (∀{G}(h:G:=by
 refine⟨bB,rfl,dY.out.congr (fun b=>by show (_||inB [95] _)=_;rw[amI];rfl),?_⟩
 exact aDl),G);exact aDm
def atz (w:Og):Oq 213 #[] w fun e w'=>∃ x,e=OA x/\V5 w' x Vt/\Oo w w':=by
 go_enter func213,ntmps213;go_wp2_with fail;refine(acj _).mono ?_;rintro e w1 ⟨x,rfl,ac,A⟩;have dT:=hide ac;have bO:=hide A;go_wp2_with fail;refine(aaq _).mono ?_;have z:=N8 (∀{G}(h:G:=by
 refine⟨bB,rfl,dY.out.congr (fun b=>rfl),?_⟩;exact aDl),G);exact aDm
/-- The first place from k on whose byte is of another kind, or the end. -/
def OC (p:Int->Bool)(s:Ou)(k:Nat):Nat:=k+((s.data.toList.drop k).takeWhile (fun b=>p (b.toNat:Int))).length
section
variable (p:Int->Bool) (s:Ou) (k:Nat)
include p s k
def QU (h:k<=s.size):OC p s k<=s.size:=by
 unfold OC;have h1:=((List.takeWhile_prefix (l:=s.data.toList.drop k) (fun b=>p (b.toNat:Int))).length_le);have U:(s.data.toList.drop k).length=s.size - k:=by simp
 omega
def Yh (h:k<s.size)(al:p (s[k].toNat:Int)=true):OC p s (k+1)=OC p s k:=by
 have z:=N8 (∀{G}(h:G:=by
 rw[e,List.takeWhile_cons,if_pos al,List.length_cons];omega),G);exact aDn
def acn (h:k<s.size)(al:p (s[k].toNat:Int)=false):OC p s k=k:=by
 have z:=N8 (∀{G}(h:G:=by
 rw[e,List.takeWhile_cons,if_neg (by rw[al];simp)];rfl),G);exact aDn
def amJ (h:s.size<=k):OC p s k=k:=by
 unfold OC;rw[List.drop_of_length_le (by simpa using h)];rfl
end
def abb {k:IntKind}{a b:Int}(h:a=b):Ending.returned (.int k a)=OA (.int k b):=by rw[h]
def Yi (s:Ou)(b9:Nat)(v:Ot)(p:Int->Bool)(w:Og)(ab:s.size<=maxLen)(iS:b9<=s.size)(am:V5 w v p) :
  Oq 67 #[Oj s,NY (b9:Int),v] w fun e w'=>e=OA (NY (OC p s b9:Nat))/\w'=w:=by
 unfold maxLen at ab;obtain⟨f,caps,rfl,vM,aF⟩:=am;have aF:=aF w QI;have sy:=hide aF;clear aF;go_enter func67,ntmps67
 go_wp2
 go_loopw [1] (fun i wr=>∃ k:Nat,k<=s.size/\i=NY k/\OC p s k=OC p s b9/\wr=w) (fun i _=>s.size - (intOf i).toNat)
 case atStart=>exact⟨b9,iS,rfl,rfl,rfl⟩
 case round=>
  obtain⟨k,E,rfl,ao,rfl⟩:=hrel;have dB:=hide ao;clear ao
  by_cases aM:k<s.size
  ·
   cases al:p (s[k].toNat:Int)
   ·have bC:=hide (acn p s k aM al);have HP:=hide al;clear al;go_wp2_with fail;refine Calls.mono (NZ sy _) ?_;rw[HP.out];rintro e w' ⟨rfl,rfl⟩;go_wp2;go_ret;exact⟨abb (by rw[<-dB.out,bC.out]),rfl⟩
   ·have bC:=hide (Yh p s k aM al);have HP:=hide al;clear al;go_wp2_with fail;refine Calls.mono (NZ sy _) ?_;rw[HP.out];rintro e w' ⟨rfl,rfl⟩;go_wp2
    go_roundw
    case rel=>exact⟨k+1,by omega,by go_num,by rw[bC.out,dB.out],by trivial⟩
    case measure=>simp[intOf];omega
  ·have bC:=hide (amJ p s k Oe);go_wp2;go_ret;exact⟨abb (by rw[<-dB.out,bC.out]),rfl⟩
