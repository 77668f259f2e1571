import Derived.Test.YticfnaiehdpbmaaGreatDoorOn0
import Derived.Test.YticfnaiehdpbmaaGreatDoorProg
import Derived.WalkSpells
import Derived.WalkLawsBesides
import Derived.Lib.Bytealg
set_option maxRecDepth 100000
set_option maxHeartbeats 8000000
set_option linter.all false
namespace Go.Proofs.YticfnaiehdpbmaaGreatDoor
open Go.RowKit Go.Proofs.Tryz
section
variable {G:Prop}
def axo (h:G:=by
  go_wp2_with fail;obtain⟨b1,bx,bi,bF,bC,cG,b4,bT⟩:=rt3 d9.out cR.out bG jY k2 (Ol 0) (Ol 0) (PN);rw[<-bx];exact z.o):G:=h
def aq7 (h:G:=by
  go_enter func65,ntmps65
  go_wp2
  refine wp_loop_rounds 1 ?_;rw[rounds_succ]
  go_wp2
  go_ret;exact z.o):G:=h
def avD (h:G:=by
  refine cm (pw.hr1 _ tz) ?_;rintro e cp ⟨rfl,ni⟩;have iU:OD ek cp:=tz.trans (ni.mono tz.size);go_wp2_with fail;exact z.o):G:=h
def avC (h:G:=by
  refine cm (pw.ha1 _ iU) ?_;rintro e dG ⟨rfl,eU⟩;have e8:OD ek dG:=iU.trans (eU.mono iU.size);go_wp2_with fail;exact z.o):G:=h
def aAW (h:G:=by
  obtain⟨z0,mJ,z2,mK,mL,mM,zl⟩:=O7 fp;refine uz 12 (.tuple #[(vA v1),(Ur c1)]) ?_;refine uz 13 (vA v1) ?_;refine uz 14 (Ur c1) ?_;refine P5 16 fun K A=>?_;go_simp;refine ko A ?_;clear A K;refine uz 17 (Ur c1) ?_;refine Sl ?_ _;go_simp;exact z.o):G:=h
def aAw (h:G:=by
  have lc:=bY 4 _ rfl;rw[v7] at lc;have gv:=(fs.later D);have bL:=(e2.trans (D.mono e2.size));have jS:w1.heap[w.heap.size]? = some (O1 #[OB nm] 9):=by
   refine agE (w:=w) (W:=w1) ?_;rw[<-me.out];exact D.mono (by rw[me.out];simp)
  exact z.o):G:=h
def aCv (h:G:=by
  refine A.out _ _ (fun _=>ki) ?_;clear A K;refine P5 8 fun K A=>?_;go_simp;refine cm (Om oy _ cr) ?_;rintro e dT ⟨rfl,KH,z7,rA,m'⟩;have g7:=mg.later cr;have fI:=m'.frL (L:=some lb) g7;have m9:=m'.frL (L:=none) g7;exact z.o):G:=h
def aEA (h:G:=by
  intro e ap al;obtain⟨⟨v3,rfl,cX,rfl,oW⟩,ba,ax⟩:=al;have jm:=(ee.next ax);have dp:=ba;have qV:=(TB oW ee.size);have nI:=(Qb.mono (J:=fun b=>w.heap.size<=b/\b<ap.heap.size) (fun _ D hl=>⟨D,hl⟩) _ _ qV);exact z.o):G:=h
def aBC (h:G:=by
  go_simp;refine A.out _ _ (fun _=>(PO.alloc O8 _).drew) ?_;clear A K;refine P5 8 fun K A=>?_;go_simp;refine A.out _ _ (fun _=>(PO.alloc O8 _).drew) ?_;clear A K;refine P5 9 fun K A=>?_;go_simp;refine ko A ?_;clear A K;refine Sl ?_ _;go_simp;exact z.o):G:=h
def aEB (h:G:=by
  obtain⟨z0,mJ,z2,z3,mK,mL,mM,s9,zl⟩:=Qx (fp);refine uz 10 (.tuple #[(UY bH),ev]) ?_;refine uz 11 (UY bH) ?_;refine uz 12 ev ?_;exact aEh):G:=h
def awV (h:G:=by
  obtain⟨bQ,b5,cap1,jI,fW,jh,_⟩:=sL.Yj (i:=1) Ou;rw[cT,<-bm.out] at jI;obtain⟨wY,pN⟩:=xE bQ.p;exact z.o):G:=h
def aDp (h:G:=by
  rintro e w2 ⟨y,rfl,hy,aF⟩;have kN:=hide hy;have cq:=hide aF;go_wp2_with fail;refine(ajC x y _ _ _ (dQ.out.later cq.out) kN.out).mono ?_;rintro e ap ⟨bD,rfl,aI,br⟩;have dW:=hide aI;have d3:=hide br;go_wp2;go_ret;exact z.o):G:=h
def aEC (h:G:=by
  refine wh 0 (Pj c) eW.drew ?_;refine wh 1 (Pj c) eW.drew ?_;refine wh 2 (OM c.R 3) eW.drew ?_;refine wg 3 (.map (some c.mS)) rfl (Or.inl ⟨by kernel_rfl,fun W a1=>by have hh:=PW.c3 a1;go_simp⟩) eW.drew ?_
  refine wh 4 (Pj c) eW.drew ?_;exact z.o):G:=h
def aED (h:G:=by
  have ai:Hid _:=D wr d j bj;rw[hbg] at ai;clear hbg;have Dm:((aX.length:Int)==8)=true:=beq_iff_eq.2 Ou;have Ld:=hide fQ;clear fQ;go_wp2_with fail;refine cm ai.out ?_;rintro e ap ⟨rfl,br⟩;have jm:=(ee.next (Ap.of br));exact z.o):G:=h
def aBg (h:G:=by
  have bB:=hide d';have bW:=hide aa;have gY:=hide U;have p5:=hide E;have op:=hide bo;clear be hr2 d' aa h1 dx cL d0 fG dC dc U E bo;go_enter func258,ntmps258;exact ax3):G:=h
def avL (h:G:=by
  have nz:Hid (∀ W,OD w W->OE 102 #[Oo p] W fun e w'=>e=OQ (OC true)/\w'=W):=fun W a1=>avI
  exact z.o):G:=h
def aBe (h:G:=by
  subst aq;have bv:ev=Qp:=aV.er;subst bv;have c0:=gI.cells.2.1;have hf:=gI.cells.1;rw[op.out,<-bm.out] at c0;rw[<-bm.out] at hf;have mP:=hide c0;have gh:=hide (cells3 aV.v);clear c0;have eM:=hide (fun X=>Xk v1 X);exact z.o):G:=h
def aAx (h:G:=by
  obtain⟨h0,h1,aH,hb,hl⟩:=h.c;obtain⟨ep,me⟩:=xH (w.alloc (.cells #[OB nm] 9));have dA:ep.cell? (Ot w.heap.size 0)=some (OB nm):=by rw[me.out];simp
  have e2:OD w ep:=by rw[me.out];exact PO
  have fs:=h.later e2;exact z.o):G:=h
def ayg (h:G:=by
  have pg:=(gA.next (Ap.of nU));have mc:=(bj.later nU);replace fo:=hide (SS fo (Ap.of nU) bS.out);exact z.o):G:=h
def aCb (h:G:=by
  subst aK;clear aa al aj h7;go_enter func321,ntmps321;go_wp2_with fail;refine cm HP ?_;rintro e w1 ⟨p,rfl,az,D⟩;have dB:=az;have bL:=D;go_wp2_with fail;refine cm (Om ai p w1 dB.nt) ?_;rintro e w2 ⟨aq,aF⟩;exact z.o):G:=h
def axk (h:G:=by
  have eX:=jy;have kF:=gb;have fN:=hide ng;have bW:=hide kW;have jq:=oU;have h':=jy.lt;clear ng kW;exact z.o):G:=h
def aEE (h:G:=by
  replace nI:=(Qb.later (fun b D _=>f'.block b D.2) _ _ nI);obtain⟨bf,rfl,e'⟩:=bv.nv;have r2:=(Qb.mono (J:=fun b=>From w.heap.size b/\ap.heap.size<=b) (fun _ D _=>⟨Nat.le_trans jm.size D,D⟩) _ _ e');exact z.o):G:=h
def aBA (h:G:=by
  have aF:=(Below.refl w.heap.size w).alloc O6 (.cells #[Ol 0,Ol 0,PN] 65);have bj:=hide (OA w (.cells #[Ol 0,Ol 0,PN] 65));obtain⟨w2,bu⟩:=xH (w.alloc (.cells #[Ol 0,Ol 0,PN] 65));rw[<-bu.out] at bj aF;exact z.o):G:=h
def aEF (h:G:=by
  obtain⟨hd,AP⟩:=xE (Qu (O9 c.l i).tx);rw[<-AP] at a';have ai:=(ZC c w i d bB op.out);rw[<-AP] at ai;clear AP;go_wp2_with fail;refine cm ai ?_;rintro e wk ⟨rfl,iY,As⟩;have td:=(e1.next As);exact z.o):G:=h
def aC7 (h:G:=by
  have cT:k=c9.length:=Ou;subst cT;have h8:¬ (c9.length:Int)<(c9.length:Int):=Ou;obtain⟨aZ,p1,cK,cX,_,d2⟩:=cells4 fN.out;obtain⟨dn,bR,c7,hD,l1,l2,l3,NT,nl⟩:=Qx bW.out;go_wp2_with fail;exact z.o):G:=h
def aEG (h:G:=by
  have ai:=(Uf c UH fe a7 d cP aj);go_wp2_with fail;refine cm ai ?_;rintro e aE ⟨rfl,D⟩;have fS:=(cP.later D);have e7:=(df.next (Ap.of D));replace eo:=hide (Open.later eo (Ap.of D) bS.out);clear D;exact z.o):G:=h
def aBt (h:G:=by
  have jL:=(O5.of (L:=none) ab (O0 di)).trans ah;have dF:=hide (jL.keep bj.out Oz);have fl:=(cu.trans jL);obtain⟨v9,k9⟩:=xH rs.1.1;rw[<-k9.out];obtain⟨ho,gW,gC,j8,j9,j',ka⟩:=O7 dF.out;exact z.o):G:=h
def axV (h:G:=by
  have ai:=(Pq c Qv (ap.setCell (Ot aZ 3) (.slice (some (Ot g 0)) (t0.kids.length+1) cap)) hm d cZ Oz);exact z.o):G:=h
def aBh (h:G:=by
  subst aq;have bv:ev=Qp:=aD;subst bv;have b9:=Om dW bH σ1 bW.out;have c1:=p4.cells.2.2.1;have hf:=p4.cells.1;rw[<-bm.out] at c1 hf;obtain⟨tx,cD⟩:=xE d.2.tx;rw[<-cD] at c1;have fi:=hide c1;exact z.o):G:=h
def aBL (h:G:=by
  have bW:=hide aa;have gY:=hide U;have p5:=hide E;have eL:=(hl.later aF);clear be hr2 aa h1 dx cL d0 fG dC dc U E;go_enter func111,ntmps111;exact ax3):G:=h
def aBp (h:G:=by
  go_enter func262,ntmps262;go_wp2_with fail;rw[<-bu.out,<-b0,<-bV];clear bV b0;refine cm bJ ?_;rintro e aE ⟨⟨ev,rfl,aD⟩,g4,gz⟩;have dF:=hide (gz.keep bj.out Oz);have fl:=(cu.trans gz);exact z.o):G:=h
def awJ (h:G:=by
  simp only[Value.slice.injEq] at av;obtain⟨rfl,_,rfl⟩:=av;have h8:(k:Int)<(c9.length:Int):=Ou;exact z.o):G:=h
def aDb (h:G:=by
  have e0:w2.heap[vb]? = some (O1 #[Ol v.k,Ol v.n,OB v.s] 65):=by rw[bu.out,aV];exact OA _ _
  have ia:=lt_of_heap e0;have di:mb<w2.heap.size:=by have:=aF.size;omega
  have bJ:=hide (cells3 e0);exact z.o):G:=h
def aBY (h:G:=by
  have eR:=hide (hM.keep b8.out Oz);have cY:=(cu.trans hM);have ea:=ha.lt;have gI:=cU.kp hM.UD;have hf:=gI.cells.1;have gB:=gI.cells.2.1;have bJ:=(Om ai wz ha gI);rw[<-bm.out] at hf gB bJ;exact z.o):G:=h
def awz (h:G:=by
  have bJ:=hide (fun X (ak:OD w2 X)=>aoW ac (cZ.later ak) (fV.kp (Kp.of ak)) ⟨au,aG,st⟩ aB h1);exact z.o):G:=h
def aDC (h:G:=by
  refine P5 11 fun K A=>?_;go_simp;refine ko A ?_;clear A K;refine Sl ?_ _;have kL:=hide (stays ki dV.out);have j0:=(aV.ms.later ki);have mW:=(cY.trans (O5.of (L:=none) ki (O0 ea)));have oV:=j0.lt;exact z.o):G:=h
def aEH (h:G:=by
  go_simp;refine cm (SN c _ i d eW.drew) ?_;rintro e w1 ⟨rfl,D⟩;have bM:=(eW.drew.later D);have f3:=(rQ.trans ((QX.drew.trans D).mono rQ.size));refine A.out _ _ bM (fun _=>?_);clear A K;exact z.o):G:=h
def awk (h:G:=by
  obtain⟨cH,bU,cg,eu,rl⟩:=cells3 dp.out;have dt:=eu 0;have du:=eu 1;have dv:=eu 2;clear eu;exact z.o):G:=h
def aAr (h:G:=by
  obtain⟨m,rn,MW,rfl,rfl,dg,hown⟩:=hrel;have jS:wr.heap[bD]? = some (O1 #[OB s] 9):=(dg.block bD o6 (fun e=>J3 (Option.some.inj e))).trans dW.out;have dI:g<wr.heap.size:=(hown.lt g rfl).2;exact z.o):G:=h
def aAn (h:G:=by
  have kf:=hide kl;clear lh Ay bY kl aH nq jS iu hget;go_wp2_with fail;refine cm d4 ?_;rintro e ap ⟨rfl,br⟩;have hsz3:wr.heap.size+1<=ap.heap.size:=by have:=br.size;simpa using this
  exact z.o):G:=h
def aAV (h:G:=by
  refine Sl ?_ _;have gn:(Instr.lookup 80 (.map (some af)) (Oo q) true).run prog ap=.ok (.tuple #[(Ol (k:Int)),OC true]) ap:=by
   rw[kn];unfold noV;rw[mY.out];rfl
  clear kn;go_simp;go_wp2_with fail;exact z.o):G:=h
def aEI (h:G:=by
  rw[<-jQ] at cO;have jb:Hid (t0.kids.length=0):=by
   show _=_
   rw[jQ];rfl
  have iI:Hid (t0.kd=hd):=by
   show _=_
   rw[jQ];rfl
  have pq:=hide jQ;obtain⟨aZ,ho,BQ,gP,eo⟩:=cO.opens;exact z.o):G:=h
def aEJ (h:G:=by
  have km:j<b':=Om zb d j t b' nc aa;rw[aa] at ai k6;simp only[bind_ok] at k6;clear aa;go_wp2_with fail;refine cm ai.out ?_;intro e bA al;obtain⟨⟨v4,rfl,nr,rfl,oX⟩,ba,ax⟩:=al;exact z.o):G:=h
def axy (h:G:=by
  obtain⟨w2,bu⟩:=xH (w.alloc (.cells #[Ri] 122));have aF:OD w w2:=by rw[bu.out];exact PO
  exact z.o):G:=h
def avZ (h:G:=by
  obtain⟨q,ag⟩:=xE (ps[k]);rw[<-ag] at ej ai;have h8:(k:Int)<(t.kids.length:Int):=Ou;exact z.o):G:=h
def aBH (h:G:=by
  go_simp;refine A.out _ _ (fun _=>PO.drew) ?_;clear A K;refine P5 6 fun K A=>?_;go_simp;refine cm (Om bJ _ (PO.drew)) ?_;exact ax2):G:=h
def awq (h:G:=by
  go_enter func291,ntmps291;go_wp2_with fail;rw[<-bu.out,<-bV];clear bV;refine TI 9 fun ab=>?_;exact z.o):G:=h
def aAX (h:G:=by
  have sD:ap.heap[bf]? = some (plO ⟨au,aG,st⟩ aB)/\ap.cell? (Ot q 1)=some (OB tx):=⟨sC.keep e8.out.1 Oz,sC.UD.XQ e8.out.2 lE.out⟩;refine A.out _ _ (fun _=>sD) ?_;clear A K;exact z.o):G:=h
def aBJ (h:G:=by
  go_wp2_with fail;obtain⟨b1,bx,bi,bF,bC,cG,b4,bT,eg⟩:=rt4 kL.out cR.out bG mW j0 (OC false) (Ol 0) (Ol 0) (PN);rw[<-bx];refine agX (v:=.tuple #[UY QW,Qp]) ?_;rw[cI.out];exact z.o):G:=h
def aBk (h:G:=by
  refine up 3 vb 1 ab ?_;refine uk 4 (gh.out.2.1) ab ?_;refine P5 5 fun K A=>?_;go_simp;refine cm (Om og _ ab) ?_;rintro e k0 ⟨rfl,i1⟩;rw[i1];clear i1 k0;refine ko A ?_;clear A K;exact z.o):G:=h
def aEK (h:G:=by
  have h1:=XJ ac;have aw:((Zy (fx l i)).filter (fun e=>decide (e.parts<2))).isSome=true:=by
   unfold Zn at ac;have U:=Option.filter_eq_some_iff.1 ac;rw[U.1];simp[Option.filter,h1.2]
  exact z.o):G:=h
def aEL (h:G:=by
  have k6:Hid ((ns d j).bind (fun t a7=>if fx c.l a7=shut then PR.ok (aX++[t]) (a7+1) else (Pm c.l abL a7).bind fun _ i2=>QN c.l shut begins (ns d) k (aX++[t]) i2)=r):=Om bm;exact z.o):G:=h
def aAR (h:G:=by
  have fF:=(cQ.new lm (ZM sd.out _));have p2:=(lI.kp (fun b c e D aq=>lm.rest b c e D (by rcases aq with rfl|rfl <;> decide)));rw[<-fJ] at f7 lk fF p2 ⊢;have kJ:=hide lk;exact z.o):G:=h
def aDe (h:G:=by
  go_enter func110,ntmps110;go_wp2_with fail;rw[<-bu.out,<-b0,<-bV];clear bV b0;refine cm ai ?_;rintro e w1 ⟨⟨u,rfl,aa⟩,b6⟩;obtain⟨cV,dP,aT⟩:=OX aa;subst aT;exact z.o):G:=h
def aCZ (h:G:=by
  have kv:Po { p with scope:=σ1.top } (σ1.opn p.scope o (-2)):=⟨by show (0:Int)<=(σ1.M.OI.length:Int);omega,by show (σ1.M.OI.length:Int)<_;simp[St.opn,Mo.scope];omega⟩
  exact z.o):G:=h
def aEM (h:G:=by
  refine A.out _ _ bM (fun _=>?_);clear A K;refine wg 6 (.tuple #[.agg #[PN,Ol 0,Ol 0,Ol 0],OC false]) rfl (Or.inl ⟨by kernel_rfl,fun W a1=>by have hh:=dU.out W a1;go_simp⟩) bM ?_
  exact z.o):G:=h
def aAd (h:G:=by
  have bN:=Oq (∀{G}(h:G:=by
  obtain⟨_,_,_,fU,_⟩:=node_cells hblk;obtain⟨cV,uc,aT⟩:=U3 hrow;subst aT;exact z.o),G);exact zto):G:=h
def aAj (h:G:=by
  obtain⟨cM,iO,eO⟩:=List.findIdx?_eq_some_iff_getElem.1 E;have Gf:=hide iO;have Gh:=hide eO;have dW:=hide aI;have tH:=hide (World.block_lt_of_cell? w _ aI);clear aI E iO eO;exact z.o):G:=h
def aCy (h:G:=by
  rw[<-o7,<-qF,eI] at fj;have y2:Hid (bP=evR ay b3 mN):=by
   show bP=_
   have h:=Om lJ;rw[<-o7,<-qF,eI] at h;exact h
  have eF:=hide c3;have dz:=cell_lt c3;exact z.o):G:=h
def aEN (h:G:=by
  have ai:=(ah.pr (x.str+1) Ou Ou ((aY.setCell (Ot c.R 1) (Ol ((j:Int)+1))).alloc (.cells #[OB x.tx,Ol x.kd,Ol x.parts,Ol x.str] 275)).drew d (j+1) _ rfl (by rw[aa];nofun) ur)
  exact z.o):G:=h
def aEO (h:G:=by
  have U:=wpOp_putIf ul (hfree j oj ul iN hjun hnot) (fun cs c=>hsel i dN cs c am) (fun cs c=>hsel j oj cs c ul) hO hy (H.2 j (ready_mono aN iN));refine wpOp_mono (fun mi w' aw=>?_) U;exact z.o):G:=h
def aAq (h:G:=by
  have Ji:N=m+1:=Ou;subst Ji;have hkl':k<bs.length:=by rw[<-dB.out];exact cM
  have iu:(Lm bs k m).length=m+1:=by rw[aoe hkl' (by rw[<-dB.out];omega),dB.out]
  exact z.o):G:=h
def aEP (h:G:=by
  have HP:=hide al;clear al;go_wp2_with fail;refine(adq _ _ _ (by unfold maxLen;simp;omega) (by unfold maxLen;omega)).mono ?_
  rw[HP.out];rintro e w' ⟨rfl,rfl⟩;go_wp2_with fail;exact z.o):G:=h
def aBu (h:G:=by
  rw[<-ag] at c3 dz nn nj ⊢;rw[<-qT.out] at dC sO my rk;rw[<-p7.out] at fW;have eF:=hide (O4 aF c3);have uR:=hide (O4 aF dC);have od:=hide (O4 aF fW);exact z.o):G:=h
def azH (h:G:=by
  go_enter func104,ntmps104;go_wp2_with fail;rw[<-iy];have ab:OD ek ek.drew:=QX.drew;refine wp_region_held (S:=fun X=>OD ek X) PK ?_;change wpAnyH _ _ _ _ _ _ _ _ (World.drew _);exact z.o):G:=h
def aAZ (h:G:=by
  go_enter func268,ntmps268;go_wp2_with fail;rw[<-bu.out,<-vr.out];refine cm lK ?_;rintro e k0 ⟨rfl,i1⟩;rw[i1];clear i1 k0;go_wp2_with fail;refine TI 6 fun ab=>?_;exact z.o):G:=h
def aEQ (h:G:=by
  have ai:=(aER ah ((aY.setCell (Ot c.R 1) (Ol ((i:Int)+1))).alloc (.cells #[OB x.tx,Ol x.kd,Ol x.parts,Ol x.str] 275)).drew d (i+1) ur (by rw[aa];nofun))
  rw[aa] at ai a';exact z.o):G:=h
def aBR (h:G:=by
  have cI:=hide aK;clear aK ga;go_wp2_with fail;obtain⟨b1,bx,bi,bF,bC,cG,b4,bT,eg⟩:=rt4 gg.out cR.out bG ij nE (OC false) (Ol ey) (Ol dL) (OB eK);rw[<-bx];exact z.o):G:=h
def aCt (h:G:=by
  go_simp;refine cm (Om oy _ ab) ?_;rintro e dT ⟨rfl,KH,z7,rA,m'⟩;have g7:=mg.later ab;have fI:=m'.frL (L:=some lb) g7;have m9:=m'.frL (L:=none) g7;exact z.o):G:=h
def aBF (h:G:=by
  go_wp2_with fail;obtain⟨b1,bx,bi,bF,bC,cG,b4,bT⟩:=rt3 dp.out cR.out bG cQ eA (Ol 0) (Ol 0) (PN);rw[<-bx];refine Y9 (v:=.tuple #[vA vU,.iface et ex]) ?_;exact z.o):G:=h
def aES (h:G:=by
  have ai:=(Yt 348 349 (isVal c.l) (aaZ c.l F) Rk SA (ahu c) (atI ah) aET aEU Oz Oz (atJ cT) F.fuel fe.drew d j _ rfl (by rw[aa];nofun) jH.drew)
  exact z.o):G:=h
def aEV (h:G:=by
  go_enter func154,ntmps154;have ai:=(Pq c abJ w i d h Oz);rw[aS] at ai;go_wp2_with fail;refine cm ai ?_;intro e ed al;obtain⟨⟨va,rfl,rfl⟩,ba,ax⟩:=al;exact z.o):G:=h
def aDD (h:G:=by
  refine P5 4 fun K A=>?_;go_simp;refine cm (Om eM _) ?_;rintro e ed ⟨rfl,cr⟩;have ki:OD wz ed:=ab.trans cr;refine A.out _ _ (fun _=>ki) ?_;clear A K;exact z.o):G:=h
def azw (h:G:=by
  obtain⟨g,cap,q,av,hg,aj,az⟩:=(dj.later D).cell k aQ;simp only[Value.slice.injEq] at av;obtain⟨rfl,_,rfl⟩:=av;have h8:(k:Int)<(ao.length:Int):=Ou;exact z.o):G:=h
def aEW (h:G:=by
  have dy:=((Ap.refl c.R jV.heap.size jV).drew).next ax;have kN:Hid (Ap c.R jV.heap.size jV aE/\PW c aE i5 d/\Qb (From jV.heap.size) aE b2 cA):=⟨dy,ba,hB⟩;exact z.o):G:=h
def aCO (h:G:=by
  have hY:=hide (ah.keep fm.out Oz);have l8:=aJ;have y7:=aD;have hx:=(gu.trans ah);obtain⟨v9,lX⟩:=xE bP.1.1;rw[<-lX];have k9:=hide lX;clear aD ah lX;exact z.o):G:=h
def aEX (h:G:=by
  have rN:=(pg.alloc pg.size (.cells #[OB x.tx,Ol x.kd,Ol x.parts,Ol x.str] 275));have q0:=(mc.alloc (.cells #[OB x.tx,Ol x.kd,Ol x.parts,Ol x.str] 275));exact z.o):G:=h
def aEY (h:G:=by
  have dy:=((Ap.refl c.R w2.heap.size w2).drew).next ax;have kN:Hid (Ap c.R w2.heap.size w2 aE/\PW c aE hm d/\Qb (From w2.heap.size) aE lB cA):=⟨dy,ba,jO⟩;exact z.o):G:=h
def aEZ (h:G:=by
  have ai:=(ah.pr 2 Oz Oz (wt.alloc (.cells #[Ol (O9 c.l i).kd,OB (O9 c.l i).tx,Ol (O9 c.l i).n,Ol ((O9 c.l i).pl:Int)] 144)) d i _ rfl (by rw[aa];nofun) CJ)
  exact z.o):G:=h
def aCp (h:G:=by
  have zd:=hide (fun X (aJ:Ms w0 mb af O X σ) (qr:OY O X a d)=>apq aJ aI Ou qr aj ⟨au,aG,false⟩ aB al);rw[fs,<-bm.out] at zd;have lJ:=hide bv;exact z.o):G:=h
def azn (h:G:=by
  have D:=VX aY bb s i kd n tx e aQ h5 aa;rw[Qh aY bb s i aX kd n tx e aQ aa D.1] at h;have pL:=Us Qe s e;have gc:=QL Qe s e D.2;exact z.o):G:=h
def aE0 (h:G:=by
  refine wg 6 (.tuple #[.agg #[OB x.tx,Ol x.kd,Ol x.parts,Ol x.str],OC true]) rfl (Or.inl ⟨by kernel_rfl,fun W a1=>by have hh:=eL.out W a1;go_simp⟩) bM ?_
  exact z.o):G:=h
def aE1 (h:G:=by
  obtain⟨iW,_,_,_,_⟩:=node_cells eo.blk;rw[iI.out] at iW;have uf:=lt_of_heap eo.blk;rw[iP] at eo iW uf;have jH:=cP;have kb:=df;clear gP jQ;exact z.o):G:=h
def aDJ (h:G:=by
  rw[da,b0,show w.heap.size+2=((w.alloc (.cells #[Ol au,Ol aG,OC st,.pointer aB] 73)).alloc (.cells #[OC f2,Ol ok,Ol on,OB f1] 67)).heap.size by simp];exact z.o):G:=h
def aCj (h:G:=by
  rintro e ap ⟨⟨kC,rfl,iR⟩,br⟩;obtain⟨va,dD,wJ⟩:=OX iR;subst wJ;have eN:=(el.later br);have cQ:=(cu.trans (Q9.of br (O0 el.lt)));exact z.o):G:=h
def aCe (h:G:=by
  rw[al] at hP;have HP:=hP;have aK:r=none:=by rw[aa];unfold evT;rw[al]
  subst aK;clear aa al;go_enter func321,ntmps321;go_wp2_with fail;refine cm HP ?_;exact z.o):G:=h
def aAo (h:G:=by
  obtain⟨ho,E8⟩:=hget 0 Oz;obtain⟨gW,bH⟩:=hget 1 Oz;obtain⟨gC,i6⟩:=hget 2 Oz;obtain⟨kC,w3⟩:=hget 3 Oz;obtain⟨uG,E9⟩:=hget 4 Oz;exact z.o):G:=h
def aE2 (h:G:=by
  intro e w1 al;obtain⟨⟨v1,rfl,gL⟩,ba,ax⟩:=al;have ew:=(e1.next ax);have eh:=(KV.mono gL.1 e1.size);clear h;obtain⟨va,dD,rfl⟩:=eh.shape;exact z.o):G:=h
def aBX (h:G:=by
  go_wp2_with fail;obtain⟨b1,bx,bi,bF,bC,cG,b4,bT,eg⟩:=rt4 dV.out cR.out bG (O5.up (L:=L) cY) ha (OC false) (Ol 0) (Ol 0) (PN);rw[<-bx];exact z.o):G:=h
def azZ (h:G:=by
  unfold SI at h;obtain⟨_,i0,h0,h⟩:=binds h;obtain⟨b,a7,h1,h⟩:=binds h;obtain⟨c,i2,U,h⟩:=binds h;obtain⟨f,i3,aw,h⟩:=binds h;exact z.o):G:=h
def aE3 (h:G:=by
  have tW:=Dw.later hbel;obtain⟨t,fr,hg⟩:=tW.hw;have gi:=afq aY s k w2 ac E tW.lw t fr hg;rw[dj.out] at gi;refine cm gi ?_;clear hg;exact z.o):G:=h
def aAl (h:G:=by
  have db:∀ j,ap.cell? (Ot g j)=wr.cell? (Ot g j):=fun j=>by
   rw[cell_below f' (a:=(Ot g j)) (by show g<_;omega),World.cell?_alloc_past _ _ _ dI]
  exact z.o):G:=h
def aE4 (h:G:=by
  have tW:=Dw.later tg;obtain⟨t,fr,hg⟩:=tW.hg;have gi:=afr bb s k bA ac E tW.lg tW.zg t fr hg;rw[dj.out] at gi;refine cm gi ?_;exact z.o):G:=h
def aDq (h:G:=by
  unfold OT;have E:k<s.data.toList.length:=by simpa using h
  have e:s.data.toList.drop k=s[k]::s.data.toList.drop (k+1):=List.drop_eq_getElem_cons E;exact z.o):G:=h
def az5 (h:G:=by
  have aj:wr.cell? (Ot g k)=some (Oo q):=by rw[hbel.cell (p:=(Ot g k)) hg];exact gi
  have h8:(k:Int)<(ao.length:Int):=Ou;have dd:=hbel.size;exact z.o):G:=h
def aB7 (h:G:=by
  rintro e dT ⟨⟨BW,rfl,dm⟩,fR⟩;obtain⟨va,dD,JR⟩:=OX dm;subst JR;obtain⟨l,wi⟩:=xE (P6 bl.2);rw[<-wi] at dm yj gg ⊢;exact z.o):G:=h
def aC1 (h:G:=by
  refine TI 16 fun ab=>?_;refine up 0 q 0 ab ?_;refine up 1 bf 0 ab ?_;refine uk 2 (b8.out.1) ab ?_;refine up 3 bf 2 ab ?_;refine uk 4 (b8.out.2.2.1) ab ?_;exact z.o):G:=h
def aE5 (h:G:=by
  go_simp;refine A _ _ ?_;clear A K;refine QV 8 fun K A=>?_;have z:=Oq (∀{G}(h:G:=by
  rintro e BX ⟨rfl,rfl⟩;refine A _ _ ?_;clear A K;refine QV 9 fun K A=>?_;exact aym),G);exact aye):G:=h
def aE6 (h:G:=by
  go_simp;refine A _ _ ?_;clear A K;refine QV 9 fun K A=>?_;have z:=Oq (∀{G}(h:G:=by
  refine QV 10 fun K A=>?_;exact ayh),G);exact ayb):G:=h
def awD (h:G:=by
  rw[<-bx];refine WA (v:=.tuple #[vA v9,ev]) ?_;exact⟨⟨_,by rw[k9.out],aD.Qw bi Oz⟩,bC,bF⟩):G:=h
def aCJ (h:G:=by
  rintro e aE ⟨⟨ev,rfl,aD⟩,aJ,ah⟩;have dF:=hide (ah.keep dp.out Oz);have fl:=(cQ.trans ah);obtain⟨v9,lX⟩:=xE rs.1.1;rw[<-lX];have k9:=hide lX;clear lX;exact aB9):G:=h
def ayi (h:G:=by
  obtain⟨gx,gy,hI⟩:=(Open.later ck dy bS.out).cell;exact axS):G:=h
def ayj (h:G:=by
  obtain⟨gx,gy,hI⟩:=(Open.later ck dy bS.out).cell;exact ayk):G:=h
def aCL (h:G:=by
  obtain⟨rs,eI⟩:=xE (within σ (evB F v.s ⟨1,0,false⟩))
  have a1:=fun X (ak:Mx w0 mb af O aW aC aA aM X σ) (bQ:X.heap[dq]? = some (O1 #[Oo mb] 62)) (kp:X.heap[bf]? = some (O1 #[Ol 1,Ol 0,OC false,Ri] 73)) (iA:X.heap[em]? = some (O1 #[.slice (some (Ot g i7)) dL dP] 311)) (BK:Ux X (.slice (some (Ot g i7)) dL dP) (v::vs))=>acu (es:=es) ak dK auH (caps:=#[OM em 0,OM bf 0,OM dq 0]) (g:=evB F v.s ⟨1,0,false⟩) bY (fun vN Y cw bI dd=>aky ac a8 wa cw (aI.calls _) hN 1 0 false none ⟨by omega,by show (1:Int)<(σ.M.OI.length:Int);omega⟩ (bI _ _ _ bQ Oz) (bI _ _ _ kp Oz) (bI _ _ _ iA Oz) (BK.keep fun b c D=>bI b c 65 D Oz) (bq vN))
  have z:=Oq (∀{G}(h:G:=by
  obtain⟨zT,_⟩:=eJ.hh.at_ 10 _ rfl;obtain⟨tN,_⟩:=eJ.hh.at_ 11 _ rfl;have cp:=bx1 ik.out;obtain⟨aZ,p1,cK,cX,gV,d2⟩:=cells4 om.out;have pd:=gV 0;have BO:=gV 1;have w6:=gV 2;have w7:=gV 3;have di:=eJ.lt;have eZ:=lt_of_heap ik.out;have rR:=hide zT;have yU:=hide tN;have h2:=hide cp;clear gV c0 c1 gH eq hz dI IV AL IW dz JA JB sS zT tN cp;refine TI 9 fun ab=>?_;refine uk 0 h2.out ab ?_;refine up 1 mb 0 ab ?_;refine up 2 mb 13 ab ?_;refine uk 3 yU.out ab ?_;refine uk 4 h2.out ab ?_
  refine up 5 mb 0 ab ?_;refine up 6 mb 12 ab ?_;refine uk 7 rR.out ab ?_;refine uh 8 (.agg #[Ol 1,Ol 0,OC false,Ri]) (ab) ?_;refine P5 9 fun K A=>?_;go_simp;refine ko A ?_;clear A K;refine Sl ?_ _;go_simp;have lU:mb<=bf:=Ou;have kX:=Uw om.out lU (Ol 1) (Ol 0) (OC false) Ri;have A9:=aat om.out (Ol 1) (Ol 0) (OC false) Ri;have hold:∀ b,b<w.heap.size->_:=U6 (w':=w2) dx (Ol 1) (Ol 0) (OC false) Ri
  obtain⟨bA,fJ⟩:=xE ((((w2.setCell (Ot bf 0) (Ol 1)).setCell (Ot bf 1) (Ol 0)).setCell (Ot bf 2) (OC false)).setCell (Ot bf 3) Ri);rw[<-fJ] at kX A9 hold ⊢;obtain⟨ap,ix⟩:=xE bA.drew;have dZ:OD bA ap:=by rw[ix];exact QX.drew
  have gS:=eJ.YC kX Oz;have dp:=hide (stays dZ (kX.rest _ _ _ bj.out Oz));have cQ:=((cu.newT kX hold).trans (O5.of (L:=none) dZ (O0 gS.lt)));have eN:=(gS.later dZ);have rY:=hide (stays dZ (kX.rest _ _ _ ik.out Oz));have xl:=hide (stays dZ (kX.rest _ _ _ nA.out Oz));have m0:=((md.keep fun b c D=>kX.rest b c 65 D Oz).later dZ);have gq:=stays dZ A9;rw[<-ix];have F8:=hide gq;have cp:=bx1 rY.out;have Eg:=lt_of_heap rY.out;clear ix fJ gq A9 hold aZ p1 cK cX pd BO w6 w7 d2 eZ;go_wp2_with fail
  refine cm (Om zN ap eN rY.out F8.out xl.out m0) ?_;exact aCJ),G);exact aCK):G:=h
def aBd (h:G:=by
  have z:=Oq (∀{G}(h:G:=by
  refine uh 10 (OC false) (ki) ?_;have z:=Oq (∀{G}(h:G:=by
  have sL:=gI.kp (Kp.of ki);have cT:=Om p5;have z:=Oq (∀{G}(h:G:=by
  have fj:=hide (fun X (ak:OD ed X)=>Om gY v1 σ1 bW.out X bQ aB (j0.later ak) (jh.kp (Kp.of ak)));rw[<-pN] at fW fj;have p':=hide (cells4 (stays ki eR.out));have wv:=lt_of_heap (stays ki eR.out);have sR:q<ed.heap.size:=by rw[bm.out];exact sL.cells.1
  have sN:=cell_lt fW;have uO:=hide jI;have od:=hide fW;have aK:rs=F.v (Oy d 1) ⟨au,aG,st⟩ σ1:=by rw[bB.out];unfold ab6;rw[bW.out];simp[l5.out,op.out]
  rw[<-aK] at fj;clear cH bU cg dt du dv rl fh cp dG hp hq hr g9 jI fW pN cT aK;go_simp;go_wp2_with fail;refine TI 8 fun ab=>?_;have z:=Oq (∀{G}(h:G:=by
  refine uk 4 uO.out ab ?_;refine up 5 b5 1 ab ?_;refine uk 6 od.out ab ?_;refine uk4 7 p'.out ab ?_;refine P5 8 fun K A=>?_;go_simp;refine cm (Om fj _ ab) ?_;rintro e aE ⟨⟨ev,rfl,aD⟩,aJ,ah⟩;refine ko A ?_;clear A K;have jL:=(O5.of (L:=none) ab (O0 oV)).trans ah;have dF:=hide (jL.keep kL.out Oz);have fl:=(mW.trans jL);obtain⟨v9,k9⟩:=xH rs.1.1;rw[<-k9.out];obtain⟨ho,gW,gC,j8,j9,j',ka⟩:=O7 dF.out;refine uz 9 (vA v9) ?_;refine uz 10 ev ?_;have z:=Oq (∀{G}(h:G:=by
  go_simp;exact ayl),G);exact apj),G);exact Ws),G);exact awV),G);exact aDC),G);exact aDD):G:=h
def aCu (h:G:=by
  refine A.out _ _ (fun _=>sE) ?_;clear A K;have tU:O5 (some lb) mb ch dT:=(O5.of cr (O0 rr)).trans fI;have pF:Ms w0 mb af O dT s':=⟨_,_,_,_,rA⟩;have ue:Kp ch dT:=fun b c e D aq=>m'.kp g7 b c e (Kp.of cr b c e D aq) aq;have tV:OV dT (some lb) (some vU):=m9.keep (stays cr xr) Oz;have A1:=rA.lt;have J2:dT.heap[ch.heap.size]? = some (O1 #[OC false,Ol 0,Ol 0,PN] 67):=m9.keep (OA ch.drew _) Oz;refine P5 9 fun K A=>?_;go_simp;refine cm (Om fj _ (pF) ue (tV)) ?_;rintro e aE ⟨⟨ev,rfl,aD⟩,g4,gz,g3⟩
  refine ko A ?_;clear A K;have fp:aE.heap[ch.heap.size]? = some (O1 #[OC false,Ol 0,Ol 0,PN] 67):=gz.Rt tV J2 Oz Oz;have z:=Oq (∀{G}(h:G:=by
  have ci:=SB.early (w2:=ch) (o:=bH) fp O6 (O0 rr) aD g4 (tU.trans gz) g3
  generalize (((aE.setCell (Ot ch.heap.size 0) (OC bH.ret)).setCell (Ot ch.heap.size 1) (Ol bH.v.k)).setCell (Ot ch.heap.size 2) (Ol bH.v.n)).setCell (Ot ch.heap.size 3) (OB bH.v.s)=wz at ci ⊢
  generalize ch.heap.size=vb at ci ⊢
  exact dJ wz vb ev ci),G);exact aEB):G:=h
def aE7 (h:G:=by
  have z:=Oq (∀{G}(h:G:=by
  refine wr2 4 7 (fun K A=>?_) fun K A=>?_
  ·go_simp;refine A _ _ ?_;clear A K;refine QV 7 fun K A=>?_;exact aE5
  ·go_simp;refine A _ _ ?_;clear A K;refine wr2 4 8 (fun K A=>?_) fun K A=>?_
   ·exact aE5
   ·have z:=Oq (∀{G}(h:G:=by
    rintro e BX ⟨rfl,rfl⟩;exact ayk),G);exact aye),G);exact atD):G:=h
def avF (h:G:=by
  have z:=Oq (∀{G}(h:G:=by
  have ai:=(aaY t p s i b ek wl Ou);have h0:=ku.c0;have h1:=ku.c1;have U:=ku.c2
  generalize brE t s=er at ai
  exact anE),G);exact zsq):G:=h
def aCr (h:G:=by
  go_simp;have cr:OD dT (dT.alloc (.cells #[OC false,Ol 0,Ol 0,PN] 67)):=PO;refine A.out _ _ (fun _=>⟨stays cr sE.1,O4 cr sE.2⟩) ?_;clear A K;refine P5 9 fun K A=>?_;go_simp;refine cm (Om fj _ (pF.later cr) (fun b c e D aq=>Kp.of cr b c e (ue b c e D aq) aq) (tV.later cr)) ?_;rintro e aE ⟨⟨ev,rfl,aD⟩,g4,gz,g3⟩;refine ko A ?_;clear A K;have fp:aE.heap[dT.heap.size]? = some (O1 #[OC false,Ol 0,Ol 0,PN] 67):=gz.Rt (tV.later cr) (OA _ _) Oz Oz;have z:=Oq (∀{G}(h:G:=by
  have ci:=SB.early (w2:=ch) (o:=bH) fp tU.below.size (O0 rr) aD g4 ((tU.trans (O5.of cr (O0 A1))).trans gz) g3
  generalize (((aE.setCell (Ot dT.heap.size 0) (OC bH.ret)).setCell (Ot dT.heap.size 1) (Ol bH.v.k)).setCell (Ot dT.heap.size 2) (Ol bH.v.n)).setCell (Ot dT.heap.size 3) (OB bH.v.s)=wz at ci ⊢
  generalize dT.heap.size=vb at ci ⊢
  exact dJ wz vb ev ci),G);exact aEB):G:=h
def aE8 (h:G:=by
  have z:=Oq (∀{G}(h:G:=by
  have z:=Oq (∀{G}(h:G:=by
  refine wr2 4 8 (fun K A=>?_) fun K A=>?_
  ·go_simp;refine A _ _ ?_;clear A K;refine QV 8 fun K A=>?_;have z:=Oq (∀{G}(h:G:=by
   have dy:=((Ap.refl c.R gX.heap.size gX).drew).next ax;have kN:Hid (Ap c.R gX.heap.size gX aE/\PW c aE hm d/\Qb (From gX.heap.size) aE lB cA):=⟨dy,ba,jO⟩;exact ayi),G);exact ahs
  ·have z:=Oq (∀{G}(h:G:=by
   have dy:=((Ap.refl c.R gX.heap.size gX).drew).next ax;have kN:Hid (Ap c.R gX.heap.size gX aE/\PW c aE hm d/\Qb (From gX.heap.size) aE lB cA):=⟨dy,ba,jO⟩;exact ayj),G);exact ahs),G);exact amI),G);exact aaB):G:=h
def azB (h:G:=by
  have z:=Oq (∀{G}(h:G:=by
  have ai:=(Zx t p s i b ek wl E aj);have h0:=ku.c0;have h1:=ku.c1;have U:=ku.c2
  generalize fnE t s=er at ai
  exact anE),G);exact zsq):G:=h
def aBw (h:G:=by
  refine uk 6 tk.out ab ?_;refine uk4 7 CE.out ab ?_;refine uq2 8 12 (fun K A=>?_) fun K A=>?_
  ·have z:=Oq (∀{G}(h:G:=by
   refine uz 14 ev ?_;refine Sl ?_ _;go_simp;have ci:=VB.late (v:=v1) aD aJ ((O5.of ab (O0 fD)).trans ah);exact axQ),G);exact asz
  ·exact aGV):G:=h
def ayh (h:G:=by
  go_simp;refine A _ _ ?_;clear A K;exact UL (listed':=tf 11 4) PK PK (dJ aE cA kN.out)):G:=h
def awU (h:G:=by
  obtain⟨ly,qX⟩:=xH rs.1.1;rw[<-qX.out];obtain⟨ho,gW,gC,kC,j8,j9,j',xb,ka⟩:=Qx dF.out;refine uz 9 (UY ly) ?_;refine uz 10 ev ?_;have z:=Oq (∀{G}(h:G:=by
  go_simp;exact aDv),G);exact apj):G:=h
def aCw (h:G:=by
  subst aq;have bv:ev=Qp:=uU;subst bv;obtain⟨vl,ia⟩:∃ vl,b3=some vl:=by
   have h:=zi
   cases b3 with
   | none=>exact h.elim
   | some v=>exact⟨v,rfl⟩
  subst ia;have En:wt.heap[lb]? = some (Y7 vl):=zi;obtain⟨hs,ht,hu,_,hv⟩:=cells3 En;clear En;go_wp2_with fail;obtain⟨b1,bx,bi,bF,bC,cG,b4,bT⟩:=rt3 qc.out cR.out bG qQ zn (Ol vl.k) (Ol vl.n) (OB vl.s);rw[<-bx];refine WA (v:=.tuple #[vA vl,Qp]) ?_;rw[y2.out];exact⟨⟨_,rfl,rfl⟩,bC,bF⟩):G:=h
def ayl (h:G:=by
  go_wp2_with fail;obtain⟨b1,bx,bi,bF,bC,cG,b4,bT⟩:=rt3 dF.out cR.out bG fl aJ (Ol v9.k) (Ol v9.n) (OB v9.s);exact awD):G:=h
def aDw (h:G:=by
  go_wp2_with fail;refine cm ai ?_;rintro e Fo ⟨rfl,yi⟩;have iE:=(D.trans (yi.mono D.size))
  cases r with
  | some e=>
   have bY:vE=some e:=by rw[tj.out];exact Om h2 e rfl
   subst bY;unfold Vs;go_wp2;go_ret;exact⟨rfl,dh.trans (iE.mono dh.size)⟩
  | none=>
   unfold Vs;go_wp2
   go_roundw
   case rel=>exact⟨k+1,by omega,by go_num,Om el trivial,iE⟩
   case measure=>simp[intOf];omega):G:=h
def aE9 (h:G:=by
  have z:=Oq (∀{G}(h:G:=by
  refine QV 7 fun K A=>?_;go_simp;refine A _ _ ?_;clear A K;refine QV 8 fun K A=>?_;have z:=Oq (∀{G}(h:G:=by
  rintro e BX ⟨rfl,rfl⟩;exact axS),G);exact aye),G);exact atD):G:=h
def aFa (h:G:=by
  have jF:=(Open.later ck (Ap.of g5) bS.out).ev
  cases aa:Pm c.l Qv bK with
  | out=>
   exact RS
  | bad er p=>
   exact aHa
  | ok dG b'=>
   have ai:=(Pq c Qv gX bK d q2 Oz);have z:=Oq (∀{G}(h:G:=by
   intro e w2 al;obtain⟨⟨v2,rfl,rfl⟩,ba,ax⟩:=al;have ee:=(ph.next ax);exact aDO),G);exact XZ):G:=h
def aFb (h:G:=by
  have ai:=(Pq c tEq dM bK d CK Oz);rw[Gx.out] at ai;go_wp2_with fail;refine cm ai ?_;intro e Fm al;obtain⟨⟨Od,rfl,rfl⟩,ba,ax⟩:=al;have CI:=ba;have yK:=(yL.next ax);replace eh:=(SS eh ax bS.out);clear tP
  cases aa:PD c.l F.vl d (bK+1) with
  | out=>
   exact RS
  | bad er p=>
   exact aG9
  | ok dG b'=>
   exact aGZ):G:=h
def aym (h:G:=by
  go_simp;refine A _ _ ?_;clear A K;exact UL (listed':=tf 10 4) PK PK (dJ aE cA kN.out)):G:=h
def aFc (h:G:=by
  have bN:=Oq (∀{G}(h:G:=by
  rintro bz w2 ⟨rfl,rfl⟩;exact axU),G);exact ztn):G:=h
def aBG (h:G:=by
  refine Sl ?_ _;go_simp;have ci:=VB.early (v:=v1) fp O6 (O0 di) aD aJ ((O5.of (PO.drew) (O0 di)).trans ah)
  generalize ((aE.setCell (Ot w2.heap.size 0) (Ol v1.k)).setCell (Ot w2.heap.size 1) (Ol v1.n)).setCell (Ot w2.heap.size 2) (OB v1.s)=wz at ci ⊢
  generalize w2.heap.size=vb at ci ⊢
  exact dJ wz vb ev ci):G:=h
def axT (h:G:=by
  generalize aE.alloc (.cells #[OC bH.ret,Ol bH.v.k,Ol bH.v.n,OB bH.v.s] 67)=wz at ci ⊢
  generalize aE.heap.size=vb at ci ⊢
  exact dJ wz vb ev ci):G:=h
def aFd (h:G:=by
  have z:=Oq (∀{G}(h:G:=by
  have z:=Oq (∀{G}(h:G:=by
  intro e w2 al;obtain⟨⟨v2,rfl,rfl⟩,ba,ax⟩:=al;have ee:=(jG.next ax);exact aDO),G);exact XZ),G);exact axV):G:=h
def aBD (h:G:=by
  refine Sl ?_ _;go_simp;go_wp2_with fail;obtain⟨b1,bx,bi,bF,bC,cG,b4,bT⟩:=rt3 dF.out cR.out bG fl ve (Ol v9.k) (Ol v9.n) (OB v9.s);rw[<-bx];refine WA (v:=.tuple #[vA v9,ev]) ?_;rw[bM.out];exact⟨⟨_,by rw[k9.out],y6.Qw bi Oz⟩,bC,bF⟩):G:=h
def aDv (h:G:=by
  go_wp2_with fail;obtain⟨b1,bx,bi,bF,bC,cG,b4,bT,eg⟩:=rt4 dF.out cR.out bG fl aJ (OC ly.ret) (Ol ly.v.k) (Ol ly.v.n) (OB ly.v.s);rw[<-bx];refine Vm (v:=.tuple #[UY ly,ev]) ?_;exact⟨⟨_,by rw[qX.out],aD.Qw bi Oz⟩,bC,bF,g3.Uc bi⟩):G:=h
def asD (h:G:=by
  go_wp2_with fail;obtain⟨bP,dm⟩:=xE (Qi false);have h6:=VL false wz;exact awP):G:=h
def axQ (h:G:=by
  generalize aE.alloc (.cells #[Ol v1.k,Ol v1.n,OB v1.s] 65)=wz at ci ⊢
  generalize aE.heap.size=vb at ci ⊢
  exact dJ wz vb ev ci):G:=h
def aCx (h:G:=by
  have cI:=hide aK;clear aK aq;go_wp2_with fail;obtain⟨b1,bx,bi,bF,bC,cG,b4,bT⟩:=rt3 qc.out cR.out bG qQ zn (Ol 0) (Ol 0) (PN);rw[<-bx];refine Y9 (v:=.tuple #[vA vU,.iface et ex]) ?_;rw[cI.out];exact⟨⟨_,rfl,uU.Qw bi Oz⟩,bC,bF⟩):G:=h
def awT (h:G:=by
  obtain⟨et,ex,bv⟩:=aV.er.WT aq ac;subst bv;have aK:rs=(ay,σ1):=by
   rw[bB.out];exact axR
  exact aG8):G:=h
def ato (h:G:=by
  rw[cI.out];exact⟨⟨_,rfl,jp.Qw bi Oz⟩,bC,bF,bS.Uc bi⟩):G:=h
def aDE (h:G:=by
  have cT:k=t.kids.length:=Ou;subst cT;have m6:vE=none:=by
   have h1:=Om fL;rw[List.take_length] at h1;rw[tj.out];exact h1
  subst m6;go_wp2;go_ret;exact⟨rfl,dh.trans (D.mono dh.size)⟩):G:=h
def aDF (h:G:=by
  have h1:=cq;rw[gS];refine⟨h1.os,h1.tape,h1.output,by simpa using h1.size,fun k E=>?_⟩;rw[Below.heap_setCell jk (Ot w.heap.size 2) _ k (by show k≠w.heap.size;omega)]
  exact h1.block k E):G:=h
def aDI (h:G:=by
  obtain⟨aj,aH⟩:=ZV nR;have hT:=hide D;clear D h9;go_wp2_with fail;exact afk (v:=.tuple #[YW,Ol 0,.iface 150 (OM b 0)]) ⟨b,rfl,abr nR rq hT.out _ _ _ _⟩):G:=h
def aBz (h:G:=by
  rw[<-dm];have de:=hide dm;have z:=Oq (∀{G}(h:G:=by
  clear dm;exact aBB),G);exact awN):G:=h
def aA4 (h:G:=by
  rintro e b7 ⟨⟨ev,rfl,aD⟩,e3⟩;have hX:=(jZ.later e3);have gu:=(fF.trans (O5.of (L:=none) e3 (O0 gp)));go_wp2;go_ret;exact⟨⟨_,rfl,aD⟩,hX,gu⟩):G:=h
def aHi (h:G:=by
  rw[Zg s k e i gJ am];have jM:i<e - k:=by rw[extract_size s k e Ou gJ] at am;exact am
  exact afp Ql s (s.size - k) k Ou (k+i) Ou (by rw[dH.out];omega) Ou):G:=h
def aDK (h:G:=by
  rw[<-bx] at d1 bF bC oJ;obtain⟨cG,b4,bT,_,_⟩:=cells3 d1;refine Y9 (v:=.tuple #[vA vU,.iface et ex]) ?_;rw[bM.out];exact⟨⟨_,rfl,oJ⟩,bC,bF⟩):G:=h
def axP (h:G:=by
  intro e w' al;obtain⟨rfl,ax⟩:=al;exact⟨rfl,Qo a'.out.symm (e1.next ax)⟩):G:=h
def awR (h:G:=by
  have b':¬ v2.k=3:=fun h=>w1 bK h;clear w1 uH uI bA;go_wp2_with fail;exact ao6):G:=h
def ayn (h:G:=by
  rintro kg b7 ⟨rfl,e3⟩;have nR:=tg.trans (e3.mono tg.size);exact aDL):G:=h
def axR (h:G:=by
  cases ay with
  | no=>exact absurd rfl aq
  | stop=>rfl
  | mis=>rfl
  | XU x=>rfl):G:=h
def aBK (h:G:=by
  obtain⟨et,ex,bv⟩:=aV.er.WT aq ac;subst bv;have aK:rs=((QW,ay,l),σ1):=by
   rw[bB.out];unfold chQ;rw[bW.out];exact axR
  exact aG6):G:=h
def aBf (h:G:=by
  obtain⟨et,ex,bv⟩:=aV.er.WT aq ac;subst bv;have aK:rs=((v1,ay),σ1):=by
   rw[bB.out];unfold ab6;rw[bW.out];exact axR
  exact aGT):G:=h
def aDQ (h:G:=by
  have bM:=ba;replace jF:=(EV.later jF ax bS.out);have jQ:=Om pq;subst jQ;go_wp2;go_ret;exact Ue a'.out.symm jF.nv bM ew):G:=h
def ayo (h:G:=by
  rw[aa] at k6;simp only[acM] at k6;exact absurd k6.out.symm dw.out):G:=h
def aFe (h:G:=by
  have bj:=hr2;have bu:=aF;rw[<-iK];clear iK;refine A.out _ _ bj (fun _=>?_);clear A K;refine wh 12 (OC false) bj ?_;exact aDN):G:=h
def aCc (h:G:=by
  have dH:=hide aD;clear aD;go_wp2_with fail;refine UU (v:=.tuple #[Ri,.iface 122 (OM tb 0)]) ?_;exact⟨d3,_,rfl,tb,rfl,dH.out⟩):G:=h
def aFf (h:G:=by
  have bj:=hr2;have bu:=aF;rw[<-iK];clear iK;refine A.out _ _ bj (fun _=>?_);clear A K;refine wh 12 (OC true) bj ?_;exact aDN):G:=h
def aCC (h:G:=by
  rw[ay];have gn:(Instr.lookup 80 (.map (some af)) (Oo p) true).run prog w=.ok (.tuple #[Ol (k:Int),OC true]) w:=hl;exact aDV):G:=h
def aCB (h:G:=by
  rw[ay];have gn:(Instr.lookup 80 (.map (some af)) (Oo p) true).run prog w=.ok (.tuple #[Ol 0,OC false]) w:=hl;exact aDV):G:=h
def aDH (h:G:=by
  go_simp;refine cm ai ?_;intro e w' al;obtain⟨rfl,ax⟩:=al;exact⟨rfl,Qo a'.out.symm (ph.drew.next ax)⟩):G:=h
def aDu (h:G:=by
  rw[bB.out];unfold Wq;rw[bW.out]
  cases ay with
  | no=>exact absurd rfl ga
  | stop=>rfl
  | mis=>rfl
  | XU x=>rfl):G:=h
def aAu (h:G:=by
  go_wp2_with fail;refine cm aO ?_;rintro e w' ⟨rfl,rfl⟩;go_wp2_with fail;refine cm eB ?_;exact aAM):G:=h
def Za (h:G:=by
  clear be hr2 dx cL d0 bq bo;go_enter func196,ntmps196;have z:=Oq (∀{G}(h:G:=by
  have z:=Oq (∀{G}(h:G:=by
  have z:=Oq (∀{G}(h:G:=by
  rintro e aE ⟨⟨ev,rfl,aD⟩,aJ,ah⟩;have dF:=hide (ah.keep dV.out Oz);have fl:=(cY.trans ah);obtain⟨v9,k9⟩:=xH rs.1.1;rw[<-k9.out];clear aZ p1 cK cX d2 gB hf;obtain⟨ho,gW,gC,j8,j9,j',ka⟩:=O7 dF.out;exact ayl),G);exact asP),G);exact aBY),G);exact aco):G:=h
def aeQ (h:G:=by
  refine TI 8 fun ab=>?_;have z:=Oq (∀{G}(h:G:=by
  have z:=Oq (∀{G}(h:G:=by
  refine uk4 7 ei.out ab ?_;refine uq2 8 12 (fun K A=>?_) fun K A=>?_
  ·have z:=Oq (∀{G}(h:G:=by
   refine uz 14 ev ?_;refine Sl ?_ _;go_simp;have ci:=VB.late (v:=v1) aD aJ ((O5.of ab (O0 di)).trans ah);exact axQ),G);exact asz
  ·have z:=Oq (∀{G}(h:G:=by
   have fp:aE.heap[w2.heap.size]? = some (O1 #[Ol 0,Ol 0,PN] 65):=ah.keep (OA _ _) Oz;have z:=Oq (∀{G}(h:G:=by
   refine P5 13 fun K A=>?_;go_simp;refine ko A ?_;clear A K;refine uz 14 ev ?_;exact aBG),G);exact asA),G);exact asB),G);exact ao3),G);exact Ws):G:=h
def aCl (h:G:=by
  refine cm (Om ck aY pu) ?_;rintro e ap ⟨rfl,s3,fc,cS⟩;have fI:=cS.frL (L:=none) pu;have cQ:=(xk.trans fI);have fM:=hide (fI.keep qb.out Oz);have dp:=hide (fI.keep fO.out Oz);have jE:Kp w2 ap:=fun b c e D aq=>cS.kp pu b c e (pm b c e D aq) aq;obtain⟨aZ,p1,cK,cX,gV,d2⟩:=cells4 fM.out;have pd:=gV 0;have BO:=gV 1;have w7:=gV 3;clear gV;go_wp2_with fail;have lU:mb<=bf:=Ou;have lm:=Wu (j:=0) fM.out lU (Ol dS);have lk:=YE fM.out (Ol dS);have Bq:=Wu (j:=1) lk lU (Ol dS)
  have A':=asY lk (Ol dS);obtain⟨i',lu⟩:=xE ((ap.setCell (Ot bf 0) (Ol dS)).setCell (Ot bf 1) (Ol dS));have EN:i'.heap.size=ap.heap.size:=by rw[lu];simp
  have k':=((fc.YC lm Oz).YC Bq Oz);have ij:O5 none mb w ((ap.setCell (Ot bf 0) (Ol dS)).setCell (Ot bf 1) (Ol dS)):=(cQ.newT lm (fun b D=>heap_setCell_other _ _ _ _ (show b≠bf by omega))).newT Bq (fun b D=>heap_setCell_other _ _ _ _ (show b≠bf by omega));have gg:Hid (i'.heap[aU]? = some (O1 #[Ol 0,Ol 0,PN] 65)):=by show _=_;rw[lu,heap_setCell_other _ _ _ _ (Ne.symm d0),heap_setCell_other _ _ _ _ (Ne.symm d0)];exact Om dp
  have kH:Kp w2 ((ap.setCell (Ot bf 0) (Ol dS)).setCell (Ot bf 1) (Ol dS)):=fun b c e D aq=>Bq.rest b c e (lm.rest b c e (jE b c e D aq) (by rcases aq with rfl|rfl <;> decide)) (by rcases aq with rfl|rfl <;> decide);rw[<-lu] at k' ij kH A' ⊢;have iG:=hide A';rw[<-EN];clear lk A' lu EN lU;have z:=Oq (∀{G}(h:G:=by
  clear hi g6 AZ qy Bi hsz5 h9 aZ p1 cK cX pd BO w7 d2;have qq:=k1.kp nC;obtain⟨cV,dP,c3,hrow⟩:=qq.ar;obtain⟨gt,he⟩:=xE d.2.kids.length;rw[<-he] at c3 hrow;rw[<-bm.out] at c3;obtain⟨zp,o7⟩:=xE ((OO d ⟨dS,dS,true⟩ fK).1);obtain⟨s',qF⟩:=xE ((OO d ⟨dS,dS,true⟩ fK).2);have oy:=hide (fun X (ak:OD ch X)=>ahc (mg.later ak) nN Ou (qq.kp (Kp.of ak)) aj U ⟨dS,dS,true⟩ (some (Ot lb 0)) Jp);rw[<-o7,<-qF,<-bm.out] at oy
  rcases eI:Q8 F zp (P9 d) (some vU) s' with ⟨⟨bH,ay,b3⟩,mN⟩
  have fj:=hide (fun X (aJ:Ms w0 mb af O X s') (E:Kp ch X) (hl:OV X (some lb) (some vU))=>Om ai X (.slice cV gt dP) lb ⟨dS,dS,true⟩ fK Es jp.out (by rw[<-qF];exact aJ) (hrow.kp E) (Uo.kp E _ _ qq.ndl) hl)
  have z:=Oq (∀{G}(h:G:=by
  have nj:∃ c,ch.heap[q]? = some (O1 c 40):=by
   have h1:=qq.at_;rw[bm.out]
   cases a with
   | mk p kd tx n ks=>
    rw[RV] at h1;obtain⟨_,_,⟨v,D,_⟩,_⟩:=h1;exact⟨_,D⟩
  have iH:=hide nj;clear c3 he eI nj o7 qF;have c':ch.drew.heap[bf]? = some (O1 #[Ol dS,Ol dS,OC true,OM lb 0] 73)/\ch.drew.cell? (Ot q 3)=some (.slice cV gt dP):=⟨stays (Below.refl ch.heap.size ch).drew l9.out,O4 (Below.refl ch.heap.size ch).drew eF.out⟩;refine VN (H:=fun wz vb ev=>SB w0 mb af O es (some lb) ch bH ay b3 mN wz vb ev) (G:=?GG) (fun dJ=>?ways) ?rest
  case ways=>
   have ab:OD ch ch.drew:=QX.drew;refine QE 9 (fun X=>X.heap[bf]? = some (O1 #[Ol dS,Ol dS,OC true,OM lb 0] 73)/\X.cell? (Ot q 3)=some (.slice cV gt dP)) PK ?_;refine up 0 mb 0 c' ?_;refine up 1 q 0 c' ?_;refine up 2 q 0 c' ?_;refine up 3 q 3 c' ?_;refine uc 4 (.slice cV gt dP) rfl (Or.inl ⟨by kernel_rfl,fun X ak=>by have h0:=ak.2;go_simp⟩) (c') ?_
   refine up 5 mb 0 c' ?_;refine up 6 q 0 c' ?_;refine uc 7 (.agg #[Ol dS,Ol dS,OC true,OM lb 0]) rfl (Or.inl ⟨by kernel_rfl,fun X ak=>by have h0:=(cells4 ak.1).1;have h1:=(cells4 ak.1).2.1;have U:=(cells4 ak.1).2.2.1;have aw:=(cells4 ak.1).2.2.2.1;go_simp⟩) (c') ?_
   refine uq2 8 13 (fun K A=>?_) fun K A=>?_
   ·have z:=Oq (∀{G}(h:G:=by
    have sE:dT.heap[bf]? = some (O1 #[Ol dS,Ol dS,OC true,OM lb 0] 73)/\dT.cell? (Ot q 3)=some (.slice cV gt dP):=⟨m9.keep (stays ab l9.out) Oz,by
     obtain⟨c,D⟩:=Om iH;exact(m'.kp g7).XQ (O4 ab eF.out) ⟨c,stays ab D⟩⟩
    have z:=Oq (∀{G}(h:G:=by
    refine uq2 9 13 (fun K A=>?_) fun K A=>?_
    ·have z:=Oq (∀{G}(h:G:=by
     have ci:=SB.late (w2:=ch) (o:=bH) aD g4 (tU.trans gz) g3;exact axT),G);exact aCq
    ·exact aCr),G);exact aCs),G);exact aCt
   ·go_simp;have cr:OD ch (ch.drew.alloc (.cells #[OC false,Ol 0,Ol 0,PN] 67)):=QX.drew.alloc O8 _;have ki:(ch.drew.alloc (.cells #[OC false,Ol 0,Ol 0,PN] 67)).heap[bf]? = some (O1 #[Ol dS,Ol dS,OC true,OM lb 0] 73)/\(ch.drew.alloc (.cells #[OC false,Ol 0,Ol 0,PN] 67)).cell? (Ot q 3)=some (.slice cV gt dP):=⟨stays cr l9.out,O4 cr eF.out⟩;have z:=Oq (∀{G}(h:G:=by
    have sE:dT.heap[bf]? = some (O1 #[Ol dS,Ol dS,OC true,OM lb 0] 73)/\dT.cell? (Ot q 3)=some (.slice cV gt dP):=⟨m9.keep (stays cr l9.out) Oz,by
     obtain⟨c,D⟩:=Om iH;exact(m'.kp g7).XQ (O4 cr eF.out) ⟨c,stays cr D⟩⟩
    exact aCu),G);exact aCv
  rintro wt ob ev cJ;have qc:=hide (cJ.fr.rest aU _ _ g'.out Oz (fun e=>Em (by cases e;rfl)))
  have qQ:O5 none mb w wt:=O5.down (ke.up.trans cJ.fr) Ej;have zn:=cJ.ms;have uU:=cJ.er;have zi:=cJ.la;obtain⟨cH,bU,cg,dt,du,dv,rl⟩:=O7 qc.out;clear c'
  by_cases aq:ay=.no
  ·exact aCw
  ·obtain⟨et,ex,bv⟩:=uU.WT aq ac;subst bv;have aK:bP=((vU,ay),mN):=by
    rw[y2.out];exact axR
   exact aCx),G);exact aCy),G);exact aCz):G:=h
def ash (h:G:=by
  rw[bu.out,b0,show w.heap.size+1=(w.alloc (.cells #[Ol au,Ol aG,OC st,.pointer aB] 73)).heap.size by simp];exact OA _ _):G:=h
def ayp (h:G:=by
  have z:=Oq (∀{G}(h:G:=by
  refine wt 5 (OB s) ?_;refine wt 6 (Pj c) ?_;refine wr2 4 7 (fun K A=>?_) fun K A=>?_
  ·go_simp;refine A _ _ ?_;clear A K;refine QV 7 fun K A=>?_;go_simp;refine cm gf ?_;have z:=Oq (∀{G}(h:G:=by
   have z:=Oq (∀{G}(h:G:=by
   have z:=Oq (∀{G}(h:G:=by
   refine QV 8 fun K A=>?_;go_simp;refine A _ _ ?_;clear A K;refine QV 9 fun K A=>?_;have z:=Oq (∀{G}(h:G:=by
   refine QV 10 fun K A=>?_;go_simp;refine A _ _ ?_;clear A K;refine UL (listed':=tf 11 4) PK rfl ?_;exact dJ aE cA kN.out),G);exact ayb),G);exact atD),G);exact aEW),G);exact amK
  ·go_simp;refine cm gf ?_;have z:=Oq (∀{G}(h:G:=by
   have z:=Oq (∀{G}(h:G:=by
   have z:=Oq (∀{G}(h:G:=by
   refine wr2 4 8 (fun K A=>?_) fun K A=>?_
   ·go_simp;refine A _ _ ?_;clear A K;refine QV 8 fun K A=>?_;exact aE6
   ·go_simp;refine A _ _ ?_;clear A K;refine wr2 4 9 (fun K A=>?_) fun K A=>?_
    ·exact aE6
    ·have z:=Oq (∀{G}(h:G:=by
     refine wr2 4 10 (fun K A=>?_) fun K A=>?_
     ·go_simp;refine A _ _ ?_;clear A K;refine QV 10 fun K A=>?_;exact ayh
     ·go_simp;refine A _ _ ?_;clear A K;refine QV 4 fun K A=>?_;exact ayh),G);exact ayb),G);exact atD),G);exact aEW),G);exact amK),G);exact aaB):G:=h
def aCi (h:G:=by
  have fl:=(Om nz i' (RV.kp kH _ cU.at_));go_wp2_with fail;refine cm fl ?_;rintro e dT ⟨⟨Fi,rfl,wA⟩,fR⟩;obtain⟨d6,mo,Bv⟩:=wA.form;subst Bv;have qg:=(k'.later fR);have ny:=(ij.trans (Q9.of fR (O0 mz)));have tt:=hide (stays fR iG.out);have k7:=hide (stays fR gg.out);have Cz:=(Uo.kp (fun b c e D aq=>Kp.of fR b c e (kH b c e D aq) aq) _ _ ft);have qc:=wA;go_wp2_with fail
  go_loopw [41] (fun i wr=>∃ (k:Nat) (qh:OG),k<=c9.length/\i=Ol k/\Mx w0 mb af O aW aC s3 qh wr (evF ⟨dS,aG,st⟩ a6 k fK)/\Q9 mb aA aM s3 qh w wr/\wr.heap[bf]? = some (O1 #[Ol dS,Ol aG,OC st,.pointer aB] 73)/\wr.heap[aU]? = some (O1 #[Ol 0,Ol 0,OC false,Ri] 73)/\Kp dT wr) (fun i _=>c9.length - (intOf i).toNat)
  case atStart=>exact⟨0,_,Nat.zero_le _,rfl,qg,ny,tt.out,k7.out,fun _ _ _ h _=>h⟩
  case round=>
   obtain⟨k,qh,E,rfl,jy,gb,ng,kW,oU⟩:=hrel;have z:=Oq (∀{G}(h:G:=by
   by_cases aQ:k<c9.length
   ·obtain⟨g,cap,av,hg,eS,az⟩:=(qc.kp jq).cell k aQ;have z:=Oq (∀{G}(h:G:=by
    obtain⟨dE,gT⟩:=xE (evF ⟨dS,aG,st⟩ a6 k fK);rw[<-gT] at eX;have jT:Sz (N+5000+2 * k) dE:=by rw[gT];exact Sz.evF _ a6 k nN Ou
    have eO:=Om gY a6[k] (List.getElem_mem _);have hV:=hide (fun X (ak:OD wr X)=>ZI (eX.later ak) (oP.kp (Kp.of ak)) eO jT Ou ⟨dS,aG,st⟩ aB);obtain⟨bP,dm⟩:=xE ((mkFun a6[k] ⟨dS,aG,st⟩ dE).1);obtain⟨rK,qE⟩:=xE ((mkFun a6[k] ⟨dS,aG,st⟩ dE).2);rw[<-dm,<-qE] at hV;have wR:Sz (N+5000+2 * k+1) rK:=by rw[qE];exact jT.mkFun _ _
    have vt:=hide (fun X eH (ak:Mx w0 mb af O aW aC s3 eH X rK)=>asW ak wR Ou aG x bP);have kg:({ rK with M:=(rK.M.write aG x bP).2 }:St)=evF ⟨dS,aG,st⟩ a6 (k+1) fK:=by
     rw[ahb _ a6 k fK bo,<-gT];unfold fwF;rw[<-qE,<-dm,<-ae]
    rw[kg] at vt;obtain⟨hn,nk⟩:=xE ((c9[k]).p);rw[<-nk] at eS dz c1 hV;have jK:∃ c,wr.heap[hn]? = some (O1 c 40):=by
     have h1:=oP.at_;rw[nk]
     cases aq:c9[k] with
     | mk p kd tx n ks=>
      rw[aq,RV] at h1;obtain⟨_,_,⟨v,D,_⟩,_⟩:=h1;exact⟨_,D⟩
    have yQ:=hide jK;have fi:=hide c1;clear ae gT eO dm qE kg nk jK c1;go_wp2_with fail;clear eS hg;have Ez:wr.drew.heap[bf]? = some (O1 #[Ol dS,Ol aG,OC st,.pointer aB] 73):=stays (Below.refl wr.heap.size wr).drew fN.out;have c':wr.drew.heap[bf]? = some (O1 #[Ol dS,Ol aG,OC st,.pointer aB] 73)/\wr.drew.cell? (Ot hn 1)=some (OB x):=⟨Ez,O4 (Below.refl wr.heap.size wr).drew fi.out⟩;have ab:OD wr wr.drew:=QX.drew
    refine QE 13 (fun X=>X.heap[bf]? = some (O1 #[Ol dS,Ol aG,OC st,.pointer aB] 73)/\X.cell? (Ot hn 1)=some (OB x)) PK ?_;refine up 0 mb 0 c' ?_;refine up 1 mb 0 c' ?_;refine up 2 mb 0 c' ?_;refine up 3 bf 1 c' ?_;refine uc 4 (Ol aG) rfl (Or.inl ⟨by kernel_rfl,fun X ak=>by have h0:=(cells4 ak.1).2.1;go_simp⟩) (c') ?_
    refine up 5 hn 0 c' ?_;refine up 6 hn 0 c' ?_;refine up 7 hn 1 c' ?_;refine uc 8 (OB x) rfl (Or.inl ⟨by kernel_rfl,fun X ak=>by have h0:=ak.2;go_simp⟩) (c') ?_
    refine up 9 mb 0 c' ?_;refine up 10 hn 0 c' ?_;refine uc 11 (.agg #[Ol dS,Ol aG,OC st,.pointer aB]) rfl (Or.inl ⟨by kernel_rfl,fun X ak=>by have h0:=(cells4 ak.1).1;have h1:=(cells4 ak.1).2.1;have U:=(cells4 ak.1).2.2.1;have aw:=(cells4 ak.1).2.2.2.1;go_simp⟩) (c') ?_
    refine P5 12 fun K A=>?_;go_simp;refine cm (Om hV _ ab) ?_;rintro e b1 ⟨rfl,vJ,j6,bi⟩;have g7:=eX.later ab;have pO:=(bi.frL (L:=none) g7).keep c'.1 Oz;have sJ:b1.cell? (Ot hn 1)=some (OB x):=by
     obtain⟨c,D⟩:=Om yQ;exact(bi.kp g7).XQ c'.2 ⟨c,stays ab D⟩
    refine A.out _ _ (fun _=>⟨pO,sJ⟩) ?_;clear A K;have A2:=j6.lt;have mh:=j6;have mU:=((kF.trans (Q9.of ab (O0 h'))).trans bi);have r6:=hide pO;have ou:=hide ((bi.frL (L:=none) g7).keep (stays ab bW.out) Oz);have p6:Kp dT b1:=fun b c e D aq=>bi.kp g7 b c e (Kp.of ab b c e (jq b c e D aq) aq) aq;clear pO sJ;refine P5 13 fun K A=>?_;go_simp;refine cm (Om vt _ _ mh) ?_;rintro e jU ⟨rfl,pS,kk⟩;refine ko A ?_;clear A K;have zO:=pS;have rX:=(mU.Xo kk);have vh:=hide (kk.rest _ _ _ r6.out Oz)
    have r':=hide (kk.rest _ _ _ ou.out Oz);have zf:Kp dT jU:=fun b c e D aq=>Py.kp kk b c e (p6 b c e D aq) aq;clear c' Ez;refine Sl ?_ _;go_simp;go_wp2_with fail;exact⟨⟨k+1,vJ,by omega,by go_num,zO,rX,vh.out,r'.out,zf⟩,by simp[intOf];omega⟩),G);exact aC6
   ·have z:=Oq (∀{G}(h:G:=by
    obtain⟨b1,bx⟩:=xE ((((wr.setCell (Ot aU 0) (Ol dS)).setCell (Ot aU 1) (Ol aG)).setCell (Ot aU 2) (OC st)).setCell (Ot aU 3) (.pointer aB));rw[<-bx];have d1:=aat bW.out (Ol dS) (Ol aG) (OC st) (.pointer aB);have gK:mb<=aU:=by have:=Om cR;omega
    have bi:=Uw bW.out gK (Ol dS) (Ol aG) (OC st) (.pointer aB);have bF:=kF.new bi (U6 cR.out _ _ _ _);have bC:=eX.YC bi Oz;rw[<-bx] at d1 bF bC;obtain⟨cG,b4,bT,eg,_,_⟩:=cells4 d1;refine Vm (v:=PU ⟨dS,aG,st⟩ aB) ?_;rw[Cd.out];rw[hell] at bC;exact⟨rfl,_,_,bC,bF⟩),G);exact aC7),G);exact axk):G:=h
def asJ (h:G:=by
  refine TI 8 fun ab=>?_;have z:=Oq (∀{G}(h:G:=by
  have z:=Oq (∀{G}(h:G:=by
  refine uk4 7 ei.out ab ?_;refine uq2 8 12 (fun K A=>?_) fun K A=>?_
  ·go_simp;refine cm (Om bJ _ ab) ?_;rintro e aE ⟨⟨ev,rfl,aD⟩,aJ,ah,g3⟩;refine ko A ?_;clear A K;refine uz 9 (.tuple #[(UY bH),ev]) ?_;refine uz 10 (UY bH) ?_;have bN:=Oq (∀{G}(h:G:=by
   have z:=Oq (∀{G}(h:G:=by
   have ci:=SB.late (o:=bH) aD aJ ((O5.of ab (O0 di)).trans ah) g3;exact axT),G);exact ai3),G);exact ztk
  ·have bN:=Oq (∀{G}(h:G:=by
   refine cm (Om bJ _ (PO.drew)) ?_;rintro e aE ⟨⟨ev,rfl,aD⟩,aJ,ah,g3⟩;refine ko A ?_;clear A K;have fp:aE.heap[w2.heap.size]? = some (O1 #[OC false,Ol 0,Ol 0,PN] 67):=ah.Rt (eL.later (PO.drew)) (OA _ _) Oz Oz;obtain⟨z0,mJ,z2,z3,mK,mL,mM,s9,zl⟩:=Qx (fp);refine uz 9 (.tuple #[(UY bH),ev]) ?_;refine uz 10 (UY bH) ?_;refine uz 11 ev ?_;have z:=Oq (∀{G}(h:G:=by
   have ci:=SB.early (o:=bH) fp O6 (O0 di) aD aJ ((O5.of (PO.drew) (O0 di)).trans ah) g3
   generalize (((aE.setCell (Ot w2.heap.size 0) (OC bH.ret)).setCell (Ot w2.heap.size 1) (Ol bH.v.k)).setCell (Ot w2.heap.size 2) (Ol bH.v.n)).setCell (Ot w2.heap.size 3) (OB bH.v.s)=wz at ci ⊢
   generalize w2.heap.size=vb at ci ⊢
   exact dJ wz vb ev ci),G);exact ai3),G);exact zts),G);exact ao3),G);exact Ws):G:=h
def aB9 (h:G:=by
  obtain⟨ho,gW,gC,j8,j9,j',ka⟩:=O7 dF.out;exact ayl):G:=h
def apf (h:G:=by
  clear be hr2 dx cL d0 bq bo;go_enter func53,ntmps53;have z:=Oq (∀{G}(h:G:=by
  have eR:=hide (hM.keep b8.out Oz);have z:=Oq (∀{G}(h:G:=by
  have bJ:=(Om ai wz ha gI f6);rw[<-bm.out] at hf gB bJ;rw[<-kI.out] at bJ;have z:=Oq (∀{G}(h:G:=by
  rintro e aE ⟨⟨ev,rfl,aD⟩,aJ,ah,g3⟩;have dF:=hide (ah.Rt f6 dV.out Oz Oz);have fl:=(cY.up.trans ah);clear aZ p1 cK cX d2 gB hf;obtain⟨ho,gW,gC,kC,j8,j9,j',xb,ka⟩:=Qx dF.out;go_wp2_with fail;obtain⟨b1,bx,bi,bF,bC,cG,b4,bT,eg⟩:=rt4 dF.out cR.out bG fl aJ (OC false) (Ol 0) (Ol 0) (PN);rw[<-bx];refine agX (v:=.tuple #[UY QW,ev]) ?_;exact⟨⟨_,rfl,aD.Qw bi Oz⟩,bC,bF,g3.Uc bi⟩),G);exact asP),G);exact apg),G);exact aco):G:=h
def aB6 (h:G:=by
  have de:=dm;have A1:=qg.lt;clear wi;go_wp2_with fail
  go_loopw [70] (fun i wr=>∃ k:Nat,k<=l.length/\i=Ol k/\Mx w0 mb af O aW aC aA aM wr (Zb au l k fK)/\Q9 mb aA aM aA aM w wr/\wr.heap[bf]? = some (O1 #[Ol au,Ol aG,OC st,.pointer aB] 73)/\Rx i'.heap.size wr (.slice va l.length dD) l/\Kp ap wr) (fun i _=>l.length - (intOf i).toNat)
  case atStart=>exact⟨0,Nat.zero_le _,rfl,qg,ny,tt.out,de,xp⟩
  case round=>
   obtain⟨k,cM,rfl,jy,gb,ng,kx,oU⟩:=hrel;have eX:=jy;have kF:=gb;have fN:=hide ng;have md:=kx;have jq:=oU;have h':=jy.lt;clear ng
   by_cases aQ:k<l.length
   ·obtain⟨g,cap,av,hg,_,aj⟩:=UR md k aQ;have z:=Oq (∀{G}(h:G:=by
    obtain⟨x,ae⟩:=xE (l[k]);rw[<-ae] at aj;have dQ:=hide ae;obtain⟨dE,gT⟩:=xE (Zb au l k fK);rw[<-gT] at eX;have jT:Sz (N+1600+k) dE:=by rw[gT];exact Sz.Zb au l k nN Ou
    have a':=hide (fun X (ak:Mx w0 mb af O aW aC aA aM X dE)=>Xl ak jT Ou au x 0 vU);have nM:=hide gT;have ei:=hide (cells4 fN.out);have Ju:bf<wr.heap.size:=lt_of_heap fN.out;clear ae gT;go_wp2_with fail;clear aj;refine TI 7 fun ab=>?_;have z:=Oq (∀{G}(h:G:=by
    refine up 3 bf 0 ab ?_;refine uk 4 (ei.out.1) ab ?_;refine uh 5 (OB x) (ab) ?_;refine uh 6 (.agg #[Ol 0,Ol 0,PN]) (ab) ?_;refine P5 7 fun K A=>?_;go_simp;refine cm (Om a' _ (eX.later ab)) ?_;rintro e b1 ⟨rfl,j6,bi⟩;refine ko A ?_;clear A K;have mh:=j6;have mU:=((kF.trans (Q9.of ab (O0 h'))).Xo bi);have r6:=hide (bi.rest _ _ _ (stays ab fN.out) Oz);have vp:=(OW (Pe md ab) bi Oz);have p6:Kp ap b1:=fun b c e D aq=>Py.kp bi b c e (Kp.of ab b c e (jq b c e D aq) aq) aq;refine Sl ?_ _;go_simp
    go_wp2_with fail;refine⟨⟨k+1,by omega,by go_num,?_,mU,r6.out,vp,p6⟩,by simp[intOf];omega⟩
    rw[ad1 au l k fK aQ,<-dQ.out,<-nM.out];exact mh),G);exact Un),G);exact alK
   ·have z:=Oq (∀{G}(h:G:=by
    obtain⟨uL,sX⟩:=xE (Zb au l l.length fK);rw[<-sX] at eX gg;have fp:Sz (N+3200) uL:=by rw[sX];exact(Sz.Zb au l l.length nN O6).up Ou
    have lS:=rU.kp jq;have dU:=(afc eX fp lS Ou Ou au);obtain⟨rL,rB⟩:=xE (Qz (Pv bl.2) au uL);rw[<-rB] at dU gg;have o6:Sz (N+5000) rL:=by
     rw[rB];refine(fp.lets (Pv bl.2) au).up ?_;have h1:=List.length_filter_le PE bl.2.kids
     show N+3200+(bl.2.kids.filter PE).length<=_
     omega
    have hV:=hide (fun X (ak:Mx w0 mb af O aW aC aA aM X rL) (qr:OY O X bQ bl)=>akG ak o6 qr Ou Ou gY.out ⟨au,aG,st⟩ aB);rw[<-gg.out,<-tw.out] at hV;rw[<-tw.out] at dU;have l6:=lS;obtain⟨aZ,p1,cK,cX,_,d2⟩:=cells4 fN.out;clear sX rB;go_wp2_with fail;refine cm dU ?_;rintro e jU ⟨rfl,pS,kk⟩;have zO:=pS;have rX:=(kF.Xo kk);have vh:=hide (kk.rest _ _ _ fN.out Oz);have FO:=(l6.kp (Py.kp kk));clear aZ p1 cK cX d2;obtain⟨aZ,p1,cK,cX,_,d2⟩:=cells4 vh.out;go_wp2_with fail
    refine cm (Om hV _ zO FO) ?_;rintro e wz ⟨rfl,fz,J0,lj⟩;have oz:=J0;have cY:=(rX.trans lj);clear aZ p1 cK cX d2;go_wp2
    go_end0
    exact⟨rfl,fz,oz,cY⟩),G);exact asV):G:=h
def ao6 (h:G:=by
  refine cm (U5 (es:=es) ea tType) ?_;rintro e gX ⟨⟨ev,rfl,aD⟩,g5⟩;have FU:=aD;have lL:=hide (stays g5 dV.out);have oq:=(jr.later g5);have oi:=(cY.trans (O5.of (L:=none) g5 (O0 ea)));obtain⟨dn,bR,c7,l1,l2,l3,nl⟩:=O7 lL.out;clear cH bU cg dt du dv rl;have z:=Oq (∀{G}(h:G:=by
  have aK:rs=((vU,bad tType),σ1):=Om bM;rw[aK];exact⟨⟨_,rfl,FU.Qw bi Oz⟩,bC,bF⟩),G);exact asl):G:=h
def asN (h:G:=by
  clear be hr2 dx cL d0 bq bo;go_enter func53,ntmps53;have z:=Oq (∀{G}(h:G:=by
  have eR:=hide (hM.keep b8.out Oz);have z:=Oq (∀{G}(h:G:=by
  have bJ:=(Om ai wz ha gI f6);rw[<-bm.out] at hf gB bJ;rw[<-kI.out] at bJ;have z:=Oq (∀{G}(h:G:=by
  rintro e aE ⟨⟨ev,rfl,aD⟩,aJ,ah,g3⟩;have dF:=hide (ah.Rt f6 dV.out Oz Oz);have fl:=(cY.up.trans ah);obtain⟨ly,qX⟩:=xH rs.1.1;rw[<-qX.out];clear aZ p1 cK cX d2 gB hf;obtain⟨ho,gW,gC,kC,j8,j9,j',xb,ka⟩:=Qx dF.out;exact aDv),G);exact asP),G);exact apg),G);exact aco):G:=h
def ayk (h:G:=by
  refine A _ _ ?_;clear A K;refine wr2 4 9 (fun K A=>?_) fun K A=>?_
  ·go_simp;refine A _ _ ?_;clear A K;refine QV 9 fun K A=>?_;exact aym
  ·go_simp;refine A _ _ ?_;clear A K;refine QV 4 fun K A=>?_;exact aym):G:=h
def azM (h:G:=by
  have z:=Oq (∀{G}(h:G:=by
  obtain⟨oa,ls⟩:=xE (w.alloc (.cells #[OC true,OC true,OC b] 112));have hT:OD w oa:=by rw[ls];exact PO
  have kK:PlB w.heap.size true true b oa:=by rw[ls];exact OA _ _
  have z:=Oq (∀{G}(h:G:=by
  have n7:PlB w.heap.size true true b dG:=(eU.block w.heap.size (lt_of_heap kK)).trans kK;have cq:=(hT.trans (eU.mono hT.size));clear ls
  cases er with
  | some e=>
   unfold Vs;go_wp2;go_ret;exact⟨rfl,cq⟩
  | none=>
   have z:=Oq (∀{G}(h:G:=by
   obtain⟨ja,gS⟩:=xE (jk.setCell (Ot w.heap.size 2) (OC true));have o1:PlB w.heap.size true true true ja:=by rw[gS,PlB,heap_set n7];rfl
   have dh:OD w ja:=aDF
   have z:=Oq (∀{G}(h:G:=by
   go_loopw [41] (fun j wr=>∃ k:Nat,k<=t.kids.length/\j=Ol k/\TS (t.kids.take k) true true true=none/\OD ja wr) (fun j _=>t.kids.length - (intOf j).toNat)
   case atStart=>exact⟨0,Nat.zero_le _,rfl,by rw[List.take_zero,TS],QX⟩
   case round=>
    obtain⟨k,E,rfl,fv,D⟩:=hrel;have fL:=hide fv;clear fv
    by_cases aQ:k<t.kids.length
    ·have z:=Oq (∀{G}(h:G:=by
     have sQ:PlB w.heap.size true true true wr:=(D.block w.heap.size (lt_of_heap o1)).trans o1;have z:=Oq (∀{G}(h:G:=by
     have h2:=hide (fun e=>X6 t.kids true true true k aQ e fL.out);have el:=hide (Xa t.kids true true true k aQ fL.out)
     generalize chk t.kids[k] true true true=r at ai h2 el
     exact aDw),G);exact arD),G);exact arE
    ·exact aDE),G);exact azT),G);exact arF),G);exact arG),G);exact arH):G:=h
def RS (h:G:=by
  rw[aa] at a';simp only[acM] at a';exact absurd a'.out.symm dw.out):G:=h
def avG (h:G:=by
  have z:=Oq (∀{G}(h:G:=by
  have k3:=hide (fun W=>Vt s i b t.tx W);have fi:=hide (O4 hQ c1);have hpl2:=cell_lt fi.out
  generalize t.tx=tx at k3 fi c1
  generalize nmE s tx=er at k3
  clear h aj gQ cM bo c3 c1;have z:=Oq (∀{G}(h:G:=by
  refine wh 0 (Oo p) ab ?_;refine wh 1 (Oo p) ab ?_;refine wh 2 (OM p 1) ab ?_;have z:=Oq (∀{G}(h:G:=by
  cases er <;>
  ·unfold Vs;go_wp2;go_ret;exact⟨rfl,hQ.trans (f9.mono hQ.size)⟩),G);exact azG),G);exact azH),G);exact zsq):G:=h
def aBn (h:G:=by
  have j0:=(cZ.later cr);have kL:=hide (stays cr bj.out);have mW:=(cu.trans (O5.of (L:=none) cr (O0 di)));have oV:=j0.lt;obtain⟨aZ,p1,cK,cX,_,d2⟩:=cells4 (stays cr b8.out);have zL:=(Om bJ ed j0 (O5.of (L:=none) cr (O0 di)));go_wp2_with fail;refine cm zL ?_;rintro e aE ⟨⟨ev,rfl,aD⟩,g4,gz⟩;have dF:=hide (gz.keep kL.out Oz);have fl:=(mW.trans gz);have hB:=g4.lt;clear aZ p1 cK cX d2
  by_cases aq:ay=.no
  ·subst aq;have bv:ev=Qp:=aD;subst bv;go_wp2_with fail;obtain⟨wd,fb⟩:=xE (aE.alloc (.cells #[Ol v1.k,Ol v1.n,OB v1.s] 65));have z:=Oq (∀{G}(h:G:=by
   rw[<-fb];obtain⟨tb,tC⟩:=xH (Vz σ1.M v1);have CS:=(ai0 l8 v1);rw[<-tC.out] at CS;clear fb;refine cm CS ?_;rintro e dM ⟨rfl,oN⟩;have Ct:=(l8.later oN);have nL:=hide (stays oN hY.out);have kf:=(uW.trans (O5.of (L:=none) oN (O0 ug)));have jx:=Ct.lt;go_wp2_with fail;obtain⟨bP,de⟩:=xH (Wn tb);have h6:=ZH tb dM;rw[<-de.out] at h6;refine cm h6 ?_;rintro e fy ⟨rfl,cC⟩;have d9:=hide (stays cC nL.out);have k2:=(Ct.later cC);have jY:=(kf.trans (O5.of (L:=none) cC (O0 jx)))
   obtain⟨dn,bR,c7,l1,l2,l3,nl⟩:=O7 d9.out;have z:=Oq (∀{G}(h:G:=by
   have aK:rs=((bP,.no),σ1):=by rw[bB.out,de.out,tC.out];rfl
   rw[aK];exact⟨⟨_,rfl,rfl⟩,bC,bF⟩),G);exact agO),G);exact awE
  ·obtain⟨et,ex,bv⟩:=aD.WT aq ac;subst bv;have aK:rs=((vU,ay),σ1):=by
    rw[bB.out];unfold agP;exact axR
   have z:=Oq (∀{G}(h:G:=by
   have oJ:=(aD.Qw bi Oz).later d8;exact aDK),G);exact aBr):G:=h
def awP (h:G:=by
  rw[<-dm] at h6;refine cm h6 ?_;rintro e fy ⟨rfl,cC⟩;have d9:=hide (stays cC dV.out);have k2:=(jr.later cC);have jY:=(cY.trans (O5.of (L:=none) cC (O0 ea)));have de:=hide dm;obtain⟨dn,bR,c7,l1,l2,l3,nl⟩:=O7 d9.out;clear dm cH bU cg dt du dv rl;have z:=Oq (∀{G}(h:G:=by
  have aK:rs=((bP,.no),σ1):=by rw[bM.out,de.out]
  rw[aK];exact⟨⟨_,rfl,rfl⟩,bC,bF⟩),G);exact agO):G:=h
def awQ (h:G:=by
  refine TI 9 fun ab=>?_;have z:=Oq (∀{G}(h:G:=by
  refine uk3 3 CW.out ab ?_;refine up 5 mb 0 ab ?_;refine up 6 mb 0 ab ?_;refine up 7 mb 0 ab ?_;refine uk3 8 CX.out ab ?_;refine P5 4 fun K A=>?_;go_simp;refine cm (Om tF _ ab) ?_;rintro e ed ⟨rfl,cr⟩;have ki:OD wz ed:=ab.trans (cr.mono ab.size);refine A.out _ _ (fun _=>ki) ?_;clear A K;refine P5 9 fun K A=>?_;go_simp;refine cm (Om vr _ ki) ?_;rintro e fy ⟨rfl,cC⟩;refine ko A ?_;clear A K;have DD:OD wz fy:=ki.trans (cC.mono ki.size);refine P5 10 fun K A=>?_;go_simp;refine cm (Om mX _) ?_
  rintro e aE ⟨⟨ev,rfl,aD⟩,jg⟩;refine ko A ?_;clear A K;have iL:=DD.trans (jg.mono DD.size);have z:=Oq (∀{G}(h:G:=by
  refine uz 11 (vA v9) ?_;refine uz 12 ev ?_;refine P5 13 fun K A=>?_;go_simp;refine ko A ?_;clear A K;refine uz 14 ev ?_;exact aBD),G);exact aBE),G);exact Un):G:=h
def aFg (h:G:=by
  refine A _ _ ?_;clear A K
  by_cases jR:fE=[]
  ·obtain rfl:=zh.2.1 jR;subst jR;obtain⟨JO,L3,rfl⟩:=eG.cap (by rw[jb.out];decide)
   have gE:=hide (aFh eG fS e7 iF.out);refine QV 11 fun K A=>?_;go_simp;refine A _ _ ?_;clear A K JO;have z:=Oq (∀{G}(h:G:=by
   go_roundw
   case rel=>exact⟨k,.mk 35 Ox 0 [t],b',s4,rfl,a'.out,cZ,jG,by have hL:=jF;rw[show Tr.mk t0.kd t0.tx t0.n (t0.kids++[])=Tr.mk 35 Ox 0 [t] by rw[jQ];rfl] at hL;exact hL⟩
   case measure=>rw[U9 cZ,U9 ov];omega),G);exact aEt
  ·obtain⟨ef,cap2,dO,rfl,dz,JC,wy⟩:=zh.many jR;have o4:=zh.2.2;have hpos:0<fE.length:=List.length_pos_iff.2 jR;have dQ:=(Open.apart eo kb.size kI bS.out (show OL (From fe.heap.size) aE fE dO from JC));have hlen:=OL.length _ _ eG.kids;have cM:=Om jb;have dd:=e7.size;have hown:=eG.row;rw[hlen] at hown;have HOWN:=hown;have GR:=hide dz;have HLEN:=hide hlen;clear jR hlen;refine QV 11 fun K A=>?_
   refine step_append_lies _ rfl _ _ 38 rfl w.heap.size 22 i0 Ri 1 8 underlying38 dR dA b9 cn rfl Oz _ _ _ rfl HOWN (Ot ef 0) fE.length cap2 (dO.map Oo) rfl (by simp[dz]) wy (atK dO) hpos (by unfold maxLen;omega) Ou dd aE.heap.size rfl ?_
   intro g cap ap hown3 eY db _;refine A _ _ ?_;clear A K;have gE:=hide (aFi (m:=t0.kids.length+fE.length) eG dQ fS e7 iF.out hown3 (by rw[HLEN.out,GR.out]) eY db);have gq:ap.cell? (Ot ie 3)=aE.cell? (Ot ie 3)/\ap.frozen? (Ot ie 3)=aE.frozen? (Ot ie 3):=by
    have cC:ap.heap[ie]? = aE.heap[ie]?:=eY.block ie hI (fun e=>eG.own e.symm);exact⟨World.cell?_of_block (w:=aE) cC,World.frozen?_of_block (w:=aE) cC⟩
   obtain⟨gN,gO⟩:=gq;rw[gx] at gN;rw[gy 3] at gO;clear db gx gy wy cM;have z:=Oq (∀{G}(h:G:=by
   go_roundw
   case rel=>exact⟨k,.mk 35 Ox 0 (t::fE),b',s4,rfl,a'.out,cZ,jG,by have hL:=jF;rw[show Tr.mk t0.kd t0.tx t0.n (t0.kids++fE)=Tr.mk 35 Ox 0 (t::fE) by rw[jQ];rfl] at hL;exact hL⟩
   case measure=>rw[U9 cZ,U9 ov];omega),G);exact aEt):G:=h
def asO (h:G:=by
  clear be hr2 dx cL d0 bo;go_enter func196,ntmps196;have z:=Oq (∀{G}(h:G:=by
  have cY:=(cu.trans hM);have ea:=ha.lt;have gI:=cU.kp hM.UD;obtain⟨hf,gB,f0,eS,_⟩:=gI.cells;rw[<-bm.out] at hf gB f0 eS;rw[<-lM.out] at f0;rw[<-nG.out] at eS;rw[e9] at gB;clear e9;go_wp2_with fail;refine cm (Om ti wz) ?_;rintro e aE ⟨rfl,jg⟩;have dF:=hide (stays jg dV.out);have ve:=(ha.later jg);have fl:=(cY.trans (O5.of (L:=none) jg (O0 ea)));clear gB hf f0 eS;obtain⟨ho,gW,gC,j8,j9,j',ka⟩:=O7 dF.out;go_wp2_with fail
  obtain⟨b1,bx,bi,bF,bC,cG,b4,bT⟩:=rt3 dF.out cR.out bG fl ve (Ol bP.k) (Ol bP.n) (OB bP.s);rw[<-bx];refine WA (v:=.tuple #[vA bP,Qp]) ?_;exact⟨⟨_,rfl,rfl⟩,bC,bF⟩),G);exact aco):G:=h
def aAz (h:G:=by
  go_enter func105,ntmps105;go_wp2_with fail;refine cm x2 ?_;rintro e w1 ⟨rfl,hw⟩;rw[hw];clear hw;go_wp2_with fail;refine cm d4 ?_;have z:=Oq (∀{G}(h:G:=by
  obtain⟨ep,sF⟩:=xE (w.alloc (.cells #[Ol (i:Int),Ol (-1),QD] 198));have z:=Oq (∀{G}(h:G:=by
  refine wr2 4 5 (fun K A=>?ca) fun K A=>?cb
  case' ca=>
   go_simp;refine A _ _ ?_;clear A K;refine QV 5 fun K A=>?_;go_simp;refine A _ _ ?_;clear A K;refine QV 6 fun K A=>?_;go_simp;refine A _ _ ?_;clear A K
  case' cb=>
   go_simp;refine A _ _ ?_;clear A K;refine wr2 4 6 (fun K A=>?cc) fun K A=>?cd
  case' cc=>
   go_simp;refine A _ _ ?_;clear A K;refine QV 6 fun K A=>?_;go_simp;refine A _ _ ?_;clear A K
  case' cd=>
   go_simp;refine A _ _ ?_;clear A K;refine QV 4 fun K A=>?_;go_simp;refine A _ _ ?_;clear A K
  all_goals
   refine QV 7 fun K A=>?_;refine step_append_lies _ rfl _ _ 77 rfl H 198 lv _ 3 40 underlying77 dR dA b9 cn rfl Oz _ _ _ rfl (hrow.drew.alloc _) (Ot ep.heap.size 0) 1 1 [Ol (i:Int),Ol (-1),QD] rfl rfl (XC _ _ rfl _ _ _) (ZB _ _) Oz (by have:=HLEN.out;unfold maxLen;omega) (by have:=HLEN.out;omega) Rh (ep.heap.size+1) O8 ?_
   intro hJ hG ap hown3 eY db _;refine A _ _ ?_;clear A K;have dg:ep.grownBy ap aC.ownBlock:=OJ (OJ (b:=ep.drew) ⟨rfl,rfl,rfl,O6,fun _ _ _=>rfl⟩ (World.grownBy_alloc _ _ _)) eY;have dW:=hide (gv.akm (i:Int) (-1) (tv':=.slice (some (Ot hJ 0)) (M.OI.length+1) hG) dg hown3);have ky:ap.cell? (Ot H 1)=some aC/\ap.frozen? (Ot H 1)=false:=by
    have cl:some H≠aC.ownBlock:=fun e=>by
     obtain⟨c,aj⟩:=Qc gv.ro.row e.symm;exact QK aj gv.blk Oz rfl
    have hbk:=dg.block H oG cl;exact⟨(World.cell?_of_block (w:=ep) (a:=(Ot H 1)) hbk).trans eq,(World.frozen?_of_block (w:=ep) (a:=(Ot H 1)) hbk).trans px⟩
   obtain⟨rD,rE⟩:=ky;clear db eq px dn bR c7 fw;have kq:=HLEN.out;refine wt 8 (OM H 0) ?_;refine wt 9 (OM H 1) ?_;refine QV 10 fun K A=>?_;go_simp;refine A _ _ ?_;clear A K;refine wpAny_done PK ?_ _;go_simp;go_wp2;go_ret;exact⟨rfl,⟨_,_,_,_,dW.out.1⟩,(Py.of e2 (O0 qU.out)).trans dW.out.2⟩),G);exact ar1),G);exact ar2):G:=h
def aFj (h:G:=by
  have hlt2:=ba.lt;clear ax;obtain⟨ps,hown,nf,AW⟩:=Om qW;have hlen:=OL.length _ _ nf;have vR:=Qj hown;rw[hlen] at hown;have HOWN:=hown;have HLEN:=hide hlen;have pk:=AW;have dd:=tc.size;have gc:=Om p8;have lK:=hide vR;clear vR hlen
  go_wp2_with (at_builtin;refine wpList_append_lies _ rfl _ _ 38 rfl w.heap.size 22 i0 Ri 1 8 underlying38 dR dA b9 cn rfl Oz _ _ _ rfl (HOWN.alloc _) (Ot bA.heap.size 0) 1 1 [Oo nr] rfl rfl (RY bA nr _ rfl) (one_one nr) Oz (by unfold maxLen;omega) Ou Rh (bA.heap.size+1) O8 ?_)
  intro g cap b7 hown' hgrow hg _;have l7:KV w.heap.size b7 (aX++[t]) (.slice (some (Ot g 0)) (aX.length+1) cap):=akO pk (by rw[List.map_append];exact hown') (by simp[HLEN.out]) hgrow hg
  have mO:=((tc.alloc dd (.cells #[Oo nr] 22)).grown hgrow Rh (fun k E=>(Om lK k E).2));have fm:=(gw.ap (((Below.refl w.heap.size bA).alloc dd (.cells #[Oo nr] 22)).grown hgrow Rh (fun k E=>(Om lK k E).2)) iF.out);clear hg
  by_cases ae:fx c.l b'=shut
  ·have ai:=hide (SQ c shut b7 b' d fm ae fL.out);rw[if_pos ae] at k6;clear ae;go_wp2_with fail;refine cm ai.out ?_;rintro e ch ⟨rfl,ry,DX⟩;have xf:=(mO.next DX);have g':=ry;have nC:=(KV.later l7 DX bS.out);go_wp2;go_ret;exact Ue k6.out.symm ⟨nC,fun hh=>absurd hh O8,by simp;omega⟩ g' xf
  ·have ai:=hide (Uf c shut b7 b' d fm ae);rw[if_neg ae] at k6;clear ae;go_wp2_with fail;refine cm ai.out ?_;rintro e ch ⟨rfl,e4⟩;have xf:=(mO.next (Ap.of e4));have g':=(fm.later e4);have nC:=(KV.later l7 (Ap.of e4) bS.out)
   cases aa:Pm c.l abL b' with
   | out=>
    exact ayo
   | bad er p=>
    have ai:=hide (Pq c abL ch b' d g' Oz);have z:=Oq (∀{G}(h:G:=by
    exact⟨rfl,Qo k6.out.symm (xf.next ax)⟩),G);exact ayf
   | ok Og E4=>
    have ai:=hide (Pq c abL ch b' d g' Oz);have fY:b'<E4:=by
     unfold Pm at aa
     split at aa
     ·
      cases aa;omega
     ·
      cases aa
    rw[aa] at ai k6;simp only[bind_ok] at k6;clear aa;go_wp2_with fail;refine cm ai.out ?_;intro e dT al;obtain⟨⟨Fj,rfl,rfl⟩,ba,ax⟩:=al;have Fz:=(xf.next ax);have k7:=ba;have xp:=(KV.later nC ax bS.out);have MV:=ba.lt;clear ax;go_wp2
    go_roundw
    case rel=>exact⟨k,aX++[t],E4,k6.out,k7,Fz,xp,by simp;omega⟩
    case measure=>rw[U9 k7,U9 ov];omega):G:=h
def aAe (h:G:=by
  go_wp2_with fail;refine cm ai ?_;rintro e w2 ⟨⟨gC,rfl,hr2⟩,aF⟩;obtain⟨a2,c2,rfl⟩:=hr2.form;have cq:=(f3.trans (aF.mono f3.size));have jc:=(eh.later aF);have fj:=(Rx.later oy aF);have f4:=(adM (TV t) _ w2 hr2 Ou);go_wp2_with fail;refine cm f4 ?_;rintro e ap ⟨⟨kC,rfl,iR⟩,br⟩;rw[<-kf.out] at iR;obtain⟨a3,c3,rfl⟩:=OX iR;have d3:=(cq.trans (br.mono cq.size));have qV:=(jc.later br);have m0:=(Rx.later fj br);have dp:=iR
  go_wp2_with (at_builtin;refine Ye rfl _ _ 26 rfl w.heap.size _ 9 i0 (OB ByteArray.empty) 16 underlying26 dR dA b9 cn rfl _ _ _ rfl m0 _ _ _ rfl dp (adL F) (by unfold maxLen;omega) Ou d3.size ?_)
  intro v4 bA hown4 kT;have EH:Rx w.heap.size bA v4 zQ:=by
   show World.ownsRow _ _ _ _ _ _ _
   rw[vq.out,List.length_append,List.map_append];exact hown4
  have gd:=fun k E=>(Qj m0 k E).2;have iD:=(d3.grown kT d3.size gd);have qW:UA bA t p:=UA.later h iD;obtain⟨a4,c4,rfl⟩:=OX EH;have q3:=EH;clear gd;have ai:=(abD t p bA qW Ou);go_wp2_with fail;refine cm ai ?_;rintro e b7 ⟨⟨xa,rfl,pP⟩,e3⟩;obtain⟨a5,c5,rfl⟩:=pP.form;have iE:=(iD.trans (e3.mono iD.size));have Hj:=(Rx.later q3 e3);have f4:=(adM (Pv t) _ b7 pP Ou);go_wp2_with fail;refine cm f4 ?_;rintro e ch ⟨⟨K1,rfl,ry⟩,e4⟩;rw[<-za.out] at ry;obtain⟨Lx,c6,rfl⟩:=OX ry
  have oc:=(iE.trans (e4.mono iE.size));have q4:=(Rx.later Hj e4);have g':=ry
  go_wp2_with (at_builtin;refine Ye rfl _ _ 26 rfl w.heap.size _ 9 i0 (OB ByteArray.empty) 16 underlying26 dR dA b9 cn rfl _ _ _ rfl q4 _ _ _ rfl g' (adL G) (by unfold maxLen;omega) Ou oc.size ?_)
  intro Fj dT Jn IY;have EI:Rx w.heap.size dT Fj zR:=by
   show World.ownsRow _ _ _ _ _ _ _
   rw[Hk.out,List.length_append,List.map_append];exact Jn
  have gd:=fun k E=>(Qj q4 k E).2;have te:=(oc.grown IY oc.size gd);obtain⟨Ly,xG,rfl⟩:=OX EI;have ai:=(agu zR _ dT EI Ou);clear gd;go_wp2_with fail;refine cm ai ?_;rintro e b1 ⟨⟨K2,rfl,d1⟩,d8⟩;obtain⟨Lz,vC,rfl⟩:=OX d1;have ou:=(aad d1 te.size);have nw:=(te.trans (d8.mono te.size));go_wp2;go_ret;exact⟨⟨_,rfl,ou⟩,nw⟩):G:=h
def aBx (h:G:=by
  refine Sl ?_ _;go_simp;have ci:=VB.late (v:=v1) aD aJ ((O5.of ab (O0 di)).trans ah);exact axQ):G:=h
def aw3 (h:G:=by
  by_cases ga:ay=.no
  ·subst ga;have hev2:oI=Qp:=cJ.er;subst hev2;have aK:rs=((⟨true,⟨ey,dL,eK⟩⟩,.no,b3),σ1):=by rw[bB.out];unfold Wq;rw[bW.out];rfl
   have cI:=hide aK;clear aK;have z:=Oq (∀{G}(h:G:=by
   refine Vm (v:=.tuple #[UY ⟨true,⟨ey,dL,eK⟩⟩,Qp]) ?_;exact ato),G);exact asH
  ·obtain⟨et,ex,hev2⟩:=cJ.er.WT ga ac;subst hev2;have aK:rs=((⟨true,⟨ey,dL,eK⟩⟩,ay,b3),σ1):=aDu
   have cI:=hide aK;clear aK ga;have z:=Oq (∀{G}(h:G:=by
   refine Vm (v:=.tuple #[UY ⟨true,⟨ey,dL,eK⟩⟩,.iface et ex]) ?_;exact ato),G);exact asH):G:=h
def abd (h:G:=by
  rw[aa] at ai a';simp only[PG] at a';clear aa;go_wp2_with fail;refine cm ai ?_;exact axP):G:=h
def apZ (h:G:=by
  go_wp2_with fail;refine(acL _ _ _).mono ?_;rintro hH bA ⟨b,rfl,D,h9,Av⟩;have nR:=a8.trans (Av.mono dd);have vY:Below (w.alloc O35).heap.size (w.alloc O35) bA:=by simpa using nR
  obtain⟨aj,aH⟩:=ZV vY;have hT:=hide D;have yO:=vY;have rq:(w.alloc O35).heap.size<=b:=by simp;omega
  clear D h9;go_wp2_with fail;exact afk (v:=.tuple #[YW,Ol 0,.iface 150 (OM b 0)]) ⟨b,rfl,abr yO rq hT.out _ _ _ _⟩):G:=h
def VF (h:G:=by
  have z:=Oq (∀{G}(h:G:=by
  rfl),G);exact ajD):G:=h
def anE (h:G:=by
  clear h aj gQ cM bo;rw[iy] at h0 h1 U ai hQ;clear iy;go_enter func104,ntmps104;go_wp2_with fail;refine cm ai ?_;rintro e w2 ⟨rfl,aF⟩;have cq:=(hQ.trans (aF.mono hQ.size))
  cases er <;>
  ·unfold Vs;go_wp2;go_ret;exact⟨rfl,cq⟩):G:=h
def azp (h:G:=by
  obtain⟨va,dD,rfl⟩:=h.form;have dj:=h;have hU:=hide ah;clear h ah;go_enter func183,ntmps183;go_wp2_with fail
  go_loopw [8] (fun i wr=>∃ k:Nat,k<=ao.length/\i=Ol k/\(ao.take k).any f=false/\OD w wr) (fun i _=>ao.length - (intOf i).toNat)
  case atStart=>exact⟨0,Nat.zero_le _,rfl,rfl,QX⟩
  case round=>
   obtain⟨k,E,rfl,fv,D⟩:=hrel;have fL:=hide fv;clear fv
   by_cases aQ:k<ao.length
   ·have z:=Oq (∀{G}(h:G:=by
    have ai:=(Om hU ao[k] (List.getElem_mem _) q wr D az);have iI:=hide (List.take_succ_eq_append_getElem aQ)
    cases hh:f ao[k] with
    | true=>
     rw[hh] at ai;have il:=hide hh;clear hh;have z:=Oq (∀{G}(h:G:=by
     go_ret;refine⟨⟨k,rfl,?_⟩,cq⟩;rw[decide_eq_true Ou,eq_comm,List.any_eq_true];exact⟨ao[k],List.getElem_mem _,il.out⟩),G);exact atp
    | false=>
     rw[hh] at ai;have il:=hide hh;clear hh;have z:=Oq (∀{G}(h:G:=by
     go_roundw
     case rel=>
      refine⟨k+1,by omega,by go_num,?_,cq⟩;rw[iI.out,List.any_append,fL.out];simp[il.out]
     case measure=>simp[intOf];omega),G);exact atp),G);exact azw
   ·have cT:k=ao.length:=Ou;subst cT;go_wp2;go_ret;refine⟨⟨-1,rfl,?_⟩,D⟩;have h:=Om fL;rw[List.take_length] at h;rw[h];rfl):G:=h
def awL (h:G:=by
  rw[<-dm];have de:=hide dm;have dH:=aD;have z:=Oq (∀{G}(h:G:=by
  clear dm;have z:=Oq (∀{G}(h:G:=by
  refine WA (v:=.tuple #[vA bP,ev]) ?_;rw[fO.out];exact⟨⟨_,by rw[de.out],dH.Qw bi Oz⟩,d8⟩),G);exact aDx),G);exact awN):G:=h
def aGT (h:G:=by
  have bM:=hide aK;clear aq aK;have bB:=bM;go_wp2_with fail;refine TI 11 fun ab=>?_;refine uh 0 (.iface et ex) (ab) ?_;refine uh 1 (OC true) (ab) ?_;refine uh 2 (OC true) (ab) ?_;refine uh 3 undef (ab) ?_ (hy:=Or.inr ⟨by kernel_rfl,rfl⟩);refine uh 4 undef (ab) ?_ (hy:=Or.inr ⟨by kernel_rfl,rfl⟩);refine uh 5 undef (ab) ?_ (hy:=Or.inr ⟨by kernel_rfl,rfl⟩);have z:=Oq (∀{G}(h:G:=by
  refine P5 11 fun K A=>?_;go_simp;refine ko A ?_;clear A K;refine Sl ?_ _;obtain⟨wd,fb⟩:=xE wz.drew;have dZ:OD wz wd:=by rw[fb];exact QX.drew
  have hY:=hide (stays dZ dV.out);have l8:=(aV.ms.later dZ);have y7:=(aV.er.later dZ);have hx:=(cY.trans (O5.of (L:=none) dZ (O0 ea)));obtain⟨hs,ht,hu,ig,ih,ii,hv⟩:=O7 hY.out;obtain⟨z0,mJ,z2,mK,mL,mM,zl⟩:=O7 (stays dZ aV.v);go_simp;rw[<-fb];clear fb cH bU cg dt du dv rl fh cp dG hp hq hr g9;go_wp2_with fail;obtain⟨b1,bx,bi,bF,bC,cG,b4,bT⟩:=rt3 hY.out cR.out bG hx l8 (Ol v1.k) (Ol v1.n) (OB v1.s);rw[<-bx];refine WA (v:=.tuple #[vA v1,.iface et ex]) ?_;rw[bB.out]
  exact⟨⟨_,rfl,y7.Qw bi Oz⟩,bC,bF⟩),G);exact awC):G:=h
def axS (h:G:=by
  refine A _ _ ?_;clear A K;refine QV 9 fun K A=>?_;go_simp;refine A _ _ ?_;clear A K;refine UL (listed':=tf 10 4) PK rfl ?_;exact dJ aE cA kN.out):G:=h
def aB5 (h:G:=by
  have gh:=hide (cells3 kY);have e3:OD wr b7:=by rw[hi];exact PO
  have ei:=hide (cells4 (stays e3 fN.out));have FF:=hide (O4 e3 fi.out);have iE:=e3;have Jk:mb<b7.heap.size:=by have:=e3.size;omega
  have Nc:hn<b7.heap.size:=by have:=e3.size;omega
  have ia:=lt_of_heap kY;have M9:bf<b7.heap.size:=lt_of_heap (stays e3 fN.out);rw[<-hi,<-aV];clear hi aV kY hg aj;refine TI 8 fun ab=>?_;refine up 0 mb 0 ab ?_;refine up 1 bf 0 ab ?_;refine uk 2 (ei.out.1) ab ?_;refine up 3 hn 0 ab ?_;refine up 4 hn 0 ab ?_;refine up 5 hn 1 ab ?_;refine uk 6 FF.out ab ?_;refine uk3 7 gh.out ab ?_;refine P5 8 fun K A=>?_;go_simp;refine cm (Om a' _ (eX.later (iE.trans (ab.mono iE.size)))) ?_;rintro e ch ⟨rfl,o5,ji⟩;refine ko A ?_;clear A K
  have rc:OD wr b7.drew:=iE.trans (ab.mono iE.size);have mg:=o5;have ke:=((kF.trans (Q9.of rc (O0 h'))).Xo ji);have l9:=hide (ji.rest _ _ _ (stays rc fN.out) Oz);have q4:=((md.later rc).keep fun b c D=>ji.rest b c 65 D Oz);have nC:Kp ap ch:=fun b c e D aq=>Py.kp ji b c e (Kp.of rc b c e (jq b c e D aq) aq) aq;refine Sl ?_ _;go_simp;go_wp2_with fail;refine⟨⟨k+1,by omega,by go_num,?_,ke,l9.out,q4,nC⟩,by simp[intOf];omega⟩
  rw[adZ au ps vs k σ aQ,<-dQ.out,<-bJ.out,<-nM.out];exact mg):G:=h
def aCE (h:G:=by
  obtain⟨rl,qA⟩:=xE ((σ.M.OI.length:Int):Int);rw[<-qA] at CM ⊢;clear qA;go_enter func50,ntmps50
  go_wp2_with (at_builtin;refine wpList_append_lies _ rfl _ _ 81 rfl mb 3 i0 (Ol 0) 1 8 underlying81 dR dA b9 cn rfl Oz _ _ _ rfl (k5.alloc _) (Ot w.heap.size 0) 1 1 [Ol x] rfl rfl (ajj w x _ rfl) (apx x) Oz (by unfold maxLen;omega) Ou Rh (w.heap.size+1) O8 ?_)
  intro g2 cap' ap hown' hgrow iM _;have b6:OD w (w.alloc (.cells #[Ol x] 3)):=PO;obtain⟨aS,gb⟩:=(ae.later b6).akl x (VA:=.slice (some (Ot g2 0)) (n+1) cap') hgrow (by rw[<-dB.out];exact hown') (fun q ag=>by
   simp only[Value.ownBlock,Option.some.injEq] at ag;subst ag
   rcases iM with h|h
   ·exact .inl h
   ·right;simp;omega)
  have hsz3:mb<ap.heap.size:=by have:=hgrow.size;simp at this;omega
  obtain⟨LF,L0⟩:=((ae.later b6).hh.keep (T:=[3]) (B:=mb) (w':=ap) (Py.grown hgrow Rh fun k E=>by
   obtain⟨c,aj⟩:=Qc (ae.later b6).ow E;exact⟨((ae.later b6).ow.lt k E).1,c,3,aj,by simp⟩) Oz Oz Oz Oz Oz).at_ 6 _ rfl
  have hU:=((Q9.of b6 (O0 bG)).trans gb);have e8:=(Om CM _ _ aS.hh);clear iM vC vJ;go_wp2_with fail;refine cm e8 ?_;rintro e bA ⟨rfl,lT,h4⟩;have jZ:=(aS.heap lT h4);have fF:=(hU.trans (Q9.ofT h4));go_wp2;go_ret;exact⟨rfl,_,jZ,fF⟩):G:=h
def aw6 (h:G:=by
  obtain⟨et,ex,hev2⟩:=cJ.er.WT ga ac;subst hev2;have aK:rs=((⟨false,⟨ey,dL,eK⟩⟩,ay,b3),σ1):=aDu
  have z:=Oq (∀{G}(h:G:=by
  refine Vm (v:=.tuple #[UY ⟨false,⟨ey,dL,eK⟩⟩,.iface et ex]) ?_;exact ato),G);exact aBR):G:=h
def axU (h:G:=by
  go_wp2_with fail;refine(acL _ _ _).mono ?_;rintro hH bA ⟨b,rfl,D,h9,Av⟩;have hbel:=l4.trans (Av.mono l4.size);have rq:=Nat.le_trans l4.size h9;clear aj aH;obtain⟨aj,aH⟩:=ZV hbel;have bL:=hide D;clear D h9;go_wp2_with fail;exact afk (v:=.tuple #[YW,Ol 0,.iface 150 (OM b 0)]) ⟨b,rfl,abr hbel rq bL.out _ _ _ _⟩):G:=h
def aBB (h:G:=by
  have z:=Oq (∀{G}(h:G:=by
  refine WA (v:=.tuple #[vA bP,Qp]) ?_;rw[fO.out,<-de.out];exact⟨⟨_,rfl,rfl⟩,d8⟩),G);exact aDx):G:=h
def aDy (h:G:=by
  have bN:=Oq (∀{G}(h:G:=by
  have lD:=(e1.next (Ap.of (QX.drew.trans jK)));refine A.out _ _ eW (fun _=>?_);clear A K;refine wg 6 (.tuple #[.func (.func f) #[OM c.R 0] #[],OC true]) rfl (Or.inl ⟨by kernel_rfl,fun W a1=>by have hh:=dU.out W a1;go_simp⟩) eW ?_
  refine wh 7 (.tuple #[.func (.func f) #[OM c.R 0] #[],OC true]) eW ?_;refine wh 8 (.func (.func f) #[OM c.R 0] #[]) eW ?_;refine wh 9 (OC true) eW ?_;refine wh 10 (.func (.func f) #[OM c.R 0] #[]) eW ?_;refine wh 11 (OC true) eW ?_;refine wpAnyH_done PK ?_ _;go_simp;have ai:Hid _:=Om HP fA eW;go_wp2_with fail;refine cm ai.out ?_;intro e w2 al
  cases r with
  | out=>exact absurd rfl dw.out
  | bad er p=>
   obtain⟨rfl,ax⟩:=al;exact⟨rfl,Qo rfl (lD.next ax)⟩
  | ok x j=>
   obtain⟨⟨v,rfl,av⟩,ba,ax⟩:=al;have bJ:=(NV.mono av lD.size);have ee:=(lD.next ax);go_wp2;go_ret;exact Ue rfl bJ ba ee),G);exact ztj):G:=h
def aDA (h:G:=by
  have z:=Oq (∀{G}(h:G:=by
  clear hds dd;go_wp2_with fail;exact afk (v:=.tuple #[.agg #[Ol 3,PN,Ol n,Ol (k:Int)],Ol (e:Int),Qp]) ⟨rfl,Yr l4 _ _ _ _⟩),G);exact aDB):G:=h
def aCD (h:G:=by
  have d5:Py [3] mb w ap:=Py.grown hg (O0 h.lt) fun k E=>by
   obtain⟨c,aj⟩:=Qc h.ow E;exact⟨(h.ow.lt k E).1,c,3,aj,by simp⟩
  have kU:=h.hh.keep d5 Oz Oz Oz Oz Oz;obtain⟨lT,dX⟩:=kU.cell 6 VA;have g1:Py [3,84] mb w (ap.setCell (Ot mb 8) VA):=(d5.mono Oz O6).trans (dX.mono Oz O6);obtain⟨d6,h1,U,aw⟩:=h.fu;refine⟨⟨h.bw.trans g1.below,lT,OW h.lg g1 Oz,OW h.se g1 Oz,?_,d6,h1,OW U g1 Oz,fun i a f ax gj=>(aw i a f ax gj).kp (fun b c e D aq=>g1.rest b c e D (by rcases aq with rfl|rfl <;> decide))⟩,⟨g1.below,fun b c e D aq kt _=>?_,ag,fun _ h=>.inl h⟩⟩
  ·have bE:=OW aR dX Oz
   show World.ownsRow _ _ _ _ _ (σ.QF++[x]).length ((σ.QF++[x]).map _)
   rw[List.length_append,List.map_append];exact bE
  ·have bX:ap.heap[b]? = some (O1 c e):=(hg.block b (lt_of_block D) (fun e=>kt e.symm)).trans D;exact dX.rest b c e bX (fun q=>aq (by rw[List.mem_singleton.1 q];decide))):G:=h
def aBM (h:G:=by
  refine uk 6 od.out ab ?_;refine uk4 7 p'.out ab ?_;refine P5 8 fun K A=>?_;have z:=Oq (∀{G}(h:G:=by
  have jL:=(O5.of (L:=L) ab (O0 oV)).trans ah;have dF:=hide (jL.Rt nD kL.out Oz Oz);have ve:=aJ;have y6:=aD;have Gn:=g3;have fl:=(mW.up.trans jL);obtain⟨ly,A7⟩:=xE rs.1.1;rw[<-A7];have qX:=hide A7;clear A7;obtain⟨ho,gW,gC,kC,j8,j9,j',xb,ka⟩:=Qx dF.out;refine uz 9 (UY ly) ?_;refine uz 10 ev ?_;have z:=Oq (∀{G}(h:G:=by
  go_simp;go_wp2_with fail;obtain⟨b1,bx,bi,bF,bC,cG,b4,bT,eg⟩:=rt4 dF.out cR.out bG fl ve (OC ly.ret) (Ol ly.v.k) (Ol ly.v.n) (OB ly.v.s);rw[<-bx];refine Vm (v:=.tuple #[UY ly,ev]) ?_;exact⟨⟨_,by rw[qX.out],y6.Qw bi Oz⟩,bC,bF,Gn.Uc bi⟩),G);exact apj),G);exact ao9):G:=h
def aBb (h:G:=by
  have z:=Oq (∀{G}(h:G:=by
  refine uh 10 (OC true) (ki) ?_;have z:=Oq (∀{G}(h:G:=by
  obtain⟨hs,ht,hu,ig,ih,ii,hv⟩:=O7 kL.out;obtain⟨z0,mJ,z2,mK,mL,mM,zl⟩:=O7 (stays ki aV.v);clear cH bU cg dt du dv rl fh cp dG hp hq hr g9;go_simp;go_wp2_with fail;obtain⟨b1,bx,bi,bF,bC,cG,b4,bT⟩:=rt3 kL.out cR.out bG mW j0 (Ol v1.k) (Ol v1.n) (OB v1.s);rw[<-bx];refine WA (v:=.tuple #[vA v1,Qp]) ?_;have aK:rs=((v1,.no),σ1):=by rw[bB.out];unfold ab6;rw[bW.out];simp[l5.out,op.out]
  rw[aK];exact⟨⟨_,rfl,rfl⟩,bC,bF⟩),G);exact aDC),G);exact aDD):G:=h
def aBW (h:G:=by
  rw[<-bI,de.out] at gf;clear qp bI cT;go_wp2_with fail;refine cm gf ?_;rintro e aE ⟨⟨oI,rfl,aD⟩,g4,gz,g3⟩;have aD:Xm es aE oI bz:=aD;have yf:=gz.Rt Cs zs.out Oz Oz;have Jl:mb<=ob:=by have:=Om CA;omega
  have bi:=Uw yf Jl (OC i6.ret) (Ol i6.v.k) (Ol i6.v.n) (OB i6.v.s);have GB:=hide (aat yf (OC i6.ret) (Ol i6.v.k) (Ol i6.v.n) (OB i6.v.s));have Gt:=(g4.YC bi Oz);have FT:=(aD.Qw bi Oz);have Gk:=(OV.Uc g3 bi);have mU:=((ah.trans gz).newT bi (U6 CA.out _ _ _ _));clear aZ p1 cK cX d2 hs ht hu pX ig ih ii pY hv aj gi;obtain⟨hs,ht,hu,pX,ig,ih,ii,pY,hv⟩:=Qx (yf);clear aD g4 gz g3 bi yf;go_wp2
  go_roundw
  case rel=>
   exact⟨k+1,i6,bz,o',cy,by omega,by go_num,Gt,nJ.out,mU,Gk,GB.out,FT,zz.out⟩
  case measure=>simp[intOf];omega):G:=h
def atq (h:G:=by
  have z:=Oq (∀{G}(h:G:=by
  rw[aa] at ai a';simp only[PG] at a';clear aa;have z:=Oq (∀{G}(h:G:=by
  exact⟨rfl,Qo a'.out.symm (jG.next ax)⟩),G);exact XW),G);exact axV):G:=h
def aGV (h:G:=by
  have z:=Oq (∀{G}(h:G:=by
  have fp:aE.heap[ap.heap.size]? = some (O1 #[Ol 0,Ol 0,PN] 65):=ah.keep (OA _ _) Oz;have z:=Oq (∀{G}(h:G:=by
  have z:=Oq (∀{G}(h:G:=by
  have ci:=VB.early (v:=v1) fp O6 (O0 fD) aD aJ ((O5.of (PO.drew) (O0 fD)).trans ah)
  generalize ((aE.setCell (Ot ap.heap.size 0) (Ol v1.k)).setCell (Ot ap.heap.size 1) (Ol v1.n)).setCell (Ot ap.heap.size 2) (OB v1.s)=wz at ci ⊢
  generalize ap.heap.size=vb at ci ⊢
  exact dJ wz vb ev ci),G);exact ai3),G);exact asA),G);exact asB):G:=h
def aGW (h:G:=by
  rw[da,b0,show w.heap.size+1+1+1=(((w.alloc (.cells #[Oo mb] 62)).alloc (.cells #[Ol au,Ol aG,OC st,.pointer aB] 73)).alloc (.cells #[.slice cV dL dP] 311)).heap.size by simp];exact OA _ _):G:=h
def ap1 (h:G:=by
  have cC:ap.heap[aZ]? = wd.heap[aZ]?:=(eY.block aZ Rh (fun e=>im.own e.symm)).trans (Below.heap_alloc wd _ aZ py);exact⟨World.cell?_of_block (w:=wd) cC,World.frozen?_of_block (w:=wd) cC⟩):G:=h
def ap2 (h:G:=by
  have cC:ap.heap[aZ]? = aE.heap[aZ]?:=(eY.block aZ Rh (fun e=>eG.own e.symm)).trans (Below.heap_alloc aE _ aZ hI);exact⟨World.cell?_of_block (w:=aE) cC,World.frozen?_of_block (w:=aE) cC⟩):G:=h
def aAi (h:G:=by
  clear bY cn
  by_cases Jj:m=k
  ·subst Jj;rw[show (b.name.toList==s.toList)=true by
    have:=Gf.out;rw[List.getElem?_eq_getElem bG] at lh;rw[Option.some.inj lh] at this;exact this] at ai
   clear lh;have z:=Oq (∀{G}(h:G:=by
   go_ret;exact⟨rfl,cq⟩),G);exact atp
  ·rw[show (b.name.toList==s.toList)=false by
    have:=Gh.out m Ou;rw[List.getElem?_eq_getElem bG] at lh;rw[Option.some.inj lh] at this;simpa[Z7] using this] at ai
   clear lh;have z:=Oq (∀{G}(h:G:=by
   go_roundw
   case rel=>exact⟨m+1,by omega,by go_num,cq⟩
   case measure=>simp[intOf];omega),G);exact atp):G:=h
def aDG (h:G:=by
  have ai:=(VG ah gX.drew d (bK+1) q2.drew (by rw[aa];nofun))
  rw[aa] at ai a';simp only[PG] at a';clear aa;go_wp2_with fail;have z:=Oq (∀{G}(h:G:=by
  have z:=Oq (∀{G}(h:G:=by
  refine wr2 4 8 (fun K A=>?_) fun K A=>?_
  ·go_simp;refine A _ _ ?_;clear A K;refine QV 8 fun K A=>?_;exact aDH
  ·exact aDH),G);exact amI),G);exact aaB):G:=h
def asn (h:G:=by
  go_wp2_with fail;obtain⟨b1,bx,bi,bF,bC,cG,b4,bT⟩:=rt3 dV.out cR.out bG cY (aV.ms) (Ol 0) (Ol 0) (PN);rw[<-bx];refine Y9 (v:=.tuple #[vA vU,.iface et ex]) ?_;rw[bB.out];exact⟨⟨_,rfl,aV.er.Qw bi Oz⟩,bC,bF⟩):G:=h
def ap3 (h:G:=by
  rw[aa] at ai a';simp only[PG] at a';clear aa;have z:=Oq (∀{G}(h:G:=by
  exact⟨rfl,Qo a'.out.symm (ee.next ax)⟩),G);exact XW):G:=h
def ap4 (h:G:=by
  rw[aa] at ai a';simp only[PG] at a';clear aa;have z:=Oq (∀{G}(h:G:=by
  exact⟨rfl,Qo a'.out.symm (ew.next ax)⟩),G);exact XW):G:=h
def aGX (h:G:=by
  rw[da,br,show w.heap.size+1+1=((w.alloc (.cells #[Oo mb] 62)).alloc (.cells #[Ol au,Ol aG,OC st,.pointer aB] 73)).heap.size by simp];exact alloc_old (OA _ _)):G:=h
def aGY (h:G:=by
  rw[da,lp,show w.heap.size+3=(((w.alloc (.cells #[Ol au,Ol aG,OC st,.pointer aB] 73)).alloc (.cells #[OC f2,Ol ok,Ol on,OB f1] 67)).alloc (.cells #[OC false,Ol 0,Ol 0,PN] 67)).heap.size by simp];exact OA _ _):G:=h
def aGZ (h:G:=by
  have ai:=(VG ah Fm d (bK+1) CI (by rw[aa];nofun))
  have z:=Oq (∀{G}(h:G:=by
  intro e w2 al;obtain⟨⟨v2,rfl,cK,rfl,kr⟩,ba,ax⟩:=al;have ee:=(yK.next ax);have bj:=ba;replace eh:=(aaC eh ax bS.out yK.size kr);have ai:=(PV 24 Ox (.slice (some (Ot w2.heap.size 0)) 2 2) (w2.alloc (.cells #[Oo p1,Oo cK] 22)) ⟨_,_,_,rfl⟩);have z:=Oq (∀{G}(h:G:=by
  obtain⟨cO,cP,df⟩:=made bj ee eh (by simp[maxLen]) #[Oo p1,Oo cK] rfl 2 rfl 24 Ox (w2.heap.size+1) rfl;exact Ue a'.out.symm cO.nv cP df),G);exact aaD),G);exact XZ):G:=h
def axW (h:G:=by
  rintro kg b7 ⟨b,rfl,D,h9,Aw⟩;have nR:=tg.trans (Aw.mono tg.size);have rq:=Nat.le_trans tg.size h9;exact aDI):G:=h
def aBj (h:G:=by
  rw[<-dm] at h6;refine cm h6 ?_;rintro e fy ⟨rfl,cC⟩;have d9:=hide (stays cC gw.out);have k2:=(Am.later cC);have jY:=(fF.trans (O5.of (L:=none) cC (O0 gp)));have de:=hide dm;obtain⟨dn,bR,c7,l1,l2,l3,nl⟩:=O7 d9.out;clear dm hs ht hu ig ih ii hv aZ p1 cK cX d2;have z:=Oq (∀{G}(h:G:=by
  have aK:rs=((bP,.no),cy):=by rw[cI.out,de.out];rfl
  rw[aK];exact⟨⟨_,rfl,rfl⟩,bC,bF⟩),G);exact agO):G:=h
def aG0 (h:G:=by
  have z:=Oq (∀{G}(h:G:=by
  exact alloc_old (OA _ _)),G);exact aDJ):G:=h
def aG1 (h:G:=by
  have z:=Oq (∀{G}(h:G:=by
  exact OA _ _),G);exact aDJ):G:=h
def aC5 (h:G:=by
  refine P5 12 fun K A=>?_;go_simp;refine ko A ?_;clear A K;refine Sl ?_ _;go_simp;have ci:OD bA (bA.alloc (.cells #[Ol 1,Ol 0,OC st,Ri] 73)).drew/\(bA.alloc (.cells #[Ol 1,Ol 0,OC st,Ri] 73)).drew.heap[bA.heap.size]? = some (O1 #[Ol 1,Ol 0,OC st,Ri] 73):=⟨PO.drew,OA _ _⟩
  generalize (bA.alloc (.cells #[Ol 1,Ol 0,OC st,Ri] 73)).drew=wz at ci ⊢
  have iq:bA.heap.size<=bA.heap.size:=O6
  generalize bV:bA.heap.size=bf at ci iq ⊢
  exact dJ wz bf (by rw[bV];exact⟨ci.1,ci.2,iq⟩)):G:=h
def alX (h:G:=by
  have z:=Oq (∀{G}(h:G:=by
  go_ret;exact⟨rfl,rfl⟩),G);exact aoD):G:=h
def aCM (h:G:=by
  refine cm (U5 (es:=es) hR tType) ?_;rintro e fy ⟨⟨ev,rfl,aD⟩,cC⟩;have d9:=hide (stays cC fm.out);have k2:=(hX.later cC);have jY:=(gu.trans (O5.of (L:=none) cC (O0 hR)));have y5:=aD;clear aD;obtain⟨ho,gW,gC,j8,j9,j',ka⟩:=O7 d9.out;have z:=Oq (∀{G}(h:G:=by
  refine Y9 (v:=.tuple #[vA vU,ev]) ?_;rw[cI.out];exact⟨⟨_,rfl,y5.Qw bi Oz⟩,bC,bF⟩),G);exact axo):G:=h
def aDL (h:G:=by
  obtain⟨aj,aH⟩:=ZV nR;go_wp2_with fail;exact afk (v:=.tuple #[.agg #[Ol kd,OB tx,Ol n,Ol (k:Int)],Ol (e:Int),Qp]) ⟨rfl,Yr nR _ _ _ _⟩):G:=h
def aG2 (h:G:=by
  rw[da,bV,show w.heap.size+1=(w.alloc (.cells #[Oo mb] 62)).heap.size by simp];exact alloc_old (alloc_old (OA _ _))):G:=h
def arU (h:G:=by
  go_wp2_with fail;refine cm ai ?_;rintro e w1 ⟨⟨u,rfl,aa⟩,D⟩;obtain⟨cV,uc,rfl⟩:=aa.form;go_wp2;go_ret;exact⟨⟨_,rfl,aa⟩,D⟩):G:=h
def axX (h:G:=by
  clear E;go_enter func348,ntmps348;have ai:=(RX c w i d h);unfold tkV at ai;have fI:=abt (O9 c.l i);go_wp2_with fail;refine cm ai ?_;rintro e wt ⟨rfl,e5⟩;have q1:=(h.later e5);go_wp2;go_ret;exact⟨rfl,e5⟩):G:=h
def aG3 (h:G:=by
  unfold Ru at aH;unfold need;rw[if_pos (by
   have h0:t.kd=5\/t.kd=37:=by simpa using aH
   exact h0.imp id Or.inl)]):G:=h
def aA6 (h:G:=by
  have z:=Oq (∀{G}(h:G:=by
  refine cm (U5 (es:=es) gp tType) ?_;exact aA4),G);exact awv):G:=h
def aDM (h:G:=by
  have:=ad8 c (fx c.l i) W a1.base.vals;rw[ag] at this;exact this):G:=h
def aG4 (h:G:=by
  rw[da,gd,show w.heap.size+1=(w.alloc (.cells #[Ol au,Ol aG,OC st,.pointer aB] 73)).heap.size by simp];exact alloc_old (alloc_old (OA _ _))):G:=h
def aDN (h:G:=by
  refine wpAnyH_done PK ?_ _;go_simp;go_wp2_with fail;exact Vm (v:=.tuple #[.agg #[PN,Ol 0,Ol 0,Ol 0],OC false]) ⟨rfl,ap5 bu O6 _ _ _ _⟩):G:=h
def aDd (h:G:=by
  refine uh 9 (.agg #[Ol 0,Ol 0,PN]) (ab) ?_;refine P5 10 fun K A=>?_;go_simp;refine cm (Om d4 _ ab) ?_;rintro e ap ⟨rfl,kU,cS⟩;refine ko A ?_;clear A K;have F':=kU;have cQ:=(aH.trans ((Py.of ab (O0 h')).trans cS));refine Sl ?_ _;go_simp;go_wp2
  go_roundw
  case rel=>
   refine⟨k+1,by omega,by go_num,?_,cQ⟩;have h:=F';rw[lM.out] at h;rw[iI.out];exact h
  case measure=>simp[intOf];omega):G:=h
def atr (h:G:=by
  have z:=Oq (∀{G}(h:G:=by
  obtain⟨cO,cP,df⟩:=Om dQ;exact Ue rfl cO cP df),G);exact aaD):G:=h
def aDO (h:G:=by
  have bj:=ba;replace jF:=(EV.later jF ax bS.out);have jQ:=Om pq;subst jQ;go_wp2;go_ret;exact Ue a'.out.symm jF.nv bj ee):G:=h
def aDP (h:G:=by
  have z:=Oq (∀{G}(h:G:=by
  have z:=Oq (∀{G}(h:G:=by
  intro e w1 al;obtain⟨⟨v1,rfl,rfl⟩,ba,ax⟩:=al;have ew:=(jG.next ax);exact aDQ),G);exact XZ),G);exact axV):G:=h
def axf (h:G:=by
  cases a with
  | mk p kd tx n ks=>
   rw[RV] at h1;obtain⟨_,_,⟨v,D,_⟩,_⟩:=h1;exact⟨_,D⟩):G:=h
def aAG (h:G:=by
  clear ag;go_enter func55,ntmps55;have z:=Oq (∀{G}(h:G:=by
  have bL:=D;go_wp2_with fail;refine cm (dw.out w1 bL) ?_;rintro e w2 ⟨rfl,rfl⟩;go_wp2_with fail;refine cm (gZ.out w2 bL) ?_;rintro e ap ⟨rfl,br⟩;have d3:=(bL.trans (br.mono bL.size));go_wp2;go_ret;exact⟨rfl,d3.alloc d3.size _⟩),G);exact aiK):G:=h
def aG5 (h:G:=by
  rw[da,gd,show w.heap.size+1=(w.alloc (.cells #[Ol au,Ol aG,OC st,.pointer aB] 73)).heap.size by simp];exact alloc_old (OA _ _)):G:=h
def aAY (h:G:=by
  refine uh 4 (OB nm) (ab) ?_;refine uk3 5 gh.out ab ?_;refine P5 6 fun K A=>?_;go_simp;refine cm (Om pp _ ab) ?_;rintro e ap ⟨rfl,fc,cS⟩;refine ko A ?_;clear A K;have cQ:=(cu.trans ((O5.of (L:=none) ab (O0 di)).trans (O5.ofT cS)));refine uz 7 (Ur oE) ?_;refine Sl ?_ _;go_simp;go_wp2;go_ret;exact⟨⟨_,rfl,aoT lH.out⟩,⟨_,_,_,_,fc⟩,cQ⟩):G:=h
def aAB (h:G:=by
  rw[ae] at ai;have dQ:=hide ae;clear ae;have z:=Oq (∀{G}(h:G:=by
  go_roundw
  case rel=>
   refine⟨k+1,by omega,by go_num,?_,bL.drew⟩;intro j Hz aN At
   rcases Nat.lt_or_ge j k with h|h
   ·exact mY.out j Hz h At
   ·have:j=k:=Ou;subst this;rw[lE.out] at At
    cases At
    exact dQ.out
  case measure=>simp[intOf];omega),G);exact aeE):G:=h
def att (h:G:=by
  go_simp;refine cm ai ?_;intro e w' al;obtain⟨rfl,ax⟩:=al;exact⟨rfl,Qo a'.out.symm (kb.drew.next ax)⟩):G:=h
def avA (h:G:=by
  refine cm (pw.ha2 _ e8) ?_;rintro e jk ⟨rfl,wx⟩;have kM:OD ek jk:=e8.trans (wx.mono e8.size);go_wp2;go_ret;exact⟨rfl,jo.trans (kM.mono jo.size)⟩):G:=h
def axY (h:G:=by
  rw[aa] at ai a';simp only[PG] at a';clear aa;have z:=Oq (∀{G}(h:G:=by
  exact⟨rfl,Qo a'.out.symm (lD.next ax)⟩),G);exact XW):G:=h
def ao0 (h:G:=by
  rw[ay];clear ay;go_enter func296,ntmps296;go_wp2;go_ret;exact⟨rfl,aF⟩):G:=h
def azb (h:G:=by
  rcases Nat.lt_or_ge 0 w.heap.size with h|h
  ·exact h
  ·simp[World.cell?,Array.getElem?_eq_none h] at hg):G:=h
def aG6 (h:G:=by
  have bM:=hide aK;clear aq aK;go_wp2_with fail;obtain⟨b1,bx,bi,bF,bC,cG,b4,bT,eg⟩:=rt4 dV.out cR.out bG cY (aV.ms) (OC false) (Ol 0) (Ol 0) (PN);rw[<-bx];refine agX (v:=.tuple #[UY QW,.iface et ex]) ?_;rw[bM.out];exact⟨⟨_,rfl,aV.er.Qw bi Oz⟩,bC,bF.up,f6.Uc bi⟩):G:=h
def aDR (h:G:=by
  go_wp2_with fail;refine cm (Om zx w1 bL) ?_;rintro e w2 ⟨rfl,aF⟩;have cq:=(bL.trans (aF.mono bL.size));clear aF;go_wp2_with fail;refine cm (Om zx w2 cq) ?_;rintro e ap ⟨rfl,br⟩;have d3:=(cq.trans (br.mono cq.size));clear br;go_wp2;go_ret;exact⟨rfl,d3⟩):G:=h
def aA7 (h:G:=by
  have z:=Oq (∀{G}(h:G:=by
  go_ret;exact⟨⟨_,rfl,rfl⟩,jZ,fF⟩),G);exact awv):G:=h
def aDS (h:G:=by
  have bj:=hr2;have bu:=aF;rw[<-iK];clear iK;refine A.out _ _ bj (fun _=>?_);clear A K;refine wh 12 (OC true) bj ?_;refine wpAnyH_done PK ?_ _;go_simp;go_wp2_with fail;exact Vm (v:=.tuple #[.agg #[OB x.tx,Ol x.kd,Ol x.parts,Ol x.str],OC true]) ⟨rfl,ap5 bu O6 _ _ _ _⟩):G:=h
def aCd (h:G:=by
  have bL:=D;go_wp2_with fail;refine cm (Xj UC w1) ?_;rintro e ap ⟨⟨tb,rfl,_,aD⟩,br⟩;have d3:=(bL.trans (br.mono bL.size));exact aCc):G:=h
def aCg (h:G:=by
  have z:=Oq (∀{G}(h:G:=by
  go_wp2;go_ret;exact⟨rfl,iD⟩),G);exact axj):G:=h
def aBi (h:G:=by
  have bM:=hide aK;clear aq aK;go_simp;have z:=Oq (∀{G}(h:G:=by
  refine Y9 (v:=.tuple #[vA vU,.iface et ex]) ?_;rw[bM.out];exact⟨⟨_,rfl,tn.Qw bi Oz⟩,bC,bF⟩),G);exact axc):G:=h
def avY (h:G:=by
  have:Tr.counts t.kids=Tr.counts (t.kids.take (k+1))+Tr.counts (t.kids.drop (k+1)):=by rw[<-UJ,List.take_append_drop]
  omega):G:=h
def atu (h:G:=by
  go_enter func161,ntmps161;go_wp2;go_ret;exact⟨rfl,by rw[ai.out];exact dH,QX⟩):G:=h
def aG7 (h:G:=by
  rw[bu.out,b0,show w.heap.size+1=(w.alloc (.cells #[Ol au,Ol aG,OC false,.pointer aB] 73)).heap.size by simp];exact OA _ _):G:=h
def aG8 (h:G:=by
  have bM:=hide aK;clear aq aK;go_wp2_with fail;refine UU (v:=.iface et ex) ?_;rw[bM.out];exact⟨⟨_,rfl,aV.er⟩,aV.ms,cY⟩):G:=h
def aDT (h:G:=by
  exact⟨by show (0:Int)<=(σ.M.OI.length:Int);omega,by show (σ.M.OI.length:Int)<_;simp[St.opn,Mo.scope];omega⟩):G:=h
def aAM (h:G:=by
  rintro e w1 ⟨rfl,D⟩;have bL:=(((Below.refl _ w).alloc O6 _).trans (D.mono O8));go_wp2;go_ret;exact⟨rfl,bL⟩):G:=h
def aCN (h:G:=by
  go_wp2_with fail;obtain⟨b1,bx,bi,bF,bC,cG,b4,bT⟩:=rt3 hY.out cR.out bG hx l8 (Ol v9.k) (Ol v9.n) (OB v9.s);rw[<-bx];refine WA (v:=.tuple #[vA v9,ev]) ?_;rw[cI.out];exact⟨⟨_,by rw[k9.out],y7.Qw bi Oz⟩,bC,bF⟩):G:=h
def aAK (h:G:=by
  rcases VW (fun c=>Z7 nm c.name) x.cs with ⟨d5,dX⟩|⟨lx,en,d5,dX,fU,_⟩
  ·rw[show fC nm x.cs=none from d5] at E;cases E
  ·rw[show fC nm x.cs=some lx from d5] at E;cases E;rw[aj] at dX;cases dX;simp[Mo.Y3,aox am,fU]):G:=h
def asC (h:G:=by
  rw[ay];clear ay;go_enter func61,ntmps61;go_wp2;go_ret;exact⟨rfl,aF⟩):G:=h
def ar4 (h:G:=by
  go_wp2
  all_goals first|omega|skip
  all_goals go_ret
  all_goals exact⟨rfl,rfl⟩):G:=h
def azo (h:G:=by
  have:=abx (s.extract k (OT Ql s k)) (fun i am=>by
   rw[Zg s k _ i gJ am];exact afp Ql s (s.size - k) k Ou (k+i) Ou Ou Ou) (OT Ql s k - k)
  rw[List.take_of_length_le (by rw[ahp];omega)] at this
  exact this):G:=h
def apl (h:G:=by
  rw[List.take_succ_eq_append_getElem hl,List.foldl_append];rfl):G:=h
def avI (h:G:=by
  have:=aif t p W (e' W a1);rw[kS] at this;exact this):G:=h
def aDU (h:G:=by
  have ai:=(QZ ah hN ap d gr _ rfl (by rw[aa];nofun) dp)
  rw[aa] at ai a';simp only[PG] at a';clear aa;have z:=Oq (∀{G}(h:G:=by
  exact⟨rfl,Qo a'.out.symm (jm.next ax)⟩),G);exact XW):G:=h
def asi (h:G:=by
  show _=_
  rw[fJ,heap_setCell_other _ _ _ _ (Ne.symm tu.out)];exact Om dp):G:=h
def azd (h:G:=by
  rw[iV,World.cell?_alloc_past _ _ _ O8,World.cell?_alloc_at _ _ _ _ rfl];rfl):G:=h
def azc (h:G:=by
  rw[World.cell?_alloc_past _ _ _ O8,World.cell?_alloc_past _ _ _ dI];exact hg):G:=h
def aG9 (h:G:=by
  have ai:=(VG ah Fm d (bK+1) CI (by rw[aa];nofun))
  rw[aa] at ai a';simp only[PG] at a';clear aa;have z:=Oq (∀{G}(h:G:=by
  exact⟨rfl,Qo a'.out.symm (yK.next ax)⟩),G);exact XW):G:=h
def azx (h:G:=by
  clear hL
  cases r <;>
  ·go_enter func194,ntmps194;go_wp2_with fail;rw[<-ib];refine cm ai ?_;rintro e w2 ⟨rfl,aF⟩;have cq:=(cr.trans (aF.mono cr.size));clear ib;go_wp2;go_ret;exact⟨rfl,cq⟩):G:=h
def azq (h:G:=by
  obtain⟨va,dD,rfl⟩:=h.form;clear h ah;go_enter func248,ntmps248;go_wp2_with fail;refine cm ai ?_;rintro e w1 ⟨⟨k,rfl,E⟩,D⟩;have f5:=hide E;clear E;go_wp2;go_ret;exact⟨Uu f5.out,D⟩):G:=h
def aDV (h:G:=by
  clear hl;go_enter func51,ntmps51;go_wp2;go_ret;exact⟨rfl,rfl⟩):G:=h
def aHa (h:G:=by
  have ai:=(Pq c Qv gX bK d q2 Oz);rw[aa] at ai a';simp only[PG] at a';clear aa;have z:=Oq (∀{G}(h:G:=by
  exact⟨rfl,Qo a'.out.symm (ph.next ax)⟩),G);exact XW):G:=h
def aB1 (h:G:=by
  obtain⟨d6,h1,U,aw⟩:=h.fu;exact⟨h.bw.trans (D.mono (O0 h.lt)),h.hh.later D,Pe h.lg D,Pe h.se D,Pe h.ow D,d6,h1,Pe U D,fun i a f ax aH=>(aw i a f ax aH).kp (Kp.of D)⟩):G:=h
def aDW (h:G:=by
  intro j u aN
  match j,aN with
  | 0,aN=>simp at aN;subst aN;simp[Addr.add]
  | 1,aN=>simp at aN;subst aN;simp[Addr.add]
  | 2,aN=>simp at aN;subst aN;simp[Addr.add]
  | 3,aN=>simp at aN;subst aN;simp[Addr.add]):G:=h
def aAC (h:G:=by
  refine⟨aQ,?_,?_⟩
  ·have:=lE.out;rw[List.getElem?_eq_getElem aQ] at this;rw[Option.some.inj this];exact dQ.out
  ·intro j aN;have:=mY.out j bs[j] aN (List.getElem?_eq_getElem Ou);simpa using this):G:=h
def aB2 (h:G:=by
  obtain⟨d6,h1,U,aw⟩:=h.fu;exact⟨h.bw.trans aH.below,hh,OW h.lg aH Oz,OW h.se aH Oz,OW h.ow aH Oz,d6,h1,OW U aH Oz,fun i a f ax gj=>(aw i a f ax gj).kp (Py.kp aH)⟩):G:=h
def aHb (h:G:=by
  rcases hrow.2 with ⟨fq,_⟩|⟨g2,cap',cj,fq,_,_,az,_⟩
  ·simp at fq
  ·simp only[Value.slice.injEq,Option.some.injEq,Addr.mk.injEq,and_true,true_and] at fq;obtain⟨rfl,rfl⟩:=fq;exact az):G:=h
def aBy (h:G:=by
  generalize ((aE.setCell (Ot wr.heap.size 0) (Ol v1.k)).setCell (Ot wr.heap.size 1) (Ol v1.n)).setCell (Ot wr.heap.size 2) (OB v1.s)=wz at ci ⊢
  generalize wr.heap.size=vb at ci ⊢
  exact dJ wz vb ev ci):G:=h
def arR (h:G:=by
  exact fun x j e=>⟨al.2 x j e,fun aN=>absurd (al.2 x j e).1 Ou⟩):G:=h
def azf (h:G:=by
  rw[iV] at ai kh;clear b9 sB re ax iV gF;go_enter func32,ntmps32;go_wp2_with fail;refine cm ai.out ?_;rintro e w2 ⟨rfl,aF⟩;go_wp2;go_ret;exact⟨rfl,kh.trans (aF.mono kh.size)⟩):G:=h
def aze (h:G:=by
  go_enter func32,ntmps32;go_wp2_with fail;refine cm ai.out ?_;rintro e w2 ⟨rfl,eS,aF⟩;have f4:=hide eS;clear eS;go_wp2;go_ret;exact⟨rfl,f4.out,(kh.mono (O0 lQ)).trans aF⟩):G:=h
def arw (h:G:=by
  go_enter func192,ntmps192;go_wp2;go_ret;exact⟨rfl,bL⟩):G:=h
def aAA (h:G:=by
  go_wp2_with fail
  go_loopw [8] (fun i wr=>i=Ol 0/\OD w wr) (fun i _=>0)
  case atStart=>exact⟨rfl,QX⟩
  case round=>
   obtain⟨rfl,D⟩:=hrel;go_wp2;go_ret;exact⟨rfl,D⟩):G:=h
def aDX (h:G:=by
  rw[e];have bJ:=hide av;clear dq b2 em D h1 U av;go_enter func217,ntmps217
  go_wp2
  go_ret2
  refine⟨?_,rfl⟩
  show Ending.returned (.tuple #[.int .u8 (s[i].toNat:Int),OC true])=_
  rw[bJ.out];rfl):G:=h
def asf (h:G:=by
  rw[ay];go_enter func132,ntmps132
  go_wp2
  go_ret;exact⟨rfl,PO⟩):G:=h
def azX (h:G:=by
  split at h
  ·
   cases h;omega
  ·obtain⟨u,a7,h1,h⟩:=binds h;have U:=U1 (l:=l) (ah.st _ _) u a7 h1;have aL:=bn _ _ _ _ h;rw[UJ,OU,OZ] at aL;omega):G:=h
def aAD (h:G:=by
  rcases av with ⟨rfl,az⟩|⟨g2,cap,rfl⟩
  all_goals
   go_wp2_with fail;refine cm ai ?_;rintro e w' ⟨rfl,D⟩;go_wp2;go_ret;refine⟨rfl,PO.trans (D.mono O8)⟩):G:=h
def azY (h:G:=by
  obtain⟨v,a7,h1,h⟩:=binds h;obtain⟨_,i2,U,h⟩:=binds h;cases h;have ay:=U1 (l:=l) (ah.vl _ _) v _ h1;have bz:=Sr U;rw[count_mk,OU,OZ];omega):G:=h
def axZ (h:G:=by
  obtain⟨_,_,_,h⟩:=PI h;obtain⟨_,_,_,h⟩:=PI h
  cases h;exact ahq):G:=h
def aAF (h:G:=by
  have z:=Oq (∀{G}(h:G:=by
  have bL:=D;go_wp2;go_ret;exact⟨rfl,bL⟩),G);exact aiK):G:=h
def azy (h:G:=by
  have z:=Oq (∀{G}(h:G:=by
  go_ret;exact⟨rfl,jo.trans (iU.mono jo.size)⟩),G);exact avD):G:=h
def azA (h:G:=by
  refine cm (pw.ha3 _ k8) ?_;rintro e Fo ⟨rfl,yi⟩;have G':OD ek Fo:=k8.trans (yi.mono k8.size);go_wp2;go_ret;exact⟨rfl,jo.trans (G'.mono jo.size)⟩):G:=h
def azz (h:G:=by
  have z:=Oq (∀{G}(h:G:=by
  go_ret;exact⟨rfl,jo.trans (e8.mono jo.size)⟩),G);exact avC):G:=h
def aB0 (h:G:=by
  rw[bL.out];have lS:OD b1 b1.drew:=QX.drew;exact⟨⟨_,rfl,(FX.Qw bi Oz).later lS⟩,bC.later lS,bF.trans (O5.of lS (O0 bC.lt)),(Gr.Uc bi).later lS⟩):G:=h
def aDY (h:G:=by
  rw[aa] at ai a';simp only[PG] at a';clear aa;have z:=Oq (∀{G}(h:G:=by
  exact⟨rfl,Qo a'.out.symm (td.next ax)⟩),G);exact XW):G:=h
def aDZ (h:G:=by
  have h1:=hall e aq D;have h0:=(mem_ready.1 aa).1;rw[t7] at h1
  cases ae:listed[i]? with
  | none=>simp[ae] at h1
  | some x=>simp[ae] at h0 h1;rw[h0] at h1;cases h1):G:=h
def aC8 (h:G:=by
  exact⟨ae.bw.trans f.below,h.lt,(h.at_ 0 _ rfl).1,(h.at_ 1 _ rfl).1,(h.at_ 2 _ rfl).1,(h.at_ 3 _ rfl).1,(h.at_ 4 _ rfl).1,OW ae.lg f Oz,OW ae.se f Oz⟩):G:=h
def awf (h:G:=by
  rintro e w' ⟨rfl,⟨mI,U⟩,aw⟩;exact⟨rfl,⟨aA,aC,os,mI,U⟩,aw⟩):G:=h
def awF (h:G:=by
  cases bz with
  | no=>exact absurd rfl ga
  | stop=>rfl
  | mis=>rfl
  | XU x=>rfl):G:=h
def aD0 (h:G:=by
  refine A.out _ _ bj (fun _=>?_);clear A K;refine wh 12 (OC true) bj ?_;refine wpAnyH_done PK ?_ _;go_simp;go_wp2;go_ret;exact⟨Uu O8,bu⟩):G:=h
def awI (h:G:=by
  cases e with
  | no=>exact absurd rfl aq
  | stop=>rfl
  | mis=>rfl
  | XU x=>rfl):G:=h
def aw4 (h:G:=by
  rw[cI.out];exact⟨⟨_,rfl,y8.Qw bi Oz⟩,bC,bF,bS.Uc bi⟩):G:=h
def az1 (h:G:=by
  refine⟨fun y j e=>(by cases e),fun _ y j e=>?_⟩
  cases hE with
  | ok x i=>exact h.2 (fun _ _=>nofun) x i rfl
  | bad er p=>cases e
  | out=>cases e):G:=h
def aD1 (h:G:=by
  refine A.out _ _ bj (fun _=>?_);clear A K;refine wh 12 (OC false) bj ?_;refine wpAnyH_done PK ?_ _;go_simp;go_wp2;go_ret;exact⟨rfl,bu⟩):G:=h
def aHc (h:G:=by
  have h1:=(x3.kp (Kp.of (aF.trans (ak.mono aF.size)))).at_.nat.nt;rw[x3.tr] at h1;have U:=TU _ _ X h1;rw[<-cJ] at U;rw[ni];exact U):G:=h
def aD2 (h:G:=by
  have:=ahr (ah c aj) ⟨KK,Xz (by rw[aj];exact aD) KK⟩ (ajE c.l KK) W _ rfl (by rw[aj,aa];nofun) ba
  rw[aj,aa] at this;exact this):G:=h
def aCf (h:G:=by
  rintro e ap ⟨rfl,fc,cS⟩;have eN:=fc;have cQ:=cS;go_wp2
  go_end0
  rw[a'.out];exact⟨rfl,eN,(Py.of bL (O0 bG)).trans cQ⟩):G:=h
def aCS (h:G:=by
  have:0<(P9 d).length:=by rw[Si];omega
  unfold Oy;rw[List.getD_eq_getElem?_getD,List.getElem?_eq_getElem this];exact List.getElem_mem this):G:=h
def aD3 (h:G:=by
  rw[bW.out] at ai;have z:=Oq (∀{G}(h:G:=by
  exact⟨rfl,Qo bm.out.symm (jm.next ax)⟩),G);exact XW):G:=h
def aHd (h:G:=by
  have h1:OD w (RW w):=PO.alloc O8 _;have U:OD w w2:=h1.trans (aF.mono Ou);exact U.trans ((ax.mono (B':=w.heap.size) Ou).below Ou)):G:=h
def aDo (h:G:=by
  have dq:=Om bL;have b2:=Om cq;have em:=Om d3;exact(dq.trans (b2.mono dq.size)).trans (em.mono (Nat.le_trans dq.size b2.size))):G:=h
def ax0 (h:G:=by
  rw[aa] at bm;simp only[acM] at bm;exact absurd bm.out.symm dw.out):G:=h
def aAv (h:G:=by
  obtain⟨rD,rE⟩:=ky;clear aI f0 hfz1 lc;go_wp2;go_ret;exact⟨rfl,⟨_,dW.out.1⟩,(Py.of bL (O0 hl)).trans dW.out.2⟩):G:=h
def awK (h:G:=by
  rintro e w1 ⟨rfl,rfl⟩;go_wp2;go_ret;exact⟨rfl,rfl⟩):G:=h
def avH (h:G:=by
  go_enter func104,ntmps104;go_wp2;go_ret;exact⟨rfl,hQ⟩):G:=h
def az2 (h:G:=by
  subst cT;go_wp2;go_ret;refine⟨⟨_,rfl,?_⟩,hbel⟩;have h:=HOWN;rw[List.take_length] at h;rw[List.take_length];exact h):G:=h
def az0 (h:G:=by
  refine Js.agb 1 (Tz (ah.vl _ _ am)) Ou fun v j h1 U=>?_;exact Js.bind (Rl aD aO U Oz) O6 fun _ b' aw aL=>Js.ok O6 aL):G:=h
def avN (h:G:=by
  intro t bc
  cases t with
  | mk kd tx gt ks=>rw[count_mk] at bc;omega):G:=h
def aCh (h:G:=by
  have h1:=List.length_filter_le (fun k:Nd=>TM k.2) (P9 d);rw[Si] at h1;rw[hds];show ((P9 d).filter _).length<=_;omega):G:=h
def awu (h:G:=by
  generalize bv:Ur c1=ev
  exact dJ wz vb ev ⟨ci,bv.symm⟩):G:=h
def aD4 (h:G:=by
  split at h
  ·
   cases h;exact ax
  ·obtain⟨u,a7,h1,h⟩:=binds h;exact bn _ _ _ _ (akN ax (UE (ah.st _ _) u a7 h1)) h):G:=h
def azt (h:G:=by
  clear U
  cases h1:(kd==1) <;> cases bX:(kd==6) <;>
  ·go_enter func58,ntmps58;go_wp2;go_ret;exact⟨rfl,rfl⟩):G:=h
def az9 (h:G:=by
  go_simp;refine A _ _ ?_;clear A K;exact UL (listed':=tf 6 2) PK PK dJ):G:=h
def aAE (h:G:=by
  have z:=Oq (∀{G}(h:G:=by
  exact bY),G);exact agA):G:=h
def azk (h:G:=by
  rcases aa.2 with az|⟨g,cap,cj,av,D,rest⟩
  ·exact Or.inl az
  ·exact Or.inr ⟨g,cap,cj,av,by omega,rest⟩):G:=h
def aD5 (h:G:=by
  go_simp;refine cm ai ?_;intro e w' al;obtain⟨rfl,ax⟩:=al;exact⟨rfl,Qo a'.out.symm (jC.drew.next ax)⟩):G:=h
def aD6 (h:G:=by
  go_simp;refine cm ai ?_;intro e w' al;obtain⟨rfl,ax⟩:=al;exact⟨rfl,Qo a'.out.symm (ee.drew.next ax)⟩):G:=h
def aHe (h:G:=by
  rw[ax.block _ Ou Ou,aF.block _ Ou];have:=OA (w.alloc (.cells #[Ri] 22)) (.cells #[Qp] 31);simpa using this):G:=h
def aD7 (h:G:=by
  go_simp;refine cm gf ?_;intro e aE al;obtain⟨rfl,ax⟩:=al;exact⟨rfl,Qo rfl (qM.drew.next ax)⟩):G:=h
abbrev Ol (n:Int):Value:=.int .i64 n
abbrev OM (b o:Nat):Value:=.pointer (some ⟨b,o,none⟩)
abbrev Ot (b o:Nat):Addr:=⟨b,o,none⟩
abbrev OE:=Calls prog
abbrev OD (w x:World):Prop:=Below w.heap.size w x
abbrev PN:Value:=.string ⟨#[]⟩
abbrev OB (s:ByteArray):Value:=.string s
abbrev O1 (cs:Array Value)(t:TypeId):Obj:=.cells cs t (0,0)
abbrev OQ (v:Value):Ending:=.returned v
abbrev OC (b:Bool):Value:=.bool b
abbrev Ov:=World
abbrev OH:=ByteArray
abbrev OG:=Value
def Ou {G:Prop}(h:G:=by omega):G:=h
def Oz {G:Prop}(h:G:=by decide):G:=h
def PK {G:Prop}(h:G:=by kernel_rfl):G:=h
def O8 {G:Prop}(h:G:=by simp):G:=h
def Rh {G:Prop}(h:G:=by simp;omega):G:=h

abbrev QD:Value:=.slice none 0 0
abbrev Ri:Value:=.pointer none
abbrev Qp:Value:=.nilIface
abbrev lVZ (g n c:Nat):Value:=.slice (some ⟨g,0,none⟩) n c
abbrev VR (f:Nat):Prop:=∀ args W,(callFunc f args).run prog W=.ok (.enter f args) W
def O0 {a b:Nat}(h:a<b):a<=b:=Nat.le_of_lt h
def O6 {a:Nat}:a<=a:=Nat.le_refl a
def PO {w:World}{o:Obj}:Below w.heap.size w (w.alloc o):=(Below.refl _ _).alloc (Nat.le_refl _) _
def QX {n:Nat}{w:World}:Below n w w:=Below.refl _ _
def af2 (lo am c:Int):Bool:=decide (lo<=c)&&decide (c<=am)
def abb (c:Int):Bool:=af2 97 122 c||c==95
def Ql (c:Int):Bool:=af2 48 57 c
def Vf (c:Int):Bool:=abb c||Ql c
def inB (s:List UInt8)(c:Int):Bool:=decide (0<=Lib.indexByte s c.toNat.toUInt8)
def hide {p:Prop}(h:p):Hid p:=h
def Om {p:Prop}(h:Hid p):p:=h
def xH {α:Sort _}(a:α):∃ x,Hid (x=a):=⟨a,rfl⟩
def xE {α:Sort _}(a:α):∃ x,x=a:=⟨a,rfl⟩
def Uu {a b:Bool}(h:a=b):Ending.returned (OC a)=OQ (OC b):=by rw[h]
def afn (c lo am:Int)(p q:Addr)(w:Ov)(h1:w.cell? p=some (.int .u8 lo))(U:w.cell? q=some (.int .u8 am)) :
  OE 274 #[.int .u8 c,.pointer (some p),.pointer (some q)] w fun e w'=>e=OQ (OC (af2 lo am c))/\w'=w:=by
 go_enter func274,ntmps274
 go_wp2
 all_goals go_ret
 all_goals refine⟨Uu ?_,rfl⟩
 all_goals (simp[af2, *];try omega)
def axK (s:OH)(c:Int)(w:Ov):(callFunc 272 #[OB s,.int .u8 c]).run prog w=.ok (.value (Ol (Lib.indexByte s.data.toList c.toNat.toUInt8))) w:=by
 rw[run_callFunc_extern func272 PK PK PK (e:=Extern.BytealgIndexByte.indexByte) PK,Lib.run_indexByteString];rfl
def ajB (c:Int)(p:Addr)(s:OH)(w:Ov)(h1:w.cell? p=some (OB s)) :
  OE 138 #[.int .u8 c,.pointer (some p)] w fun e w'=>e=OQ (OC (inB s.data.toList c))/\w'=w:=by
 have jN:=axK s c;go_enter func138,ntmps138
 go_wp2
 go_ret;exact⟨Uu (by simp[inB]),rfl⟩
def aGQ:VR 138:=fun _ _=>by kernel_rfl
def aGR:VR 273:=fun _ _=>by kernel_rfl
def aGS:VR 274:=fun _ _=>by kernel_rfl
/-- A value is a axJ of p: in every later world it is a function that answers so and leaves the world as it was. -/
def Wx (w:Ov)(v:OG)(p:Int->Bool):Prop:=
 ∃ f caps,v=.func (.func f) #[] caps/\(∀ args W,(callFunc f args).run prog W=.ok (.enter f args) W)/\∀ W,OD w W->∀ b:UInt8,OE f (#[.int .u8 (b.toNat:Int)]++caps) W fun e C2=>e=OQ (OC (p (b.toNat:Int)))/\C2=W
def Wx.later {w w':Ov}{v:OG}{p:Int->Bool}(h:Wx w v p)(D:OD w w'):Wx w' v p:=by
 obtain⟨f,caps,rfl,aq,h⟩:=h;exact⟨f,caps,rfl,aq,fun W a1 c=>h W (D.trans (a1.mono D.size)) c⟩
def VE {w W:Ov}{b o:Nat}{v:OG}(D:OD w W)(h:w.cell? (Ot b o)=some v)(aQ:b<w.heap.size):W.cell? (Ot b o)=some v:=by
 rw[D.cell (p:=(Ot b o)) aQ];exact h
def Yk:∀ (fn:Fn) (first cap:Array OG) (w:Ov),(Instr.makeFunc fn first cap).run prog w=.ok (.func fn first cap) w:=fun _ _ _ _=>rfl
def aaQ (lo am:Int)(w:Ov) :
  OE 212 #[.int .u8 lo,.int .u8 am] w fun e w'=>∃ v,e=OQ v/\Wx w' v (af2 lo am)/\OD w w':=by
 have jx:=Yk;go_enter func212,ntmps212
 go_wp2
 go_ret;refine⟨_,rfl,⟨274,_,rfl,aGS,fun W a1 c=>?_⟩,PO.alloc O8 _⟩;refine afn _ lo am _ _ W ?_ ?_
 ·exact VE a1 (by simp[World.cell?_alloc_past,World.cell?_alloc_at]) Rh
 ·exact VE a1 (by simp[World.cell?_alloc_at]) O8
def ad6 (s:OH)(w:Ov) :
  OE 66 #[OB s] w fun e w'=>∃ v,e=OQ v/\Wx w' v (inB s.data.toList)/\OD w w':=by
 have jx:=Yk;go_enter func66,ntmps66
 go_wp2
 go_ret;refine⟨_,rfl,⟨138,_,rfl,aGQ,fun W a1 c=>?_⟩,PO⟩;refine ajB _ _ s W ?_;exact VE a1 (by simp[World.cell?_alloc_at]) O8
def ahn (c:Int)(p q:Addr)(f g:Nat)(oD m3:Array OG)(P Q:Int->Bool)(w:Ov)(vG:VR f)(Dc:VR g)(h1:w.cell? p=some (.func (.func f) #[] oD))(U:w.cell? q=some (.func (.func g) #[] m3))
  (aH:OE f (#[.int .u8 c]++oD) w fun e w'=>e=OQ (OC (P c))/\w'=w)
  (hg:OE g (#[.int .u8 c]++m3) w fun e w'=>e=OQ (OC (Q c))/\w'=w) :
  OE 273 #[.int .u8 c,.pointer (some p),.pointer (some q)] w fun e w'=>e=OQ (OC (P c||Q c))/\w'=w:=by
 have sj:Hid _:=aH;have sk:Hid _:=hg
 cases hP:P c
 ·go_enter func273,ntmps273;go_wp2_with fail;refine Calls.mono sj.out ?_;rw[hP];rintro e w' ⟨rfl,rfl⟩;go_wp2_with fail;refine Calls.mono sk.out ?_;rintro e w' ⟨rfl,rfl⟩;go_wp2;go_ret;exact⟨Uu O8,rfl⟩
 ·go_enter func273,ntmps273;go_wp2_with fail;refine Calls.mono sj.out ?_;rw[hP];rintro e w' ⟨rfl,rfl⟩;go_wp2;go_ret;exact⟨Uu O8,rfl⟩
def ajC (u v:OG)(P Q:Int->Bool)(w:Ov)(aT:Wx w u P)(av:Wx w v Q) :
  OE 211 #[u,v] w fun e w'=>∃ x,e=OQ x/\Wx w' x (fun c=>P c||Q c)/\OD w w':=by
 have jx:=Yk;obtain⟨f,oD,rfl,vG,aH⟩:=aT;obtain⟨g,m3,rfl,Dc,hg⟩:=av;have sj:=hide aH;have sk:=hide hg;clear aH hg;go_enter func211,ntmps211
 go_wp2
 go_ret;have D:OD w ((w.alloc (.cells #[.func (.func f) #[] oD] 140)).alloc (.cells #[.func (.func g) #[] m3] 140)):=PO.alloc O8 _;refine⟨_,rfl,⟨273,_,rfl,aGR,fun W a1 c=>?_⟩,D⟩;have DJ:=D.trans (a1.mono D.size);refine ahn _ _ _ f g oD m3 P Q W vG Dc ?_ ?_ (Om sj W DJ c) (Om sk W DJ c)
 ·exact VE a1 (by simp[World.cell?_alloc_past,World.cell?_alloc_at]) Rh
 ·exact VE a1 (by simp[World.cell?_alloc_at]) O8
def aaA (w:Ov):OE 142 #[] w fun e w'=>∃ x,e=OQ x/\Wx w' x Ql/\OD w w':=by
 go_enter func142,ntmps142;go_wp2_with fail;refine(aaQ 48 57 _).mono ?_;rintro e w' ⟨x,rfl,ae,D⟩;have dQ:=hide ae;have bL:=hide D;go_wp2;go_ret;exact⟨x,rfl,dQ.out,bL.out⟩
def Wx.congr {w:Ov}{v:OG}{p q:Int->Bool}(h:Wx w v p)(e:∀ b:UInt8,p (b.toNat:Int)=q (b.toNat:Int)):Wx w v q:=by
 obtain⟨f,caps,rfl,aq,h⟩:=h;exact⟨f,caps,rfl,aq,fun W a1 b=>by rw[<-e b];exact h W a1 b⟩
def amC (b:UInt8):inB [95] (b.toNat:Int)=((b.toNat:Int)==95):=by
 have key:∀ m:Fin 256,inB [95] ((m.val:Nat):Int)=(((m.val:Nat):Int)==95):=by decide +kernel
 exact key ⟨b.toNat,b.toNat_lt⟩
def Qe (c:Int):Bool:=c==32||c==10
def atg (b:UInt8):inB [32,10] (b.toNat:Int)=Qe (b.toNat:Int):=by
 have key:∀ m:Fin 256,inB [32,10] ((m.val:Nat):Int)=Qe ((m.val:Nat):Int):=by decide +kernel
 exact key ⟨b.toNat,b.toNat_lt⟩
def acH (w:Ov):OE 140 #[] w fun e w'=>∃ x,e=OQ x/\Wx w' x abb/\OD w w':=by
 go_enter func140,ntmps140;go_wp2_with fail;refine(aaQ 97 122 _).mono ?_;rintro e w1 ⟨x,rfl,ae,D⟩;have dQ:=hide ae;have bL:=hide D;go_wp2_with fail;refine(ad6 _ _).mono ?_;have z:=Oq (∀{G}(h:G:=by
 refine⟨bD,rfl,dW.out.congr (fun b=>by show (_||inB [95] _)=_;rw[amC];rfl),?_⟩
 exact aDo),G);exact aDp
def ath (w:Ov):OE 213 #[] w fun e w'=>∃ x,e=OQ x/\Wx w' x Vf/\OD w w':=by
 go_enter func213,ntmps213;go_wp2_with fail;refine(acH _).mono ?_;rintro e w1 ⟨x,rfl,ae,D⟩;have dQ:=hide ae;have bL:=hide D;go_wp2_with fail;refine(aaA _).mono ?_;have z:=Oq (∀{G}(h:G:=by
 refine⟨bD,rfl,dW.out.congr (fun b=>rfl),?_⟩;exact aDo),G);exact aDp
/-- The first place from k on whose byte is of another kind, or the end. -/
def OT (p:Int->Bool)(s:OH)(k:Nat):Nat:=k+((s.data.toList.drop k).takeWhile (fun b=>p (b.toNat:Int))).length
section
variable (p:Int->Bool) (s:OH) (k:Nat)
include p s k
theorem QL (h:k<=s.size):OT p s k<=s.size:=by
 unfold OT;have h1:=((List.takeWhile_prefix (l:=s.data.toList.drop k) (fun b=>p (b.toNat:Int))).length_le);have U:(s.data.toList.drop k).length=s.size - k:=by simp
 omega
theorem Yp (h:k<s.size)(al:p (s[k].toNat:Int)=true):OT p s (k+1)=OT p s k:=by
 have z:=Oq (∀{G}(h:G:=by
 rw[e,List.takeWhile_cons,if_pos al,List.length_cons];omega),G);exact aDq
theorem acI (h:k<s.size)(al:p (s[k].toNat:Int)=false):OT p s k=k:=by
 have z:=Oq (∀{G}(h:G:=by
 rw[e,List.takeWhile_cons,if_neg (by rw[al];simp)];rfl),G);exact aDq
theorem amD (h:s.size<=k):OT p s k=k:=by
 unfold OT;rw[List.drop_of_length_le (by simpa using h)];rfl
end
def abp {k:IntKind}{a b:Int}(h:a=b):Ending.returned (.int k a)=OQ (.int k b):=by rw[h]
def Yq (s:OH)(ce:Nat)(v:OG)(p:Int->Bool)(w:Ov)(ac:s.size<=maxLen)(iW:ce<=s.size)(av:Wx w v p) :
  OE 67 #[OB s,Ol (ce:Int),v] w fun e w'=>e=OQ (Ol (OT p s ce:Nat))/\w'=w:=by
 unfold maxLen at ac;obtain⟨f,caps,rfl,vG,aH⟩:=av;have aH:=aH w QX;have sj:=hide aH;clear aH;go_enter func67,ntmps67
 go_wp2
 go_loopw [1] (fun i wr=>∃ k:Nat,k<=s.size/\i=Ol k/\OT p s k=OT p s ce/\wr=w) (fun i _=>s.size - (intOf i).toNat)
 case atStart=>exact⟨ce,iW,rfl,rfl,rfl⟩
 case round=>
  obtain⟨k,E,rfl,aq,rfl⟩:=hrel;have dH:=hide aq;clear aq
  by_cases aQ:k<s.size
  ·
   cases al:p (s[k].toNat:Int)
   ·have bI:=hide (acI p s k aQ al);have HP:=hide al;clear al;go_wp2_with fail;refine Calls.mono (Om sj _) ?_;rw[HP.out];rintro e w' ⟨rfl,rfl⟩;go_wp2;go_ret;exact⟨abp (by rw[<-dH.out,bI.out]),rfl⟩
   ·have bI:=hide (Yp p s k aQ al);have HP:=hide al;clear al;go_wp2_with fail;refine Calls.mono (Om sj _) ?_;rw[HP.out];rintro e w' ⟨rfl,rfl⟩;go_wp2
    go_roundw
    case rel=>exact⟨k+1,by omega,by go_num,by rw[bI.out,dH.out],by trivial⟩
    case measure=>simp[intOf];omega
  ·have bI:=hide (amD p s k Ou);go_wp2;go_ret;exact⟨abp (by rw[<-dH.out,bI.out]),rfl⟩
