import Derived.Test.YticfnaiehdpbmaaGreatDoorFa0
set_option maxRecDepth 100000
set_option maxHeartbeats 8000000
set_option linter.all false
namespace Go.Proofs.YticfnaiehdpbmaaGreatDoor
open Go.RowKit Go.Proofs.Tryz
section
variable {G L:Prop}
def tk (h:G:=by
  rw[b7] at da;have c9:=Y b7;clear b7;go_wp2_with fail;refine UC 11 λa=>?_;refine zlk ?_;exact(b).o):G:=h
def Ky (h:G:=by
  rw[<-a1] at s C D;rw[<-a6] at s;refine ve ?_;clear a1 a6;have d:=UA e VT aZ t i C E;go_wp2_with fail;refine cm d ?_;rintro m a ⟨rfl,O⟩;have k:=C.fH O;have F:=D.next (Ap.of O);replace s:=Y (Open.fH s (Ap.of O) o.out);clear O;exact(b).o):G:=h
def Hm (h:G:=by
  refine L7 ?_;refine wg 1 (O3 x.kd) rfl (fM ⟨by kernel_rfl,λU ap=>by obtain⟨_,aK,_,_,_,_⟩:=je ap;go_simp⟩) c.out ?_
  refine wh 2 (Qi e) c.out ?_;refine wh 3 (Qi e) c.out ?_;refine wh 4 (.func (.func 311) #[Qi e] #[]) c.out ?_;refine Ye 5 λK k=>?_;go_simp;refine lC ?_;exact(b).o):G:=h
def Cu (h:G:=by
  refine Mn ?_;refine uc 3 (Pj aD) rfl (fM ⟨by kernel_rfl,λL H=>by have aO:=PN H (aI);go_simp⟩) (a) ?_
  refine DQ ?_;refine uh 6 (.pointer (some ⟨g,1,none⟩)) (a) ?_;refine uc 7 (Pj bt) rfl (fM ⟨by kernel_rfl,λL H=>by have aO:=PN H (aJ);go_simp⟩) (a) ?_
  exact(b).o):G:=h
def Jf (h:G:=by
  have W:∀ {listed:Array Bool} {a:Nat} {d:Oper},b ∈ Region.ready bH aU listed->(∀ c ∈ d.after,Region.binds bH c=true->listed.getD c.on false=true)->∀ c ∈ d.after,Region.binds bH c=true->c.on≠b:=by
   intro listed a d e l c F E q;exact Di
  intro k;exact(z).o):G:=h
def FV (h:G:=by
  obtain⟨w2,aD⟩:=xH (w.alloc (.cells #[O3 0,O3 0,Qn] 65));have r:Pn w w2:=by rw[aD.out];exact QJ
  obtain⟨H,aj⟩:=xE w.heap.size;have aI:w2.heap[H]? = some (PZ #[O3 0,O3 0,Qn] 65):=by rw[aD.out,aj];exact Ph _ _
  have aF:w.heap.size<=H:=O9;exact(b).o):G:=h
def JR (h:G:=by
  have ad:=Zg;have m:=Y m;have HP:=Y HP
  go_enter_defers func34,ntmps34
  go_wp2_with fail;refine cm m.out ?_;rintro f i ⟨c,rfl,B,w,A,o⟩;have R:=HP.out c i B A;have U:=Y w;clear B w;go_wp2_with fail;refine cm R ?_;intro f b z;exact(k).o):G:=h
def uC (h:G:=by
  clear be ap am h z ac M aD aC cH F E s;go_enter func48,ntmps48;go_wp2_with fail;exact(b).o):G:=h
def Ab (h:G:=by
  have aS:=bB.lt;obtain⟨aj,cq⟩:=xH ((w.alloc (.cells #[O3 f,O3 o,Pv false,.pointer aK] 73)).alloc (.cells #[O3 0,O3 0,Qn] 65));exact(b).o):G:=h
def Gj (h:G:=by
  rintro wt ea s r;have cH:=Y (r.fr.rest H _ _ en.out Pm (λm=>em (by cases m;rfl)))
  have dM:P8 none k w wt:=P8.down (eo.up.trans r.fr) ek;have dJ:=r.ms;have ac:=r.er;have cW:=r.la;obtain⟨d5,d4,d6,d7,d8,d9,ec⟩:=Qb cH.out;clear ai;exact(b).o):G:=h
def Fi (h:G:=by
  replace r:=Qa.fH (λk g _=>f.block k g.2 (by have a7:=O4 o;have a6:=g.1;omega)) _ _ r
  have d:=Ze O.heap.size ax ay wb aj ak;go_wp2_with fail;refine cm d ?_;rintro m s ⟨rfl,aV,D⟩;have am:=ap.trans ((Ap.of D).mono ah.size);exact(b).o):G:=h
def H3 (h:G:=by
  have ad:f.cell? ⟨b,0,none⟩=some (Ve b):=by rw[Lib.cell_of_heap i];rfl
  have ai:f.cell? ⟨b,1,none⟩=some w:=by rw[Lib.cell_of_heap i];rfl
  have aj:f.frozen? ⟨b,1,none⟩=false:=Lib.frozen_of_heap i 1;obtain⟨v,u,s,rfl⟩:=atE hown';exact(p).o):G:=h
def sf (h:G:=by
  have bF:=bE.trans am;have ba:=T.lt;have B:=aZ.kp am.Vo;exact(b).o):G:=h
def tB (h:G:=by
  have bZ:j=f.length:=O9;subst bZ;have aW:¬ (f.length:Int)<(f.length:Int):=O9;exact(b).o):G:=h
def tg (h:G:=by
  go_enter func36,ntmps36;go_wp2_with fail;refine cm d ?_;rintro m au ⟨rfl,s,i⟩;exact(b).o):G:=h
def Js (h:G:=by
  obtain⟨aF,aC,aD,au,ay⟩:=gY r8;obtain⟨aI,aG⟩:=b.hh.at_ 6 _ rfl;have ax:=b.lt;obtain⟨n,p,u⟩:=PW b.ow;have S:=b.ow;have O:=Y i;obtain⟨m,P⟩:=xH g.Rx.length;rw[<-P.out] at S s u;clear i;subst u;exact(t).o):G:=h
def sY (h:G:=by
  obtain⟨au,ax,b8,aC,ak⟩:=h.c;have B:Pn w (w.alloc (.cells #[Pj a] 9)):=QJ;exact(b).o):G:=h
def zb (h:G:=by
  have ap:Pn w o:=by rw[z];exact QJ.alloc P7 _
  obtain⟨W,bu⟩:=xE w.heap.size;obtain⟨H,bh⟩:=xE (w.heap.size+1);exact(b).o):G:=h
def ud (h:G:=by
  have U:=O4 R C A;rw[<-p];refine cm U ?_;rintro m aS ⟨rfl,ai⟩;exact(b).o):G:=h
def xq (h:G:=by
  have q:=Y (fQ g ai.out);have aj:=F.trans (g.mono F.size);obtain⟨aD,ay,aC,aF,aG,aI,aK⟩:=Qb q.out;exact(e).o):G:=h
def F8 (h:G:=by
  have eC:=bG;have dT:=Y (fQ da de.out);have eB:=cn.fH da;have ey:=dt.trans (P8.of (L:=none) da (P6 dg));obtain⟨b7,dr⟩:=xE dS.1;rw[<-dr];have ez:=Y dr;clear dr;obtain⟨u0,u1,u2,eU,eV,eW,eX⟩:=Qb dT.out;exact(b).o):G:=h
def xh (h:G:=by
  refine cm (O4 cV _ (cQ) cI (cz)) ?_;rintro m aI ⟨⟨s,rfl,aW⟩,bL,bj,bM⟩;refine ko c ?_;clear c K;exact(b).o):G:=h
def JL (h:G:=by
  rw[q.out] at d;go_wp2_with fail;refine cm d ?_;intro m N p;obtain⟨⟨br,rfl,I,rfl,a6⟩,c,f⟩:=p;have aI:=F.next f;have bf:=Y (xL C F.size f o.out a6);have bq:=KV.fH C f o.out;have bo:=c.lt;exact(b).o):G:=h
def tA (h:G:=by
  rintro wz D s d;have br:=d.ms.lt;have ac:P8 none k w wz:=bE.trans d.fr;exact(b).o):G:=h
def t1 (h:G:=by
  go_enter func65,ntmps65
  go_wp2
  refine wp_loop_rounds 1 ?_;rw[rounds_succ]
  go_wp2
  go_ret;exact(d).o):G:=h
def xw (h:G:=by
  refine cm (SC.Nf _ R) ?_;rintro e be ⟨rfl,bf⟩;have w:Pn c be:=R.trans (bf.mono R.size);go_wp2_with fail;exact(b).o):G:=h
def y5 (h:G:=by
  refine cm (SC.ha1 _ w) ?_;rintro e bh ⟨rfl,bi⟩;have j:Pn c bh:=w.trans (bi.mono w.size);go_wp2_with fail;exact(b).o):G:=h
def Lz (h:G:=by
  have aG:=D 4 _ rfl;rw[aF] at aG;have E:=ac.fH e;have bc:=X.trans (e.mono X.size);have M:g.heap[w.heap.size]? = some (PZ #[Pj f] 9):=by
   refine DN (w:=w) (a:=g) ?_;rw[<-s.out];exact e.mono (by rw[s.out];simp)
  exact(b).o):G:=h
def Ha (h:G:=by
  refine c.out _ _ (λ_=>dJ) ?_;clear c K;refine Rl 8 λK c=>?_;go_simp;refine cm (O4 cr _ r) ?_;rintro m p ⟨rfl,d5,d4,cx,aV⟩;have ax:=cw.fH r;have b1:=aV.jn (o:=some i) ax;have be:=aV.jn (o:=none) ax;exact(b).o):G:=h
def LQ (h:G:=by
  intro m O p;obtain⟨⟨be,rfl,ai,rfl,a1⟩,c,f⟩:=p;have ah:=q.next f;have ad:=c;have aZ:=Ub a1 q.size;have r:=Qa.mono (J:=λk=>w.heap.size<=k/\k<O.heap.size) (λ_ g aQ=>⟨g,aQ⟩) _ _ aZ;exact(b).o):G:=h
def tM (h:G:=by
  refine c _ _ ?_;clear c K;refine WL 6 λK c=>?_;go_simp;refine cm ah ?_;exact(b).o):G:=h
def Gf (h:G:=by
  refine aMD ?_;refine uc 24 (Pj aD) rfl (fM ⟨by kernel_rfl,λL q=>by have aO:=PN q (aI);go_simp⟩) (a) ?_
  refine aME ?_;refine uc 28 (Pj bt) rfl (fM ⟨by kernel_rfl,λL q=>by have aO:=PN q (aJ);go_simp⟩) (a) ?_
  exact(b).o):G:=h
def Al (h:G:=by
  obtain⟨bF,cy,ds,aD,aC,cz,_⟩:=cu.Zf (a:=1) O9;rw[cf,<-a1.out] at aD;obtain⟨dH,cC⟩:=xE bF.p;exact(b).o):G:=h
def J9 (h:G:=by
  rintro a z ⟨y,rfl,r,o⟩;have s:=Y r;have l:=Y o;go_wp2_with fail;refine(Ym x y _ _ _ (j.out.fH l.out) s.out).mono ?_;rintro a w ⟨g,rfl,p,q⟩;have i:=Y p;have u:=Y q;go_wp2;go_ret;exact(k).o):G:=h
def yE (h:G:=by
  have aZ:Hid (∀ d,Pn w d->Pq 102 #[O5 i] d λm g=>m=PK (Pv true)/\g=d):=λd k=>wY
  exact(b).o):G:=h
def Dk (h:G:=by
  subst B;have cL:s=QW:=A.er;subst cL;have cr:=b9.cells.2.1;have dc:=b9.cells.1;rw[cU.out,<-a1.out] at cr;rw[<-a1.out] at dc;have dz:=Y cr;have dr:=Y (fX A.v);clear cr;have da:=Y (λL=>X6 f L);exact(b).o):G:=h
def yU (h:G:=by
  rw[X] at d k;simp only[QK] at k;clear X;go_wp2_with fail;refine YL ?_;intro m bF p;obtain⟨rfl,f⟩:=p;exact(b).o):G:=h
def Cm (h:G:=by
  obtain⟨bo,bq,bm,br,ba⟩:=h.c;obtain⟨n,s⟩:=xH (w.alloc (.cells #[Pj f] 9));have bn:n.cell? (O7 w.heap.size 0)=some (Pj f):=by rw[s.out];simp
  have X:Pn w n:=by rw[s.out];exact QJ
  have ac:=h.fH X;exact(b).o):G:=h
def yT (h:G:=by
  have M:=bo.next (Ap.of D);have H:=aj.fH D;replace A:=Y (TP A (Ap.of D) o.out);exact(b).o):G:=h
def BZ (h:G:=by
  subst p;clear X a m S;go_enter func321,ntmps321;go_wp2_with fail;refine cm HP ?_;rintro c q ⟨d,rfl,s,o⟩;have O:=s;have b:=o;go_wp2_with fail;refine cm (O4 N d q O.nt) ?_;rintro c w2 ⟨n,H⟩;exact(j).o):G:=h
def Ao (h:G:=by
  have ac:=aZ;have aK:=bT;have bC:=Y cn;have au:=Y a7;have aj:=bV;have bY:=aZ.lt;clear cn a7;exact(b).o):G:=h
def wl (h:G:=by
  go_wp2_with fail;obtain⟨bn,aV,aQ,aD,aC,bm,be,bj⟩:=iT aN.out a7.out aS bF T (O3 0) (O3 0) (Qn);exact(b).o):G:=h
def zz (h:G:=by
  go_wp2_with fail;obtain⟨bn,aV,b3,bR,bv,bm,be,bj⟩:=iT bG.out a7.out aS ci dq (O3 0) (O3 0) (Qn);exact(b).o):G:=h
def LL (h:G:=by
  replace r:=Qa.fH (λk g _=>D.block k g.2) _ _ r;obtain⟨F,rfl,aS⟩:=aV.nv;have au:=Qa.mono (J:=λk=>gp w.heap.size k/\O.heap.size<=k) (λ_ g _=>⟨f9 ah.size g,g⟩) _ _ aS;exact(b).o):G:=h
def FW (h:G:=by
  have F:=(f2 w.heap.size w).alloc Qp (.cells #[O3 0,O3 0,Qn] 65);have ai:=Y (Ph w (.cells #[O3 0,O3 0,Qn] 65));obtain⟨w2,m⟩:=xH (w.alloc (.cells #[O3 0,O3 0,Qn] 65));rw[<-m.out] at ai F;exact(e).o):G:=h
def IU (h:G:=by
  have d:Hid _:=bV wr a g s;rw[ad] at d;clear ad;have bz:((n.length:Int)==8)=true:=jL.2 O9;have b3:=Y H;clear H;go_wp2_with fail;refine YL ?_;rintro m aQ ⟨rfl,U⟩;have ac:=A.next (Ap.of U);exact(b).o):G:=h
def E0 (h:G:=by
  obtain⟨E,bZ⟩:=xE (Q7 (Qe e.l n).tx);rw[<-bZ] at i;have d:=sI e w n q b9 cf.out;rw[<-bZ] at d;clear bZ;go_wp2_with fail;refine cm d ?_;rintro m wk ⟨rfl,b1,cx⟩;have ba:=R.next cx;exact(b).o):G:=h
def Lu (h:G:=by
  have bZ:j=ah.length:=O9;subst bZ;have aW:¬ (ah.length:Int)<(ah.length:Int):=O9;obtain⟨bf,bx,bq,br,_,bv⟩:=fN bC.out;obtain⟨fw,ft,fv,fy,fz,fA,fB,fs,fD⟩:=RN au.out;go_wp2_with fail;exact(b).o):G:=h
def H1 (h:G:=by
  have aD:=(P8.of (L:=none) a (P6 bO)).trans ax;have bL:=Y (aD.fR bQ.out Pm);have cM:=bE.trans aD;obtain⟨W,ac⟩:=xH aC.1.1;rw[<-ac.out];obtain⟨u0,u1,u2,bc,bq,bM,bV⟩:=Qb bL.out;exact(b).o):G:=h
def vV (h:G:=by
  have d:=Qh e Q9 (F.setCell (O7 g 3) (.slice (some (O7 bE 0)) (aJ.fJ.length+1) bC)) C q bD Pm;exact(b).o):G:=h
def DO (h:G:=by
  have bM:=Y aQ;have cg:=Y X;have de:=Y ak;have dh:=Y ai;have cU:=Y cG;clear F aW aQ X ad bo aY bC bx bq bS ak ai cG;go_enter func258,ntmps258;go_wp2_with fail;refine iz ?_;clear bu bh;exact(b).o):G:=h
def LM (h:G:=by
  subst B;have a6:s=QW:=aG;subst a6;have cf:=O4 cR D p bI.out;have bT:=cg.cells.2.2.1;have dx:=cg.cells.1;rw[<-a1.out] at bT dx;obtain⟨aI,bU⟩:=xE A.2.tx;rw[<-bU] at bT;have ci:=Y bT;exact(b).o):G:=h
def BQ (h:G:=by
  have r:D.heap[aj]? = some (PZ #[O3 v.k,O3 v.n,Pj v.s] 65):=by rw[F.out,H];exact Ph _ _
  have aS:=fI r;have aI:k<D.heap.size:=by have:=A.size;omega
  have aG:=Y (fX r);exact(p).o):G:=h
def yS (h:G:=by
  obtain⟨s,o⟩:=XP f.1 e _ (by rw[i6,ga c];rfl)
  rw[o] at b;exact(j).o):G:=h
def xN (h:G:=by
  have aF:=Y (λL (i:Pn w2 L)=>Ml ay (bf.fH i) (cK.kp (Kp.of i)) ⟨l,q,r⟩ o ad);exact(b).o):G:=h
def II (h:G:=by
  have dh:j<s.length:=O9;have bQ:=(UW.get _ _ e6 j ax dh).kp aj;obtain⟨d5,_,aY,_⟩:=bQ.cells;have aW:(j:Int)<(ah.length:Int):=O9;obtain⟨x,E⟩:=xE ((s[j]).2.tx);rw[<-E] at aY;exact(b).o):G:=h
def Ah (h:G:=by
  obtain⟨dG,dF,dH,D,dL⟩:=fX am.out;have dI:=D 0;have dJ:=D 1;have dK:=D 2;clear D;exact(b).o):G:=h
def EZ (h:G:=by
  obtain⟨c,aj,bO,rfl,rfl,P,u⟩:=hrel;have D:wr.heap[q]? = some (PZ #[Pj k] 9):=(P.block q br (λE=>bo (gQ E))).trans bq.out;have bn:d<wr.heap.size:=(u.lt d rfl).2;exact(b).o):G:=h
def DZ (h:G:=by
  have ak:=Y W;clear N ad s W S w D z B;go_wp2_with fail;refine cm T ?_;rintro E i ⟨rfl,j⟩;have bQ:wr.heap.size+1<=i.heap.size:=by have:=j.size;simpa using this
  exact(b).o):G:=h
def FL (h:G:=by
  refine TQ ?_ _;have bY:(Instr.lookup 80 (.map (some I)) (O5 aj) true).run prog p=.ok (.tuple #[(O3 (j:Int)),Pv true]) p:=by
   rw[B];unfold uW;rw[bh.out];rfl
  clear B;go_simp;go_wp2_with fail;exact(b).o):G:=h
def AL (h:G:=by
  rw[<-aC] at T;have bB:Hid (aJ.fJ.length=0):=by
   show _=_
   rw[aC];rfl
  have cA:Hid (aJ.kd=E):=by
   show _=_
   rw[aC];rfl
  have ck:=Y aC;obtain⟨g,u0,cL,b2,au⟩:=T.opens;exact(b).o):G:=h
def Ij (h:G:=by
  have bS:=Y (λL (ah:Ms M k I z L g) (i:P8 none k w2 L)=>ad L bU o ah (aK.kp i.Vo));rw[X] at bS;rw[<-T] at bS;obtain⟨ci,bI⟩:=xH (ou ((f,E),C));rw[<-bI.out];clear X;exact(b).o):G:=h
def wR (h:G:=by
  obtain⟨p,o⟩:=xH (w.alloc (.cells #[Ry] 122));have b:Pn w p:=by rw[o.out];exact QJ
  exact(I).o):G:=h
def yR (h:G:=by
  obtain⟨bI,D⟩:=xE (f[j]);rw[<-D] at p d;have bG:(j:Int)<(a.fJ.length:Int):=O9;exact(b).o):G:=h
def DB (h:G:=by
  have be:=Y X;have dc:=Y ak;have dh:=Y ai;have dm:=ba.fH ap;clear F aW X ad b3 aY b6 bx bq bS ak ai;go_enter func111,ntmps111;go_wp2_with fail;refine iz ?_;clear bu bh;exact(b).o):G:=h
def Lh (h:G:=by
  have aC:T.heap[cB]? = some (pM ⟨l,q,r⟩ o)/\T.cell? (O7 U 1)=some (Pj B):=⟨W.fR ai.out.1 Pm,W.Vo.YJ ai.out.2 bL.out⟩;refine c.out _ _ (λ_=>aC) ?_;clear c K;exact(b).o):G:=h
def LD (h:G:=by
  go_enter func262,ntmps262;go_wp2_with fail;refine iz ?_;clear bu bh;refine cm c ?_;rintro m aI ⟨⟨s,rfl,aG⟩,b7,aF⟩;have bF:=Y (aF.fR bQ.out Pm);have cG:=bE.trans aF;exact(b).o):G:=h
def HA (h:G:=by
  have b:=YC e;have f:((kW (fx a d)).filter (λo=>decide (o.parts<2))).isSome=true:=by
   unfold iu at e;have n:=oM.1 e;rw[n.1];simp[Option.filter,b.2]
  exact(i).o):G:=h
def A0 (h:G:=by
  have k:Hid ((z a g).bind (λu am=>if fx e.l am=shut then PR.ok (n++[u]) (am+1) else (Qm e.l XK am).bind λ_ i2=>Uu e.l shut begins (z a) j (n++[u]) i2)=E):=O4 D;exact(b).o):G:=h
def Hq (h:G:=by
  obtain⟨i,p,q⟩:=(o.out.fH r.out.below).cells;simp only[Tr.kd,Tr.tx,Tr.n] at i p q;have l:u<k.heap.size:=by have w:=o.out.lt;have t:=s.out.size;simp at t ⊢;omega
  exact(e).o):G:=h
def BV (h:G:=by
  go_enter func268,ntmps268;go_wp2_with fail;rw[<-H.out,<-aj.out];refine cm F ?_;rintro m ap ⟨rfl,ah⟩;rw[ah];clear ah ap;go_wp2_with fail;refine UC 6 λa=>?_;refine iy ?_;exact(p).o):G:=h
def CN (h:G:=by
  have ck:=bC.new bv (tY bT.out _);have aW:=cR.kp (λN e m O bQ=>bv.rest N e m O (by rcases bQ with rfl|rfl <;> decide));rw[<-bq] at B E ck aW ⊢;have cQ:=Y E;exact(b).o):G:=h
def D3 (h:G:=by
  have aS:Po { a with scope:=g.gg } (g.gq a.scope aL (-2)):=⟨by show (0:Int)<=(g.M.Pz.length:Int);omega,by show (g.M.Pz.length:Int)<_;simp[St.gq,Mo.scope];omega⟩
  exact(T).o):G:=h
def vR (h:G:=by
  have v:k=none:=by
   rw[l] at e
   cases k with
   | none=>rfl
   | some y=>simp at e
  subst v;exact(i).o):G:=h
def Gb (h:G:=by
  have b4:g<q:=O4 bG a g u q bE X;rw[X] at d k;simp only[gb] at k;clear X;go_wp2_with fail;refine YL ?_;intro m I p;obtain⟨⟨b6,rfl,M,rfl,be⟩,c,f⟩:=p;exact(b).o):G:=h
def zl (h:G:=by
  have C:=t;have ak:=s;rw[<-f];clear f;refine k.out _ _ C (λ_=>?_);clear k K;exact(b).o):G:=h
def JJ (h:G:=by
  refine cm (TN e _ n c l.drew) ?_;rintro g B ⟨rfl,q⟩;have d:=l.drew.fH q;have m:=p.trans ((RP.drew.trans q).mono p.size);refine tW ?_;clear k K;exact(b).o):G:=h
def J5 (h:G:=by
  obtain⟨ad,w,v⟩:=jf.1 s;have I:=Y w;have F:=Y v;have z:=Y n;have B:=Y (i7 f _ n);clear n s w v;exact(b).o):G:=h
def AJ (h:G:=by
  rw[<-bR,<-bC,ci] at cV;have dr:Hid (aZ=rn E b6 b3):=by
   show aZ=_
   have h:=O4 cU;rw[<-bR,<-bC,ci] at h;exact h
  have bE:=Y bv;have ew:=fV bv;exact(b).o):G:=h
def IM (h:G:=by
  have d:=aD.pr (x.str+1) O9 O9 ((t.setCell (O7 e.R 1) (O3 ((l:Int)+1))).alloc (.cells #[Pj x.tx,O3 x.kd,O3 x.parts,O3 x.str] 275)).drew k (l+1) _ rfl (by rw[X];nofun) bq
  exact(b).o):G:=h
def w5 (h:G:=by
  refine uk 6 dt.out a ?_;refine kT 7 dy.out a ?_;refine Rl 8 λK c=>?_;go_simp;refine tt ?_;exact(b).o):G:=h
def DK (h:G:=by
  refine tW ?_;clear k K;refine wg 6 (.tuple #[.agg #[Qn,O3 0,O3 0,O3 0],Pv false]) rfl (fM ⟨by kernel_rfl,λa l=>by have aj:=aG.out a l;go_simp⟩) d ?_
  refine Io ?_;exact(b).o):G:=h
def K6 (h:G:=by
  have v:m=c+1:=O9;subst v;have O:g<f.length:=by rw[<-o.out];exact C
  have z:(Lm f g c).length=c+1:=by rw[B4 O (by rw[<-o.out];omega),o.out]
  exact(b).o):G:=h
def Dw (h:G:=by
  have HP:=Y D;clear D;go_wp2_with fail;refine(afa _ _ _ (by unfold maxLen;simp;omega) (by unfold maxLen;omega)).mono ?_
  rw[HP.out];rintro U ad ⟨rfl,rfl⟩;go_wp2_with fail;exact(H).o):G:=h
def EA (h:G:=by
  rw[<-cr] at cy b0 dS bU ⊢;rw[<-bG.out] at cz dR cw bT;rw[<-cu.out] at bS;have ci:=Y (PN ap cy);have bF:=Y (PN ap cz);have c8:=Y (PN ap bS);exact(b).o):G:=h
def ED (h:G:=by
  have bv:=Y T;clear T aK;go_wp2_with fail;obtain⟨a6,aV,aQ,bD,bC,bn,bm,bj,bo⟩:=kH cn.out a7.out aS cJ cp (Pv false) (O3 am) (O3 aC) (Pj aD);rw[<-aV];exact(b).o):G:=h
def Cv (h:G:=by
  refine cm (O4 cr _ au) ?_;rintro m p ⟨rfl,d5,d4,cx,aV⟩;have ax:=cw.fH au;have b1:=aV.jn (o:=some i) ax;have be:=aV.jn (o:=none) ax;exact(b).o):G:=h
def LY (h:G:=by
  refine wg 6 (.tuple #[.agg #[Pj x.tx,O3 x.kd,O3 x.parts,O3 x.str],Pv true]) rfl (fM ⟨by kernel_rfl,λa s=>by have T:=aD.out a s;go_simp⟩) d ?_
  refine Ju ?_;exact(b).o):G:=h
def G9 (h:G:=by
  have ch:aI.heap[wr.heap.size]? = some (PZ #[O3 0,O3 0,Qn] 65):=ax.fR (Ph _ _) Pm;obtain⟨eP,eL,eQ,eM,eN,eO,eR⟩:=Qb ch;refine pN ?_;refine n6 ?_;exact(b).o):G:=h
def D8 (h:G:=by
  go_enter func110,ntmps110;go_wp2_with fail;refine iz ?_;clear bu bh;refine cm cA ?_;rintro m aZ ⟨⟨dO,rfl,X⟩,s⟩;obtain⟨ua,dN,dy⟩:=PW X;subst dy;exact(b).o):G:=h
def GW (h:G:=by
  have d:=Zm 348 349 (hO e.l) (oz e.l k) Rz Tt (Tp e) (axI aS) aJW aJX Pm Pm (MT bh) k.fuel ac.drew l a8 _ rfl (by rw[X];nofun) bj.drew
  exact(b).o):G:=h
def Bx (h:G:=by
  go_enter func154,ntmps154;have d:=Qh e md w n i h Pm;rw[bW] at d;go_wp2_with fail;refine cm d ?_;intro m cC p;obtain⟨⟨ac,rfl,rfl⟩,q,f⟩:=p;exact(b).o):G:=h
def LN (h:G:=by
  refine Rl 4 λK c=>?_;go_simp;refine cm (O4 da _) ?_;rintro m cR ⟨rfl,dm⟩;have p:Pn wz cR:=a.trans dm;refine c.out _ _ (λ_=>p) ?_;clear c K;exact(b).o):G:=h
def Im (h:G:=by
  go_wp2_with fail;refine iz ?_;clear bu bh;refine UC 6 λa=>?_;refine kI ?_;refine uk 4 ed.out a ?_;refine kT 5 c8.out a ?_;refine Rl 6 λK c=>?_;go_simp;refine l9 ?_;exact(b).o):G:=h
def Lc (h:G:=by
  have z:=((Ap.refl e.R H.heap.size H).drew).next f;have ap:Hid (Ap e.R H.heap.size H a/\QC e a I i/\Qa (gp H.heap.size) a ac l):=⟨z,q,T⟩;exact(b).o):G:=h
def HO (h:G:=by
  have bW:=Y (ax.fR bV.out Pm);have dp:=ah;have eZ:=aK;have dn:=cg.trans ax;obtain⟨ch,dh⟩:=xE ec.1.1;rw[<-dh];have eY:=Y dh;clear aK ax dh;exact(b).o):G:=h
def Fq (h:G:=by
  have O:=M.alloc M.size (.cells #[Pj x.tx,O3 x.kd,O3 x.parts,O3 x.str] 275);have N:=H.alloc (.cells #[Pj x.tx,O3 x.kd,O3 x.parts,O3 x.str] 275);exact(b).o):G:=h
def LE (h:G:=by
  refine uaZ 11 ?_;refine TQ ?_ _;have cT:=Y (fQ p b1.out);have cS:=A.ms.fH p;have c8:=b4.trans (P8.of (L:=none) p (P6 cD));have dn:=cS.lt;exact(b).o):G:=h
def Ii (h:G:=by
  have r:=((Ap.refl e.R q.heap.size q).drew).next f;have ap:Hid (Ap e.R q.heap.size q a/\QC e a aO k/\Qa (gp q.heap.size) a aQ l):=⟨r,z,D⟩;exact(b).o):G:=h
def Jh (h:G:=by
  have d:=N.pr 2 Pm Pm (wt.alloc (.cells #[O3 (Qe e.l n).kd,Pj (Qe e.l n).tx,O3 (Qe e.l n).n,O3 ((Qe e.l n).pl:Int)] 144)) j n _ rfl (by rw[X];nofun) ai
  exact(b).o):G:=h
def LR (h:G:=by
  have cG:=Y (λL (ah:Ms M k I z L g) (c:PX z L u a)=>asK ah cC O9 c cD ⟨f,o,false⟩ aK b9);rw[ch,<-aD.out] at cG;have cU:=Y aG;exact(b).o):G:=h
def GU (h:G:=by
  unfold vZ at q;clear h f;go_enter func313,ntmps313;go_wp2_with fail;refine cm q ?_;rintro g N ⟨rfl,d⟩;obtain⟨z,s,v,M,i⟩:=Yy (d.mono P7);exact(b).o):G:=h
def J8 (h:G:=by
  have u:=Ji e c a b j k l f i s n;rw[Us e c a b d j k l f i n u.1] at h;have D:=V9 TU a f;have r:=UL TU a f u.2;exact(t).o):G:=h
def Jd (h:G:=by
  have d:=S0 au ((t.setCell (O7 e.R 1) (O3 ((n:Int)+1))).alloc (.cells #[Pj x.tx,O3 x.kd,O3 x.parts,O3 x.str] 275)).drew l (n+1) ax (by rw[X];nofun)
  exact(b).o):G:=h
def JU (h:G:=by
  obtain⟨bx,E⟩:=xE q.tx;rw[<-E] at F ci;have bc:=Y E;clear E;refine UC 10 λa=>?_;refine iy ?_;refine uh 3 (O3 g) (a) ?_;refine xW ?_;exact(b).o):G:=h
def FK (h:G:=by
  obtain⟨aQ,_,_,_,_⟩:=fZ au.gw;rw[cA.out] at aQ;have a6:=fI au.gw;rw[aD] at au aQ a6;have aj:=ac;have U:=ah;clear b2 aC;exact(b).o):G:=h
def JM (h:G:=by
  rintro m dZ ⟨⟨u3,rfl,dg⟩,aV⟩;obtain⟨d4,d1,e3⟩:=PW dg;subst e3;have d3:=de.fH aV;have d0:=d2.trans (SL.of aV (P6 de.lt));exact(b).o):G:=h
def K8 (h:G:=by
  rw[a] at hP;have HP:=hP;have p:A=none:=by rw[X];unfold j0;rw[a]
  subst p;clear X a;go_enter func321,ntmps321;go_wp2_with fail;refine cm HP ?_;exact(j).o):G:=h
def EH (h:G:=by
  refine wg 6 (.tuple #[.agg #[Qn,O3 0,O3 0,O3 0],Pv false]) rfl (fM ⟨by kernel_rfl,λa s=>by have T:=aD.out a s;go_simp⟩) d ?_
  refine Io ?_;exact(b).o):G:=h
def Gx (h:G:=by
  obtain⟨u0,aG⟩:=B 0 Pm;obtain⟨u1,aJ⟩:=B 1 Pm;obtain⟨u2,aK⟩:=B 2 Pm;obtain⟨u3,aL⟩:=B 3 Pm;obtain⟨u4,aI⟩:=B 4 Pm;exact(b).o):G:=h
def IW (h:G:=by
  intro m z p;obtain⟨⟨N,rfl,F⟩,t,f⟩:=p;have v:=R.next f;have n:=KV.mono F.1 R.size;clear h;obtain⟨w,u,rfl⟩:=n.shape;exact(b).o):G:=h
def Ib (h:G:=by
  unfold Xn at h;obtain⟨_,P,N,h⟩:=fS h;obtain⟨H,i,e,h⟩:=fS h;obtain⟨z,i2,b,h⟩:=fS h;obtain⟨A,m,d,h⟩:=fS h;exact(r).o):G:=h
def Dp (h:G:=by
  have s:=N.fH n;obtain⟨D,C,q⟩:=s.hw;have o:=Te l b a ak k j s.lw D C q;rw[p.out] at o;refine cm o ?_;clear q;exact(g).o):G:=h
def FD (h:G:=by
  have t:∀ e,i.cell? (O7 d e)=wr.cell? (O7 d e):=λe=>by
   rw[gD M (a:=(O7 d e)) (by show d<_;omega),hb _ _ _ bn]
  exact(b).o):G:=h
def F5 (h:G:=by
  have s:=N.fH o;obtain⟨S,O,t⟩:=s.hg;have E:=ND m b a q k j s.lg s.zg S O t;rw[p.out] at E;refine cm E ?_;exact(g).o):G:=h
def Ga (h:G:=by
  unfold P9;have g:a<b.data.toList.length:=by simpa using h
  have d:b.data.toList.drop a=b[a]::b.data.toList.drop (a+1):=iD g;exact(e).o):G:=h
def Jr (h:G:=by
  have aJ:wr.cell? (O7 u a)=some (O5 g):=by rw[e.cell (p:=(O7 u a)) U];exact t
  have aK:(a:Int)<(c.length:Int):=O9;have au:=e.size;exact(b).o):G:=h
def EX (h:G:=by
  rintro m dp ⟨⟨eX,rfl,cD⟩,aC⟩;obtain⟨eH,eG,d5⟩:=PW cD;subst d5;obtain⟨f,dC⟩:=xE (Qv s.2);rw[<-dC] at cD dq bf ⊢;exact(b).o):G:=h
def Cw (h:G:=by
  go_wp2_with fail;obtain⟨a6,aV,aQ,bD,bC,bn,bm,bj,bo⟩:=kH b9.out a7.out aS ck b7 (Pv false) (O3 0) (O3 0) (Qn);refine yM ?_;rw[bv.out];exact(b).o):G:=h
def KN (h:G:=by
  have d:rdNum b a=.tok 3 ⟨#[]⟩ (YM (b.extract a (P9 Rk b a)).data.toList) (P9 Rk b a):=by unfold rdNum;rw[fK e,fK o,fK j]
  exact(s).o):G:=h
def K9 (h:G:=by
  go_enter func104,j5;go_wp2_with fail;rw[<-p];have q:Pn s s.drew:=RP.drew;refine wp_region_held (S:=λL=>Pn s L) Qs ?_;refine mK ?_;exact(m).o):G:=h
def E3 (h:G:=by
  have aW:-1000000000000000000<=u * a/\u * a<=1000000000000000000:=aMg
  have ak:IntKind.i64.wrap (u * a)=u * a:=m1 _ O9;exact(e).o):G:=h
def A2 (h:G:=by
  obtain⟨g,z,W,f,v,S,e,U,T,N,k,_⟩:=h.ro.at_ (i:=d) (e:=x.h) (by simp[m]);have s:=ra g z _ d v w;rw[<-f] at s;exact(b).o):G:=h
def BO (h:G:=by
  have b7:Kp bG (bG.setCell (O7 W 0) (O3 A)):=λN e m O B=>bv.rest N e m O (by rcases B with rfl|rfl <;> decide);have bS:=dp.ie bv Pm;exact(b).o):G:=h
def DU (h:G:=by
  go_wp2_with fail;refine cm di ?_;rintro m bT ⟨rfl,bL⟩;have b7:=dJ.fH bL;have cC:=dI.fH bL;have b9:=Y (fQ bL dj.out);exact(b).o):G:=h
def A9 (h:G:=by
  go_enter func129,ntmps129;go_wp2_with fail;refine cm s ?_;rintro d l ⟨⟨o,rfl,z⟩,rfl⟩;obtain⟨aN,aL,rfl⟩:=z.form;go_wp2_with fail;exact(b).o):G:=h
def Be (h:G:=by
  rw[k];rw[j] at n;have m:=h;clear h d k j;go_enter func220,ntmps220;go_wp2_with fail;refine cm n ?_;rintro o p ⟨rfl,c⟩;have g:=c;exact(q).o):G:=h
def FS (h:G:=by
  go_enter func160,ntmps160;go_wp2_with fail;refine pY ?_;refine wh 0 (Qi e) A.drew ?_;refine wh 1 (Qi e) A.drew ?_;refine wh 2 (PL e.R 4) A.drew ?_;exact(b).o):G:=h
def Fp (h:G:=by
  obtain⟨_,R,I,b⟩:=fS b;obtain⟨_,S,D,b⟩:=fS b;obtain⟨_,T,M,b⟩:=fS b;obtain⟨F,E,p,b⟩:=fS b;exact(r).o):G:=h
def Ay (h:G:=by
  have B:aI.heap[w2.heap.size]? = some (PZ #[O3 0,O3 0,Qn] 65):=ax.fR (Ph _ _) Pm;obtain⟨dl,dg,dp,di,dj,dk,dq⟩:=Qb B;exact(b).o):G:=h
def Bl (h:G:=by
  go_wp2_with fail;obtain⟨a6,aV,s,i,f,bn,bm,bj,bo⟩:=kH aN.out a7.out aS (P8.up (L:=au) bv) T (Pv false) (O3 0) (O3 0) (Qn);exact(b).o):G:=h
def GB (h:G:=by
  obtain⟨C,B,j,p,q⟩:=Qa.opens h;obtain⟨r,_,_,s,_⟩:=fZ j;rw[n] at q;obtain⟨b,A,rfl,t,o⟩:=PE.parts q;exact(u).o):G:=h
def Dm (h:G:=by
  have dm:=aK.new t (Ws cl.out _ _ _ _);have bS:=ac.ie t Pm;rw[<-ck] at dn dm bS;obtain⟨bn,bm,bj,bo,_,_⟩:=fN dn;exact(b).o):G:=h
def AO (h:G:=by
  obtain⟨e,ah,rfl,O⟩:=hrel;have t:e<a.length:=O9;obtain⟨j,k⟩:∃ j,a[e]? = some j:=⟨_,ga t⟩;exact(b).o):G:=h
def AM (h:G:=by
  have n:∀ m,(Instr.checkKey m 10000 22 (O5 b)).run prog a=.ok () a:=by
   intro m;rw[Instr.checkKey,gR,ho o a];rfl
  exact(i).o):G:=h
def Ds (h:G:=by
  generalize ((aI.setCell (O7 T.heap.size 0) (O3 f.k)).setCell (O7 T.heap.size 1) (O3 f.n)).setCell (O7 T.heap.size 2) (Pj f.s)=wz at ac ⊢
  exact(b).o):G:=h
def DE (h:G:=by
  generalize ((aI.setCell (O7 w2.heap.size 0) (O3 f.k)).setCell (O7 w2.heap.size 1) (O3 f.n)).setCell (O7 w2.heap.size 2) (Pj f.s)=wz at ac ⊢
  exact(b).o):G:=h
def B1 (h:G:=by
  clear n
  generalize lK u=aL at *
  generalize lK N=aN at *
  have bf:¬ 9223372036854775807<(aL.size:Int)+(aN.size:Int):=O9;clear aO aQ;exact(b).o):G:=h
def iy (j:L)(h:Kk L->G:=by
  intro aX;refine up 0 k 0 a ?_;refine up 1 k 0 a ?_;refine up 2 k 0 a ?_;exact aX.o
 ):G:=h ⟨j⟩
def l3 (j:L)(h:Kk L->G:=by
  intro W;refine k5 Qs ?_;change wpAny _ _ _ _ _ _ _ (World.drew _);refine wt 0 (O5 g) ?_;refine wt 1 (O5 g) ?_;refine wt 2 (O5 g) ?_;refine wt 3 (PL g 3) ?_;exact W.o
 ):G:=h ⟨j⟩
def nk (j:L)(h:Kk L->G:=by
  intro aX;refine uh 0 (.pointer (some ⟨c,0,none⟩)) (a) ?_;refine uh 1 (.pointer (some ⟨c,0,none⟩)) (a) ?_;refine uh 2 (.pointer (some ⟨c,0,none⟩)) (a) ?_;exact aX.o
 ):G:=h ⟨j⟩
def kI (j:L)(h:Kk L->G:=by
  intro aX;refine up 0 k 0 a ?_;refine up 1 aj 0 a ?_;refine up 2 aj 0 a ?_;refine up 3 aj 3 a ?_;exact aX.o
 ):G:=h ⟨j⟩
def zle (j:L)(h:Kk L->G:=by
  intro W;refine wh 7 (.tuple #[.nilFunc,Pv false]) l ?_;refine wh 8 .nilFunc l ?_;refine wh 9 (Pv false) l ?_;refine wh 10 .nilFunc l ?_;refine wh 11 (Pv false) l ?_;refine wpAnyH_done Qs ?_ _;go_simp;exact W.o
 ):G:=h ⟨j⟩
def pY (j:L)(h:Kk L->G:=by
  intro W;refine wp_region_held (S:=λa=>QC e a n c) Qs ?_;change wpAnyH _ _ _ _ _ _ _ _ (World.drew _);exact W.o
 ):G:=h ⟨j⟩
def Ju (j:L)(h:Kk L->G:=by
  intro W;refine wh 7 (.tuple #[.agg #[Pj x.tx,O3 x.kd,O3 x.parts,O3 x.str],Pv true]) d ?_;refine wh 8 (.agg #[Pj x.tx,O3 x.kd,O3 x.parts,O3 x.str]) d ?_;refine wh 9 (Pv true) d ?_;exact W.o
 ):G:=h ⟨j⟩
def iz (j:L)(h:Kk L->G:=by
  intro aX;rw[<-cq.out,<-bh,<-bu];exact aX.o
 ):G:=h ⟨j⟩
def zf (j:L)(h:Kk L->G:=by
  intro aX;refine uh 6 undef (a) ?_ (bi:=fU ⟨by kernel_rfl,rfl⟩);refine uh 7 undef (a) ?_ (bi:=fU ⟨by kernel_rfl,rfl⟩);refine uh 8 undef (a) ?_ (bi:=fU ⟨by kernel_rfl,rfl⟩);refine uh 9 undef (a) ?_ (bi:=fU ⟨by kernel_rfl,rfl⟩);refine uh 10 undef (a) ?_ (bi:=fU ⟨by kernel_rfl,rfl⟩);exact aX.o
 ):G:=h ⟨j⟩
def L7 (j:L)(h:Kk L->G:=by
  intro W;refine wp_region_held (S:=λU=>U.heap[t.heap.size]? = some (.cells #[Pj x.tx,O3 x.kd,O3 x.parts,O3 x.str] 275)) Qs ?_;change wpAnyH _ _ _ _ _ _ _ _ (World.drew _);refine wh 0 (PL t.heap.size 1) c.out ?_;exact W.o
 ):G:=h ⟨j⟩
def zlk (j:L)(h:Kk L->G:=by
  intro aX;refine uh 0 QW (a) ?_;refine uh 1 (Pv false) (a) ?_;refine uh 2 (Pv false) (a) ?_;refine jN 3 dr.out a ?_;refine up 5 aj 0 a ?_;refine up 6 aj 0 a ?_;refine up 7 aj 0 a ?_;refine uk 8 dz.out a ?_;exact aX.o
 ):G:=h ⟨j⟩
def qe (j:L)(h:Kk L->G:=by
  intro W;refine k5 Qs ?_;change wpAny _ _ _ _ _ _ _ (World.drew _);exact W.o
 ):G:=h ⟨j⟩
def YL (j:L)(h:Kk L->G:=by
  intro W;refine cm d.out ?_;exact W.o
 ):G:=h ⟨j⟩
def DQ (j:L)(h:Kk L->G:=by
  intro aX;refine uh 4 (.pointer (some ⟨g,0,none⟩)) (a) ?_;refine uh 5 (.pointer (some ⟨g,0,none⟩)) (a) ?_;exact aX.o
 ):G:=h ⟨j⟩
def kG (j:L)(h:Kk L->G:=by
  intro aX;refine c.out _ _ (λ_=>QJ.drew) ?_;exact aX.o
 ):G:=h ⟨j⟩
def pN (j:L)(h:Kk L->G:=by
  intro aX;refine uz 9 (.tuple #[(vA f),s]) ?_;refine uz 10 (vA f) ?_;refine uz 11 s ?_;exact aX.o
 ):G:=h ⟨j⟩
def zlq (j:L)(h:Kk L->G:=by
  intro aX;refine uh 8 (.bool true) (a) ?_;refine uh 9 (.bool true) (a) ?_;refine uh 10 (.pointer (some ⟨c,0,none⟩)) (a) ?_;refine uh 11 (.pointer (some ⟨c,0,none⟩)) (a) ?_;refine uh 12 (.pointer (some ⟨c,2,none⟩)) (a) ?_;exact aX.o
 ):G:=h ⟨j⟩
def vg (j:L)(h:Kk L->G:=by
  intro aX;refine uk 4 cA.out a ?_;refine up 5 cw 0 a ?_;refine uk 6 cZ.out a ?_;refine kT 7 bB.out a ?_;exact aX.o
 ):G:=h ⟨j⟩
def Io (j:L)(h:Kk L->G:=by
  intro W;refine wh 7 (.tuple #[.agg #[Qn,O3 0,O3 0,O3 0],Pv false]) d ?_;refine wh 8 (.agg #[Qn,O3 0,O3 0,O3 0]) d ?_;refine wh 9 (Pv false) d ?_;exact W.o
 ):G:=h ⟨j⟩
def FA (j:L)(h:Kk L->G:=by
  intro W;refine wh 0 (Qi e) A.drew ?_;refine wh 1 (Qi e) A.drew ?_;refine wh 2 (PL e.R 5) A.drew ?_;exact W.o
 ):G:=h ⟨j⟩
def ve (j:L)(h:Kk L->G:=by
  intro W;rw[show (wb.alloc (.cells #[O5 bV] 22)).heap.size=g by rw[a6];simp,<-a1]
  exact W.o
 ):G:=h ⟨j⟩
def l9 (j:L)(h:Kk L->G:=by
  intro aX;refine cm (O4 aF _ a) ?_;exact aX.o
 ):G:=h ⟨j⟩
def pW (j:L)(h:Kk L->G:=by
  intro W;refine wt 5 (Qi e) ?_;refine wt 6 (Qi e) ?_;refine wt 7 (.func (.func 224) #[Qi e] #[]) ?_;exact W.o
 ):G:=h ⟨j⟩
def FE (j:L)(h:Kk L->G:=by
  intro aX;refine Hg ?_;refine uh 13 undef (a) ?_ (bi:=fU ⟨by kernel_rfl,rfl⟩);refine uh 14 undef (a) ?_ (bi:=fU ⟨by kernel_rfl,rfl⟩);refine uh 15 undef (a) ?_ (bi:=fU ⟨by kernel_rfl,rfl⟩);refine uh 16 undef (a) ?_ (bi:=fU ⟨by kernel_rfl,rfl⟩);exact aX.o
 ):G:=h ⟨j⟩
def nK (E:L)(h:Kk L->G:=by
  intro D;refine(fK (show ¬ 20000<g.steps+1 by omega)).trans ?_;exact D.o
 ):G:=h ⟨E⟩
def zlz (j:L)(h:Kk L->G:=by
  intro aX;refine up 0 t 0 a ?_;refine up 1 t 0 a ?_;refine up 2 t 0 a ?_;refine uk 3 cT.out a ?_;refine uh 4 (Pv true) (a) ?_;refine uh 5 (Pv true) (a) ?_;refine up 6 k 0 a ?_;refine up 7 k 0 a ?_;refine up 8 k 0 a ?_;refine up 9 cB 0 a ?_;refine uk 10 (ch.out.1) a ?_;refine up 11 t 0 a ?_;refine up 12 t 0 a ?_;refine up 13 t 1 a ?_;refine uk 14 cS.out a ?_;exact aX.o
 ):G:=h ⟨j⟩
def n6 (j:L)(h:Kk L->G:=by
  intro aX;refine uaZ 13 ?_;refine uz 14 s ?_;refine TQ ?_ _;go_simp;exact aX.o
 ):G:=h ⟨j⟩
def aMk (j:L)(h:Kk L->G:=by
  intro aX;refine uh 3 (O3 d) (a) ?_;refine uh 4 (Pj b) (a) ?_;refine jN 5 be.out a ?_;exact aX.o
 ):G:=h ⟨j⟩
def wm (j:L)(h:Kk L->G:=by
  intro aX;rw[<-aV];refine XW (v:=.tuple #[vA W,QW]) ?_;exact aX.o
 ):G:=h ⟨j⟩
def YN (j:L)(h:Kk L->G:=by
  intro W;refine wpAnyH_done Qs ?_ _;go_simp;exact W.o
 ):G:=h ⟨j⟩
def lC (j:L)(h:Kk L->G:=by
  intro W;refine cm d ?_;exact W.o
 ):G:=h ⟨j⟩
def Kt (j:L)(h:Kk L->G:=by
  intro aX;refine up 3 W 0 a ?_;refine uk 4 (bM.out.1) a ?_;refine uB ?_;exact aX.o
 ):G:=h ⟨j⟩
def rg (j:L)(h:Kk L->G:=by
  intro W;refine Ye 10 λK k=>?_;go_simp;refine k.out _ _ (d.alloc Un) (λ_=>?_);clear k K;exact W.o
 ):G:=h ⟨j⟩
def aMw (j:L)(h:Kk L->G:=by
  intro aX;refine uh 14 (.pointer (some ⟨g,0,none⟩)) (a) ?_;refine uh 15 (.pointer (some ⟨g,0,none⟩)) (a) ?_;refine uh 16 (.pointer (some ⟨g,2,none⟩)) (a) ?_;exact aX.o
 ):G:=h ⟨j⟩
def CS (j:L)(h:Kk L->G:=by
  intro aX;refine uh 4 (.pointer (some ⟨c,0,none⟩)) (a) ?_;refine uh 5 (.pointer (some ⟨c,0,none⟩)) (a) ?_;refine uh 6 (.pointer (some ⟨c,3,none⟩)) (a) ?_;exact aX.o
 ):G:=h ⟨j⟩
def mK (j:L)(h:Kk L->G:=by
  intro W;change wpAnyH _ _ _ _ _ _ _ _ (World.drew _);exact W.o
 ):G:=h ⟨j⟩
def T0 (j:L)(h:Kk L->G:=by
  intro W;refine wt 0 (PL d (n * 3)) ?_;refine wt 1 (PL d (n * 3)) ?_;refine wt 2 (PL d (n * 3)) ?_;refine wt 3 (PL d (n * 3+2)) ?_;refine wt 5 (Pj k) ?_;exact W.o
 ):G:=h ⟨j⟩
def pH (j:L)(h:Kk L->G:=by
  intro aX;refine Qq 16 (λL=>Below w.heap.size w L) Qs ?_;exact aX.o
 ):G:=h ⟨j⟩
def aMD (j:L)(h:Kk L->G:=by
  intro aX;refine uh 18 (.bool true) (a) ?_;refine uh 19 (.bool true) (a) ?_;refine uh 20 (.bool true) (a) ?_;refine uh 21 (.pointer (some ⟨c,0,none⟩)) (a) ?_;refine uh 22 (.pointer (some ⟨c,0,none⟩)) (a) ?_;refine uh 23 (.pointer (some ⟨c,1,none⟩)) (a) ?_;exact aX.o
 ):G:=h ⟨j⟩
def H7 (j:L)(h:Kk L->G:=by
  intro W;refine wt 0 (O5 a) ?_;refine wt 1 (O5 a) ?_;refine wt 2 (O5 a) ?_;refine wt 3 (PL a 3) ?_;refine wt 5 (Qi e) ?_;refine wt 6 (Qi e) ?_;refine wt 7 (.func (.func 348) #[Qi e] #[]) ?_;refine wt 8 (Qi e) ?_;refine wt 9 (.func (.func 349) #[Qi e] #[]) ?_;exact W.o
 ):G:=h ⟨j⟩
def xD (j:L)(h:Kk L->G:=by
  intro W;refine cm (QA 14 O8 (.slice (some (O7 a.heap.size 0)) 1 1) (a.alloc (.cells #[O5 l] 22)) ⟨_,_,_,rfl⟩) ?_;exact W.o
 ):G:=h ⟨j⟩
def ov (j:L)(h:Kk L->G:=by
  intro aX;refine cm (O4 aF _ (QJ.drew)) ?_;exact aX.o
 ):G:=h ⟨j⟩
def aMB (j:L)(h:Kk L->G:=by
  intro aX;refine uz 9 (.tuple #[O3 D,s]) ?_;refine uz 10 (O3 D) ?_;refine uz 11 s ?_;refine uz 12 (O3 D) ?_;refine uz 13 s ?_;refine TQ ?_ _;exact aX.o
 ):G:=h ⟨j⟩
def Mm (j:L)(h:Kk L->G:=by
  intro W;refine wt 0 (PL H 0) ?_;refine wt 1 (PL H 0) ?_;refine wt 2 (PL H 0) ?_;refine wt 3 (PL H 1) ?_;exact W.o
 ):G:=h ⟨j⟩
def xO (j:L)(h:Kk L->G:=by
  intro W;refine cm (QA 13 F (.slice (some (O7 a.heap.size 0)) 1 1) (a.alloc (.cells #[O5 l] 22)) ⟨_,_,_,rfl⟩) ?_;exact W.o
 ):G:=h ⟨j⟩
def aMm (j:L)(h:Kk L->G:=by
  intro W;refine cm (TN e _ n c A.drew) ?_;exact W.o
 ):G:=h ⟨j⟩
def xW (j:L)(h:Kk L->G:=by
  intro aX;refine up 4 aj 0 a ?_;refine up 5 aj 0 a ?_;refine up 6 aj 1 a ?_;refine uk 7 ci.out a ?_;exact aX.o
 ):G:=h ⟨j⟩
def Mv (j:L)(h:Kk L->G:=by
  intro aX;refine cm (O4 au _ r) ?_;exact aX.o
 ):G:=h ⟨j⟩
def Mn (j:L)(h:Kk L->G:=by
  intro aX;refine Qq 9 (λL=>Below k.heap.size k L) Qs ?_;refine uh 0 (.pointer (some ⟨c,0,none⟩)) (a) ?_;refine uh 1 (.pointer (some ⟨c,0,none⟩)) (a) ?_;refine uh 2 (.pointer (some ⟨c,1,none⟩)) (a) ?_;exact aX.o
 ):G:=h ⟨j⟩
def rR (j:L)(h:Kk L->G:=by
  intro aX;refine cm (O4 a1 _ a) ?_;exact aX.o
 ):G:=h ⟨j⟩
def aMn (a:L)(h:Kk L->G:=by
  intro D;refine cm (O4 aj _) ?_;rw[ai.out];exact D.o
 ):G:=h ⟨a⟩
def uF (j:L)(h:Kk L->G:=by
  intro aX;refine uz 10 (.tuple #[(Xo A),s]) ?_;refine uz 11 (Xo A) ?_;refine uz 12 s ?_;exact aX.o
 ):G:=h ⟨j⟩
def t6 (j:L)(h:Kk L->G:=by
  intro aX;refine uz 9 (.tuple #[(Xo A),s]) ?_;refine uz 10 (Xo A) ?_;refine uz 11 s ?_;exact aX.o
 ):G:=h ⟨j⟩
def qV (j:L)(h:Kk L->G:=by
  intro aX;rw[<-aV];refine nz (v:=.tuple #[vA vU,.iface bL bM]) ?_;exact aX.o
 ):G:=h ⟨j⟩
def tj (j:L)(h:Kk L->G:=by
  intro aX;refine uz 7 (.tuple #[(vA f),s]) ?_;refine uz 8 (vA f) ?_;refine uz 9 s ?_;exact aX.o
 ):G:=h ⟨j⟩
def zJ (j:L)(h:Kk L->G:=by
  intro aX;rw[<-aV];refine nz (v:=.tuple #[vA vU,s]) ?_;exact aX.o
 ):G:=h ⟨j⟩
def um (j:L)(h:Kk L->G:=by
  intro bf;refine cm (O4 aZ _ ((f2 w.heap.size w).alloc Qp _)) ?_;exact bf.o
 ):G:=h ⟨j⟩
def aMv (j:L)(h:Kk L->G:=by
  intro W;refine wh 0 (Qi e) o.drew ?_;refine wh 1 (Qi e) o.drew ?_;refine wh 2 (PL e.R 5) o.drew ?_;exact W.o
 ):G:=h ⟨j⟩
def q1 (j:L)(h:Kk L->G:=by
  intro aX;refine uaZ 11 ?_;refine uz 12 s ?_;refine TQ ?_ _;go_simp;exact aX.o
 ):G:=h ⟨j⟩
def tW (j:L)(h:Kk L->G:=by
  intro W;refine k.out _ _ d (λ_=>?_);exact W.o
 ):G:=h ⟨j⟩
def JD (j:L)(h:Kk L->G:=by
  intro W;refine k.out _ _ l (λ_=>?_);exact W.o
 ):G:=h ⟨j⟩
def zU (j:L)(h:Kk L->G:=by
  intro aX;refine uz 12 (.tuple #[(vA f),(U4 p)]) ?_;refine uz 13 (vA f) ?_;refine uz 14 (U4 p) ?_;exact aX.o
 ):G:=h ⟨j⟩
def JW (j:L)(h:Kk L->G:=by
  intro aX;rw[aW,bu,show w.heap.size+2=((w.alloc (.cells #[O3 r,O3 E,Pv ap,.pointer be] 73)).alloc (.cells #[Pv o,O3 p,O3 on,Pj l] 67)).heap.size by simp];exact aX.o
 ):G:=h ⟨j⟩
def aMz (j:L)(h:Kk L->G:=by
  intro aX;refine uh 10 (.pointer (some ⟨c,0,none⟩)) (a) ?_;refine uh 11 (.pointer (some ⟨c,0,none⟩)) (a) ?_;refine uh 12 (.pointer (some ⟨c,3,none⟩)) (a) ?_;exact aX.o
 ):G:=h ⟨j⟩
def aME (j:L)(h:Kk L->G:=by
  intro aX;refine uh 25 (.pointer (some ⟨g,0,none⟩)) (a) ?_;refine uh 26 (.pointer (some ⟨g,0,none⟩)) (a) ?_;refine uh 27 (.pointer (some ⟨g,1,none⟩)) (a) ?_;exact aX.o
 ):G:=h ⟨j⟩
def Jq (j:L)(h:Kk L->G:=by
  intro aX;refine uh 6 (.pointer (some ⟨g,0,none⟩)) (a) ?_;exact aX.o
 ):G:=h ⟨j⟩
def Ez (B:L)(h:Kk L->G:=by
  intro cA;refine uk 0 cG.out a ?_;refine up 1 bZ bY a ?_;refine up 2 bZ (bY+2) a ?_;refine uk 3 cC.out a ?_;refine up 4 bq 2 a ?_;refine uk 5 (cB.out.2.2.1) a ?_;exact cA.o
 ):G:=h ⟨B⟩
def tt (j:L)(h:Kk L->G:=by
  intro aX;refine cm (O4 bc _ a) ?_;exact aX.o
 ):G:=h ⟨j⟩
def Na (j:L)(h:Kk L->G:=by
  intro aX;refine cm (O4 ah _ a) ?_;exact aX.o
 ):G:=h ⟨j⟩
def aMt (a:L)(h:Kk L->G:=by
  intro D;refine cm (O4 ad _) ?_;rw[C.out];exact D.o
 ):G:=h ⟨a⟩
def pI (j:L)(h:Kk L->G:=by
  intro aX;refine p.out _ _ (λm=>by cases m) ?_;exact aX.o
 ):G:=h ⟨j⟩
def mD (j:L)(h:Kk L->G:=by
  intro aX
  show World.ownsRow _ _ _ _ _ _ _
  exact aX.o
 ):G:=h ⟨j⟩
def EM (j:L)(h:Kk L->G:=by
  intro W;rw[<-s.out];refine cm B ?_;exact W.o
 ):G:=h ⟨j⟩
def uv (j:L)(h:Kk L->G:=by
  intro aX;refine c.out _ _ (λ_=>(QJ.alloc P7 _).drew) ?_;exact aX.o
 ):G:=h ⟨j⟩
def Nc (j:L)(h:Kk L->G:=by
  intro W;refine wh 0 (Qi e) q ?_;refine wh 1 (Qi e) q ?_;refine wh 2 (PL e.R 3) q ?_;exact W.o
 ):G:=h ⟨j⟩
def aMr (j:L)(h:Kk L->G:=by
  intro aX;refine Qq 31 (λL=>Below k.heap.size k L) Qs ?_;exact aX.o
 ):G:=h ⟨j⟩
def BA (a:L)(h:Kk L->G:=by
  intro p;refine(OR d (c.extract a b) o M.out i g A.out).mono ?_;rw[N.out];exact p.o
 ):G:=h ⟨a⟩
def sy (g:L)(h:Kk L->G:=by
  intro w;unfold Instr.findKey;rw[gR,ho j a];exact w.o
 ):G:=h ⟨g⟩
def xi (j:L)(h:Kk L->G:=by
  intro aX;refine Xp (v:=.tuple #[Xo ⟨false,⟨am,aC,aD⟩⟩,.iface bU bV]) ?_;exact aX.o
 ):G:=h ⟨j⟩
def tR (j:L)(h:Kk L->G:=by
  intro aX;refine uaZ 14 ?_;refine uz 15 s ?_;refine TQ ?_ _;go_simp;exact aX.o
 ):G:=h ⟨j⟩
def yM (j:L)(h:Kk L->G:=by
  intro aX;rw[<-aV];refine pQ (v:=.tuple #[Xo RS,QW]) ?_;exact aX.o
 ):G:=h ⟨j⟩
def xS (j:L)(h:Kk L->G:=by
  intro aX;refine Xp (v:=.tuple #[Xo ⟨true,⟨am,aC,aD⟩⟩,.iface bU bV]) ?_;exact aX.o
 ):G:=h ⟨j⟩
def Ln (j:L)(h:Kk L->G:=by
  intro aX;refine up 0 k 0 a ?_;refine up 1 W 0 a ?_;refine uk 2 (br.out.1) a ?_;exact aX.o
 ):G:=h ⟨j⟩
def uT (j:L)(h:Kk L->G:=by
  intro aX;refine up 3 k 0 a ?_;refine up 4 k 0 a ?_;exact aX.o
 ):G:=h ⟨j⟩
def KW (j:L)(h:Kk L->G:=by
  intro aX;refine up 0 s 0 a ?_;refine up 1 W 0 a ?_;refine uk 2 (aW.out.1) a ?_;refine up 3 W 2 a ?_;refine uk 4 (aW.out.2.2.1) a ?_;exact aX.o
 ):G:=h ⟨j⟩
def xM (j:L)(h:Kk L->G:=by
  intro bf;refine cm (O4 aG _ ((f2 w.heap.size w).alloc Qp _)) ?_;exact bf.o
 ):G:=h ⟨j⟩
def p9 (j:L)(h:Kk L->G:=by
  intro W;refine f.out _ _ i (λ_=>?_);exact W.o
 ):G:=h ⟨j⟩
def J_ (j:L)(h:Kk L->G:=by
  intro aX;rw[<-dq.out,<-bu,<-b0,<-bO,<-cM];exact aX.o
 ):G:=h ⟨j⟩
def LF (h:G:=by
  refine WL 8 λK c=>?_;go_simp;refine xD ?_;rintro m b3 ⟨rfl,rfl⟩;refine c _ _ ?_;clear c K;refine wbZ 9 ?_;exact ys):G:=h
def AY (h:G:=by
  refine WL 9 λK c=>?_;go_simp;refine xO ?_;rintro m b3 ⟨rfl,rfl⟩;refine c _ _ ?_;clear c K;refine wbZ 10 ?_;exact wa):G:=h
def yn (h:G:=by
  rw[<-aV];refine XW (v:=.tuple #[vA W,s]) ?_;exact⟨⟨_,by rw[ac.out],aG.Rf b3 Pm⟩,bv,bR⟩):G:=h
def Ja (h:G:=by
  rintro m dN ⟨⟨s,rfl,aG⟩,ah,ax⟩;have bL:=Y (ax.fR b0.out Pm);have cM:=bZ.trans ax;obtain⟨W,b1⟩:=xE cG.1.1;rw[<-b1];have ac:=Y b1;clear b1;exact L1):G:=h
def xT (h:G:=by
  obtain⟨I,M,H⟩:=(Open.fH k r o.out).cell;exact Ar):G:=h
def yJ (h:G:=by
  obtain⟨I,M,H⟩:=(Open.fH k r o.out).cell;exact vK):G:=h
def Kb (h:G:=by
  obtain⟨cG,bE⟩:=xE (within g (jV U v.s ⟨1,0,false⟩))
  have b6:=λL (i:Mx M k I z bc a6 a1 aQ L g) (c8:L.heap[bo]? = some (PZ #[O5 k] 62)) (dh:L.heap[l]? = some (PZ #[O3 1,O3 0,Pv false,Ry] 73)) (dg:L.heap[bu]? = some (PZ #[.slice (some (O7 q bD)) f E] 311)) (cU:UZ L (.slice (some (O7 q bD)) f E) (v::aC))=>wL (s:=T) i cW Dc (c:=#[PL bu 0,PL l 0,PL bo 0]) (a:=jV U v.s ⟨1,0,false⟩) aZ (λF ee s b W=>FP ay cB cD s (cA.fO _) cC 1 0 false none ⟨by omega,by show (1:Int)<(g.M.Pz.length:Int);omega⟩ (b _ _ _ c8 Pm) (b _ _ _ dh Pm) (b _ _ _ dg Pm) (cU.fR λN e O=>b N e 65 O Pm) (ba F))
  have aK{G}(h:G:=by
  obtain⟨cn,_⟩:=D.hh.at_ 10 _ rfl;obtain⟨cz,_⟩:=D.hh.at_ 11 _ rfl;have bT:=oI aX.out;obtain⟨cZ,dk,c9,da,aN,dc⟩:=fN aY.out;have dl:=aN 0;have cV:=aN 1;have dq:=aN 2;have dn:=aN 3;have dK:=D.lt;have de:=fI aX.out;have dm:=Y cn;have dr:=Y cz;have cy:=Y bT;clear aN bf bG b2 cJ cL dx dE dF dG cK dt ds dy cn cz bT;refine UC 9 λb=>?_;refine uk 0 cy.out b ?_;refine up 1 k 0 b ?_;refine up 2 k 13 b ?_;refine uk 3 dr.out b ?_;refine uk 4 cy.out b ?_
  refine up 5 k 0 b ?_;refine up 6 k 12 b ?_;refine uk 7 dm.out b ?_;refine uh 8 (.agg #[O3 1,O3 0,Pv false,Ry]) (b) ?_;refine uaZ 9 ?_;refine TQ ?_ _;go_simp;have di:k<=l:=O9;have aj:=UY aY.out di (O3 1) (O3 0) (Pv false) Ry;have bS:=lR aY.out (O3 1) (O3 0) (Pv false) Ry;have bU:∀ N,N<w.heap.size->_:=Ws (t:=p) ch (O3 1) (O3 0) (Pv false) Ry;obtain⟨cq,cr⟩:=xE ((((p.setCell (O7 l 0) (O3 1)).setCell (O7 l 1) (O3 0)).setCell (O7 l 2) (Pv false)).setCell (O7 l 3) Ry)
  rw[<-cr] at aj bS bU ⊢;obtain⟨cp,bV⟩:=xE cq.drew;have F:Pn cq cp:=by rw[bV];exact RP.drew
  have cu:=D.ie aj Pm;have b0:=Y (fQ F (aj.rest _ _ _ cO.out Pm));have bZ:=(cP.hX aj bU).trans (P8.of (L:=none) F (P6 cu.lt));have dd:=cu.fH F;have bW:=Y (fQ F (aj.rest _ _ _ aX.out Pm));have dp:=Y (fQ F (aj.rest _ _ _ b7.out Pm));have dj:=(b9.fR λN e O=>aj.rest N e 65 O Pm).fH F;have cw:=fQ F bS;rw[<-bV];have cY:=Y cw;have bT:=oI bW.out;have dJ:=fI bW.out;clear bV cr cw bS bU cZ dk c9 da dl cV dq dn dc de;go_wp2_with fail
  refine cm (O4 b4 cp dd bW.out cY.out dp.out dj) ?_;exact Ja):=O6 h;exact JN):G:=h
def IL (h:G:=by
  have b{G}(h:G:=by
  refine uh 10 (Pv false) (p) ?_;have b{G}(h:G:=by
  have cu:=b9.kp (Kp.of p);have cf:=O4 dh;have b{G}(h:G:=by
  have bc:=Y (λL (i:Pn cR L)=>O4 de f T cg.out L bF o (cS.fH i) (cz.kp (Kp.of i)));rw[<-cC] at aC bc;have dy:=Y (fN (fQ p cP.out));have dO:=fI (fQ p cP.out);have dN:aj<cR.heap.size:=by rw[a1.out];exact cu.cells.1
  have dM:=fV aC;have dd:=Y aD;have dt:=Y aC;have aK:a6=U.v (Pg C 1) ⟨l,q,r⟩ T:=by rw[bM.out];unfold ZJ;rw[cg.out];simp[c9.out,cU.out]
  rw[<-aK] at bc;clear b6 ch ci ck cl cn cp bI bG bT bY bU bV bW aD aC cC cf aK;go_simp;go_wp2_with fail;refine UC 8 λa=>?_;refine kI ?_;refine uk 4 dd.out a ?_;refine up 5 cy 1 a ?_;have b{G}(h:G:=by
  have b{G}(h:G:=by
  have cV:=(P8.of (L:=none) a (P6 dn)).trans ax;have bL:=Y (cV.fR cT.out Pm);have cM:=c8.trans cV;obtain⟨W,ac⟩:=xH a6.1.1;rw[<-ac.out];obtain⟨u0,u1,u2,dI,dJ,dK,dL⟩:=Qb bL.out;refine uz 9 (vA W) ?_;refine uz 10 s ?_;refine q1 ?_;exact rF):=O6 h;exact kP):=O6 h;exact w5):=O6 h;exact Al):=O6 h;exact LE):=O6 h;exact LN):G:=h
def Dh (h:G:=by
  refine c.out _ _ (λ_=>bm) ?_;clear c K;have bn:P8 (some i) k d p:=(P8.of r (P6 cZ)).trans b1;have cQ:Ms M k I z p bU:=⟨_,_,_,_,cx⟩;have cI:Kp d p:=λN e m O B=>aV.kp ax N e m (Kp.of r N e m O B) B;have cz:PU p (some i) (some vU):=be.fR (fQ r dN) Pm;have dM:=cx.lt;have d1:p.heap[d.heap.size]? = some (PZ #[Pv false,O3 0,O3 0,Qn] 67):=be.fR (Ph d.drew _) Pm;refine Rl 9 λK c=>?_;have b{G}(h:G:=by
  have br:aI.heap[d.heap.size]? = some (PZ #[Pv false,O3 0,O3 0,Qn] 67):=bj.TL cz d1 Pm Pm;obtain⟨ec,d6,ed,ee,d7,d8,d9,ea,ej⟩:=RN (br);refine uF ?_;refine tR ?_;have ac:=SB.early (w2:=d) (o:=A) br Qp (P6 cZ) aW bL (bn.trans bj) bM
  generalize (((aI.setCell (O7 d.heap.size 0) (Pv A.ret)).setCell (O7 d.heap.size 1) (O3 A.v.k)).setCell (O7 d.heap.size 2) (O3 A.v.n)).setCell (O7 d.heap.size 3) (Pj A.v.s)=wz at ac ⊢
  generalize d.heap.size=D at ac ⊢
  exact aN wz D s ac):=O6 h;go_simp;exact xh):G:=h
def yt (h:G:=by
  have m{G}(h:G:=by
  have f:=acp a d b n c s I O9;have q:=l.c0;have t:=l.c1;have i:=l.c2
  generalize lW a b=j at f
  exact qL):=O6 h;exact nX):G:=h
def E1 (h:G:=by
  have r:Pn p (p.alloc (.cells #[Pv false,O3 0,O3 0,Qn] 67)):=QJ;refine c.out _ _ (λ_=>⟨fQ r bm.1,PN r bm.2⟩) ?_;clear c K;refine Rl 9 λK c=>?_;go_simp;refine cm (O4 cV _ (cQ.fH r) (λN e m O B=>Kp.of r N e m (cI N e m O B) B) (cz.fH r)) ?_;rintro m aI ⟨⟨s,rfl,aW⟩,bL,bj,bM⟩;refine ko c ?_;clear c K;have br:aI.heap[p.heap.size]? = some (PZ #[Pv false,O3 0,O3 0,Qn] 67):=bj.TL (cz.fH r) (Ph _ _) Pm Pm;obtain⟨ec,d6,ed,ee,d7,d8,d9,ea,ej⟩:=RN (br)
  refine uF ?_;refine tR ?_;have ac:=SB.early (w2:=d) (o:=A) br bn.below.size (P6 cZ) aW bL ((bn.trans (P8.of r (P6 dM))).trans bj) bM
  generalize (((aI.setCell (O7 p.heap.size 0) (Pv A.ret)).setCell (O7 p.heap.size 1) (O3 A.v.k)).setCell (O7 p.heap.size 2) (O3 A.v.n)).setCell (O7 p.heap.size 3) (Pj A.v.s)=wz at ac ⊢
  generalize p.heap.size=D at ac ⊢
  exact aN wz D s ac):G:=h
def Gt (h:G:=by
  have b{G}(h:G:=by
  refine hJ 4 7 (λK c=>?_) λK c=>?_
  ·go_simp;refine c _ _ ?_;clear c K;refine wbZ 7 ?_;exact LF
  ·go_simp;refine c _ _ ?_;clear c K;refine hJ 4 8 (λK c=>?_) λK c=>?_
   ·go_simp;refine c _ _ ?_;clear c K;exact LF
   ·go_simp;refine xD ?_;rintro m b3 ⟨rfl,rfl⟩;exact vK):=O6 h;exact uf):G:=h
def Ei (h:G:=by
  refine l3 ?_;refine pW ?_;refine hJ 4 8 (λK c=>?_) λK c=>?_
  ·go_simp;refine c _ _ ?_;clear c K;refine WL 8 λK c=>?_;have b{G}(h:G:=by
   have r:=((Ap.refl e.R s.heap.size s).drew).next f;have ap:Hid (Ap e.R s.heap.size s a/\QC e a C q/\Qa (gp s.heap.size) a bq l):=⟨r,z,D⟩;exact xT):=O6 h;go_simp;exact oV
  ·have b{G}(h:G:=by
   have r:=((Ap.refl e.R s.heap.size s).drew).next f;have ap:Hid (Ap e.R s.heap.size s a/\QC e a C q/\Qa (gp s.heap.size) a bq l):=⟨r,z,D⟩;exact yJ):=O6 h;go_simp;exact oV):G:=h
def IQ (h:G:=by
  refine CS ?_;refine uc 7 (.slice (some ⟨t,0,none⟩) 1 z) rfl (fM ⟨by kernel_rfl,λL b=>by have aO:=PN b (s);go_simp⟩) (a) ?_
  have F{G}(h:G:=by
  refine Rl 10 λK p=>?_;go_simp;refine cm (O4 r _ a) ?_;intro m E f;obtain⟨v,rfl,f⟩:=Y4 f;have W:=Y ((f.out (B:=g) (f9 k a.size)).trans a);refine pI ?_;clear p K;refine uz 11 v ?_;exact qg):=O6 h;exact Kx):G:=h
def Jy (h:G:=by
  have b{G}(h:G:=by
  clear d f;rw[e] at s;clear e;exact sE):=O6 h;exact kJ):G:=h
def AE (h:G:=by
  have m{G}(h:G:=by
  have f:=aaE a d b n c s I u g;have q:=l.c0;have t:=l.c1;have i:=l.c2
  generalize nq a b=j at f
  exact qL):=O6 h;exact nX):G:=h
def CM (h:G:=by
  subst B;have aG:s=QW:=ac;subst aG;obtain⟨p,bM⟩:∃ p,b6=some p:=by
   have h:=cW
   cases b6 with
   | none=>exact h.elim
   | some v=>exact⟨v,rfl⟩
  subst bM;have bL:wt.heap[i]? = some (ZK p):=cW;obtain⟨ed,ej,ey,_,d1⟩:=fX bL;clear bL;go_wp2_with fail;obtain⟨bn,aV,ds,cz,aI,bm,be,bj⟩:=iT cH.out a7.out aS dM dJ (O3 p.k) (O3 p.n) (Pj p.s);rw[<-aV];refine XW (v:=.tuple #[vA p,QW]) ?_;rw[dr.out];exact⟨⟨_,rfl,rfl⟩,aI,cz⟩):G:=h
def rF (h:G:=by
  go_wp2_with fail;obtain⟨bn,aV,b3,bR,bv,bm,be,bj⟩:=iT bL.out a7.out aS cM ah (O3 W.k) (O3 W.n) (Pj W.s);exact yn):G:=h
def Eh (h:G:=by
  refine uk 6 bR.out a ?_;refine kT 7 c9.out a ?_;refine jS 8 12 (λK c=>?_) λK c=>?_
  ·go_simp;refine l9 ?_;have b{G}(h:G:=by
   refine pN ?_;refine uaZ 12 ?_;refine n6 ?_;have ac:=VB.late (v:=f) aG ah ((P8.of a (P6 bV)).trans ax);exact qY):=O6 h;exact kP
  ·go_simp;exact aL0):G:=h
def wi (h:G:=by
  obtain⟨bL,cl⟩:=xH aK.1.1;rw[<-cl.out];obtain⟨u0,u1,u2,u3,eO,eP,eQ,eT,eR⟩:=RN bR.out;refine uz 9 (Xo bL) ?_;refine uz 10 s ?_;refine q1 ?_;exact wE):G:=h
def vd (h:G:=by
  go_wp2_with fail;refine cm U ?_;rintro m bW ⟨rfl,bE⟩;have bu:=O.trans (bE.mono O.size)
  cases aY with
  | some m=>
   have aN:aV=some m:=by rw[aK.out];exact O4 aj m rfl
   subst aN;unfold VZ;go_wp2;go_ret;exact⟨rfl,au.trans (bu.mono au.size)⟩
  | none=>
   unfold VZ;go_wp2
   go_roundw
   case rel=>exact⟨j+1,by omega,by go_num,O4 ah trivial,bu⟩
   case measure=>simp[intOf];omega):G:=h
def wa (h:G:=by
  exact Uw (listed':=tf 11 4) Qs Qs (ax a l ap.out)):G:=h
def Lt (h:G:=by
  have b{G}(h:G:=by
  refine wbZ 7 ?_;refine WL 8 λK c=>?_;go_simp;refine xD ?_;rintro m b3 ⟨rfl,rfl⟩;exact Ar):=O6 h;exact uf):G:=h
def Bt (h:G:=by
  have bu:=(Open.fH k (Ap.of a1) o.out).ev
  cases X:Qm e.l Q9 A with
  | out=>
   exact Tc
  | f0 bo br=>
   exact aMe
  | ok b7 b4=>
   have d:=Qh e Q9 s A q aG Pm;have b{G}(h:G:=by
   intro m cz p;obtain⟨⟨cy,rfl,rfl⟩,z,f⟩:=p;have ch:=am.next f;exact JE):=O6 h;exact YU):G:=h
def IP (h:G:=by
  have d:=Qh e iX wf a j U Pm;rw[aD.out] at d;go_wp2_with fail;refine cm d ?_;intro m ah p;obtain⟨⟨a8,rfl,rfl⟩,g,f⟩:=p;have ad:=g;have M:=D.next f;replace c:=TP c f o.out;clear aI
  cases X:Qw e.l C.vl j (a+1) with
  | out=>
   exact Tc
  | f0 aF aG=>
   exact aMd
  | ok bc ba=>
   exact aL3):G:=h
def BG (h:G:=by
  have s{G}(h:G:=by
  rintro n o ⟨rfl,rfl⟩;exact xf):=O6 h;exact Hd):G:=h
def JC (h:G:=by
  refine TQ ?_ _;go_simp;have ac:=VB.early (v:=f) B Qp (P6 bO) aG ah ((P8.of (QJ.drew) (P6 bO)).trans ax);have b{G}(h:G:=by
  generalize w2.heap.size=D at ac ⊢
  exact aN wz D s ac):=O6 h;exact DE):G:=h
def rd (h:G:=by
  generalize aI.alloc (.cells #[Pv A.ret,O3 A.v.k,O3 A.v.n,Pj A.v.s] 67)=wz at ac ⊢
  generalize aI.heap.size=D at ac ⊢
  exact aN wz D s ac):G:=h
def J4 (h:G:=by
  have b{G}(h:G:=by
  have b{G}(h:G:=by
  intro m cz p;obtain⟨⟨cy,rfl,rfl⟩,z,f⟩:=p;have ch:=a7.next f;exact JE):=O6 h;exact YU):=O6 h;exact vV):G:=h
def ys (h:G:=by
  exact Uw (listed':=tf 10 4) Qs Qs (ax a l ap.out)):G:=h
def JQ (h:G:=by
  refine TQ ?_ _;go_simp;go_wp2_with fail;obtain⟨bn,aV,aQ,aD,aC,bm,be,bj⟩:=iT dT.out a7.out aS ey eB (O3 b7.k) (O3 b7.n) (Pj b7.s);rw[<-aV];refine XW (v:=.tuple #[vA b7,s]) ?_;rw[C.out];exact⟨⟨_,by rw[ez.out],eC.Rf aQ Pm⟩,aC,aD⟩):G:=h
def wE (h:G:=by
  go_wp2_with fail;obtain⟨a6,aV,aQ,bD,bC,bn,bm,bj,bo⟩:=kH bR.out a7.out aS cp ah (Pv bL.ret) (O3 bL.v.k) (O3 bL.v.n) (Pj bL.v.s);rw[<-aV];refine Xp (v:=.tuple #[Xo bL,s]) ?_;exact⟨⟨_,by rw[cl.out],aG.Rf aQ Pm⟩,bC,bD,bM.Uy aQ⟩):G:=h
def tP (h:G:=by
  go_wp2_with fail;obtain⟨W,ck⟩:=xE (QE false);have c9:=WI false wz;exact xr):G:=h
def qY (h:G:=by
  generalize aI.alloc (.cells #[O3 f.k,O3 f.n,Pj f.s] 65)=wz at ac ⊢
  generalize aI.heap.size=D at ac ⊢
  exact aN wz D s ac):G:=h
def Dd (h:G:=by
  have d1:=Y p;clear p B;go_wp2_with fail;obtain⟨bn,aV,ds,cz,aI,bm,be,bj⟩:=iT cH.out a7.out aS dM dJ (O3 0) (O3 0) (Qn);refine qV ?_;rw[d1.out];exact⟨⟨_,rfl,ac.Rf ds Pm⟩,aI,cz⟩):G:=h
def Af (h:G:=by
  obtain⟨bF,bL,ax⟩:=d.er.XO B ay;subst ax;have H:aY=(E,C):=by
   rw[aK.out];exact jZ
  exact aMc):G:=h
def qi (h:G:=by
  rw[bv.out];exact⟨⟨_,rfl,dM.Rf aQ Pm⟩,bC,bD,cG.Uy aQ⟩):G:=h
def sx (h:G:=by
  have B:j=a.fJ.length:=O9;subst B;have ah:aV=none:=by
   have ad:=O4 D;rw[gO] at ad;rw[aK.out];exact ad
  subst ah;go_wp2;go_ret;exact⟨rfl,au.trans (O.mono au.size)⟩):G:=h
def zr (h:G:=by
  have ad:=W;rw[t];refine⟨ad.os,ad.tape,ad.output,by simpa using ad.size,λj q=>?_⟩;rw[g1 ax (O7 w.heap.size 2) _ j (by show j≠w.heap.size;omega)]
  exact ad.block j q):G:=h
def AH (h:G:=by
  have b{G}(h:G:=by
  clear i;refine pI ?_;clear p K;refine uz 32 v ?_;exact qg):=O6 h;exact us):G:=h
def Df (h:G:=by
  have b{G}(h:G:=by
  clear i;refine pI ?_;clear p K;refine uz 10 v ?_;exact qg):=O6 h;exact us):G:=h
def zX (h:G:=by
  have q:(N.kd==18)=false:=jx.2 λx=>e (iH x);clear e;exact sE):G:=h
def Lo (h:G:=by
  obtain⟨z,ax⟩:=ot B;have U:=Y f;clear f e;go_wp2_with fail;exact od (v:=.tuple #[ZV,O3 0,.iface 150 (PL A 0)]) ⟨A,rfl,vo B F U.out _ _ _ _⟩):G:=h
def Ic (h:G:=by
  rw[<-f];have D:=Y f;have e{G}(h:G:=by
  clear f;exact Gc):=O6 h;exact xq):G:=h
def Dr (h:G:=by
  rintro m aY ⟨⟨aZ,rfl,aV⟩,ai⟩;have aW:=U.fH ai;have aS:=aK.trans (P8.of (L:=none) ai (P6 t));go_wp2;go_ret;exact⟨⟨_,rfl,aV⟩,aW,aS⟩):G:=h
def Mb (h:G:=by
  rw[w8 c a b g k j];have u:g<b - a:=by rw[extract_size c a b O9 k] at j;exact j
  exact xV Rk c (c.size - a) a O9 (a+g) O9 (by rw[t.out];omega) O9):G:=h
def zs (h:G:=by
  rw[<-aV] at b2 aD aC bc;obtain⟨bm,be,bj,_,_⟩:=fX b2;refine nz (v:=.tuple #[vA vU,.iface bL bM]) ?_;rw[c9.out];exact⟨⟨_,rfl,bc⟩,aC,aD⟩):G:=h
def zw (h:G:=by
  intro m bF p;obtain⟨rfl,f⟩:=p;exact⟨rfl,QV i.out.symm (R.next f)⟩):G:=h
def xo (h:G:=by
  have eT:¬ t.k=3:=λh=>b6 cZ h;clear b6 b3 b4 bT;go_wp2_with fail;exact rq):G:=h
def vP (h:G:=by
  rintro U T ⟨rfl,B⟩;have A:=o.trans (B.mono o.size);exact Kl):G:=h
def jZ (h:G:=by
  cases E with
  | no=>exact absurd rfl B
  | stop=>rfl
  | ir=>rfl
  | Yq x=>rfl):G:=h
def CU (h:G:=by
  obtain⟨aC,aD,cn⟩:=A.er.XO B ay;subst cn;have ac:aK=((RS,E,d),T):=by
   rw[am.out];unfold mY;rw[be.out];exact jZ
  exact Wq):G:=h
def Jv (h:G:=by
  obtain⟨ac,aC,cL⟩:=A.er.XO B ay;subst cL;have aK:a6=((f,E),T):=by
   rw[bM.out];unfold ZJ;rw[cg.out];exact jZ
  exact Q0):G:=h
def CR (h:G:=by
  have b4:=z;replace bh:=EV.fH bh f o.out;have aC:=O4 ck;subst aC;go_wp2;go_ret;exact Uz i.out.symm bh.nv b4 bR):G:=h
def z8 (h:G:=by
  rw[X] at k;simp only[zd] at k;exact absurd k.out.symm B.out):G:=h
def EQ (h:G:=by
  have b{G}(h:G:=by
  refine wh 12 (Pv false) C ?_;exact Em):=O6 h;exact zl):G:=h
def CE (h:G:=by
  have ac:=Y B;clear B;go_wp2_with fail;refine Vm (v:=.tuple #[Ry,.iface 122 (PL C 0)]) ?_;exact⟨T,_,rfl,C,rfl,ac.out⟩):G:=h
def HS (h:G:=by
  have b{G}(h:G:=by
  refine wh 12 (Pv true) C ?_;exact Em):=O6 h;exact zl):G:=h
def Eu (h:G:=by
  rw[c];have t:(Instr.lookup 80 (.map (some l)) (O5 i) true).run prog w=.ok (.tuple #[O3 (a:Int),Pv true]) w:=b;exact F2):G:=h
def qg (h:G:=by
  refine ul Qs ?_ _;go_simp;go_wp2;go_ret;exact O4 W):G:=h
def Jw (h:G:=by
  rw[c];have t:(Instr.lookup 80 (.map (some l)) (O5 i) true).run prog w=.ok (.tuple #[O3 0,Pv false]) w:=b;exact F2):G:=h
def Bu (h:G:=by
  refine lC ?_;intro m bF p;obtain⟨rfl,f⟩:=p;exact⟨rfl,QV i.out.symm (am.drew.next f)⟩):G:=h
def ES (h:G:=by
  rw[bE.out];unfold VG;rw[bK.out]
  cases a1 with
  | no=>exact absurd rfl aK
  | stop=>rfl
  | ir=>rfl
  | Yq x=>rfl):G:=h
def DR (h:G:=by
  go_wp2_with fail;refine cm n ?_;rintro i j ⟨rfl,rfl⟩;go_wp2_with fail;refine cm s ?_;exact Gy):G:=h
def kK (h:G:=by
  clear F aW bo aY bC f e;go_enter jE,jA;have b{G}(h:G:=by
  have aI:=Y (am.fR t.out Pm);have b{G}(h:G:=by
  have O:=B.cells.1;have A:=B.cells.2.1;have E:=O4 p wz T B;rw[<-D.out] at O A E;have b{G}(h:G:=by
  rintro m S ⟨⟨s,rfl,aG⟩,ah,ax⟩;have bL:=Y (ax.fR aN.out Pm);have cM:=bF.trans ax;obtain⟨W,ac⟩:=xH c.1.1;rw[<-ac.out];clear ai aO aj aD aF A O;obtain⟨u0,u1,u2,ay,aC,aK,aL⟩:=Qb bL.out;exact rF):=O6 h;exact sv):=O6 h;exact sf):=O6 h;exact mx):G:=h
def nU (h:G:=by
  refine UC 8 λa=>?_;refine kI ?_;refine vg ?_;refine jS 8 12 (λK c=>?_) λK c=>?_
  ·go_simp;refine l9 ?_;have b{G}(h:G:=by
   refine pN ?_;refine uaZ 12 ?_;refine n6 ?_;have ac:=VB.late (v:=f) aG ah ((P8.of a (P6 bO)).trans ax);exact qY):=O6 h;exact kP
  ·go_simp;refine kG ?_;clear c K;refine Rl 8 λK c=>?_;go_simp;refine ov ?_;have b{G}(h:G:=by
   have b{G}(h:G:=by
   refine pN ?_;refine uaZ 13 ?_;refine uz 14 s ?_;exact JC):=O6 h;exact Ay):=O6 h;exact kP):G:=h
def HN (h:G:=by
  refine cm (O4 dF aY cC) ?_;rintro m b7 ⟨rfl,eq,dR,dx⟩;have b1:=dx.jn (o:=none) cC;have dP:=cT.trans b1;have de:=Y (b1.fR dD.out Pm);have dQ:=Y (b1.fR cS.out Pm);have dS:Kp aj b7:=λN e m O B=>dx.kp cC N e m (cu N e m O B) B;obtain⟨bV,b0,bW,bY,bo,bZ⟩:=fN de.out;have dT:=bo 0;have dO:=bo 1;have dU:=bo 3;clear bo;go_wp2_with fail;have bD:k<=W:=O9;have dh:=Xq (b:=0) de.out bD (O3 l);have dg:=ZB de.out (O3 l);have dd:=Xq (b:=1) dg bD (O3 l)
  have da:=aw8 dg (O3 l);obtain⟨bG,cA⟩:=xE ((b7.setCell (O7 W 0) (O3 l)).setCell (O7 W 1) (O3 l));have dt:bG.heap.size=b7.heap.size:=by rw[cA];simp
  have cO:=(dR.ie dh Pm).ie dd Pm;have cM:P8 none k w ((b7.setCell (O7 W 0) (O3 l)).setCell (O7 W 1) (O3 l)):=(dP.hX dh (λN O=>gV _ _ _ _ (show N≠W by omega))).hX dd (λN O=>gV _ _ _ _ (show N≠W by omega));have dk:Hid (bG.heap[H]? = some (PZ #[O3 0,O3 0,Qn] 65)):=by show _=_;rw[cA,gV _ _ _ _ (h6 bS),gV _ _ _ _ (h6 bS)];exact O4 dQ
  have dl:Kp aj ((b7.setCell (O7 W 0) (O3 l)).setCell (O7 W 1) (O3 l)):=λN e m O B=>dd.rest N e m (dh.rest N e m (dS N e m O B) (by rcases B with rfl|rfl <;> decide)) (by rcases B with rfl|rfl <;> decide);rw[<-cA] at cO cM dl da ⊢;have cK:=Y da;rw[<-dt];clear dg da cA dt bD;have b{G}(h:G:=by
  clear b4 ck dm cP dj cJ cL bV b0 bW bY dT dO dU bZ;have cB:=bf.kp dK;obtain⟨ua,bK,bv,dz⟩:=cB.ar;obtain⟨bQ,dy⟩:=xE a.2.fJ.length;rw[<-dy] at bv dz;rw[<-aD.out] at bv;obtain⟨dV,bR⟩:=xE ((PI a ⟨l,l,true⟩ ch).1);obtain⟨bU,bC⟩:=xE ((PI a ⟨l,l,true⟩ ch).2);have cr:=Y (λL (t:Pn d L)=>KJ (cw.fH t) dY O9 (cB.kp (Kp.of t)) dH ak ⟨l,l,true⟩ (some (O7 i 0)) dZ);rw[<-bR,<-bC,<-aD.out] at cr
  rcases ci:SG U dV (QB a) (some vU) bU with ⟨⟨A,E,b6⟩,b3⟩
  have cV:=Y (λL (ah:Ms M k I z L bU) (p:Kp d L) (ba:PU L (some i) (some vU))=>O4 dC L (.slice ua bQ bK) i ⟨l,l,true⟩ ch dI d0.out (by rw[<-bC];exact ah) (dz.kp p) (UW.kp p _ _ cB.lT) ba)
  have b{G}(h:G:=by
  have dB:∃ e,d.heap[q]? = some (PZ e 40):=by
   have ad:=cB.at_;rw[aD.out]
   cases u with
   | mk ac p au bz r=>
    rw[Tf] at ad;obtain⟨_,_,⟨v,O,_⟩,_⟩:=ad;exact⟨_,O⟩
  have dA:=Y dB;clear bv dy ci dB bR bC;have ai:d.drew.heap[W]? = some (PZ #[O3 l,O3 l,Pv true,PL i 0] 73)/\d.drew.cell? (O7 q 3)=some (.slice ua bQ bK):=⟨fQ (f2 d.heap.size d).drew bI.out,PN (f2 d.heap.size d).drew bE.out⟩;refine WJ (H:=λwz D s=>SB M k I z T (some i) d A E b6 b3 wz D s) (G:=?GG) (λaN=>?ways) ?rest
  case ways=>
   have au:Pn d d.drew:=RP.drew;refine Qq 9 (λL=>L.heap[W]? = some (PZ #[O3 l,O3 l,Pv true,PL i 0] 73)/\L.cell? (O7 q 3)=some (.slice ua bQ bK)) Qs ?_;refine up 0 k 0 ai ?_;refine up 1 q 0 ai ?_;refine up 2 q 0 ai ?_;refine up 3 q 3 ai ?_;refine uc 4 (.slice ua bQ bK) rfl (fM ⟨by kernel_rfl,λL t=>by have aO:=t.2;go_simp⟩) (ai) ?_
   refine up 5 k 0 ai ?_;refine up 6 q 0 ai ?_;refine uc 7 (.agg #[O3 l,O3 l,Pv true,PL i 0]) rfl (fM ⟨by kernel_rfl,λL t=>by have aO:=(fN t.1).1;have ad:=(fN t.1).2.1;have ak:=(fN t.1).2.2.1;have dJ:=(fN t.1).2.2.2.1;go_simp⟩) (ai) ?_
   refine jS 8 13 (λK c=>?_) λK c=>?_
   ·have b{G}(h:G:=by
    have bm:p.heap[W]? = some (PZ #[O3 l,O3 l,Pv true,PL i 0] 73)/\p.cell? (O7 q 3)=some (.slice ua bQ bK):=⟨be.fR (fQ au bI.out) Pm,by
     obtain⟨e,O⟩:=O4 dA;exact(aV.kp ax).YJ (PN au bE.out) ⟨e,fQ au O⟩⟩
    have b{G}(h:G:=by
    refine jS 9 13 (λK c=>?_) λK c=>?_
    ·have b{G}(h:G:=by
     refine uF ?_;refine uaZ 13 ?_;refine tR ?_;have ac:=SB.late (w2:=d) (o:=A) aW bL (bn.trans bj) bM;exact rd):=O6 h;go_simp;exact xh
    ·go_simp;exact E1):=O6 h;exact JO):=O6 h;go_simp;exact Cv
   ·go_simp;have r:Pn d (d.drew.alloc (.cells #[Pv false,O3 0,O3 0,Qn] 67)):=RP.drew.alloc P7 _;have dJ:(d.drew.alloc (.cells #[Pv false,O3 0,O3 0,Qn] 67)).heap[W]? = some (PZ #[O3 l,O3 l,Pv true,PL i 0] 73)/\(d.drew.alloc (.cells #[Pv false,O3 0,O3 0,Qn] 67)).cell? (O7 q 3)=some (.slice ua bQ bK):=⟨fQ r bI.out,PN r bE.out⟩;have b{G}(h:G:=by
    have bm:p.heap[W]? = some (PZ #[O3 l,O3 l,Pv true,PL i 0] 73)/\p.cell? (O7 q 3)=some (.slice ua bQ bK):=⟨be.fR (fQ r bI.out) Pm,by
     obtain⟨e,O⟩:=O4 dA;exact(aV.kp ax).YJ (PN r bE.out) ⟨e,fQ r O⟩⟩
    exact Dh):=O6 h;exact Ha
  case rest=>
   have b{G}(h:G:=by
   by_cases B:E=.no
   ·exact CM
   ·obtain⟨bL,bM,aG⟩:=ac.XO B ay;subst aG;have p:aZ=((vU,E),b3):=by
     rw[dr.out];exact jZ
    exact Dd):=O6 h;exact Gj):=O6 h;exact AJ):=O6 h;exact G7):G:=h
def uK (h:G:=by
  rw[cq.out,bh,show w.heap.size+1=(w.alloc (.cells #[O3 l,O3 q,Pv r,.pointer o] 73)).heap.size by simp];exact Ph _ _):G:=h
def xY (h:G:=by
  refine l3 ?_;refine wt 5 (Pj F) ?_;refine wt 6 (Qi e) ?_;refine hJ 4 7 (λK c=>?_) λK c=>?_
  ·go_simp;refine c _ _ ?_;clear c K;refine WL 7 λK c=>?_;go_simp;refine cm cy ?_;have b{G}(h:G:=by
   have b{G}(h:G:=by
   have b{G}(h:G:=by
   refine wbZ 8 ?_;refine WL 9 λK c=>?_;go_simp;refine xO ?_;rintro m b3 ⟨rfl,rfl⟩;refine c _ _ ?_;clear c K;refine wbZ 10 ?_;refine Uw (listed':=tf 11 4) Qs rfl ?_;exact ax a l ap.out):=O6 h;exact uf):=O6 h;exact Lc):=O6 h;exact qs
  ·go_simp;refine cm cy ?_;have b{G}(h:G:=by
   have b{G}(h:G:=by
   have b{G}(h:G:=by
   refine hJ 4 8 (λK c=>?_) λK c=>?_
   ·go_simp;refine c _ _ ?_;clear c K;refine wbZ 8 ?_;exact AY
   ·go_simp;refine c _ _ ?_;clear c K;refine hJ 4 9 (λK c=>?_) λK c=>?_
    ·go_simp;refine c _ _ ?_;clear c K;exact AY
    ·go_simp;refine xO ?_;rintro m b3 ⟨rfl,rfl⟩;refine c _ _ ?_;clear c K;refine hJ 4 10 (λK c=>?_) λK c=>?_
     ·go_simp;refine c _ _ ?_;clear c K;refine wbZ 10 ?_;exact wa
     ·go_simp;refine c _ _ ?_;clear c K;refine wbZ 4 ?_;exact wa):=O6 h;exact uf):=O6 h;exact Lc):=O6 h;exact qs):G:=h
def sE (h:G:=by
  have b{G}(h:G:=by
  have b{G}(h:G:=by
  go_wp2_with fail;rw[<-C.out];go_ret;exact⟨l,rfl⟩):=O6 h;exact qf):=O6 h;exact nC):G:=h
