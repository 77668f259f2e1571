import Derived.Test.YticfnaiehdpbmaaGreatDoorFa5
import Derived.Deep.MidRow
import Derived.Laws.AppendOwnNone
set_option maxRecDepth 100000
set_option maxHeartbeats 8000000
set_option linter.all false
namespace Go.Proofs.YticfnaiehdpbmaaGreatDoor
open Go.RowKit Go.Proofs.Tryz
def S3 {c:gy}(a:Pe)(e g:Nat)(h:QC c a g e)(i:Int)(j:Nat)(k:Qm c.l md g=.f0 i j):Pq 154 #[Qi c] a (QT c a e (NV a.heap.size) (.f0 i j)):=by
 have l:=Ap.refl c.R a.heap.size a;go_enter func154,ntmps154;have d:=Qh c md a g e h Pm;rw[k] at d;have b{G}(h:G:=by
 exact⟨rfl,QV rfl (l.next f)⟩):=O6 h;exact YT
section
variable {e:gy} {bm:Um} (a7:FC e bm) (bc:∃ j,jW e.l j bm) (w:Pe) (i n bn:Nat) (h:QC e w n i) (bW:Qm e.l md n=.ok () bn) (N:Tr) (t:Nat) (O:QO e.l bm i bn=.ok N t) (cB:fx e.l t=VT) (i2:Nat) (ak:Qm e.l Rz (t+1)=.ok () i2) (F:Py) (bo:Nat) (bx:gC e.l i2=.ok F bo) (bq:Nat) (cA:Qm e.l Tt bo=.ok () bq) (ac:Tr) (I:Nat) (b7:QO e.l bm i bq=.ok ac I) (b8:fx e.l I=SS)
include e bm a7 bc w i n bn h bW N t O cB i2 ak F bo bx bq cA ac I b7 b8
def ax4 (br:Tr)(bU:Nat)(cI:QO e.l bm i (I+1)=.ok br bU):Pq 154 #[Qi e] w (QT e w i (NV w.heap.size) (.ok (.mk 12 O8 0 [N,.mk 13 F 0 [ac],.mk 14 O8 0 [br]]) bU)):=by
 have cL:=Y h.base.size;have b{G}(h:G:=by
 have b{G}(h:G:=by
 refine mv (H:=λa l=>Ap e.R H.heap.size H a/\QC e a I i/\Qa (gp H.heap.size) a ac l) (G:=?G3) (λax=>?_) ?_;rotate_left
 ·exact xY
 intro a l cg;obtain⟨z,q,T⟩:=cg;have au:=bv.next z;have cx:=z;have aY:=q;have bE:=Open.fH k z o.out;have cq:=T;obtain⟨aN,aQ,aS⟩:=bE.cell;have aV:g<a.heap.size+1:=O9;have aW:g<a.heap.size+1+1:=O9;obtain⟨cf,bD,bG⟩:=made (w:=H) aY cx (PE.cons cq PE.nil) (by simp[maxLen]) #[O5 l] rfl 1 rfl 13 F (a.heap.size+1) rfl;have be:Pn a ((a.alloc (.cells #[O5 l] 22)).alloc (Qc 13 F 0 (.slice (some (O7 a.heap.size 0)) 1 1))):=QJ.alloc P7 _
 obtain⟨r,aI⟩:=xE ((a.alloc (.cells #[O5 l] 22)).alloc (Qc 13 F 0 (.slice (some (O7 a.heap.size 0)) 1 1)));have bB:(a.alloc (.cells #[O5 l] 22)).heap.size=a.heap.size+1:=by simp
 obtain⟨ai,aJ⟩:=xE (a.heap.size+1);obtain⟨cp,bQ,bh⟩:=cf.nv;have am:cp=a.heap.size+1:=by simpa[O5] using bQ.symm
 subst am;have bF:r.heap.size=ai+1:=by rw[aI,aJ];simp
 rw[<-aI] at bh bD bG be
 try rw[bB]
 rw[<-aJ] at bh
 try rw[<-aJ]
 try rw[<-aI]
 have B:=Open.fH bE (Ap.of be) o.out;have U:=au.next (Ap.of be);have aF:=bD;have cu:=Open.apart k bv.size bG o.out (PE.cons bh PE.nil);obtain⟨bS,bT,aD⟩:=B.cell;clear bQ aI aJ bB aN aQ aS aV aW;have bL:=PE.length _ _ B.fJ;have bM:=B.row;rw[bL] at bM;have b9:=bM;have dk:=U.size;have dj:A.fJ.length<=3:=by rw[aX.out];decide
 clear bL;refine WL 11 λK c=>?_;refine step_append_lies _ rfl _ _ 38 rfl w.heap.size 22 b2 Ry 1 8 hH b0 b1 bY bZ rfl Pm _ _ _ rfl (b9.alloc _) (O7 (ai+1) 0) 1 1 [O5 ai] rfl rfl (SK r ai _ bF) (gZ ai) Pm (by unfold maxLen;omega) O9 RQ (r.heap.size+1) P7 ?_
 clear bF;intro ci ch E cn aC bC _;refine c _ _ ?_;clear c K;have cl:=Y (ZW B cu aF U cL.out cn aC bC);have ck:E.cell? (O7 g 3)=r.cell? (O7 g 3)/\E.frozen? (O7 g 3)=r.frozen? (O7 g 3):=r4
 obtain⟨bI,bK⟩:=ck;rw[bS] at bI;rw[bT 3] at bK;clear bC;refine wt 12 (O5 g) ?_;refine wt 13 (PL g 3) ?_;refine WL 14 λK c=>?_;go_simp;refine c _ _ ?_;clear c K bI bK bS bT aD;refine ha Qs ?_ _;go_simp;obtain⟨M,C,D⟩:=O4 cl;obtain⟨aK,aG⟩:∃ cw:Tr,cw=.mk A.kd A.tx A.n (A.fJ++[.mk 13 F 0 [ac]]):=⟨_,rfl⟩;rw[<-aG] at M;have cO:Hid (aK.fJ.length=A.fJ.length+1):=by
  show _=_
  rw[aG];simp[Tr.fJ]
 have dl:=Y aG;obtain⟨cr,uz,dm,bO,bj⟩:=M.opens;have bR:cr=g:=by simpa[O5] using bO.symm
 rw[bR] at bj;obtain⟨cJ,bf⟩:=xE ((E.setCell (O7 g 3) (.slice (some (O7 ci 0)) (A.fJ.length+1) ch)));rw[<-bf] at bj C D;rw[<-bf];have k:=bj;have de:=C;have dc:=D;clear bO bf bR aG;have d:=TM e SS cJ I i de b8 Pm;go_wp2_with fail;refine cm d ?_;rintro m wz ⟨rfl,q,f⟩;have c9:=q;have cP:=dc.next f;replace k:=Open.fH k (f) o.out;have da:Hid (aK.fJ.length=2):=by
  show _=_
  rw[cO.out,aX.out]
 have ah:=RV a7 bc wz.drew i (I+1) _ rfl (by rw[cI];nofun) c9.drew
 rw[cI] at ah;obtain⟨bu,b6,cW⟩:=k.cell;obtain⟨ua,uc,aZ⟩:=k.shape;subst aZ;go_wp2_with fail;refine mv (H:=λa l=>Ap e.R wz.heap.size wz a/\QC e a bU i/\Qa (gp wz.heap.size) a br l) (G:=?G4) (λax=>?_) ?_;rotate_left
 ·refine l3 ?_;refine wt 5 (Qi e) ?_;refine hJ 4 6 (λK c=>?_) λK c=>?_
  ·have b{G}(h:G:=by
   have b{G}(h:G:=by
   have z:=((Ap.refl e.R wz.heap.size wz).drew).next f;have ap:Hid (Ap e.R wz.heap.size wz a/\QC e a bU i/\Qa (gp wz.heap.size) a br l):=⟨z,q,T⟩;exact Lt):=O6 h;exact qs):=O6 h;go_simp;exact tM
  ·go_simp;refine cm ah ?_;have b{G}(h:G:=by
   have z:=((Ap.refl e.R wz.heap.size wz).drew).next f;have ap:Hid (Ap e.R wz.heap.size wz a/\QC e a bU i/\Qa (gp wz.heap.size) a br l):=⟨z,q,T⟩;exact Gt):=O6 h;exact qs
 intro a l cg;obtain⟨z,q,T⟩:=cg;have au:=cP.next z;have cx:=z;have aY:=q;have bE:=Open.fH k z o.out;have cq:=T;obtain⟨aN,aQ,aS⟩:=bE.cell;have aV:g<a.heap.size+1:=O9;have aW:g<a.heap.size+1+1:=O9;obtain⟨cf,bD,bG⟩:=made (w:=wz) aY cx (PE.cons cq PE.nil) (by simp[maxLen]) #[O5 l] rfl 1 rfl 14 O8 (a.heap.size+1) rfl;have be:Pn a ((a.alloc (.cells #[O5 l] 22)).alloc (Qc 14 O8 0 (.slice (some (O7 a.heap.size 0)) 1 1))):=QJ.alloc P7 _
 obtain⟨r,aI⟩:=xE ((a.alloc (.cells #[O5 l] 22)).alloc (Qc 14 O8 0 (.slice (some (O7 a.heap.size 0)) 1 1)));have bB:(a.alloc (.cells #[O5 l] 22)).heap.size=a.heap.size+1:=by simp
 obtain⟨ai,aJ⟩:=xE (a.heap.size+1);obtain⟨cp,bQ,bh⟩:=cf.nv;have am:cp=a.heap.size+1:=by simpa[O5] using bQ.symm
 subst am;have bF:r.heap.size=ai+1:=by rw[aI,aJ];simp
 rw[<-aI] at bh bD bG be
 try rw[bB]
 rw[<-aJ] at bh
 try rw[<-aJ]
 try rw[<-aI]
 have B:=Open.fH bE (Ap.of be) o.out;have U:=au.next (Ap.of be);have aF:=bD;have cu:=Open.apart k cP.size bG o.out (PE.cons bh PE.nil);obtain⟨bS,bT,aD⟩:=B.cell;clear bQ aI aJ bB aN aQ aS aV aW;have bL:=PE.length _ _ B.fJ;have bM:=B.row;rw[bL] at bM;have b9:=bM;have dk:=U.size;have dj:aK.fJ.length<=3:=by rw[da.out];decide
 clear bL;refine WL 10 λK c=>?_;refine step_append_lies _ rfl _ _ 38 rfl w.heap.size 22 b2 Ry 1 8 hH b0 b1 bY bZ rfl Pm _ _ _ rfl (b9.alloc _) (O7 (ai+1) 0) 1 1 [O5 ai] rfl rfl (SK r ai _ bF) (gZ ai) Pm (by unfold maxLen;omega) O9 RQ (r.heap.size+1) P7 ?_
 clear bF;intro ci ch E cn aC bC _;refine c _ _ ?_;clear c K;have cl:=Y (ZW B cu aF U cL.out cn aC bC);have ck:E.cell? (O7 g 3)=r.cell? (O7 g 3)/\E.frozen? (O7 g 3)=r.frozen? (O7 g 3):=r4
 obtain⟨bI,bK⟩:=ck;rw[bS] at bI;rw[bT 3] at bK;clear bC;refine wt 11 (O5 g) ?_;refine wt 12 (PL g 3) ?_;refine WL 13 λK c=>?_;go_simp;refine c _ _ ?_;clear c K bI bK bS bT aD;refine ha Qs ?_ _;go_simp;obtain⟨M,C,D⟩:=O4 cl;obtain⟨cG,aG⟩:∃ cw:Tr,cw=.mk aK.kd aK.tx aK.n (aK.fJ++[.mk 14 O8 0 [br]]):=⟨_,rfl⟩;rw[<-aG] at M;have db:Hid (cG.fJ.length=aK.fJ.length+1):=by
  show _=_
  rw[aG];simp[Tr.fJ]
 have dd:=Y aG;obtain⟨cr,uz,dm,bO,bj⟩:=M.opens;have bR:cr=g:=by simpa[O5] using bO.symm
 rw[bR] at bj;obtain⟨cJ,bf⟩:=xE ((E.setCell (O7 g 3) (.slice (some (O7 ci 0)) (aK.fJ.length+1) ch)));rw[<-bf] at bj C D;rw[<-bf];have k:=bj;clear bO bf bR aG;obtain⟨bu,b6,cW⟩:=k.cell;obtain⟨ua,uc,aZ⟩:=k.shape;subst aZ;have cK:cG.fJ.length=3:=by rw[db.out,cO.out,aX.out]
 rw[cK] at bu;clear cK;go_wp2;go_ret;have di:=O4 b4;have dh:=O4 dl;have dg:=O4 dd;have cM:=k.ev.nv;rw[dg,dh,di] at cM;exact Uz rfl cM C D):=O6 h;exact wn):=O6 h;exact p6
def Rv (bE:Int)(b9:Nat)(br:QO e.l bm i (I+1)=.f0 bE b9):Pq 154 #[Qi e] w (QT e w i (NV w.heap.size) (.f0 bE b9)):=by
 have cp:=Y h.base.size;have b{G}(h:G:=by
 have b{G}(h:G:=by
 refine mv (H:=λa l=>Ap e.R H.heap.size H a/\QC e a I i/\Qa (gp H.heap.size) a ac l) (G:=?G5) (λax=>?_) ?_;rotate_left
 ·exact xY
 intro a l ci;obtain⟨z,q,T⟩:=ci;have au:=bv.next z;have aY:=q;have bD:=Open.fH k z o.out;obtain⟨aN,aQ,aS⟩:=bD.cell;have aV:g<a.heap.size+1:=O9;have aW:g<a.heap.size+1+1:=O9;obtain⟨ch,bC,bG⟩:=made (w:=H) aY z (PE.cons T PE.nil) (by simp[maxLen]) #[O5 l] rfl 1 rfl 13 F (a.heap.size+1) rfl;have aJ:Pn a ((a.alloc (.cells #[O5 l] 22)).alloc (Qc 13 F 0 (.slice (some (O7 a.heap.size 0)) 1 1))):=QJ.alloc P7 _
 obtain⟨r,aG⟩:=xE ((a.alloc (.cells #[O5 l] 22)).alloc (Qc 13 F 0 (.slice (some (O7 a.heap.size 0)) 1 1)));have bj:(a.alloc (.cells #[O5 l] 22)).heap.size=a.heap.size+1:=by simp
 obtain⟨ai,aI⟩:=xE (a.heap.size+1);obtain⟨cu,bR,bf⟩:=ch.nv;have am:cu=a.heap.size+1:=by simpa[O5] using bR.symm
 subst am;have bF:r.heap.size=ai+1:=by rw[aG,aI];simp
 rw[<-aG] at bf bC bG aJ
 try rw[bj]
 rw[<-aI] at bf
 try rw[<-aI]
 try rw[<-aG]
 have B:=Open.fH bD (Ap.of aJ) o.out;have U:=au.next (Ap.of aJ);have aF:=bC;have cx:=Open.apart k bv.size bG o.out (PE.cons bf PE.nil);obtain⟨bT,bU,aD⟩:=B.cell;clear bR aG aI bj aN aQ aS aV aW;have bL:=PE.length _ _ B.fJ;have bM:=B.row;rw[bL] at bM;have cL:=U.size;have cK:A.fJ.length<=3:=by rw[aX.out];decide
 clear bL;refine WL 11 λK c=>?_;refine step_append_lies _ rfl _ _ 38 rfl w.heap.size 22 b2 Ry 1 8 hH b0 b1 bY bZ rfl Pm _ _ _ rfl (bM.alloc _) (O7 (ai+1) 0) 1 1 [O5 ai] rfl rfl (SK r ai _ bF) (gZ ai) Pm (by unfold maxLen;omega) O9 RQ (r.heap.size+1) P7 ?_
 clear bF;intro cl ck E cr aC bB _;refine c _ _ ?_;clear c K;have cq:=Y (ZW B cx aF U cp.out cr aC bB);have cn:E.cell? (O7 g 3)=r.cell? (O7 g 3)/\E.frozen? (O7 g 3)=r.frozen? (O7 g 3):=r4
 obtain⟨bI,bK⟩:=cn;rw[bT] at bI;rw[bU 3] at bK;clear bB;refine wt 12 (O5 g) ?_;refine wt 13 (PL g 3) ?_;refine WL 14 λK c=>?_;go_simp;refine c _ _ ?_;clear c K bI bK bT bU aD;refine ha Qs ?_ _;go_simp;obtain⟨M,C,D⟩:=O4 cq;obtain⟨bQ,aK⟩:∃ cG:Tr,cG=.mk A.kd A.tx A.n (A.fJ++[.mk 13 F 0 [ac]]):=⟨_,rfl⟩;rw[<-aK] at M;have cI:Hid (bQ.fJ.length=A.fJ.length+1):=by
  show _=_
  rw[aK];simp[Tr.fJ]
 obtain⟨cw,uz,cM,bO,bh⟩:=M.opens;have bS:cw=g:=by simpa[O5] using bO.symm
 rw[bS] at bh;obtain⟨cg,be⟩:=xE ((E.setCell (O7 g 3) (.slice (some (O7 cl 0)) (A.fJ.length+1) ck)));rw[<-be] at bh C D;rw[<-be];have k:=bh;clear bO be bS aK;have d:=TM e SS cg I i C b8 Pm;go_wp2_with fail;refine cm d ?_;rintro m wz ⟨rfl,q,f⟩;have cf:=D.next f;replace k:=Open.fH k (f) o.out;have cJ:Hid (bQ.fJ.length=2):=by
  show _=_
  rw[cI.out,aX.out]
 have ah:=RV a7 bc wz.drew i (I+1) _ rfl (by rw[br];nofun) q.drew
 rw[br] at ah;obtain⟨bu,b6,cW⟩:=k.cell;obtain⟨ua,uc,aZ⟩:=k.shape;subst aZ;go_wp2_with fail;refine k5 Qs ?_;change wpAny _ _ _ _ _ _ _ (World.drew _);refine wt 0 (O5 g) ?_;refine wt 1 (O5 g) ?_;refine wt 2 (O5 g) ?_;refine wt 3 (PL g 3) ?_;refine wt 5 (Qi e) ?_;refine hJ 4 6 (λK c=>?_) λK c=>?_
 ·have b{G}(h:G:=by
  intro m a p;obtain⟨rfl,f⟩:=p;exact⟨rfl,QV rfl (cf.drew.next f)⟩):=O6 h;go_simp;exact tM
 ·go_simp;refine cm ah ?_;intro m a p;obtain⟨rfl,f⟩:=p;exact⟨rfl,QV rfl (cf.drew.next f)⟩):=O6 h;exact wn):=O6 h;exact p6
