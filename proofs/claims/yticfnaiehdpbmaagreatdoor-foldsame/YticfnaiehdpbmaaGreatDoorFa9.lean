import Derived.Test.YticfnaiehdpbmaaGreatDoorFa5
import Derived.Deep.MidRow
import Derived.Laws.AppendOwnNone
set_option maxRecDepth 100000
set_option maxHeartbeats 0
set_option linter.all false
namespace Go.Proofs.YticfnaiehdpbmaaGreatDoor
open Go.RowKit Go.Proofs.Tryz
def amn {e:gy}{bj:Um}(bm:FC e bj)(w:Pe)(q n:Nat)(bL:PR Tr)(bM:(Qe e.l n).kd≠6)(ay:XC e.l bj q n=bL)(bA:bL≠.out)(h:QC e w n q):Pq 153 #[Qi e] w (QT e w q (NV w.heap.size) bL):=by
 have ch:=RD e.R 224;have cf:=Y bM;have b{G}(h:G:=by
 clear bM;have b9:=h;have b{G}(h:G:=by
 unfold XC at ay;have i:=Y ay;have B:=Y bA;clear h ay bA;go_enter func153,ntmps153;have b{G}(h:G:=by
 have d:=QA E O8 Q8 wk ⟨_,_,_,rfl⟩;go_wp2_with fail;refine cm d ?_;rintro m b7 ⟨rfl,rfl⟩;obtain⟨T,ac,ah⟩:=o5 b1 ba (KV.nil _ _) E O8 _ rfl;obtain⟨aJ,aC⟩:=xE (.mk E O8 0 []:Tr);have b{G}(h:G:=by
 have aD:g=wk.heap.size:=by simpa[O5] using b2.symm
 have b{G}(h:G:=by
 obtain⟨s,bI⟩:=xE (wk.alloc (Qc E O8 0 Q8));rw[<-bI] at au aj U aQ a6;rw[<-aD] at au aQ a6;rw[<-bI,<-aD];clear bI aD
 by_cases am:E=11
 ·rw[fL (fM am)] at i;have bS:(E==11)=true:=jL.2 am;clear am;have k:=au;have b{G}(h:G:=by
  cases X:Qw e.l bj.vl q (n+1) with
  | out=>
   exact Tc
  | f0 bn bo=>
   have d:=WA bm s.drew q (n+1) aj.drew (by rw[X];nofun)
   have b{G}(h:G:=by
   refine l3 ?_;refine pW ?_;refine hJ 4 8 (λK c=>?_) λK c=>?_
   ·go_simp;refine c _ _ ?_;clear c K;refine WL 8 λK c=>?_;go_simp;exact vr
   ·go_simp;exact vr):=O6 h;exact oA
  | ok A C=>
   have d:=WA bm s.drew q (n+1) aj.drew (by rw[X];nofun)
   have b{G}(h:G:=by
   refine mv (H:=λa l=>Ap e.R s.heap.size s a/\QC e a C q/\Qa (gp s.heap.size) a A l) (G:=?G1) (λax=>?_) ?_;rotate_left
   ·refine l3 ?_;refine pW ?_;refine hJ 4 8 (λK c=>?_) λK c=>?_
    ·go_simp;refine c _ _ ?_;clear c K;refine WL 8 λK c=>?_;have b{G}(h:G:=by
     have r:=((Ap.refl e.R s.heap.size s).drew).next f;have ap:Hid (Ap e.R s.heap.size s a/\QC e a C q/\Qa (gp s.heap.size) a A l):=⟨r,z,D⟩;exact xT):=O6 h;go_simp;exact oV
    ·have b{G}(h:G:=by
     have r:=((Ap.refl e.R s.heap.size s).drew).next f;have ap:Hid (Ap e.R s.heap.size s a/\QC e a C q/\Qa (gp s.heap.size) a A l):=⟨r,z,D⟩;exact yJ):=O6 h;go_simp;exact oV
   intro a l br;obtain⟨r,z,D⟩:=br;have aS:=U.next r;have bu:=z;have t:=Open.fH k r o.out;have bK:=Open.apart k U.size r o.out (PE.cons D PE.nil);obtain⟨I,M,H⟩:=t.cell;have be:=PE.length _ _ t.fJ;have bf:=t.row;rw[be] at bf;have bq:=bf;have bU:=aS.size;have bT:aJ.fJ.length<=3:=by rw[bB.out];decide
   clear be;refine WL 10 λK c=>?_;refine step_append_lies _ rfl _ _ 38 rfl w.heap.size 22 aZ Ry 1 8 hH aX aY aV aW rfl Pm _ _ _ rfl (bq.alloc _) (O7 a.heap.size 0) 1 1 [O5 l] rfl rfl (SK a l _ rfl) (gZ l) Pm (by unfold maxLen;omega) O9 RQ (a.heap.size+1) P7 ?_
   intro bE bC F bG ai aK _;refine c _ _ ?_;clear c K;have bx:=Y (ZW t bK bu aS aN.out bG ai aK);have bv:F.cell? (O7 g 3)=a.cell? (O7 g 3)/\F.frozen? (O7 g 3)=a.frozen? (O7 g 3):=rc
   obtain⟨a1,bc⟩:=bv;rw[I] at a1;rw[M 3] at bc;clear aK;refine wt 11 (O5 g) ?_;refine wt 12 (PL g 3) ?_;refine WL 13 λK c=>?_;go_simp;refine c _ _ ?_;clear c K a1 bc I M H;refine ha Qs ?_ _;go_simp;obtain⟨T,ac,ah⟩:=O4 bx;have bh:=T;have bD:=ac;have a7:=ah
   cases X:Qm e.l Q9 C with
   | out=>
    exact Tc
   | f0 bn bo=>
    exact uo
   | ok bO bQ=>
    exact A6):=O6 h;exact oL):=O6 h;exact qZ
 ·have bS:(E==11)=false:=gG.2 am;have d:=TN e s (n+1) q aj
  by_cases aG:fx e.l (n+1)=Q9
  ·rw[fK (λbV=>bV.elim am (λak=>ak aG))] at i;have bW:((fx e.l (n+1)).toList==[59])=true:=VL (a:=Q9) rfl aG;clear am aG;have b{G}(h:G:=by
   have bh:=k.ev
   cases X:Qm e.l Q9 (n+1) with
   | out=>
    exact Tc
   | f0 bn bo=>
    have d:=Qh e Q9 wf (n+1) q aF Pm;rw[X] at d i;simp only[QK] at i;clear X;have b{G}(h:G:=by
    exact⟨rfl,QV i.out.symm (aI.next f)⟩):=O6 h;exact YT
   | ok bO bQ=>
    have d:=Qh e Q9 wf (n+1) q aF Pm;have b{G}(h:G:=by
    intro m b3 p;obtain⟨⟨bY,rfl,rfl⟩,z,f⟩:=p;have bR:=aI.next f;exact CR):=O6 h;exact YU):=O6 h;exact sp
  ·rw[fL (fU aG)] at i;have bW:((fx e.l (n+1)).toList==[59])=false:=Vt (a:=Q9) rfl aG;clear am aG;have b{G}(h:G:=by
   have b{G}(h:G:=by
   cases X:Qw e.l bj.vl q (n+1) with
   | out=>
    exact Tc
   | f0 bn bo=>
    have d:=WA bm wf.drew q (n+1) aF.drew (by rw[X];nofun)
    have b{G}(h:G:=by
    refine l3 ?_;refine pW ?_;refine hJ 4 8 (λK c=>?_) λK c=>?_
    ·go_simp;refine c _ _ ?_;clear c K;refine WL 8 λK c=>?_;go_simp;exact GQ
    ·go_simp;exact GQ):=O6 h;exact oA
   | ok A C=>
    have d:=WA bm wf.drew q (n+1) aF.drew (by rw[X];nofun)
    have b{G}(h:G:=by
    refine mv (H:=λa l=>Ap e.R wf.heap.size wf a/\QC e a C q/\Qa (gp wf.heap.size) a A l) (G:=?G2) (λax=>?_) ?_;rotate_left
    ·refine l3 ?_;refine pW ?_;refine hJ 4 8 (λK c=>?_) λK c=>?_
     ·go_simp;refine c _ _ ?_;clear c K;refine WL 8 λK c=>?_;have b{G}(h:G:=by
      have r:=((Ap.refl e.R wf.heap.size wf).drew).next f;have ap:Hid (Ap e.R wf.heap.size wf a/\QC e a C q/\Qa (gp wf.heap.size) a A l):=⟨r,z,D⟩;exact xT):=O6 h;go_simp;exact oV
     ·have b{G}(h:G:=by
      have r:=((Ap.refl e.R wf.heap.size wf).drew).next f;have ap:Hid (Ap e.R wf.heap.size wf a/\QC e a C q/\Qa (gp wf.heap.size) a A l):=⟨r,z,D⟩;exact yJ):=O6 h;go_simp;exact oV
    intro a l br;obtain⟨r,z,D⟩:=br;have aS:=aI.next r;have bu:=z;have t:=Open.fH k r o.out;have bK:=Open.apart k aI.size r o.out (PE.cons D PE.nil);obtain⟨I,M,H⟩:=t.cell;have be:=PE.length _ _ t.fJ;have bf:=t.row;rw[be] at bf;have bq:=bf;have bU:=aS.size;have bT:aJ.fJ.length<=3:=by rw[bB.out];decide
    clear be;refine WL 10 λK c=>?_;refine step_append_lies _ rfl _ _ 38 rfl w.heap.size 22 aZ Ry 1 8 hH aX aY aV aW rfl Pm _ _ _ rfl (bq.alloc _) (O7 a.heap.size 0) 1 1 [O5 l] rfl rfl (SK a l _ rfl) (gZ l) Pm (by unfold maxLen;omega) O9 RQ (a.heap.size+1) P7 ?_
    intro bE bC F bG ai aK _;refine c _ _ ?_;clear c K;have bx:=Y (ZW t bK bu aS aN.out bG ai aK);have bv:F.cell? (O7 g 3)=a.cell? (O7 g 3)/\F.frozen? (O7 g 3)=a.frozen? (O7 g 3):=rc
    obtain⟨a1,bc⟩:=bv;rw[I] at a1;rw[M 3] at bc;clear aK;refine wt 11 (O5 g) ?_;refine wt 12 (PL g 3) ?_;refine WL 13 λK c=>?_;go_simp;refine c _ _ ?_;clear c K a1 bc I M H;refine ha Qs ?_ _;go_simp;obtain⟨T,ac,ah⟩:=O4 bx;have bh:=T;have bD:=ac;have a7:=ah
    cases X:Qm e.l Q9 C with
    | out=>
     exact Tc
    | f0 bn bo=>
     exact uo
    | ok bO bQ=>
     exact A6):=O6 h;exact oL):=O6 h;exact qZ):=O6 h;exact sp):=O6 h;exact FK):=O6 h;exact AL):=O6 h;exact E0):=O6 h;exact kM):=O6 h;exact qj
def jbZ {α β γ:Type}(a:PR α)(b:α->Nat->PR β)(c:β->Nat->PR γ):(a.bind b).bind c=a.bind λx d=>(b x d).bind c:=by cases a <;> rfl
def aMM {e:gy}{a:Um}(l:FC e a)(r:∃ b,jW e.l b a)(w:Pe)(i n c:Nat)(h:QC e w n i)(bW:Qm e.l md n=.ok () c)(j:Int)(k:Nat)(g:QO e.l a i c=.f0 j k):Pq 154 #[Qi e] w (QT e w i (NV w.heap.size) (.f0 j k)):=by
 obtain⟨A,v,z,t,u⟩:=gY hV;have o:=Ap.refl e.R w.heap.size w;have b{G}(h:G:=by
 have s:=o.next f;have d:=RV l r cC i c _ rfl (by rw[g];nofun) q
 rw[g] at d;have b{G}(h:G:=by
 exact⟨rfl,QV rfl (s.next f)⟩):=O6 h;exact YT):=O6 h;exact Bx
section
variable {e:gy} {ai:Um} (a7:FC e ai) (bc:∃ j,jW e.l j ai) (w:Pe) (i n bn:Nat) (h:QC e w n i) (bW:Qm e.l md n=.ok () bn) (N:Tr) (t:Nat) (O:QO e.l ai i bn=.ok N t)
include e ai a7 bc w i n bn h bW N t O
def ax3 (E:fx e.l t≠VT)(b8:fx e.l t≠SS):Pq 154 #[Qi e] w (QT e w i (NV w.heap.size) (.f0 3 (Qe e.l t).pl)):=by
 obtain⟨U,H,I,z,B⟩:=gY hV;have b{G}(h:G:=by
 have b{G}(h:G:=by
 have aj{G}(h:G:=by
 have aj{G}(h:G:=by
 obtain⟨M,C,D⟩:=made q cZ (PE.cons cV PE.nil) (by simp[maxLen]) #[O5 bV] rfl 1 rfl 12 O8 (wb.heap.size+1) rfl;have aj{G}(h:G:=by
 have b{G}(h:G:=by
 have b{G}(h:G:=by
 have d:=UA e SS a t i k b8;go_wp2_with fail;refine cm d ?_;rintro m wf ⟨rfl,O⟩;have r:=k.fH O;have l:=F.next (Ap.of O);replace s:=Y (Open.fH s (Ap.of O) o.out);clear O;have b{G}(h:G:=by
 rw[aX.out] at cA;have d:=VX e 3 wf t i r;go_wp2_with fail;refine cm d ?_;rintro m T ⟨rfl,c⟩;exact⟨rfl,QV rfl (l.next (Ap.of c))⟩):=O6 h;exact rA):=O6 h;exact Ky):=O6 h;exact s7):=O6 h;exact IC):=O6 h;exact Dg):=O6 h;exact AN):=O6 h;exact Bx):=O6 h;exact kM
def aCQ (bQ:fx e.l t≠VT)(b8:fx e.l t=SS)(F:Tr)(i2:Nat)(be:QO e.l ai i (t+1)=.ok F i2):Pq 154 #[Qi e] w (QT e w i (NV w.heap.size) (.ok (.mk 12 O8 0 [N,.mk 14 O8 0 [F]]) i2)):=by
 have cg:=Y h.base.size;have b{G}(h:G:=by
 have k:=s;have aY:=C;have bG:=D;have b{G}(h:G:=by
 rw[<-a1] at k aY bG;rw[<-a6] at k;refine ve ?_;clear a1 a6;have d:=UA e VT aZ t i aY bQ;go_wp2_with fail;refine cm d ?_;rintro m a ⟨rfl,O⟩;have aG:=aY.fH O;have aI:=bG.next (Ap.of O);replace k:=Open.fH k (Ap.of O) o.out;clear O;have d:=TM e SS a t i aG b8 Pm;go_wp2_with fail;refine cm d ?_;rintro m wf ⟨rfl,q,f⟩;have cn:=q;have bD:=aI.next f;replace k:=Open.fH k (f) o.out;have ah:=RV a7 bc wf.drew i (t+1) _ rfl (by rw[be];nofun) cn.drew
 rw[be] at ah;have b{G}(h:G:=by
 go_wp2_with fail;refine mv (H:=λa l=>Ap e.R wf.heap.size wf a/\QC e a i2 i/\Qa (gp wf.heap.size) a F l) (G:=?G1) (λax=>?_) ?_;rotate_left
 ·refine l3 ?_;refine wt 5 (Qi e) ?_;refine hJ 4 6 (λK c=>?_) λK c=>?_
  ·have b{G}(h:G:=by
   have b{G}(h:G:=by
   have z:=((Ap.refl e.R wf.heap.size wf).drew).next f;have ap:Hid (Ap e.R wf.heap.size wf a/\QC e a i2 i/\Qa (gp wf.heap.size) a F l):=⟨z,q,T⟩;exact Lt):=O6 h;exact qs):=O6 h;go_simp;exact tM
  ·go_simp;refine cm ah ?_;have b{G}(h:G:=by
   have z:=((Ap.refl e.R wf.heap.size wf).drew).next f;have ap:Hid (Ap e.R wf.heap.size wf a/\QC e a i2 i/\Qa (gp wf.heap.size) a F l):=⟨z,q,T⟩;exact Gt):=O6 h;exact qs
 intro a l bU;obtain⟨z,q,T⟩:=bU;have aI:=bD.next z;have aG:=q;have bo:=Open.fH k z o.out;obtain⟨aN,aQ,aS⟩:=bo.cell;have aV:g<a.heap.size+1:=O9;have aW:g<a.heap.size+1+1:=O9;obtain⟨bT,bj,br⟩:=made (w:=wf) aG z (PE.cons T PE.nil) (by simp[maxLen]) #[O5 l] rfl 1 rfl 14 O8 (a.heap.size+1) rfl;have au:Pn a ((a.alloc (.cells #[O5 l] 22)).alloc (Qc 14 O8 0 (.slice (some (O7 a.heap.size 0)) 1 1))):=QJ.alloc P7 _
 obtain⟨r,U⟩:=xE ((a.alloc (.cells #[O5 l] 22)).alloc (Qc 14 O8 0 (.slice (some (O7 a.heap.size 0)) 1 1)));have bf:(a.alloc (.cells #[O5 l] 22)).heap.size=a.heap.size+1:=by simp
 obtain⟨H,ac⟩:=xE (a.heap.size+1);obtain⟨cl,bI,aJ⟩:=bT.nv;have am:cl=a.heap.size+1:=by simpa[O5] using bI.symm
 subst am;have bq:r.heap.size=H+1:=by rw[U,ac];simp
 rw[<-U] at aJ bj br au
 try rw[bf]
 rw[<-ac] at aJ
 try rw[<-ac]
 try rw[<-U]
 have B:=Open.fH bo (Ap.of au) o.out;have bF:=aI.next (Ap.of au);have cq:=Open.apart k bD.size br o.out (PE.cons aJ PE.nil);obtain⟨bL,bM,aD⟩:=B.cell;clear bI U ac bf aN aQ aS aV aW;have bx:=PE.length _ _ B.fJ;have bB:=B.row;rw[bx] at bB;have cz:=bF.size;have cy:A.fJ.length<=3:=by rw[aX.out];decide
 clear bx;refine WL 10 λK c=>?_;refine step_append_lies _ rfl _ _ 38 rfl w.heap.size 22 b2 Ry 1 8 hH b0 b1 bY bZ rfl Pm _ _ _ rfl (bB.alloc _) (O7 (H+1) 0) 1 1 [O5 H] rfl rfl (SK r H _ bq) (gZ H) Pm (by unfold maxLen;omega) O9 RQ (r.heap.size+1) P7 ?_
 clear bq;intro b9 b7 E ck aC bh _;refine c _ _ ?_;clear c K;have ch:=Y (ZW B cq bj bF cg.out ck aC bh);have cf:E.cell? (O7 g 3)=r.cell? (O7 g 3)/\E.frozen? (O7 g 3)=r.frozen? (O7 g 3):=r4
 obtain⟨bu,bv⟩:=cf;rw[bL] at bu;rw[bM 3] at bv;clear bh;refine wt 11 (O5 g) ?_;refine wt 12 (PL g 3) ?_;refine WL 13 λK c=>?_;go_simp;refine c _ _ ?_;clear c K bu bv bL bM aD;refine ha Qs ?_ _;go_simp;obtain⟨M,C,D⟩:=O4 ch;obtain⟨bE,I⟩:∃ cr:Tr,cr=.mk A.kd A.tx A.n (A.fJ++[.mk 14 O8 0 [F]]):=⟨_,rfl⟩;rw[<-I] at M;have cu:Hid (bE.fJ.length=A.fJ.length+1):=by
  show _=_
  rw[I];simp[Tr.fJ]
 have cw:=Y I;obtain⟨cp,uz,cA,bC,aK⟩:=M.opens;have bK:cp=g:=by simpa[O5] using bC.symm
 rw[bK] at aK;obtain⟨cx,aF⟩:=xE ((E.setCell (O7 g 3) (.slice (some (O7 b9 0)) (A.fJ.length+1) b7)));rw[<-aF] at aK C D;rw[<-aF];have k:=aK;clear bC aF bK I;obtain⟨ci,cG,cW⟩:=k.cell;obtain⟨ua,uc,b6⟩:=k.shape;subst b6;have bm:bE.fJ.length=2:=by rw[cu.out,aX.out]
 rw[bm] at ci;clear bm;go_wp2;go_ret;have bS:=O4 b4;have bR:=O4 cw;have bO:=k.ev.nv;rw[bR,bS] at bO;exact Uz rfl bO C D):=O6 h;exact qZ):=O6 h;exact s7):=O6 h;exact p6
def apP (E:fx e.l t≠VT)(b8:fx e.l t=SS)(r:Int)(B:Nat)(l:QO e.l ai i (t+1)=.f0 r B):Pq 154 #[Qi e] w (QT e w i (NV w.heap.size) (.f0 r B)):=by
 have b{G}(h:G:=by
 have b{G}(h:G:=by
 have b{G}(h:G:=by
 have d:=TM e SS a t i k b8 Pm;go_wp2_with fail;refine cm d ?_;rintro m wf ⟨rfl,q,f⟩;have z:=F.next f;replace s:=Y (Open.fH s (f) o.out);have ah:=RV a7 bc wf.drew i (t+1) _ rfl (by rw[l];nofun) q.drew
 rw[l] at ah;have b{G}(h:G:=by
 go_wp2_with fail;refine l3 ?_;refine wt 5 (Qi e) ?_;refine hJ 4 6 (λK c=>?_) λK c=>?_
 ·have b{G}(h:G:=by
  intro m a p;obtain⟨rfl,f⟩:=p;exact⟨rfl,QV rfl (z.drew.next f)⟩):=O6 h;go_simp;exact tM
 ·go_simp;refine cm ah ?_;intro m a p;obtain⟨rfl,f⟩:=p;exact⟨rfl,QV rfl (z.drew.next f)⟩):=O6 h;exact rA):=O6 h;exact Ky):=O6 h;exact s7):=O6 h;exact p6
def sT (ah:fx e.l t=VT)(l:Int)(B:Nat)(a:Qm e.l Rz (t+1)=.f0 l B\/∃ i2,Qm e.l Rz (t+1)=.ok () i2/\(gC e.l i2=.f0 l B\/∃ H z,gC e.l i2=.ok H z/\(Qm e.l Tt z=.f0 l B\/∃ E,Qm e.l Tt z=.ok () E/\QO e.l ai i E=.f0 l B))):Pq 154 #[Qi e] w (QT e w i (NV w.heap.size) (.f0 l B)):=by
 have k:=Y a;clear a;have b{G}(h:G:=by
 have b{G}(h:G:=by
 rw[<-a1] at s C D;rw[<-a6] at s;refine ve ?_;clear a1 a6;have d:=TM e VT aZ t i C ah Pm;go_wp2_with fail;refine cm d ?_;rintro m T ⟨rfl,q,f⟩;have ap:=q;have au:=D.next f;replace s:=Y (Open.fH s (f) o.out);have d:=Qh e Rz T (t+1) i ap Pm
 rcases k.out with ak|⟨i2,ak,a⟩
 ·rw[ak] at d;have b{G}(h:G:=by
  exact⟨rfl,QV rfl (au.next f)⟩):=O6 h;exact YT
 have k:=Y a;clear a;have aj{G}(h:G:=by
 replace s:=Y (Open.fH s (f) o.out);have d:=gH e r i2 i aF
 rcases k.out with bx|⟨H,z,bx,a⟩
 ·rw[bx] at d;have b{G}(h:G:=by
  exact⟨rfl,QV rfl (U.next f)⟩):=O6 h;exact YT
 have k:=Y a;clear a;have aj{G}(h:G:=by
 replace s:=Y (Open.fH s (f) o.out);have d:=Qh e Tt cU z i cT Pm
 rcases k.out with F|⟨E,F,I⟩
 ·rw[F] at d;have b{G}(h:G:=by
  exact⟨rfl,QV rfl (cz.next f)⟩):=O6 h;exact YT
 rw[F] at d;go_wp2_with fail;refine cm d ?_;intro m ax p;obtain⟨⟨aD,rfl,rfl⟩,q,f⟩:=p;have aC:=cz.next f;replace s:=Y (Open.fH s (f) o.out);have ac:=RV a7 bc ax.drew i E _ rfl (by rw[I];nofun) q.drew
 rw[I] at ac;have b{G}(h:G:=by
 go_wp2_with fail;refine l3 ?_;refine wt 5 (Pj H) ?_;refine wt 6 (Qi e) ?_;refine hJ 4 7 (λK c=>?_) λK c=>?_
 ·go_simp;refine c _ _ ?_;clear c K;refine WL 7 λK c=>?_;go_simp;exact IA
 ·go_simp;exact IA):=O6 h;exact rA):=O6 h;exact Do):=O6 h;exact Ks):=O6 h;exact s7):=O6 h;exact p6
def Rs (cB:fx e.l t=VT)(i2:Nat)(ak:Qm e.l Rz (t+1)=.ok () i2)(F:Py)(bo:Nat)(bx:gC e.l i2=.ok F bo)(bq:Nat)(cA:Qm e.l Tt bo=.ok () bq)(ac:Tr)(I:Nat)(b7:QO e.l ai i bq=.ok ac I)(b8:fx e.l I≠SS):Pq 154 #[Qi e] w (QT e w i (NV w.heap.size) (.ok (.mk 12 O8 0 [N,.mk 13 F 0 [ac]]) I)):=by
 have cp:=Y h.base.size;have b{G}(h:G:=by
 have b{G}(h:G:=by
 refine mv (H:=λa l=>Ap e.R H.heap.size H a/\QC e a I i/\Qa (gp H.heap.size) a ac l) (G:=?G2) (λax=>?_) ?_;rotate_left
 ·exact xY
 intro a l ci;obtain⟨z,q,T⟩:=ci;have au:=bv.next z;have aY:=q;have bC:=Open.fH k z o.out;obtain⟨aN,aQ,aS⟩:=bC.cell;have aV:g<a.heap.size+1:=O9;have aW:g<a.heap.size+1+1:=O9;obtain⟨ch,br,bE⟩:=made (w:=H) aY z (PE.cons T PE.nil) (by simp[maxLen]) #[O5 l] rfl 1 rfl 13 F (a.heap.size+1) rfl;have aK:Pn a ((a.alloc (.cells #[O5 l] 22)).alloc (Qc 13 F 0 (.slice (some (O7 a.heap.size 0)) 1 1))):=QJ.alloc P7 _
 obtain⟨r,aI⟩:=xE ((a.alloc (.cells #[O5 l] 22)).alloc (Qc 13 F 0 (.slice (some (O7 a.heap.size 0)) 1 1)));have bj:(a.alloc (.cells #[O5 l] 22)).heap.size=a.heap.size+1:=by simp
 obtain⟨ah,aJ⟩:=xE (a.heap.size+1);obtain⟨cu,bO,bf⟩:=ch.nv;have am:cu=a.heap.size+1:=by simpa[O5] using bO.symm
 subst am;have bD:r.heap.size=ah+1:=by rw[aI,aJ];simp
 rw[<-aI] at bf br bE aK
 try rw[bj]
 rw[<-aJ] at bf
 try rw[<-aJ]
 try rw[<-aI]
 have B:=Open.fH bC (Ap.of aK) o.out;have U:=au.next (Ap.of aK);have aF:=br;have cx:=Open.apart k bv.size bE o.out (PE.cons bf PE.nil);obtain⟨bR,bS,aD⟩:=B.cell;clear bO aI aJ bj aN aQ aS aV aW;have bI:=PE.length _ _ B.fJ;have bK:=B.row;rw[bI] at bK;have cM:=U.size;have cL:A.fJ.length<=3:=by rw[aX.out];decide
 clear bI;refine WL 11 λK c=>?_;refine step_append_lies _ rfl _ _ 38 rfl w.heap.size 22 b2 Ry 1 8 hH b0 b1 bY bZ rfl Pm _ _ _ rfl (bK.alloc _) (O7 (ah+1) 0) 1 1 [O5 ah] rfl rfl (SK r ah _ bD) (gZ ah) Pm (by unfold maxLen;omega) O9 RQ (r.heap.size+1) P7 ?_
 clear bD;intro cl ck E cr aC bm _;refine c _ _ ?_;clear c K;have cq:=Y (ZW B cx aF U cp.out cr aC bm);have cn:E.cell? (O7 g 3)=r.cell? (O7 g 3)/\E.frozen? (O7 g 3)=r.frozen? (O7 g 3):=r4
 obtain⟨bF,bG⟩:=cn;rw[bR] at bF;rw[bS 3] at bG;clear bm;refine wt 12 (O5 g) ?_;refine wt 13 (PL g 3) ?_;refine WL 14 λK c=>?_;go_simp;refine c _ _ ?_;clear c K bF bG bR bS aD;refine ha Qs ?_ _;go_simp;obtain⟨M,C,D⟩:=O4 cq;obtain⟨bM,aG⟩:∃ cG:Tr,cG=.mk A.kd A.tx A.n (A.fJ++[.mk 13 F 0 [ac]]):=⟨_,rfl⟩;rw[<-aG] at M;have cI:Hid (bM.fJ.length=A.fJ.length+1):=by
  show _=_
  rw[aG];simp[Tr.fJ]
 have cK:=Y aG;obtain⟨cw,uz,cO,bL,bh⟩:=M.opens;have bQ:cw=g:=by simpa[O5] using bL.symm
 rw[bQ] at bh;obtain⟨cg,be⟩:=xE ((E.setCell (O7 g 3) (.slice (some (O7 cl 0)) (A.fJ.length+1) ck)));rw[<-be] at bh C D;rw[<-be];have k:=bh;clear bL be bQ aG;have d:=UA e SS cg I i C b8;go_wp2_with fail;refine cm d ?_;rintro m wz ⟨rfl,O⟩;have bU:=C.fH O;have cJ:=D.next (Ap.of O);replace k:=Open.fH k (Ap.of O) o.out;clear O;obtain⟨bu,b6,cW⟩:=k.cell;obtain⟨ua,uc,aZ⟩:=k.shape;subst aZ;have bB:bM.fJ.length=2:=by rw[cI.out,aX.out]
 rw[bB] at bu;clear bB;go_wp2;go_ret;have cf:=O4 b4;have b9:=O4 cK;have bT:=k.ev.nv;rw[b9,cf] at bT;exact Uz rfl bT bU cJ):=O6 h;exact wn):=O6 h;exact p6
