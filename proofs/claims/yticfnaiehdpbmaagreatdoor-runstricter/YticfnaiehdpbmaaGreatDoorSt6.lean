import Derived.Test.YticfnaiehdpbmaaGreatDoorSt4
import Derived.Deep.MidRow
import Derived.Laws.AppendOwnNone
set_option maxRecDepth 100000
set_option maxHeartbeats 8000000
set_option linter.all false
namespace Go.Proofs.YticfnaiehdpbmaaGreatDoor
open Go.RowKit Go.Proofs.Tryz
def aHq {c:Ctx}(w:Og)(d i:Nat)(h:PI c w i d)(er:Int)(p:Nat)(aR:O6 c.l abu i=.bad er p):Oq 154 #[O1 c] w (P9 c w d (NV w.heap.size) (.bad er p)):=by
 have eZ:=(Ap.refl c.R w.heap.size w);go_enter func154,ntmps154;have aj:=(O5 c abu w i d h Ol);rw[aR] at aj;have z:=N8 (∀{G}(h:G:=by
 exact⟨rfl,Qc rfl (eZ.next ay)⟩),G);exact XK
section
variable {c:Ctx} {F:Sv} (ah:FC c F) (hN:∃ k,FNx c.l k F) (w:Og) (d i i0:Nat) (h:PI c w i d) (aR:O6 c.l abu i=.ok () i0) (b:Tr) (a8:Nat) (A:PV c.l F d i0=.ok b a8) (ai:fx c.l a8=VA) (i2:Nat) (U:O6 c.l RP (a8+1)=.ok () i2) (s:Ou) (i3:Nat) (av:nameP c.l i2=.ok s i3) (i4:Nat) (aN:O6 c.l TV i3=.ok () i4) (b2:Tr) (i5:Nat) (bx:PV c.l F d i4=.ok b2 i5) (aF:fx c.l i5=Ru)
include c F ah hN w d i i0 h aR b a8 A ai i2 U s i3 av i4 aN b2 i5 bx aF
def aut (em:Tr)(pW:Nat)(cf:PV c.l F d (i5+1)=.ok em pW):Oq 154 #[O1 c] w (P9 c w d (NV w.heap.size) (.ok (.mk 12 Oh 0 [b,.mk 13 s 0 [b2],.mk 14 Oh 0 [em]]) pW)):=by
 have iw:=hide h.base.size;have z:=N8 (∀{G}(h:G:=by
 have z:=N8 (∀{G}(h:G:=by
 refine ace (H:=fun aD cw=>Ap c.R jW.heap.size jW aD/\PI c aD i5 d/\PO (From jW.heap.size) aD b2 cw) (G:=?G3) (fun dD=>?_) ?_;rotate_left
 ·exact ayl
 intro aD cw bJ;obtain⟨dr,ba,hx⟩:=bJ;have e3:=(qY.next dr);have yE:=dr;have fR:=ba;have eA:=(Open.later ci dr bW.out);have m2:=hx;obtain⟨gu,gv,hD⟩:=eA.cell;have pB:aU<aD.heap.size+1:=Oe;have pC:aU<aD.heap.size+1+1:=Oe;have⟨bT,cY,hA⟩:=made (w:=jW) fR yE (Oz.cons m2 Oz.nil) (by simp[maxLen]) #[N7 cw] rfl 1 rfl 13 s (aD.heap.size+1) rfl;have d1:Oo aD ((aD.alloc (.cells #[N7 cw] 22)).alloc (O7 13 s 0 (.slice (some (N9 aD.heap.size 0)) 1 1))):=PE.alloc OW _
 have⟨wd,e7⟩:=xE ((aD.alloc (.cells #[N7 cw] 22)).alloc (O7 13 s 0 (.slice (some (N9 aD.heap.size 0)) 1 1)));have ag:(aD.alloc (.cells #[N7 cw] 22)).heap.size=aD.heap.size+1:=by simp
 have⟨q,iG⟩:=xE (aD.heap.size+1);obtain⟨h',mG,ik⟩:=bT.nv;have gO:h'=aD.heap.size+1:=by simpa[N7] using mG.symm
 subst gO;have gQ:wd.heap.size=q+1:=by rw[e7,iG];simp
 rw[<-e7] at ik cY hA d1
 try rw[ag]
 rw[<-iG] at ik
 try rw[<-iG]
 try rw[<-e7]
 have ie:=(Open.later eA (Ap.of d1) bW.out);have jX:=(e3.next (Ap.of d1));have oB:=cY;have qc:=(Open.apart ci qY.size hA bW.out (Oz.cons ik Oz.nil));obtain⟨mu,mv,py⟩:=ie.cell;clear mG e7 iG ag gu gv hD pB pC;have hlen:=Oz.length _ _ ie.kids;have hown:=ie.row;rw[hlen] at hown;have HOWN:=hown;have da:=jX.size;have cI:t0.kids.length<=3:=by rw[jG.out];decide
 clear hlen;refine QF 11 fun K D=>?_;refine step_append_lies _ rfl _ _ 38 rfl w.heap.size 22 s9 QS 1 8 underlying38 dW dw b8 cn rfl Ol _ _ _ rfl (HOWN.alloc _) (N9 (q+1) 0) 1 1 [N7 q] rfl rfl (Rq wd q _ gQ) (one_one q) Ol (by unfold maxLen;omega) Oe QY (wd.heap.size+1) OW ?_
 clear gQ;intro g cap aq hown3 eU c9 _;refine D _ _ ?_;clear D K;have gD:=hide (YQ ie qc oB jX iw.out hown3 eU c9);have gi:aq.cell? (N9 aU 3)=wd.cell? (N9 aU 3)/\aq.frozen? (N9 aU 3)=wd.frozen? (N9 aU 3):=ap4
 obtain⟨gM,gN⟩:=gi;rw[mu] at gM;rw[mv 3] at gN;clear c9;refine wt 12 (N7 aU) ?_;refine wt 13 (Oy aU 3) ?_;refine QF 14 fun K D=>?_;go_simp;refine D _ _ ?_;clear D K gM gN mu mv py;refine wpAny_done Pe ?_ _;go_simp;have⟨cO,cP,db⟩:=NZ gD;obtain⟨kF,eN⟩:∃ qU:Tr,qU=.mk t0.kd t0.tx t0.n (t0.kids++[.mk 13 s 0 [b2]]):=⟨_,rfl⟩;rw[<-eN] at cO;have q3:Hid (kF.kids.length=t0.kids.length+1):=by
  show _=_
  rw[eN];simp[Tr.kids]
 have vv:=hide eN;obtain⟨pz,uz,yA,iU,hopz⟩:=cO.opens;have mH:pz=aU:=by simpa[N7] using iU.symm
 rw[mH] at hopz;have⟨bD,fH⟩:=xE ((aq.setCell (N9 aU 3) (.slice (some (N9 g 0)) (t0.kids.length+1) cap)));rw[<-fH] at hopz cP db;rw[<-fH];have ci:=hopz;have Gz:=cP;have E9:=db;clear iU fH mH eN;have aj:=(RU c Ru bD i5 d Gz aF Ol);go_wp2_with fail;refine cm aj ?_;rintro e wz ⟨rfl,ba,ay⟩;have zs:=ba;have r0:=(E9.next ay);replace ci:=(Open.later ci (ay) bW.out);have Cf:Hid (kF.kids.length=2):=by
  show _=_
  rw[q3.out,jG.out]
 have jE:=(QL ah hN wz.drew d (i5+1) _ rfl (by rw[cf];nofun) zs.drew)
 rw[cf] at jE;obtain⟨lp,pJ,dE⟩:=ci.cell;obtain⟨cV,uc,l1⟩:=ci.shape;subst l1;go_wp2_with fail;refine ace (H:=fun aD cw=>Ap c.R wz.heap.size wz aD/\PI c aD pW d/\PO (From wz.heap.size) aD em cw) (G:=?G4) (fun dD=>?_) ?_;rotate_left
 ·have z:=N8 (∀{G}(h:G:=by
  refine wt 5 (O1 c) ?_;refine wr2 4 6 (fun K D=>?_) fun K D=>?_
  ·have z:=N8 (∀{G}(h:G:=by
   have z:=N8 (∀{G}(h:G:=by
   have dr:=((Ap.refl c.R wz.heap.size wz).drew).next ay;have kP:Hid (Ap c.R wz.heap.size wz aD/\PI c aD pW d/\PO (From wz.heap.size) aD em cw):=⟨dr,ba,hx⟩;exact aE9),G);exact amM),G);exact atW
  ·go_simp;refine cm jE ?_;have z:=N8 (∀{G}(h:G:=by
   have dr:=((Ap.refl c.R wz.heap.size wz).drew).next ay;have kP:Hid (Ap c.R wz.heap.size wz aD/\PI c aD pW d/\PO (From wz.heap.size) aD em cw):=⟨dr,ba,hx⟩;exact aE7),G);exact amM),G);exact aar
 intro aD cw bJ;obtain⟨dr,ba,hx⟩:=bJ;have e3:=(r0.next dr);have yE:=dr;have fR:=ba;have eA:=(Open.later ci dr bW.out);have m2:=hx;obtain⟨gu,gv,hD⟩:=eA.cell;have pB:aU<aD.heap.size+1:=Oe;have pC:aU<aD.heap.size+1+1:=Oe;have⟨bT,cY,hA⟩:=made (w:=wz) fR yE (Oz.cons m2 Oz.nil) (by simp[maxLen]) #[N7 cw] rfl 1 rfl 14 Oh (aD.heap.size+1) rfl;have d1:Oo aD ((aD.alloc (.cells #[N7 cw] 22)).alloc (O7 14 Oh 0 (.slice (some (N9 aD.heap.size 0)) 1 1))):=PE.alloc OW _
 have⟨wd,e7⟩:=xE ((aD.alloc (.cells #[N7 cw] 22)).alloc (O7 14 Oh 0 (.slice (some (N9 aD.heap.size 0)) 1 1)));have ag:(aD.alloc (.cells #[N7 cw] 22)).heap.size=aD.heap.size+1:=by simp
 have⟨q,iG⟩:=xE (aD.heap.size+1);obtain⟨h',mG,ik⟩:=bT.nv;have gO:h'=aD.heap.size+1:=by simpa[N7] using mG.symm
 subst gO;have gQ:wd.heap.size=q+1:=by rw[e7,iG];simp
 rw[<-e7] at ik cY hA d1
 try rw[ag]
 rw[<-iG] at ik
 try rw[<-iG]
 try rw[<-e7]
 have ie:=(Open.later eA (Ap.of d1) bW.out);have jX:=(e3.next (Ap.of d1));have oB:=cY;have qc:=(Open.apart ci r0.size hA bW.out (Oz.cons ik Oz.nil));obtain⟨mu,mv,py⟩:=ie.cell;clear mG e7 iG ag gu gv hD pB pC;have hlen:=Oz.length _ _ ie.kids;have hown:=ie.row;rw[hlen] at hown;have HOWN:=hown;have da:=jX.size;have cI:kF.kids.length<=3:=by rw[Cf.out];decide
 clear hlen;refine QF 10 fun K D=>?_;refine step_append_lies _ rfl _ _ 38 rfl w.heap.size 22 s9 QS 1 8 underlying38 dW dw b8 cn rfl Ol _ _ _ rfl (HOWN.alloc _) (N9 (q+1) 0) 1 1 [N7 q] rfl rfl (Rq wd q _ gQ) (one_one q) Ol (by unfold maxLen;omega) Oe QY (wd.heap.size+1) OW ?_
 clear gQ;intro g cap aq hown3 eU c9 _;refine D _ _ ?_;clear D K;have gD:=hide (YQ ie qc oB jX iw.out hown3 eU c9);have gi:aq.cell? (N9 aU 3)=wd.cell? (N9 aU 3)/\aq.frozen? (N9 aU 3)=wd.frozen? (N9 aU 3):=ap4
 obtain⟨gM,gN⟩:=gi;rw[mu] at gM;rw[mv 3] at gN;clear c9;refine wt 11 (N7 aU) ?_;refine wt 12 (Oy aU 3) ?_;refine QF 13 fun K D=>?_;go_simp;refine D _ _ ?_;clear D K gM gN mu mv py;refine wpAny_done Pe ?_ _;go_simp;have⟨cO,cP,db⟩:=NZ gD;obtain⟨EY,eN⟩:∃ qU:Tr,qU=.mk kF.kd kF.tx kF.n (kF.kids++[.mk 14 Oh 0 [em]]):=⟨_,rfl⟩;rw[<-eN] at cO;have FZ:Hid (EY.kids.length=kF.kids.length+1):=by
  show _=_
  rw[eN];simp[Tr.kids]
 have GS:=hide eN;obtain⟨pz,uz,yA,iU,hopz⟩:=cO.opens;have mH:pz=aU:=by simpa[N7] using iU.symm
 rw[mH] at hopz;have⟨bD,fH⟩:=xE ((aq.setCell (N9 aU 3) (.slice (some (N9 g 0)) (kF.kids.length+1) cap)));rw[<-fH] at hopz cP db;rw[<-fH];have ci:=hopz;clear iU fH mH eN;obtain⟨lp,pJ,dE⟩:=ci.cell;obtain⟨cV,uc,l1⟩:=ci.shape;subst l1;have eK:EY.kids.length=3:=by rw[FZ.out,q3.out,jG.out]
 rw[eK] at lp;clear eK;go_wp2;go_ret;have aI:=NZ pp;have aw:=NZ vv;have bi:=NZ GS;have n4:=ci.ev.nv;rw[bi,aw,aI] at n4;exact Tz rfl n4 cP db),G);exact zsx),G);exact zsj
def ajL (er:Int)(p:Nat)(cf:PV c.l F d (i5+1)=.bad er p):Oq 154 #[O1 c] w (P9 c w d (NV w.heap.size) (.bad er p)):=by
 have iw:=hide h.base.size;have z:=N8 (∀{G}(h:G:=by
 have z:=N8 (∀{G}(h:G:=by
 refine ace (H:=fun aD cw=>Ap c.R jW.heap.size jW aD/\PI c aD i5 d/\PO (From jW.heap.size) aD b2 cw) (G:=?G5) (fun dD=>?_) ?_;rotate_left
 ·exact ayl
 intro aD cw bJ;obtain⟨dr,ba,hx⟩:=bJ;have e3:=(qY.next dr);have fR:=ba;have eA:=(Open.later ci dr bW.out);obtain⟨gu,gv,hD⟩:=eA.cell;have pB:aU<aD.heap.size+1:=Oe;have pC:aU<aD.heap.size+1+1:=Oe;have⟨bT,cY,hA⟩:=made (w:=jW) fR dr (Oz.cons hx Oz.nil) (by simp[maxLen]) #[N7 cw] rfl 1 rfl 13 s (aD.heap.size+1) rfl;have d1:Oo aD ((aD.alloc (.cells #[N7 cw] 22)).alloc (O7 13 s 0 (.slice (some (N9 aD.heap.size 0)) 1 1))):=PE.alloc OW _
 have⟨wd,e7⟩:=xE ((aD.alloc (.cells #[N7 cw] 22)).alloc (O7 13 s 0 (.slice (some (N9 aD.heap.size 0)) 1 1)));have ag:(aD.alloc (.cells #[N7 cw] 22)).heap.size=aD.heap.size+1:=by simp
 have⟨q,iG⟩:=xE (aD.heap.size+1);obtain⟨h',mG,ik⟩:=bT.nv;have gO:h'=aD.heap.size+1:=by simpa[N7] using mG.symm
 subst gO;have gQ:wd.heap.size=q+1:=by rw[e7,iG];simp
 rw[<-e7] at ik cY hA d1
 try rw[ag]
 rw[<-iG] at ik
 try rw[<-iG]
 try rw[<-e7]
 have ie:=(Open.later eA (Ap.of d1) bW.out);have jX:=(e3.next (Ap.of d1));have oB:=cY;have qc:=(Open.apart ci qY.size hA bW.out (Oz.cons ik Oz.nil));obtain⟨mu,mv,py⟩:=ie.cell;clear mG e7 iG ag gu gv hD pB pC;have hlen:=Oz.length _ _ ie.kids;have hown:=ie.row;rw[hlen] at hown;have da:=jX.size;have cI:t0.kids.length<=3:=by rw[jG.out];decide
 clear hlen;refine QF 11 fun K D=>?_;refine step_append_lies _ rfl _ _ 38 rfl w.heap.size 22 s9 QS 1 8 underlying38 dW dw b8 cn rfl Ol _ _ _ rfl (hown.alloc _) (N9 (q+1) 0) 1 1 [N7 q] rfl rfl (Rq wd q _ gQ) (one_one q) Ol (by unfold maxLen;omega) Oe QY (wd.heap.size+1) OW ?_
 clear gQ;intro g cap aq hown3 eU c9 _;refine D _ _ ?_;clear D K;have gD:=hide (YQ ie qc oB jX iw.out hown3 eU c9);have gi:aq.cell? (N9 aU 3)=wd.cell? (N9 aU 3)/\aq.frozen? (N9 aU 3)=wd.frozen? (N9 aU 3):=ap4
 obtain⟨gM,gN⟩:=gi;rw[mu] at gM;rw[mv 3] at gN;clear c9;refine wt 12 (N7 aU) ?_;refine wt 13 (Oy aU 3) ?_;refine QF 14 fun K D=>?_;go_simp;refine D _ _ ?_;clear D K gM gN mu mv py;refine wpAny_done Pe ?_ _;go_simp;have⟨cO,cP,db⟩:=NZ gD;obtain⟨kF,eN⟩:∃ qU:Tr,qU=.mk t0.kd t0.tx t0.n (t0.kids++[.mk 13 s 0 [b2]]):=⟨_,rfl⟩;rw[<-eN] at cO;have q3:Hid (kF.kids.length=t0.kids.length+1):=by
  show _=_
  rw[eN];simp[Tr.kids]
 obtain⟨pz,uz,yA,iU,hopz⟩:=cO.opens;have mH:pz=aU:=by simpa[N7] using iU.symm
 rw[mH] at hopz;have⟨bD,fH⟩:=xE ((aq.setCell (N9 aU 3) (.slice (some (N9 g 0)) (t0.kids.length+1) cap)));rw[<-fH] at hopz cP db;rw[<-fH];have ci:=hopz;clear iU fH mH eN;have aj:=(RU c Ru bD i5 d cP aF Ol);go_wp2_with fail;refine cm aj ?_;rintro e wz ⟨rfl,ba,ay⟩;have r0:=(db.next ay);replace ci:=(Open.later ci (ay) bW.out);have Cf:Hid (kF.kids.length=2):=by
  show _=_
  rw[q3.out,jG.out]
 have jE:=(QL ah hN wz.drew d (i5+1) _ rfl (by rw[cf];nofun) ba.drew)
 rw[cf] at jE;obtain⟨lp,pJ,dE⟩:=ci.cell;obtain⟨cV,uc,l1⟩:=ci.shape;subst l1;go_wp2_with fail;refine wp_region_any Pe ?_;change wpAny _ _ _ _ _ _ _ (World.drew _);refine wt 0 (N7 aU) ?_;refine wt 1 (N7 aU) ?_;refine wt 2 (N7 aU) ?_;refine wt 3 (Oy aU 3) ?_;refine wt 5 (O1 c) ?_;refine wr2 4 6 (fun K D=>?_) fun K D=>?_
 ·have z:=N8 (∀{G}(h:G:=by
  intro e aD al;obtain⟨rfl,ay⟩:=al;exact⟨rfl,Qc rfl (r0.drew.next ay)⟩),G);exact atW
 ·go_simp;refine cm jE ?_;intro e aD al;obtain⟨rfl,ay⟩:=al;exact⟨rfl,Qc rfl (r0.drew.next ay)⟩),G);exact zsx),G);exact zsj
end
def binds {α β:Type}{r:PR α}{f:α->Nat->PR β}{y:β}{j:Nat}(h:r.bind f=.ok y j):∃ x i,r=.ok x i/\f x i=.ok y j:=by
 cases r with
 | ok x i=>exact⟨x,i,rfl,h⟩
 | bad er p=>cases h
 | out=>cases h
def count_mk (kd:Int)(tx:Ou)(n:Int)(ks:List Tr):(Tr.mk kd tx n ks).count=1+Tr.counts ks:=by rw[Tr.count]
def OL:Tr.counts []=0:=by rw[Tr.counts]
def OD (t:Tr)(ap:List Tr):Tr.counts (t::ap)=t.count+Tr.counts ap:=by rw[Tr.counts]
def Us:∀ (ap fq:List Tr),Tr.counts (ap++fq)=Tr.counts ap+Tr.counts fq
 | [],fq=>by rw[List.nil_append,OL,Nat.zero_add]
 | t::ap,fq=>by rw[List.cons_append,OD,OD,Us ap fq,Nat.add_assoc]
def abx (t:Tr):(U0 t).count=t.count:=by
 unfold U0
 split
 ·rw[count_mk,count_mk]
 ·rfl
section
variable {l:List Tk}
def RJ {s:Ou}{i j:Nat}{x:Unit}(h:O6 l s i=.ok x j):j=i+1:=by
 unfold O6 at h
 split at h
 ·
  cases h;rfl
 ·
  cases h
def Xi {s:Ou}{i j:Nat}(h:nameP l i=.ok s j):j=i+1:=by
 unfold nameP at h
 split at h
 ·
  cases h;rfl
 ·
  cases h
def Cb (i:Nat)(r:PR Tr):Prop:=∀ t j,r=.ok t j->t.count+3 * i<=3 * j
def UK {f:Nat->Nat->PR Tr}{d i:Nat}(h:Cb i (f (d+1) i)):Cb i (Pn l f d i):=by
 unfold Pn
 split
 ·intro t j e;cases e
 ·exact h
def af7 {shut:Ou}{begins:Nat->Bool}{part:Nat->PR Tr}(al:∀ i,Cb i (part i)):∀ k aX i t j,Rx l shut begins part k aX i=.ok t j->Tr.counts t+3 * i<=Tr.counts aX+3 * j:=by
 intro k
 induction k with
 | zero=>intro aX i t j h;cases h
 | succ k bv=>
  intro aX i t j h;unfold Rx at h
  split at h
  ·
   cases h
  ·have⟨u,a8,h1,h⟩:=binds h;have:=al i u a8 h1
   split at h
   ·
    cases h;rw[Us,OD,OL];omega
   ·have⟨_,i2,U,h⟩:=binds h;have av:=RJ U;have aN:=bv _ _ _ _ h;rw[Us,OD,OL] at aN;omega
def aeg {opn shut:Ou}{begins:Nat->Bool}{part:Nat->PR Tr}(al:∀ i,Cb i (part i)){k i j:Nat}{t:List Tr}(h:Vm l opn shut begins part k i=.ok t j):Tr.counts t+3 * i+3<=3 * j:=by
 unfold Vm at h;have⟨_,a8,h1,h⟩:=binds h;have U:=RJ h1
 split at h
 ·
  cases h;rw[OL];omega
 ·have:=af7 al _ _ _ _ _ h;rw[OL] at this;omega
structure FCb (F:Sv):Prop where
 st:∀ d i,Cb i (F.st d i)
 vl:∀ d i,Cb i (F.vl d i)
 pr:∀ b d i,Cb i (F.pr b d i)
 sg:∀ d i,Cb i (F.sg d i)
variable {F:Sv} (ah:FCb F)
include ah
def aeh {d:Nat}:∀ k aX i t j,P8 l F d k aX i=.ok t j->Tr.counts t+3 * i+3<=Tr.counts aX+3 * j:=by
 intro k
 induction k with
 | zero=>intro aX i t j h;cases h
 | succ k bv=>
  intro aX i t j h;unfold P8 at h;exact azX
def XZ {d i j:Nat}{t:Tr}(h:PV l F d i=.ok t j):t.count+3 * i+5<=3 * j:=by
 unfold PV at h;have⟨_,a8,h1,h⟩:=binds h;have⟨ap,i2,U,h⟩:=binds h;cases h;have av:=RJ h1;have aN:=aeh ah _ _ _ _ _ U;rw[OL] at aN;rw[count_mk];omega
omit ah in
theorem anS (i:Nat):Cb i (TQ l i):=by
 intro t j h;unfold TQ at h;have⟨_,a8,h1,h⟩:=binds h;cases h;have:=Xi h1;rw[count_mk,OL];omega
omit ah in
theorem alE {i j:Nat}{t:Tr}(h:Ry l F i=.ok t j):t.count+3 * i+2<=3 * j:=by
 unfold Ry at h;have⟨ap,a8,h1,h⟩:=binds h;cases h;have:=aeg anS h1;rw[count_mk];omega
section
variable (d i:Nat)
include d i
def avH:Cb i (acZ l F d i):=UK (ah.vl _ _)
def arV:Cb i (VI l F d i):=by
 intro t j h;unfold VI at h;have⟨_,a8,h1,h⟩:=binds h;have⟨_,i2,U,h⟩:=binds h;have⟨u,i3,av,h⟩:=binds h;cases h;have aw:=Xi h1;have bi:=RJ U;have d4:=UK (l:=l) (ah.vl _ _) u _ av;rw[count_mk,OD,OL];omega
def aby:Cb i (Tj l F d i):=by
 intro t j h;unfold Tj at h;have⟨_,a8,h1,h⟩:=binds h;have⟨u,i2,U,h⟩:=binds h;have⟨_,i3,av,h⟩:=binds h;cases h;have aw:=RJ h1;have bi:=UK (l:=l) (ah.vl _ _) _ _ U;have d4:=RJ av;omega
def alF:Cb i (Uh l F d i):=by
 intro t j h;unfold Uh at h;have⟨ap,a8,h1,h⟩:=binds h;cases h;have:=aeg (arV ah d) h1;rw[count_mk];omega
end
def aei {kd:Int}{s:Ou}{d i j:Nat}{t:Tr}(h:QV l F kd s d i=.ok t j):t.count+3 * i<=3 * j:=by
 unfold QV at h;have⟨ps,a8,h1,h⟩:=binds h;have⟨b,i2,U,h⟩:=binds h;cases h;have aw:=alE h1;have bi:=XZ ah U;rw[count_mk,OD,OD,OL,abx];omega
def alG (d i:Nat):Cb i (Ui l F d i):=by
 intro t j h;unfold Ui at h;have⟨_,a8,h1,h⟩:=binds h;have aw:=RJ h1
 split at h
 ·have⟨_,i2,U,h⟩:=binds h;have bi:=Xi U;have:=aei ah h;omega
 ·have:=aei ah h;omega
def arW (d i:Nat):Cb i (XB l F d i):=by
 intro t j h;unfold XB at h;have⟨_,a8,h1,h⟩:=binds h;have⟨_,i2,U,h⟩:=binds h;have aw:=RJ h1;have bi:=Xi U;have:=aei ah h;omega
def anT (d i:Nat):Cb i (Ur l F d i):=by
 unfold Ur
 split
 ·exact aby ah d i
 ·exact alF ah d i
 ·exact alG ah d i
 ·split
  ·intro t j h;cases h;rw[count_mk,OL];omega
  ·split
   ·intro t j h;cases h;rw[count_mk,OL];omega
   ·split
    ·intro t j h;cases h;rw[count_mk,OL];omega
    ·split
     ·intro t j h;cases h;rw[count_mk,OL];omega
     ·intro t j h;cases h
def aej {d:Nat}:∀ k u i t j,QJ l F d k u i=.ok t j->t.count+3 * i<=u.count+3 * j:=by
 intro k
 induction k with
 | zero=>intro u i t j h;cases h
 | succ k bv=>
  intro u i t j h;unfold QJ at h
  split at h
  ·have⟨s,a8,h1,h⟩:=binds h;have aw:=Xi h1;have bi:=bv _ _ _ _ h;rw[count_mk,OD,OL] at bi;omega
  ·split at h
   ·have⟨ap,a8,h1,h⟩:=binds h;have aw:=aeg (avH ah d) h1;have bi:=bv _ _ _ _ h;rw[count_mk,OD] at bi;omega
   ·
    cases h;omega
def anU (d i:Nat):Cb i (TS l F d i):=by
 intro t j h;unfold TS at h;have⟨u,a8,h1,h⟩:=binds h;have aw:=anT ah d i u a8 h1;have bi:=aej ah _ _ _ _ _ h;omega
def alH (d i:Nat):Cb i (SH l F d i):=by
 unfold SH
 split
 ·intro t j h;have⟨u,a8,h1,h⟩:=binds h;cases h;have:=UK (l:=l) (ah.sg _ _) u _ h1;rw[count_mk,OD,OL];omega
 ·exact anU ah d i
def af8 {b:Int}{d:Nat}:∀ k u i t j,RQ l F b d k u i=.ok t j->t.count+3 * i<=u.count+3 * j:=by
 intro k
 induction k with
 | zero=>intro u i t j h;cases h
 | succ k bv=>
  intro u i t j h;unfold RQ at h
  split at h
  ·
   cases h;omega
  ·split at h
   ·
    cases h;omega
   ·have⟨v,a8,h1,h⟩:=binds h;have aw:=ah.pr _ _ _ v a8 h1;have bi:=bv _ _ _ _ h;rw[count_mk,OD,OD,OL] at bi;omega
def arX (b:Int)(d i:Nat):Cb i (Wj l F b d i):=by
 intro t j h;unfold Wj at h;have⟨u,a8,h1,h⟩:=binds h;have aw:=ah.sg _ _ u a8 h1;have bi:=af8 ah _ _ _ _ _ h;omega
def anV (d i:Nat):Cb i (UG l F d i):=by
 intro t j h;unfold UG at h;have⟨u,a8,h1,h⟩:=binds h;have aw:=ah.pr _ _ _ u a8 h1
 split at h
 ·split at h
  ·have⟨v,i2,U,h⟩:=binds h;cases h;have bi:=UK (l:=l) (ah.vl _ _) v _ U;rw[count_mk,OD,OD,OL];omega
  ·
   cases h
 ·
  cases h;exact aw
def arY (d q i:Nat):Cb i (XC l F d q i):=by
 intro t j h;unfold XC at h
 split at h
 ·unfold XW at h;have⟨s,a8,h1,h⟩:=binds h;have aw:=Xi h1
  split at h
  ·
   cases h
  ·split at h
   ·have⟨v,i2,U,h⟩:=binds h;have⟨_,i3,av,h⟩:=binds h;cases h;have bi:=UK (l:=l) (ah.vl _ _) v _ U;have d4:=RJ av;rw[count_mk,OD,OL];omega
   ·have⟨_,i3,av,h⟩:=binds h;cases h;have d4:=RJ av;rw[count_mk,OL];omega
 ·exact arW ah d i t j h
 ·have:=XZ ah h;omega
 ·have⟨_,i3,av,h⟩:=binds h;cases h;have d4:=RJ av;rw[count_mk,OL];omega
 ·unfold Uj at h;have⟨v,a8,h1,h⟩:=binds h;have⟨s,i2,U,h⟩:=binds h;have aw:=aby ah d _ v a8 h1;have bi:=UK (l:=l) (ah.st _ _) s _ U
  split at h
  ·have⟨s2,i3,av,h⟩:=binds h;cases h;have d4:=UK (l:=l) (ah.st _ _) s2 _ av;rw[count_mk,OD,OD,OD,OL];omega
  ·
   cases h;rw[count_mk,OD,OD,OL];omega
 ·unfold RI at h;have⟨v,a8,h1,h⟩:=binds h;have⟨s,i2,U,h⟩:=binds h;cases h;have aw:=aby ah d _ v a8 h1;have bi:=UK (l:=l) (ah.st _ _) s _ U;rw[count_mk,OD,OD,OL];omega
 ·unfold UH at h
  split at h
  ·exact azY
  ·have⟨_,i2,U,h⟩:=binds h;cases h;have bi:=RJ U;rw[count_mk,OL];omega
 ·have z:=N8 (∀{G}(h:G:=by
  have aI:=RJ h0;have aw:=XZ ah h1;have bi:Tr.counts c+3 * a8<=3 * i2:=by
   unfold Xh at U
   split at U
   ·have⟨_,bP,bK,U⟩:=binds U;have⟨_,de,cX,U⟩:=binds U;have⟨_,g8,dV,U⟩:=binds U;have⟨j5,k4,m8,U⟩:=binds U;cases U;have:=RJ bK;have:=Xi cX;have:=RJ dV;have:=XZ ah m8;rw[OD,count_mk,OD,OL];omega
   ·
    cases U;rw[OL];omega
  have d4:Tr.counts f+3 * i2<=3 * i3:=by
   unfold TW at av
   split at av
   ·have⟨j5,k4,m8,av⟩:=binds av;cases av;have:=XZ ah m8;rw[OD,count_mk,OD,OL];omega
   ·
    cases av;rw[OL];omega
  split at h
  ·
   cases h
  ·
   cases h;rw[count_mk,OD,Us];omega),G);exact azZ
def aek (d i:Nat):Cb i (Qo l F d i):=by
 unfold Qo
 split
 ·exact arY ah d _ i
 ·intro t j h;unfold XY at h;exact azY
omit ah in
theorem avI:∀ k,FCb (fns l k):=by
 intro k
 induction k with
 | zero=>exact⟨fun _ _ _ _ h=>by (cases h),fun _ _ _ _ h=>by (cases h),fun _ _ _ _ _ h=>by (cases h),fun _ _ _ _ h=>by (cases h)⟩
 | succ k bv=>exact⟨aek bv,anV bv,arX bv,alH bv⟩
def af9:∀ k aX i t j,Qi l F k aX i=.ok t j->Tr.counts t+3 * i<=Tr.counts aX+3 * j:=by
 intro k
 induction k with
 | zero=>intro aX i t j h;cases h
 | succ k bv=>
  intro aX i t j h;unfold Qi at h;exact azX
def arZ {t:Tr}{j:Nat}(h:UJ l F=.ok t j):t.count<=1+3 * j:=by
 unfold UJ at h;have⟨ap,a8,h1,h⟩:=binds h;cases h;have:=af9 ah _ _ _ _ _ h1;rw[OL] at this;rw[abx,count_mk];omega
end
def Oz.get {I:Nat->Prop}{w:Og}:∀ (ap:List Tr) (ps:List Nat),Oz I w ap ps->∀ k,(E:k<ap.length)->∃ al:k<ps.length,PO I w ap[k] ps[k]
 | [],_,_,k,E=>absurd E OW
 | t::ap,ps,h,k,E=>by
  obtain⟨p,eH,rfl,h1,U⟩:=h.parts
  cases k with
  | zero=>exact⟨by simp,h1⟩
  | succ k=>
   have⟨al,ax⟩:=Oz.get ap eH U k (by simpa using E);exact⟨by simpa using al,by simpa using ax⟩
def VT.get {I:Nat->Prop}{w:Og}:∀ (ap:List Tr) (ps:List Nat),VT I w ap ps->∀ k,(E:k<ap.length)->∃ al:k<ps.length,PO I w ap[k] ps[k]
 | [],_,_,k,E=>absurd E OW
 | t::ap,ps,h,k,E=>by
  obtain⟨p,eH,rfl,h1,U⟩:=h
  cases k with
  | zero=>exact⟨by simp,h1⟩
  | succ k=>
   have⟨al,ax⟩:=VT.get ap eH U k (by simpa using E);exact⟨by simpa using al,by simpa using ax⟩
def Vp:∀ (ap:List Tr) (k:Nat) (E:k<ap.length),Tr.counts (ap.take (k+1))=Tr.counts (ap.take k)+(ap[k]).count
 | [],k,E=>absurd E OW
 | t::ap,0,_=>by simp[OD,OL]
 | t::ap,k+1,E=>by
  have:=Vp ap k (by simpa using E);simp only[List.take_succ_cons,OD,List.getElem_cons_succ];omega
def Ux (ap:List Tr)(k:Nat)(E:k<ap.length):(ap[k]).count<=Tr.counts ap:=by
 have h1:=Vp ap k E;have U:Tr.counts ap=Tr.counts (ap.take (k+1))+Tr.counts (ap.drop (k+1)):=by rw[<-Us,List.take_append_drop]
 omega
def anh (t:Tr):1<=t.count:=by cases t with|mk kd tx n ks=>rw[count_mk];omega
def Ti:∀ (ap:List Tr),ap.length<=Tr.counts ap
 | []=>by simp
 | t::ap=>by
  have h1:=anh t;have U:=Ti ap;rw[OD,List.length_cons];omega
abbrev aFS (b:Nat):Ot:=.func (.func 72) #[] #[Oy b 0]
def ajX (v:Ot)(b:Nat)(n:Int)(w:Og)(ai:w.cell? (N9 b 0)=some (NY n))(aF:∀ o,w.frozen? (N9 b o)=false)(ax:0<=n)(jQ:n<=100000) :
  Oq 72 #[v,Oy b 0] w fun e w'=>e=OA (Om true)/\w'=w.setCell (N9 b 0) (NY (n+1)):=by
 go_enter func72,ntmps72;go_wp2;go_ret;exact⟨rfl,rfl⟩
def PO.abB {I:Nat->Prop}{w:Og}{t:Tr}{p:Nat}(h:PO I w t p):∃ u ps,w.heap[p]? = some (O7 t.kd t.tx t.n u)/\w.ownsRow 0 22 1 u ps.length (ps.map N7)/\(∀ g,u.ownBlock=some g->I g)/\Oz I w t.kids ps:=by
 cases t with
 | mk kd tx n ks=>
  rw[PO] at h;obtain⟨_,u,ps,h1,U,av⟩:=h;exact⟨u,ps,h1,U.1,U.2,Oz.mono (fun b A _=>A.1) _ _ av⟩
structure Cnt (b:Nat)(n:Nat)(w:Og):Prop where
 blk:w.heap[b]? = some (OM #[NY (n:Int)] 3)
def Cnt.set {b n:Nat}{w:Og}(h:Cnt b n w)(m:Nat){v:Int}(am:v=(m:Int)):Cnt b m (w.setCell (N9 b 0) (NY v)):=⟨by rw[heap_set h.blk,am];rfl⟩
def aHu:VH 72:=fun _ _=>by kernel_rfl
def walk_any (b:Nat):∀ (m:Nat) (t:Tr),t.count<=m->∀ (p n:Nat) (w:Og),PO (fun x=>x≠b) w t p->Cnt b n w->n+t.count<=100000 ->
  Oq 36 #[N7 p,aFS b] w fun e w'=>e=OA (.tuple #[])/\Cnt b (n+t.count) w'/\Ap b w.heap.size w w':=by
 intro m
 induction m with
 | zero=>
  exact avD
 | succ m bv=>
  intro t aZ p n w eG m' d1;obtain⟨u,ps,hblk,hrow,pT,eL⟩:=eG.abB;have hlen:=Oz.length _ _ eL;have bS:p≠b:=by
   cases t with
   | mk kd tx gB ks=>rw[PO] at eG;exact eG.1
  have z:=N8 (∀{G}(h:G:=by
  have c0:w.cell? (N9 b 0)=some (NY (n:Int)):=by rw[cell_of m'.blk];rfl
  have oG:=RN m'.blk;have jv:=aHu;have hv:∀ W:Og,(binOp .eql 47 (aFS b) .nilFunc).run prog W=.ok (Om false) W:=fun W=>by kernel_rfl
  have aj:=(ajX (N7 p) b (n:Int) w c0 oG Oe Oe);have xn:=m';have vq:=hide pT;have nC:=hide bv;have qg:=hide gP;have vg:=hide aZ;have r1:=hide d1;have n7:¬ b=p:=fun e=>bS e.symm;have dV:(w.setCell (N9 b 0) (NY ((n:Int)+1))).cell? (N9 p 3)=some (.slice cV ps.length uc):=by
   rw[World.cell?_of_block (w:=w) (Below.heap_setCell w (N9 b 0) _ p bS)];exact fT
  rw[hlen] at dV;have nB:=hide dV;clear c0 oG pT bv gP aZ d1 hblk fT bS n7 dV;have c9:=NZ nB;go_enter func36,ntmps36;go_wp2_with fail;refine cm aj ?_;rintro e w1 ⟨rfl,rfl⟩;go_wp2_with fail
  go_loopw [23] (fun i wr=>∃ k:Nat,k<=t.kids.length/\i=NY k/\Cnt b (n+1+Tr.counts (t.kids.take k)) wr/\Ap b w.heap.size w wr) (fun i _=>t.kids.length - (intOf i).toNat)
  case atStart=>exact⟨0,Nat.zero_le _,rfl,by simpa[OL] using xn.set (n+1) Oe,Ap.setCell (R:=b) (Ap.refl _ _ _) (p:=(N9 b 0)) (Or.inr rfl) _⟩
  case round=>
   obtain⟨k,E,rfl,m',gx⟩:=hrel
   by_cases aM:k<t.kids.length
   ·have⟨g,cap,am,hcell⟩:=WS hrow Oe;simp only[Value.slice.injEq] at am;obtain⟨rfl,_,rfl⟩:=am;have⟨c',mF⟩:=Oz.get _ _ eL k aM;have us:g≠b:=NZ vq g rfl;have dC:g<w.heap.size:=(P6 hrow g rfl).1;have eJ:wr.cell? (N9 g k)=some (N7 ps[k]):=by
     rw[gx.cell (p:=(N9 g k)) dC us];exact hcell k c'
    have wq:PO (fun x=>x≠b) wr t.kids[k] ps[k]:=PO.later (fun x ac hl=>gx.block x hl ac) _ _ mF;have gh:=Ux t.kids k aM;have uC:=Vp t.kids k aM;have h1:=NZ qg;have U:=NZ vg;have av:=NZ r1;have htot:Tr.counts (t.kids.take k)+(t.kids[k]).count<=Tr.counts t.kids:=avL
    have aj:=(nC.out t.kids[k] Oe ps[k] (n+1+Tr.counts (t.kids.take k)) wr wq m' Oe);have iy:=hide uC;have z:=N8 (∀{G}(h:G:=by
    have rv:t.kids.length<=100000:=by have:=Ti t.kids;omega
    clear hcell gh uC h1 U av htot ag;go_wp2_with fail;refine cm aj ?_;rintro e w2 ⟨rfl,eI,ha2⟩;have eg:=(gx.next ha2);clear eJ;go_wp2
    go_roundw
    case rel=>exact⟨k+1,by omega,by go_num,by rw[iy.out];have:=eI;rw[Nat.add_assoc] at this;exact this,eg⟩
    case measure=>simp[intOf];omega),G);exact avM
   ·have eK:k=t.kids.length:=Oe;subst eK;go_wp2
    go_end0
    refine⟨rfl,?_,gx⟩;have:=m';rw[List.take_length] at this;rw[qg.out,<-Nat.add_assoc];exact this),G);exact aAc
abbrev Q5 (B:Nat)(w:Og)(v:Ot)(l:List Ou):Prop:=w.ownsRow B 9 1 v l.length (l.map Value.string)
def info9:(prog.info? 9).map (fun i=>(i.zero,i.size,i.bytes))=some (some (Oj ByteArray.empty),1,16):=by kernel_rfl
def OG {w:Og}{B e sz n:Nat}{v:Ot}{xs:List Ot}(h:w.ownsRow B e sz v n xs):∃ a cap,v=.slice a n cap:=by
 rcases h.2 with ⟨rfl,rfl⟩|⟨g,cap,ck,rfl,_⟩
 ·exact⟨none,0,rfl⟩
 ·exact⟨_,cap,rfl⟩
def X4 (B:Nat)(w:Og):Q5 B w Qv []:=⟨rfl,Or.inl ⟨rfl,rfl⟩⟩
def Uy {B:Nat}{w:Og}{v:Ot}{l:List Ou}(h:Q5 B w v l)(k:Nat)(E:k<l.length):∃ g cap,v=.slice (some (N9 g 0)) l.length cap/\g<w.heap.size/\B<=g/\w.cell? (N9 g k)=some (Oj l[k]):=by
 obtain⟨g,cap,rfl,_,_⟩:=h.form Oe;have h1:=P6 h g rfl;refine⟨g,cap,rfl,h1.1,h1.2,?_⟩;rw[h.cellAt k Oe];simp[E]
def adA (l:List Ou):∀ u ∈ l.map Value.string,u.oneCell'=true:=by
 intro u aQ;obtain⟨p,_,rfl⟩:=List.mem_map.1 aQ;rfl
def X5 (w:Og)(s:Ou)(H:Nat)(h:w.heap.size=H):∀ j u,[Value.string s][j]? = some u->(w.alloc (.cells #[Oj s] 9)).cell? (((N9 H 0):Addr).add j)=some u:=by
 subst h;intro j u aS
 match j with
 | 0=>
  simp only[List.getElem?_cons_zero,Option.some.injEq] at aS;subst aS
  show (w.alloc (.cells #[Oj s] 9)).cell? (N9 w.heap.size (0+0))=_
  rw[cell_of (Oi w (.cells #[Oj s] 9))];rfl
 | n+1=>simp at aS
def abA (s:Ou):∀ u ∈ [Value.string s],u.oneCell'=true:=by
 intro u aQ;rw[List.mem_singleton.1 aQ];rfl
def hasB (l:List Ou)(s:Ou):Bool:=l.any (fun x=>decide (s=x))
def agm {l:List Ou}{s:Ou}:hasB l s=true↔s ∈ l:=by simp[hasB]
def ar1 {l:List Ou}{s:Ou}:hasB l s=false↔s ∉ l:=by rw[<-agm];simp
def Z8 (l:List Ou)(s:Ou):List Ou:=if hasB l s then l else l++[s]
def XD (l:List Ou):List Ou:=l.foldl Z8 []
section
variable {B:Nat} (l:List Ou) (s:Ou) (v:Ot) (w:Og) (h:Q5 B w v l) (hl:l.length<=100000)
include B l s v w h hl
def alR :
  Oq 179 #[v,Oj s] w fun e w'=>(∃ k:Int,e=OA (NY k)/\decide (0<=k)=hasB l s)/\w'=w:=by
 obtain⟨va,du,rfl⟩:=OG h;have dy:=h;clear h;go_enter func179,ntmps179;go_wp2_with fail
 go_loopw [8] (fun i wr=>∃ k:Nat,k<=l.length/\i=NY k/\s ∉ l.take k/\wr=w) (fun i _=>l.length - (intOf i).toNat)
 case atStart=>exact⟨0,Nat.zero_le _,rfl,by simp,rfl⟩
 case round=>
  obtain⟨k,E,rfl,fo,rfl⟩:=hrel;have fK:=hide fo;clear fo
  by_cases aM:k<l.length
  ·have⟨g,cap,am,hg,_,ai⟩:=Uy dy k aM;have z:=N8 (∀{G}(h:G:=by
   have⟨x,dT⟩:=xH (l[k]);rw[<-dT.out] at ai
   by_cases ao:s=x
   ·subst ao;go_wp2;go_ret;refine⟨⟨k,rfl,?_⟩,rfl⟩;rw[decide_eq_true Oe,eq_comm,agm,dT.out];exact List.getElem_mem _
   ·have cC:=adu ao;have dB:=hide ao;clear ao;go_wp2
    go_roundw
    case rel=>
     refine⟨k+1,by omega,by go_num,?_,trivial⟩;rw[List.take_succ_eq_append_getElem aM];intro aR
     rcases List.mem_append.1 aR with aR|aR
     ·exact NZ fK aR
     ·exact NZ dB (by rw[dT.out];exact List.mem_singleton.1 aR)
    case measure=>simp[intOf];omega),G);exact alS
  ·have cL:k=l.length:=Oe;subst cL;go_wp2;go_ret;refine⟨⟨-1,rfl,?_⟩,rfl⟩;have h:=NZ fK;rw[List.take_length] at h;rw[ar1.2 h];rfl
def VL :
  Oq 88 #[v,Oj s] w fun e w'=>e=OA (Om (hasB l s))/\w'=w:=by
 have aj:=(alR l s v w h hl);clear h;go_enter func88,ntmps88;go_wp2_with fail;refine cm aj ?_;rintro e w1 ⟨⟨k,rfl,E⟩,rfl⟩;have f1:=hide E;clear E;go_wp2;go_ret;exact⟨Ua f1.out,rfl⟩
end
def take_snoc' {α:Type}(l:List α)(k:Nat)(E:k<l.length):l.take (k+1)=l.take k++[l[k]]:=List.take_succ_eq_append_getElem E
def alT (l:List Ou)(k:Nat)(E:k<l.length):XD (l.take (k+1))=Z8 (XD (l.take k)) l[k]:=by
 rw[take_snoc' l k E,XD,List.foldl_append];rfl
def Zl (l:List Ou):(XD l).length<=l.length:=by
 have:∀ (l aX:List Ou),(l.foldl Z8 aX).length<=aX.length+l.length:=by
  intro l
  induction l with
  | nil=>intro aX;simp
  | cons x l bv=>
   intro aX;have h:=bv (Z8 aX x);have U:(Z8 aX x).length<=aX.length+1:=by unfold Z8;split <;> simp
   simp only[List.foldl_cons,List.length_cons];omega
 simpa[XD] using this l []
def agn {B:Nat}(l:List Ou)(v:Ot)(w:Og)(h:Q5 B w v l)(hl:l.length<=90000) :
  Oq 121 #[v] w fun e w'=>(∃ u,e=OA u/\Q5 w.heap.size w' u (XD l))/\Oo w w':=by
 have⟨i0,dW,dw,b8,cn⟩:=info_parts info9;obtain⟨va,du,rfl⟩:=OG h;have dy:=h;clear h;go_enter func121,ntmps121;go_wp2_with fail
 go_loopw [3,8] (fun o i wr=>∃ k:Nat,k<=l.length/\i=NY k/\Q5 w.heap.size wr o (XD (l.take k))/\Oo w wr) (fun _ i _=>l.length - (intOf i).toNat)
 case atStart=>exact⟨0,Nat.zero_le _,rfl,X4 _ _,QI⟩
 case round=>
  obtain⟨k,E,rfl,hown,hbel⟩:=hrel;have HOWN:=hown;obtain⟨aC,iJ,rfl⟩:=OG hown
  by_cases aM:k<l.length
  ·have⟨g,cap,am,hg,_,ai⟩:=Uy dy k aM;have z:=N8 (∀{G}(h:G:=by
   have⟨x,dT⟩:=xH (l[k]);rw[<-dT.out] at ai;have Mb:wr.cell? (N9 g k)=some (Oj x):=by rw[hbel.cell (p:=(N9 g k)) hg];exact ai
   have vm:=hide (alT l k aM);have n5:=Zl (l.take k);rw[List.length_take] at n5;have⟨L,dX⟩:=xH (XD (l.take k));rw[<-dX.out] at n5;have nK:Q5 w.heap.size wr (.slice aC L.length iJ) L:=by
    have h:=HOWN;rw[<-dX.out] at h;exact h
   rw[<-dX.out];have L3:L.length<=k:=Oe;have aj:=(VL L x _ wr nK Oe);have dd:g<wr.heap.size:=Nat.lt_of_lt_of_le hg hbel.size;have da:=hbel.size;clear ai hg n5
   cases hh:hasB L x with
   | true=>
    rw[hh] at aj;have ic:=hide hh;clear hh;have z:=N8 (∀{G}(h:G:=by
    go_roundw
    case rel=>
     refine⟨k+1,by omega,by go_num,?_,hbel⟩;rw[vm.out,<-dX.out,<-dT.out,Z8,if_pos ic.out];exact nK
    case measure=>simp[intOf];omega),G);exact aer
   | false=>
    rw[hh] at aj;have ic:=hide hh;clear hh;go_wp2_with fail;refine cm aj ?_;rintro e w2 ⟨rfl,rfl⟩
    go_wp2_with (at_builtin;refine wpList_append_lies _ rfl _ _ 26 rfl w.heap.size 9 i0 (Oj ByteArray.empty) 1 16 underlying26 dW dw b8 cn rfl Ol _ _ _ rfl (nK.alloc _) (N9 w2.heap.size 0) 1 1 [Oj x] rfl rfl (X5 w2 x _ rfl) (abA x) Ol (by unfold maxLen;omega) Oe QY (w2.heap.size+1) OW ?_)
    intro g1 cap' aq hown' hgrow iD _;have dG:=((hbel.alloc da (.cells #[Oj x] 9)).grown hgrow QY (fun b A=>(P6 nK b A).2));clear iD;go_wp2
    go_roundw
    case rel=>
     refine⟨k+1,by omega,by go_num,?_,dG⟩;rw[vm.out,<-dX.out,<-dT.out,Z8,if_neg (by rw[ic.out];decide)]
     have h:=hown'
     show World.ownsRow _ _ _ _ _ _ _
     rw[List.length_append,List.map_append];exact h
    case measure=>simp[intOf];omega),G);exact alS
  ·have cL:k=l.length:=Oe;exact az1
abbrev Ug (w:Og)(t:Tr)(p:Nat):Prop:=PO (fun _=>True) w t p
def Uo (B:Nat)(w:Og)(v:Ot)(ap:List Tr):Prop:=∃ ps:List Nat,w.ownsRow B 22 1 v ps.length (ps.map N7)/\VT (fun _=>True) w ap ps
def Below.stay {I:Nat->Prop}{w w':Og}(h:Oo w w'):U3 I w w':=fun b _ hl=>h.block b hl
def PO.nt {I:Nat->Prop}{w:Og}{t:Tr}{p:Nat}(h:PO I w t p):Ug w t p:=PO.mono (fun _ _ _=>trivial) _ _ h
def Ug.later {w w':Og}{t:Tr}{p:Nat}(h:Ug w t p)(A:Oo w w'):Ug w' t p:=PO.later (Below.stay A) _ _ h
def Uo.later {B:Nat}{w w':Og}{v:Ot}{ap:List Tr}(h:Uo B w v ap)(A:Oo w w'):Uo B w' v ap:=by
 obtain⟨ps,h1,U⟩:=h;exact⟨ps,Q8 (I:=fun _=>True) (Below.stay A) (fun _ _=>trivial) h1,VT.later (Below.stay A) _ _ U⟩
def Q5.later {B:Nat}{w w':Og}{v:Ot}{l:List Ou}(h:Q5 B w v l)(A:Oo w w'):Q5 B w' v l:=Q8 (I:=fun _=>True) (Below.stay A) (fun _ _=>trivial) h
section
variable {B:Nat} {w:Og} {v:Ot} {ap:List Tr} (h:Uo B w v ap)
include B w v ap h
def Uo.form:∃ a cap,v=.slice a ap.length cap:=by
 obtain⟨ps,h1,U⟩:=h;rw[<-VT.length _ _ U];exact UL h1
def Uo.cell (k:Nat)(E:k<ap.length):∃ g cap p,v=.slice (some (N9 g 0)) ap.length cap/\g<w.heap.size/\w.cell? (N9 g k)=some (N7 p)/\Ug w ap[k] p:=by
 obtain⟨ps,h1,U⟩:=h;have hl:=VT.length _ _ U;obtain⟨g,cap,rfl,ai⟩:=WS h1 Oe;have⟨al,ax⟩:=VT.get _ _ U k E;exact⟨g,cap,ps[k],by rw[hl],(P6 h1 g rfl).1,ai k al,ax⟩
end
def Ug.cells {w:Og}{t:Tr}{p:Nat}(h:Ug w t p):p<w.heap.size/\w.cell? (N9 p 0)=some (NY t.kd)/\w.cell? (N9 p 1)=some (Oj t.tx)/\∃ u,w.cell? (N9 p 3)=some u/\Uo 0 w u t.kids:=by
 have⟨u,ps,A,aa,_,E⟩:=PO.abB h;have⟨c0,c1,_,c3,_⟩:=node_cells A;exact⟨lt_of_heap A,c0,c1,u,c3,ps,aa,Oz.nl _ _ E⟩
def aix (w:Og)(q:Nat)(H:Nat)(h:w.heap.size=H):∀ j u,[N7 q][j]? = some u->(w.alloc (.cells #[N7 q] 22)).cell? (((N9 H 0):Addr).add j)=some u:=by
 subst h;intro j u aS
 match j with
 | 0=>
  simp only[List.getElem?_cons_zero,Option.some.injEq] at aS;subst aS
  show (w.alloc (.cells #[N7 q] 22)).cell? (N9 w.heap.size (0+0))=_
  rw[cell_of (Oi w (.cells #[N7 q] 22))];rfl
 | n+1=>simp at aS
def aob (q:Nat):∀ u ∈ [N7 q],u.oneCell'=true:=by
 intro u aQ;rw[List.mem_singleton.1 aQ];rfl
def adB {B:Nat}(ap:List Tr)(v:Ot)(w:Og)(h:Uo B w v ap)(hl:ap.length<=90000) :
  Oq 164 #[v] w fun e w'=>(∃ u,e=OA u/\Q5 w.heap.size w' u (ap.map Tr.tx))/\Oo w w':=by
 have⟨i0,dW,dw,b8,cn⟩:=info_parts info9;obtain⟨va,du,rfl⟩:=h.form;have dy:=h;clear h;go_enter func164,ntmps164;go_wp2_with fail
 go_loopw [3,8] (fun o i wr=>∃ k:Nat,k<=ap.length/\i=NY k/\Q5 w.heap.size wr o ((ap.take k).map Tr.tx)/\Oo w wr) (fun _ i _=>ap.length - (intOf i).toNat)
 case atStart=>exact⟨0,Nat.zero_le _,rfl,X4 _ _,QI⟩
 case round=>
  obtain⟨k,E,rfl,hown,hbel⟩:=hrel;have HOWN:=hown;obtain⟨aC,iJ,rfl⟩:=OG hown
  by_cases aM:k<ap.length
  ·obtain⟨g,cap,q,am,hg,ai,ax⟩:=(dy.later hbel).cell k aM;simp only[Value.slice.injEq] at am;obtain⟨rfl,_,rfl⟩:=am;obtain⟨ds,_,c1,_⟩:=ax.cells;have hK:(k:Int)<(ap.length:Int):=Oe;have⟨x,dT⟩:=xH ((ap[k]).tx);rw[<-dT.out] at c1;have da:=hbel.size;have⟨L,dX⟩:=xH ((ap.take k).map Tr.tx);have pF:L.length=k:=by rw[dX.out];simp;omega
   rw[<-dX.out] at HOWN ⊢;have nK:World.ownsRow wr w.heap.size 9 1 (.slice aC k iJ) k (L.map Value.string):=by
    have h:World.ownsRow wr w.heap.size 9 1 (.slice aC L.length iJ) L.length (L.map Value.string):=HOWN;rw[pF] at h;exact h
   rw[pF];have pj:=hide pF;clear pF;have z:=N8 (∀{G}(h:G:=by
   clear iD;go_wp2
   go_roundw
   case rel=>
    refine⟨k+1,by omega,by go_num,?_,dG⟩;rw[List.take_succ_eq_append_getElem aM,List.map_append,<-dX.out]
    show World.ownsRow _ _ _ _ _ _ _
    rw[List.length_append,List.map_append,pj.out]
    show World.ownsRow _ _ _ _ _ _ (_++[Value.string (ap[k]).tx])
    rw[<-dT.out];exact hown'
   case measure=>simp[intOf];omega),G);exact az2
  ·have cL:k=ap.length:=Oe;exact az1
def aoc (t:Tr)(p:Nat)(w:Og)(h:Ug w t p):Oq 120 #[N7 p] w fun e w'=>(∃ u,e=OA u/\Uo 0 w u t.kids)/\w'=w:=by
 obtain⟨eM,_,_,u,c3,aa⟩:=h.cells;obtain⟨cV,uc,rfl⟩:=aa.form;clear h;go_enter func120,ntmps120;go_wp2;go_ret;exact⟨⟨_,rfl,aa⟩,rfl⟩
abbrev fnV (F:Nat):Ot:=.func (.func F) #[] #[]
def Zp (F:Nat)(f:Tr->Bool)(jv:VH F)
  (ah:∀ t p W,Ug W t p->Oq F #[N7 p] W fun e w'=>e=OA (Om (f t))/\w'=W)
  (t:Tr) (p:Nat) (w:Og) (h:Ug w t p) (hl:t.kids.length<=90000) :
  Oq 129 #[N7 p,fnV F] w fun e w'=>(∃ u,e=OA u/\Uo w.heap.size w' u (t.kids.filter f))/\Oo w w':=by
 have⟨i0,dW,dw,b8,cn⟩:=info_parts info22;have f1:=(aoc t p w h);have hR:=hide ah;clear h ah
 generalize Bh:t.kids=ap at f1 hl
 clear Bh t;go_enter func129,ntmps129;go_wp2_with fail;refine cm f1 ?_;rintro e w1 ⟨⟨u,rfl,aa⟩,rfl⟩;obtain⟨va,du,rfl⟩:=aa.form;go_wp2_with fail
 go_loopw [5,11] (fun o i wr=>∃ (k:Nat) (dI:List Nat),k<=ap.length/\i=NY k/\wr.ownsRow w1.heap.size 22 1 o dI.length (dI.map N7)/\VT (fun _=>True) w1 ((ap.take k).filter f) dI/\Oo w1 wr) (fun _ i _=>ap.length - (intOf i).toNat)
 case atStart=>exact⟨0,[],Nat.zero_le _,rfl,⟨rfl,Or.inl ⟨rfl,rfl⟩⟩,VT.nil,QI⟩
 case round=>
  obtain⟨k,dI,E,rfl,hown,fo,hbel⟩:=hrel;have dp:=hown;obtain⟨aC,iJ,rfl⟩:=UL hown;have ds:=VT.length _ _ fo
  by_cases aM:k<ap.length
  ·have⟨g,cap,q,am,hg,gf,rC⟩:=aa.cell k aM;simp only[Value.slice.injEq] at am;obtain⟨rfl,_,rfl⟩:=am;have z:=N8 (∀{G}(h:G:=by
   have aj:=(NZ hR ap[k] q wr (rC.later hbel));have iy:=hide (List.take_succ_eq_append_getElem aM);have dd:g<wr.heap.size:=Oe;have pF:dI.length<=k:=by rw[ds];have:=List.length_filter_le f (ap.take k);rw[List.length_take] at this;omega
   have tH:=hide (P6 dp);clear gf ds
   cases hh:f ap[k] with
   | true=>
    have z:=N8 (∀{G}(h:G:=by
    go_roundw
    case rel=>
     refine⟨k+1,dI++[q],by omega,by go_num,?_,?_,dG⟩
     ·rw[List.length_append,List.map_append];exact hown'
     ·rw[iy.out,List.filter_append];simp only[List.filter_cons,ic.out,List.filter_nil,if_true];exact VT.append (VT.cons rC VT.nil) _ _ fo
    case measure=>simp[intOf];omega),G);exact az3
   | false=>
    rw[hh] at aj;have ic:=hide hh;clear hh;have z:=N8 (∀{G}(h:G:=by
    go_roundw
    case rel=>
     refine⟨k+1,dI,by omega,by go_num,dp,?_,hbel⟩;rw[iy.out,List.filter_append];simp only[List.filter_cons,ic.out,List.filter_nil,Bool.false_eq_true,if_false,List.append_nil];exact fo
    case measure=>simp[intOf];omega),G);exact aer),G);exact az4
  ·have cL:k=ap.length:=Oe;subst cL;go_wp2;go_ret;have h:=fo;rw[List.take_length] at h;exact⟨⟨_,rfl,dI,dp,VT.later (Below.stay hbel) _ _ h⟩,hbel⟩
def az5:VH 130:=fun _ _=>by kernel_rfl
def az6:VH 163:=fun _ _=>by kernel_rfl
def TJ (t:Tr):Bool:=t.kd==5
def Pj (t:Tr):Bool:=t.kd==3||t.kd==4
def QZ (t:Tr):Bool:=t.kd==5||t.kd==37
section
variable (t:Tr) (p:Nat) (w:Og) (h:Ug w t p)
include t p w h
def abC:Oq 130 #[N7 p] w fun e w'=>e=OA (Om (TJ t))/\w'=w:=by
 obtain⟨eM,c0,_,_⟩:=h.cells;clear h;go_enter func130,ntmps130;go_wp2;go_ret;exact⟨rfl,rfl⟩
def adC:Oq 163 #[N7 p] w fun e w'=>e=OA (Om (Pj t))/\w'=w:=by
 obtain⟨eM,c0,_,_⟩:=h.cells;clear h;unfold Pj
 generalize t.kd=kd at c0
 cases av:(kd==3)
 all_goals
  go_enter func163,ntmps163;go_wp2;go_ret;exact⟨rfl,rfl⟩
def alU:Oq 119 #[N7 p] w fun e w'=>e=OA (Om (QZ t))/\w'=w:=by
 obtain⟨eM,c0,_,_⟩:=h.cells;clear h;unfold QZ
 generalize t.kd=kd at c0
 cases av:(kd==5)
 all_goals
  go_enter func119,ntmps119;go_wp2;go_ret;exact⟨rfl,rfl⟩
end
def TN (t:Tr):List Tr:=t.kids.filter TJ
def OZ (t:Tr):List Tr:=t.kids.filter Pj
section
variable (t:Tr) (p:Nat) (w:Og) (h:Ug w t p) (hl:t.kids.length<=90000)
include t p w h hl
def ZV :
  Oq 59 #[N7 p] w fun e w'=>(∃ u,e=OA u/\Uo w.heap.size w' u (TN t))/\Oo w w':=by
 have aj:=(Zp 130 TJ az5 abC t p w h hl);clear h;go_enter func59,ntmps59;exact ar2
def abo :
  Oq 77 #[N7 p] w fun e w'=>(∃ u,e=OA u/\Uo w.heap.size w' u (OZ t))/\Oo w w':=by
 have aj:=(Zp 163 Pj az6 adC t p w h hl);clear h;go_enter func77,ntmps77;exact ar2
end
def ownVar (t:Tr):List Ou:=if t.kd==2 then [t.tx] else []
mutual
def vw:Tr->List Ou
 | .mk kd tx _ ks=>(if kd==2 then [tx] else [])++(if kd==5||kd==37 then [] else vws ks)
def vws:List Tr->List Ou
 | []=>[]
 | t::ap=>vw t++vws ap
end
def az7 (t:Tr):vw t=ownVar t++(if QZ t then [] else vws t.kids):=by
 cases t with
 | mk kd tx n ks=>rw[vw];rfl
def ake:∀ a b:List Tr,vws (a++b)=vws a++vws b
 | [],b=>by simp[vws]
 | t::a,b=>by simp[vws,ake a b]
def agp (ap:List Tr)(k:Nat)(E:k<ap.length):vws (ap.take (k+1))=vws (ap.take k)++vw ap[k]:=by
 rw[List.take_succ_eq_append_getElem E,ake];simp[vws]
mutual
def avK:∀ t:Tr,(vw t).length<=t.count
 | .mk kd tx n ks=>by
  have h:=Yn ks;rw[vw,count_mk]
  split <;> split <;> simp <;> omega
def Yn:∀ ap:List Tr,(vws ap).length<=Tr.counts ap
 | []=>by simp[vws]
 | t::ap=>by
  have h1:=avK t;have U:=Yn ap;rw[vws,OD];simp;omega
end
structure agq (b B:Nat)(l:List Ou)(w:Og):Prop where
 lt:b<B
 sz:B<=w.heap.size
 own:∃ v,w.heap[b]? = some (OM #[v] 26)/\Q5 B w v l
def alV {b B g cap n:Nat}{l:List Ou}{s:Ou}{wd aq:Og}{v:Ot}(aM:b<B)(da:B<=wd.heap.size)(A:wd.heap[b]? = some (OM #[v] 26))(hown:wd.ownsRow B 9 1 v l.length (l.map Value.string))(ax:n=l.length+1)
  (hown3:aq.ownsRow B 9 1 (.slice (some (N9 g 0)) n cap) n (l.map Value.string++[Oj s])) (dd:(wd.alloc (.cells #[Oj s] 9)).grownBy aq v.ownBlock) :
  agq b B (l++[s]) (aq.setCell (N9 b 0) (.slice (some (N9 g 0)) n cap))/\Ap b B wd (aq.setCell (N9 b 0) (.slice (some (N9 g 0)) n cap)):=by
 subst ax;have f':∀ k,v.ownBlock=some k->B<=k:=fun k E=>(P6 hown k E).2;have gx:Ap b B wd (aq.setCell (N9 b 0) (.slice (some (N9 g 0)) (l.length+1) cap)):=(((Ap.refl b B wd).alloc da _).grown dd QY f').setCell (p:=(N9 b 0)) (Or.inr rfl) _;have av:aq.heap[b]? = some (OM #[v] 26):=by
  rw[dd.block b QY (fun e=>by have:=f' b e.symm;omega),Below.heap_alloc _ _ _ Oe]
  exact A
 have Mh:B<=g:=(P6 hown3 g rfl).2;refine⟨⟨aM,Nat.le_trans da gx.size,_,by rw[heap_set av];rfl,?_⟩,gx⟩
 show World.ownsRow _ _ _ _ _ _ _
 rw[show (l++[s]).length=l.length+1 by simp,List.map_append];exact Q8 (I:=fun x=>x=g) (fun x ac _=>Below.heap_setCell aq (N9 b 0) _ x (by have h1:x=g:=ac;show x≠b;omega)) (fun y hy=>by simpa[Value.ownBlock] using hy.symm) hown3
def aod {G goal:Prop}(h1:G->goal)(U:G):goal:=h1 U
def alW {b B p:Nat}{l:List Ou}{t:Tr}{w:Og}(xW:agq b B l w)(ax:PO (fun x=>x<B/\x≠b) w t p)(hl:l.length<=100000) :
  Oq 118 #[N7 p,Oy b 0] w fun e w'=>e=OA (Om (!QZ t))/\agq b B (l++ownVar t) w'/\Ap b B w w':=by
 have⟨i0,dW,dw,b8,cn⟩:=info_parts info9;have A0:p<B/\p≠b:=by
  cases t with
  | mk kd tx gB ks=>rw[PO] at ax;exact ax.1
 have hS:∀ W,Ap b B w W->Hid (Oq 119 #[N7 p] W fun e w'=>e=OA (Om (QZ t))/\w'=W):=fun W a6=>alU t p W (PO.nt (PO.later (fun x ac _=>a6.block x ac.1 ac.2) _ _ ax));obtain⟨eM,c0,c1,_⟩:=(PO.nt ax).cells;have y5:=xW;obtain⟨Ib,H4,v,A,hown⟩:=xW;obtain⟨va,du,rfl⟩:=OG hown;have gH:w.cell? (N9 b 0)=some (.slice va l.length du):=by rw[cell_of A];rfl
 have oG:=RN A 0;have ll:=lt_of_heap A;have bO:=hide A;have⟨tx,cB⟩:=xE t.tx;have⟨kd,bm⟩:=xE t.kd;have⟨t7,uo⟩:=xE (QZ t);rw[<-cB] at c1;rw[<-bm] at c0;rw[<-uo];have Gj:Hid (ownVar t=if kd==2 then [tx] else []):=by rw[cB,bm];rfl
 rw[Gj.out];simp only[<-uo] at hS;clear A cB bm uo
 cases E:(kd==2) with
 | false=>
  have aj:=hS w (Ap.refl _ _ _);go_enter func118,ntmps118;go_wp2_with fail;refine cm aj.out ?_;rintro e w2 ⟨rfl,rfl⟩;go_wp2;go_ret;exact⟨rfl,by simpa using y5,Ap.refl _ _ _⟩
 | true=>
  go_enter func118,ntmps118;go_wp2_with fail;refine aod (G:=?G1) (fun dD=>?_) ?_;rotate_left
  ·refine wp_region_any Pe ?_;change wpAny _ _ _ _ _ _ _ (World.drew _);refine wt 1 (N7 p) ?_;refine wt 2 (N7 p) ?_;refine wt 3 (Oy p 1) ?_;refine wr2 0 4 (fun K D=>?_) (fun K D=>?_)
   ·go_simp;refine D _ _ ?_;clear D K;refine QF 4 fun K D=>?_;go_simp;refine D _ _ ?_;clear D K;refine QF 5 fun K D=>?_;go_simp;refine D _ _ ?_;clear D K;refine Uu (listed':=tf 6 2) Pe rfl ?_;exact dD
   ·go_simp;refine D _ _ ?_;clear D K;refine wr2 0 5 (fun K D=>?_) (fun K D=>?_)
    ·go_simp;refine D _ _ ?_;clear D K;refine QF 5 fun K D=>?_;exact az8
    ·go_simp;refine D _ _ ?_;clear D K;refine QF 0 fun K D=>?_;exact az8
  ·refine QF 6 fun K D=>?_;refine step_append_lies _ rfl _ _ 26 rfl B 9 i0 (Oj ByteArray.empty) 1 16 underlying26 dW dw b8 cn rfl Ol _ _ _ rfl ((hown:World.ownsRow w.drew B 9 1 _ _ _).alloc _) (N9 w.heap.size 0) 1 1 [Oj tx] rfl rfl (X5 w.drew tx _ rfl) (abA tx) Ol (by unfold maxLen;omega) Oe QY (w.heap.size+1) OW ?_
   intro g cap aq hown3 eU _ _;refine D _ _ ?_;clear D K;have ot:=hide (alV (wd:=w.drew) Ib H4 bO.out hown rfl hown3 eU);have av:aq.heap[b]? = w.heap[b]?:=(eU.block b QY (fun e=>by have:=(P6 hown b e.symm).2;omega)).trans (Below.heap_alloc w.drew _ b ll)
   have aI:aq.cell? (N9 b 0)=some (.slice va l.length du):=(World.cell?_of_block (w:=w) av).trans gH;have vM:aq.frozen? (N9 b 0)=false:=(World.frozen?_of_block (w:=w) av).trans oG;have ao:b<aq.heap.size:=lt_of_heap (av.trans bO.out);clear av gH oG;refine QF 7 fun K D=>?_;go_simp;refine D _ _ ?_;clear D K aI vM ao;refine wpAny_done Pe ?_ _;go_simp;have⟨lX,ha2⟩:=NZ ot;have⟨W,a6⟩:=xE (aq.setCell (N9 b 0) (.slice (some (N9 g 0)) (l.length+1) cap));rw[<-a6] at lX ha2 ⊢;have eg:=((Ap.refl b B w).drew.trans ha2);clear a6 c0 c1
   have aj:=hS W eg;go_wp2_with fail;refine cm aj.out ?_;rintro e w2 ⟨rfl,rfl⟩;go_wp2;go_ret;exact⟨rfl,lX,eg⟩
def ZW {B B':Nat}{w:Og}{v:Ot}{l:List Ou}(h:Q5 B w v l)(a1:B'<=B):Q5 B' w v l:=by
 refine⟨h.1,?_⟩
 rcases h.2 with ax|⟨g,cap,ck,am,A,rest⟩
 ·exact Or.inl ax
 ·exact Or.inr ⟨g,cap,ck,am,by omega,rest⟩
abbrev az9 (b:Nat):Ot:=.func (.func 118) #[] #[Oy b 0]
def aAa:VH 118:=fun _ _=>by kernel_rfl
def aAb (b B:Nat):∀ (m:Nat) (t:Tr),t.count<=m->∀ (p:Nat) (l:List Ou) (w:Og),PO (fun x=>x<B/\x≠b) w t p->agq b B l w->l.length+t.count<=90000 ->
  Oq 36 #[N7 p,az9 b] w fun e w'=>e=OA (.tuple #[])/\agq b B (l++vw t) w'/\Ap b B w w':=by
 intro m
 induction m with
 | zero=>
  exact avD
 | succ m bv=>
  intro t aZ p l w eG xW d1;obtain⟨u,ps,hblk,hrow,pT,eL⟩:=eG.abB;have hlen:=Oz.length _ _ eL;have A0:p<B/\p≠b:=by
   cases t with
   | mk kd tx gB ks=>rw[PO] at eG;exact eG.1
  have z:=N8 (∀{G}(h:G:=by
  have jv:=aAa;have hv:∀ W:Og,(binOp .eql 47 (az9 b) .nilFunc).run prog W=.ok (Om false) W:=fun W=>by kernel_rfl
  have aj:=(alW xW eG Oe);have vq:=hide pT;have nC:=hide bv;have qg:=hide gP;have vg:=hide aZ;have r1:=hide d1;have cT:=hide fT;have qd:=hide (lt_of_heap hblk);have j2:=hide A0;have HLEN:=hide hlen;have xF:=hide (az7 t);have tH:Hid ((ownVar t).length<=1):=by show _<=_;unfold ownVar;split <;> simp
  clear pT bv gP aZ d1 hblk fT A0 hlen
  cases ac:QZ t with
  | true=>
   rw[ac] at aj xF;clear ac;have z:=N8 (∀{G}(h:G:=by
   have ib:=jg;have eq:=ha1;go_wp2_with fail;exact UC (v:=.tuple #[]) ⟨rfl,by rw[xF.out];simpa using ib,eq⟩),G);exact ar4
  | false=>
   rw[ac] at aj xF;clear ac;have z:=N8 (∀{G}(h:G:=by
   have dV:=(ha1.cell (p:=(N9 p 3)) j2.out.1 j2.out.2).trans cT.out;rw[HLEN.out] at dV;have I3:p<w1.heap.size:=Nat.lt_of_lt_of_le qd.out ha1.size;have ib:=jg;have eq:=ha1;go_wp2_with fail
   go_loopw [23] (fun i wr=>∃ k:Nat,k<=t.kids.length/\i=NY k/\agq b B (l++ownVar t++vws (t.kids.take k)) wr/\Ap b B w wr) (fun i _=>t.kids.length - (intOf i).toNat)
   case atStart=>exact⟨0,Nat.zero_le _,rfl,by simpa[vws] using ib,eq⟩
   case round=>
    obtain⟨k,E,rfl,hg,gx⟩:=hrel
    by_cases aM:k<t.kids.length
    ·have z:=N8 (∀{G}(h:G:=by
     have⟨c',mF⟩:=Oz.get _ _ eL k aM;have us:=NZ vq g rfl;have eJ:wr.cell? (N9 g k)=some (N7 ps[k]):=by
      rw[gx.cell (p:=(N9 g k)) us.1 us.2];exact hcell k c'
     have wq:PO (fun x=>x<B/\x≠b) wr t.kids[k] ps[k]:=PO.later (fun x ac hl=>gx.block x ac.1 ac.2) _ _ mF;have dC:g<wr.heap.size:=Nat.lt_of_lt_of_le (P6 hrow g rfl).1 gx.size;have uC:=Vp t.kids k aM;have wR:=agp t.kids k aM;have yp:=Yn (t.kids.take k);have h1:=NZ qg;have U:=NZ vg;have av:=NZ r1;have aN:=NZ tH;have htot:Tr.counts (t.kids.take k)+(t.kids[k]).count<=Tr.counts t.kids:=avL
     have aj:=(nC.out t.kids[k] Oe ps[k] _ wr wq hg (by rw[List.length_append,List.length_append];omega))
     have tR:=hide wR;have z:=N8 (∀{G}(h:G:=by
     have rv:t.kids.length<=100000:=by have:=Ti t.kids;omega
     clear hcell uC h1 U av aN htot ag wR yp;go_wp2_with fail;refine cm aj ?_;rintro e w2 ⟨rfl,eI,ha2⟩;have eg:=(gx.trans ha2);clear eJ;go_wp2
     go_roundw
     case rel=>exact⟨k+1,by omega,by go_num,by rw[tR.out,<-List.append_assoc];exact eI,eg⟩
     case measure=>simp[intOf];omega),G);exact avM),G);exact avN
    ·have eK:k=t.kids.length:=Oe;subst eK;go_wp2
     go_end0
     refine⟨rfl,?_,gx⟩;rw[List.take_length] at hg;rw[xF.out,<-List.append_assoc];exact hg),G);exact ar4),G);exact aAc
def alX {p n c:Nat}{a:Option Addr}{w:Og}(ai:w.cell? (N9 p 3)=some (.slice a n c)):Oq 120 #[N7 p] w fun e w'=>e=OA (.slice a n c)/\w'=w:=by
 go_enter func120,ntmps120;go_wp2;go_ret;exact⟨rfl,rfl⟩
def Py (t:Tr):List Ou:=XD (vws t.kids)
def WJ (t:Tr)(p:Nat)(w:Og)(h:Ug w t p)(ai:t.count<=80000) :
  Oq 54 #[N7 p] w fun e w'=>(∃ u,e=OA u/\Q5 w.heap.size w' u (Py t))/\Oo w w':=by
 have hN:PO (fun x=>x<w.heap.size) w t p:=PO.mono (fun b _ hl=>hl) _ _ h;have⟨ef,h7⟩:=xE (w.alloc (.cells #[Qv] 26));have cl:Oo w ef:=by rw[h7];exact PE
 have j7:ef.heap.size=w.heap.size+1:=by rw[h7];simp
 have sY:agq w.heap.size (w.heap.size+1) [] ef:=⟨by omega,by omega,_,by rw[h7];exact Oi _ _,X4 _ _⟩
 have bL:=N8 (∀{G}(h:G:=by
 obtain⟨u,ps,hblk,hrow,pT,eL⟩:=hN.abB;have hlen:=Oz.length _ _ eL;have⟨cV,uc,aQ⟩:=UL hrow;subst aQ;have⟨_,_,_,fT,_⟩:=node_cells hblk;have f1:=(alX (w:=ef) (p:=p) ((World.cell?_of_block (w:=w) (a:=(N9 p 3)) (cl.block p (lt_of_heap hblk))).trans fT));rw[hlen] at f1;have GM:=hide j7;have qg:=hide gP;have B8:=hide ai;have HLEN:=hide hlen;have jv:=aAa;have rv:t.kids.length<=100000:=by have:=Ti t.kids;omega
 clear h pT hblk fT gP ai hlen j7;go_enter func54,ntmps54;go_wp2_with fail;rw[<-h7];refine cm f1 ?_;rintro e w1 ⟨rfl,rfl⟩;clear h7;go_wp2_with fail
 go_loopw [11] (fun i wr=>∃ k:Nat,k<=t.kids.length/\i=NY k/\agq w.heap.size (w.heap.size+1) (vws (t.kids.take k)) wr/\Ap w.heap.size (w.heap.size+1) w1 wr) (fun i _=>t.kids.length - (intOf i).toNat)
 case atStart=>exact⟨0,Nat.zero_le _,rfl,by simpa[vws] using sY,Ap.refl _ _ _⟩
 case round=>
  obtain⟨k,E,rfl,hg,gx⟩:=hrel;have vf:=hg
  by_cases aM:k<t.kids.length
  ·have z:=N8 (∀{G}(h:G:=by
   have⟨c',mF⟩:=Oz.get _ _ eL k aM;have dC:g<w.heap.size:=(P6 hrow g rfl).1;have eJ:wr.cell? (N9 g k)=some (N7 ps[k]):=by
    rw[gx.cell (p:=(N9 g k)) (by show g<_;omega) (by show g≠_;omega),World.cell?_of_block (w:=w) (a:=(N9 g k)) (cl.block g dC)];exact hcell k c'
   have wq:PO (fun x=>x<w.heap.size+1/\x≠w.heap.size) wr t.kids[k] ps[k]:=
    PO.mono (fun x ac _=>⟨by have h1:x<w.heap.size:=ac;omega,by have h1:x<w.heap.size:=ac;omega⟩) _ _ (PO.later (I:=fun x=>x<w.heap.size) (fun x ac hl=>(gx.block x (by have h1:x<w.heap.size:=ac;omega) (by have h1:x<w.heap.size:=ac;omega)).trans (cl.block x ac)) _ _ mF)
   have Mi:g<wr.heap.size:=by have:=gx.size;have:=NZ GM;omega
   have uC:=Vp t.kids k aM;have wR:=agp t.kids k aM;have yp:=Yn (t.kids.take k);have h1:=NZ qg;have av:=NZ B8;have htot:Tr.counts (t.kids.take k)+(t.kids[k]).count<=Tr.counts t.kids:=avL
   have aj:=(aAb w.heap.size (w.heap.size+1) (t.kids[k]).count t.kids[k] Pg ps[k] _ wr wq vf Oe);have tR:=hide wR;have z:=N8 (∀{G}(h:G:=by
   clear hcell uC h1 av htot ag wR yp;go_wp2_with fail;refine cm aj ?_;rintro e w2 ⟨rfl,eI,ha2⟩;have eg:=(gx.trans ha2);clear eJ;go_wp2
   go_roundw
   case rel=>exact⟨k+1,by omega,by go_num,by rw[tR.out];exact eI,eg⟩
   case measure=>simp[intOf];omega),G);exact avM),G);exact avN
  ·have eK:k=t.kids.length:=Oe;subst eK;have hg:=vf;rw[List.take_length] at hg;obtain⟨_,aH,v,A,hown⟩:=hg;obtain⟨aC,iJ,rfl⟩:=OG hown;have c0:wr.cell? (N9 w.heap.size 0)=some (.slice aC (vws t.kids).length iJ):=by rw[cell_of A];rfl
   have ll:=lt_of_heap A;have lJ:Oo w wr:=cl.trans ((gx.mono Oe).below Pg);have h5:=Yn t.kids;have aj:=(agn (vws t.kids) _ wr hown (by have:=NZ qg;have:=NZ B8;omega))
   clear A h5;go_wp2_with fail;refine cm aj ?_;rintro e w2 ⟨⟨u,rfl,aa⟩,aE⟩;obtain⟨NT,NU,rfl⟩:=OG aa;have cq:=(lJ.trans (aE.mono lJ.size));go_wp2;go_ret;exact⟨⟨_,rfl,ZW aa lJ.size⟩,cq⟩),G);exact zto
def aes {P:Program}{w:Og}(base:Nat)(t qV e:TypeId)(i:TypeInfo)(size:Nat)(aZ:P.underlying t=some (.slice e))(az:P.info? e=some i)
  (v:Ot) (n:Nat) (xs:List Ot) (hown:w.ownsRow base e size v n xs) (ad:Option Addr) (k:Nat) :
  (Builtin.append_ #[t,t] qV #[v,.slice ad 0 k]).run P w=.ok v w:=by
 cases ad <;> rcases hown.2 with ⟨rfl,rfl⟩|⟨g,cap,ck,rfl,_,_,jR,_⟩ <;>
  simp[Builtin.append_,run_underlying aZ,sizeOf,typeInfo,Builtin.lenOf,Builtin.firstCells,loadCells,loadCellsFrom,storeCells, *]
def X6 {P:Program}{w:Og}{bf:Array Oper}{rest:List Oper}{o:Oper}{a:Act}{Q:Exit->Act->Og->Prop}(D0:o.guard=none)(s x:Operand)(t:TypeId)
  (aO:o.op=.call { callee:=.builtin .append,args:=#[s,x],argTypes:=#[t,t] })
  (base E4:Nat) (e:TypeId) (i:TypeInfo) (bB:Ot) (bytes:Nat) (aZ:P.underlying t=some (.slice e)) (az:P.info? e=some i) (aH:i.zero=some bB)
  (hsize:i.size=1) (g6:i.bytes=bytes) (JI:bB.cells.size=1)
  (v:Ot) (n:Nat) (xs:List Ot) (ab:a.eval s=v) (hown:w.ownsRow base e 1 v n xs)
  (v2:Ot) (m:Nat) (news:List Ot) (ac:a.eval x=v2) (hown2:w.ownsRow E4 e 1 v2 m news) (h1:∀ u ∈ news,u.oneCell'=true)
  (Dg:n+m<=maxLen) (hbytes:(n+m) * bytes<=140737488355328) (hbase:base<=w.heap.size)
  (h:∀ v' w',w'.ownsRow base e 1 v' (n+m) (xs++news)->w.grownBy w' v.ownBlock->wpList P bf Q rest (a.put o.dst v') w'):wpList P bf Q (o::rest) a w:=by
 rcases Nat.eq_zero_or_pos m with rfl|aR
 ·have hnews:news=[]:=List.length_eq_zero_iff.1 (by rw[hown2.1]);subst hnews;obtain⟨ad,k,rfl⟩:=OG hown2;have E:=h v w (by rw[List.append_nil];exact hown) ⟨rfl,rfl,rfl,Pg,fun _ _ _=>rfl⟩
  refine wpList_plain D0 fun K D=>?_;have hrun:=aes (P:=P) (w:=w) base t o.type e i 1 aZ az v n xs hown ad k;unfold Oper.wp;simp[execOp,aO,resolve,invoke,builtin,ab,ac,hrun,Result.andThen];exact D _ _ E
 ·obtain⟨g,cap,rfl,_,_⟩:=hown2.form aR;refine wpList_append_lies w D0 s x t aO base e i bB 1 bytes aZ az aH hsize g6 JI Ol v n xs ab hown (N9 g 0) m cap news ac hown2.1 (fun j u aS=>?_) h1 aR Dg hbytes hbase _ rfl (fun g1 cap' w' a b _ _=>h _ _ a b);have hl:j<m * 1:=by
   rw[<-hown2.1];exact(List.getElem?_eq_some_iff.1 aS).1
  have aN:((N9 g 0):Addr).add j=(N9 g j):=by simp[Addr.add];exact Eq.symm
  rw[aN,hown2.cellAt j hl];exact aS
def namesT (t:Tr)(body:Bool):List Ou:=XD ((if body then Py t else [])++(TN t).map Tr.tx++(OZ t).map Tr.tx)
def aa6 (t:Tr):(TN t).length<=t.kids.length:=List.length_filter_le _ _
def Tf (t:Tr):(OZ t).length<=t.kids.length:=List.length_filter_le _ _
def XR (t:Tr):(Py t).length<=Tr.counts t.kids:=Nat.le_trans (Zl _) (Yn _)
def ZX (t:Tr)(p:Nat)(body:Bool)(w:Og)(h:Ug w t p)(ai:t.count<=20000) :
  Oq 78 #[N7 p,Om body] w fun e w'=>(∃ u,e=OA u/\Q5 w.heap.size w' u (namesT t body))/\Oo w w':=by
 have⟨i0,dW,dw,b8,cn⟩:=info_parts info9;have z:=N8 (∀{G}(h:G:=by
 have fO:=aa6 t;have ij:=Tf t;have h5:=XR t;unfold namesT;have⟨F,ki⟩:=xH ((TN t).map Tr.tx);have LX:F.length<=20000:=by rw[ki.out,List.length_map];omega
 have⟨G,y7⟩:=xH ((OZ t).map Tr.tx);have L0:G.length<=20000:=by rw[y7.out,List.length_map];omega
 rw[<-ki.out,<-y7.out]
 cases body with
 | true=>
  have mU:=(WJ t p w h Oe);simp only[if_true];have⟨V,fF⟩:=xE (Py t);have Dy:V.length<=20000:=by rw[fF];omega
  rw[<-fF] at mU ⊢;have z:=N8 (∀{G}(h:G:=by
  go_wp2_with fail;refine cm mU ?_;rintro e w1 ⟨⟨gp,rfl,hr1⟩,bZ⟩;obtain⟨j4,c1,rfl⟩:=OG hr1;have eE:=bZ;have ec:=(h.later bZ);have oC:=hr1;have aj:=(ZV t p w1 ec Oe);exact aAd),G);exact aAe
 | false=>
  simp only[Bool.false_eq_true,if_false];have⟨V,fF⟩:=xE ([]:List Ou);have Dy:V.length<=20000:=by rw[fF];simp
  have eE:Oo w w:=QI;have ec:Ug w t p:=h;have oC:Q5 w.heap.size w Qv V:=by rw[fF];exact X4 _ _
  have y8:Hid (∀ l,l=[]++F++G->l=V++F++G):=fun l hl=>by rw[hl,fF]
  rw[NZ y8 _ rfl];have z:=N8 (∀{G}(h:G:=by
  have aj:=(ZV t p w ec Oe);exact aAd),G);exact aAe),G);exact zsw
section
variable (F:Nat) (f:Tr->Bool) (jv:VH F) (ap:List Tr) (v:Ot) (w:Og) {B:Nat} (h:Uo B w v ap) (hl:ap.length<=90000) (ah:∀ t ∈ ap,∀ p W,Oo w W->Ug W t p->Oq F #[N7 p] W fun e w'=>e=OA (Om (f t))/\Oo W w')
include F f jv ap v w B h hl ah
def arH :
  Oq 183 #[v,fnV F] w fun e w'=>(∃ k:Int,e=OA (NY k)/\decide (0<=k)=ap.any f)/\Oo w w':=azp
def abk :
  Oq 248 #[v,fnV F] w fun e w'=>e=OA (Om (ap.any f))/\Oo w w':=by
 have aj:=(arH F f jv ap v w h hl ah);exact azq
end
section
variable (F:Nat) (c:Ot) (f:Tr->Bool) (jv:VH F) (ap:List Tr) (v:Ot) (w:Og) {B:Nat} (h:Uo B w v ap) (hl:ap.length<=90000) (ah:∀ t ∈ ap,∀ p W,Oo w W->Ug W t p->Oq F #[N7 p,c] W fun e w'=>e=OA (Om (f t))/\Oo W w')
include F c f jv ap v w B h hl ah
def arI :
  Oq 183 #[v,.func (.func F) #[] #[c]] w fun e w'=>(∃ k:Int,e=OA (NY k)/\decide (0<=k)=ap.any f)/\Oo w w':=azp
def VW :
  Oq 248 #[v,.func (.func F) #[] #[c]] w fun e w'=>e=OA (Om (ap.any f))/\Oo w w':=by
 have aj:=(arI F c f jv ap v w h hl ah);exact azq
end
def TM (l:List Tr)(x:Ou):Bool:=l.any fun k=>decide (k.tx=x)
def azr:VH 289:=fun _ _=>by kernel_rfl
def ah8 (t:Tr)(p b:Nat)(x:Ou)(w:Og)(h:Ug w t p)(ac:w.cell? (N9 b 0)=some (Oj x)):Oq 289 #[N7 p,Oy b 0] w fun e w'=>e=OA (Om (decide (t.tx=x)))/\Oo w w':=by
 obtain⟨eM,_,c1,_⟩:=h.cells;have⟨tx,cB⟩:=xE t.tx;rw[<-cB] at c1 ⊢;have ll:b<w.heap.size:=by
  rcases Nat.lt_or_ge b w.heap.size with h1|h1
  ·exact h1
  ·have U:w.heap[b]? = none:=Array.getElem?_eq_none h1;simp[World.cell?,U] at ac
 clear h cB
 by_cases ao:tx=x
 ·subst ao;have aw:decide (tx=tx)=true:=decide_eq_true rfl;rw[aw];clear aw;go_enter func289,ntmps289;go_wp2_with fail
  go_region
  go_wp2;go_ret;exact⟨rfl,QI.drew⟩
 ·rw[decide_eq_false ao];have cC:=adu ao;clear ao;go_enter func289,ntmps289;go_wp2_with fail
  go_region
  go_wp2;go_ret;exact⟨rfl,QI.drew⟩
def Ym (ap:List Tr)(v:Ot)(x:Ou)(w:Og){B:Nat}(h:Uo B w v ap)(hl:ap.length<=90000) :
  Oq 246 #[v,Oj x] w fun e w'=>e=OA (Om (TM ap x))/\Oo w w':=by
 have⟨ef,h7⟩:=xE (w.alloc (.cells #[Oj x] 9));have cl:Oo w ef:=by rw[h7];exact PE
 have j7:ef.heap.size=w.heap.size+1:=by rw[h7];simp
 have uG:ef.cell? (N9 w.heap.size 0)=some (Oj x):=by rw[h7,cell_of (Oi _ _)];rfl
 have aj:=(VW 289 (Oy w.heap.size 0) (fun k=>decide (k.tx=x)) azr ap v ef (h.later cl) hl (fun t _ p W A ax=>ah8 t p _ x W ax ((World.cell?_of_block (w:=ef) (a:=(N9 w.heap.size 0)) (A.block w.heap.size Oe)).trans uG)));obtain⟨va,du,rfl⟩:=h.form;clear h j7 uG;go_enter func246,ntmps246;go_wp2_with fail;rw[<-h7];refine cm aj ?_;rintro e w1 ⟨rfl,A⟩;have bO:=(cl.trans (A.mono cl.size));clear h7;go_wp2;go_ret;exact⟨rfl,bO⟩
def cell_lt {w:Og}{b o:Nat}{v:Ot}(h:w.cell? (N9 b o)=some v):b<w.heap.size:=by
 rcases Nat.lt_or_ge b w.heap.size with h1|h1
 ·exact h1
 ·have U:w.heap[b]? = none:=Array.getElem?_eq_none h1;simp[World.cell?,U] at h
def OT {w X:Og}{b o:Nat}{v:Ot}(A:Oo w X)(h:w.cell? (N9 b o)=some v):X.cell? (N9 b o)=some v:=
 (World.cell?_of_block (w:=w) (a:=(N9 b o)) (A.block b (cell_lt h))).trans h
abbrev RH:Ou:=⟨#[101,118,97,108]⟩
abbrev tArgs:Ou:=⟨#[97,114,103,117,109,101,110,116,115]⟩
def Ve:Option Int->Ot
 | none=>.nilIface
 | some e=>.iface 34 (NY e)
abbrev XP (s i b:Bool):Ot:=.agg #[Om s,Om i,Om b]
def isSp (x:Ou):Bool:=decide (x=RH)||decide (x=tArgs)
def nmE (s:Bool)(x:Ou):Option Int:=if s&&isSp x then some 5 else none
def OU (t:Tr):Bool:=(t.kd==1||t.kd==6)&&decide (t.tx=TF)
def Vf (s i b:Bool)(x:Ou)(w:Og):Oq 192 #[Oj x,XP s i b] w fun e w'=>e=OA (Ve (nmE s x))/\Oo w w':=by
 unfold nmE isSp;have bO:=((Below.refl w.heap.size w).alloc Pg (.cells #[Om s,Om i,Om b] 112))
 cases s with
 | false=>
  exact arJ
 | true=>
  by_cases h1:x=RH
  ·have aw:=Vz (b:=RH) rfl h1;rw[decide_eq_true h1];clear h1;exact arJ
  ·have aw:=U6 (b:=RH) rfl h1;rw[decide_eq_false h1];clear h1
   by_cases U:x=tArgs
   ·have bi:=Vz (b:=tArgs) rfl U;rw[decide_eq_true U];clear U;exact arJ
   ·have bi:=U6 (b:=tArgs) rfl U;rw[decide_eq_false U];clear U;exact arJ
section
variable (t:Tr) (p:Nat) (w:Og) (h:Ug w t p)
include t p w h
def Td:Oq 58 #[N7 p] w fun e w'=>e=OA (Om (OU t))/\w'=w:=by
 obtain⟨eM,c0,c1,_⟩:=h.cells;clear h;unfold OU
 generalize t.kd=kd at c0
 generalize t.tx=tx at c1
 by_cases U:tx=TF
 ·have bi:=Vz (b:=TF) rfl U;rw[decide_eq_true U];exact azt
 ·have bi:=U6 (b:=TF) rfl U;rw[decide_eq_false U];exact azt
def ah9:Oq 102 #[N7 p] w fun e w'=>e=OA (Om (QZ t))/\w'=w:=by
 obtain⟨eM,c0,_,_⟩:=h.cells;clear h;unfold QZ
 generalize t.kd=kd at c0
 cases av:(kd==5)
 all_goals
  go_enter func102,ntmps102;go_wp2;go_ret;exact⟨rfl,rfl⟩
end
def PZ (t:Tr)(k:Nat):Tr:=t.kids.getD k t
def Xf (t:Tr)(k:Nat)(h:k<t.kids.length):PZ t k=t.kids[k]:=by simp[PZ,List.getD,h]
section
variable (t:Tr) (p:Nat) (w:Og) (h:Ug w t p)
include t p w h
def abm (E:2<=t.kids.length)(hl:t.kids.length<=90000):Oq 103 #[N7 p] w fun e w'=>(∃ q,e=OA (N7 q)/\Ug w (PZ t 1) q)/\w'=w:=by
 obtain⟨eM,_,_,u,c3,aa⟩:=h.cells;obtain⟨g,cap,q,rfl,hg,ai,ax⟩:=aa.cell 1 Oe;rw[<-Xf t 1 Oe] at ax;clear h
 generalize dA:t.kids.length=L at c3 E hl
 clear dA;go_enter func103,ntmps103;go_wp2;go_ret;exact⟨⟨q,rfl,ax⟩,rfl⟩
def aaB (E:1<=t.kids.length)(hl:t.kids.length<=90000):Oq 249 #[N7 p] w fun e w'=>(∃ u,e=OA u/\Uo 0 w u (PZ t 0).kids)/\w'=w:=by
 obtain⟨eM,_,_,u,c3,aa⟩:=h.cells;obtain⟨g,cap,q,rfl,hg,ai,ax⟩:=aa.cell 0 Oe;rw[<-Xf t 0 Oe] at ax;obtain⟨ds,_,_,gb,jM,hr2⟩:=ax.cells;obtain⟨a2,c2,rfl⟩:=hr2.form;clear h
 generalize dA:t.kids.length=L at c3 E hl
 clear dA;go_enter func249,ntmps249;go_wp2;go_ret;exact⟨⟨_,rfl,hr2⟩,rfl⟩
end
def WI (t:Tr):Bool:=t.kd==3||t.kd==4||t.kd==5
def azu:VH 251:=fun _ _=>by kernel_rfl
def auG:VH 244:=fun _ _=>by kernel_rfl
def azv:VH 245:=fun _ _=>by kernel_rfl
def avo:VH 250:=fun _ _=>by kernel_rfl
def af4 (t:Tr)(p:Nat)(w:Og)(h:Ug w t p):Oq 251 #[N7 p] w fun e w'=>e=OA (Om (WI t))/\Oo w w':=by
 obtain⟨eM,c0,_,_⟩:=h.cells;clear h;unfold WI
 generalize t.kd=kd at c0
 cases av:(kd==3) <;> cases aN:(kd==4) <;>
 ·go_enter func251,ntmps251;go_wp2;go_ret;exact⟨rfl,QI⟩
def abn (t:Tr)(p b:Nat)(l:List Ou)(va:Option Addr)(du:Nat)(w:Og){B:Nat}(h:Ug w t p)(A:w.cell? (N9 b 0)=some (.slice va l.length du))(aa:Q5 B w (.slice va l.length du) l)(hl:l.length<=90000) :
  Oq 244 #[N7 p,Oy b 0] w fun e w'=>e=OA (Om (hasB l t.tx))/\Oo w w':=by
 obtain⟨eM,_,c1,_⟩:=h.cells;have aj:=(VL l t.tx _ w.drew aa Oe);clear h
 generalize t.tx=tx at c1 aj
 have ll:=cell_lt A;go_enter func244,ntmps244;go_wp2_with fail;refine wp_region_held (S:=fun X=>X=w.drew) Pe ?_;change wpAnyH _ _ _ _ _ _ _ _ (World.drew _);refine wh 0 (.slice va l.length du) rfl ?_ (hy:=Or.inl ⟨by kernel_rfl,fun X ak=>by cases ak;go_simp⟩)
 refine wh 1 (N7 p) rfl ?_;refine wh 2 (N7 p) rfl ?_;refine wh 3 (Oy p 1) rfl ?_;refine wh 4 (Oj tx) rfl ?_ (hy:=Or.inl ⟨by kernel_rfl,fun X ak=>by cases ak;go_simp⟩)
 refine XL 5 fun K D=>?_;go_simp;refine cm aj ?_;rintro e w2 ⟨rfl,rfl⟩;refine D.out _ _ rfl (fun _=>?_);clear D K;refine wh 6 (Om (hasB l tx)) rfl ?_;refine wpAnyH_done Pe ?_ _;go_simp;go_wp2;go_ret;exact⟨rfl,QI.drew⟩
def aia (t:Tr)(p b:Nat)(ap:List Tr)(va:Option Addr)(du:Nat)(w:Og){B:Nat}(h:Ug w t p)(A:w.cell? (N9 b 0)=some (.slice va ap.length du))(aa:Uo B w (.slice va ap.length du) ap)(hl:ap.length<=90000) :
  Oq 245 #[N7 p,Oy b 0] w fun e w'=>e=OA (Om (TM ap t.tx))/\Oo w w':=by
 obtain⟨eM,_,c1,_⟩:=h.cells;have aj:=(Ym ap _ t.tx w.drew (aa.later QI.drew) hl);clear h
 generalize t.tx=tx at c1 aj
 have ll:=cell_lt A;have ae:Oo w w.drew:=QI.drew;go_enter func245,ntmps245;go_wp2_with fail;refine wp_region_held (S:=fun X=>Oo w X) Pe ?_;change wpAnyH _ _ _ _ _ _ _ _ (World.drew _);refine wh 0 (.slice va ap.length du) ae ?_ (hy:=Or.inl ⟨by kernel_rfl,fun X ak=>by have hh:=OT ak A;go_simp⟩)
 refine wh 1 (N7 p) ae ?_;refine wh 2 (N7 p) ae ?_;refine wh 3 (Oy p 1) ae ?_;refine wh 4 (Oj tx) ae ?_ (hy:=Or.inl ⟨by kernel_rfl,fun X ak=>by have hh:=OT ak c1;go_simp⟩)
 refine XL 5 fun K D=>?_;go_simp;refine cm aj ?_;rintro e w2 ⟨rfl,aE⟩;have f6:Oo w w2:=ae.trans (aE.mono Pg);refine D.out _ _ f6 (fun _=>?_);clear D K;refine wh 6 (Om (TM ap tx)) f6 ?_;refine wpAnyH_done Pe ?_ _;go_simp;go_wp2;go_ret;exact⟨rfl,f6⟩
def alz (t f:Tr)(p b q:Nat)(w:Og)(h:Ug w t p)(A:w.cell? (N9 b 0)=some (N7 q))(aF:Ug w f q)(E:1<=f.kids.length)(cI:f.kids.length<=90000)(hl:(PZ f 0).kids.length<=90000) :
  Oq 250 #[N7 p,Oy b 0] w fun e w'=>e=OA (Om (TM (PZ f 0).kids t.tx))/\Oo w w':=by
 obtain⟨eM,_,c1,_⟩:=h.cells;have ae:Oo w w.drew:=QI.drew;have HP:=(aaB f q w.drew (aF.later ae) E cI);clear h
 generalize t.tx=tx at c1
 have ll:=cell_lt A;go_enter func250,ntmps250;go_wp2_with fail;refine wp_region_held (S:=fun X=>Oo w X) Pe ?_;change wpAnyH _ _ _ _ _ _ _ _ (World.drew _);refine wh 0 (N7 q) ae ?_ (hy:=Or.inl ⟨by kernel_rfl,fun X ak=>by have hh:=OT ak A;go_simp⟩)
 refine wh 2 (N7 p) ae ?_;refine wh 3 (N7 p) ae ?_;refine wh 4 (Oy p 1) ae ?_;refine wh 5 (Oj tx) ae ?_ (hy:=Or.inl ⟨by kernel_rfl,fun X ak=>by have hh:=OT ak c1;go_simp⟩)
 refine XL 1 fun K D=>?_;go_simp;refine cm HP ?_;rintro e w2 ⟨⟨u,rfl,aa⟩,rfl⟩;obtain⟨va,du,rfl⟩:=aa.form;refine D.out _ _ ae (fun _=>?_);clear D K;have aj:=(Ym (PZ f 0).kids _ tx w.drew aa hl);refine XL 6 fun K D=>?_;go_simp;refine cm aj ?_;rintro e aq ⟨rfl,bn⟩;have f6:Oo w aq:=ae.trans (bn.mono Pg);refine D.out _ _ f6 (fun _=>?_);clear D K;refine wh 7 (Om (TM (PZ f 0).kids tx)) f6 ?_;refine wpAnyH_done Pe ?_ _;go_simp;go_wp2;go_ret;exact⟨rfl,f6⟩
def VT.take {I:Nat->Prop}{w:Og}:∀ (ap:List Tr) (ps:List Nat),VT I w ap ps->∀ k,VT I w (ap.take k) (ps.take k)
 | [],ps,h,k=>by rw[VT] at h;subst h;simpa using VT.nil
 | t::ap,ps,h,k=>by
  rw[VT] at h;obtain⟨p,eH,rfl,h1,U⟩:=h
  cases k with
  | zero=>simpa using VT.nil
  | succ k=>simpa using VT.cons h1 (VT.take ap eH U k)
def Uo.take {B:Nat}{w:Og}{g cap:Nat}{ap:List Tr}(h:Uo B w (.slice (some (N9 g 0)) ap.length cap) ap)(k:Nat)(E:k<=ap.length):Uo B w (.slice (some (N9 g 0)) k cap) (ap.take k):=by
 obtain⟨ps,h1,U⟩:=h;have hl:=VT.length _ _ U;refine⟨ps.take k,?_,VT.take _ _ U k⟩;have ku:(ps.take k).length=k:=by rw[List.length_take];omega
 rw[ku];refine⟨by simp;omega,Or.inr ?_⟩
 rcases h1.2 with ax|⟨g1,cap',ck,am,A,hg,ai,aR,aH,ac⟩
 ·exact absurd ax.1 OW
 ·simp only[Value.slice.injEq,Option.some.injEq,Addr.mk.injEq] at am;obtain⟨⟨rfl,_,_⟩,_,rfl⟩:=am;refine⟨g,cap,ck,rfl,A,hg,by omega,aR,aH,?_⟩;have av:=congrArg (List.take k) ac;rw[List.take_take,Nat.min_eq_left Oe] at av;rw[Nat.mul_one,av,<-List.map_take]
def acY (l:List Tr)(i:Nat):Ou:=(l.map Tr.tx).getD i Oh
def aj9 (l:List Tr)(i:Nat)(h:i<l.length):acY l i=(l[i]).tx:=by simp[acY,List.getD,h]
def avp (l:List Tr)(i:Nat):Bool:=TM (l.take i) (acY l i)
def aec (l:List Tr):Bool:=(List.range l.length).any (avp l)
def Zk (ap:List Tr)(v:Ot)(w:Og){B:Nat}(h:Uo B w v ap)(hl:ap.length<=90000) :
  Oq 247 #[v] w fun e w'=>e=OA (Om (aec ap))/\Oo w w':=by
 obtain⟨va,du,rfl⟩:=h.form;have dy:=h;have⟨R,bV⟩:=xH (aec ap);rw[<-bV.out];clear h;go_enter func247,ntmps247;go_wp2_with fail
 go_loopw [7] (fun i wr=>∃ k:Nat,k<=ap.length/\i=NY k/\(List.range k).any (avp ap)=false/\Oo w wr) (fun i _=>ap.length - (intOf i).toNat)
 case atStart=>exact⟨0,Nat.zero_le _,rfl,rfl,QI⟩
 case round=>
  obtain⟨k,E,rfl,fo,A⟩:=hrel;have fK:=hide fo;clear fo
  by_cases aM:k<ap.length
  ·have z:=N8 (∀{G}(h:G:=by
   obtain⟨ds,_,c1,_⟩:=ax.cells;rw[<-aj9 ap k aM] at c1;have⟨tx,cB⟩:=xE (acY ap k);rw[<-cB] at c1;have ae:Oo wr wr.drew:=QI.drew;have aj:=(Ym (ap.take k) _ tx wr.drew (((dy.later A).take k E).later ae) (by rw[List.length_take];omega))
   have⟨r,aa⟩:=xE (TM (ap.take k) tx);rw[<-aa] at aj;have nM:Hid (avp ap k=r):=by rw[aa,cB];rfl
   clear ax cB aa;have Mp:(k:Int)<=(du:Int):=by
    have⟨ps,aO,fo⟩:=id dy;have eM:=VT.length _ _ fo
    rcases aO.2 with ax|⟨g1,cap',ck,am,_,_,sS,_⟩
    ·exact absurd ax.1 OW
    ·simp only[Value.slice.injEq] at am;omega
   have k1:du<=maxLen:=by
    obtain⟨ps,aO,fo⟩:=dy
    rcases aO.2 with ax|⟨g1,cap',ck,am,_,_,sS,aR,_⟩
    ·exact absurd ax.1 OW
    ·simp only[Value.slice.injEq] at am;omega
   go_wp2_with fail;refine wp_region_held (S:=fun X=>Oo wr X) Pe ?_;change wpAnyH _ _ _ _ _ _ _ _ (World.drew _);refine wh 0 (.slice (some (N9 g 0)) ap.length du) ae ?_;refine wh 1 (NY k) ae ?_;refine wh 3 (N7 q) ae ?_;refine wh 4 (N7 q) ae ?_;refine wh 5 (Oy q 1) ae ?_;refine wh 6 (Oj tx) ae ?_ (hy:=Or.inl ⟨by kernel_rfl,fun X ak=>by have hh:=OT ak c1;go_simp⟩)
   refine wh 2 (.slice (some (N9 g 0)) k du) ae ?_;refine XL 7 fun K D=>?_;go_simp;refine cm aj ?_;rintro e w2 ⟨rfl,aE⟩;have f6:Oo wr w2:=ae.trans (aE.mono Pg);refine D.out _ _ f6 (fun _=>?_);clear D K;refine wpAnyH_done Pe ?_ _;go_simp;have cq:=(A.trans (f6.mono A.size))
   cases r with
   | true=>
    have Af:R=true:=by
     rw[bV.out,aec,List.any_eq_true];exact⟨k,List.mem_range.2 aM,nM.out⟩
    subst Af;go_wp2;go_ret;exact⟨rfl,cq⟩
   | false=>
    go_wp2
    go_roundw
    case rel=>
     refine⟨k+1,by omega,by go_num,?_,cq⟩;rw[List.range_succ,List.any_append,fK.out];simp[nM.out]
    case measure=>simp[intOf];omega),G);exact azw
  ·have cL:k=ap.length:=Oe;subst cL;have H':R=false:=by rw[bV.out];exact NZ fK
   subst H';go_wp2;go_ret;exact⟨rfl,A⟩
def brE (t:Tr)(s:Bool):Option Int:=if (t.kd==9&&s)||t.kids.any WI then some 1 else none
def aaO (t:Tr)(p:Nat)(s i b:Bool)(w:Og)(h:Ug w t p)(hl:t.kids.length<=90000):Oq 194 #[N7 p,XP s i b] w fun e w'=>e=OA (Ve (brE t s))/\Oo w w':=by
 have⟨ef,h7⟩:=xE (w.alloc (.cells #[Om s,Om i,Om b] 112));have cl:Oo w ef:=by rw[h7];exact PE
 obtain⟨eM,c0,_,u,c3,aa⟩:=h.cells;obtain⟨va,du,rfl⟩:=aa.form;have aj:=(abk 251 WI azu t.kids _ ef (aa.later cl) hl (fun t _ p W _ ax=>af4 t p W ax));unfold brE;clear h
 generalize t.kids.any WI=r at aj
 generalize t.kids.length=L at c3 aj
 generalize t.kd=kd at c0
 cases hu:(kd==9&&s) with
 | true=>
  have h1:(kd==9)=true:=by cases hh:(kd==9) <;> simp_all
  have U:s=true:=by cases s <;> simp_all
  subst U;clear hu;rw[h7] at cl;clear h7;go_enter func194,ntmps194;go_wp2;go_ret;exact⟨rfl,cl⟩
 | false=>
  cases h1:(kd==9) with
  | true=>
   have U:s=false:=by cases s <;> simp_all
   subst U;exact azx
  | false=>
   exact azx
def adv {B B':Nat}{w:Og}{v:Ot}{ap:List Tr}(h:Uo B w v ap)(a1:B'<=B):Uo B' w v ap:=by
 obtain⟨ps,h1,U⟩:=h;refine⟨ps,⟨h1.1,?_⟩,U⟩
 rcases h1.2 with ax|⟨g,cap,ck,am,A,rest⟩
 ·exact Or.inl ax
 ·exact Or.inr ⟨g,cap,ck,am,by omega,rest⟩
def scT (t:Tr):Bool:=aec (OZ t)||(OZ t).any (fun k=>TM (TN t) k.tx)||(OZ t).any (fun k=>hasB (Py t) k.tx)
def scU (t:Tr):Bool:=aec (TN t)||(TN t).any (fun k=>hasB (Py t) k.tx)
def scE (t:Tr)(body:Bool):Option Int:=if scT t||(!body&&scU t) then some 9 else none
structure aGc (ek:Og)(sE tW:Nat)(LV yD:Ot)(bY j4 a2 cg a3:Bool):Prop where
 cF:ek.cell? (N9 tW 0)=some yD
 hr1:∀ W,Oo ek W->Oq 247 #[LV] W fun e w'=>e=OA (Om bY)/\Oo W w'
 ha1:∀ W,Oo ek W->Oq 248 #[LV,.func (.func 245) #[] #[Oy tW 0]] W fun e w'=>e=OA (Om j4)/\Oo W w'
 ha2:∀ W,Oo ek W->Oq 248 #[LV,.func (.func 244) #[] #[Oy sE 0]] W fun e w'=>e=OA (Om a2)/\Oo W w'
 hr2:∀ W,Oo ek W->Oq 247 #[yD] W fun e w'=>e=OA (Om cg)/\Oo W w'
 ha3:∀ W,Oo ek W->Oq 248 #[yD,.func (.func 244) #[] #[Oy sE 0]] W fun e w'=>e=OA (Om a3)/\Oo W w'
def aGd (t:Tr)(ek:Og)(sE tW B:Nat)(va d9 la:Option Addr)(du m7 fy:Nat)(fF:Q5 B ek (.slice va (Py t).length du) (Py t))(ah:Uo B ek (.slice d9 (TN t).length m7) (TN t))(dA:Uo B ek (.slice la (OZ t).length fy) (OZ t))
  (vI:ek.cell? (N9 sE 0)=some (.slice va (Py t).length du)) (cF:ek.cell? (N9 tW 0)=some (.slice d9 (TN t).length m7)) (am:(Py t).length<=90000) (aF:(TN t).length<=90000) (hl:(OZ t).length<=90000) :
  aGc ek sE tW (.slice la (OZ t).length fy) (.slice d9 (TN t).length m7) (aec (OZ t)) ((OZ t).any fun k=>TM (TN t) k.tx) ((OZ t).any fun k=>hasB (Py t) k.tx) (aec (TN t)) ((TN t).any fun k=>hasB (Py t) k.tx):=by
 refine⟨cF,fun W a6=>Zk _ _ W (dA.later a6) hl,fun W a6=>?_,fun W a6=>?_,fun W a6=>Zk _ _ W (ah.later a6) aF,fun W a6=>?_⟩
 ·exact VW 245 _ (fun k=>TM (TN t) k.tx) azv (OZ t) _ W (dA.later a6) hl (fun k _ p X ak ax=>aia k p tW (TN t) d9 m7 X ax (OT ak (OT a6 cF)) ((ah.later a6).later ak) aF)
 ·exact VW 244 _ (fun k=>hasB (Py t) k.tx) auG (OZ t) _ W (dA.later a6) hl (fun k _ p X ak ax=>abn k p sE (Py t) va du X ax (OT ak (OT a6 vI)) (Q5.later (Q5.later fF a6) ak) am)
 ·exact VW 244 _ (fun k=>hasB (Py t) k.tx) auG (TN t) _ W (ah.later a6) aF (fun k _ p X ak ax=>abn k p sE (Py t) va du X ax (OT ak (OT a6 vI)) (Q5.later (Q5.later fF a6) ak) am)
def XQ (t:Tr)(p:Nat)(body:Bool)(w:Og)(h:Ug w t p)(ai:t.count<=20000):Oq 190 #[N7 p,Om body] w fun e w'=>e=OA (Ve (scE t body))/\Oo w w':=by
 have z:=N8 (∀{G}(h:G:=by
 have fO:=aa6 t;have ij:=Tf t;have h5:=XR t;have yo:(Py t).length<=20000:=Oe;have e9:=(WJ t p w h Oe);unfold scE scT scU;obtain⟨bY,zS⟩:∃ r,r=aec (OZ t):=⟨_,rfl⟩;obtain⟨j4,zN⟩:∃ r,r=(OZ t).any fun k=>TM (TN t) k.tx:=⟨_,rfl⟩;obtain⟨a2,zO⟩:∃ r,r=(OZ t).any fun k=>hasB (Py t) k.tx:=⟨_,rfl⟩;obtain⟨cg,zT⟩:∃ r,r=aec (TN t):=⟨_,rfl⟩;obtain⟨a3,zQ⟩:∃ r,r=(TN t).any fun k=>hasB (Py t) k.tx:=⟨_,rfl⟩;rw[<-zS,<-zN,<-zO,<-zT,<-zQ];have y0:=hide zS
 have jY:=hide zN;have y1:=hide zO;have Fr:=hide zT;have Fs:=hide zQ;clear gP h5 ai zS zN zO zT zQ;go_enter func190,ntmps190;go_wp2_with fail;refine cm e9 ?_;rintro e w1 ⟨⟨gp,rfl,hr1⟩,bZ⟩;obtain⟨va,du,rfl⟩:=OG hr1;have hq:=(ZV t p w1 (h.later bZ) Oe);go_wp2_with fail;refine cm hq ?_;rintro e w2 ⟨⟨gb,rfl,hr2⟩,aE⟩;obtain⟨d9,m7,rfl⟩:=hr2.form;have cq:=(bZ.trans (aE.mono bZ.size));have fa:=(Q5.later hr1 aE);have ez:=(abo t p w2 (h.later cq) Oe);go_wp2_with fail;refine cm ez ?_
 rintro e aq ⟨⟨ka,rfl,iH⟩,bn⟩;obtain⟨la,fy,rfl⟩:=iH.form;have dG:=(cq.trans (bn.mono cq.size));have lP:=(Q5.later fa bn);have cT:=(hr2.later bn);go_wp2_with fail;have⟨ek,il⟩:=xE ((aq.alloc (.cells #[.slice va (Py t).length du] 26)).alloc (.cells #[.slice d9 (TN t).length m7] 38));have hI:Oo aq ek:=by rw[il];exact PE.alloc OW _
 have MO:ek.heap.size=aq.heap.size+2:=by rw[il];simp
 have vI:ek.cell? (N9 aq.heap.size 0)=some (.slice va (Py t).length du):=by
  have h1:ek.heap[aq.heap.size]? = some (OM #[.slice va (Py t).length du] 26):=by rw[il,Below.heap_alloc _ _ _ OW,Oi]
  rw[cell_of h1];rfl
 have cF:ek.cell? (N9 (aq.heap.size+1) 0)=some (.slice d9 (TN t).length m7):=by
  have h1:ek.heap[aq.heap.size+1]? = some (OM #[.slice d9 (TN t).length m7] 38):=by
   have U:=Oi (aq.alloc (.cells #[.slice va (Py t).length du] 26)) (.cells #[.slice d9 (TN t).length m7] 38);rw[il];simpa using U
  rw[cell_of h1];rfl
 have pw:=(aGd t ek aq.heap.size (aq.heap.size+1) 0 va d9 la du m7 fy (ZW (Q5.later lP hI) (Nat.zero_le _)) (adv (cT.later hI) (Nat.zero_le _)) (adv (iH.later hI) (Nat.zero_le _)) vI cF Oe Oe Oe);rw[<-y0.out,<-jY.out,<-y1.out,<-Fr.out,<-Fs.out] at pw;have tL:Oo ek ek:=QI;have jo:=(dG.trans (hI.mono dG.size));rw[<-il];clear h vI il
 generalize (OZ t).length=M' at pw ij
 generalize (TN t).length=lR at pw fO cF
 generalize (Py t).length=vl at yo
 cases body with
 | true=>
  cases bY with
  | true=>
   exact azy
  | false=>
   have z:=N8 (∀{G}(h:G:=by
   cases j4 with
   | true=>
    exact azz
   | false=>
    have z:=N8 (∀{G}(h:G:=by
    cases a2 with
    | true=>
     exact avq
    | false=>
     exact avq),G);exact avr),G);exact avs
 | false=>
  cases bY with
  | true=>
   exact azy
  | false=>
   have z:=N8 (∀{G}(h:G:=by
   cases j4 with
   | true=>
    exact azz
   | false=>
    have z:=N8 (∀{G}(h:G:=by
    cases a2 with
    | true=>
     exact avq
    | false=>
     refine cm (pw.ha2 _ e4) ?_;rintro e jl ⟨rfl,wB⟩;have kO:Oo ek jl:=e4.trans (wB.mono e4.size);have f5:=OT kO cF;have LY:=cell_lt f5;go_wp2_with fail
     cases cg with
     | true=>
      refine cm (pw.hr2 _ kO) ?_;rintro e i8 ⟨rfl,uA⟩;have lf:Oo ek i8:=kO.trans (uA.mono kO.size);go_wp2;go_ret;exact⟨rfl,jo.trans (lf.mono jo.size)⟩
     | false=>
      refine cm (pw.hr2 _ kO) ?_;rintro e i8 ⟨rfl,uA⟩;have lf:Oo ek i8:=kO.trans (uA.mono kO.size);have Ab:=OT lf cF;have LZ:=cell_lt Ab;go_wp2_with fail
      cases a3 with
      | true=>
       exact azA
      | false=>
       exact azA),G);exact avr),G);exact avs),G);exact zsw
def Xg (t:Tr)(s:Bool):Option Int:=match nmE s t.tx with
 | some e=>some e
 | none=>if hasB (namesT (PZ t 0) false) t.tx then some 9 else none
structure XI (b:Nat)(s i d:Bool)(w:Og):Prop where
 c0:w.cell? (N9 b 0)=some (Om s)
 c1:w.cell? (N9 b 1)=some (Om i)
 c2:w.cell? (N9 b 2)=some (Om d)
def XI.new (w:Og)(s i d:Bool):XI w.heap.size s i d (w.alloc (.cells #[Om s,Om i,Om d] 112)):=
 ⟨by rw[cell_of (Oi _ _)];rfl,by rw[cell_of (Oi _ _)];rfl,by rw[cell_of (Oi _ _)];rfl⟩
def XI.later {b:Nat}{s i d:Bool}{w X:Og}(h:XI b s i d w)(A:Oo w X):XI b s i d X:=⟨OT A h.c0,OT A h.c1,OT A h.c2⟩
def abp (t:Tr)(p:Nat)(s i b:Bool)(w:Og)(h:Ug w t p)(E:1<=t.kids.length)(ai:t.count<=20000):Oq 193 #[N7 p,XP s i b] w fun e w'=>e=OA (Ve (Xg t s))/\Oo w w':=by
 have z:=N8 (∀{G}(h:G:=by
 have⟨ef,h7⟩:=xE (w.alloc (.cells #[Om s,Om i,Om b] 112));have cl:Oo w ef:=by rw[h7];exact PE
 have wx:XI w.heap.size s i b ef:=by rw[h7];exact XI.new _ _ _ _
 obtain⟨eM,_,c1,u,c3,aa⟩:=(h.later cl).cells;obtain⟨g,cap,q,rfl,hg,At,ax⟩:=aa.cell 0 Oe;rw[<-Xf t 0 Oe] at ax;have wC:(PZ t 0).count<=20000:=by
  rw[Xf t 0 Oe];have:=Ux t.kids 0 Oe;omega
 have ll:=cell_lt wx.c0;unfold Xg;have k':=hide (fun W=>Vf s i b t.tx W);have fK:Hid (∀ W,Oo ef W->Oq 78 #[N7 q,Om false] W fun e w'=>(∃ u,e=OA u/\Q5 W.heap.size w' u (namesT (PZ t 0) false))/\Oo W w'):=fun W a6=>ZX (PZ t 0) q false W (ax.later a6) wC;have nF:Hid ((namesT (PZ t 0) false).length<=90000):=by
  have h0:(PZ t 0).count=1+Tr.counts (PZ t 0).kids:=by cases (PZ t 0) with|mk kd tx gB ks=>exact count_mk _ _ _ _
  have h1:=Ti (PZ t 0).kids;have U:=Zl ([]++(TN (PZ t 0)).map Tr.tx++(OZ (PZ t 0)).map Tr.tx);have av:=aa6 (PZ t 0);have aN:=Tf (PZ t 0)
  show (namesT (PZ t 0) false).length<=_
  unfold namesT;simp only[Bool.false_eq_true,if_false];simp only[List.length_append,List.length_map,List.length_nil] at U;omega
 generalize namesT (PZ t 0) false=uK at fK nF
 generalize t.tx=tx at c1 k'
 generalize t.kids.length=L at c3 E cI
 generalize nmE s tx=er at k'
 have⟨r,bV⟩:=xH (hasB uK tx);rw[<-bV.out];clear h gP ai wC;go_enter func193,ntmps193;go_wp2_with fail;rw[<-h7];have ae:Oo ef ef.drew:=QI.drew;refine wp_region_held (S:=fun X=>Oo ef X) Pe ?_;change wpAnyH _ _ _ _ _ _ _ _ (World.drew _);refine wh 0 (N7 p) ae ?_;refine wh 1 (N7 p) ae ?_;refine wh 2 (Oy p 1) ae ?_;refine wh 3 (Oj tx) ae ?_ (hy:=Or.inl ⟨by kernel_rfl,fun X ak=>by have hh:=OT ak c1;go_simp⟩)
 refine wh 4 (XP s i b) ae ?_ (hy:=Or.inl ⟨by kernel_rfl,fun X ak=>by
  have hh:=XI.later wx ak;have h0:=hh.c0;have h1:=hh.c1;have U:=hh.c2;clear hh;go_simp⟩)
 refine XL 5 fun K D=>?_;go_simp;refine cm (k'.out _) ?_;rintro e w2 ⟨rfl,aE⟩;rw[<-h7] at aE;have f6:Oo ef w2:=ae.trans (aE.mono Pg);refine D.out _ _ f6 (fun _=>?_);clear D K;refine wh 6 (Ve er) f6 ?_;refine wpAnyH_done Pe ?_ _;go_simp
 cases er with
 | some e=>
  unfold Ve;go_wp2;go_ret;exact⟨rfl,cl.trans (f6.mono cl.size)⟩
 | none=>
  unfold Ve;have d8:=OT f6 c1;have jM:=OT f6 c3;have C5:=OT f6 At;have hpl2:p<w2.heap.size:=cell_lt d8;have AA:g<w2.heap.size:=cell_lt C5;have hL0':¬ L=0:=Oe;go_wp2_with fail;have ae:Oo w2 w2.drew:=QI.drew;refine wp_region_held (S:=fun X=>Oo w2 X) Pe ?_;change wpAnyH _ _ _ _ _ _ _ _ (World.drew _);refine wh 0 (N7 p) ae ?_;refine wh 1 (N7 p) ae ?_;refine wh 2 (Oy p 3) ae ?_;refine wh 3 (.slice (some (N9 g 0)) L cap) ae ?_ (hy:=Or.inl ⟨by kernel_rfl,fun X ak=>by have hh:=OT ak jM;go_simp⟩)
  refine wh 4 (Oy g 0) ae ?_ (hy:=Or.inl ⟨by kernel_rfl,fun X ak=>by have L2:=hL0';go_simp⟩)
  refine wh 5 (N7 q) ae ?_ (hy:=Or.inl ⟨by kernel_rfl,fun X ak=>by have hh:=OT ak C5;go_simp⟩)
  refine wh 7 (N7 p) ae ?_;refine wh 8 (N7 p) ae ?_;refine wh 9 (Oy p 1) ae ?_;refine wh 10 (Oj tx) ae ?_ (hy:=Or.inl ⟨by kernel_rfl,fun X ak=>by have hh:=OT ak d8;go_simp⟩)
  refine XL 6 fun K D=>?_;go_simp;refine cm (fK.out _ (f6.trans (ae.mono f6.size))) ?_;rintro e aq ⟨⟨ka,rfl,iH⟩,bn⟩;obtain⟨a3,La,rfl⟩:=OG iH;have sN:Oo w2 aq:=ae.trans (bn.mono Pg);refine D.out _ _ sN (fun _=>?_);clear D K;have aj:=(VL uK tx _ aq iH (by have:=NZ nF;omega))
  rw[<-bV.out] at aj;refine XL 11 fun K D=>?_;go_simp;refine cm aj ?_;rintro e bD ⟨rfl,rfl⟩;refine D.out _ _ sN (fun _=>?_);clear D K;refine wpAnyH_done Pe ?_ _;go_simp;have kO:=(f6.trans (sN.mono f6.size))
  cases r <;>
  ·go_wp2;go_ret;exact⟨rfl,cl.trans (kO.mono cl.size)⟩),G);exact zsw
def TP (f:Nat->Option Int):Nat->Option Int
 | 0=>none
 | n+1=>match TP f n with
  | some e=>some e
  | none=>f n
def abq {f:Nat->Option Int}{k:Nat}{e:Int}(h:TP f k=none)(aF:f k=some e):∀ n,k<n->TP f n=some e
 | 0,ax=>absurd ax Oe
 | n+1,ax=>by
  rw[TP]
  rcases Nat.lt_or_ge k n with h1|h1
  ·rw[abq h aF n h1]
  ·have:k=n:=Oe;subst this;rw[h];exact aF
def XT {f:Nat->Option Int}{k:Nat}(h:TP f k=none)(aF:f k=none):TP f (k+1)=none:=by rw[TP,h];exact aF
def U7 (s:Bool)(ps:List Tr)(i:Nat):Option Int:=match nmE s (acY ps i) with
 | some e=>some e
 | none=>if s&&TM (ps.take i) (acY ps i) then some 9 else none
def anI (s:Bool)(ps:List Tr):Option Int:=TP (U7 s ps) ps.length
def letE (t:Tr):Bool:=(OZ (PZ t 1)).any fun k=>TM (PZ t 0).kids k.tx
def fnE (t:Tr)(s:Bool):Option Int:=match nmE s t.tx with
 | some e=>some e
 | none=>match anI s (PZ t 0).kids with
  | some e=>some e
  | none=>if letE t then some 9 else none
def alB {B:Nat}{w:Og}{v:Ot}{ap:List Tr}(h:Uo B w v ap)(ax:0<ap.length):∃ g cap,v=.slice (some (N9 g 0)) ap.length cap/\(ap.length:Int)<=(cap:Int)/\cap<=maxLen:=by
 obtain⟨ps,aO,fo⟩:=h;have eM:=VT.length _ _ fo
 rcases aO.2 with IY|⟨g,cap,ck,am,_,_,ai,aR,_⟩
 ·omega
 ·exact⟨g,cap,by rw[am,eM],by omega,aR⟩
structure arL (t:Tr)(p xM xN:Nat)(s i b:Bool)(w:Og):Prop where
 nt:Ug w t p
 cN:w.cell? (N9 xM 0)=some (N7 p)
 pl:XI xN s i b w
def arL.later {t:Tr}{p xM xN:Nat}{s i b:Bool}{w X:Og}(h:arL t p xM xN s i b w)(A:Oo w X):arL t p xM xN s i b X:=⟨h.nt.later A,OT A h.cN,h.pl.later A⟩
def Zm (t:Tr)(p:Nat)(s i b:Bool)(w:Og)(h:Ug w t p)(E:2<=t.kids.length)(ai:t.count<=20000):Oq 191 #[N7 p,XP s i b] w fun e w'=>e=OA (Ve (fnE t s))/\Oo w w':=by
 have z:=N8 (∀{G}(h:G:=by
 have AI:∀ j,j<t.kids.length->(PZ t j).kids.length<=20000:=fun j aS=>by
  rw[Xf t j aS];have h1:=Ux t.kids j aS;have U:(t.kids[j]).count=1+Tr.counts (t.kids[j]).kids:=by cases t.kids[j] with|mk kd tx gB ks=>exact count_mk _ _ _ _
  have av:=Ti (t.kids[j]).kids;omega
 have xZ:=AI 0 Oe;have v6:=AI 1 Oe;have⟨ek,il⟩:=xE ((w.alloc (.cells #[N7 p] 22)).alloc (.cells #[Om s,Om i,Om b] 112));have hI:Oo w ek:=by rw[il];exact PE.alloc OW _
 have sL:arL t p w.heap.size (w.heap.size+1) s i b ek:=by
  refine⟨h.later hI,?_,?_⟩
  ·have h1:ek.heap[w.heap.size]? = some (OM #[N7 p] 22):=by rw[il,Below.heap_alloc _ _ _ OW,Oi]
   rw[cell_of h1];rfl
  ·have h1:=XI.new (w.alloc (.cells #[N7 p] 22)) s i b;rw[il];simpa using h1
 have fL:Hid (∀ W,Oo ek W->Oq 249 #[N7 p] W fun e w'=>(∃ u,e=OA u/\Uo 0 W u (PZ t 0).kids)/\w'=W):=fun W a6=>aaB t p W (sL.later a6).nt Oe Oe;have k':Hid (∀ x W,Oq 192 #[Oj x,XP s i b] W fun e w'=>e=OA (Ve (nmE s x))/\Oo W w'):=fun x W=>Vf s i b x W;have lI:Hid (∀ W,Oo ek W->Oq 103 #[N7 p] W fun e w'=>(∃ q,e=OA (N7 q)/\Ug W (PZ t 1) q)/\w'=W):=fun W a6=>abm t p W (sL.later a6).nt E Oe
 have bW:Hid (∀ q W,Ug W (PZ t 1) q->Oq 77 #[N7 q] W fun e w'=>(∃ u,e=OA u/\Uo W.heap.size w' u (OZ (PZ t 1)))/\Oo W w'):=fun q W ag=>abo _ q W ag Oe;have jE:Hid (∀ v W B,Oo ek W->Uo B W v (OZ (PZ t 1))->Oq 248 #[v,.func (.func 250) #[] #[Oy w.heap.size 0]] W fun e w'=>e=OA (Om (letE t))/\Oo W w'):=fun v W B a6 am=>
  VW 250 _ (fun k=>TM (PZ t 0).kids k.tx) avo _ v W am (by have:=Tf (PZ t 1);omega) (fun k _ cu X ak ax=>alz k t cu w.heap.size p X ax ((sL.later a6).later ak).cN ((sL.later a6).later ak).nt Oe Oe Oe)
 obtain⟨_,_,c1,_⟩:=sL.nt.cells;unfold fnE;have⟨w5,gO⟩:=xE (anI s (PZ t 0).kids);rw[<-gO];have zm:Hid (∀ n e,n<(PZ t 0).kids.length->TP (U7 s (PZ t 0).kids) n=none->U7 s (PZ t 0).kids n=some e->w5=some e):=fun n e ax h1 U=>by rw[gO];exact abq h1 U _ ax
 have Cu:Hid (TP (U7 s (PZ t 0).kids) (PZ t 0).kids.length=none->w5=none):=fun h1=>by rw[gO];exact h1
 generalize letE t=le at jE
 generalize OZ (PZ t 1)=Nc at bW jE
 generalize (PZ t 0).kids=P at fL zm Cu xZ
 generalize t.tx=tx at c1
 have C1:=sL.cN;have eM:=sL.pl;clear h E ai gP cI AI v6 gO;have Cm:=hide (k' tx)
 generalize H5:nmE s tx=aI at Cm
 clear H5;have mU:=hide C1;have e9:=hide c1;have qd:=eM;clear C1 c1 eM;go_enter func191,ntmps191;go_wp2_with fail;rw[<-il];have ae:Oo ek ek.drew:=QI.drew;have eM:=cell_lt e9.out;refine wp_region_held (S:=fun X=>Oo ek X) Pe ?_;change wpAnyH _ _ _ _ _ _ _ _ (World.drew _);refine wh 0 (N7 p) ae ?_ (hy:=Or.inl ⟨by kernel_rfl,fun X ak=>by have hh:=OT ak mU.out;go_simp⟩)
 refine wh 1 (N7 p) ae ?_;refine wh 2 (Oy p 1) ae ?_;refine wh 3 (Oj tx) ae ?_ (hy:=Or.inl ⟨by kernel_rfl,fun X ak=>by have hh:=OT ak e9.out;go_simp⟩)
 refine wh 4 (XP s i b) ae ?_ (hy:=Or.inl ⟨by kernel_rfl,fun X ak=>by
  have hh:=XI.later qd ak;have h0:=hh.c0;have h1:=hh.c1;have U:=hh.c2;clear hh;go_simp⟩)
 refine XL 5 fun K D=>?_;go_simp;refine cm (Cm.out _) ?_;rintro e w2 ⟨rfl,aE⟩;rw[<-il] at aE;have f6:Oo ek w2:=ae.trans (aE.mono Pg);refine D.out _ _ f6 (fun _=>?_);clear D K;refine wh 6 (Ve aI) f6 ?_;refine wpAnyH_done Pe ?_ _;go_simp
 cases aI with
 | some e=>
  unfold Ve;go_wp2;go_ret;exact⟨rfl,hI.trans (f6.mono hI.size)⟩
 | none=>
  unfold Ve;have gH:=OT f6 mU.out;have na:=cell_lt gH;have aj:=(NZ fL w2 f6);go_wp2_with fail;refine cm aj ?_;rintro e aq ⟨⟨u,rfl,aa⟩,rfl⟩;obtain⟨va,du,rfl⟩:=aa.form;have dy:=aa;clear aa gH na;go_wp2_with fail
  go_loopw [22] (fun j wr=>∃ k:Nat,k<=P.length/\j=NY k/\TP (U7 s P) k=none/\Oo aq wr) (fun j _=>P.length - (intOf j).toNat)
  case atStart=>exact⟨0,Nat.zero_le _,rfl,rfl,QI⟩
  case round=>
   obtain⟨k,E,rfl,fo,A⟩:=hrel;have fK:=hide fo;clear fo;have lJ:=(f6.trans (A.mono f6.size))
   by_cases aM:k<P.length
   ·obtain⟨g,cap,q,am,hg,ai,ax⟩:=(dy.later A).cell k aM;simp only[Value.slice.injEq] at am;obtain⟨rfl,_,rfl⟩:=am;have hK:(k:Int)<(P.length:Int):=Oe;obtain⟨ds,_,cx,_⟩:=ax.cells;rw[<-aj9 P k aM] at cx;have mi:Hid (U7 s P k=(match nmE s (acY P k) with|some e=>some e|none=>if s&&TM (P.take k) (acY P k) then some 9 else none)):=rfl
    generalize acY P k=x at cx mi
    have nJ:=hide (NZ k' x)
    generalize nmE s x=ex at nJ mi
    have Gu:=(XI.later qd lJ);have tz:=hide cx;clear ax;go_wp2_with fail;have ae:Oo wr wr.drew:=QI.drew;refine wp_region_held (S:=fun X=>Oo wr X) Pe ?_;change wpAnyH _ _ _ _ _ _ _ _ (World.drew _);refine wh 0 (N7 q) ae ?_;refine wh 1 (N7 q) ae ?_;refine wh 2 (Oy q 1) ae ?_;refine wh 3 (Oj x) ae ?_ (hy:=Or.inl ⟨by kernel_rfl,fun X ak=>by have hh:=OT ak tz.out;go_simp⟩)
    refine wh 4 (XP s i b) ae ?_ (hy:=Or.inl ⟨by kernel_rfl,fun X ak=>by
  have hh:=XI.later Gu ak;have h0:=hh.c0;have h1:=hh.c1;have U:=hh.c2;clear hh;go_simp⟩)
    refine XL 5 fun K D=>?_;go_simp;refine cm (nJ.out _) ?_;rintro e bD ⟨rfl,dc⟩;have v8:Oo wr bD:=ae.trans (dc.mono Pg);refine D.out _ _ v8 (fun _=>?_);clear D K;refine wh 6 (Ve ex) v8 ?_;refine wpAnyH_done Pe ?_ _;go_simp;have lf:=(A.trans (v8.mono A.size));have m4:=(lJ.trans (v8.mono lJ.size));have uZ:=hide (OT v8 tz.out);clear cx ds ai hg
    cases ex with
    | some e=>
     have s0:w5=some e:=NZ zm k e aM fK.out mi.out;subst s0;unfold Ve;go_wp2;go_ret;exact⟨rfl,hI.trans (m4.mono hI.size)⟩
    | none=>
     unfold Ve;have zn:=(XI.later qd m4);have Mc:=cell_lt zn.c0;have ae:Oo bD bD.drew:=QI.drew
     cases s with
     | false=>
      have xz:Hid (U7 false P k=none):=NZ mi;go_wp2_with fail;refine wp_region_held (S:=fun X=>Oo bD X) Pe ?_;change wpAnyH _ _ _ _ _ _ _ _ (World.drew _);refine wh 0 (Oy (w.heap.size+1) 0) ae ?_;refine wh 1 (Om false) ae ?_ (hy:=Or.inl ⟨by kernel_rfl,fun X ak=>by have hh:=OT ak zn.c0;go_simp⟩)
      refine wh 2 (Om false) ae ?_;refine wh 3 undef ae ?_ (hy:=Or.inr ⟨by kernel_rfl,rfl⟩);refine wh 5 undef ae ?_ (hy:=Or.inr ⟨by kernel_rfl,rfl⟩);refine wh 7 undef ae ?_ (hy:=Or.inr ⟨by kernel_rfl,rfl⟩);refine wh 8 undef ae ?_ (hy:=Or.inr ⟨by kernel_rfl,rfl⟩);refine wh 9 undef ae ?_ (hy:=Or.inr ⟨by kernel_rfl,rfl⟩);refine wh 10 undef ae ?_ (hy:=Or.inr ⟨by kernel_rfl,rfl⟩);refine XL 4 fun K D=>?_;go_simp;refine D.out _ _ ae (fun _=>?_);clear D K;refine wh 6 undef ae ?_ (hy:=Or.inr ⟨by kernel_rfl,rfl⟩);refine XL 11 fun K D=>?_;go_simp
      refine D.out _ _ ae (fun _=>?_);clear D K;refine wh 12 (Om false) ae ?_;refine wpAnyH_done Pe ?_ _;go_simp;go_wp2
      go_roundw
      case rel=>exact⟨k+1,by omega,by go_num,XT fK.out xz.out,lf.drew⟩
      case measure=>simp[intOf];omega
     | true=>
      have Gr:=(NZ fL bD.drew m4.drew);have BY:=hide (OT m4 mU.out);have Ma:=cell_lt BY.out;have uA:=cell_lt uZ.out;have⟨r,aa⟩:=xE (TM (P.take k) x);have xz:Hid (U7 true P k=if r then some 9 else none):=by rw[aa];exact NZ mi
      have jb:=hide aa;clear aa;go_wp2_with fail;refine wp_region_held (S:=fun X=>Oo bD X) Pe ?_;change wpAnyH _ _ _ _ _ _ _ _ (World.drew _);refine wh 0 (Oy (w.heap.size+1) 0) ae ?_;refine wh 1 (Om true) ae ?_ (hy:=Or.inl ⟨by kernel_rfl,fun X ak=>by have hh:=OT ak zn.c0;go_simp⟩)
      refine wh 2 (Om true) ae ?_;refine wh 3 (N7 p) ae ?_ (hy:=Or.inl ⟨by kernel_rfl,fun X ak=>by have hh:=OT ak BY.out;go_simp⟩)
      refine wh 5 (NY k) ae ?_;refine wh 7 (N7 q) ae ?_;refine wh 8 (N7 q) ae ?_;refine wh 9 (Oy q 1) ae ?_;refine wh 10 (Oj x) ae ?_ (hy:=Or.inl ⟨by kernel_rfl,fun X ak=>by have hh:=OT ak uZ.out;go_simp⟩)
      refine XL 4 fun K D=>?_;go_simp;refine cm Gr ?_;rintro e ce ⟨⟨xe,rfl,pR⟩,rfl⟩;obtain⟨xT,c5,rfl,hcap,L'⟩:=alB pR Oe;refine D.out _ _ ae (fun _=>?_);clear D K;have BV:=(Ym (P.take k) _ x bD.drew (pR.take k Oe) (by rw[List.length_take];omega))
      rw[<-jb.out] at BV;have pN:(k:Int)<=(c5:Int):=Oe;refine wh 6 (.slice (some (N9 xT 0)) k c5) ae ?_;refine XL 11 fun K D=>?_;go_simp;refine cm BV ?_;rintro e ch ⟨rfl,fh⟩;have x0:Oo bD ch:=ae.trans (fh.mono Pg);refine D.out _ _ x0 (fun _=>?_);clear D K;refine wh 12 (Om r) x0 ?_;refine wpAnyH_done Pe ?_ _;go_simp;have zu:=(lf.trans (x0.mono lf.size));have pt:=(m4.trans (x0.mono m4.size))
      cases r with
      | true=>
       have s0:w5=some 9:=NZ zm k 9 aM fK.out xz.out;subst s0;go_wp2;go_ret;exact⟨rfl,hI.trans (pt.mono hI.size)⟩
      | false=>
       go_wp2
       go_roundw
       case rel=>exact⟨k+1,by omega,by go_num,XT fK.out xz.out,zu⟩
       case measure=>simp[intOf];omega
   ·have cL:k=P.length:=Oe;subst cL;have I6:w5=none:=NZ Cu fK.out;subst I6;have gH:=OT lJ mU.out;have na:=cell_lt gH;have aj:=(NZ lI wr lJ);go_wp2_with fail;refine cm aj ?_;rintro e bD ⟨⟨q,rfl,ag⟩,rfl⟩;have hq:=(NZ bW q bD ag);go_wp2_with fail;refine cm hq ?_;rintro e ce ⟨⟨xe,rfl,pR⟩,fm⟩;obtain⟨la,fy,rfl⟩:=pR.form;have iu:=(lJ.trans (fm.mono lJ.size));have ez:=(NZ jE _ ce _ iu pR)
    cases le <;>
    ·go_wp2_with fail;refine cm ez ?_;rintro e ch ⟨rfl,fh⟩;have ny:=(iu.trans (fh.mono iu.size));go_wp2;go_ret;exact⟨rfl,hI.trans (ny.mono hI.size)⟩),G);exact zsw
