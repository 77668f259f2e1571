import Derived.Test.YticfnaiehdpbmaaGreatDoorAg10
import Derived.Deep.MidRow
import Derived.Laws.AppendOwnNone
set_option maxRecDepth 100000
set_option maxHeartbeats 8000000
set_option linter.unusedVariables false
namespace Go.Proofs.YticfnaiehdpbmaaGreatDoor
open Go.RowKit Go.Proofs.Tryz
theorem aER {c:Ctx}(w:Ny)(d i:Nat)(h:OU c w i d)(er:Int)(p:Nat)(aV:OD c.l ZL i=.bad er p):NK 154 #[Ov c] w (Pm c w d (NV w.heap.size) (.bad er p)):=by
 have fA:=(Ap.refl c.R w.heap.size w);go_enter func154,ntmps154;have ah:=(Oz c ZL w i d h NH);rw[aV] at ah;have z:=kk (∀{G}(h:G:=by
 exact⟨rfl,Pn rfl (fA.next aw)⟩),G);exact WE
section
variable {c:Ctx} {F:Rq} (ak:FC c F) (hN:∃ k,FNx c.l k F) (w:Ny) (d i i0:Nat) (h:OU c w i d) (aV:OD c.l ZL i=.ok () i0) (b:Tr) (a7:Nat) (D:Pj c.l F d i0=.ok b a7) (ai:fx c.l a7=Uy) (i2:Nat) (O:OD c.l Qi (a7+1)=.ok () i2) (s:NR) (i3:Nat) (ax:nameP c.l i2=.ok s i3) (i4:Nat) (aU:OD c.l RJ i3=.ok () i4) (b2:Tr) (i5:Nat) (bN:Pj c.l F d i4=.ok b2 i5) (aG:fx c.l i5=QG)
include c F ak hN w d i i0 h aV b a7 D ai i2 O s i3 ax i4 aU b2 i5 bN aG
theorem arx (em:Tr)(pM:Nat)(cA:Pj c.l F d (i5+1)=.ok em pM):NK 154 #[Ov c] w (Pm c w d (NV w.heap.size) (.ok (.mk 12 NC 0 [b,.mk 13 s 0 [b2],.mk 14 NC 0 [em]]) pM)):=by
 have z:=kk (∀{G}(h:G:=by
 have z:=kk (∀{G}(h:G:=by
 refine abh (H:=fun aD cw=>Ap c.R jS.heap.size jS aD/\OU c aD i5 d/\O7 (From jS.heap.size) aD b2 cw) (G:=?G3) (fun dI=>?_) ?_;rotate_left
 ·exact avP
 intro aD cw cB;obtain⟨dt,a8,ht⟩:=cB;have e0:=(qM.next dt);have yj:=dt;have fN:=a8;have eC:=(Open.later cg dt bS.out);have mM:=ht;obtain⟨gs,gt,hF⟩:=eC.cell;have pm:aW<aD.heap.size+1:=Nw;have pn:aW<aD.heap.size+1+1:=Nw;obtain⟨bT,cY,hx⟩:=made (w:=jS) fN yj (NT.cons mM NT.nil) (by simp[maxLen]) #[Nu cw] rfl 1 rfl 13 s (aD.heap.size+1) rfl;have dX:NJ aD ((aD.alloc (.cells #[Nu cw] 22)).alloc (OA 13 s 0 (.slice (some (Nv aD.heap.size 0)) 1 1))):=OM.alloc Oq _
 obtain⟨wd,e7⟩:=xE ((aD.alloc (.cells #[Nu cw] 22)).alloc (OA 13 s 0 (.slice (some (Nv aD.heap.size 0)) 1 1)));have ag:(aD.alloc (.cells #[Nu cw] 22)).heap.size=aD.heap.size+1:=by simp
 obtain⟨q,iH⟩:=xE (aD.heap.size+1);obtain⟨ia,mp,io⟩:=bT.nv;have gK:ia=aD.heap.size+1:=by simpa[Nu] using mp.symm
 subst gK;have gM:wd.heap.size=q+1:=by rw[e7,iH];simp
 rw[<-e7] at io cY hx dX
 try rw[ag]
 rw[<-iH] at io
 try rw[<-iH]
 try rw[<-e7]
 have ih:=(Open.later eC (Ap.of dX) bS.out);have jT:=(e0.next (Ap.of dX));have oi:=cY;have p3:=(Open.apart cg qM.size hx bS.out (NT.cons io NT.nil));obtain⟨md,me,pj⟩:=ih.cell;clear mp e7 iH ag gs gt hF pm pn;have hlen:=NT.length _ _ ih.kids;have hown:=ih.row;rw[hlen] at hown;have HOWN:=hown;have c9:=jT.size;have cJ:t0.kids.length<=3:=by rw[jA.out];decide
 clear hlen;refine P6 11 fun K A=>?_;refine step_append_lies _ rfl _ _ 38 rfl w.heap.size 22 ud Qb 1 8 underlying38 d2 dH b6 cq rfl NH _ _ _ rfl (HOWN.alloc _) (Nv (q+1) 0) 1 1 [Nu q] rfl rfl (QE wd q _ gM) (one_one q) NH (by unfold maxLen;omega) Nw Qa (wd.heap.size+1) Oq ?_
 clear gM;intro g cap ao hown3 eQ c7 _;refine A _ _ ?_;clear A K;have gz:=hide (XU ih p3 oi jT i1.out hown3 eQ c7);have gi:ao.cell? (Nv aW 3)=wd.cell? (Nv aW 3)/\ao.frozen? (Nv aW 3)=wd.frozen? (Nv aW 3):=by
  exact anM
 obtain⟨gI,gJ⟩:=gi;rw[md] at gI;rw[me 3] at gJ;clear c7;refine wt 12 (Nu aW) ?_;refine wt 13 (NM aW 3) ?_;refine P6 14 fun K A=>?_;go_simp;refine A _ _ ?_;clear A K gI gJ md me pj;refine wpAny_done OJ ?_ _;go_simp;obtain⟨cO,cP,c'⟩:=Ns gz;obtain⟨kw,eS⟩:∃ qI:Tr,qI=.mk t0.kd t0.tx t0.n (t0.kids++[.mk 13 s 0 [b2]]):=⟨_,rfl⟩;rw[<-eS] at cO;have qR:Hid (kw.kids.length=t0.kids.length+1):=by
  show _=_
  rw[eS];simp[Tr.kids]
 have tm:=hide eS;obtain⟨pz,uz,yf,iR,hopz⟩:=cO.opens;have mq:pz=aW:=by simpa[Nu] using iR.symm
 rw[mq] at hopz;obtain⟨bB,eL⟩:=xE ((ao.setCell (Nv aW 3) (.slice (some (Nv g 0)) (t0.kids.length+1) cap)));rw[<-eL] at hopz cP c';rw[<-eL];have cg:=hopz;have Gt:=cP;have E':=c';clear iR eL mq eS;have ah:=(QU c QG bB i5 d Gt aG NH);go_wp2_with fail;refine cm ah ?_;rintro e wz ⟨rfl,a8,aw⟩;have ze:=a8;have rI:=(E'.next aw);replace cg:=(Open.later cg (aw) bS.out);have Cd:Hid (kw.kids.length=2):=by
  show _=_
  rw[qR.out,jA.out]
 have jx:=(Qc ak hN wz.drew d (i5+1) _ rfl (by rw[cA];nofun) ze.drew)
 rw[cA] at jx;obtain⟨lL,pA,dP⟩:=cg.cell;obtain⟨cT,uc,lQ⟩:=cg.shape;subst lQ;go_wp2_with fail;refine abh (H:=fun aD cw=>Ap c.R wz.heap.size wz aD/\OU c aD pM d/\O7 (From wz.heap.size) aD em cw) (G:=?G4) (fun dI=>?_) ?_;rotate_left
 ·have z:=kk (∀{G}(h:G:=by
  refine wt 5 (Ov c) ?_;refine wr2 4 6 (fun K A=>?_) fun K A=>?_
  ·have z:=kk (∀{G}(h:G:=by
   have z:=kk (∀{G}(h:G:=by
   have dt:=((Ap.refl c.R wz.heap.size wz).drew).next aw;have kK:Hid (Ap c.R wz.heap.size wz aD/\OU c aD pM d/\O7 (From wz.heap.size) aD em cw):=⟨dt,a8,ht⟩;exact aCK),G);exact akM),G);exact aq3
  ·go_simp;refine cm jx ?_;have z:=kk (∀{G}(h:G:=by
   have dt:=((Ap.refl c.R wz.heap.size wz).drew).next aw;have kK:Hid (Ap c.R wz.heap.size wz aD/\OU c aD pM d/\O7 (From wz.heap.size) aD em cw):=⟨dt,a8,ht⟩;exact aCI),G);exact akM),G);exact Zo
 intro aD cw cB;obtain⟨dt,a8,ht⟩:=cB;have e0:=(rI.next dt);have yj:=dt;have fN:=a8;have eC:=(Open.later cg dt bS.out);have mM:=ht;obtain⟨gs,gt,hF⟩:=eC.cell;have pm:aW<aD.heap.size+1:=Nw;have pn:aW<aD.heap.size+1+1:=Nw;obtain⟨bT,cY,hx⟩:=made (w:=wz) fN yj (NT.cons mM NT.nil) (by simp[maxLen]) #[Nu cw] rfl 1 rfl 14 NC (aD.heap.size+1) rfl;have dX:NJ aD ((aD.alloc (.cells #[Nu cw] 22)).alloc (OA 14 NC 0 (.slice (some (Nv aD.heap.size 0)) 1 1))):=OM.alloc Oq _
 obtain⟨wd,e7⟩:=xE ((aD.alloc (.cells #[Nu cw] 22)).alloc (OA 14 NC 0 (.slice (some (Nv aD.heap.size 0)) 1 1)));have ag:(aD.alloc (.cells #[Nu cw] 22)).heap.size=aD.heap.size+1:=by simp
 obtain⟨q,iH⟩:=xE (aD.heap.size+1);obtain⟨ia,mp,io⟩:=bT.nv;have gK:ia=aD.heap.size+1:=by simpa[Nu] using mp.symm
 subst gK;have gM:wd.heap.size=q+1:=by rw[e7,iH];simp
 rw[<-e7] at io cY hx dX
 try rw[ag]
 rw[<-iH] at io
 try rw[<-iH]
 try rw[<-e7]
 have ih:=(Open.later eC (Ap.of dX) bS.out);have jT:=(e0.next (Ap.of dX));have oi:=cY;have p3:=(Open.apart cg rI.size hx bS.out (NT.cons io NT.nil));obtain⟨md,me,pj⟩:=ih.cell;clear mp e7 iH ag gs gt hF pm pn;have hlen:=NT.length _ _ ih.kids;have hown:=ih.row;rw[hlen] at hown;have HOWN:=hown;have c9:=jT.size;have cJ:kw.kids.length<=3:=by rw[Cd.out];decide
 clear hlen;refine P6 10 fun K A=>?_;refine step_append_lies _ rfl _ _ 38 rfl w.heap.size 22 ud Qb 1 8 underlying38 d2 dH b6 cq rfl NH _ _ _ rfl (HOWN.alloc _) (Nv (q+1) 0) 1 1 [Nu q] rfl rfl (QE wd q _ gM) (one_one q) NH (by unfold maxLen;omega) Nw Qa (wd.heap.size+1) Oq ?_
 clear gM;intro g cap ao hown3 eQ c7 _;refine A _ _ ?_;clear A K;have gz:=hide (XU ih p3 oi jT i1.out hown3 eQ c7);have gi:ao.cell? (Nv aW 3)=wd.cell? (Nv aW 3)/\ao.frozen? (Nv aW 3)=wd.frozen? (Nv aW 3):=by
  exact anM
 obtain⟨gI,gJ⟩:=gi;rw[md] at gI;rw[me 3] at gJ;clear c7;refine wt 11 (Nu aW) ?_;refine wt 12 (NM aW 3) ?_;refine P6 13 fun K A=>?_;go_simp;refine A _ _ ?_;clear A K gI gJ md me pj;refine wpAny_done OJ ?_ _;go_simp;obtain⟨cO,cP,c'⟩:=Ns gz;obtain⟨EY,eS⟩:∃ qI:Tr,qI=.mk kw.kd kw.tx kw.n (kw.kids++[.mk 14 NC 0 [em]]):=⟨_,rfl⟩;rw[<-eS] at cO;have FY:Hid (EY.kids.length=kw.kids.length+1):=by
  show _=_
  rw[eS];simp[Tr.kids]
 have GO:=hide eS;obtain⟨pz,uz,yf,iR,hopz⟩:=cO.opens;have mq:pz=aW:=by simpa[Nu] using iR.symm
 rw[mq] at hopz;obtain⟨bB,eL⟩:=xE ((ao.setCell (Nv aW 3) (.slice (some (Nv g 0)) (kw.kids.length+1) cap)));rw[<-eL] at hopz cP c';rw[<-eL];have cg:=hopz;clear iR eL mq eS;obtain⟨lL,pA,dP⟩:=cg.cell;obtain⟨cT,uc,lQ⟩:=cg.shape;subst lQ;have e4:EY.kids.length=3:=by rw[FY.out,qR.out,jA.out]
 rw[e4] at lL;clear e4;go_wp2_with fail;go_ret;have aH:=Ns pf;have av:=Ns tm;have bC:=Ns GO;have nQ:=cg.ev.nv;rw[bC,av,aH] at nQ;exact RG rfl nQ cP c'),G);exact zsw),G);exact zsi
theorem ah6 (er:Int)(p:Nat)(cA:Pj c.l F d (i5+1)=.bad er p):NK 154 #[Ov c] w (Pm c w d (NV w.heap.size) (.bad er p)):=by
 have z:=kk (∀{G}(h:G:=by
 have z:=kk (∀{G}(h:G:=by
 refine abh (H:=fun aD cw=>Ap c.R jS.heap.size jS aD/\OU c aD i5 d/\O7 (From jS.heap.size) aD b2 cw) (G:=?G5) (fun dI=>?_) ?_;rotate_left
 ·exact avP
 intro aD cw cB;obtain⟨dt,a8,ht⟩:=cB;have e0:=(qM.next dt);have fN:=a8;have eC:=(Open.later cg dt bS.out);obtain⟨gs,gt,hF⟩:=eC.cell;have pm:aW<aD.heap.size+1:=Nw;have pn:aW<aD.heap.size+1+1:=Nw;obtain⟨bT,cY,hx⟩:=made (w:=jS) fN dt (NT.cons ht NT.nil) (by simp[maxLen]) #[Nu cw] rfl 1 rfl 13 s (aD.heap.size+1) rfl;have dX:NJ aD ((aD.alloc (.cells #[Nu cw] 22)).alloc (OA 13 s 0 (.slice (some (Nv aD.heap.size 0)) 1 1))):=OM.alloc Oq _
 obtain⟨wd,e7⟩:=xE ((aD.alloc (.cells #[Nu cw] 22)).alloc (OA 13 s 0 (.slice (some (Nv aD.heap.size 0)) 1 1)));have ag:(aD.alloc (.cells #[Nu cw] 22)).heap.size=aD.heap.size+1:=by simp
 obtain⟨q,iH⟩:=xE (aD.heap.size+1);obtain⟨ia,mp,io⟩:=bT.nv;have gK:ia=aD.heap.size+1:=by simpa[Nu] using mp.symm
 subst gK;have gM:wd.heap.size=q+1:=by rw[e7,iH];simp
 rw[<-e7] at io cY hx dX
 try rw[ag]
 rw[<-iH] at io
 try rw[<-iH]
 try rw[<-e7]
 have ih:=(Open.later eC (Ap.of dX) bS.out);have jT:=(e0.next (Ap.of dX));have oi:=cY;have p3:=(Open.apart cg qM.size hx bS.out (NT.cons io NT.nil));obtain⟨md,me,pj⟩:=ih.cell;clear mp e7 iH ag gs gt hF pm pn;have hlen:=NT.length _ _ ih.kids;have hown:=ih.row;rw[hlen] at hown;have c9:=jT.size;have cJ:t0.kids.length<=3:=by rw[jA.out];decide
 clear hlen;refine P6 11 fun K A=>?_;refine step_append_lies _ rfl _ _ 38 rfl w.heap.size 22 ud Qb 1 8 underlying38 d2 dH b6 cq rfl NH _ _ _ rfl (hown.alloc _) (Nv (q+1) 0) 1 1 [Nu q] rfl rfl (QE wd q _ gM) (one_one q) NH (by unfold maxLen;omega) Nw Qa (wd.heap.size+1) Oq ?_
 clear gM;intro g cap ao hown3 eQ c7 _;refine A _ _ ?_;clear A K;have gz:=hide (XU ih p3 oi jT i1.out hown3 eQ c7);have gi:ao.cell? (Nv aW 3)=wd.cell? (Nv aW 3)/\ao.frozen? (Nv aW 3)=wd.frozen? (Nv aW 3):=by
  exact anM
 obtain⟨gI,gJ⟩:=gi;rw[md] at gI;rw[me 3] at gJ;clear c7;refine wt 12 (Nu aW) ?_;refine wt 13 (NM aW 3) ?_;refine P6 14 fun K A=>?_;go_simp;refine A _ _ ?_;clear A K gI gJ md me pj;refine wpAny_done OJ ?_ _;go_simp;obtain⟨cO,cP,c'⟩:=Ns gz;obtain⟨kw,eS⟩:∃ qI:Tr,qI=.mk t0.kd t0.tx t0.n (t0.kids++[.mk 13 s 0 [b2]]):=⟨_,rfl⟩;rw[<-eS] at cO;have qR:Hid (kw.kids.length=t0.kids.length+1):=by
  show _=_
  rw[eS];simp[Tr.kids]
 have tm:=hide eS;obtain⟨pz,uz,yf,iR,hopz⟩:=cO.opens;have mq:pz=aW:=by simpa[Nu] using iR.symm
 rw[mq] at hopz;obtain⟨bB,eL⟩:=xE ((ao.setCell (Nv aW 3) (.slice (some (Nv g 0)) (t0.kids.length+1) cap)));rw[<-eL] at hopz cP c';rw[<-eL];have cg:=hopz;clear iR eL mq eS;have ah:=(QU c QG bB i5 d cP aG NH);go_wp2_with fail;refine cm ah ?_;rintro e wz ⟨rfl,a8,aw⟩;have rI:=(c'.next aw);replace cg:=(Open.later cg (aw) bS.out);have Cd:Hid (kw.kids.length=2):=by
  show _=_
  rw[qR.out,jA.out]
 have jx:=(Qc ak hN wz.drew d (i5+1) _ rfl (by rw[cA];nofun) a8.drew)
 rw[cA] at jx;obtain⟨lL,pA,dP⟩:=cg.cell;obtain⟨cT,uc,lQ⟩:=cg.shape;subst lQ;go_wp2_with fail;refine wp_region_any OJ ?_;change wpAny _ _ _ _ _ _ _ (World.drew _);refine wt 0 (Nu aW) ?_;refine wt 1 (Nu aW) ?_;refine wt 2 (Nu aW) ?_;refine wt 3 (NM aW 3) ?_;refine wt 5 (Ov c) ?_;refine wr2 4 6 (fun K A=>?_) fun K A=>?_
 ·have z:=kk (∀{G}(h:G:=by
  intro e aD al;obtain⟨rfl,aw⟩:=al;exact⟨rfl,Pn rfl (rI.drew.next aw)⟩),G);exact aq3
 ·go_simp;refine cm jx ?_;intro e aD al;obtain⟨rfl,aw⟩:=al;exact⟨rfl,Pn rfl (rI.drew.next aw)⟩),G);exact zsw),G);exact zsi
end
end Go.Proofs.YticfnaiehdpbmaaGreatDoor
