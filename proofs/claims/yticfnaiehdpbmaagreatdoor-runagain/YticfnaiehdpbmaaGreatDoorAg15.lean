import Derived.Test.YticfnaiehdpbmaaGreatDoorAg10
import Derived.Deep.MidRow
import Derived.Laws.AppendOwnNone
set_option maxRecDepth 100000
set_option maxHeartbeats 8000000
set_option linter.unusedVariables false
namespace Go.Proofs.YticfnaiehdpbmaaGreatDoor
open Go.RowKit Go.Proofs.Tryz
theorem bind_assoc {α β γ:Type}(r:PR α)(f:α->Nat->PR β)(g:β->Nat->PR γ):(r.bind f).bind g=r.bind fun x i=>(f x i).bind g:=by cases r <;> rfl
theorem aEQ {c:Ctx}{F:Rq}(ak:FC c F)(hN:∃ k,FNx c.l k F)(w:Ny)(d i i0:Nat)(h:OU c w i d)(aV:OD c.l ZL i=.ok () i0)(er:Int)(p:Nat)(D:Pj c.l F d i0=.bad er p):NK 154 #[Ov c] w (Pm c w d (NV w.heap.size) (.bad er p)):=by
 have z:=kk (∀{G}(h:G:=by
 have wS:=(fA.next aw);have ah:=(Qc ak hN ea d i0 _ rfl (by rw[D];nofun) a8)
 rw[D] at ah;have z:=kk (∀{G}(h:G:=by
 exact⟨rfl,Pn rfl (wS.next aw)⟩),G);exact WE),G);exact aB7
section
variable {c:Ctx} {F:Rq} (ak:FC c F) (hN:∃ k,FNx c.l k F) (w:Ny) (d i i0:Nat) (h:OU c w i d) (aV:OD c.l ZL i=.ok () i0) (b:Tr) (a7:Nat) (D:Pj c.l F d i0=.ok b a7)
include c F ak hN w d i i0 h aV b a7 D
theorem arw (ai:fx c.l a7≠Uy)(aG:fx c.l a7≠QG):NK 154 #[Ov c] w (Pm c w d (NV w.heap.size) (.bad 3 (Ox c.l a7).pl)):=by
 have z:=kk (∀{G}(h:G:=by
 have bP:=kk (∀{G}(h:G:=by
 have bP:=kk (∀{G}(h:G:=by
 obtain⟨cO,cP,c'⟩:=made a8 rG (NT.cons rm NT.nil) (by simp[maxLen]) #[Nu bc] rfl 1 rfl 12 NC (fq.heap.size+1) rfl;have bP:=kk (∀{G}(h:G:=by
 have z:=kk (∀{G}(h:G:=by
 rw[<-iq] at ek cP c';rw[<-iG] at ek;have z:=kk (∀{G}(h:G:=by
 have z:=kk (∀{G}(h:G:=by
 have ah:=(RH c QG aD a7 d fN aG);go_wp2_with fail;refine cm ah ?_;rintro e dM ⟨rfl,D⟩;have jY:=(fN.later D);have jw:=(e0.next (Ap.of D));replace ek:=hide (Open.later ek (Ap.of D) bS.out);clear D;have z:=kk (∀{G}(h:G:=by
 rw[jA.out] at lL;have ah:=(TY c 3 dM a7 d jY);go_wp2_with fail;refine cm ah ?_;rintro e k1 ⟨rfl,nG⟩;exact⟨rfl,Pn rfl (jw.next (Ap.of nG))⟩),G);exact anX),G);exact aCi),G);exact aqY),G);exact aqW),G);exact ztu),G);exact ztv),G);exact aBI),G);exact aB7
theorem av6 (ai:fx c.l a7≠Uy)(aG:fx c.l a7=QG)(b2:Tr)(i2:Nat)(aE:Pj c.l F d (a7+1)=.ok b2 i2):NK 154 #[Ov c] w (Pm c w d (NV w.heap.size) (.ok (.mk 12 NC 0 [b,.mk 14 NC 0 [b2]]) i2)):=by
 have z:=kk (∀{G}(h:G:=by
 have cg:=ek;have jE:=cP;have j8:=c';have z:=kk (∀{G}(h:G:=by
 rw[<-iq] at cg jE j8;rw[<-iG] at cg;have z:=kk (∀{G}(h:G:=by
 have ah:=(RH c Uy e9 a7 d jE ai);go_wp2_with fail;refine cm ah ?_;rintro e aD ⟨rfl,D⟩;have fN:=(jE.later D);have e0:=(j8.next (Ap.of D));replace cg:=(Open.later cg (Ap.of D) bS.out);clear D;have ah:=(QU c QG aD a7 d fN aG NH);go_wp2_with fail;refine cm ah ?_;rintro e dM ⟨rfl,a8,aw⟩;have jY:=a8;have jw:=(e0.next aw);replace cg:=(Open.later cg (aw) bS.out);have jx:=(Qc ak hN dM.drew d (a7+1) _ rfl (by rw[aE];nofun) jY.drew)
 rw[aE] at jx;have z:=kk (∀{G}(h:G:=by
 go_wp2_with fail;refine abh (H:=fun aD cw=>Ap c.R dM.heap.size dM aD/\OU c aD i2 d/\O7 (From dM.heap.size) aD b2 cw) (G:=?G1) (fun dI=>?_) ?_;rotate_left
 ·have z:=kk (∀{G}(h:G:=by
  refine wt 5 (Ov c) ?_;refine wr2 4 6 (fun K A=>?_) fun K A=>?_
  ·have z:=kk (∀{G}(h:G:=by
   have z:=kk (∀{G}(h:G:=by
   have dt:=((Ap.refl c.R dM.heap.size dM).drew).next aw;have kK:Hid (Ap c.R dM.heap.size dM aD/\OU c aD i2 d/\O7 (From dM.heap.size) aD b2 cw):=⟨dt,a8,ht⟩;exact aCK),G);exact akM),G);exact aq3
  ·go_simp;refine cm jx ?_;have z:=kk (∀{G}(h:G:=by
   have dt:=((Ap.refl c.R dM.heap.size dM).drew).next aw;have kK:Hid (Ap c.R dM.heap.size dM aD/\OU c aD i2 d/\O7 (From dM.heap.size) aD b2 cw):=⟨dt,a8,ht⟩;exact aCI),G);exact akM),G);exact Zo
 intro aD cw cB;obtain⟨dt,a8,ht⟩:=cB;have e0:=(jw.next dt);have fN:=a8;have eC:=(Open.later cg dt bS.out);obtain⟨gs,gt,hF⟩:=eC.cell;have pm:aW<aD.heap.size+1:=Nw;have pn:aW<aD.heap.size+1+1:=Nw;obtain⟨bT,cY,hx⟩:=made (w:=dM) fN dt (NT.cons ht NT.nil) (by simp[maxLen]) #[Nu cw] rfl 1 rfl 14 NC (aD.heap.size+1) rfl;have dX:NJ aD ((aD.alloc (.cells #[Nu cw] 22)).alloc (OA 14 NC 0 (.slice (some (Nv aD.heap.size 0)) 1 1))):=OM.alloc Oq _
 obtain⟨wd,e7⟩:=xE ((aD.alloc (.cells #[Nu cw] 22)).alloc (OA 14 NC 0 (.slice (some (Nv aD.heap.size 0)) 1 1)));have ag:(aD.alloc (.cells #[Nu cw] 22)).heap.size=aD.heap.size+1:=by simp
 obtain⟨q,iH⟩:=xE (aD.heap.size+1);obtain⟨ia,mp,io⟩:=bT.nv;have gK:ia=aD.heap.size+1:=by simpa[Nu] using mp.symm
 subst gK;have gM:wd.heap.size=q+1:=by rw[e7,iH];simp
 rw[<-e7] at io cY hx dX
 try rw[ag]
 rw[<-iH] at io
 try rw[<-iH]
 try rw[<-e7]
 have ih:=(Open.later eC (Ap.of dX) bS.out);have jT:=(e0.next (Ap.of dX));have p3:=(Open.apart cg jw.size hx bS.out (NT.cons io NT.nil));obtain⟨md,me,pj⟩:=ih.cell;clear mp e7 iH ag gs gt hF pm pn;have hlen:=NT.length _ _ ih.kids;have hown:=ih.row;rw[hlen] at hown;have c9:=jT.size;have cJ:t0.kids.length<=3:=by rw[jA.out];decide
 clear hlen;refine P6 10 fun K A=>?_;refine step_append_lies _ rfl _ _ 38 rfl w.heap.size 22 ud Qb 1 8 underlying38 d2 dH b6 cq rfl NH _ _ _ rfl (hown.alloc _) (Nv (q+1) 0) 1 1 [Nu q] rfl rfl (QE wd q _ gM) (one_one q) NH (by unfold maxLen;omega) Nw Qa (wd.heap.size+1) Oq ?_
 clear gM;intro g cap ao hown3 eQ c7 _;refine A _ _ ?_;clear A K;have gz:=hide (XU ih p3 cY jT i1.out hown3 eQ c7);have gi:ao.cell? (Nv aW 3)=wd.cell? (Nv aW 3)/\ao.frozen? (Nv aW 3)=wd.frozen? (Nv aW 3):=by
  exact anM
 obtain⟨gI,gJ⟩:=gi;rw[md] at gI;rw[me 3] at gJ;clear c7;refine wt 11 (Nu aW) ?_;refine wt 12 (NM aW 3) ?_;refine P6 13 fun K A=>?_;go_simp;refine A _ _ ?_;clear A K gI gJ md me pj;refine wpAny_done OJ ?_ _;go_simp;obtain⟨cO,cP,c'⟩:=Ns gz;obtain⟨kw,eS⟩:∃ qI:Tr,qI=.mk t0.kd t0.tx t0.n (t0.kids++[.mk 14 NC 0 [b2]]):=⟨_,rfl⟩;rw[<-eS] at cO;have qR:Hid (kw.kids.length=t0.kids.length+1):=by
  show _=_
  rw[eS];simp[Tr.kids]
 have tm:=hide eS;obtain⟨pz,uz,yf,iR,hopz⟩:=cO.opens;have mq:pz=aW:=by simpa[Nu] using iR.symm
 rw[mq] at hopz;obtain⟨bB,eL⟩:=xE ((ao.setCell (Nv aW 3) (.slice (some (Nv g 0)) (t0.kids.length+1) cap)));rw[<-eL] at hopz cP c';rw[<-eL];have cg:=hopz;clear iR eL mq eS;obtain⟨lL,pA,dP⟩:=cg.cell;obtain⟨cT,uc,lQ⟩:=cg.shape;subst lQ;have e4:kw.kids.length=2:=by rw[qR.out,jA.out]
 rw[e4] at lL;clear e4;go_wp2_with fail;go_ret;have aH:=Ns pf;have av:=Ns tm;have nQ:=cg.ev.nv;rw[av,aH] at nQ;exact RG rfl nQ cP c'),G);exact anU),G);exact aqY),G);exact aqW),G);exact zsi
theorem ak2 (ai:fx c.l a7≠Uy)(aG:fx c.l a7=QG)(er:Int)(p:Nat)(aE:Pj c.l F d (a7+1)=.bad er p):NK 154 #[Ov c] w (Pm c w d (NV w.heap.size) (.bad er p)):=by
 have z:=kk (∀{G}(h:G:=by
 have z:=kk (∀{G}(h:G:=by
 rw[<-iq] at ek cP c';rw[<-iG] at ek;have z:=kk (∀{G}(h:G:=by
 have z:=kk (∀{G}(h:G:=by
 have ah:=(QU c QG aD a7 d fN aG NH);go_wp2_with fail;refine cm ah ?_;rintro e dM ⟨rfl,a8,aw⟩;have jw:=(e0.next aw);replace ek:=hide (Open.later ek (aw) bS.out);have jx:=(Qc ak hN dM.drew d (a7+1) _ rfl (by rw[aE];nofun) a8.drew)
 rw[aE] at jx;have z:=kk (∀{G}(h:G:=by
 go_wp2_with fail;have z:=kk (∀{G}(h:G:=by
 refine wt 5 (Ov c) ?_;refine wr2 4 6 (fun K A=>?_) fun K A=>?_
 ·have z:=kk (∀{G}(h:G:=by
  intro e aD al;obtain⟨rfl,aw⟩:=al;exact⟨rfl,Pn rfl (jw.drew.next aw)⟩),G);exact aq3
 ·go_simp;refine cm jx ?_;intro e aD al;obtain⟨rfl,aw⟩:=al;exact⟨rfl,Pn rfl (jw.drew.next aw)⟩),G);exact Zo),G);exact anX),G);exact aCi),G);exact aqY),G);exact aqW),G);exact zsi
theorem aaj (ai:fx c.l a7=Uy)(er:Int)(p:Nat)(ag:OD c.l Qi (a7+1)=.bad er p\/∃ i2,OD c.l Qi (a7+1)=.ok () i2/\(nameP c.l i2=.bad er p\/∃ s i3,nameP c.l i2=.ok s i3/\(OD c.l RJ i3=.bad er p\/∃ i4,OD c.l RJ i3=.ok () i4/\Pj c.l F d i4=.bad er p))):NK 154 #[Ov c] w (Pm c w d (NV w.heap.size) (.bad er p)):=by
 have bo:=hide ag;clear ag;have z:=kk (∀{G}(h:G:=by
 have z:=kk (∀{G}(h:G:=by
 rw[<-iq] at ek cP c';rw[<-iG] at ek;have z:=kk (∀{G}(h:G:=by
 have ah:=(QU c Uy e9 a7 d cP ai NH);go_wp2_with fail;refine cm ah ?_;rintro e aD ⟨rfl,a8,aw⟩;have fN:=a8;have e0:=(c'.next aw);replace ek:=hide (Open.later ek (aw) bS.out);have ah:=(Oz c Qi aD (a7+1) d fN NH)
 rcases bo.out with O|⟨i2,O,ag⟩
 ·rw[O] at ah;have z:=kk (∀{G}(h:G:=by
  exact⟨rfl,Pn rfl (e0.next aw)⟩),G);exact WE
 have bo:=hide ag;clear ag;rw[O] at ah;go_wp2_with fail;refine cm ah ?_;intro e wd al;obtain⟨⟨Km,rfl,rfl⟩,a8,aw⟩:=al;have oi:=a8;have jT:=(e0.next aw);replace ek:=hide (Open.later ek (aw) bS.out);have ah:=(name_any c wd i2 d oi)
 rcases bo.out with ax|⟨s,i3,ax,ag⟩
 ·rw[ax] at ah;have z:=kk (∀{G}(h:G:=by
  exact⟨rfl,Pn rfl (jT.next aw)⟩),G);exact WE
 have bo:=hide ag;clear ag;rw[ax] at ah;go_wp2_with fail;refine cm ah ?_;intro e BK al;obtain⟨⟨Kn,rfl,rfl⟩,a8,aw⟩:=al;have zd:=a8;have wT:=(jT.next aw);replace ek:=hide (Open.later ek (aw) bS.out);have ah:=(Oz c RJ BK i3 d zd NH)
 rcases bo.out with aU|⟨i4,aU,bN⟩
 ·rw[aU] at ah;have z:=kk (∀{G}(h:G:=by
  exact⟨rfl,Pn rfl (wT.next aw)⟩),G);exact WE
 rw[aU] at ah;go_wp2_with fail;refine cm ah ?_;intro e jS al;obtain⟨⟨Ko,rfl,rfl⟩,a8,aw⟩:=al;have qM:=(wT.next aw);replace ek:=hide (Open.later ek (aw) bS.out);have fL:=(Qc ak hN jS.drew d i4 _ rfl (by rw[bN];nofun) a8.drew)
 rw[bN] at fL;have z:=kk (∀{G}(h:G:=by
 go_wp2_with fail;have z:=kk (∀{G}(h:G:=by
 refine wt 5 (ND s) ?_;refine wt 6 (Ov c) ?_;refine wr2 4 7 (fun K A=>?_) fun K A=>?_
 ·go_simp;refine A _ _ ?_;clear A K;refine P6 7 fun K A=>?_;exact aBH
 ·exact aBH),G);exact Zo),G);exact anX),G);exact aqY),G);exact aqW),G);exact zsi
theorem aop (ai:fx c.l a7=Uy)(i2:Nat)(O:OD c.l Qi (a7+1)=.ok () i2)(s:NR)(i3:Nat)(ax:nameP c.l i2=.ok s i3)(i4:Nat)(aU:OD c.l RJ i3=.ok () i4)(b2:Tr)(i5:Nat)(bN:Pj c.l F d i4=.ok b2 i5)(aG:fx c.l i5≠QG):NK 154 #[Ov c] w (Pm c w d (NV w.heap.size) (.ok (.mk 12 NC 0 [b,.mk 13 s 0 [b2]]) i5)):=by
 have z:=kk (∀{G}(h:G:=by
 have z:=kk (∀{G}(h:G:=by
 refine abh (H:=fun aD cw=>Ap c.R jS.heap.size jS aD/\OU c aD i5 d/\O7 (From jS.heap.size) aD b2 cw) (G:=?G2) (fun dI=>?_) ?_;rotate_left
 ·exact avP
 intro aD cw cB;obtain⟨dt,a8,ht⟩:=cB;have e0:=(qM.next dt);have fN:=a8;have eC:=(Open.later cg dt bS.out);obtain⟨gs,gt,hF⟩:=eC.cell;have pm:aW<aD.heap.size+1:=Nw;have pn:aW<aD.heap.size+1+1:=Nw;obtain⟨bT,cY,hx⟩:=made (w:=jS) fN dt (NT.cons ht NT.nil) (by simp[maxLen]) #[Nu cw] rfl 1 rfl 13 s (aD.heap.size+1) rfl;have dX:NJ aD ((aD.alloc (.cells #[Nu cw] 22)).alloc (OA 13 s 0 (.slice (some (Nv aD.heap.size 0)) 1 1))):=OM.alloc Oq _
 obtain⟨wd,e7⟩:=xE ((aD.alloc (.cells #[Nu cw] 22)).alloc (OA 13 s 0 (.slice (some (Nv aD.heap.size 0)) 1 1)));have ag:(aD.alloc (.cells #[Nu cw] 22)).heap.size=aD.heap.size+1:=by simp
 obtain⟨q,iH⟩:=xE (aD.heap.size+1);obtain⟨ia,mp,io⟩:=bT.nv;have gK:ia=aD.heap.size+1:=by simpa[Nu] using mp.symm
 subst gK;have gM:wd.heap.size=q+1:=by rw[e7,iH];simp
 rw[<-e7] at io cY hx dX
 try rw[ag]
 rw[<-iH] at io
 try rw[<-iH]
 try rw[<-e7]
 have ih:=(Open.later eC (Ap.of dX) bS.out);have jT:=(e0.next (Ap.of dX));have oi:=cY;have p3:=(Open.apart cg qM.size hx bS.out (NT.cons io NT.nil));obtain⟨md,me,pj⟩:=ih.cell;clear mp e7 iH ag gs gt hF pm pn;have hlen:=NT.length _ _ ih.kids;have hown:=ih.row;rw[hlen] at hown;have c9:=jT.size;have cJ:t0.kids.length<=3:=by rw[jA.out];decide
 clear hlen;refine P6 11 fun K A=>?_;refine step_append_lies _ rfl _ _ 38 rfl w.heap.size 22 ud Qb 1 8 underlying38 d2 dH b6 cq rfl NH _ _ _ rfl (hown.alloc _) (Nv (q+1) 0) 1 1 [Nu q] rfl rfl (QE wd q _ gM) (one_one q) NH (by unfold maxLen;omega) Nw Qa (wd.heap.size+1) Oq ?_
 clear gM;intro g cap ao hown3 eQ c7 _;refine A _ _ ?_;clear A K;have gz:=hide (XU ih p3 oi jT i1.out hown3 eQ c7);have gi:ao.cell? (Nv aW 3)=wd.cell? (Nv aW 3)/\ao.frozen? (Nv aW 3)=wd.frozen? (Nv aW 3):=by
  exact anM
 obtain⟨gI,gJ⟩:=gi;rw[md] at gI;rw[me 3] at gJ;clear c7;refine wt 12 (Nu aW) ?_;refine wt 13 (NM aW 3) ?_;refine P6 14 fun K A=>?_;go_simp;refine A _ _ ?_;clear A K gI gJ md me pj;refine wpAny_done OJ ?_ _;go_simp;obtain⟨cO,cP,c'⟩:=Ns gz;obtain⟨kw,eS⟩:∃ qI:Tr,qI=.mk t0.kd t0.tx t0.n (t0.kids++[.mk 13 s 0 [b2]]):=⟨_,rfl⟩;rw[<-eS] at cO;have qR:Hid (kw.kids.length=t0.kids.length+1):=by
  show _=_
  rw[eS];simp[Tr.kids]
 have tm:=hide eS;obtain⟨pz,uz,yf,iR,hopz⟩:=cO.opens;have mq:pz=aW:=by simpa[Nu] using iR.symm
 rw[mq] at hopz;obtain⟨bB,eL⟩:=xE ((ao.setCell (Nv aW 3) (.slice (some (Nv g 0)) (t0.kids.length+1) cap)));rw[<-eL] at hopz cP c';rw[<-eL];have cg:=hopz;clear iR eL mq eS;have ah:=(RH c QG bB i5 d cP aG);go_wp2_with fail;refine cm ah ?_;rintro e wz ⟨rfl,D⟩;have ze:=(cP.later D);have rI:=(c'.next (Ap.of D));replace cg:=(Open.later cg (Ap.of D) bS.out);clear D;obtain⟨lL,pA,dP⟩:=cg.cell;obtain⟨cT,uc,lQ⟩:=cg.shape;subst lQ;have e4:kw.kids.length=2:=by rw[qR.out,jA.out]
 rw[e4] at lL;clear e4;go_wp2_with fail;go_ret;have aH:=Ns pf;have av:=Ns tm;have nQ:=cg.ev.nv;rw[av,aH] at nQ;exact RG rfl nQ ze rI),G);exact zsw),G);exact zsi
end
end Go.Proofs.YticfnaiehdpbmaaGreatDoor
