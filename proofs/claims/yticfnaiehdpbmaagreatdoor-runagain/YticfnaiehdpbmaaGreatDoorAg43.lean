import Derived.Test.YticfnaiehdpbmaaGreatDoorAg42
set_option maxRecDepth 100000
set_option maxHeartbeats 8000000
set_option linter.unusedVariables false
namespace Go.Proofs.YticfnaiehdpbmaaGreatDoor
open Go.RowKit Go.Proofs.Tryz
namespace Hp
section
variable {w:Ny} {es:NP} {a:Ad}
theorem ahE:Sz 10 st3:=by
 obtain⟨n,aJ,aA⟩:=aiX.pz;have e:st3=base0:=rfl;rw[e];exact aJ.up (by have:base0.steps=0:=rfl;omega)
theorem au8:Sz 12 st4:=by
 have h1:Sz 11 ({ st3 with M:=st3.M.Oy 1 }:St):=ahE.heap (Nat.le_succ _) (ahE.go.Oy 1) rfl;exact h1.Qo 0 Tv (Rz st3.M.objs.length) false
theorem abg (h:QD (fun _=>True) w a)(hd:a.TG.Nodup)(ai:a.cnt<=90000)(au:w.cell? (Nv 1 0)=some es) :
  NK 27 #[Nu a.p] w fun e w'=>∃ w1 mb af az,e=NU (Nu mb)/\NJ w w1/\Bs w1 mb af a.TG es/\Mx w1 mb af a.TG PG PG az PG w' Qr:=
 adW h hd ai au (fun _ _ _ _ _ _ _ _ ac=>anp ac ahE NH Tv 1) (fun _ _ _ _ _ _ _ _ ac=>anp ac au8 NH TK 2)
variable {w0:Ny}{mb af:Nat}{aa:List Nat}{eb:Addr}{u:NP}{cW:List Ad}
theorem aqF (aj:Cx w0 mb af aa es eb){t:Tr}(a':Bk t)(aK:Ms w0 mb af aa w (Px (some 0,t) Qr).2)(U:QT 0 w u cW)(fm:RV aa w cW (O3 (some 0,t))) :
  NK 28 #[Nu mb,u,OQ (Px (some 0,t) Qr).1 none] w (OY w0 mb af aa es none w (QC (fx 20002) (Px (some 0,t) Qr).1 (O3 (some 0,t)) none (Px (some 0,t) Qr).2)):=by
 obtain⟨h1,O,ax⟩:=Xi.1.prog (d:=(some 0,t)) a' Xi.2;have ag:QQ 20002 9000 (Px (some 0,t) Qr).1 (Px (some 0,t) Qr).2:=⟨⟨by omega,by rw[h1.st];decide,h1.iv.up Nw,O⟩,by omega⟩
 exact adT aj (abe 20002) (adV aj 20002) ag (fun k E=>a'.ks _ (Py E)) ax (fun _ e=>by cases e) (fun _ e=>by cases e) (ahB (d:=(some 0,t)) a') aK U fm (L:=none) (l:=none) trivial
variable {aS aB az aL:NP}{w':Ny}{σ:St}{N:Nat}
def pvF (l:List NR)(k:Nat)(σ:St):St:=(l.take k).foldl (fun σ nm=>if σ.M.has 0 nm then σ else σ.Qo 0 nm vU true) σ
theorem afL (l:List NR)(k:Nat)(σ:St)(hl:k<l.length):pvF l (k+1) σ=if (pvF l k σ).M.has 0 l[k] then pvF l k σ else (pvF l k σ).Qo 0 l[k] vU true:=by
 unfold pvF;exact am3
theorem Sz.pvF (l:List NR):∀ (k:Nat) {σ:St},Sz N σ->k<=l.length->Sz (N+k) (pvF l k σ)
 | 0,_,h,_=>h
 | k+1,σ,h,E=>by
  rw[afL l k σ Nw]
  split
  ·exact(Sz.pvF l k h Nw).up Nw
  ·exact(Sz.pvF l k h Nw).Qo _ _ _ _
def pfP (p:Pl)(k:Nd)(σ:St):St:=(mkFun k p σ).2.Qo 0 k.2.tx (mkFun k p σ).1 true
def pfF (p:Pl)(a1:List Nd)(k:Nat)(σ:St):St:=(a1.take k).foldl (fun σ k=>pfP p k σ) σ
theorem afM (p:Pl)(a1:List Nd)(k:Nat)(σ:St)(hl:k<a1.length):pfF p a1 (k+1) σ=pfP p a1[k] (pfF p a1 k σ):=by
 unfold pfF;exact am3
theorem Sz.pfF (p:Pl)(a1:List Nd):∀ (k:Nat) {σ:St},Sz N σ->k<=a1.length->Sz (N+2 * k) (pfF p a1 k σ)
 | 0,_,h,_=>h
 | k+1,σ,h,E=>by
  rw[afM p a1 k σ Nw];exact((Sz.pfF p a1 k h Nw).mkFun _ _).Qo _ _ _ _
theorem ahF (d:Nd)(σ:St):Px d σ=(⟨1,0,Ou d.2⟩,pfF ⟨1,0,Ou d.2⟩ (Sl d) (Sl d).length (PK (OC d.2) 1 (pvF (O1 d.2) (O1 d.2).length σ))):=by
 unfold Px pfF pvF;rw[List.take_length,List.take_length];rfl
theorem akD (ac:Mx w0 mb af aa aS aB az aL w σ)(aJ:Sz N σ)(hN:N+9000<1000000000){a:Ad}{d:Nd}(hd:Oa aa w a d)(ai:d.2.count<=1500)(O:∀ k ∈ Sl d,k.2.kids.length=2) :
  NK 30 #[Nu mb,Nu a.p] w fun e w'=>e=NU (OQ (Px d σ).1 none)/\∃ Vd,Mx w0 mb af aa aS aB az Vd w' (Px d σ).2/\P9 mb az aL az Vd w w':=by
 have bI:=ac.lt;have qn:=ahF d σ;obtain⟨w2,bu⟩:=xH (w.alloc (.cells #[Nr 0,Nr 0,NI false,Qb] 73));have aE:NJ w w2:=by rw[bu.out];exact OM
 obtain⟨aR,b1⟩:=xE w.heap.size;have hr2:w2.heap[aR]? = some (Og #[Nr 0,Nr 0,NI false,Qb] 73):=by rw[bu.out,b1];exact NG _ _
 have cH:w.heap.size<=aR:=Nw;have cJ:=Qg d.2;have cS:=hd.kp (Kp.of aE);have kl:SC w2 d.2 a.p:=by rw[<-cS.tr];exact cS.at_.nat.nt
 have bA:=(Vx d.2 a.p w2 kl Nw);have hB:=hide (fun X (aj:Kp w2 X)=>Uh d.2 a.p X (by rw[<-cS.tr];exact(QD.kp aj _ cS.at_).nat.nt))
 obtain⟨l,hl⟩:=xE (O1 d.2);obtain⟨a1,hds⟩:=xE (Sl d);obtain⟨ls,xQ⟩:=xE (OC d.2);obtain⟨st,bF⟩:=xE (Ou d.2);obtain⟨cW,e3⟩:=xE (a.ks.filter fun k=>RN k.tr);have fm:RV aa w2 cW a1:=by rw[e3,hds];exact RV.filter RN _ _ cS.ndl
 have hell:cW.length=a1.length:=RV.len _ _ fm;have xD:a1.length<=1500:=by
  exact azQ
 have II:ls.length<=1500:=by
  have ax:=List.length_filter_le OI d.2.kids;rw[xQ];show (d.2.kids.filter OI).length<=_;omega
 have il:l.length<=1500:=by
  have z:=kk (∀{G}(h:G:=by
  rw[hl];omega),G);exact aqr
 rw[<-hl] at bA;rw[<-bF] at hB;rw[<-hl,<-hds,<-xQ,<-bF] at qn;rw[<-hds] at O;obtain⟨rs,eD⟩:=xE (Px d σ);rw[<-eD] at qn ⊢;obtain⟨q,bo⟩:=xH a.p;have ej:=(ac.later aE);have da:=(P9.of (o:=az) (f:=aL) aE (Oi bI));have bj:=hide hr2;have nk:=hide (fun X (aj:QD (fun _=>True) X a)=>VY a X aj (by rw[hd.ks];omega))
 rw[<-e3] at nk;have s9:=hide (fun X σ1 (aj:Mx w0 mb af aa aS aB az aL X σ1) (A:Kp w2 X) (b6:Sz (N+1500) σ1)=>adP aj b6 (cS.kp A) Nw Nw 1);rw[<-xQ] at s9;have rP:=hide qn;have gT:=hide O;have cI:=hide cH;rw[<-bo.out] at bA hB nk s9 ⊢;clear ac hr2 qn eD hl hds xQ bF e3 O cH cJ;go_enter func30,ntmps30;go_wp2_with fail;rw[<-bu.out,<-b1];clear b1;refine cm bA ?_;have z:=kk (∀{G}(h:G:=by
 have zb:=hide (stays bm bj.out);have jz:Kp w2 ao:=Kp.of bm;go_wp2_with fail
 go_loopw [13] (fun i wr=>∃ k:Nat,k<=l.length/\i=Nr k/\Mx w0 mb af aa aS aB az aL wr (pvF l k σ)/\P9 mb az aL az aL w wr/\wr.heap[aR]? = some (Og #[Nr 0,Nr 0,NI false,Qb] 73)/\Qu w2.heap.size wr (.slice va l.length dv) l/\Kp w2 wr) (fun i _=>l.length - (intOf i).toNat)
 case atStart=>exact⟨0,Nat.zero_le _,rfl,eF,cV,zb.out,iI,jz⟩
 case round=>
  obtain⟨k,E,rfl,ju,f8,kU,kq,oL⟩:=hrel;have eP:=ju;have kD:=f8;have bY:=hide kU;have jk:=oL;have h6:=ju.lt;clear kU
  by_cases aQ:k<l.length
  ·obtain⟨g,cap,ap,hg,_,eH⟩:=S9 kq k aQ;have z:=kk (∀{G}(h:G:=by
   have hstep:=afL l k σ aQ;obtain⟨x,ac⟩:=xE (l[k]);rw[<-ac] at eH hstep;obtain⟨dy,gO⟩:=xE (pvF l k σ);rw[<-gO] at eP hstep;have jP:Sz (N+k) dy:=by rw[gO];exact Sz.pvF l k aJ Nw
   have B5:=hide (fun X (aj:NJ wr X)=>arR (eP.later aj).hh jP.go.sm Nw 0 x);have pe:=hide (fun X (aj:Mx w0 mb af aa aS aB az aL X dy)=>XP aj jP Nw 0 x vU true);have rL:=hide (eP.hh.at_ 10 _ rfl).1;obtain⟨zv,tL⟩:=xE (dy.M.has 0 x);rw[<-tL] at B5 hstep;have nC:=hide hstep;clear ac gO tL hstep;go_wp2_with fail;clear eH hg
   cases zv with
   | true=>
    refine Rj 8 fun ab=>?_;have z:=kk (∀{G}(h:G:=by
    have z:=kk (∀{G}(h:G:=by
    refine uz 9 (NI false) ?_;refine QX ?_ _;go_simp;go_wp2_with fail;refine⟨⟨k+1,by omega,by go_num,?_,fI,gA.out,q0,kE⟩,by simp[intOf];omega⟩
    rw[nC.out,if_pos rfl];exact f3),G);exact aAE),G);exact RU
   | false=>
    refine Rj 8 fun ab=>?_;have z:=kk (∀{G}(h:G:=by
    have z:=kk (∀{G}(h:G:=by
    refine uz 9 (NI true) ?_;refine QX ?_ _;go_simp;have yx:=hide (f3.hh.at_ 9 _ rfl).1;go_wp2_with fail;refine Rj 9 fun ab=>?_;have z:=kk (∀{G}(h:G:=by
    refine up 3 mb 0 ab ?_;refine up 4 mb 0 ab ?_;refine up 5 mb 11 ab ?_;refine uk 6 yx.out ab ?_;refine uh 7 (ND x) (ab) ?_;refine uh 8 (.agg #[Nr 0,Nr 0,OG]) (ab) ?_;refine O0 9 fun K A=>?_;go_simp;refine cm (Ns pe _ (f3.later ab)) ?_;rintro e b3 ⟨rfl,j5,bb⟩;refine ko A ?_;clear A K;have l8:=j5;have mK:=((fI.trans (P9.of ab (Oi gx))).VL bb);have og:=hide (bb.rest _ _ _ (stays ab gA.out) NH);have uV:=(N7 (N9 q0 ab) bb NH)
    have pY:Kp w2 b3:=fun b c e D au=>OB.kp bb b c e (Kp.of ab b c e (kE b c e D au) au) au;refine QX ?_ _;go_simp;go_wp2_with fail;refine⟨⟨k+1,by omega,by go_num,?_,mK,og.out,uV,pY⟩,by simp[intOf];omega⟩
    rw[nC.out,if_neg Oq];exact l8),G);exact RU),G);exact aAE),G);exact RU),G);exact ajQ
  ·have z:=kk (∀{G}(h:G:=by
   obtain⟨us,sO⟩:=xE (pvF l l.length σ);rw[<-sO] at eP rP;have fe:Sz (N+1500) us:=by rw[sO];exact(Sz.pvF l l.length aJ OH).up Nw
   have dV:=(Ns s9 wr us eP jk fe);obtain⟨fH,hb⟩:=xE (PK ls 1 us);rw[<-hb] at dV rP;have nD:Sz (N+3000) fH:=by show Sz _ _;rw[hb];exact(fe.lets ls 1).up Nw
   have tz:=(eP.hh.at_ 11 _ rfl).1;clear sO hb;go_wp2_with fail;refine cm dV ?_;rintro e bB ⟨rfl,gN,h2⟩;have f3:=gN;have fI:=(kD.VL h2);have gA:=hide (h2.rest _ _ _ bY.out NH);have kE:Kp w2 bB:=fun b c e D au=>OB.kp h2 b c e (jk b c e D au) au;have gx:=gN.lt;have yy:=hide (gN.hh.at_ 11 _ rfl).1;have rL:=hide (gN.hh.at_ 10 _ rfl).1;clear tz;go_wp2_with fail;refine abh (H:=fun wz bc=>NJ bB wz/\wz.heap[bc]? = some (Og #[Nr 1,Nr 0,NI st,Qb] 73)/\bB.heap.size<=bc) (G:=?GG) (fun dI=>?ways) ?rest
   case ways=>
    refine Rj 12 fun ab=>?_;refine up 0 mb 0 ab ?_;refine up 1 mb 0 ab ?_;refine up 2 mb 13 ab ?_;refine uk 3 yy.out ab ?_;refine up 4 mb 0 ab ?_;refine up 5 mb 0 ab ?_;refine up 6 mb 12 ab ?_;refine uk 7 rL.out ab ?_;refine up 8 q 0 ab ?_;refine uq2 9 11 (fun K A=>?_) fun K A=>?_
    ·go_simp;refine cm (Ns hB _ (fun b c e D au=>Kp.of ab b c e (kE b c e D au) au)) ?_;rintro e b' ⟨rfl,rfl⟩;refine A.out _ _ (fun _=>ab) ?_;clear A K;refine uh 10 (.agg #[Nr 1,Nr 0,NI st,Qb]) (ab) ?_;refine O0 11 fun K A=>?_;go_simp;refine A.out _ _ (fun _=>OM.drew) ?_;clear A K;exact aAF
    ·go_simp;refine A.out _ _ (fun _=>OM.drew) ?_;clear A K;refine O0 9 fun K A=>?_;go_simp;refine cm (Ns hB _ (fun b c e D au=>Kp.of (OM.drew) b c e (kE b c e D au) au)) ?_;rintro e b' ⟨rfl,rfl⟩;refine A.out _ _ (fun _=>OM.drew) ?_;clear A K;refine uh 10 (.agg #[Nr 1,Nr 0,NI st,Qb]) (OM.drew) ?_;exact aAF
   rintro wz bc ⟨iC,iR,IQ⟩;have k':=(f3.later iC);have ig:=(fI.trans (P9.of iC (Oi gx)));have iM:=hide iR;have gb:=hide (stays iC gA.out);have k5:Kp w2 wz:=fun b c e D au=>Kp.of iC b c e (kE b c e D au) au;have mn:=k'.lt;have ci:bc≠aR:=fun e=>by have:=lt_of_heap gA.out;omega
   have fc:=(Ns nk wz (QD.kp k5 _ cS.at_));clear iR IQ;go_wp2_with fail;refine cm fc ?_;rintro e eh ⟨⟨EZ,rfl,wb⟩,fW⟩;obtain⟨d0,mf,Be⟩:=wb.form;subst Be;have qa:=(k'.later fW);have nj:=(ig.trans (P9.of fW (Oi mn)));have uP:=hide (stays fW iM.out);have ka:=hide (stays fW gb.out);have Ck:=(RV.kp (fun b c e D au=>Kp.of fW b c e (k5 b c e D au) au) _ _ fm);go_wp2_with fail
   go_loopw [59] (fun i wr=>∃ (k:Nat) (qd:NP),k<=cW.length/\i=Nr k/\Mx w0 mb af aa aS aB az qd wr (pfF ⟨1,0,st⟩ a1 k fH)/\P9 mb az aL az qd w wr/\wr.heap[bc]? = some (Og #[Nr 1,Nr 0,NI st,Qb] 73)/\wr.heap[aR]? = some (Og #[Nr 0,Nr 0,NI false,Qb] 73)/\Kp eh wr) (fun i _=>cW.length - (intOf i).toNat)
   case atStart=>exact⟨0,_,Nat.zero_le _,rfl,qa,nj,uP.out,ka.out,fun _ _ _ h _=>h⟩
   case round=>
    obtain⟨k,qd,E,rfl,ju,f8,pG,kU,oL⟩:=hrel;have z:=kk (∀{G}(h:G:=by
    by_cases aQ:k<cW.length
    ·obtain⟨g,cap,ap,hg,eH,aA⟩:=(wb.kp jk).cell k aQ;have z:=kk (∀{G}(h:G:=by
     obtain⟨dy,gO⟩:=xE (pfF ⟨1,0,st⟩ a1 k fH);rw[<-gO] at eP;have jP:Sz (N+3000+2 * k) dy:=by rw[gO];exact Sz.pfF _ a1 k nD Nw
     have e4:=Ns gT a1[k] (List.getElem_mem _);have hS:=hide (fun X (aj:NJ wr X)=>YB (eP.later aj) (oF.kp (Kp.of aj)) e4 jP Nw ⟨1,0,st⟩ none);obtain⟨bL,dh⟩:=xE ((mkFun a1[k] ⟨1,0,st⟩ dy).1);obtain⟨rE,qE⟩:=xE ((mkFun a1[k] ⟨1,0,st⟩ dy).2);rw[<-dh,<-qE] at hS;have wy:Sz (N+3000+2 * k+1) rE:=by rw[qE];exact jP.mkFun _ _
     have uY:=hide (fun X gV (aj:Mx w0 mb af aa aS aB az gV X rE)=>XP aj wy Nw 0 x bL true);have kc:rE.Qo 0 x bL true=pfF ⟨1,0,st⟩ a1 (k+1) fH:=by
      rw[afM _ a1 k fH bn,<-gO];unfold pfP;rw[<-qE,<-dh,<-ac]
     rw[kc] at uY;obtain⟨he,m'⟩:=xE ((cW[k]).p);have jI:=oF.blk;rw[<-m'] at eH dL c1 hS jI;have yu:=hide jI;have e1:=hide c1;have yx:=hide (eP.hh.at_ 9 _ rfl).1;clear ac gO e4 dh qE kc m' jI c1;go_wp2_with fail;clear eH hg;have ab:NJ wr wr.drew:=P8.drew;have cX:wr.drew.heap[bc]? = some (Og #[Nr 1,Nr 0,NI st,Qb] 73)/\wr.drew.cell? (Nv he 1)=some (ND x)/\wr.drew.cell? (Nv mb 11)=some (Nr 0):=⟨stays ab fD.out,Oj ab e1.out,Oj ab yx.out⟩
     refine PO 15 (fun X=>X.heap[bc]? = some (Og #[Nr 1,Nr 0,NI st,Qb] 73)/\X.cell? (Nv he 1)=some (ND x)/\X.cell? (Nv mb 11)=some (Nr 0)) OJ ?_;refine up 0 mb 0 cX ?_;refine up 1 mb 0 cX ?_;refine up 2 mb 0 cX ?_;refine up 3 mb 0 cX ?_;refine up 4 mb 0 cX ?_;refine up 5 mb 11 cX ?_;refine uc 6 (Nr 0) rfl (Or.inl ⟨by kernel_rfl,fun X aj=>by have h0:=aj.2.2;go_simp⟩) (cX) ?_
     refine up 7 he 0 cX ?_;refine up 8 he 0 cX ?_;refine up 9 he 1 cX ?_;refine uc 10 (ND x) rfl (Or.inl ⟨by kernel_rfl,fun X aj=>by have h0:=aj.2.1;go_simp⟩) (cX) ?_
     refine up 11 mb 0 cX ?_;refine up 12 he 0 cX ?_;refine uc 13 (.agg #[Nr 1,Nr 0,NI st,Qb]) rfl (Or.inl ⟨by kernel_rfl,fun X aj=>by have h0:=(cells4 aj.1).1;have h1:=(cells4 aj.1).2.1;have O:=(cells4 aj.1).2.2.1;have ax:=(cells4 aj.1).2.2.2.1;go_simp⟩) (cX) ?_
     refine O0 14 fun K A=>?_;go_simp;refine cm (Ns hS _ ab) ?_;rintro e b3 ⟨rfl,vn,j5,bb⟩;have g3:=eP.later ab;have pF:=(bb.ZO (L:=none) g3).keep cX.1 NH;have sA:b3.cell? (Nv he 1)=some (ND x):=by
      obtain⟨c,D⟩:=Ns yu;exact(bb.kp g3).Wx cX.2.1 ⟨c,stays ab D⟩
     refine A.out _ _ (fun _=>⟨pF,sA,(j5.hh.at_ 9 _ rfl).1⟩) ?_;clear A K;have AN:=j5.lt;have l8:=j5;have mK:=((kD.trans (P9.of ab (Oi h6))).trans bb);have rZ:=hide pF;have og:=hide ((bb.ZO (L:=none) g3).keep (stays ab bY.out) NH);have pY:Kp eh b3:=fun b c e D au=>bb.kp g3 b c e (Kp.of ab b c e (jk b c e D au) au) au;clear pF sA;refine O0 15 fun K A=>?_;go_simp;refine cm (Ns uY _ _ l8) ?_;rintro e k1 ⟨rfl,pL,kf⟩;refine ko A ?_;clear A K;have rR:=(mK.VL kf)
     have uQ:=hide (kf.rest _ _ _ rZ.out NH);have r4:=hide (kf.rest _ _ _ og.out NH);have yU:Kp eh k1:=fun b c e D au=>OB.kp kf b c e (pY b c e D au) au;clear cX;refine QX ?_ _;go_simp;go_wp2_with fail;exact⟨⟨k+1,vn,by omega,by go_num,pL,rR,uQ.out,r4.out,yU⟩,by simp[intOf];omega⟩),G);exact aAG
    ·have z:=kk (∀{G}(h:G:=by
     obtain⟨b3,bz⟩:=xE ((((wr.setCell (Nv aR 0) (Nr 1)).setCell (Nv aR 1) (Nr 0)).setCell (Nv aR 2) (NI st)).setCell (Nv aR 3) Qb);rw[<-bz];have d7:=Zg bY.out (Nr 1) (Nr 0) (NI st) Qb;have gF:mb<=aR:=by have:=Ns cI;omega
     have bb:=Sr bY.out gF (Nr 1) (Nr 0) (NI st) Qb;have bx:=kD.new bb (TB cI.out _ _ _ _);have bv:=eP.Xd bb NH;rw[<-bz] at d7 bx bv;obtain⟨bi,aY,aX,cu,_,_⟩:=cells4 d7;refine bodyPost_ret (v:=OQ ⟨1,0,st⟩ none) (by simp[results,results30,go_sem,bi,aY,aX,cu]) rfl ?_;rw[rP.out];rw[hell] at bv;exact⟨rfl,_,bv,bx⟩),G);exact aAH),G);exact auS),G);exact aqs),G);exact azS
structure Rw (w:Ny)(es:NP)(eb:Addr):Prop where
 is:es=.iface 359 (.pointer (some eb))
 at1:w.cell? (Nv 1 0)=some es
 et:Qp w
 tb:X5 w
 gl:Gl w
 lt:1<w.heap.size
theorem Rw.later (h:Rw w es eb)(D:NJ w w'):Rw w' es eb:=
 ⟨h.is,Oj D h.at1,Ua h.et D (by have:=h.lt;omega),Lib.tabBelow_of_tabIs h.tb w' D,h.gl.later D,by have:=D.size;have:=h.lt;omega⟩
theorem Rw.cx (h:Rw w es eb)(aZ:Bs w mb af aa es):Cx w mb af aa es eb:=
 ⟨aZ,⟨h.is,h.at1,h.et,by rw[<-aZ.sz];exact h.lt⟩,h.tb,h.gl⟩
def aam:Er->Int
 | .no=>1
 | .Wq _=>2
 | _=>3
def acZ (M:Mo):Er->NR
 | .Wq v=>M.shw v
 | _=>NC
structure Fin (w0:Ny)(mb:Nat)(aS aB:NP)(c:Int)(x:NR)(σ:St)(w:Ny):Prop where
 bw:Below mb w0 w
 lt:mb<w.heap.size
 c2:w.cell? (Nv mb 2)=some aS
 c3:w.cell? (Nv mb 3)=some (Nr c)
 c4:w.cell? (Nv mb 4)=some (ND x)
 c5:w.cell? (Nv mb 5)=some (Nr (σ.steps:Int))
 c6:w.cell? (Nv mb 6)=some aB
 lg:w.ownsRow mb 9 1 aS σ.log.length (σ.log.map Value.string)
 se:w.ownsRow mb 54 2 aB σ.seen.length (σ.seen.flatMap sn2)
section
variable (ac:Mx w0 mb af aa aS aB az aL w σ) (c:Int)
include ac c
theorem fin1:Fin w0 mb aS aB c NC σ (w.setCell (Nv mb 3) (Nr c)):=by
 obtain⟨h,f⟩:=ac.hh.cell 1 (Nr c);exact aAI
theorem fin2 (x:NR):Fin w0 mb aS aB c x σ ((w.setCell (Nv mb 3) (Nr c)).setCell (Nv mb 4) (ND x)):=by
 obtain⟨h1,dZ⟩:=ac.hh.cell 1 (Nr c);obtain⟨h,dW⟩:=h1.cell 2 (ND x);have f:=dZ.trans dW;exact aAI
end
theorem Eo.va {e:Er}{v:Va}(h:Eo σ e)(au:e=.Wq v)(aJ:Sz 400000000 σ):-9223372036854775808<=v.n/\v.n<=9223372036854775807:=by
 subst au;have:=(adS (M:=σ.M) h.2 aJ.go.sm.o).2;omega
theorem aqG (aj:Cx w0 mb af aa es eb)(aK:Ms w0 mb af aa w σ){e:Er}(au:Eo σ e)(aJ:Sz 400000000 σ){ev:NP}(aI:U4 es w ev e) :
  NK 31 #[Nu mb,ev] w fun r w'=>r=NU (.tuple #[])/\∃ aS aB,Fin w0 mb aS aB (aam e) (acZ σ.M e) σ w':=by
 obtain⟨aS,aB,az,aL,ac⟩:=aK
 cases e with
 | no=>
  have aH:ev=Pe:=aI;subst aH;refine(au4 ac).mono ?_;rintro r w' ⟨rfl,X,h1,_,rfl⟩;exact⟨rfl,aS,aB,fin1 h1 1⟩
 | stop=>
  have aH:ev=es:=aI;subst aH;refine(anq aj.st ac).mono ?_;rintro r w' ⟨rfl,X,h1,_,rfl⟩;exact⟨rfl,aS,aB,fin1 h1 3⟩
 | Wq v=>
  obtain⟨b,rfl,D⟩:=aI;refine(aqB aj.b aj.tb aj.st ac D (au.va rfl aJ)).mono ?_;rintro r w' ⟨rfl,X,h1,_,rfl⟩;exact⟨rfl,aS,aB,fin2 h1 2 _⟩
 | mis=>exact au.elim
def Td (w:Ny)(t:Tr)(e:Ending)(w':Ny):Prop:=NJ w w'/\match chk t false false false with
 | some er=>e=NU (.tuple #[aal (.slice none 0 0) (.slice none 0 0) 0 0 ⟨#[]⟩,.iface 34 (Nr er)])
 | none=>∃ aS aB,e=NU (.tuple #[aal aS aB (aam (PY t).1) (PY t).2.steps (acZ (PY t).2.M (PY t).1),.nilIface])/\w'.ownsRow w.heap.size 9 1 aS (PY t).2.log.length ((PY t).2.log.map Value.string)/\w'.ownsRow w.heap.size 54 2 aB (PY t).2.seen.length ((PY t).2.seen.flatMap sn2)
theorem aao {t:Tr}(a':Bk t):Eo (PY t).2 (PY t).1/\Sz 400000000 (PY t).2:=by
 have h:=au9 a';exact⟨h.er,h.iv.sz (by have:=h.ex.st;have e:Qr.steps=0:=rfl;show (9000:Int)<=_;omega) h.er.le⟩
theorem anv:Sz 100 Qr:=by
 obtain⟨n,aJ,aA⟩:=Xi.1.pz;exact aJ.up (by have:Qr.steps=0:=rfl;omega)
abbrev abj (w:Ny)(b:Nat)(x y bE u v:NP):Ny:=((((w.setCell (Nv b 0) x).setCell (Nv b 1) y).setCell (Nv b 2) bE).setCell (Nv b 3) u).setCell (Nv b 4) v
theorem aAJ {b:Nat}{x y bE u v:NP}{t:TypeId}(h:w.heap[b]? = some (Og #[x,y,bE,u,v] t))(x' jv jh fR v':NP):(abj w b x' jv jh fR v').heap[b]? = some (Og #[x',jv,jh,fR,v'] t):=by
 have z:=kk (∀{G}(h:G:=by
 have aU:=heap_setCell_same _ b 3 _ t fR ax;have bN:=heap_setCell_same _ b 4 _ t v' aU;exact bN),G);exact aqD
theorem anw {B b:Nat}{a:Ny}(h:Below B a w)(D:B<=b)(x y bE u v:NP):Below B a (abj w b x y bE u v):=
 ((((h.setCell D x).setCell D y).setCell D bE).setCell D u).setCell D v
theorem Xt {B C e s n:Nat}{v:NP}{xs:List NP}(h:w.ownsRow B e s v n xs)(bq:C<=B):w.ownsRow C e s v n xs:=⟨h.1,by
 rcases h.2 with h|⟨g,cap,cl,h1,O,ax⟩
 ·exact .inl h
 ·exact .inr ⟨g,cap,cl,h1,Nat.le_trans bq O,ax⟩⟩
theorem YH {B b j e s n:Nat}{v:NP}{xs:List NP}{t:TypeId}{c:Array NP}(h:w.ownsRow B e s v n xs)(D:w.heap[b]? = some (Og c t))(a':t≠e)(x:NP):(w.setCell (Nv b j) x).ownsRow B e s v n xs:=
 ownsRow_setCell_other h (fun q=>by
  obtain⟨ft,ai⟩:=OZ h q;exact PW D ai a' rfl) x
theorem afN {B b e s n:Nat}{v:NP}{xs:List NP}{t:TypeId}{x y bE u q:NP}(h:w.ownsRow B e s v n xs)(D:w.heap[b]? = some (Og #[x,y,bE,u,q] t))(a':t≠e)(x' jv jh fR q':NP):(abj w b x' jv jh fR q').ownsRow B e s v n xs:=by
 have h1:=heap_setCell_same w b 0 _ t x' D;have O:=heap_setCell_same _ b 1 _ t jv h1;have ax:=heap_setCell_same _ b 2 _ t jh O;have aU:=heap_setCell_same _ b 3 _ t fR ax;exact YH (YH (YH (YH (YH h D a' _) h1 a' _) O a' _) ax a' _) aU a' _
theorem awy (hg:Rw w es eb){a:Ad}(dK:QD (fun _=>True) w a)(jd:a.TG.Nodup)(hbk:chk a.tr false false false=none->Bk a.tr)(bn:a.tr.kd=1)(h4:a.tr.ill=0)(Ao:a.tr.count<=1500) :
  NK 11 #[Nu a.p] w (Td w a.tr):=by
 obtain⟨w2,bu⟩:=xH (w.alloc (.cells #[PG,Nr 0,OG,Nr 0,PG] 29));have aE:NJ w w2:=by rw[bu.out];exact OM
 obtain⟨aR,b1⟩:=xE w.heap.size;have hr2:w2.heap[aR]? = some (Og #[PG,Nr 0,OG,Nr 0,PG] 29):=by rw[bu.out,b1];exact NG _ _
 have cH:w.heap.size<=aR:=Nw;have vt:=QD.kp (Kp.of aE) _ dK;have ah:=(acn a.tr a.p false false w2 vt.nat.nt h4 Nw);have bj:=hide hr2;have cI:=hide cH;have qy:=lt_of_heap hr2
 cases ai:chk a.tr false false false with
 | some er=>
  rw[ai] at ah;have aH:Td w a.tr=fun e w'=>NJ w w'/\e=NU (.tuple #[aal PG PG 0 0 ⟨#[]⟩,.iface 34 (Nr er)]):=by
   unfold Td;rw[ai]
  rw[aH];clear jd hbk bn h4 Ao hr2 cH vt ai aH qy;obtain⟨q,ag⟩:=xE a.p;rw[<-ag] at ah ⊢;clear ag;go_enter func11,ntmps11;go_wp2_with fail;rw[<-bu.out,<-b1];refine cm ah ?_;rintro e ao ⟨au,bm⟩;have gw:e=NU (.iface 34 (Nr er)):=au;subst gw;have ef:=(aE.trans (bm.mono aE.size));have c8:=hide (stays bm bj.out);obtain⟨cy,bQ,b5,d',je,en,rl⟩:=cells5 (stays bm bj.out);have dn:=en 0;have dp:=en 1;have dq:=en 2;have iL:=en 3;have J6:=en 4;clear au en b1;go_wp2_with fail
  obtain⟨b3,bz⟩:=xE (abj ao aR PG (Nr 0) (OG) (Nr 0) PG);have hI:=aAJ c8.out PG (Nr 0) (OG) (Nr 0) PG;have ed:=anw ef cI.out PG (Nr 0) (OG) (Nr 0) PG;unfold abj at bz hI ed;rw[<-bz] at hI ed;obtain⟨bi,aY,aX,cu,lU,_,_⟩:=cells5 hI;rw[<-bz];refine bodyPost_ret (v:=.tuple #[aal PG PG 0 0 ⟨#[]⟩,.iface 34 (Nr er)]) (by simp[results,results11,go_sem,bi,aY,aX,cu,lU]) rfl ?_;exact⟨ed,rfl⟩
 | none=>
  rw[ai] at ah;have aZ:=hbk ai;obtain⟨t,a'⟩:=xE a.tr;have aH:Td w a.tr=fun e w'=>NJ w w'/\∃ aS aB,e=NU (.tuple #[aal aS aB (aam (PY a.tr).1) (PY a.tr).2.steps (acZ (PY a.tr).2.M (PY a.tr).1),Pe])/\w'.ownsRow w.heap.size 9 1 aS (PY a.tr).2.log.length ((PY a.tr).2.log.map Value.string)/\w'.ownsRow w.heap.size 54 2 aB (PY a.tr).2.seen.length ((PY a.tr).2.seen.flatMap sn2):=by
   unfold Td;rw[ai]
  rw[aH];have O:∀ k ∈ Sl ((some 0,a.tr):Nd),k.2.kids.length=2:=fun k E=>by
   obtain⟨kd,ku,bT,p1,dl,ax,_⟩:=(X7 (d:=(some 0,a.tr)) aZ k E).sh;rw[ax];rfl
  have hcnt:a.cnt<=90000:=by rw[<-a.agF];omega
  have k7:=hide (fun X (aj:NJ w2 X)=>abg (QD.kp (Kp.of aj) _ vt) jd hcnt ((hg.later aE).later aj).at1);have s6:=hide (fun X (aj:NJ w X) mb af (aZ:Bs X mb af a.TG es)=>(hg.later aj).cx aZ);have y2:=hide (fun X (aj:Kp w2 X)=>aiW (QD.kp aj _ vt));obtain⟨qA,c9⟩:Eo (PY a.tr).2 (PY a.tr).1/\Sz 400000000 (PY a.tr).2:=aao aZ;obtain⟨iu,A4⟩:=xE (PY a.tr);have n3:=hide (fun X (hd:Oa a.TG X a (some 0,a.tr))=>au3 hd bn)
  have fD:=hide (fun X w1 mb af az (ac:Mx w1 mb af a.TG PG PG az PG X Qr) (hd:Oa a.TG X a (some 0,a.tr))=>akD ac anv NH hd Ao O);have dG:=hide (fun X w1 mb af u (aj:Cx w1 mb af a.TG es eb) (aK:Ms w1 mb af a.TG X (Px (some 0,a.tr) Qr).2) (U:QT 0 X u a.ks) (hd:Oa a.TG X a (some 0,a.tr))=>aqF aj aZ aK U hd.ndl);obtain⟨zx,Ar⟩:=xE (Px (some 0,a.tr) Qr);obtain⟨BD,kU⟩:=xE (QC (fx 20002) zx.1 (O3 (some 0,a.tr)) none zx.2);have I3:iu=(BD.1.2.1,BD.2):=by rw[A4,kU,Ar];rfl
  rw[<-A4] at qA c9 ⊢;rw[<-Ar] at fD dG;rw[<-kU] at dG;subst I3;obtain⟨q,ag⟩:=xE a.p;rw[<-ag] at ah k7 n3 fD ⊢;clear jd hbk bn h4 Ao hr2 cH vt ai aH qy ag O hcnt A4 Ar kU a';go_enter func11,ntmps11;go_wp2_with fail;rw[<-bu.out,<-b1];refine cm ah ?_;rintro e ao ⟨au,bm⟩;have gw:e=NU Pe:=au;subst gw;have ef:=(aE.trans (bm.mono aE.size));have c8:=hide (stays bm bj.out);have Ga:=(Ns k7 ao bm);have jz:Kp w2 ao:=Kp.of bm;clear au b1;go_wp2_with fail;refine cm Ga ?_
  rintro e bB ⟨w1,mb,af,az,rfl,b4,jq,gN⟩;have Jj:NJ w1 bB:=by unfold NJ;rw[jq.sz];exact gN.bw
  have H6:NJ ao bB:=b4.trans (Jj.mono b4.size);have uA:=(Ns s6 w1 (ef.trans (b4.mono ef.size)) mb af jq);have kE:Kp w2 bB:=fun b c e D au=>Kp.of H6 b c e (jz b c e D au) au;have y3:=(Ns y2 bB kE);have k6:Hid (w.heap.size<mb):=by show _<_;rw[<-jq.sz];have:=lt_of_heap c8.out;have:=b4.size;have:=Ns cI;omega
  have gA:Hid (NJ w w1/\w1.heap[aR]? = some (Og #[PG,Nr 0,OG,Nr 0,PG] 29)/\w1.heap.size=mb):=⟨ef.trans (b4.mono ef.size),stays b4 c8.out,jq.sz⟩;have Fl:=(Ns n3 bB y3);go_wp2_with fail;refine cm Fl ?_;rintro e b' ⟨rfl,u,rfl,aO⟩;obtain⟨cT,uc,Ja⟩:=aO.form;subst Ja;have Gk:=(Ns fD _ w1 mb af az gN y3);go_wp2_with fail;refine cm Gk ?_;rintro e b9 ⟨rfl,K5,oY,jc⟩;have dd:=jc.kp gN;have F9:=(y3.kp dd);have GP:=(aO.kp dd);have Gu:=(Ns dG b9 w1 mb af _ uA ⟨_,_,_,_,oY⟩ GP F9)
  obtain⟨⟨aq,aF,st⟩,Nq⟩:=zx;go_wp2_with fail;refine cm Gu ?_;rintro e eh ⟨⟨ev,rfl,aI⟩,aK,_,_⟩;obtain⟨⟨iK,er,Mz⟩,mG⟩:=BD;obtain⟨J2,⟨ok,on,os⟩⟩:=iK;obtain⟨b3,bz⟩:=xE (eh.alloc (.cells #[NI J2,Nr ok,Nr on,ND os] 67));have ed:NJ eh b3:=by rw[bz];exact OM
  have qP:=(aqG uA (aK.later ed) qA c9 (aI.later ed));have zq:=hide bz;clear bz;go_wp2_with fail;rw[<-zq.out];refine cm qP ?_;rintro e k1 ⟨rfl,aS,aB,ak⟩;obtain⟨la,hu,qu⟩:=N8 ak.lg;obtain⟨j6,ul,jM⟩:=N8 ak.se;obtain⟨ln,kj⟩:=xE mG.log.length;obtain⟨qH,wf⟩:=xE mG.seen.length;rw[<-kj] at qu;rw[<-wf] at jM;subst qu jM;clear kj wf;obtain⟨b4,hr1,nc⟩:=Ns gA;have Eh:aR<mb:=by rw[<-nc];exact lt_of_heap hr1
  have wc:=(ak.bw.block aR Eh).trans hr1;have nG:NJ w k1:=b4.trans (ak.bw.mono (by have:=Ns k6;omega))
  obtain⟨cy,bQ,b5,d',je,en,rl⟩:=cells5 wc;have dn:=en 0;have dp:=en 1;have dq:=en 2;have iL:=en 3;have J6:=en 4;have c2:=ak.c2;have c3:=ak.c3;have c4:=ak.c4;have c5:=ak.c5;have c6:=ak.c6;have bI:=ak.lt;have ci:aR≠mb:=Nw;have r4:=hide wc;have F2:=(Xt ak.lg (show w.heap.size<=mb by have:=Ns k6;omega))
  have GJ:=(Xt ak.se (show w.heap.size<=mb by have:=Ns k6;omega))
  obtain⟨cc,fL⟩:=xH (aam er);obtain⟨cv,BX⟩:=xH (acZ mG.M er);obtain⟨tA,wW⟩:=xH ((mG.steps:Int):Int);rw[<-fL.out] at c3;rw[<-BX.out] at c4;rw[<-wW.out] at c5;clear hr1 nc wc en Eh;go_wp2_with fail;obtain⟨k2,iT⟩:=xE (abj k1 aR (.slice la ln hu) (Nr cc) (ND cv) (Nr tA) (.slice j6 qH ul));have hI:=aAJ r4.out (.slice la ln hu) (Nr cc) (ND cv) (Nr tA) (.slice j6 qH ul);have ed:=anw nG cI.out (.slice la ln hu) (Nr cc) (ND cv) (Nr tA) (.slice j6 qH ul)
  have AL:=afN F2 r4.out NH (.slice la ln hu) (Nr cc) (ND cv) (Nr tA) (.slice j6 qH ul);have A6:=afN GJ r4.out NH (.slice la ln hu) (Nr cc) (ND cv) (Nr tA) (.slice j6 qH ul);unfold abj at iT hI ed AL A6;rw[<-iT] at hI ed AL A6;rw[<-iT];obtain⟨bi,aY,aX,cu,lU,_,_⟩:=cells5 hI;refine bodyPost_ret (v:=.tuple #[aal (.slice la ln hu) (.slice j6 qH ul) cc tA cv,Pe]) (by simp[results,results11,go_sem,bi,aY,aX,cu,lU]) rfl ?_;exact⟨ed,_,_,by rw[fL.out,BX.out,wW.out],AL,A6⟩
end
end Hp
end Go.Proofs.YticfnaiehdpbmaaGreatDoor
