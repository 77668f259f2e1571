import Derived.Test.YtoimgcjbcbhclaaGreatDoorAz0
set_option maxRecDepth 100000
set_option maxHeartbeats 0
set_option linter.all false
namespace Go.Proofs.YtoimgcjbcbhclaaGreatDoor
open Go.RowKit Go.Proofs.Tryz
section
variable {G X:Prop}
def aAs (h:G:=by
  have rn:=hide ((et.out.alloc Ri).drew);refine azn ?_;clear U K;refine UK 5 λK U=>?_;go_simp;refine cm (QD c _ i d (Lu rn)) ?_;rintro e w1 ⟨rfl,D⟩;have cd:=hide ((Lu rn).later D);have ba:=hide (pH.out.trans ((((zalbd fY.heap.size fY).alloc Nh Ri).drew.trans (D.mono MP)).mono pH.out.size));have ep:w1.heap[fY.heap.size]? = some Ri:=(D.block _ MP).trans (LP fY Ri);obtain⟨lV,e8,lW,ui,j5,SB⟩:=c160 ep;have rz:=hide ep;clear ep;refine aqw ?_;clear U K;exact(A).o):G:=h
def ad6 (h:G:=by
  intro e w1 ae;obtain⟨⟨v1,rfl,ep,rfl,eH⟩,aY,aa⟩:=ae;exact(A).o):G:=h
def aAt (h:G:=by
  rw[a2] at oQ
  go_wp2_with (at_builtin;refine wpList_append_lies _ rfl _ _ 46 rfl w.heap.size 22 a6 Pe 1 8 zalbk b4 bL bM bP rfl MK _ _ _ rfl (gE.out.alloc _) (LD wr.heap.size 0) 1 1 [LC q] rfl rfl (VR wr q _ rfl) (Yk q) MK (by unfold maxLen;omega) LM OM (wr.heap.size+1) MP ?_)
  intro dJ cap' aq hown' hgrow fX _;have bV:=hide (bj.out.trans (((zalbd w.heap.size wr).alloc hsz2 (.cells #[LC q] 22)).grown hgrow OM (λb D=>(Lu pU b D).2)));exact aqx):G:=h
def axr (h:G:=by
  have AN:=hide eC;have jw:=hide ix;have i3:=hide lH;obtain⟨dY,fO⟩:∃ dY,dY=(w.alloc (.cells #[.pointer aQ,L9 true] 112)).alloc (.cells #[Pe,L9 false] 112):=⟨_,rfl⟩;have fJ:LX w dY:=by rw[fO];exact Qn.alloc MP _
  have tV:dY.heap.size=w.heap.size+2:=by rw[fO];simp
  have qG:dY.heap[w.heap.size]? = some (NK #[.pointer aQ,L9 true] 112):=by
   rw[fO,zalaa _ _ _ MP];exact LP _ _
  have y1:dY.heap[w.heap.size+1]? = some (NK #[Pe,L9 false] 112):=aFK
  exact(A).o):G:=h
def aqN (h:G:=by
  obtain⟨dW,dX,d3⟩:=(Open.later bI.out cW a1.out).cell;have mh:bq<ax.heap.size+1:=LM;have mi:bq<ax.heap.size+1+1:=LM;refine U _ _ ?_;clear U K;exact(A).o):G:=h
def aAu (h:G:=by
  go_enter func129,ntmps129;go_wp2_with fail;refine cm jv.out ?_;rintro e w0 ⟨rfl,rfl⟩;go_wp2_with fail;refine cm f2.out ?_;rintro e w2 ⟨⟨v,rfl,T⟩,a5⟩;obtain⟨iN,bG,dV⟩:=HKEY.out w2 v T a5;obtain⟨aQ,cc,rfl⟩:=T.form;have gE:=hide iN;have bX:=hide bG;have dw:=hide dV;have ct:w2.cell? (LD cw 0)=some (Zb (OE b a)):=by rw[Lib.cell_of_heap iN.ab2];rfl
  have lz:=lt_of_heap iN.ab2;have ac:=aqO (iN.cls _ xb.out) (λq ac=>iN.cls q (gC.out q ac));exact(A).o):G:=h
def aio (h:G:=by
  obtain⟨_,_,_,h⟩:=PU h;obtain⟨_,_,_,h⟩:=PU h;exact(A).o):G:=h
def aAv (h:G:=by
  refine RU rfl _ _ 46 rfl hN.heap.size _ 22 a6 Pe 8 zalbk b4 bL bM bP rfl _ _ _ rfl C8 _ _ _ rfl HS (aqP _) (by unfold maxLen;omega) LM (by have:=dT.size;have:=mn.size;omega) ?_
  intro v3 aq hown3 dD;have bx:LX hN aq:=(mn.trans (dT.mono mn.size)).grown dD (by have:=dT.size;have:=mn.size;omega) (λk N=>(Me C8 k N).2)
  have b9:=hide (Lu ag aq v3 bx hown3);refine U.out _ _ (λ_=>aE.trans (bx.mono (zalge c6.symm))) ?_;clear U K;exact(A).o):G:=h
def axg (h:G:=by
  have dP:wr.ownsRow B 22 1 ci[k] bf.length (bf.map LC):=L8 (I:=λ_=>True) (λb _ ab=>aV.out.block b ab) (λ_ _=>trivial) ac;have u':=hide ef;have c2:wr.cell? (LD g k)=some ci[k]:=by rw[aV.out.cell (p:=(LD g k)) de];exact c1
  have Hb:g<wr.heap.size:=zalau de aV.out.size;obtain⟨eq,uc,aS⟩:=NH dP;have bK:=aV.out.size
  generalize ci[k]=u at dP c2 aS
  subst aS;have aG:=hide dP;have hsum:ps.length+bf.length<=90000:=LM;exact(A).o):G:=h
def aAw (h:G:=by
  refine zlm ?_;clear U K;refine UW Nw ?_ _;obtain⟨wz,d7⟩:∃ wz,wz=bn.setCell (LD w.heap.size 0) (.slice va (ps.length+1) ck):=⟨_,rfl⟩;have hset:∀ b,b≠w.heap.size->wz.heap[b]? = bn.heap[b]?:=λb D=>by rw[d7];exact Qu D _
  have gt:LX w wz:=by
   rw[d7];exact ayD
  have o2:wz.heap[w.heap.size]? = some (NK #[.slice va (ps.length+1) ck] 114):=by rw[d7,heap_set ry.out];rfl
  have j3:w.heap.size<w1.heap.size:=lt_of_heap eW.out;exact(A).o):G:=h
def aAx (h:G:=by
  obtain⟨x,y,ks,bd⟩:=Xb o7 iq;obtain⟨g,cap,c3,de,fN,fc,_,_⟩:=aH.two bd;obtain⟨_,bF,_,_,_⟩:=aH.cells;have o3:OE b a=some y.p:=by unfold OE;rw[iq,bd];rfl
  rw[iq] at c9 jv;rw[o3] at c9;simp only[zaleh,Zb] at c9;have eH:(1:Int)<((ks.length+1+1:Nat):Int):=LM
  generalize ks.length=zx at c3 eH
  rw[c9] at f2 HKEY;clear iq bd;obtain⟨gO,r6⟩:∃ gO,gO=y.p:=⟨_,rfl⟩;rw[<-r6] at fc f2 HKEY;exact(A).o):G:=h
def aAy (h:G:=by
  have HKEY:=hide key;have bN:=hide ai;have gC:=hide fJ;have xb:=hide qG;have l7:=hide hidx;have jv:=hide (UL aH);have J3:w.cell? (LD cw 0)=some (Zb b):=by rw[Lib.cell_of_heap eS.ab2];rfl
  have J4:w.frozen? (LD cw 0)=false:=Lib.frozen_of_heap eS.ab2 0;have J5:=lt_of_heap eS.ab2;have a1:=hide eS.lt;obtain⟨A6,lF⟩:∃ A6,A6=(osF (i,b,ah) a).1:=⟨_,rfl⟩;rw[<-lF];have AJ:=hide lF;clear lF;clear bv ak hidx bz key;exact(A).o):G:=h
def aAz (h:G:=by
  have br{G}(h:G:=by
  have dl:=hide et.out.base.size;go_wp2_with fail;refine zle ?_;refine wh 0 (Nz c) et.out.drew ?_;refine wh 1 (Nz c) et.out.drew ?_;refine wh 2 (Mc c.R 3) et.out.drew ?_;refine wg 3 (.map (some c.mS)) rfl (zalad ⟨by kernel_rfl,λL aO=>by have a2:=Ol.c3 aO;go_simp⟩) et.out.drew ?_
  refine wh 4 (Nz c) et.out.drew ?_;exact(A).o):=LG h;exact ztw):G:=h
def aAA (h:G:=by
  have br{G}(h:G:=by
  exact(A).o):=LG h;go_simp;exact azE):G:=h
def aAB (h:G:=by
  refine zlm ?_;clear U K;refine abY ?_;obtain⟨wz,d7⟩:∃ wz,wz=(bh.setCell (LD w.heap.size 0) (MX a')).setCell (LD w.heap.size 1) (L9 true):=⟨_,rfl⟩;rw[<-d7];have hset:∀ k,k≠w.heap.size->wz.heap[k]? = bh.heap[k]?:=λk N=>by rw[d7,Qu N,Qu N]
  have uW:Hid (wz.heap[w.heap.size]? = some (NK #[MX a',L9 true] 112)):=by show _=_;rw[d7,heap_set (heap_set cJ _)];rfl
  have oD:Hid (LX w wz):=aAC
  exact(A).o):G:=h
def aAD (h:G:=by
  have qG:a.p ∈ aK:=by rw[bv];simp
  have hidx:aK.idxOf a.p=i:=aFL
  obtain⟨e1,e2,fE,jI,iz,kr,mz⟩:=ai.nes
  -- ul world behind ul first part: ul body is told
  obtain⟨w1,c9⟩:∃ w1,w1=(if MF a.tr then w.setCell (LD cw 0) (Zb (OE b a)) else w):=⟨_,rfl⟩;have qM:Sk fm cw w w1:=by rw[c9];split;(· exact Sk.body _ _ _ _);(· exact Sk.refl _ _ _)
  have bz:w1.heap[cw]? = some (NK #[Zb (OE b a)] 22):=aFO
  exact(A).o):G:=h
def aAE (h:G:=by
  refine zlm ?_;clear U K;refine abY ?_;obtain⟨wz,d7⟩:∃ wz,wz=(bh.setCell (LD w.heap.size 0) (MX a')).setCell (LD w.heap.size 1) (L9 dk):=⟨_,rfl⟩;rw[<-d7];have hset:∀ k,k≠w.heap.size->wz.heap[k]? = bh.heap[k]?:=λk N=>by rw[d7,Qu N,Qu N]
  have uW:Hid (wz.heap[w.heap.size]? = some (NK #[MX a',L9 dk] 112)):=by show _=_;rw[d7,heap_set (heap_set cJ _)];rfl
  have oD:Hid (LX w wz):=aAC
  exact(A).o):G:=h
def aui (h:G:=by
  clear he hinv iS cF;have dm:=hide ((UY aj ML s j au (3) (n) (⟨#[]⟩) e aC aY LM).symm.trans cG.out);exact azI):G:=h
def alL (h:G:=by
  intro e ax ae;obtain⟨⟨ck,rfl,fd⟩,aY,aa⟩:=ae;obtain⟨bu,rfl,jZ⟩:=fd.nv;exact(A).o):G:=h
def aw9 (h:G:=by
  have am:wr.cell? (LD g k)=some (LC q):=by rw[aV.out.cell (p:=(LD g k)) hg];exact dZ
  have eY:(k:Int)<(ks.length:Int):=LM;have cS:g<wr.heap.size:=LM;have b3:=hide (λL (aO:LX wr L)=>Lu eE ks[k] (Lu i4 k aC).1 (Lu i4 k aC).2 q L ((hm.later aV.out).later aO));have co:=hide (zalac aC);clear dZ c0 c1 c2 c3;go_wp2_with fail;have aE:LX wr wr.drew:=O4.drew;have uS:=hide bb.out.drew;exact(A).o):G:=h
def aAF (h:G:=by
  have br{G}(h:G:=by
  have ac:r=.bad er pl:=Lu aG;subst ac;clear T;go_wp2_with fail;refine NJ ?_;rintro e wh ⟨⟨v,rfl,q,rfl⟩,⟨j,cv⟩,he,aa⟩;have zv:=(aa.block _ (lt_of_heap e3.out.nd) (by have:=Lu a1;omega)).trans e3.out.nd
  have jB:=e3.out.ap.next aa;have b9:=hide (aag c wh j er pl (d:Int) he cv);have j9:=hide zv;have fG:=hide jB;exact(A).o):=LG h;exact ztz):G:=h
def aAG (h:G:=by
  intro ax bu dC;have cC:=hide dC;obtain⟨dW,dX,d3⟩:=cC.out.op.cell;have bK:=cC.out.ap.size;have rk:Hid (Open w.heap.size ((ax.alloc (.cells #[LC bu] 22)).alloc (MB 13 s 0 (.slice (some (LD ax.heap.size 0)) 1 1))) _ w.heap.size _ _):=(cC.out.op.alloc (.cells #[LC bu] 22)).alloc (MB 13 s 0 (.slice (some (LD ax.heap.size 0)) 1 1));refine O7 13 λK U=>?_;refine zly ?_;exact atX):G:=h
def alM (h:G:=by
  have aG:=hide cX;have m7:=aa3 said;have CK:(ofBytes said).size<=3000:=LM;exact(A).o):G:=h
def aqQ (h:G:=by
  have bB:=Qa Nl s q ef aD;have d4:e=q:=LM;subst d4;have js:=hide aD;clear aD bB cX;go_wp2_with fail;refine aly ?_;rw[js.out];exact(A).o):G:=h
def auj (h:G:=by
  have rO:LX ax _:=(((zalbd ax.heap.size ax).alloc Nh (.cells #[LC bu] 22)).alloc MP (MB 14 LH 0 (.slice (some (LD ax.heap.size 0)) 1 1))).alloc (by simp <;> omega) (.cells #[LC (ax.heap.size+1)] 22);exact(A).o):G:=h
def aAH (h:G:=by
  have em:Hid (bn.cell? (LD p 3)=some (.slice dj kn cY)):=(tn.cell (zalad rg.out) LM).trans (Lu Ei);have Fp:=hide se;clear fp k7 wv y9 l0 oy zd HK iU se lM;go_simp;rw[<-Fp.out];go_wp2_with fail;have dK:LX bn bn.drew:=O4.drew;refine MR 6 (λX=>LX bn X) Nw ?_;refine aAd ?_;refine ug 4 (.slice dj kn cY) rfl (zalad ⟨by kernel_rfl,λX aB=>by have aJ:=Md aB em.out;go_simp⟩) dK ?_
  exact(A).o):G:=h
def aAI (h:G:=by
  have k6:wd.heap.size=w2.heap.size:=by rw[cb];rfl
  refine MR 8 (λX=>LX w2 X) Nw ?_;rw[<-cb];have me:=hide k6;clear cb k6;refine zlr ?_;refine uc 4 (.slice (some (LD g 0)) kn cY) rfl (zalad ⟨by kernel_rfl,λX aB=>by have aJ:=Md aB em.out;go_simp⟩) aE ?_
  refine uh 5 (Mc g 0) aE ?_;refine uc 6 (LC cn) rfl (zalad ⟨by kernel_rfl,λX aB=>by have aJ:=Md aB uI.out;go_simp⟩) aE ?_
  exact(A).o):G:=h
def aAJ (h:G:=by
  obtain⟨al,aW,a4⟩:=iN.fmap;have f0:w2.cell? (LD aZ 0)=some (.map (some fm)):=by rw[Lib.cell_of_heap iN.aiu];rfl
  have fN:w2.cell? (LD aI 0)=some (.map (some aw)):=by rw[Lib.cell_of_heap iN.word];rfl
  have lA:=lt_of_heap iN.aiu;have fn:=lt_of_heap iN.word;have h8:=XQ aw aK.length (Ro aK) a.p w2 iN.nums (iN.cls _ xb.out) (λe he=>iN.cls _ (Uh he));rw[acS xb.out,l7.out] at h8;exact(A).o):G:=h
def axJ (h:G:=by
  have bG:fQ.heap[w.heap.size+1]? = some (NK #[Pe,L9 false] 112):=by rw[bW,Qu LM];exact Lu cd
  have q7:=hide a5;have E9:Hid (w.heap.size+2<=fQ.heap.size):=by show _<=_;omega
  have sO:=hide bE;have AD:=hide bG;clear bW dV bE bG k0 a9 b8 gP iX lb vX CR Df;have dV:=Lu E9;have fj:Hid (fQ.cell? (LD w.heap.size 0)=some (.pointer aQ)):=by show _=_;rw[cell_of sO.out];rfl
  exact(A).o):G:=h
def auk (h:G:=by
  have cO:=hide h;have bT:((MJ c.l i).kd==1)=false:=zalaj.2 E;have cV:((MJ c.l i).kd==3)=false:=zalaj.2 ao;have il:((MJ c.l i).kd==4)=false:=zalaj.2 aM;exact(A).o):G:=h
def an5 (h:G:=by
  go_wp2_with fail;refine(ab8 _ _ _ (by unfold maxLen;simp;omega) (by unfold maxLen;omega)).mono ?_
  exact(A).o):G:=h
def aul (h:G:=by
  go_wp2_with fail;refine NJ ?_;intro e bh ae;obtain⟨⟨pC,rfl,iD,rfl,ho⟩,aY,aa⟩:=ae;have dd:=hide (b1.out.next aa);have mH:=hide aY;have h0:=hide (acV em.out b1.out.size aa a1.out ho);exact(A).o):G:=h
def aqR (h:G:=by
  have dh:=hide (i0.out.drew.next aa);have Aw:=hide fq;have b':=hide (uR.out.stay (((Ap.refl c.P cM.heap.size cM).drew).next aa) a1.out);exact(A).o):G:=h
def aqS (h:G:=by
  refine ug 0 (.func (.func 82) #[] #[Mc eF 0,Mc ds 0]) rfl (zalad ⟨by kernel_rfl,λX aB=>by have aJ:=Md aB rG;go_simp⟩) aE ?_
  exact(A).o):G:=h
def axG (h:G:=by
  rintro e bh ⟨⟨rfl,iP⟩,hP⟩;have fe:LX fQ bh:=eo.trans (hP.mono eo.size);have Cy:=Na.later wZ.out hP;obtain⟨a',n5⟩:∃ a',a'=aq.heap.size+1:=⟨_,rfl⟩;have ye:fQ.heap.size<=a':=by rw[n5];have:=eo.size;omega
  have GM:a'<bh.heap.size:=by rw[n5];exact lt_of_heap iP
  rw[<-n5] at iP ⊢;have G9:fn<bh.heap.size:=zalau uH.out hP.size;exact(A).o):G:=h
def aqT (h:G:=by
  rw[T] at aG;have ac:r=.bad er pl:=Lu aG;subst ac;clear T;go_wp2_with fail;exact(A).o):G:=h
def awK (h:G:=by
  generalize a.p=p at bF c0 c3 ⊢
  generalize x.p=na at fN j3 pD
  generalize y.p=gO at fc kE fZ jK
  generalize ks.length=zx at c3
  subst v8;have hm:(0:Int)<((zx+1+1:Nat):Int):=LM;have eH:(1:Int)<((zx+1+1:Nat):Int):=LM;clear bd m1 Cx yJ hD gx k3 am;obtain⟨X,aB⟩:∃ X,X=[K,V,M,ah].flatten:=⟨_,rfl⟩;rw[<-aB];have cy:=hide aB;have AZ:=hide pD;clear aB;exact(A).o):G:=h
def axI (h:G:=by
  have mJ:Hid (fQ.cell? (LD tb 0)=some (.map (some aw))):=Md q7.out ht.out;have b9:Hid (fQ.cell? (LD p 1)=some (LQ tx)):=Md q7.out es.out;have aE:LX fQ fQ.drew:=O4.drew;refine MR 14 (λX=>LX fQ X) Nw ?_;obtain⟨wd,cb⟩:∃ wd,wd=fQ.drew:=⟨_,rfl⟩;have k6:wd.heap.size=fQ.heap.size:=by rw[cb];rfl
  rw[<-cb] at aE ⊢;have me:=hide k6;clear cb k6;exact(A).o):G:=h
def alN (h:G:=by
  have dl:=hide h.base.size;obtain⟨a6,b4,bL,bM,bP⟩:=zalbl info22;exact(A).o):G:=h
def aAK (h:G:=by
  refine uh 7 (LC p) aE ?_;refine Qh 8 λK U=>?_;go_simp;refine azO ?_;rintro e aq ⟨⟨u3,rfl,tQ⟩,bx⟩;have eo:LX w2 aq:=aE.trans (bx.mono aE.size);have d6:Na w2.heap.size aq u3 aR:=Ob tQ aE.size;obtain⟨en,i7,rfl⟩:=LZ d6;refine alD ?_;clear U K;refine uh 9 (.agg #[LJ (no:Int),.slice en aR.length i7,L9 false,Pe]) eo ?_;refine Qh 10 λK U=>?_;go_simp;exact(A).o):G:=h
def alO (h:G:=by
  have hY:=hide kY;have nz:=hide hlet;have eu:=hide hw;clear kY hlet hw aY;exact(A).o):G:=h
def aum (h:G:=by
  go_wp2_with fail;refine NJ ?_;rintro e cT ⟨rfl,qs⟩;have ig:=hide (E4.out.later qs);have iH:=hide (DP.out.next (Ap.of qs));replace nE:=hide (QE (c:=c) nE.out (Ap.of qs) a1.out);exact(A).o):G:=h
def aAL (h:G:=by
  have pQ:=hide (Lu pM wz _ _ _ rfl gt o2 gf jd);have b8:wz.cell? (LD p 3)=some (.slice dj al.length cY):=by
   rw[zalar (w:=bn) (a:=(LD p 3)) (hset p LM)];exact Md hJ.out em.out
  have je:=cell_lt b8;rw[<-d7];clear d7 hset o2 ld l0 oy;go_simp;go_wp2_with fail;obtain⟨sG,q9⟩:=Lu pQ;have fv:=hide sG;have pL:=hide q9;clear q9;exact(A).o):G:=h
def aqU (h:G:=by
  refine zlr ?_;refine ug 4 (.slice dj kn cY) rfl (zalad ⟨by kernel_rfl,λX aB=>by have aJ:=Md aB em.out;go_simp⟩) aE ?_
  exact(A).o):G:=h
def aun (h:G:=by
  go_wp2_with fail;refine NJ ?_;rintro e aj ⟨rfl,jV⟩;have mE:=hide (bR.out.next (Ap.of jV));have j':=hide (bX.out.later jV);replace fw:=hide (QE fw.out (Ap.of jV) a1.out);exact(A).o):G:=h
def atz (h:G:=by
  obtain⟨q,ac⟩:∃ q,q=ps[k]:=⟨_,rfl⟩;rw[<-ac] at dU ag;have eY:(k:Int)<(t.kids.length:Int):=LM;have gw:t.kids.length<=100000:=by have:=NG t.kids;omega
  exact(A).o):G:=h
def auo (h:G:=by
  have ky:(((s[q].toNat:Nat):Int)==39)=true:=by rw[c1];rfl
  have gl:(((s[q].toNat:Nat):Int)==10)=false:=by rw[c1];rfl
  rw[X3 s q said ef (by rw[dL];exact c1)] at cX
  exact(A).o):G:=h
def alP (h:G:=by
  have f2:=hide aD;clear aD;have i':Lists aj bi (w.alloc O35):=bm.later Qn;exact(A).o):G:=h
def aAM (h:G:=by
  refine Qh 8 λK U=>?_;go_simp;refine cm (Lu ka _ (bj.out.trans (aE.mono bj.out.size))) ?_;rintro e bn ⟨rfl,tG,CP⟩;refine zlm ?_;clear U K;refine UW Nw ?_ _;have lM:w.heap.size<wd.heap.size:=by have:=Lu me;omega
  have vg:Hid (bn.cell? (LD w.heap.size 0)=some (.pointer aQ)):=(tG.cell (zalal ⟨Nh,lM⟩) lM).trans (Md aE fj.out);exact(A).o):G:=h
def aup (h:G:=by
  have O:=wpOp_putIf ob (hfree j oj ob hC hjun hnot) (λbl c=>hsel i dy bl c ak) (λbl c=>hsel j oj bl c ob) c' hy (H.2 j (zalgg aT hC));refine wpOp_mono (λik w' ao=>?_) O;exact(A).o):G:=h
def auq (h:G:=by
  have aE:LX w1 w1.drew:=O4.drew;refine MR 11 (λX=>LX w1 X) Nw ?_;obtain⟨wd,cb⟩:∃ wd,wd=w1.drew:=⟨_,rfl⟩;rw[<-cb] at aE ⊢;clear cb;refine aqV ?_;exact(A).o):G:=h
def aAN (h:G:=by
  have bk:=hide (mc.out.push fp rfl hown3 dD (dc.imp id λe=>by rw[e];simp))
  have vV:aq.heap[be]? = some (NK #[.slice aQ ah.length cc] 52):=(dD.block be OM (λe=>zy e.symm)).trans fp;have ld:aq.cell? (LD be 0)=some (.slice aQ ah.length cc):=by rw[cell_of vV];rfl
  have l0:aq.frozen? (LD be 0)=false:=Ny vV 0;have oy:=lt_of_heap vV;exact(A).o):G:=h
def aAO (h:G:=by
  refine NJ ?_;intro e ax ae;obtain⟨⟨ck,rfl,yO⟩,aY,aa⟩:=ae;have dh:=hide (jp.out.drew.next aa);have fi:=hide aY;have hlt2:=aY.lt;have b':=hide (Open.later bI.out (((Ap.refl c.R d0.heap.size d0).drew).next aa) a1.out);have w8:=hide (((Ap.refl c.R d0.heap.size d0).drew).next aa);have sH:=hide yO;obtain⟨dW,dX,d3⟩:=b'.out.cell;exact(A).o):G:=h
def aAP (h:G:=by
  have cO:=hide h;have bo:=hide ((h.alloc Ri).drew);have rn:=hide (((h.alloc Ri).alloc Ri).drew);have cQ:Hid (∀ L:LK,Ol c L i d->(Instr.lookup 199 (.map (some c.mS)) (LQ s) true).run prog L=.ok (.tuple #[.agg #[LQ x.tx,LJ x.kd,LJ x.parts,LJ x.str],L9 true]) L):=λL aO=>by
   have:=V6 c s L aO.base.signs;rw[ay] at this;exact this
  exact(A).o):G:=h
def ayc (h:G:=by
  obtain⟨s1,vy⟩:∃ s1,s1=V++F:=⟨_,rfl⟩;obtain⟨s2,vz⟩:∃ s2,s2=s1++G:=⟨_,rfl⟩;rw[<-vy,<-vz];have k7:s1.length<=40000:=by rw[vy,zalab];omega
  have Kx:s2.length<=60000:=by rw[vz,zalab];omega
  have Fg:=hide vy;have Fh:=hide vz;clear vy vz;go_enter func113,ntmps113;exact(A).o):G:=h
def an6 (h:G:=by
  have b9:=hide (Uy bN.out wh d j _ aD T.symm (by nofun) kL.out);rw[T] at bY;exact(A).o):G:=h
def aur (h:G:=by
  refine cm (dQ.out _ bo.out) ?_;rintro e w1 ⟨rfl,D⟩;obtain⟨g4,g0,bq⟩:=aus cO.out D;have cd:=hide g4;have eu:=hide g0;have p':=hide bq;clear bq;exact(A).o):G:=h
def aqW (h:G:=by
  go_wp2_with fail;refine NJ ?_;rintro e gR ⟨rfl,D⟩;have fu:=hide (mG.out.below D);clear c0 c1 c2 c3 dx lx h4 ey;exact(A).o):G:=h
def aAQ (h:G:=by
  replace pt:=hkeep pt LM;replace sS:=hide (hkeep sS.out LM);replace mI:Hid (cN.cell? (LD w.heap.size 0)=some (.slice va (ps.length+1) ck)):=by show _=_;rw[cell_of yl];rfl
  replace eW:=hide yl;have Kg:=cell_lt b8;have Kf:=cell_lt sl;have Ki:=cell_lt pt;rw[<-lP];clear lP hset HN hkeep yl hps1 H2 H1 ld l0 oy v4 eB j3;exact(A).o):G:=h
def aAR (h:G:=by
  refine wt 12 (LC gz) ?_;refine wt 13 (Mc gz 3) ?_;refine O7 14 λK U=>?_;go_simp;refine Qd ?_;clear U K;refine aad ?_;obtain⟨bZ,cf,cx⟩:=Lu cD;obtain⟨qU,j0,ix⟩:=bZ.nv;have gL:qU=gz:=by simpa[LC] using j0.symm
  subst gL;have gg:=Lu ht;have fL:=hide ix;have f4:=hide cf;have hL:=hide cx;clear j0;go_wp2_with fail;exact(A).o):G:=h
def aAS (h:G:=by
  have de:=Me eh.out g rfl;have dU:wr.cell? (LD g k)=some (LC y.p):=by
   rw[D.cell (p:=(LD g k)) de.1,eh.out.cellAt k LM,hy];simp[aC,aP]
  have cS:g<wr.heap.size:=LM;have cB:Hid (LX L wr):=ba.out.trans (D.mono ba.out.size);obtain⟨n,u,av⟩:=(Tv (Lu dQ wr cB.out) y (by rw[hy];exact zalao aC)).blk
  exact(A).o):G:=h
def aut (h:G:=by
  have dL:=aa4 s q ef;have bT:=Rf s[q] 39;have a':=Rf s[q] 10;have cV:=Rf s[q] 92;have K1:((q:Int)==(s.size:Int))=false:=zalaj.2 LM;exact(A).o):G:=h
def ak7 (h:G:=by
  obtain⟨v,az,E,h⟩:=binds h;obtain⟨s,aX,O,h⟩:=binds h;exact(A).o):G:=h
def auu (h:G:=by
  rw[<-cb];clear cb;refine ug 0 (Pv (.pointer aQ) dk) rfl (zalad ⟨by kernel_rfl,λX aB=>by have aJ:=Md aB fj.out;have E:=Md aB ea.out;go_simp⟩) aE ?_
  exact(A).o):G:=h
def aAT (h:G:=by
  refine wg 14 (L9 true) rfl (zalad ⟨by kernel_rfl,λL aO=>by cases aO;go_simp⟩) rfl ?_
  refine wg 15 (L9 true) rfl (zalad ⟨by kernel_rfl,λL aO=>by cases aO;go_simp⟩) rfl ?_
  refine XY ?_;go_wp2_with fail;have jC:c.P<(w1.heap.size+1+1):=by rw[ii.out];omega
  have hs:=hide ((nG.out.later jC O4.drew).later jC O4.drew);exact(A).o):G:=h
def an7 (h:G:=by
  go_wp2_with fail;refine cm dQ.out ?_;rintro e w1 ⟨rfl,D⟩;have aV:=hide D;exact(A).o):G:=h
def auv (h:G:=by
  clear af;go_wp2_with fail;refine WB ?_;rintro e cM ⟨rfl,k5,gJ⟩;replace bI:=hide (bI.out.stay gJ a1.out);replace bS:=hide (bS.out.next gJ);replace bk:=hide k5;exact(A).o):G:=h
def an8 (h:G:=by
  have am:=UD c w i er pl h;rw[zalaj.2 he] at am;have ag:=hide am;exact(A).o):G:=h
def auw (h:G:=by
  have D:=Yy aj bi s i kd n tx e aC hQ T;rw[UY aj bi s i au kd n tx e aC T D.1] at h;have dI:=QF O8 s e;have dE:=QV O8 s e D.2;exact(A).o):G:=h
def aAU (h:G:=by
  unfold NW at f7;rw[ii.out,show (((0:Nat):Int)+1)=1 from rfl] at f7;have ag:=hide f7;obtain⟨eq,uc,ji⟩:=hs.out.op.shape;subst ji;have gu:=(node_cells hs.out.op.blk).2.2.2.1;have ja:=(node_cells hs.out.op.blk).2.2.2.2;have ed:(w1.heap.size+1+1)<wr.heap.size:=lt_of_heap hs.out.op.blk;clear mB dg k0;exact(A).o):G:=h
def auy (h:G:=by
  intro e aq ae;obtain⟨⟨v3,rfl,mA,rfl,hn⟩,aY,aa⟩:=ae;have b1:=hide (bR.out.next aa);have f5:=hide aY;have gU:=hide (TD hn bR.out.size);exact(A).o):G:=h
def aqh (h:G:=by
  have cA:k=ts.length:=LM;subst cA;go_wp2;go_ret;have h:=Lu h1;rw[zalaq] at h;exact(A).o):G:=h
def aqX (h:G:=by
  go_wp2_with fail;refine WB ?_;rintro e aq ⟨⟨v,rfl,q,rfl⟩,⟨eI,df⟩,_,da⟩;have dr:=hide df;exact(A).o):G:=h
def atq (h:G:=by
  unfold Qy at h;obtain⟨_,a6,aJ,h⟩:=binds h;obtain⟨b,az,E,h⟩:=binds h;obtain⟨c,aX,O,h⟩:=binds h;obtain⟨f,ca,ao,h⟩:=binds h;exact(A).o):G:=h
def apS (h:G:=by
  clear en jA bT;go_wp2_with fail;refine cm (Lu dm _ ba.out) ?_;rintro e gR ⟨rfl,k8⟩;rw[k8];exact(A).o):G:=h
def aAV (h:G:=by
  refine zll ?_;refine wg 1 (LJ x.kd) rfl (zalad ⟨by kernel_rfl,λL aO=>by obtain⟨_,jl,_,_,_,_⟩:=c160 aO;go_simp⟩) ih.out ?_
  refine wh 2 (Nz c) ih.out ?_;refine wh 3 (Nz c) ih.out ?_;refine wh 4 (.func (.func 292) #[Nz c] #[]) ih.out ?_;refine UK 5 λK U=>?_;go_simp;refine NJ ?_;exact(A).o):G:=h
def aAW (h:G:=by
  have oG:Hid ((f9.map Prod.snd).reverse=if ((37:Int)==37 && !decide (LH=LH))=true then ⟨aL.length,[LH],false⟩::(ps.map Prod.snd).reverse else (ps.map Prod.snd).reverse):=by
   show _=_
   rw[hps1];rfl
  clear hps1;have hq:=ba;obtain⟨cN,lP⟩:∃ cN,cN=w1:=⟨_,rfl⟩;exact(A).o):G:=h
def aAX (h:G:=by
  have iv:=aaS;have b3:=hide b3;have bk:=hide bk
  go_enter_defers func43,ntmps43
  go_wp2_with fail;refine cm b3.out ?_;rintro e w2 ⟨c,rfl,ed,Ce,aY,a5⟩;have ag:=hide (bk.out c w2 ed aY);have bj:=hide a5;have j6:=hide Ce;clear ed Ce;go_wp2_with fail;refine NJ ?_;intro e aq ae;exact(A).o):G:=h
def atp (h:G:=by
  obtain⟨_,a9,fc,O⟩:=binds O;obtain⟨_,bD,dn,O⟩:=binds O;obtain⟨_,b8,hv,O⟩:=binds O;obtain⟨cw,e0,iM,O⟩:=binds O;exact(A).o):G:=h
def auz (h:G:=by
  have vh:=hide (lt_of_heap e3.out.nd);have zu:=Yz ⟨q,rfl,l9.out⟩ cI (by have E:=Lu a1;have O:=Lu vh;omega) jz.out gy
  exact(A).o):G:=h
def aqY (h:G:=by
  have e':=hide cJ;have dd:=hide (b1.out.next dS);have l8:=hide (KV.later em.out dS a1.out);exact(A).o):G:=h
def axz (h:G:=by
  have bG:w2.heap[w.heap.size+1]? = some (NK #[Pe,L9 false] 112):=by rw[bW,Qu LM];exact Lu cd
  have bj:=hide a5;have dw:Hid (w.heap.size+2<=w2.heap.size):=by show _<=_;omega
  have cU:=hide bE;have bX:=hide bG;clear bW dV bE bG k0 a9 b8 gP iX lb vX CR Df;exact(A).o):G:=h
def aAY (h:G:=by
  have oG:Hid ((f9.map Prod.snd).reverse=if ((5:Int)==37 && !decide (tx=LH))=true then ⟨aL.length,[tx],false⟩::(ps.map Prod.snd).reverse else (ps.map Prod.snd).reverse):=by
   show _=_
   rw[hps1];rfl
  clear hps1;have hq:=ba;obtain⟨cN,lP⟩:∃ cN,cN=w1:=⟨_,rfl⟩;exact(A).o):G:=h
def aAZ (h:G:=by
  have waits:∀ {listed:Array Bool} {j:Nat} {oj:Oper},i ∈ Region.ready bU ops listed->(∀ e ∈ oj.after,Region.binds bU e=true->listed.getD e.on false=true)->∀ e ∈ oj.after,Region.binds bU e=true->e.on≠i:=by
   intro listed j oj T hall e he D k1;exact aA0
  intro n;exact(A).o):G:=h
def auA (h:G:=by
  have bF:=cell_lt c0;have cK:=hide c3;have dm:=hide bB;have gY:=hide h9;have nC:=hide hnum;have ht:=hide cg;have iU:=cell_lt cg;exact(A).o):G:=h
def aA1 (h:G:=by
  have cK:=hide (OZ c _ j Qv MK af bk.out);clear af;go_wp2_with fail;refine WB ?_;rintro e gR ⟨rfl,D⟩;replace bI:=hide (bI.out.stay (Ap.of D) a1.out);replace bS:=hide (bS.out.next (Ap.of D));replace bk:=hide (bk.out.later D);clear c0 c1 c2 c3 dx h4 ey;have af:=jX;exact(A).o):G:=h
def ap9 (h:G:=by
  rw[a2] at ag;have fh:=hide a2;clear a2;go_wp2_with fail;refine NJ ?_;rintro e w2 ⟨rfl,rfl⟩;exact(A).o):G:=h
def aA2 (h:G:=by
  have u3:(((s[q+1].toNat:Nat):Int)==92)=false:=by rw[show (92:Int)=(((92:UInt8).toNat:Nat):Int) from rfl,fy];simp[b8]
  have eA:esc (bt s (q+1))=none:=by rw[mY];simp[esc,a9,bD,b8]
  rw[TV s q said ef (by rw[dL];exact c3) (λ_=>eA)] at cX
  exact(A).o):G:=h
def anM (h:G:=by
  obtain⟨v,az,E,h⟩:=binds h;obtain⟨_,aX,O,h⟩:=binds h;exact(A).o):G:=h
def aA3 (h:G:=by
  obtain⟨aD,yB⟩:∃ aD,aD=Oq (MJ c.l i).tx:=⟨_,rfl⟩;rw[<-yB] at aF;have ag:=hide (af8 c w i d cO.out jM.out);rw[<-yB] at ag;clear yB;go_wp2_with fail;refine NJ ?_;rintro e wk ⟨rfl,y2,qq⟩;have rt:=hide y2;have q2:=hide (fG.out.next qq);exact(A).o):G:=h
def aA4 (h:G:=by
  clear aI;have g9:Hid (r=((MG c.l NZ (j+1)).bind λ_ az=>(nameP c.l az).bind λs aX=>(MG c.l OX aX).bind λ_ ca=>(MV c.l F d ca).bind λa' gi=>(Oh c.l F d gi).bind λf ff=>.ok (.mk 12 LH 0 (b :: .mk 13 s 0 [a']::f)) ff)):=aGx
  exact(A).o):G:=h
def aqZ (h:G:=by
  have aI:=(aa.block _ (lt_of_heap kO.out.nd) (by have:=Lu a1;omega)).trans kO.out.nd
  exact(A).o):G:=h
def aqe (h:G:=by
  have htot:Tr.counts (t.kids.take k)+(t.kids[k]).count<=Tr.counts t.kids:=aGy
  exact(A).o):G:=h
def auB (h:G:=by
  have bm:=Lu cQ;have hj:=aY.lt;have bX:=hide aY;have nK:=hide aY;have bR:=hide dq;have e3:=hide e7;have ny:=hide dE;exact(A).o):G:=h
def aA5 (h:G:=by
  have uy:=hide (oA.out.alloc oA.out.size (.cells #[LJ (MJ c.l i).kd,LQ (MJ c.l i).tx,LJ (MJ c.l i).n,LJ ((MJ c.l i).pl:Int)] 138));have AG:=hide (nM.out.alloc (.cells #[LJ (MJ c.l i).kd,LQ (MJ c.l i).tx,LJ (MJ c.l i).n,LJ ((MJ c.l i).pl:Int)] 138));exact(A).o):G:=h
def aA6 (h:G:=by
  obtain⟨bK,⟨v,D,hown⟩,iQ⟩:=e6;have cF:l.length<=90000:=ab;obtain⟨aQ,cc,rfl⟩:=LZ hown;have eK:w.cell? (LD b 0)=some (.slice aQ l.length cc):=by rw[Lib.cell_of_heap D];rfl
  have aZ:w.frozen? (LD b 0)=false:=Lib.frozen_of_heap D 0;exact(A).o):G:=h
def aqb (h:G:=by
  obtain⟨k,bf,N,rfl,hown,hE,hbel⟩:=hrel;have bb:=hide hown;have h1:=hide hE;exact(A).o):G:=h
def atn (h:G:=by
  intro t j h;unfold Px at h;obtain⟨_,az,E,h⟩:=binds h;obtain⟨u,aX,O,h⟩:=binds h;obtain⟨_,ca,ao,h⟩:=binds h;exact(A).o):G:=h
def aA7 (h:G:=by
  go_enter func138,ntmps138;go_wp2_with fail;refine wp_region_held (S:=λY=>Y=w.drew) Nw ?_;refine alv ?_;refine wh 0 (LC p) rfl ?_;refine UK 1 λK U=>?_;go_simp;refine cm bb.out ?_;rintro e w1 ⟨rfl,rfl⟩;refine U.out _ _ rfl (λ_=>?_);clear U K;exact(A).o):G:=h
def atv (h:G:=by
  have eY:(k:Int)<(l.length:Int):=LM;obtain⟨x,af⟩:∃ x,x=l[k]:=⟨_,rfl⟩;rw[<-af] at am;have cy:=hide af;exact(A).o):G:=h
def auC (h:G:=by
  have pM:=hide (an9 ce a x y bd aA I aI aw be aZ aK aL post ah ps false w bv aO aa ak c6 bF bm dj cY (Qr hrow.1) hrow.2);exact(A).o):G:=h
def auD (h:G:=by
  obtain⟨bp,o3⟩:∃ bp,bp=OE b a:=⟨_,rfl⟩;rw[<-o3] at ct ac;obtain⟨p,ae⟩:∃ p,p=a.p:=⟨_,rfl⟩;exact(A).o):G:=h
def auE (h:G:=by
  have pM:=hide (an9 ce a x y bd aA I aI aw be aZ aK aL post ah ps true w bv aO aa ak c6 bF bm dj cY (Qr hrow.1) hrow.2);exact(A).o):G:=h
def auF (h:G:=by
  go_wp2_with fail;refine WB ?_;rintro e aq ⟨rfl,D⟩;have dr:=hide (cU.out.later D);have b1:=hide (bR.out.next (Ap.of D));exact(A).o):G:=h
def auG (h:G:=by
  go_wp2_with fail;refine NJ ?_;rintro e cM ⟨⟨u6,rfl,jg⟩,eT⟩;obtain⟨Ba,eF,rfl⟩:=LZ jg;have kM:=hide jg;exact(A).o):G:=h
def aq0 (h:G:=by
  go_wp2_with fail;refine cm fZ.out ?_;rintro e aq ⟨rfl,rfl⟩;go_wp2_with fail;exact(A).o):G:=h
def aq1 (h:G:=by
  obtain⟨k,cq,rfl,hown,hbel⟩:=hrel;have HOWN:=hide hown;have aV:=hide hbel;exact(A).o):G:=h
def ax0 (h:G:=by
  have bN:=hide ai;clear h ai
  generalize od:t.kids=ts at dN ab
  clear od t;go_enter func214,ntmps214;go_wp2_with fail;refine cm dN.out ?_;rintro e w1 ⟨⟨u,rfl,T⟩,rfl⟩;obtain⟨va,ck,rfl⟩:=T.form;have bo:=hide T;go_wp2_with fail;exact(A).o):G:=h
def aA8 (h:G:=by
  have dQ:=hide aH;have hK:=hide iQ;have bb:=hide hown;have aV:=hide D;have g8:=hide (Me hown);have d':∀ g,(Value.slice aQ l.length cc).ownBlock=some g->g≠b:=λg hg=>by have:=(Me hown g hg).2;omega
  have kK:=hide d';exact(A).o):G:=h
def aA9 (h:G:=by
  clear T;go_enter func254,ntmps254;go_wp2_with fail;refine cm uC.out ?_;rintro e w1 ⟨⟨v,rfl,q,rfl,eH⟩,cv,fo⟩;have cD:=hide cv;have b7:=hide fo;have dO:Hid (NV w.heap.size w1 cg (LC q)):=⟨q,rfl,eH⟩;go_wp2_with fail;exact(A).o):G:=h
def aqd (h:G:=by
  go_enter func31,ntmps31;go_wp2_with fail;refine NJ ?_;rintro e w1 ⟨rfl,gd,fo⟩;exact(A).o):G:=h
def aq2 (h:G:=by
  have b':=hide (bI.out.stay (((Ap.refl c.P gQ.heap.size gQ).drew).next aa) a1.out);exact(A).o):G:=h
def aq3 (h:G:=by
  have b':=hide (bI.out.stay (((Ap.refl c.P cT.heap.size cT).drew).next aa) a1.out);exact(A).o):G:=h
def aq4 (h:G:=by
  have b':=hide (bI.out.stay (((Ap.refl c.P cM.heap.size cM).drew).next aa) a1.out);exact(A).o):G:=h
def aBa (h:G:=by
  have iz:¬ fx c.l i=QU:=by rw[an];decide
  have kr:¬ fx c.l i=Uu:=by rw[an];decide
  have mz:¬ fx c.l i=Oo:=by rw[an];decide
  have oo:¬ fx c.l i=Ov:=by rw[an];decide
  have pw:¬ fx c.l i=MS:=by rw[an];decide
  exact(A).o):G:=h
def ayn (h:G:=by
  rintro e w2 ⟨y,rfl,hy,a5⟩;have fb:=hide hy;have bj:=hide a5;go_wp2_with fail;refine(ail x y _ _ _ (cy.out.later bj.out) fb.out).mono ?_;rintro e aq ⟨z,rfl,b5,bx⟩;have fH:=hide b5;have bV:=hide bx;go_wp2;go_ret;exact(A).o):G:=h
def aq5 (h:G:=by
  refine⟨rfl,by simp[Tr.kd],by simp[Tr.kd],by simp[Tr.kd],λ_ k N=>?_⟩;exact(A).o):G:=h
def aBb (h:G:=by
  intro w i r W ay h N;unfold PX at W;have a1:=hide h.SB;have E8:=hide y6;have bb:=hide ay;have aF:=hide W;have dN:=hide N;have l5:=hide hg;have ag:=hide (λr T ay=>eR w i r T ay h N);have gW:=hide eR;clear W ay y6;exact(A).o):G:=h
def auH (h:G:=by
  have ag:=hide (NR c Nb (aq.setCell (LD bq 3) (.slice (some (LD g 0)) (cg.kids.length+1) cap)) hV d f4.out MK);exact(A).o):G:=h
def aql (h:G:=by
  rintro e bn ⟨rfl,ec⟩;have d5:=hide (fK.out.trans (ec.mono fK.out.size));exact(A).o):G:=h
def aqm (h:G:=by
  rintro e bh ⟨rfl,hP⟩;have fK:=hide (bV.out.trans (hP.mono bV.out.size));exact(A).o):G:=h
def as4 (h:G:=by
  rw[<-eC] at av;obtain⟨ct,d1,d2,fy,_⟩:=node_cells av;have qd:=Lib.frozen_of_heap av;have lz:=lt_of_heap av;exact(A).o):G:=h
def asZ (h:G:=by
  obtain⟨w2,bW⟩:∃ w2,w2=w.alloc (.cells #[QJ] 46):=⟨_,rfl⟩;have a5:LX w w2:=by rw[bW];exact Qn
  exact(A).o):G:=h
def aBd (h:G:=by
  obtain⟨va,ck,rfl⟩:=LZ gN;refine an0 ?_;have hne5:=Me gN;clear U K;have o4:bn.heap[w.heap.size]? = some (NK #[.slice (some (LD g 0)) ps.length cap] 114):=by rw[dK.block _ (lt_of_heap eW.out)];exact Lu eW
  exact(A).o):G:=h
def aqf (h:G:=by
  obtain⟨k,N,rfl,hg,dq⟩:=hrel;have ic:=hide hg;have eP:=hide dq;exact(A).o):G:=h
def aqg (h:G:=by
  have i4:=hide aU;have lr:=hide g6;have re:=hide aH;have hX:=hide eO;exact(A).o):G:=h
def aBe (h:G:=by
  have em:Hid (w1.cell? (LD p 3)=some (.slice dj al.length cY)):=Md bz c3;have mI:Hid (w1.cell? (LD w.heap.size 0)=some (.slice (some (LD g 0)) ps.length cap)):=by show _=_;rw[cell_of hB];rfl
  clear c9 hB c0 n0 c3;exact(A).o):G:=h
def auI (h:G:=by
  have cJ:bh.heap[w.heap.size]? = some (NK #[.pointer aQ,L9 true] 112):=by rw[fe.block _ LM];exact Lu cU
  exact(A).o):G:=h
def auJ (h:G:=by
  have an:=ajS (l:=l) (i:=i) (by rw[N];decide) (by rw[N];decide)
  unfold Qx;rw[an,kn,Iy];simp only;exact(A).o):G:=h
def aBf (h:G:=by
  clear he hinv iS cF;have ac:r=.bad 2 j:=by rw[<-cG.out,Tc aj ML s j au 2 j aC aY]
  subst ac;exact azI):G:=h
def aBg (h:G:=by
  have jC:c.P<(w1.heap.size+1+1):=by rw[ii.out];omega
  have ve:Hid (LX w1 ((w1.alloc (.cells #[LJ 0,LJ (-1)] 86)).alloc (.cells #[.slice (some (LD g 0)) l.length cap,LJ 0,LJ 0,LJ (-1)] 166))):=Qn.alloc MP _;exact(A).o):G:=h
def aBh (h:G:=by
  have wG:Hid (w.heap.size<=a'):=by show _<=_;omega
  clear d7 hset iP cJ qV qW la jG dV ye;go_wp2_with fail;have fj:Hid (wz.cell? (LD w.heap.size 0)=some (MX a')):=by show _=_;rw[cell_of uW.out];rfl
  exact(A).o):G:=h
def asK (h:G:=by
  obtain⟨a6,b4,bL,bM,bP⟩:=zalbl info9;obtain⟨va,ck,rfl⟩:=h.form;have bo:=hide h;clear h;exact(A).o):G:=h
def auK (h:G:=by
  intro e w2 ae;obtain⟨⟨v2,rfl,rfl⟩,aY,aa⟩:=ae;have bR:=hide (b7.out.next aa);have bX:=hide aY;exact(A).o):G:=h
def auL (h:G:=by
  intro e w1 ae;obtain⟨⟨v1,rfl,eH⟩,aY,aa⟩:=ae;have b7:=hide (fG.out.next aa);have cd:=hide aY;exact(A).o):G:=h
def auM (h:G:=by
  have bm:=h.base.len;have go:=hide du;clear du;have jL:=hide (Q8 h.base.ends h.lt (by rw[N];decide))
  exact(A).o):G:=h
def auN (h:G:=by
  clear he hinv iS cF;have ac:r=.bad 4 j:=by rw[<-cG.out,Tc aj ML s j au 4 j aC aY]
  subst ac;exact(A).o):G:=h
def auO (h:G:=by
  clear he hinv iS cF;have ac:r=.bad 3 j:=by rw[<-cG.out,Tc aj ML s j au 3 j aC aY]
  subst ac;exact(A).o):G:=h
def auP (h:G:=by
  have bX:=hide bG;have f6:=hide a5;rw[<-hA];clear hA;refine U.out _ _ bX.out (λ_=>?_);clear U K;exact(A).o):G:=h
def auQ (h:G:=by
  rw[an] at bN mL;have ag:=hide (Lu bN dB p5.out);go_wp2_with fail;refine NJ ?_;rintro e aq ⟨rfl,rfl⟩;exact(A).o):G:=h
def auR (h:G:=by
  have bY:=hide ac;clear T ac;go_wp2_with fail;refine NJ ?_;rintro e cs ⟨⟨v,rfl,q,rfl,av⟩,cv,aa⟩;exact(A).o):G:=h
def aBi (h:G:=by
  have wI:=hide (Qq he yV);have As:=hide yV;have uv:=hide (i0.out.next yc);have uO:=hide (KV.later lk.out yc a1.out);go_wp2_with fail;refine cm wI.out ?_;rintro e fs ⟨rfl,rfl⟩;go_wp2_with fail;exact(A).o):G:=h
def aBj (h:G:=by
  have ek:aq.cell? (LD ((w1.heap.size+1+1)) 3)=_:=(zalar (w:=ax) dT).trans dW;have el:aq.frozen? (LD ((w1.heap.size+1+1)) 3)=false:=(zalef (w:=ax) dT).trans (dX 3);exact(A).o):G:=h
def aBk (h:G:=by
  refine cm (QD c _ i d et.out.drew) ?_;rintro e w1 ⟨rfl,D⟩;have cd:=hide (et.out.drew.later D);have ba:=hide (pH.out.trans ((O4.drew.trans D).mono pH.out.size));refine aqw ?_;clear U K;exact(A).o):G:=h
def aBl (h:G:=by
  refine cm Eu.out ?_;rintro e fP ⟨⟨K8,rfl,HS⟩,dT⟩;have C8:=Tz HR dT;refine U.out _ _ (λ_=>aE.trans ((mn.trans (dT.mono mn.size)).mono (zalge c6.symm))) ?_;clear U K;exact(A).o):G:=h
def aBm (h:G:=by
  have df:aq.cell? (LD w.heap.size 3)=ax.cell? (LD w.heap.size 3)/\aq.frozen? (LD w.heap.size 3)=ax.frozen? (LD w.heap.size 3):=aGz
  obtain⟨ek,el⟩:=df;rw[dW] at ek;rw[dX 3] at el;exact(A).o):G:=h
def ax9 (h:G:=by
  have hnews:news=[]:=zalbr.1 (by rw[hown2.1]);subst hnews;obtain⟨ad,k,rfl⟩:=LZ hown2;have N:=h v w (by rw[zalba];exact hown) ⟨rfl,rfl,rfl,Nh,λ_ _ _=>rfl⟩
  exact(A).o):G:=h
def aBn (h:G:=by
  have rO:LX ax _:=(((zalbd ax.heap.size ax).alloc Nh (.cells #[LC bu] 22)).alloc MP (MB 13 s 0 (.slice (some (LD ax.heap.size 0)) 1 1))).alloc (by simp <;> omega) (.cells #[LC (ax.heap.size+1)] 22);exact(A).o):G:=h
def aBo (h:G:=by
  clear dc dT dW dX d3;refine wt 9 (LC (w1.heap.size+1+1)) ?_;refine wt 10 (Mc ((w1.heap.size+1+1)) 3) ?_;refine O7 11 λK U=>?_;go_simp;refine Qd ?_;clear U K ek el h';refine aad ?_;go_wp2_with fail;exact(A).o):G:=h
def aBp (h:G:=by
  have aI:=(aa.block _ (lt_of_heap fu.out.nd) (by have:=Lu a1;omega)).trans fu.out.nd
  have br{G}(h:G:=by
  have bv:=fu.out.ap.next aa;exact(A).o):=LG h;exact aqv):G:=h
def aBq (h:G:=by
  clear cJ;obtain⟨ps,hown,iP⟩:=Lu l8;have hlen:=LU.length _ _ iP;have xW:=Me hown;rw[hlen] at hown;have HOWN:=hide hown;have HLEN:=hide hlen;have hr:=hide iP;have bK:=dd.out.size;exact(A).o):G:=h
def aBr (h:G:=by
  rw[<-gg] at bZ;have fv:Hid (cg.kids.length=0):=by
   show _=_
   rw[gg];rfl
  have co:Hid (cg.kd=aD):=by
   show _=_
   rw[gg];rfl
  have ht:=hide gg;obtain⟨bq,u0,wm,gL,lL⟩:=bZ.opens;exact(A).o):G:=h
def aw0 (h:G:=by
  have c3:aq.cell? (LD w.heap.size 0)=some v:=by rw[Lib.cell_of_heap bx];rfl
  have oB:Hid (LX w aq):=aGA
  have bb:=hide hown3;have cQ:=hide CA;obtain⟨aQ,cc,rfl⟩:=LZ hown3;exact(A).o):G:=h
def aBs (h:G:=by
  have g7:=hide (uR.out.Za i0.out.size Nh (LU.cons fd LU.nil) (uR.out.kb (((Ap.refl c.P cM.heap.size cM).drew).next aa) a1.out));obtain⟨dW,dX,d3⟩:=b'.out.cell;refine U _ _ ?_;clear U K;exact(A).o):G:=h
def axF (h:G:=by
  rw[<-bW];have hset:∀ k,k≠w.heap.size->w2.heap[k]? = bh.heap[k]?:=λk N=>by rw[bW,Qu N,Qu N]
  have po:w2.heap.size=bh.heap.size:=by rw[bW];simp
  have dI:=Lu D9;exact(A).o):G:=h
def aBt (h:G:=by
  have ag:=hide (nu.out.pr (x.str+1) LM LM ((aj.setCell (LD c.R 1) (LJ ((j:Int)+1))).alloc (.cells #[LQ x.tx,LJ x.kd,LJ x.parts,LJ x.str] 189)).drew d (j+1) _ rfl (by rw[T];nofun) ea.out)
  exact(A).o):G:=h
def axh (h:G:=by
  rw[eb];clear eb;go_wp2_with fail;refine cm f3.out ?_;rintro e w1 ⟨⟨v1,rfl,hown1⟩,bz⟩;have ll:=hide hown1;have ba:=hide bz;obtain⟨aQ,cc,rfl⟩:=LZ hown1;go_wp2_with fail;exact(A).o):G:=h
def aBu (h:G:=by
  have Is:(((q:Int)+1)==(s.size:Int))=false:=zalaj.2 LM;have mY:=aa4 s (q+1) qJ;have d1:=Rf s[q+1] 110;have d2:=Rf s[q+1] 39;have fy:=Rf s[q+1] 92;exact(A).o):G:=h
def auS (h:G:=by
  have b9:=hide (O9 c _ j Nb MK bk.out);clear aI;go_wp2_with fail;refine Ul ?_;intro e wz ae;exact(A).o):G:=h
def aBv (h:G:=by
  have E:=V7 W;have ao:((Xx (fx l i)).filter (λe=>decide (e.parts<2))).isSome=true:=by
   unfold SA at W;have O:=zaldu.1 W;rw[O.1];simp[Option.filter,E.2]
  exact(A).o):G:=h
def aBw (h:G:=by
  have bY:Hid ((lc d j).bind (λt az=>if fx c.l az=shut then PR.ok (au++[t]) (az+1) else (MG c.l Uw az).bind λ_ aX=>O5 c.l shut begins (lc d) k (au++[t]) aX)=r):=Lu aG;exact(A).o):G:=h
def aBx (h:G:=by
  have w4:=hide hown2;have hz2':w.heap.size<=w2.heap.size:=zalan cZ.out.size a5.size;have bj:=hide (cZ.out.trans (a5.mono cZ.out.size));have g8:=hide (Me oM.out);clear dU;exact(A).o):G:=h
def aBy (h:G:=by
  obtain⟨hk,_,_,_,_⟩:=node_cells lL.blk;rw[co.out] at hk;have r2:=lt_of_heap lL.blk;rw[iT] at lL hk r2;have pV:=hide lL;have iI:=hide cf;have jp:=hide cx;clear gL gg;exact(A).o):G:=h
def atH (h:G:=by
  go_wp2_with fail;refine(j8.out.word (s.extract j e)).mono ?_;rw[eu.out];rintro bO aq ⟨rfl,rfl⟩;exact(A).o):G:=h
def aBz (h:G:=by
  refine cm jv.out ?_;rintro e ni ⟨⟨eq,rfl,HR⟩,mn⟩;have Eu:=hide (Lu a1 ni mn);refine U.out _ _ (λ_=>aE.trans (mn.mono (zalge c6.symm))) ?_;clear U K;exact(A).o):G:=h
def axb (h:G:=by
  obtain⟨k,um,bf,N,rfl,ay,D⟩:=hrel;have bb:=hide ay;have aV:=hide D;have bK:=D.size;obtain⟨aQ,cc,rfl⟩:∃ a c,um=.slice a k c:=aFM
  have Am:=hide ay.cell;exact(A).o):G:=h
def auT (h:G:=by
  have ay:o=none:=by
   rw[av] at O
   cases o with
   | none=>rfl
   | some y=>simp at O
  subst ay;exact(A).o):G:=h
def axe (h:G:=by
  have fH:=hide b5;clear b5
  go_wp2_with (at_builtin;refine Wx rfl _ _ 46 rfl w.heap.size 22 a6 1 zalbk b4 _ ps.length (ps.map LC) rfl bb.out _ _ _ fH.out rfl ?_)
  go_wp2_with fail;exact(A).o):G:=h
def aBA (h:G:=by
  have pG:=hide (mE.out.alloc mE.out.size (.cells #[LQ x.tx,LJ x.kd,LJ x.parts,LJ x.str] 189));have oN:=hide (j'.out.alloc (.cells #[LQ x.tx,LJ x.kd,LJ x.parts,LJ x.str] 189));exact(A).o):G:=h
def aBB (h:G:=by
  refine Qd ?_;clear U K;have hown:=b'.out.row;have HOWN:=hide hown;have bK:=dh.out.size;refine O7 9 λK U=>?_;refine aGB ?_;exact atX):G:=h
def auU (h:G:=by
  have b7:=hide (fG.out.next aa);have cd:=hide aY;have dO:=hide (TD eH fG.out.size);exact(A).o):G:=h
def aBC (h:G:=by
  refine aqw ?_;clear U K;refine wg 6 (.tuple #[.agg #[U7,LJ 0,LJ 0,LJ 0],L9 false]) rfl (zalad ⟨by kernel_rfl,λL aO=>by have a2:=cQ.out L aO;go_simp⟩) cd.out ?_
  refine zlu ?_;exact(A).o):G:=h
def axR (h:G:=by
  intro dJ cap' aq hown' hgrow fX _;have bV:=hide ((cZ.out.alloc bK (.cells #[LQ x] 9)).grown hgrow OM (λb D=>(Me l'.out b D).2));exact aqx):G:=h
def aBD (h:G:=by
  have ag:=hide (Xc 312 313 (isVal c.l) (Y1 c.l F) NZ OX (af9 c) (aq6 nu.out) aBE aBF MK MK (aq7 cA) F.fuel d0.drew d j _ rfl (by rw[T];nofun) iI.out.drew)
  exact(A).o):G:=h
def ato (h:G:=by
  intro t j h;unfold Ru at h;obtain⟨u,az,E,h⟩:=binds h;have aW:=ai.pr _ _ _ u az E;exact(A).o):G:=h
def aBG (h:G:=by
  subst av;have f7:bl.size=ps.length * 1:=by rw[<-zalek,am];simp
  have ay:=zalhe (base:=B) (e:=22) (size:=1) X bl ps.length LM ab f7;rw[b5,am] at ay;exact(A).o):G:=h
def aBH (h:G:=by
  obtain⟨J,c7⟩:∃ J:Nat->Prop,J=λb=>I b\/(w.heap.size<=b/\b<w1.heap.size):=⟨_,rfl⟩;have eM:∀ b,I b->J b:=λb D=>by rw[c7];exact zalad D
  exact(A).o):G:=h
def aBI (h:G:=by
  refine wg 6 (.tuple #[.agg #[LQ x.tx,LJ x.kd,LJ x.parts,LJ x.str],L9 true]) rfl (zalad ⟨by kernel_rfl,λL aO=>by have a2:=wY.out L aO;go_simp⟩) cd.out ?_
  refine zlg ?_;exact(A).o):G:=h
def aBJ (h:G:=by
  rw[d6] at aG;have ac:r=.bad er pl:=Lu aG;subst ac;clear d6;go_wp2_with fail;refine WB ?_;rintro e aq ⟨⟨v,rfl,q,rfl⟩,⟨eI,df⟩,he,da⟩;have dr:=hide df;exact(A).o):G:=h
def aBK (h:G:=by
  have aY:Oe aj ML s j=.tok 3 ⟨#[]⟩ (TS (s.extract j (MH Nl s j)).data.toList) (MH Nl s j):=by rw[j1];unfold rdNum;rw[zalah eL,zalah am,zalah D]
  exact(A).o):G:=h
def aBL (h:G:=by
  have ag:=hide (ai.pr 2 MK MK (wt.alloc (.cells #[LJ (MJ c.l i).kd,LQ (MJ c.l i).tx,LJ (MJ c.l i).n,LJ ((MJ c.l i).pl:Int)] 138)) d i _ rfl (by rw[T];nofun) AG.out)
  exact(A).o):G:=h
def axK (h:G:=by
  rw[<-bW];have a5:LX w fQ:=by rw[bW];exact ba.out.setCell (p:=(LD w.heap.size 1)) Nh _
  have dV:fQ.heap.size=w.heap.size+2:=by rw[bW];simpa using Lu f'
  exact(A).o):G:=h
def axA (h:G:=by
  rw[<-bW];have a5:LX w w2:=by rw[bW];exact ba.out.setCell (p:=(LD w.heap.size 1)) Nh _
  have dV:w2.heap.size=w.heap.size+2:=by rw[bW];simpa using Lu f'
  exact(A).o):G:=h
def aBM (h:G:=by
  have ag:=hide (aBN ai ((aj.setCell (LD c.R 1) (LJ ((i:Int)+1))).alloc (.cells #[LQ x.tx,LJ x.kd,LJ x.parts,LJ x.str] 189)).drew d (i+1) ea.out (by rw[T];nofun))
  exact(A).o):G:=h
def axi (h:G:=by
  subst qE;obtain⟨a6,b4,bL,bM,bP⟩:=zalbl info22;have ag:=hide am;have bo:=hide T;have cQ:=hide ab;clear am T ab;go_enter func216,ntmps216;go_wp2_with fail;exact(A).o):G:=h
def aBO (h:G:=by
  go_wp2_with fail;refine cm b3.out ?_;rintro e w1 ⟨⟨aw,rfl,lJ,iR⟩,bz⟩;have ag:=hide (Lu dN w1 aw lJ bz iR);clear lJ iR;go_wp2_with fail;refine NJ ?_;exact(A).o):G:=h
def aw8 (h:G:=by
  obtain⟨wd,cb⟩:∃ wd,wd=wr.drew:=⟨_,rfl⟩;have k6:wd.heap.size=wr.heap.size:=by rw[cb];rfl
  rw[<-cb] at aE uS ⊢;have me:=hide k6;clear cb k6;exact(A).o):G:=h
def aBP (h:G:=by
  have cW:=((Ap.refl c.R iZ.heap.size iZ).drew).next aa;have fb:Hid (Ap c.R iZ.heap.size iZ ax/\Ol c ax ff d/\Nj (From iZ.heap.size) ax a' bu):=⟨cW,aY,jZ⟩;exact(A).o):G:=h
def aBQ (h:G:=by
  obtain⟨z,Do⟩:∃ z,z=b2[i]:=⟨_,rfl⟩;rw[<-Do] at pn oQ;have H8:=keepR bj.out pn;have ir:(i:Int)<(b2.length:Int):=LM;have o6:=aga H8;exact(A).o):G:=h
def aBR (h:G:=by
  have rv:=hide ((Qz Nl s q ef aD).trans cX);have dE:=QF Nl s (q+1);rw[rv.out] at dE;have js:=hide aD;clear aD cX;go_wp2_with fail;refine aly ?_;exact(A).o):G:=h
def aBS (h:G:=by
  have cW:=((Ap.refl c.R gn.heap.size gn).drew).next aa;have fb:Hid (Ap c.R gn.heap.size gn ax/\Ol c ax hV d/\Nj (From gn.heap.size) ax jJ bu):=⟨cW,aY,fd⟩;exact(A).o):G:=h
def aBT (h:G:=by
  have qj:=hK.out.later cZ.out;obtain⟨t,fr,hg⟩:=qj.hw;have dZ:=ad7 aj s k w2 W N qj.lw t fr hg;rw[bo.out] at dZ;refine cm dZ ?_;clear hg;exact(A).o):G:=h
def aBU (h:G:=by
  go_wp2_with (at_builtin;refine Wx rfl _ _ 46 rfl w.heap.size 22 a6 1 zalbk b4 _ 1 [LC bC] rfl (aar bn bC bK) _ _ _ jz.out rfl ?_)
  go_wp2_with fail;exact(A).o):G:=h
def ax8 (h:G:=by
  have hrun:=adX (P:=P) (w:=w) base t o.type e i 1 aH ak v n bQ hown ad k;unfold Oper.wp;simp[execOp,ay,resolve,invoke,builtin,W,af,hrun,Result.andThen];exact(A).o):G:=h
def aBV (h:G:=by
  have qj:=hK.out.later q6.out;obtain⟨t,fr,hg⟩:=qj.hg;have dZ:=ad8 bi s k bh W N qj.lg qj.zg t fr hg;rw[bo.out] at dZ;refine cm dZ ?_;exact(A).o):G:=h
def aBW (h:G:=by
  refine wg 6 (.tuple #[.agg #[U7,LJ 0,LJ 0,LJ 0],L9 false]) rfl (zalad ⟨by kernel_rfl,λL aO=>by have a2:=wY.out L aO;go_simp⟩) cd.out ?_
  refine zlu ?_;exact(A).o):G:=h
def aBX (h:G:=by
  have fW:=an1;have ex:a.ks.length<=20000:=by have:=P8 a.ks;have:=OA a;omega
  have dv:=hide a7;have yz:g<w.heap.size:=(Me a7.1 g rfl).1;exact(A).o):G:=h
def axY (h:G:=by
  have am:wr.cell? (LD g k)=some (LC q):=by rw[cZ.out.cell (p:=(LD g k)) hg];exact dZ
  have eY:(k:Int)<(ts.length:Int):=LM;have bK:=cZ.out.size;exact(A).o):G:=h
def aBY (h:G:=by
  rintro a4 w2 ⟨rfl,rfl⟩;go_wp2_with fail;have hds:∀ i,(ak:i<(s.extract j e).size)->Nl ((s.extract j e)[i].toNat:Int)=true:=λi ak=>aDf
  exact(A).o):G:=h
def aB0 (h:G:=by
  intro pC bh hown4 jY;have fp:=λk N=>(Me ju.out k N).2;have fK:=hide (bV.out.grown jY bV.out.size (λk N=>zalan ba.out.size (fp k N)));exact(A).o):G:=h
def aB1 (h:G:=by
  refine aq8 ?_;refine UK 11 λK U=>?_;go_simp;obtain⟨cu,hA⟩:∃ cu,cu=w1.alloc (.cells #[LQ x.tx,LJ x.kd,LJ x.parts,LJ x.str] 189):=⟨_,rfl⟩;exact(A).o):G:=h
def aB2 (h:G:=by
  have em:Hid (wz.cell? (LD p 3)=some (.slice dj kn cY)):=Md oD.out cK.out;have aE:LX wz wz.drew:=O4.drew;refine MR 6 (λX=>LX wz X) Nw ?_;exact(A).o):G:=h
def aB3 (h:G:=by
  have em:Hid (w2.cell? (LD p 3)=some (.slice dj kn cY)):=Md bj.out cK.out;have aE:LX w2 w2.drew:=O4.drew;refine MR 6 (λX=>LX w2 X) Nw ?_;exact(A).o):G:=h
def aB4 (h:G:=by
  go_enter func176,ntmps176;go_wp2_with fail;refine zle ?_;refine wh 0 (Nz c) cO.out.drew ?_;refine wh 1 (Nz c) cO.out.drew ?_;refine wh 2 (Mc c.R 4) cO.out.drew ?_;exact(A).o):G:=h
def awJ (h:G:=by
  obtain⟨_,bF,c0,_,_⟩:=aH.cells
  generalize a.p=p at bF c0 ⊢
  generalize a.kd=kd at c0 E bw BH h6 ei
  go_enter zalht,zalhi;go_wp2;go_ret;exact(A).o):G:=h
def aB5 (h:G:=by
  have u3:(((s[q+1].toNat:Nat):Int)==92)=true:=by rw[b8];rfl
  rw[Xd s q said s[q+1] ef (by rw[dL];exact c3) qJ (by rw[mY,b8];rfl)] at cX
  exact(A).o):G:=h
def aB6 (h:G:=by
  have u2:(((s[q+1].toNat:Nat):Int)==39)=true:=by rw[bD];rfl
  rw[Xd s q said s[q+1] ef (by rw[dL];exact c3) qJ (by rw[mY,bD];rfl)] at cX
  exact(A).o):G:=h
def aB7 (h:G:=by
  have ft:=hide (acW (aoa bN.out w.heap.size (w.heap.size+1) d aD) OX MK F.fuel bh (j+1) _ T.symm (by nofun) fK.out EA.out e'.out);rw[T] at aG;exact(A).o):G:=h
def aB8 (h:G:=by
  have pd:(aL++Ad.Nv (al.take k)).length=aL.length+Tr.counts ((al.map Ad.tr).take k):=by rw[zalab,Ad.WM,<-zaldl,Xe]
  exact(A).o):G:=h
def aB9 (h:G:=by
  have ft:=hide (Zc (alR bN.out w.heap.size (w.heap.size+1) d aD) PW MK F.fuel aq (i+1) _ T.symm (by nofun) bV.out LM dr.out);rw[T] at aF;exact(A).o):G:=h
def ayo (h:G:=by
  unfold MH;have N:k<s.data.toList.length:=by simpa using h
  have e:s.data.toList.drop k=s[k]::s.data.toList.drop (k+1):=zalbs N;exact(A).o):G:=h
def aCa (h:G:=by
  obtain⟨i,rs,ak,rfl,jG,hown,hE,hbel⟩:=hrel;have gE:=hide hown;have sJ:=hide hE;have bj:=hide hbel;obtain⟨be,Iq,rfl⟩:=NH hown;exact(A).o):G:=h
def aCb (h:G:=by
  have dW:=(node_cells b'.out.blk).2.2.2.1;have dX:=(node_cells b'.out.blk).2.2.2.2;have d3:=lt_of_heap b'.out.blk;clear aa fq;refine U _ _ ?_;clear U K;exact(A).o):G:=h
def aCc (h:G:=by
  clear dc dT;refine wt 14 (LC w.heap.size) ?_;refine wt 15 (Mc w.heap.size 3) ?_;refine O7 16 λK U=>?_;go_simp;refine Qd ?_;clear U K dW dX d3;refine aad ?_;exact(A).o):G:=h
def aCd (h:G:=by
  obtain⟨kd,fD⟩:∃ kd,kd=(ts[k]).kd:=⟨_,rfl⟩;rw[<-fD] at k0 oQ;have pU:=hide (Me gE.out);have hsz2:=bj.out.size;clear pn Do fD;exact(A).o):G:=h
def aCe (h:G:=by
  have T:rdNum s k=.tok 3 ⟨#[]⟩ (TS (s.extract k (MH Nl s k)).data.toList) (MH Nl s k):=by unfold rdNum;rw[zalah eL,zalah am,zalah D]
  exact(A).o):G:=h
def aCf (h:G:=by
  refine zlz ?_;refine ug 12 (L9 true) rfl (zalad ⟨by kernel_rfl,λX aB=>by have E:=Md aB ea.out;go_simp⟩) aE ?_
  refine uh 13 (L9 false) aE ?_;exact(A).o):G:=h
def axx (h:G:=by
  refine zlz ?_;refine ug 12 (L9 false) rfl (zalad ⟨by kernel_rfl,λX aB=>by have E:=Md aB ea.out;go_simp⟩) aE ?_
  refine uh 13 (L9 true) aE ?_;exact(A).o):G:=h
def aCg (h:G:=by
  intro dJ cap' aq hown' hgrow fX _;have bV:=hide (bj.out.grown hgrow hz2' (λb D=>(Lu g8 b D).2));exact aqx):G:=h
def aCh (h:G:=by
  have cQ:=hide ab;have f2:=hide aD;clear D fU ab aJ aD;go_wp2_with fail;refine alK ?_;rw[cQ.out];rintro e w' ⟨rfl,rfl⟩;go_wp2_with fail;refine aly ?_;exact(A).o):G:=h
def aCi (h:G:=by
  intro dJ cap' cM hown' hgrow fX _;have nX:=hide ((((zalbd bn.heap.size bn).alloc Nh (.cells #[LC bC] 22)).grown hgrow MP (λk N=>aob N)));exact(A).o):G:=h
def axy (h:G:=by
  refine ug 0 (Pv (.pointer aQ) false) rfl (zalad ⟨by kernel_rfl,λX aB=>by have aJ:=Md aB fj.out;have E:=Md aB ea.out;go_simp⟩) aE ?_
  exact(A).o):G:=h
def ayd (h:G:=by
  have ex:t.kids.length<=20000:=by have:=NG t.kids;omega
  have fC:=Xp t;have tM:=Rk t;have mx:=VD t;have l9:=hide h;exact(A).o):G:=h
def aCj (h:G:=by
  have ag:Hid _:=Lu aV wr d j bX.out;rw[hbg] at ag;clear hbg;have BI:((au.length:Int)==8)=true:=zalbz.2 LM;have J_:=hide dp;clear dp;exact(A).o):G:=h
def aCk (h:G:=by
  rintro e w2 ⟨rfl,D⟩;have bj:=hide (aV.out.trans (D.mono aV.out.size));have bX:=hide (cd.out.later D);have E:=bX.out.c1;have b5:=bX.out.fz;exact(A).o):G:=h
def aw2 (h:G:=by
  have n1:∀ L,LX w L->MZ (λb=>b<w.heap.size) L t:=λL D=>MZ.later (λb a5 _=>D.block b a5) _ (MZ.mono (λb _ ab=>ab) _ aH);exact(A).o):G:=h
def aCl (h:G:=by
  have gH:=hide ac;have gS:=hide (gW.out.does su oi _ Ae.out dv.out.symm (by nofun) ma.out);clear T ac;go_wp2_with fail;refine cm gS.out ?_;exact(A).o):G:=h
def aCm (h:G:=by
  have j8:=hide (hinv.lists bm);clear he hinv iS cF;have dm:=hide ((UY aj ML s j au (2) (0) (s.extract j e) e aC aY LM).symm.trans cG.out);exact(A).o):G:=h
def aCn (h:G:=by
  have j8:=hide (hinv.lists bm);clear he hinv iS cF;have dm:=hide ((UY aj ML s j au (1) (0) (s.extract j e) e aC aY LM).symm.trans cG.out);exact(A).o):G:=h
def aCo (h:G:=by
  have ag:=hide (OZ c Dz i QO MK pv vd.out.ps);go_wp2_with fail;refine NJ ?_;rintro e zH ⟨rfl,D⟩;have p2:=hide (vd.out.below D);exact(A).o):G:=h
def aCp (h:G:=by
  have Is:(((q:Int)+1)==(s.size:Int))=true:=zalbz.2 LM;rw[TV s q said ef (by rw[dL];exact c3) (λh=>absurd h qJ)] at cX
  exact(A).o):G:=h
def aCq (h:G:=by
  have gH:=hide ac;have gS:=hide (gW.out.does su j _ wX.out dv.out.symm (by nofun) dr.out);clear T ac;go_wp2_with fail;refine cm gS.out ?_;exact(A).o):G:=h
def aCr (h:G:=by
  have dU:∀ b,(Instr.checkKey b 10000 22 (LC p)).run prog L=.ok () L:=by
   intro b;rw[Instr.checkKey,zalbu,zalcl h22 L];rfl
  exact(A).o):G:=h
def NJ (k:X)(h:Kk X->G:=by
  intro bc;refine cm ag.out ?_;exact bc.o
 ):G:=h ⟨k⟩
def zlb (k:X)(h:Kk X->G:=by
  intro bc;refine zalfp Nw ?_;change wpAny _ _ _ _ _ _ _ (World.drew _);refine wt 0 (LC bq) ?_;refine wt 1 (LC bq) ?_;refine wt 2 (LC bq) ?_;refine wt 3 (Mc bq 3) ?_;exact bc.o
 ):G:=h ⟨k⟩
def zlc (k:X)(h:Kk X->G:=by
  intro bc;refine wh 7 (.tuple #[.nilFunc,L9 false]) et.out ?_;refine wh 8 .nilFunc et.out ?_;refine wh 9 (L9 false) et.out ?_;refine wh 10 .nilFunc et.out ?_;refine wh 11 (L9 false) et.out ?_;refine wpAnyH_done Nw ?_ _;go_simp;exact bc.o
 ):G:=h ⟨k⟩
def zld (k:X)(h:Kk X->G:=by
  intro bc;refine zalfp Nw ?_;change wpAny _ _ _ _ _ _ _ (World.drew _);refine wt 0 (LC w.heap.size) ?_;refine wt 1 (LC w.heap.size) ?_;refine wt 2 (LC w.heap.size) ?_;refine wt 3 (Mc w.heap.size 3) ?_;exact bc.o
 ):G:=h ⟨k⟩
def zle (k:X)(h:Kk X->G:=by
  intro bc;refine wp_region_held (S:=λL=>Ol c L i d) Nw ?_;change wpAnyH _ _ _ _ _ _ _ _ (World.drew _);exact bc.o
 ):G:=h ⟨k⟩
def zlf (k:X)(h:Kk X->G:=by
  intro bc;refine step_append_lies _ rfl _ _ 46 rfl w.heap.size 22 a6 Pe 1 8 zalbk b4 bL bM bP rfl MK _ _ _ rfl (rk.out.row.alloc _) (LD (ax.heap.size+2) 0) 1 1 [LC (ax.heap.size+1)] rfl rfl (OT ((ax.alloc (.cells #[LC bu] 22)).alloc (MB 14 LH 0 (.slice (some (LD ax.heap.size 0)) 1 1))) (ax.heap.size+1) _ MP) (one_one _) MK (by simp[maxLen]) MP OM (ax.heap.size+3) MP ?_;exact bc.o
 ):G:=h ⟨k⟩
def zlg (k:X)(h:Kk X->G:=by
  intro bc;refine wh 7 (.tuple #[.agg #[LQ x.tx,LJ x.kd,LJ x.parts,LJ x.str],L9 true]) cd.out ?_;refine wh 8 (.agg #[LQ x.tx,LJ x.kd,LJ x.parts,LJ x.str]) cd.out ?_;refine wh 9 (L9 true) cd.out ?_;exact bc.o
 ):G:=h ⟨k⟩
def zlh (k:X)(h:Kk X->G:=by
  intro bc;rw[<-rx.out];refine wp_region_held (S:=λX=>X=dY.drew) Nw ?_;change wpAnyH _ _ _ _ _ _ _ _ (World.drew _);refine wh 0 (LC p) rfl ?_;refine wh 1 (LC p) rfl ?_;refine wh 2 (Mc p 3) rfl ?_;exact bc.o
 ):G:=h ⟨k⟩
def zli (k:X)(h:Kk X->G:=by
  intro bc;refine uh 1 (MX tb) aE ?_;refine uh 2 (MX tb) aE ?_;refine uh 3 (Mc tb 0) aE ?_;exact bc.o
 ):G:=h ⟨k⟩
def Qd (k:X)(h:Kk X->G:=by
  intro bc;refine U _ _ ?_;exact bc.o
 ):G:=h ⟨k⟩
def Ul (k:X)(h:Kk X->G:=by
  intro bc;refine cm b9.out ?_;exact bc.o
 ):G:=h ⟨k⟩
def zll (k:X)(h:Kk X->G:=by
  intro bc;refine wp_region_held (S:=λL=>L.heap[aj.heap.size]? = some (.cells #[LQ x.tx,LJ x.kd,LJ x.parts,LJ x.str] 189)) Nw ?_;change wpAnyH _ _ _ _ _ _ _ _ (World.drew _);refine wh 0 (Mc aj.heap.size 1) ih.out ?_;exact bc.o
 ):G:=h ⟨k⟩
def zlm (k:X)(h:Kk X->G:=by
  intro bc;refine U.out _ _ (λe=>by cases e) ?_;exact bc.o
 ):G:=h ⟨k⟩
def zln (k:X)(h:Kk X->G:=by
  intro bc;refine zalfp Nw ?_;change wpAny _ _ _ _ _ _ _ (World.drew _);exact bc.o
 ):G:=h ⟨k⟩
def WB (k:X)(h:Kk X->G:=by
  intro bc;refine cm cK.out ?_;exact bc.o
 ):G:=h ⟨k⟩
def zlp (k:X)(h:Kk X->G:=by
  intro bc;refine(Yu _ _).mono ?_;rw[nz.out];exact bc.o
 ):G:=h ⟨k⟩
def zlq (k:X)(h:Kk X->G:=by
  intro bc;have _h1:=bm;have _h2:=ej;clear _h1 _h2;exact bc.o
 ):G:=h ⟨k⟩
def zlr (k:X)(h:Kk X->G:=by
  intro bc;refine uh 0 (MX tb) aE ?_;refine uh 1 (LC p) aE ?_;refine uh 2 (LC p) aE ?_;refine uh 3 (Mc p 3) aE ?_;exact bc.o
 ):G:=h ⟨k⟩
def zls (k:X)(h:Kk X->G:=by
  intro bc;refine wh 0 (Nz c) cO.out.drew ?_;refine wh 1 (Nz c) cO.out.drew ?_;refine wh 2 (Mc c.R 5) cO.out.drew ?_;exact bc.o
 ):G:=h ⟨k⟩
def zlt (k:X)(h:Kk X->G:=by
  intro bc;refine wh 12 (LC cn) rfl ?_;refine wh 13 (LC bC) rfl ?_;refine wpAnyH_done Nw ?_ _;go_simp;rw[<-p5.out];exact bc.o
 ):G:=h ⟨k⟩
def zlu (k:X)(h:Kk X->G:=by
  intro bc;refine wh 7 (.tuple #[.agg #[U7,LJ 0,LJ 0,LJ 0],L9 false]) cd.out ?_;refine wh 8 (.agg #[U7,LJ 0,LJ 0,LJ 0]) cd.out ?_;refine wh 9 (L9 false) cd.out ?_;exact bc.o
 ):G:=h ⟨k⟩
def zlv (k:X)(h:Kk X->G:=by
  intro bc;rw[show (fP.alloc (.cells #[LC ku] 22)).heap.size=bq by rw[iT];simp,<-j2]
  exact bc.o
 ):G:=h ⟨k⟩
def zlw (k:X)(h:Kk X->G:=by
  intro bc;refine cm es.out ?_;exact bc.o
 ):G:=h ⟨k⟩
def zlx (k:X)(h:Kk X->G:=by
  intro bc;refine wt 5 (Nz c) ?_;refine wt 6 (Nz c) ?_;refine wt 7 (.func (.func 243) #[Nz c] #[]) ?_;exact bc.o
 ):G:=h ⟨k⟩
def zly (k:X)(h:Kk X->G:=by
  intro bc;refine step_append_lies _ rfl _ _ 46 rfl w.heap.size 22 a6 Pe 1 8 zalbk b4 bL bM bP rfl MK _ _ _ rfl (rk.out.row.alloc _) (LD (ax.heap.size+2) 0) 1 1 [LC (ax.heap.size+1)] rfl rfl (OT ((ax.alloc (.cells #[LC bu] 22)).alloc (MB 13 s 0 (.slice (some (LD ax.heap.size 0)) 1 1))) (ax.heap.size+1) _ MP) (one_one _) MK (by simp[maxLen]) MP OM (ax.heap.size+3) MP ?_;exact bc.o
 ):G:=h ⟨k⟩
def zlz (k:X)(h:Kk X->G:=by
  intro bc;refine uh 7 (.slice (some (LD iM 0)) (P.length+1) cap4) aE ?_;refine uh 8 (LC bC) aE ?_;refine uh 11 (Mc w.heap.size 1) aE ?_;exact bc.o
 ):G:=h ⟨k⟩
def aly (k:X)(h:Kk X->G:=by
  intro bc;refine(afK _ _).mono ?_;exact bc.o
 ):G:=h ⟨k⟩
def aGg (k:X)(h:Kk X->G:=by
  intro bc;refine wh 6 (LC p) rfl ?_;refine wh 7 (LC p) rfl ?_;refine wh 8 (Mc p 3) rfl ?_;exact bc.o
 ):G:=h ⟨k⟩
def aCs (k:X)(h:Kk X->G:=by
  intro bc;refine wt 11 (L9 false) ?_;refine wt 12 (L9 false) ?_;refine TF (i:=13) rfl Nw Nw Nw (λ_ _ _ h=>h) Nw ?_;refine TF (i:=14) rfl Nw Nw Nw (λ_ _ _ h=>h) Nw ?_;refine TF (i:=15) rfl Nw Nw Nw (λ_ _ _ h=>h) Nw ?_;refine wt 16 (L9 false) ?_;refine wt 17 (L9 false) ?_;refine zalec Nw ?_ _;go_simp;exact bc.o
 ):G:=h ⟨k⟩
def aq8 (k:X)(h:Kk X->G:=by
  intro bc;refine UK 10 λK U=>?_;go_simp;refine U.out _ _ (cd.out.alloc Ri) (λ_=>?_);clear U K;exact bc.o
 ):G:=h ⟨k⟩
def azO (k:X)(h:Kk X->G:=by
  intro bc;refine cm (Lu jw _ (bj.out.trans (aE.mono bj.out.size))) ?_;exact bc.o
 ):G:=h ⟨k⟩
def ad9 (k:X)(h:Kk X->G:=by
  intro bc;simp only[cl,cr,Tryz.f36,zalej];unfold fR;exact bc.o
 ):G:=h ⟨k⟩
def aAd (k:X)(h:Kk X->G:=by
  intro bc;refine uh 0 (MX tb) dK ?_;refine uh 1 (LC p) dK ?_;refine uh 2 (LC p) dK ?_;refine uh 3 (Mc p 3) dK ?_;exact bc.o
 ):G:=h ⟨k⟩
def alv (k:X)(h:Kk X->G:=by
  intro bc;change wpAnyH _ _ _ _ _ _ _ _ (World.drew _);exact bc.o
 ):G:=h ⟨k⟩
def XY (k:X)(h:Kk X->G:=by
  intro bc;refine wpAnyH_done Nw ?_ _;go_simp;exact bc.o
 ):G:=h ⟨k⟩
def aFX (k:X)(h:Kk X->G:=by
  intro bc;refine cm (QD c _ i d cO.out.drew) ?_;exact bc.o
 ):G:=h ⟨k⟩
def aad (k:X)(h:Kk X->G:=by
  intro bc;refine zalec Nw ?_ _;go_simp;exact bc.o
 ):G:=h ⟨k⟩
def aCt (k:X)(h:Kk X->G:=by
  intro bc;refine wt 0 (LC gz) ?_;refine wt 1 (LC gz) ?_;refine wt 2 (LC gz) ?_;refine wt 3 (Mc gz 3) ?_;refine wt 5 (Nz c) ?_;refine wt 6 (Nz c) ?_;refine wt 7 (.func (.func 312) #[Nz c] #[]) ?_;refine wt 8 (Nz c) ?_;refine wt 9 (.func (.func 313) #[Nz c] #[]) ?_;exact bc.o
 ):G:=h ⟨k⟩
def auV (k:X)(h:Kk X->G:=by
  intro bc;refine cm (Oi 14 LH (.slice (some (LD ax.heap.size 0)) 1 1) (ax.alloc (.cells #[LC bu] 22)) ⟨_,_,_,rfl⟩) ?_;exact bc.o
 ):G:=h ⟨k⟩
def aGB (k:X)(h:Kk X->G:=by
  intro bc;refine step_append_lies _ rfl _ _ 46 rfl w.heap.size 22 a6 Pe 1 8 zalbk b4 bL bM bP rfl MK _ _ _ rfl (HOWN.out.alloc _) (LD ax.heap.size 0) 1 1 [LC bu] rfl rfl (OT ax bu _ rfl) (one_one bu) MK (by simp[maxLen]) MP OM (ax.heap.size+1) MP ?_;exact bc.o
 ):G:=h ⟨k⟩
def auW (k:X)(h:Kk X->G:=by
  intro bc;refine cm (Oi 13 s (.slice (some (LD ax.heap.size 0)) 1 1) (ax.alloc (.cells #[LC bu] 22)) ⟨_,_,_,rfl⟩) ?_;exact bc.o
 ):G:=h ⟨k⟩
def aqV (k:X)(h:Kk X->G:=by
  intro bc;refine uh 0 (.func (.func 71) #[] #[Mc w.heap.size 0]) aE ?_;exact bc.o
 ):G:=h ⟨k⟩
def ah9 (k:X)(h:Kk X->G:=by
  intro bc;refine U.out _ _ (λ_=>fe) ?_;exact bc.o
 ):G:=h ⟨k⟩
def aFZ (k:X)(h:Kk X->G:=by
  intro bc;refine cm (Lu D2 _) ?_;rw[cQ.out];exact bc.o
 ):G:=h ⟨k⟩
def aCu (k:X)(h:Kk X->G:=by
  intro bc;refine wt 0 (LC (w1.heap.size+1+1)) ?_;refine wt 1 (LC (w1.heap.size+1+1)) ?_;refine wt 2 (LC (w1.heap.size+1+1)) ?_;refine wt 3 (Mc ((w1.heap.size+1+1)) 3) ?_;refine wt 5 (Mc (w1.heap.size+1) 0) ?_;exact bc.o
 ):G:=h ⟨k⟩
def aF2 (k:X)(h:Kk X->G:=by
  intro bc;refine uh 7 (LC p) aE ?_;refine uh 8 (LC p) aE ?_;refine uh 9 (Mc p 1) aE ?_;exact bc.o
 ):G:=h ⟨k⟩
def aqw (k:X)(h:Kk X->G:=by
  intro bc;refine U.out _ _ cd.out (λ_=>?_);exact bc.o
 ):G:=h ⟨k⟩
def azm (k:X)(h:Kk X->G:=by
  intro bc;refine U.out _ _ et.out (λ_=>?_);exact bc.o
 ):G:=h ⟨k⟩
def aGo (k:X)(h:Kk X->G:=by
  intro bc;refine wh 0 (Nz c) p1.out.drew ?_;refine wh 1 (Nz c) p1.out.drew ?_;refine wh 2 (Mc c.R 5) p1.out.drew ?_;exact bc.o
 ):G:=h ⟨k⟩
def alT (k:X)(h:Kk X->G:=by
  intro bc;refine wt 5 (NW c) ?_;refine wt 6 (LJ (d:Int)) ?_;exact bc.o
 ):G:=h ⟨k⟩
def adC (k:X)(h:Kk X->G:=by
  intro bc;rw[zalab,zalam];exact bc.o
 ):G:=h ⟨k⟩
def aGm (k:X)(h:Kk X->G:=by
  intro bc;refine uh 14 (L9 false) jD ?_;refine Qh 15 λK U=>?_;go_simp;refine U.out _ _ (λ_=>jD) ?_;clear U K;refine Qh 16 λK U=>?_;go_simp;refine U.out _ _ (λ_=>jD) ?_;clear U K;exact bc.o
 ):G:=h ⟨k⟩
def ad2 (k:X)(h:Kk X->G:=by
  intro bc;refine U.out _ _ (λ_=>cP) ?_;exact bc.o
 ):G:=h ⟨k⟩
def axv (k:X)(h:Kk X->G:=by
  intro bc;refine zalcs (v:=Pv (MX (fs.heap.size+1)) false) (by simp[results,results128,go_sem,kA,le]) rfl ⟨⟨fs.heap.size+1,_,_,rfl,by omega,z'.out,Ay.out,?_⟩,oD.out⟩;exact bc.o
 ):G:=h ⟨k⟩
def aCv (k:X)(h:Kk X->G:=by
  intro bc;refine zalcs (v:=Pv (MX (fs.heap.size+1)) true) (by simp[results,results128,go_sem,kA,le]) rfl ⟨⟨fs.heap.size+1,_,_,rfl,by omega,z'.out,Ay.out,?_⟩,oD.out⟩;exact bc.o
 ):G:=h ⟨k⟩
def aGn (k:X)(h:Kk X->G:=by
  intro bc;refine wh 7 (.tuple #[LJ hH,L9 fg]) rfl ?_;refine wh 8 (LJ hH) rfl ?_;refine wh 9 (L9 fg) rfl ?_;refine wh 10 (LJ hH) rfl ?_;refine wh 11 (L9 fg) rfl ?_;refine wpAnyH_done Nw ?_ _;exact bc.o
 ):G:=h ⟨k⟩
def aF7 (k:X)(h:Kk X->G:=by
  intro bc
  show _=_
  rw[aa5,y.NC.2.2,List.any_map];exact bc.o
 ):G:=h ⟨k⟩
def aiv (k:X)(h:Kk X->G:=by
  intro bc;have kT:=dI;have FI:=c8;clear kT FI;exact bc.o
 ):G:=h ⟨k⟩
def abY (k:X)(h:Kk X->G:=by
  intro bc;refine UW Nw ?_ _;go_simp;exact bc.o
 ):G:=h ⟨k⟩
def aac (k:X)(h:Kk X->G:=by
  intro bc
  show World.ownsRow _ _ _ _ _ _ _
  exact bc.o
 ):G:=h ⟨k⟩
def aGt (k:X)(h:Kk X->G:=by
  intro bc;refine wh 0 (Nz c) bo.out ?_;refine wh 1 (Nz c) bo.out ?_;refine wh 2 (Mc c.R 3) bo.out ?_;exact bc.o
 ):G:=h ⟨k⟩
def ahU (k:X)(h:Kk X->G:=by
  intro bc;refine wp_loop_rounds 1 ?_;rw[rounds_succ];exact bc.o
 ):G:=h ⟨k⟩
def aGw (k:X)(h:Kk X->G:=by
  intro bc;refine(af4 (s.extract j e) _ LM LM hds).mono ?_;rw[e4.out];exact bc.o
 ):G:=h ⟨k⟩
def aGj (k:X)(h:Kk X->G:=by
  intro bc;refine cm (Lu ju _) ?_;rw[f2.out];exact bc.o
 ):G:=h ⟨k⟩
def alE (k:X)(h:Kk X->G:=by
  intro bc;refine U.out _ _ (λh=>by cases h) ?_;exact bc.o
 ):G:=h ⟨k⟩
def aqu (k:X)(h:Kk X->G:=by
  intro bc;refine uh 5 (LC p) aE ?_;exact bc.o
 ):G:=h ⟨k⟩
def azJ (k:X)(h:Kk X->G:=by
  intro bc;refine uh 9 (.agg #[LJ (aL.length:Int),.slice (some (LD fn 0)) 1 1,L9 false]) cP ?_;exact bc.o
 ):G:=h ⟨k⟩
def auX (k:X)(h:Kk X->G:=by
  intro bc;refine wt 9 (.agg #[LJ 14,LQ LH,LJ 0,.slice (some (LD ax.heap.size 0)) 1 1]) ?_;exact bc.o
 ):G:=h ⟨k⟩
def alD (k:X)(h:Kk X->G:=by
  intro bc;refine U.out _ _ (λ_=>eo) ?_;exact bc.o
 ):G:=h ⟨k⟩
def Yi (k:X)(h:Kk X->G:=by
  intro bc;refine cm ft.out ?_;exact bc.o
 ):G:=h ⟨k⟩
def auY (k:X)(h:Kk X->G:=by
  intro bc;refine wt 10 (.agg #[LJ 13,LQ s,LJ 0,.slice (some (LD ax.heap.size 0)) 1 1]) ?_;exact bc.o
 ):G:=h ⟨k⟩
def azX (k:X)(h:Kk X->G:=by
  intro bc
  show _=_
  rw[heap_set (dT.trans cC.out.op.blk)];exact bc.o
 ):G:=h ⟨k⟩
def aGb (k:X)(h:Kk X->G:=by
  intro bc;refine cm (Lu rf w1 ba.out) ?_;exact bc.o
 ):G:=h ⟨k⟩
def auZ (k:X)(h:Kk X->G:=by
  intro bc;refine uh 1 (LC q) aE ?_;refine uh 2 (LC q) aE ?_;refine uh 3 (Mc q 3) aE ?_;exact bc.o
 ):G:=h ⟨k⟩
def atD (k:X)(h:Kk X->G:=by
  intro bc;refine(ain _).mono ?_;exact bc.o
 ):G:=h ⟨k⟩
def aFU (k:X)(h:Kk X->G:=by
  intro bc;refine cm (Lu dm _ fJ) ?_;exact bc.o
 ):G:=h ⟨k⟩
def alK (k:X)(h:Kk X->G:=by
  intro bc;refine(Yu _ _).mono ?_;exact bc.o
 ):G:=h ⟨k⟩
def aGq (k:X)(h:Kk X->G:=by
  intro bc;refine(aa6 aj (s.extract k e) w2 b3.out t fr pN.out).mono ?_;rw[eu.out];exact bc.o
 ):G:=h ⟨k⟩
def aq9 (k:X)(h:Kk X->G:=by
  intro bc;unfold Instr.findKey;rw[zalbu,zalcl dt L];exact bc.o
 ):G:=h ⟨k⟩
def Y5 (k:X)(h:Kk X->G:=by
  intro bc;refine cm bN.out ?_;exact bc.o
 ):G:=h ⟨k⟩
def aF1 (k:X)(h:Kk X->G:=by
  intro bc;refine wp_region_held (S:=λL=>L=wr.drew) Nw ?_;exact bc.o
 ):G:=h ⟨k⟩
def aGa (k:X)(h:Kk X->G:=by
  intro bc;refine MR 18 (λX=>Fm (λb=>(I b\/(w.heap.size<=b/\b<wd.heap.size))\/b=tb) wd X) Nw ?_;rw[<-iV];exact bc.o
 ):G:=h ⟨k⟩
def aln (k:X)(h:Kk X->G:=by
  intro bc;simp only[zalct,zalfg];exact bc.o
 ):G:=h ⟨k⟩
def aFW (k:X)(h:Kk X->G:=by
  intro bc;refine wh 4 (Nz c) cO.out.drew ?_;exact bc.o
 ):G:=h ⟨k⟩
def an0 (k:X)(h:Kk X->G:=by
  intro bc;refine U.out _ _ (λ_=>dK) ?_;exact bc.o
 ):G:=h ⟨k⟩
def azn (k:X)(h:Kk X->G:=by
  intro bc;refine U.out _ _ (Lu rn) (λ_=>?_);exact bc.o
 ):G:=h ⟨k⟩
def au0 (h:G:=by
  have A{G}(h:G:=by
  rw[js.out];exact aDp):=LG h;exact aBR):G:=h
def aCw (h:G:=by
  rw[gw] at ac;have rh:Hid (keepA (OE b a) a=false):=by show _=_;unfold keepA;rw[gw];rfl
  have A{G}(h:G:=by
  rw[<-ae] at ac ⊢;have dP:(binOp .neq 22 (LC p) (Zb bp)).run prog w2=.ok (L9 false) w2:=ac;clear ac gw o3 ae;exact aCx):=LG h;exact auD):G:=h
def aCy (h:G:=by
  refine Qd ?_;clear U K;refine O7 8 λK U=>?_;go_simp;refine auV ?_;rintro e up ⟨rfl,rfl⟩;refine U _ _ ?_;clear U K;refine O7 9 λK U=>?_;go_simp;exact avb):G:=h
def aCz (h:G:=by
  refine Qd ?_;clear U K;refine O7 9 λK U=>?_;go_simp;refine auW ?_;rintro e up ⟨rfl,rfl⟩;refine U _ _ ?_;clear U K;refine O7 10 λK U=>?_;go_simp;exact au2):G:=h
def aCA (h:G:=by
  rw[bL];have A{G}(h:G:=by
  rw[<-ae] at ac ⊢;have dP:(binOp .neq 22 (LC p) (Zb bp)).run prog w2=.ok (L9 true) w2:=ac;clear ac gw b5 bL o3 ae;exact aCx):=LG h;exact auD):G:=h
def au3 (h:G:=by
  cases ab:Sm (s[q].toNat:Int)
  ·
   cases aD:Nl (s[q].toNat:Int)
   ·exact aFN
   ·exact ara
  ·exact arb):G:=h
def aGv (h:G:=by
  have dT:aq.heap[w.heap.size]? = ax.heap[w.heap.size]?:=(dD.block w.heap.size OM (λe=>b'.out.own e.symm)).trans (zalaa ax _ w.heap.size d3);exact au4):G:=h
def aCB (h:G:=by
  refine Qh 6 λK U=>?_;go_simp;refine cm (Lu gY _ a' _ (oD.out.trans (O4.drew.mono oD.out.size)) wG.out oL.out j8.out) ?_;exact aCC):G:=h
def au5 (h:G:=by
  refine Qd ?_;clear U K;refine O7 12 λK U=>?_;go_simp;exact aCD):G:=h
def au6 (h:G:=by
  refine Qd ?_;clear U K;refine O7 11 λK U=>?_;go_simp;exact aCE):G:=h
def ara (h:G:=by
  have rv:=hide ((Qz OL s q ef (by unfold OL;rw[ab,aD];rfl)).trans cX)
  have dE:=QF OL s (q+1);rw[rv.out] at dE;have kI:=hide ab;have js:=hide aD;clear ab aD cX;go_wp2_with fail;refine alK ?_;rw[kI.out];rintro a4 w2 ⟨rfl,rfl⟩;go_wp2_with fail;refine aly ?_;rw[js.out];exact aDp):G:=h
def aCF (h:G:=by
  refine aiv ?_;have A{G}(h:G:=by
  have A{G}(h:G:=by
  have hY:=hide kY;have nz:=hide hlet;have oH:=hide hdig;clear kY hlet hdig aY;have A{G}(h:G:=by
  go_loop [5] (λv=>∃ q:Nat,j<=q/\q<=e/\v=LJ q/\MH Nl s q=e) (λv=>s.size - (intOf v).toNat)
  case atStart=>exact⟨j,Nh,by omega,rfl,hY.out⟩
  case round=>
   obtain⟨q,jf,dP,rfl,cX⟩:=hrel
   by_cases ef:q<s.size
   ·
    cases aD:Nl (s[q].toNat:Int)
    ·have A{G}(h:G:=by
     rintro a4 w2 ⟨rfl,rfl⟩;exact aCG):=LG h;exact aqQ
    ·exact au0
   ·exfalso;omega):=LG h;exact aaf):=LG h;exact auO):=LG h;exact zsf):G:=h
def aCH (h:G:=by
  refine aiv ?_;have A{G}(h:G:=by
  have A{G}(h:G:=by
  have hY:=hide kY;have nz:=hide hlet;have oH:=hide hdig;clear kY hlet hdig aY;have tF:s.size<=e:=LM;clear g1;have A{G}(h:G:=by
  go_loop [5] (λv=>∃ q:Nat,j<=q/\q<=e/\v=LJ q/\MH Nl s q=e) (λv=>s.size - (intOf v).toNat)
  case atStart=>exact⟨j,Nh,by omega,rfl,hY.out⟩
  case round=>
   obtain⟨q,jf,dP,rfl,cX⟩:=hrel
   by_cases ef:q<s.size
   ·
    cases aD:Nl (s[q].toNat:Int)
    ·have bB:=Qa Nl s q ef aD;exfalso;omega
    ·exact au0
   ·have d4:e=q:=by have:=RS Nl s q LM;omega
    subst d4;clear cX;exact aCG):=LG h;exact aaf):=LG h;exact auO):=LG h;exact zsf):G:=h
def arb (h:G:=by
  have rv:=hide ((Qz OL s q ef (by unfold OL;rw[ab];rfl)).trans cX)
  have dE:=QF OL s (q+1);rw[rv.out] at dE;have kI:=hide ab;clear ab cX;go_wp2_with fail;refine alK ?_;rw[kI.out];exact aDp):G:=h
def aCI (h:G:=by
  have A{G}(h:G:=by
  refine wr2 4 7 (λK U=>?_) λK U=>?_
  ·go_simp;refine Qd ?_;clear U K;refine O7 7 λK U=>?_;go_simp;exact aCy
  ·go_simp;refine Qd ?_;clear U K;refine wr2 4 8 (λK U=>?_) λK U=>?_
   ·go_simp;exact aCy
   ·go_simp;refine auV ?_;rintro e up ⟨rfl,rfl⟩;exact au7):=LG h;exact aqN):G:=h
def aCJ (h:G:=by
  refine zlb ?_;refine zlx ?_;refine wr2 4 8 (λK U=>?_) λK U=>?_
  ·go_simp;refine Qd ?_;clear U K;refine O7 8 λK U=>?_;have A{G}(h:G:=by
   have A{G}(h:G:=by
   obtain⟨dW,dX,d3⟩:=(Open.later bI.out cW a1.out).cell;exact au8):=LG h;exact aBS):=LG h;go_simp;exact af6
  ·have A{G}(h:G:=by
   have A{G}(h:G:=by
   obtain⟨dW,dX,d3⟩:=(Open.later bI.out cW a1.out).cell;exact au7):=LG h;exact aBS):=LG h;go_simp;exact af6):G:=h
def aCK (h:G:=by
  have A{G}(h:G:=by
  have oL:Hid (wz.heap[a']? = some (UN no (.slice en aR.length i7) false (.pointer aQ))):=(hset _ LM).trans iP;have j8:Hid (Na w.heap.size wz (.slice en aR.length i7) aR):=Ob (L8 (I:=λb=>w2.heap.size<=b) (λb D _=>hset b (by have E:w2.heap.size<=b:=D;omega)) (λb D=>(Me gM b D).2) gM) LM
  exact aCL):=LG h;go_simp;exact aAB):G:=h
def aCM (h:G:=by
  have A{G}(h:G:=by
  have oL:Hid (wz.heap[a']? = some (UN no (.slice en aR.length i7) false (.pointer aQ))):=(hset _ LM).trans iP;have j8:Hid (Na w.heap.size wz (.slice en aR.length i7) aR):=Ob (L8 (I:=λb=>w2.heap.size<=b) (λb D _=>hset b (by have E:w2.heap.size<=b:=D;omega)) (λb D=>(Me gM b D).2) gM) LM
  exact aCN):=LG h;go_simp;exact aAE):G:=h
