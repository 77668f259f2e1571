import Derived.Test.YticfnaiehdpbmaaGreatDoorAg2
import Derived.Test.YticfnaiehdpbmaaGreatDoorProg
import Derived.WalkSpells
import Derived.WalkLawsBesides
import Derived.Lib.Bytealg
import Derived.Laws.Rows
import Derived.ProofKit
import Derived.OpenShut
import Derived.Stop.Joined
import Derived.Laws.IdiomStrings
set_option maxRecDepth 100000
set_option maxHeartbeats 8000000
set_option linter.unusedVariables false
namespace Go.Proofs.YticfnaiehdpbmaaGreatDoor
open Go.RowKit Go.Proofs.Tryz
section
variable {G:Prop}
theorem aA2 (h:G:=by
  have hlt2:=a8.lt;clear aw;obtain⟨ps,hown,m6,AH⟩:=Ns tc;have hlen:=NT.length _ _ m6;have vv:=O9 hown;rw[hlen] at hown;have HOWN:=hown;have HLEN:=hide hlen;have pd:=AH;have c9:=sY.size;have h5:=Ns p2;have lE:=hide vv;clear vv hlen
  go_wp2_with (at_builtin;refine wpList_append_lies _ rfl _ _ 38 rfl w.heap.size 22 i0 Qb 1 8 underlying38 d2 dH b6 cq rfl NH _ _ _ rfl (HOWN.alloc _) (Nv bB.heap.size 0) 1 1 [Nu kt] rfl rfl (QE bB kt _ rfl) (one_one kt) NH (by unfold maxLen;omega) Nw Qa (bB.heap.size+1) Oq ?_)
  intro g cap b' hown' hgrow hg _;have lZ:KV w.heap.size b' (be++[t]) (.slice (some (Nv g 0)) (be.length+1) cap):=ai3 pd (by rw[List.map_append];exact hown') (by simp[HLEN.out]) hgrow hg
  have mH:=((sY.alloc c9 (.cells #[Nu kt] 22)).grown hgrow Qa (fun k E=>(Ns lE k E).2));have fM:=(gA.ap (((Below.refl w.heap.size bB).alloc c9 (.cells #[Nu kt] 22)).grown hgrow Qa (fun k E=>(Ns lE k E).2)) i1.out);clear hg
  by_cases ac:fx c.l cK=shut
  ·have ah:=hide (QU c shut b' cK d fM ac fJ.out);rw[if_pos ac] at k9;clear ac;go_wp2_with fail;refine cm ah.out ?_;rintro e b9 ⟨rfl,oT,DJ⟩;have wR:=(mH.next DJ);have hA:=oT;have nq:=(KV.later lZ DJ bS.out);go_wp2_with fail;go_ret;exact RG k9.out.symm ⟨nq,fun hh=>absurd hh Oq,by simp;omega⟩ hA wR
  ·have ah:=hide (RH c shut b' cK d fM ac);rw[if_neg ac] at k9;clear ac;go_wp2_with fail;refine cm ah.out ?_;rintro e b9 ⟨rfl,e2⟩;have wR:=(mH.next (Ap.of e2));have hA:=(fM.later e2);have nq:=(KV.later lZ (Ap.of e2) bS.out)
   cases U:OD c.l aaC cK with
   | out=>
    exact avh
   | bad er p=>
    have ah:=hide (Oz c aaC b9 cK d hA NH);have z:=kk (∀{G}(h:G:=by
    exact⟨rfl,Pn k9.out.symm (wR.next aw)⟩),G);exact avi
   | ok Nm EJ=>
    have ah:=hide (Oz c aaC b9 cK d hA NH);have j1:cK<EJ:=by
     unfold OD at U
     split at U
     ·
      cases U;omega
     ·
      cases U
    rw[U] at ah k9;simp only[bind_ok] at k9;clear U;go_wp2_with fail;refine cm ah.out ?_;intro e eh al;obtain⟨⟨E0,rfl,rfl⟩,a8,aw⟩:=al;have Fa:=(wR.next aw);have ka:=a8;have yT:=(KV.later nq aw bS.out);have L0:=a8.lt;clear aw;go_wp2_with fail
    go_roundw
    case rel=>exact⟨k,be++[t],EJ,k9.out,ka,Fa,yT,by simp;omega⟩
    case measure=>rw[TF ka,TF oh];omega):G:=h
theorem auE (h:G:=by
  by_cases gw:av=.no
  ·subst gw;have hev2:oz=Pe:=cG.er;subst hev2;have aH:rs=((⟨true,⟨ew,dC,eE⟩⟩,.no,b8),σ1):=by rw[bD.out];unfold U3;rw[bY.out];rfl
   have cz:=hide aH;clear aH;have z:=kk (∀{G}(h:G:=by
   refine bodyPost_ret (v:=.tuple #[RX ⟨true,⟨ew,dC,eE⟩⟩,Pe]) (by simp[results,results202,go_sem,bi,aY,aX,cu]) rfl ?_;exact aqN),G);exact aqb
  ·obtain⟨et,ex,hev2⟩:=cG.er.Vs gw ae;subst hev2;have aH:rs=((⟨true,⟨ew,dC,eE⟩⟩,av,b8),σ1):=by
    exact aA3
   have cz:=hide aH;clear aH gw;have z:=kk (∀{G}(h:G:=by
   refine bodyPost_ret (v:=.tuple #[RX ⟨true,⟨ew,dC,eE⟩⟩,.iface et ex]) (by simp[results,results202,go_sem,bi,aY,aX,cu]) rfl ?_;exact aqN),G);exact aqb):G:=h
theorem axP (h:G:=by
  go_wp2_with fail;refine cm ah ?_;rintro e w2 ⟨⟨gR,rfl,hr2⟩,aE⟩;obtain⟨a2,c2,rfl⟩:=hr2.form;have cf:=(f0.trans (aE.mono f0.size));have jX:=(eg.later aE);have fa:=(Qu.later om aE);have hn:=(acs (RS t) _ w2 hr2 Nw);go_wp2_with fail;refine cm hn ?_;rintro e ao ⟨⟨j7,rfl,iI⟩,bm⟩;rw[<-j'.out] at iI;obtain⟨a3,c3,rfl⟩:=N8 iI;have ef:=(cf.trans (bm.mono cf.size));have s':=(jX.later bm);have lG:=(Qu.later fa bm);have c8:=iI
  go_wp2_with (at_builtin;refine WY rfl _ _ 26 rfl w.heap.size _ 9 i0 (ND ByteArray.empty) 16 underlying26 d2 dH b6 cq rfl _ _ _ rfl lG _ _ _ rfl c8 (acr F) (by unfold maxLen;omega) Nw ef.size ?_)
  intro v4 bB hown4 kQ;have Ei:Qu w.heap.size bB v4 zt:=by
   show World.ownsRow _ _ _ _ _ _ _
   rw[uW.out,List.length_append,List.map_append];exact hown4
  have f9:=fun k E=>(O9 lG k E).2;have jU:=(ef.grown kQ ef.size f9);have tc:SC bB t p:=SC.later h jU;obtain⟨a4,c4,rfl⟩:=N8 Ei;have q0:=Ei;clear f9;have ah:=(aaw t p bB tc Nw);go_wp2_with fail;refine cm ah ?_;rintro e b' ⟨⟨wN,rfl,pI⟩,fv⟩;obtain⟨a5,c5,rfl⟩:=pI.form;have iY:=(jU.trans (fv.mono jU.size));have GQ:=(Qu.later q0 fv);have hn:=(acs (OC t) _ b' pI Nw);go_wp2_with fail;refine cm hn ?_;rintro e b9 ⟨⟨Kb,rfl,oT⟩,e2⟩;rw[<-yP.out] at oT;obtain⟨KA,c6,rfl⟩:=N8 oT
  have uu:=(iY.trans (e2.mono iY.size));have q1:=(Qu.later GQ e2);have hA:=oT
  go_wp2_with (at_builtin;refine WY rfl _ _ 26 rfl w.heap.size _ 9 i0 (ND ByteArray.empty) 16 underlying26 d2 dH b6 cq rfl _ _ _ rfl q1 _ _ _ rfl hA (acr G) (by unfold maxLen;omega) Nw uu.size ?_)
  intro E0 eh J_ Io;have Ej:Qu w.heap.size eh E0 zu:=by
   show World.ownsRow _ _ _ _ _ _ _
   rw[GR.out,List.length_append,List.map_append];exact J_
  have f9:=fun k E=>(O9 q1 k E).2;have yq:=(uu.grown Io uu.size f9);obtain⟨KB,xk,rfl⟩:=N8 Ej;have ah:=(aeY zu _ eh Ej Nw);clear f9;go_wp2_with fail;refine cm ah ?_;rintro e b3 ⟨⟨Kc,rfl,d7⟩,ed⟩;obtain⟨KC,vf,rfl⟩:=N8 d7;have og:=(Y0 d7 yq.size);have yr:=(yq.trans (ed.mono yq.size));go_wp2_with fail;go_ret;exact⟨⟨_,rfl,og⟩,yr⟩):G:=h
theorem ay9 (h:G:=by
  refine QX ?_ _;go_simp;have ch:=VB.late (v:=v1) aI aK ((Om.of ab (Oi dc)).trans ak);exact avj):G:=h
theorem ayQ (h:G:=by
  have z:=kk (∀{G}(h:G:=by
  refine uh 10 (NI false) (ke) ?_;have z:=kk (∀{G}(h:G:=by
  have sC:=g8.kp (Kp.of ke);have cM:=Ns pX;have z:=kk (∀{G}(h:G:=by
  have fa:=hide (fun X (aj:NJ ea X)=>Ns gT v1 σ1 bY.out X bV aC (jD.later aj) (jb.kp (Kp.of aj)));rw[<-pE] at fT fa;have r0:=hide (cells4 (stays ke eG.out));have v6:=lt_of_heap (stays ke eG.out);have sJ:q<ea.heap.size:=by rw[bo.out];exact sC.cells.1
  have sF:=cell_lt fT;have uw:=hide jF;have n2:=hide fT;have aH:rs=F.v (Nz d 1) ⟨aq,aF,st⟩ σ1:=by rw[bD.out];unfold aaT;rw[bY.out];simp[lW.out,n'.out]
  have cz:=hide aH;rw[<-aH] at fa;clear cy bQ b5 dn dp dq rl e' cj dD hf hi hj g5 jF fT pE cM aH;go_simp;go_wp2_with fail;refine Rj 8 fun ab=>?_;have z:=kk (∀{G}(h:G:=by
  refine uk 4 uw.out ab ?_;refine up 5 b0 1 ab ?_;refine uk 6 n2.out ab ?_;refine uk4 7 r0.out ab ?_;refine O0 8 fun K A=>?_;go_simp;refine cm (Ns fa _ ab) ?_;rintro e aD ⟨⟨ev,rfl,aI⟩,aK,ak⟩;refine ko A ?_;clear A K;have jJ:=(Om.of (L:=none) ab (Oi oM)).trans ak;have dG:=hide (jJ.keep jm.out NH);have fc:=(lY.trans jJ);obtain⟨v9,jn⟩:=xH rs.1.1;rw[<-jn.out];obtain⟨hz,g4,gR,kx,ky,kz,kA⟩:=Ot dG.out;refine uz 9 (vA v9) ?_;refine uz 10 ev ?_;have z:=kk (∀{G}(h:G:=by
  have z:=kk (∀{G}(h:G:=by
  refine bodyPost_ret (v:=.tuple #[vA v9,ev]) (by simp[results,results258,go_sem,bi,aY,aX]) rfl ?_;exact⟨⟨_,by rw[jn.out],aI.O6 bb NH⟩,bv,bx⟩),G);exact akj),G);exact aqn),G);exact U5),G);exact auv),G);exact aA4),G);exact aA5):G:=h
theorem anK (h:G:=by
  go_wp2_with fail;refine(abp _ _ _).mono ?_;rintro hE bB ⟨b,rfl,D,jt,Aj⟩;have nI:=aZ.trans (Aj.mono c9);have vE:Below (w.alloc O35).heap.size (w.alloc O35) bB:=by simpa using nI
  obtain⟨ai,aG⟩:=YJ vE;have ie:=hide D;have ys:=vE;have qt:(w.alloc O35).heap.size<=b:=by simp;omega
  clear D jt;go_wp2_with fail;exact bodyPost_ret (v:=.tuple #[Xn,Nr 0,.iface 150 (NM b 0)]) (by simp[results,results144,go_sem,ai]) rfl ⟨b,rfl,YK ys qt ie.out _ _ _ _⟩):G:=h
theorem Z5 (h:G:=by
  rw[U] at ah ba;simp only[OE] at ba;clear U;go_wp2_with fail;refine cm ah ?_;exact avk):G:=h
theorem auy (h:G:=by
  exact avj):G:=h
theorem Uo (h:G:=by
  have z:=kk (∀{G}(h:G:=by
  rfl),G);exact ahQ):G:=h
theorem alB (h:G:=by
  clear h ai gL cJ bn;rw[ip] at h0 h1 O ah hK;clear ip;go_enter func104,ntmps104;go_wp2_with fail;refine cm ah ?_;rintro e w2 ⟨rfl,aE⟩;have cf:=(hK.trans (aE.mono hK.size))
  cases er <;>
  ·unfold Ub;go_wp2_with fail;go_ret;exact⟨rfl,cf⟩):G:=h
theorem XJ (h:G:=by
  exact avl):G:=h
theorem atg (h:G:=by
  exact aA6):G:=h
theorem awZ (h:G:=by
  obtain⟨va,dv,rfl⟩:=h.form;have dk:=h;have hR:=hide ak;clear h ak;go_enter func183,ntmps183;go_wp2_with fail
  go_loopw [8] (fun i wr=>∃ k:Nat,k<=am.length/\i=Nr k/\(am.take k).any f=false/\NJ w wr) (fun i _=>am.length - (intOf i).toNat)
  case atStart=>exact⟨0,Nat.zero_le _,rfl,rfl,P8⟩
  case round=>
   obtain⟨k,E,rfl,fo,D⟩:=hrel;have fJ:=hide fo;clear fo
   by_cases aQ:k<am.length
   ·have z:=kk (∀{G}(h:G:=by
    have ah:=(Ns hR am[k] (List.getElem_mem _) q wr D aA);have iy:=hide (List.take_succ_eq_append_getElem aQ)
    cases hh:f am[k] with
    | true=>
     rw[hh] at ah;have iw:=hide hh;clear hh;have z:=kk (∀{G}(h:G:=by
     go_ret;refine⟨⟨k,rfl,?_⟩,cf⟩;rw[decide_eq_true Nw,eq_comm,List.any_eq_true];exact⟨am[k],List.getElem_mem _,iw.out⟩),G);exact aqO
    | false=>
     rw[hh] at ah;have iw:=hide hh;clear hh;have z:=kk (∀{G}(h:G:=by
     go_roundw
     case rel=>
      refine⟨k+1,by omega,by go_num,?_,cf⟩;rw[iy.out,List.any_append,fJ.out];simp[iw.out]
     case measure=>simp[intOf];omega),G);exact aqO),G);exact aw6
   ·have cM:k=am.length:=Nw;subst cM;go_wp2_with fail;go_ret;refine⟨⟨-1,rfl,?_⟩,D⟩;have h:=Ns fJ;rw[List.take_length] at h;rw[h];rfl):G:=h
theorem aul (h:G:=by
  rw[<-dh];have cZ:=hide dh;have dw:=aI;have z:=kk (∀{G}(h:G:=by
  clear dh;have z:=kk (∀{G}(h:G:=by
  refine bodyPost_ret (v:=.tuple #[vA bL,ev]) (by simp[results,results294,go_sem,bi,aY,aX]) rfl ?_;rw[fE.out];exact⟨⟨_,by rw[cZ.out],dw.O6 bb NH⟩,ed⟩),G);exact aun),G);exact ap4):G:=h
theorem aEh (h:G:=by
  have bJ:=hide aH;clear au aH;have bD:=bJ;go_wp2_with fail;refine Rj 11 fun ab=>?_;refine uh 0 (.iface et ex) (ab) ?_;refine uh 1 (NI true) (ab) ?_;refine uh 2 (NI true) (ab) ?_;refine uh 3 undef (ab) ?_ (hy:=Or.inr ⟨by kernel_rfl,rfl⟩);refine uh 4 undef (ab) ?_ (hy:=Or.inr ⟨by kernel_rfl,rfl⟩);refine uh 5 undef (ab) ?_ (hy:=Or.inr ⟨by kernel_rfl,rfl⟩);have z:=kk (∀{G}(h:G:=by
  refine O0 11 fun K A=>?_;go_simp;refine ko A ?_;clear A K;refine QX ?_ _;obtain⟨wd,e7⟩:=xE wz.drew;have dX:NJ wz wd:=by rw[e7];exact P8.drew
  have hW:=hide (stays dX dU.out);have l0:=(aN.ms.later dX);have yL:=(aN.er.later dX);have ho:=(di.trans (Om.of (L:=none) dX (Oi ee)));obtain⟨hk,gn,gp,ib,ic,id,hm⟩:=Ot hW.out;obtain⟨z0,mC,z2,mD,mE,mF,zl⟩:=Ot (stays dX aN.v);go_simp;rw[<-e7];clear e7 cy bQ b5 dn dp dq rl e' cj dD hf hi hj g5;go_wp2_with fail;obtain⟨b3,bz,bb,bx,bv,bi,aY,aX⟩:=rt3 hW.out cI.out bI ho l0 (Nr v1.k) (Nr v1.n) (ND v1.s);rw[<-bz]
  refine bodyPost_ret (v:=.tuple #[vA v1,.iface et ex]) (by simp[results,results258,go_sem,bi,aY,aX]) rfl ?_;rw[bD.out];exact⟨⟨_,rfl,yL.O6 bb NH⟩,bv,bx⟩),G);exact aud):G:=h
theorem avm (h:G:=by
  refine A _ _ ?_;clear A K;refine P6 9 fun K A=>?_;go_simp;refine A _ _ ?_;clear A K;refine SQ (listed':=tf 10 4) OJ rfl ?_;exact dI aD cw kK.out):G:=h
theorem azF (h:G:=by
  have gc:=hide (cells3 kZ);have fv:NJ wr b':=by rw[ha];exact OM
  have ga:=hide (cells4 (stays fv fD.out));have Ff:=hide (Oj fv e1.out);have iY:=fv;have IL:mb<b'.heap.size:=by have:=fv.size;omega
  have Mb:he<b'.heap.size:=by have:=fv.size;omega
  have h7:=lt_of_heap kZ;have L9:bc<b'.heap.size:=lt_of_heap (stays fv fD.out);rw[<-ha,<-aN];clear ha aN kZ hg ai;refine Rj 8 fun ab=>?_;refine up 0 mb 0 ab ?_;refine up 1 bc 0 ab ?_;refine uk 2 (ga.out.1) ab ?_;refine up 3 he 0 ab ?_;refine up 4 he 0 ab ?_;refine up 5 he 1 ab ?_;refine uk 6 Ff.out ab ?_;refine uk3 7 gc.out ab ?_;refine O0 8 fun K A=>?_;go_simp;refine cm (Ns ba _ (eP.later (iY.trans (ab.mono iY.size)))) ?_;rintro e b9 ⟨rfl,oY,jc⟩;refine ko A ?_;clear A K
  have q9:NJ wr b'.drew:=iY.trans (ab.mono iY.size);have l7:=oY;have j9:=((kD.trans (P9.of q9 (Oi h6))).VL jc);have l1:=hide (jc.rest _ _ _ (stays q9 fD.out) NH);have q1:=((l4.later q9).keep fun b c D=>jc.rest b c 65 D NH);have nq:Kp ao b9:=fun b c e D au=>OB.kp jc b c e (Kp.of q9 b c e (jk b c e D au) au) au;refine QX ?_ _;go_simp;go_wp2_with fail;refine⟨⟨k+1,by omega,by go_num,?_,j9,l1.out,q1,nq⟩,by simp[intOf];omega⟩
  rw[acH aq ps vs k σ aQ,<-dS.out,<-bA.out,<-nC.out];exact l7):G:=h
theorem aAe (h:G:=by
  obtain⟨rl,qy⟩:=xE ((σ.M.NQ.length:Int):Int);rw[<-qy] at Cy ⊢;clear qy;go_enter func50,ntmps50
  go_wp2_with (at_builtin;refine wpList_append_lies _ rfl _ _ 81 rfl mb 3 i0 (Nr 0) 1 8 underlying81 d2 dH b6 cq rfl NH _ _ _ rfl (k8.alloc _) (Nv w.heap.size 0) 1 1 [Nr x] rfl rfl (ahw w x _ rfl) (anf x) NH (by unfold maxLen;omega) Nw Qa (w.heap.size+1) Oq ?_)
  intro gX cap' ao hown' hgrow iD _;have b4:NJ w (w.alloc (.cells #[Nr x] 3)):=OM;obtain⟨aV,f8⟩:=(ac.later b4).aiD x (TW:=.slice (some (Nv gX 0)) (n+1) cap') hgrow (by rw[<-dE.out];exact hown') (fun q ag=>by
   simp only[Value.ownBlock,Option.some.injEq] at ag;subst ag
   rcases iD with h|h
   ·exact .inl h
   ·right;simp;omega)
  have hsz3:mb<ao.heap.size:=by have:=hgrow.size;simp at this;omega
  obtain⟨KH,K2⟩:=((ac.later b4).hh.keep (T:=[3]) (B:=mb) (w':=ao) (OB.grown hgrow Qa fun k E=>by
   obtain⟨c,ai⟩:=OZ (ac.later b4).ow E;exact⟨((ac.later b4).ow.lt k E).1,c,3,ai,by simp⟩) NH NH NH NH NH).at_ 6 _ rfl
  have hR:=((P9.of b4 (Oi bI)).trans f8);have eU:=(Ns Cy _ _ aV.hh);clear iD vf vn;go_wp2_with fail;refine cm eU ?_;rintro e bB ⟨rfl,lO,h2⟩;have kF:=(aV.heap lO h2);have fI:=(hR.trans (P9.ofT h2));go_wp2_with fail;go_ret;exact⟨rfl,_,kF,fI⟩):G:=h
theorem auH (h:G:=by
  obtain⟨et,ex,hev2⟩:=cG.er.Vs gw ae;subst hev2;have aH:rs=((⟨false,⟨ew,dC,eE⟩⟩,av,b8),σ1):=by
   exact aA3
  have z:=kk (∀{G}(h:G:=by
  refine bodyPost_ret (v:=.tuple #[RX ⟨false,⟨ew,dC,eE⟩⟩,.iface et ex]) (by simp[results,results202,go_sem,bi,aY,aX,cu]) rfl ?_;exact aqN),G);exact azq):G:=h
theorem auA (h:G:=by
  exact avn):G:=h
theorem aA7 (h:G:=by
  have z:=kk (∀{G}(h:G:=by
  clear hds c9;go_wp2_with fail;exact bodyPost_ret (v:=.tuple #[.agg #[Nr 3,OG,Nr n,Nr (k:Int)],Nr (e:Int),Pe]) (by simp[results,results143,go_sem,ai]) rfl ⟨rfl,Xo lV _ _ _ _⟩),G);exact aA8):G:=h
theorem aA9 (h:G:=by
  have bP:=kk (∀{G}(h:G:=by
  have lx:=(fA.next (Ap.of (P8.drew.trans jI)));refine A.out _ _ eN (fun _=>?_);clear A K;refine wg 6 (.tuple #[.func (.func f) #[NM c.R 0] #[],NI true]) rfl (Or.inl ⟨by kernel_rfl,fun W a6=>by have hh:=dV.out W a6;go_simp⟩) eN ?_
  refine wh 7 (.tuple #[.func (.func f) #[NM c.R 0] #[],NI true]) eN ?_;refine wh 8 (.func (.func f) #[NM c.R 0] #[]) eN ?_;refine wh 9 (NI true) eN ?_;refine wh 10 (.func (.func f) #[NM c.R 0] #[]) eN ?_;refine wh 11 (NI true) eN ?_;refine wpAnyH_done OJ ?_ _;go_simp;have ah:Hid _:=Ns HP fy eN;go_wp2_with fail;refine cm ah.out ?_;intro e w2 al
  cases r with
  | out=>exact absurd rfl dr.out
  | bad er p=>
   obtain⟨rfl,aw⟩:=al;exact⟨rfl,Pn rfl (lx.next aw)⟩
  | ok x j=>
   obtain⟨⟨v,rfl,ap⟩,a8,aw⟩:=al;have bA:=(NV.mono ap lx.size);have ec:=(lx.next aw);go_wp2_with fail;go_ret;exact RG rfl bA a8 ec),G);exact ztj):G:=h
theorem aAd (h:G:=by
  have dZ:OB [3] mb w ao:=OB.grown hg (Oi h.lt) fun k E=>by
   obtain⟨c,ai⟩:=OZ h.ow E;exact⟨(h.ow.lt k E).1,c,3,ai,by simp⟩
  have kS:=h.hh.keep dZ NH NH NH NH NH;obtain⟨lO,dW⟩:=kS.cell 6 TW;have gW:OB [3,84] mb w (ao.setCell (Nv mb 8) TW):=(dZ.mono NH OH).trans (dW.mono NH OH);obtain⟨d0,h1,O,ax⟩:=h.fu;refine⟨⟨h.bw.trans gW.below,lO,N7 h.lg gW NH,N7 h.se gW NH,?_,d0,h1,N7 O gW NH,fun i a f aw gf=>(ax i a f aw gf).kp (fun b c e D au=>gW.rest b c e D (by rcases au with rfl|rfl <;> decide))⟩,⟨gW.below,fun b c e D au j2 _=>?_,ag,fun _ h=>.inl h⟩⟩
  ·have bN:=N7 aM dW NH
   show World.ownsRow _ _ _ _ _ (σ.PS++[x]).length ((σ.PS++[x]).map _)
   rw[List.length_append,List.map_append];exact bN
  ·have cA:ao.heap[b]? = some (Og c e):=(hg.block b (lt_of_block D) (fun e=>j2 e.symm)).trans D;exact dW.rest b c e cA (fun q=>au (by rw[List.mem_singleton.1 q];decide))):G:=h
theorem azl (h:G:=by
  refine uk 6 n2.out ab ?_;refine uk4 7 r0.out ab ?_;refine O0 8 fun K A=>?_;have z:=kk (∀{G}(h:G:=by
  have jJ:=(Om.of (L:=L) ab (Oi oM)).trans ak;have dG:=hide (jJ.P7 nr jm.out NH NH);have uM:=aK;have yK:=aI;have F0:=gD;have fc:=(lY.up.trans jJ);obtain⟨jR,AS⟩:=xE rs.1.1;rw[<-AS];have p4:=hide AS;clear AS;obtain⟨hz,g4,gR,j7,kx,ky,kz,wO,kA⟩:=PE dG.out;refine uz 9 (RX jR) ?_;refine uz 10 ev ?_;have z:=kk (∀{G}(h:G:=by
  go_wp2_with fail;obtain⟨b3,bz,bb,bx,bv,bi,aY,aX,cu⟩:=rt4 dG.out cI.out bI fc uM (NI jR.ret) (Nr jR.v.k) (Nr jR.v.n) (ND jR.v.s);rw[<-bz];refine bodyPost_ret (v:=.tuple #[RX jR,ev]) (by simp[results,results111,go_sem,bi,aY,aX,cu]) rfl ?_;exact⟨⟨_,by rw[p4.out],yK.O6 bb NH⟩,bv,bx,F0.Rk bb⟩),G);exact aqn),G);exact amU):G:=h
theorem ayP (h:G:=by
  have z:=kk (∀{G}(h:G:=by
  refine uh 10 (NI true) (ke) ?_;have z:=kk (∀{G}(h:G:=by
  obtain⟨hk,gn,gp,ib,ic,id,hm⟩:=Ot jm.out;obtain⟨z0,mC,z2,mD,mE,mF,zl⟩:=Ot (stays ke aN.v);clear cy bQ b5 dn dp dq rl e' cj dD hf hi hj g5;go_simp;go_wp2_with fail;obtain⟨b3,bz,bb,bx,bv,bi,aY,aX⟩:=rt3 jm.out cI.out bI lY jD (Nr v1.k) (Nr v1.n) (ND v1.s);rw[<-bz];refine bodyPost_ret (v:=.tuple #[vA v1,Pe]) (by simp[results,results258,go_sem,bi,aY,aX]) rfl ?_;have aH:rs=((v1,.no),σ1):=by rw[bD.out];unfold aaT;rw[bY.out];simp[lW.out,n'.out]
  rw[aH];exact⟨⟨_,rfl,rfl⟩,bv,bx⟩),G);exact aA4),G);exact aA5):G:=h
theorem azv (h:G:=by
  rw[<-bF,cZ.out] at fL;clear qk bF cM;go_wp2_with fail;refine cm fL ?_;rintro e aD ⟨⟨oz,rfl,aI⟩,gY,gu,gD⟩;have aI:U4 es aD oz bC:=aI;have xR:=gu.P7 w6 y6.out NH NH;have IM:mb<=ob:=by have:=Ns Cm;omega
  have bb:=Sr xR IM (NI iU.ret) (Nr iU.v.k) (Nr iU.v.n) (ND iU.v.s);have Gb:=hide (Zg xR (NI iU.ret) (Nr iU.v.k) (Nr iU.v.n) (ND iU.v.s));have F5:=(gY.Xd bb NH);have Fv:=(aI.O6 bb NH);have FZ:=(NY.Rk gD bb);have mK:=((ak.trans gu).newT bb (TB Cm.out _ _ _ _));clear aW p1 cr cL dY hk gn gp pR ib ic id pS hm ai ge;obtain⟨hk,gn,gp,pR,ib,ic,id,pS,hm⟩:=PE (xR);clear aI gY gu gD bb xR;go_wp2_with fail
  go_roundw
  case rel=>
   exact⟨k+1,iU,bC,rB,ck,by omega,by go_num,F5,ny.out,mK,FZ,Gb.out,Fv,zc.out⟩
  case measure=>simp[intOf];omega):G:=h
theorem ath (h:G:=by
  exact aBa):G:=h
theorem aqP (h:G:=by
  have z:=kk (∀{G}(h:G:=by
  rw[U] at ah ba;simp only[OE] at ba;clear U;have z:=kk (∀{G}(h:G:=by
  exact⟨rfl,Pn ba.out.symm (jC.next aw)⟩),G);exact WE),G);exact avo):G:=h
theorem auB (h:G:=by
  exact aqN):G:=h
theorem aBb (h:G:=by
  have z:=kk (∀{G}(h:G:=by
  exact bodyPost_ret (v:=.tuple #[Xn,Nr 0,.iface 150 (NM b 0)]) (by simp[results,results143,go_sem,ai]) rfl ⟨b,rfl,YK hbel qt bM.out _ _ _ _⟩),G);exact aBd):G:=h
theorem aEj (h:G:=by
  have z:=kk (∀{G}(h:G:=by
  have fe:aD.heap[ao.heap.size]? = some (Og #[Nr 0,Nr 0,OG] 65):=ak.keep (NG _ _) NH;have z:=kk (∀{G}(h:G:=by
  have z:=kk (∀{G}(h:G:=by
  have ch:=VB.early (v:=v1) fe OH (Oi gh) aI aK ((Om.of (OM.drew) (Oi gh)).trans ak)
  generalize ((aD.setCell (Nv ao.heap.size 0) (Nr v1.k)).setCell (Nv ao.heap.size 1) (Nr v1.n)).setCell (Nv ao.heap.size 2) (ND v1.s)=wz at ch ⊢
  generalize ao.heap.size=vb at ch ⊢
  exact dI wz vb ev ch),G);exact ahf),G);exact ap1),G);exact ap2):G:=h
theorem aEk (h:G:=by
  rw[de,b1,show w.heap.size+1+1+1=(((w.alloc (.cells #[Nu mb] 62)).alloc (.cells #[Nr aq,Nr aF,NI st,.pointer aC] 73)).alloc (.cells #[.slice cT dC dO] 311)).heap.size by simp];exact NG _ _):G:=h
theorem anM (h:G:=by
  have cp:ao.heap[aW]? = wd.heap[aW]?:=(eQ.block aW Qa (fun e=>ih.own e.symm)).trans (Below.heap_alloc wd _ aW pj);exact⟨World.cell?_of_block (w:=wd) cp,World.frozen?_of_block (w:=wd) cp⟩):G:=h
theorem anN (h:G:=by
  have cp:ao.heap[aW]? = aD.heap[aW]?:=(eQ.block aW Qa (fun e=>eC.own e.symm)).trans (Below.heap_alloc aD _ aW hF);exact⟨World.cell?_of_block (w:=aD) cp,World.frozen?_of_block (w:=aD) cp⟩):G:=h
theorem axt (h:G:=by
  exact aBe):G:=h
theorem axT (h:G:=by
  clear bZ cq
  by_cases IK:m=k
  ·subst IK;rw[show (b.name.toList==s.toList)=true by
    have:=FU.out;rw[List.getElem?_eq_getElem bI] at lf;rw[Option.some.inj lf] at this;exact this] at ah
   clear lf;have z:=kk (∀{G}(h:G:=by
   go_ret;exact⟨rfl,cf⟩),G);exact aqO
  ·rw[show (b.name.toList==s.toList)=false by
    have:=FW.out m Nw;rw[List.getElem?_eq_getElem bI] at lf;rw[Option.some.inj lf] at this;simpa[YS] using this] at ah
   clear lf;have z:=kk (∀{G}(h:G:=by
   go_roundw
   case rel=>exact⟨m+1,by omega,by go_num,cf⟩
   case measure=>simp[intOf];omega),G);exact aqO):G:=h
theorem azb (h:G:=by
  rw[<-dh];have cZ:=hide dh;have z:=kk (∀{G}(h:G:=by
  clear dh;have z:=kk (∀{G}(h:G:=by
  refine bodyPost_ret (v:=.tuple #[vA bL,Pe]) (by simp[results,results294,go_sem,bi,aY,aX]) rfl ?_;rw[fE.out,<-cZ.out];exact⟨⟨_,rfl,rfl⟩,ed⟩),G);exact aun),G);exact ap4):G:=h
theorem aBf (h:G:=by
  have ah:=(Ur ak gS.drew d (bW+1) qZ.drew (by rw[U];nofun))
  rw[U] at ah ba;simp only[OE] at ba;clear U;go_wp2_with fail;have z:=kk (∀{G}(h:G:=by
  have z:=kk (∀{G}(h:G:=by
  refine wr2 4 8 (fun K A=>?_) fun K A=>?_
  ·go_simp;refine A _ _ ?_;clear A K;refine P6 8 fun K A=>?_;exact aBg
  ·exact aBg),G);exact akL),G);exact Zo):G:=h
theorem avp (h:G:=by
  rintro kc b' ⟨b,rfl,D,jt,Ak⟩;have nI:=s0.trans (Ak.mono s0.size);have qt:=Nat.le_trans s0.size jt;exact aBh):G:=h
theorem anO (h:G:=by
  rw[U] at ah ba;simp only[OE] at ba;clear U;have z:=kk (∀{G}(h:G:=by
  exact⟨rfl,Pn ba.out.symm (ec.next aw)⟩),G);exact WE):G:=h
theorem anP (h:G:=by
  rw[U] at ah ba;simp only[OE] at ba;clear U;have z:=kk (∀{G}(h:G:=by
  exact⟨rfl,Pn ba.out.symm (eo.next aw)⟩),G);exact WE):G:=h
theorem aEl (h:G:=by
  rw[de,bm,show w.heap.size+1+1=((w.alloc (.cells #[Nu mb] 62)).alloc (.cells #[Nr aq,Nr aF,NI st,.pointer aC] 73)).heap.size by simp];exact alloc_old (NG _ _)):G:=h
theorem aEm (h:G:=by
  rw[de,ll,show w.heap.size+3=(((w.alloc (.cells #[Nr aq,Nr aF,NI st,.pointer aC] 73)).alloc (.cells #[NI fY,Nr ok,Nr on,ND fX] 67)).alloc (.cells #[NI false,Nr 0,Nr 0,OG] 67)).heap.size by simp];exact NG _ _):G:=h
theorem aEn (h:G:=by
  have ah:=(Ur ak E2 d (bW+1) Ct (by rw[U];nofun))
  have z:=kk (∀{G}(h:G:=by
  intro e w2 al;obtain⟨⟨v2,rfl,cr,rfl,kl⟩,a8,aw⟩:=al;have ec:=(ym.next aw);have bj:=a8;replace eg:=(Zp eg aw bS.out ym.size kl);have ah:=(OT 24 NC (.slice (some (Nv w2.heap.size 0)) 2 2) (w2.alloc (.cells #[Nu p1,Nu cr] 22)) ⟨_,_,_,rfl⟩);have z:=kk (∀{G}(h:G:=by
  obtain⟨cO,cP,c'⟩:=made bj ec eg (by simp[maxLen]) #[Nu p1,Nu cr] rfl 2 rfl 24 NC (w2.heap.size+1) rfl;exact RG ba.out.symm cO.nv cP c'),G);exact Zq),G);exact WH):G:=h
theorem aBi (h:G:=by
  obtain⟨ai,aG⟩:=YJ nI;go_wp2_with fail;exact bodyPost_ret (v:=.tuple #[.agg #[Nr kd,ND tx,Nr n,Nr (k:Int)],Nr (e:Int),Pe]) (by simp[results,results68,go_sem,ai]) rfl ⟨rfl,Xo nI _ _ _ _⟩):G:=h
theorem ayV (h:G:=by
  rw[<-dh] at h3;refine cm h3 ?_;rintro e fq ⟨rfl,cp⟩;have d8:=hide (stays cp gA.out);have k6:=(zT.later cp);have jW:=(fI.trans (Om.of (L:=none) cp (Oi gx)));have cZ:=hide dh;obtain⟨dm,bT,cY,my,mz,mA,nl⟩:=Ot d8.out;clear dh hk gn gp ib ic id hm aW p1 cr cL dY;have z:=kk (∀{G}(h:G:=by
  refine bodyPost_ret (v:=.tuple #[vA bL,Pe]) (by simp[results,results298,go_sem,bi,aY,aX]) rfl ?_;have aH:rs=((bL,.no),ck):=by rw[cz.out,cZ.out];rfl
  rw[aH];exact⟨⟨_,rfl,rfl⟩,bv,bx⟩),G);exact afi):G:=h
theorem aBj (h:G:=by
  refine wpAnyH_done OJ ?_ _;go_simp;go_wp2_with fail;exact bodyPost_ret (v:=.tuple #[.agg #[OG,Nr 0,Nr 0,Nr 0],NI false]) (by simp[results,results312,go_sem,bi,aY,aX,cu]) rfl ⟨rfl,anQ bu OH _ _ _ _⟩):G:=h
theorem aoJ (h:G:=by
  go_enter func32,ntmps32;go_wp2_with fail;refine cm ah.out ?_;rintro e w2 ⟨rfl,eH,aE⟩;have hn:=hide eH;clear eH;go_wp2_with fail;go_ret;exact⟨rfl,hn.out,(jq.mono (Oi jH)).trans aE⟩):G:=h
theorem aAm (h:G:=by
  refine cm (TA (es:=es) hM tType) ?_;rintro e fq ⟨⟨ev,rfl,aI⟩,cp⟩;have d8:=hide (stays cp fM.out);have k6:=(hV.later cp);have jW:=(gq.trans (Om.of (L:=none) cp (Oi hM)));have yJ:=aI;clear aI;obtain⟨hz,g4,gR,kx,ky,kz,kA⟩:=Ot d8.out;have z:=kk (∀{G}(h:G:=by
  refine bodyPost_ret (v:=.tuple #[vA vU,ev]) (by simp[results,results263,go_sem,bi,aY,aX,vU]) rfl ?_;rw[cz.out];exact⟨⟨_,rfl,yJ.O6 bb NH⟩,bv,bx⟩),G);exact auW):G:=h
theorem aEo (h:G:=by
  have z:=kk (∀{G}(h:G:=by
  exact alloc_old (NG _ _)),G);exact aBk):G:=h
theorem aEp (h:G:=by
  have z:=kk (∀{G}(h:G:=by
  exact NG _ _),G);exact aBk):G:=h
theorem aAF (h:G:=by
  refine O0 12 fun K A=>?_;go_simp;refine ko A ?_;clear A K;refine QX ?_ _;go_simp;have ch:NJ bB (bB.alloc (.cells #[Nr 1,Nr 0,NI st,Qb] 73)).drew/\(bB.alloc (.cells #[Nr 1,Nr 0,NI st,Qb] 73)).drew.heap[bB.heap.size]? = some (Og #[Nr 1,Nr 0,NI st,Qb] 73):=⟨OM.drew,NG _ _⟩
  generalize (bB.alloc (.cells #[Nr 1,Nr 0,NI st,Qb] 73)).drew=wz at ch ⊢
  have ij:bB.heap.size<=bB.heap.size:=OH
  generalize bU:bB.heap.size=bc at ch ij ⊢
  exact dI wz bc (by rw[bU];exact⟨ch.1,ch.2,ij⟩)):G:=h
theorem aj3 (h:G:=by
  have z:=kk (∀{G}(h:G:=by
  go_ret;exact⟨rfl,rfl⟩),G);exact aml):G:=h
theorem aBl (h:G:=by
  rcases Nat.lt_or_ge 0 w.heap.size with h|h
  ·exact h
  ·simp[World.cell?,Array.getElem?_eq_none h] at hg):G:=h
theorem ap8 (h:G:=by
  exact⟨⟨_,by rw[p4.out],aI.O6 bb NH⟩,bv,bx,gD.Rk bb⟩):G:=h
theorem ayK (h:G:=by
  have z:=kk (∀{G}(h:G:=by
  go_simp;go_wp2_with fail;refine cm (TA (es:=es) gx tType) ?_;exact ayI),G);exact apN):G:=h
theorem aEq (h:G:=by
  rw[de,bU,show w.heap.size+1=(w.alloc (.cells #[Nu mb] 62)).heap.size by simp];exact alloc_old (alloc_old (NG _ _))):G:=h
theorem apn (h:G:=by
  go_wp2_with fail;refine cm ah ?_;rintro e w1 ⟨⟨u,rfl,U⟩,D⟩;obtain⟨cT,uc,rfl⟩:=U.form;go_wp2_with fail;go_ret;exact⟨⟨_,rfl,U⟩,D⟩):G:=h
theorem avq (h:G:=by
  clear E;go_enter func348,ntmps348;have ah:=(QF c w i d h);unfold tkV at ah;have fG:=aai (Ox c.l i);go_wp2_with fail;refine cm ah ?_;rintro e wt ⟨rfl,eX⟩;have qY:=(h.later eX);go_wp2_with fail;go_ret;exact⟨rfl,eX⟩):G:=h
theorem aEr (h:G:=by
  unfold Qq at aG;unfold need;rw[if_pos (by
   have h0:t.kd=5\/t.kd=37:=by simpa using aG
   exact h0.imp o0 Or.inl)]):G:=h
theorem aBm (h:G:=by
  have:=acO c (fx c.l i) W a6.base.vals;rw[ag] at this;exact this):G:=h
theorem aEs (h:G:=by
  rw[de,f9,show w.heap.size+1=(w.alloc (.cells #[Nr aq,Nr aF,NI st,.pointer aC] 73)).heap.size by simp];exact alloc_old (alloc_old (NG _ _))):G:=h
theorem aAN (h:G:=by
  refine uh 9 (.agg #[Nr 0,Nr 0,OG]) (ab) ?_;refine O0 10 fun K A=>?_;go_simp;refine cm (Ns d3 _ ab) ?_;rintro e ao ⟨rfl,kS,cQ⟩;refine ko A ?_;clear A K;have FO:=kS;have cV:=(aG.trans ((OB.of ab (Oi h6)).trans cQ));refine QX ?_ _;go_simp;go_wp2_with fail
  go_roundw
  case rel=>
   refine⟨k+1,by omega,by go_num,?_,cV⟩;have h:=FO;rw[lF.out] at h;rw[iy.out];exact h
  case measure=>simp[intOf];omega):G:=h
theorem aqQ (h:G:=by
  have z:=kk (∀{G}(h:G:=by
  obtain⟨cO,cP,c'⟩:=Ns dS;exact RG rfl cO cP c'),G);exact Zq):G:=h
theorem aBn (h:G:=by
  have bj:=a8;replace jB:=(EV.later jB aw bS.out);have jN:=Ns pf;subst jN;go_wp2_with fail;go_ret;exact RG ba.out.symm jB.nv bj ec):G:=h
theorem aBo (h:G:=by
  have z:=kk (∀{G}(h:G:=by
  have z:=kk (∀{G}(h:G:=by
  intro e w1 al;obtain⟨⟨v1,rfl,rfl⟩,a8,aw⟩:=al;have eo:=(jC.next aw);exact aBp),G);exact WH),G);exact avo):G:=h
theorem auN (h:G:=by
  cases a with
  | mk p kd tx n ks=>
   rw[QD] at h1;obtain⟨_,_,⟨v,D,_⟩,_⟩:=h1;exact⟨_,D⟩):G:=h
theorem ayh (h:G:=by
  clear ag;go_enter func55,ntmps55;have z:=kk (∀{G}(h:G:=by
  have bM:=D;go_wp2_with fail;refine cm (dr.out w1 bM) ?_;rintro e w2 ⟨rfl,rfl⟩;go_wp2_with fail;refine cm (gU.out w2 bM) ?_;rintro e ao ⟨rfl,bm⟩;have ef:=(bM.trans (bm.mono bM.size));go_wp2_with fail;go_ret;exact⟨rfl,ef.alloc ef.size _⟩),G);exact agX):G:=h
theorem aEt (h:G:=by
  rw[de,f9,show w.heap.size+1=(w.alloc (.cells #[Nr aq,Nr aF,NI st,.pointer aC] 73)).heap.size by simp];exact alloc_old (NG _ _)):G:=h
theorem ayC (h:G:=by
  refine uh 4 (ND nm) (ab) ?_;refine uk3 5 gc.out ab ?_;refine O0 6 fun K A=>?_;go_simp;refine cm (Ns pe _ ab) ?_;rintro e ao ⟨rfl,e8,cQ⟩;refine ko A ?_;clear A K;have cV:=(da.trans ((Om.of (L:=none) ab (Oi dc)).trans (Om.ofT cQ)));refine uz 7 (RY ov) ?_;refine QX ?_ _;go_simp;go_wp2_with fail;go_ret;exact⟨⟨_,rfl,amE lA.out⟩,⟨_,_,_,_,e8⟩,cV⟩):G:=h
theorem ayc (h:G:=by
  rw[ac] at ah;have dS:=hide ac;clear ac;have z:=kk (∀{G}(h:G:=by
  go_roundw
  case rel=>
   refine⟨k+1,by omega,by go_num,?_,bM.drew⟩;intro j G9 aT Ah
   rcases Nat.lt_or_ge j k with h|h
   ·exact mL.out j G9 h Ah
   ·have:j=k:=Nw;subst this;rw[ly.out] at Ah
    cases Ah
    exact dS.out
  case measure=>simp[intOf];omega),G);exact adf):G:=h
theorem aBq (h:G:=by
  rw[f6,World.cell?_alloc_past _ _ _ Oq,World.cell?_alloc_at _ _ _ _ rfl];rfl):G:=h
theorem aBr (h:G:=by
  rw[World.cell?_alloc_past _ _ _ Oq,World.cell?_alloc_past _ _ _ dx];exact hg):G:=h
theorem aEu (h:G:=by
  have bJ:=hide aH;clear au aH;go_wp2_with fail;obtain⟨b3,bz,bb,bx,bv,bi,aY,aX,cu⟩:=rt4 dU.out cI.out bI di (aN.ms) (NI false) (Nr 0) (Nr 0) (OG);rw[<-bz];refine bodyPost_ret (v:=.tuple #[RX PX,.iface et ex]) (by simp[results,results111,go_sem,bi,aY,aX,cu,vU]) rfl ?_;rw[bJ.out];exact⟨⟨_,rfl,aN.er.O6 bb NH⟩,bv,bx.up,fB.Rk bb⟩):G:=h
theorem azL (h:G:=by
  have dw:=hide aI;clear aI;go_wp2_with fail;refine bodyPost_ret (v:=.tuple #[Qb,.iface 122 (NM tb 0)]) (by simp[results,results321,go_sem]) rfl ?_;exact⟨ef,_,rfl,tb,rfl,dw.out⟩):G:=h
theorem aqR (h:G:=by
  go_simp;refine cm ah ?_;intro e w' al;obtain⟨rfl,aw⟩:=al;exact⟨rfl,Pn ba.out.symm (j8.drew.next aw)⟩):G:=h
theorem aBs (h:G:=by
  have bj:=hr2;have bu:=aE;rw[<-iA];clear iA;refine A.out _ _ bj (fun _=>?_);clear A K;refine wh 12 (NI true) bj ?_;refine wpAnyH_done OJ ?_ _;go_simp;go_wp2_with fail;exact bodyPost_ret (v:=.tuple #[.agg #[ND x.tx,Nr x.kd,Nr x.parts,Nr x.str],NI true]) (by simp[results,results312,go_sem,bi,aY,aX,cu]) rfl ⟨rfl,anQ bu OH _ _ _ _⟩):G:=h
theorem as8 (h:G:=by
  refine cm (ph.ha2 _ eU) ?_;rintro e jg ⟨rfl,v8⟩;have kJ:NJ ei jg:=eU.trans (v8.mono eU.size);go_wp2_with fail;go_ret;exact⟨rfl,jj.trans (kJ.mono jj.size)⟩):G:=h
theorem avr (h:G:=by
  rw[U] at ah ba;simp only[OE] at ba;clear U;have z:=kk (∀{G}(h:G:=by
  exact⟨rfl,Pn ba.out.symm (lx.next aw)⟩),G);exact WE):G:=h
theorem amL (h:G:=by
  rw[av];clear av;go_enter func296,ntmps296;go_wp2_with fail;go_ret;exact⟨rfl,aE⟩):G:=h
theorem ayL (h:G:=by
  have z:=kk (∀{G}(h:G:=by
  go_simp;go_wp2_with fail;go_ret;exact⟨⟨_,rfl,rfl⟩,kF,fI⟩),G);exact apN):G:=h
theorem aAn (h:G:=by
  go_wp2_with fail;obtain⟨b3,bz,bb,bx,bv,bi,aY,aX⟩:=rt3 hW.out cI.out bI ho l0 (Nr v9.k) (Nr v9.n) (ND v9.s);rw[<-bz];refine bodyPost_ret (v:=.tuple #[vA v9,ev]) (by simp[results,results263,go_sem,bi,aY,aX]) rfl ?_;rw[cz.out];exact⟨⟨_,by rw[jn.out],yL.O6 bb NH⟩,bv,bx⟩):G:=h
theorem azP (h:G:=by
  have z:=kk (∀{G}(h:G:=by
  go_wp2_with fail;go_ret;exact⟨rfl,jU⟩),G);exact auR):G:=h
theorem atu (h:G:=by
  have:Tr.counts t.kids=Tr.counts (t.kids.take (k+1))+Tr.counts (t.kids.drop (k+1)):=by rw[<-SL,List.take_append_drop]
  omega):G:=h
theorem aqS (h:G:=by
  go_enter func161,ntmps161;go_wp2_with fail;go_ret;exact⟨rfl,by rw[ah.out];exact dw,P8⟩):G:=h
theorem aEv (h:G:=by
  rw[bu.out,b1,show w.heap.size+1=(w.alloc (.cells #[Nr aq,Nr aF,NI false,.pointer aC] 73)).heap.size by simp];exact NG _ _):G:=h
theorem aBt (h:G:=by
  exact⟨by show (0:Int)<=(σ.M.NQ.length:Int);omega,by show (σ.M.NQ.length:Int)<_;simp[St.opn,Mo.scope];omega⟩):G:=h
theorem ayn (h:G:=by
  rintro e w1 ⟨rfl,D⟩;have bM:=(((Below.refl _ w).alloc OH _).trans (D.mono Oq));go_wp2_with fail;go_ret;exact⟨rfl,bM⟩):G:=h
theorem ayl (h:G:=by
  rcases UM (fun c=>YS nm c.name) x.cs with ⟨dZ,dW⟩|⟨lq,ft,dZ,dW,fO,_⟩
  ·rw[show fC nm x.cs=none from dZ] at E;cases E
  ·rw[show fC nm x.cs=some lq from dZ] at E;cases E;rw[ai] at dW;cases dW;simp[Mo.XM,ame ay,fO]):G:=h
theorem ap3 (h:G:=by
  rw[av];clear av;go_enter func61,ntmps61;go_wp2_with fail;go_ret;exact⟨rfl,aE⟩):G:=h
theorem apx (h:G:=by
  go_wp2
  all_goals first|omega|skip
  all_goals go_ret
  all_goals exact⟨rfl,rfl⟩):G:=h
theorem awY (h:G:=by
  have:=aar (s.extract k (Oo Pz s k)) (fun i ay=>by
   rw[X9 s k _ i gE ay];exact ad1 Pz s (s.size - k) k Nw (k+i) Nw Nw Nw) (Oo Pz s k - k)
  rw[List.take_of_length_le (by rw[afS];omega)] at this
  exact this):G:=h
theorem am3 (h:G:=by
  rw[List.take_succ_eq_append_getElem hl,List.foldl_append];rfl):G:=h
theorem atf (h:G:=by
  have:=agM t p W (fl W a6);rw[kP] at this;exact this):G:=h
theorem aBu (h:G:=by
  have ah:=(Qc ak hN ao d h' _ rfl (by rw[U];nofun) c8)
  rw[U] at ah ba;simp only[OE] at ba;clear U;have z:=kk (∀{G}(h:G:=by
  exact⟨rfl,Pn ba.out.symm (ji.next aw)⟩),G);exact WE):G:=h
theorem apK (h:G:=by
  show _=_
  rw[eL,heap_setCell_other _ _ _ _ (Ne.symm td.out)];exact Ns c8):G:=h
theorem aEw (h:G:=by
  have ah:=(Ur ak E2 d (bW+1) Ct (by rw[U];nofun))
  rw[U] at ah ba;simp only[OE] at ba;clear U;have z:=kk (∀{G}(h:G:=by
  exact⟨rfl,Pn ba.out.symm (ym.next aw)⟩),G);exact WE):G:=h
theorem aw7 (h:G:=by
  clear hq
  cases r <;>
  ·go_enter func194,ntmps194;go_wp2_with fail;rw[<-h8];refine cm ah ?_;rintro e w2 ⟨rfl,aE⟩;have cf:=(cn.trans (aE.mono cn.size));clear h8;go_wp2_with fail;go_ret;exact⟨rfl,cf⟩):G:=h
theorem aw0 (h:G:=by
  obtain⟨va,dv,rfl⟩:=h.form;clear h ak;go_enter func248,ntmps248;go_wp2_with fail;refine cm ah ?_;rintro e w1 ⟨⟨k,rfl,E⟩,D⟩;have f2:=hide E;clear E;go_wp2_with fail;go_ret;exact⟨Sj f2.out,D⟩):G:=h
theorem aBv (h:G:=by
  clear hl;go_enter func51,ntmps51;go_wp2_with fail;go_ret;exact⟨rfl,rfl⟩):G:=h
theorem aEx (h:G:=by
  have ah:=(Oz c O5 gS bW d qZ NH);rw[U] at ah ba;simp only[OE] at ba;clear U;have z:=kk (∀{G}(h:G:=by
  exact⟨rfl,Pn ba.out.symm (pa.next aw)⟩),G);exact WE):G:=h
theorem azA (h:G:=by
  obtain⟨d0,h1,O,ax⟩:=h.fu;exact⟨h.bw.trans (D.mono (Oi h.lt)),h.hh.later D,N9 h.lg D,N9 h.se D,N9 h.ow D,d0,h1,N9 O D,fun i a f aw aG=>(ax i a f aw aG).kp (Kp.of D)⟩):G:=h
theorem aBw (h:G:=by
  intro j u aT
  match j,aT with
  | 0,aT=>simp at aT;subst aT;simp[Addr.add]
  | 1,aT=>simp at aT;subst aT;simp[Addr.add]
  | 2,aT=>simp at aT;subst aT;simp[Addr.add]
  | 3,aT=>simp at aT;subst aT;simp[Addr.add]):G:=h
theorem ayd (h:G:=by
  refine⟨aQ,?_,?_⟩
  ·have:=ly.out;rw[List.getElem?_eq_getElem aQ] at this;rw[Option.some.inj this];exact dS.out
  ·intro j aT;have:=mL.out j bs[j] aT (List.getElem?_eq_getElem Nw);simpa using this):G:=h
theorem axD (h:G:=by
  obtain⟨ps,h1,O⟩:=h;have hl:=TN.length _ _ O;obtain⟨g,cap,rfl,ai⟩:=VQ h1 Nw;obtain⟨al,aA⟩:=TN.get _ _ O k E;exact⟨g,cap,ps[k],by rw[hl],(O9 h1 g rfl).1,ai k al,aA⟩):G:=h
theorem azB (h:G:=by
  obtain⟨d0,h1,O,ax⟩:=h.fu;exact⟨h.bw.trans aG.below,hh,N7 h.lg aG NH,N7 h.se aG NH,N7 h.ow aG NH,d0,h1,N7 O aG NH,fun i a f aw gf=>(ax i a f aw gf).kp (OB.kp aG)⟩):G:=h
theorem aEy (h:G:=by
  rcases hrow.2 with ⟨fj,_⟩|⟨gX,cap',cl,fj,_,_,aA,_⟩
  ·simp at fj
  ·simp only[Value.slice.injEq,Option.some.injEq,Addr.mk.injEq,and_true,true_and] at fj;obtain⟨rfl,rfl⟩:=fj;exact aA):G:=h
theorem aza (h:G:=by
  generalize ((aD.setCell (Nv wr.heap.size 0) (Nr v1.k)).setCell (Nv wr.heap.size 1) (Nr v1.n)).setCell (Nv wr.heap.size 2) (ND v1.s)=wz at ch ⊢
  generalize wr.heap.size=vb at ch ⊢
  exact dI wz vb ev ch):G:=h
theorem awM (h:G:=by
  rw[f6] at ah jq;clear b6 oA mX aw f6 fb;go_enter func32,ntmps32;go_wp2_with fail;refine cm ah.out ?_;rintro e w2 ⟨rfl,aE⟩;go_wp2_with fail;go_ret;exact⟨rfl,jq.trans (aE.mono jq.size)⟩):G:=h
theorem ao2 (h:G:=by
  go_enter func192,ntmps192;go_wp2_with fail;go_ret;exact⟨rfl,bM⟩):G:=h
theorem ayb (h:G:=by
  go_wp2_with fail
  go_loopw [8] (fun i wr=>i=Nr 0/\NJ w wr) (fun i _=>0)
  case atStart=>exact⟨rfl,P8⟩
  case round=>
   obtain⟨rfl,D⟩:=hrel;go_wp2_with fail;go_ret;exact⟨rfl,D⟩):G:=h
theorem aBx (h:G:=by
  rw[e];have bA:=hide ap;clear dl b2 em D h1 O ap;go_enter func217,ntmps217
  go_wp2
  go_ret2
  refine⟨?_,rfl⟩
  show Ending.returned (.tuple #[.int .u8 (s[i].toNat:Int),NI true])=_
  rw[bA.out];rfl):G:=h
theorem apJ (h:G:=by
  rw[av];go_enter func132,ntmps132
  go_wp2
  go_ret;exact⟨rfl,OM⟩):G:=h
theorem apO (h:G:=by
  rw[bD.out];exact⟨⟨_,rfl,aN.er.O6 bb NH⟩,bv,bx⟩):G:=h
theorem awE (h:G:=by
  have O:n<=20001:=Nw;have ax:¬ 20000<n:=Nw;clear h1;go_wp2_with fail;go_ret;refine⟨?_,uv⟩
  show Ending.returned (Value.bool (!decide (20000<n)))=_
  rw[decide_eq_false Nw];rfl):G:=h
theorem axy (h:G:=by
  split at h
  ·
   cases h;omega
  ·obtain⟨u,a7,h1,h⟩:=binds h;have O:=Tq (l:=l) (ak.st _ _) u a7 h1;have aU:=bR _ _ _ _ h;rw[SL,NZ,Oe] at aU;omega):G:=h
theorem aye (h:G:=by
  rcases ap with ⟨rfl,aA⟩|⟨gX,cap,rfl⟩
  all_goals
   go_wp2_with fail;refine cm ah ?_;rintro e w' ⟨rfl,D⟩;go_wp2_with fail;go_ret;refine⟨rfl,OM.trans (D.mono Oq)⟩):G:=h
theorem axz (h:G:=by
  obtain⟨v,a7,h1,h⟩:=binds h;obtain⟨_,i2,O,h⟩:=binds h;cases h;have av:=Tq (l:=l) (ak.vl _ _) v _ h1;have bC:=QL O;rw[count_mk,NZ,Oe];omega):G:=h
theorem avs (h:G:=by
  obtain⟨_,_,_,h⟩:=O4 h;obtain⟨_,_,_,h⟩:=O4 h
  cases h;exact afT):G:=h
theorem ayg (h:G:=by
  have z:=kk (∀{G}(h:G:=by
  have bM:=D;go_wp2_with fail;go_ret;exact⟨rfl,bM⟩),G);exact agX):G:=h
theorem aw8 (h:G:=by
  have z:=kk (∀{G}(h:G:=by
  go_ret;exact⟨rfl,jj.trans (iO.mono jj.size)⟩),G);exact ata):G:=h
theorem axa (h:G:=by
  refine cm (ph.ha3 _ kb) ?_;rintro e E3 ⟨rfl,xU⟩;have GF:NJ ei E3:=kb.trans (xU.mono kb.size);go_wp2_with fail;go_ret;exact⟨rfl,jj.trans (GF.mono jj.size)⟩):G:=h
theorem aw9 (h:G:=by
  have z:=kk (∀{G}(h:G:=by
  go_ret;exact⟨rfl,jj.trans (eU.mono jj.size)⟩),G);exact as9):G:=h
theorem ayt (h:G:=by
  rw[<-bz] at d7 bx bv;obtain⟨bi,aY,aX,_,_⟩:=cells3 d7;exact bodyPost_ret (v:=vA v) (by simp[results,results265,go_sem,bi,aY,aX]) rfl ⟨rfl,_,_,bv,bx⟩):G:=h
theorem azz (h:G:=by
  rw[bM.out];have lM:NJ b3 b3.drew:=P8.drew;exact⟨⟨_,rfl,(Fz.O6 bb NH).later lM⟩,bv.later lM,bx.trans (Om.of lM (Oi bv.lt)),(F3.Rk bb).later lM⟩):G:=h
theorem aBy (h:G:=by
  rw[U] at ah ba;simp only[OE] at ba;clear U;have z:=kk (∀{G}(h:G:=by
  exact⟨rfl,Pn ba.out.symm (sZ.next aw)⟩),G);exact WE):G:=h
theorem aBz (h:G:=by
  have h1:=hall e au D;have h0:=(mem_ready.1 U).1;rw[qo] at h1
  cases ac:listed[i]? with
  | none=>simp[ac] at h1
  | some x=>simp[ac] at h0 h1;rw[h0] at h1;cases h1):G:=h
theorem aAI (h:G:=by
  exact⟨ac.bw.trans f.below,h.lt,(h.at_ 0 _ rfl).1,(h.at_ 1 _ rfl).1,(h.at_ 2 _ rfl).1,(h.at_ 3 _ rfl).1,(h.at_ 4 _ rfl).1,N7 ac.lg f NH,N7 ac.se f NH⟩):G:=h
theorem atJ (h:G:=by
  rintro e w' ⟨rfl,⟨mB,O⟩,ax⟩;exact⟨rfl,⟨az,aB,os,mB,O⟩,ax⟩):G:=h
theorem aAQ (h:G:=by
  have bM:=D;go_wp2_with fail
  go_region
  go_wp2_with fail;exact bodyPost_ret (v:=.tuple #[Qb,NI false]) (by simp[results,results9,go_sem]) rfl ⟨rfl,bM.drew⟩):G:=h
theorem auf (h:G:=by
  cases bC with
  | no=>exact absurd rfl gw
  | stop=>rfl
  | mis=>rfl
  | Wq x=>rfl):G:=h
theorem aBA (h:G:=by
  refine A.out _ _ bj (fun _=>?_);clear A K;refine wh 12 (NI true) bj ?_;refine wpAnyH_done OJ ?_ _;go_simp;go_wp2_with fail;go_ret;exact⟨Sj Oq,bu⟩):G:=h
theorem aui (h:G:=by
  cases e with
  | no=>exact absurd rfl au
  | stop=>rfl
  | mis=>rfl
  | Wq x=>rfl):G:=h
theorem auF (h:G:=by
  rw[cz.out];exact⟨⟨_,rfl,yM.O6 bb NH⟩,bv,bx,bS.Rk bb⟩):G:=h
theorem aBB (h:G:=by
  refine A.out _ _ bj (fun _=>?_);clear A K;refine wh 12 (NI false) bj ?_;refine wpAnyH_done OJ ?_ _;go_simp;go_wp2_with fail;go_ret;exact⟨rfl,bu⟩):G:=h
theorem aA1 (h:G:=by
  refine wpAnyH_done OJ ?_ _;go_simp;go_wp2_with fail
  go_roundw
  case rel=>exact⟨k+1,by omega,by go_num,D.drew⟩
  case measure=>simp[intOf];omega):G:=h
theorem aEz (h:G:=by
  have h1:=(tO.kp (Kp.of (aE.trans (aj.mono aE.size)))).at_.nat.nt;rw[tO.tr] at h1;have O:=Uh _ _ X h1;rw[<-cG] at O;rw[m8];exact O):G:=h
theorem awN (h:G:=by
  go_enter func12,ntmps12;go_wp2_with fail;refine cm ah.out ?_;rintro e w2 ⟨rfl,eH,aE⟩;go_wp2_with fail;go_ret;exact⟨rfl,jq.trans aE⟩):G:=h
theorem aBC (h:G:=by
  have:=afU (ak c ai) ⟨KK,agV (by rw[ai];exact aI) KK⟩ (ahR c.l KK) W _ rfl (by rw[ai,U];nofun) a8
  rw[ai,U] at this;exact this):G:=h
theorem azO (h:G:=by
  rintro e ao ⟨rfl,e8,cQ⟩;have eF:=e8;have cV:=cQ;go_wp2_with fail
  go_end0
  rw[ba.out];exact⟨rfl,eF,(OB.of bM (Oi bI)).trans cV⟩):G:=h
theorem aAs (h:G:=by
  have:0<(O3 d).length:=by rw[QI];omega
  unfold Nz;rw[List.getD_eq_getElem?_getD,List.getElem?_eq_getElem this];exact List.getElem_mem this):G:=h
theorem aBD (h:G:=by
  rw[bY.out] at ah;have z:=kk (∀{G}(h:G:=by
  exact⟨rfl,Pn bo.out.symm (ji.next aw)⟩),G);exact WE):G:=h
theorem axC (h:G:=by
  obtain⟨ps,h1,O⟩:=h;exact⟨ps,Qs (I:=fun _=>True) (Below.stay D) (fun _ _=>trivial) h1,TN.later (Below.stay D) _ _ O⟩):G:=h
theorem aEA (h:G:=by
  have h1:NJ w (RW w):=OM.alloc Oq _;have O:NJ w w2:=h1.trans (aE.mono Nw);exact O.trans ((aw.mono (B':=w.heap.size) Nw).below Nw)):G:=h
theorem aAY (h:G:=by
  have dl:=Ns bM;have b2:=Ns cf;have em:=Ns ef;exact(dl.trans (b2.mono dl.size)).trans (em.mono (Nat.le_trans dl.size b2.size))):G:=h
theorem avt (h:G:=by
  rw[U] at bo;simp only[abq] at bo;exact absurd bo.out.symm dr.out):G:=h
theorem ax6 (h:G:=by
  obtain⟨ry,rz⟩:=kr;clear aJ f7 hfz1 lc;go_wp2_with fail;go_ret;exact⟨rfl,⟨_,dN.out.1⟩,(OB.of bM (Oi hl)).trans dN.out.2⟩):G:=h
theorem auk (h:G:=by
  rintro e w1 ⟨rfl,rfl⟩;go_wp2_with fail;go_ret;exact⟨rfl,rfl⟩):G:=h
theorem ate (h:G:=by
  go_enter func104,ntmps104;go_wp2_with fail;go_ret;exact⟨rfl,hK⟩):G:=h
theorem axB (h:G:=by
  subst cM;go_wp2_with fail;go_ret;refine⟨⟨_,rfl,?_⟩,hbel⟩;have h:=HOWN;rw[List.take_length] at h;rw[List.take_length];exact h):G:=h
theorem atl (h:G:=by
  intro t a'
  cases t with
  | mk kd tx gy ks=>rw[count_mk] at a';omega):G:=h
theorem azQ (h:G:=by
  have h1:=List.length_filter_le (fun k:Nd=>RN k.2) (O3 d);rw[QI] at h1;rw[hds];show ((O3 d).filter _).length<=_;omega):G:=h
theorem at6 (h:G:=by
  generalize br:RY c1=ev
  exact dI wz vb ev ⟨ch,br.symm⟩):G:=h
theorem aBE (h:G:=by
  split at h
  ·
   cases h;exact aw
  ·obtain⟨u,a7,h1,h⟩:=binds h;exact bR _ _ _ _ (ai4 aw (SG (ak.st _ _) u a7 h1)) h):G:=h
theorem aw3 (h:G:=by
  clear O
  cases h1:(kd==1) <;> cases cA:(kd==6) <;>
  ·go_enter func58,ntmps58;go_wp2_with fail;go_ret;exact⟨rfl,rfl⟩):G:=h
theorem asT (h:G:=by
  rw[rounds_succ]
  go_wp2
  go_ret;exact⟨rfl,ali _ _ dA jH⟩):G:=h
theorem axK (h:G:=by
  go_simp;refine A _ _ ?_;clear A K;exact SQ (listed':=tf 6 2) OJ OJ dI):G:=h
theorem ayf (h:G:=by
  have z:=kk (∀{G}(h:G:=by
  exact bZ),G);exact ae3):G:=h
theorem awU (h:G:=by
  rcases U.2 with aA|⟨g,cap,cl,ap,D,rest⟩
  ·exact Or.inl aA
  ·exact Or.inr ⟨g,cap,cl,ap,by omega,rest⟩):G:=h
theorem aBF (h:G:=by
  go_simp;refine cm ah ?_;intro e w' al;obtain⟨rfl,aw⟩:=al;exact⟨rfl,Pn ba.out.symm (jw.drew.next aw)⟩):G:=h
theorem aBG (h:G:=by
  go_simp;refine cm ah ?_;intro e w' al;obtain⟨rfl,aw⟩:=al;exact⟨rfl,Pn ba.out.symm (ec.drew.next aw)⟩):G:=h
theorem aEB (h:G:=by
  rw[aw.block _ Nw Nw,aE.block _ Nw];have:=NG (w.alloc (.cells #[Qb] 22)) (.cells #[Pe] 31);simpa using this):G:=h
theorem aBH (h:G:=by
  go_simp;refine cm fL ?_;intro e aD al;obtain⟨rfl,aw⟩:=al;exact⟨rfl,Pn rfl (qM.drew.next aw)⟩):G:=h
abbrev Nr (n:Int):Value:=.int .i64 n
abbrev NM (b o:Nat):Value:=.pointer (some ⟨b,o,none⟩)
abbrev Nv (b o:Nat):Addr:=⟨b,o,none⟩
abbrev NK:=Calls prog
abbrev NJ (w x:World):Prop:=Below w.heap.size w x
abbrev OG:Value:=.string ⟨#[]⟩
abbrev ND (s:ByteArray):Value:=.string s
abbrev Og (cs:Array Value)(t:TypeId):Obj:=.cells cs t (0,0)
abbrev NU (v:Value):Ending:=.returned v
abbrev NI (b:Bool):Value:=.bool b
abbrev Ny:=World
abbrev NR:=ByteArray
abbrev NP:=Value
theorem Nw {G:Prop}(h:G:=by omega):G:=h
theorem NH {G:Prop}(h:G:=by decide):G:=h
theorem OJ {G:Prop}(h:G:=by kernel_rfl):G:=h
theorem Oq {G:Prop}(h:G:=by simp):G:=h
theorem Qa {G:Prop}(h:G:=by simp;omega):G:=h

abbrev PG:Value:=.slice none 0 0
abbrev Qb:Value:=.pointer none
abbrev Pe:Value:=.nilIface
abbrev lVZ (g n c:Nat):Value:=.slice (some ⟨g,0,none⟩) n c
abbrev UE (f:Nat):Prop:=∀ args W,(callFunc f args).run prog W=.ok (.enter f args) W
theorem Oi {a b:Nat}(h:a<b):a<=b:=Nat.le_of_lt h
theorem OH {a:Nat}:a<=a:=Nat.le_refl a
theorem OM {w:World}{o:Obj}:Below w.heap.size w (w.alloc o):=(Below.refl _ _).alloc (Nat.le_refl _) _
theorem P8 {n:Nat}{w:World}:Below n w w:=Below.refl _ _
def aeG (lo ay c:Int):Bool:=decide (lo<=c)&&decide (c<=ay)
def Z4 (c:Int):Bool:=aeG 97 122 c||c==95
def Pz (c:Int):Bool:=aeG 48 57 c
def U7 (c:Int):Bool:=Z4 c||Pz c
def inB (s:List UInt8)(c:Int):Bool:=decide (0<=Lib.indexByte s c.toNat.toUInt8)
theorem hide {p:Prop}(h:p):Hid p:=h
theorem Ns {p:Prop}(h:Hid p):p:=h
theorem xH {α:Sort _}(a:α):∃ x,Hid (x=a):=⟨a,rfl⟩
theorem xE {α:Sort _}(a:α):∃ x,x=a:=⟨a,rfl⟩
theorem Sj {a b:Bool}(h:a=b):Ending.returned (NI a)=NU (NI b):=by rw[h]
theorem adZ (c lo ay:Int)(p q:Addr)(w:Ny)(h1:w.cell? p=some (.int .u8 lo))(O:w.cell? q=some (.int .u8 ay)) :
  NK 274 #[.int .u8 c,.pointer (some p),.pointer (some q)] w fun e w'=>e=NU (NI (aeG lo ay c))/\w'=w:=by
 go_enter func274,ntmps274
 go_wp2
 all_goals go_ret
 all_goals refine⟨Sj ?_,rfl⟩
 all_goals (simp[aeG, *];try omega)
theorem avg (s:NR)(c:Int)(w:Ny):(callFunc 272 #[ND s,.int .u8 c]).run prog w=.ok (.value (Nr (Lib.indexByte s.data.toList c.toNat.toUInt8))) w:=by
 rw[run_callFunc_extern func272 OJ OJ OJ (e:=Extern.BytealgIndexByte.indexByte) OJ,Lib.run_indexByteString];rfl
theorem ahO (c:Int)(p:Addr)(s:NR)(w:Ny)(h1:w.cell? p=some (ND s)) :
  NK 138 #[.int .u8 c,.pointer (some p)] w fun e w'=>e=NU (NI (inB s.data.toList c))/\w'=w:=by
 have jK:=avg s c;go_enter func138,ntmps138
 go_wp2
 go_ret;exact⟨Sj (by simp[inB]),rfl⟩
theorem aEd:UE 138:=fun _ _=>by kernel_rfl
theorem aEe:UE 273:=fun _ _=>by kernel_rfl
theorem aEf:UE 274:=fun _ _=>by kernel_rfl
/-- A value is a avf of p: in every later world it is a function that answers so and leaves the world as it was. -/
def U8 (w:Ny)(v:NP)(p:Int->Bool):Prop:=
 ∃ f caps,v=.func (.func f) #[] caps/\(∀ args W,(callFunc f args).run prog W=.ok (.enter f args) W)/\∀ W,NJ w W->∀ b:UInt8,NK f (#[.int .u8 (b.toNat:Int)]++caps) W fun e CR=>e=NU (NI (p (b.toNat:Int)))/\CR=W
theorem U8.later {w w':Ny}{v:NP}{p:Int->Bool}(h:U8 w v p)(D:NJ w w'):U8 w' v p:=by
 obtain⟨f,caps,rfl,au,h⟩:=h;exact⟨f,caps,rfl,au,fun W a6 c=>h W (D.trans (a6.mono D.size)) c⟩
theorem Un {w W:Ny}{b o:Nat}{v:NP}(D:NJ w W)(h:w.cell? (Nv b o)=some v)(aQ:b<w.heap.size):W.cell? (Nv b o)=some v:=by
 rw[D.cell (p:=(Nv b o)) aQ];exact h
theorem V9:∀ (fn:Fn) (first cap:Array NP) (w:Ny),(Instr.makeFunc fn first cap).run prog w=.ok (.func fn first cap) w:=fun _ _ _ _=>rfl
theorem ZC (lo ay:Int)(w:Ny) :
  NK 212 #[.int .u8 lo,.int .u8 ay] w fun e w'=>∃ v,e=NU v/\U8 w' v (aeG lo ay)/\NJ w w':=by
 have im:=V9;go_enter func212,ntmps212
 go_wp2
 go_ret;refine⟨_,rfl,⟨274,_,rfl,aEf,fun W a6 c=>?_⟩,OM.alloc Oq _⟩;refine adZ _ lo ay _ _ W ?_ ?_
 ·exact Un a6 (by simp[World.cell?_alloc_past,World.cell?_alloc_at]) Qa
 ·exact Un a6 (by simp[World.cell?_alloc_at]) Oq
theorem acM (s:NR)(w:Ny) :
  NK 66 #[ND s] w fun e w'=>∃ v,e=NU v/\U8 w' v (inB s.data.toList)/\NJ w w':=by
 have im:=V9;go_enter func66,ntmps66
 go_wp2
 go_ret;refine⟨_,rfl,⟨138,_,rfl,aEd,fun W a6 c=>?_⟩,OM⟩;refine ahO _ _ s W ?_;exact Un a6 (by simp[World.cell?_alloc_at]) Oq
theorem afQ (c:Int)(p q:Addr)(f g:Nat)(ou mP:Array NP)(P Q:Int->Bool)(w:Ny)(vj:UE f)(De:UE g)(h1:w.cell? p=some (.func (.func f) #[] ou))(O:w.cell? q=some (.func (.func g) #[] mP))
  (aG:NK f (#[.int .u8 c]++ou) w fun e w'=>e=NU (NI (P c))/\w'=w)
  (hg:NK g (#[.int .u8 c]++mP) w fun e w'=>e=NU (NI (Q c))/\w'=w) :
  NK 273 #[.int .u8 c,.pointer (some p),.pointer (some q)] w fun e w'=>e=NU (NI (P c||Q c))/\w'=w:=by
 have r9:Hid _:=aG;have r':Hid _:=hg
 cases hP:P c
 ·go_enter func273,ntmps273;go_wp2_with fail;refine Calls.mono r9.out ?_;rw[hP];rintro e w' ⟨rfl,rfl⟩;go_wp2_with fail;refine Calls.mono r'.out ?_;rintro e w' ⟨rfl,rfl⟩;go_wp2_with fail;go_ret;exact⟨Sj Oq,rfl⟩
 ·go_enter func273,ntmps273;go_wp2_with fail;refine Calls.mono r9.out ?_;rw[hP];rintro e w' ⟨rfl,rfl⟩;go_wp2_with fail;go_ret;exact⟨Sj Oq,rfl⟩
theorem ahP (u v:NP)(P Q:Int->Bool)(w:Ny)(aO:U8 w u P)(ap:U8 w v Q) :
  NK 211 #[u,v] w fun e w'=>∃ x,e=NU x/\U8 w' x (fun c=>P c||Q c)/\NJ w w':=by
 have im:=V9;obtain⟨f,ou,rfl,vj,aG⟩:=aO;obtain⟨g,mP,rfl,De,hg⟩:=ap;have r9:=hide aG;have r':=hide hg;clear aG hg;go_enter func211,ntmps211
 go_wp2
 go_ret;have D:NJ w ((w.alloc (.cells #[.func (.func f) #[] ou] 140)).alloc (.cells #[.func (.func g) #[] mP] 140)):=OM.alloc Oq _;refine⟨_,rfl,⟨273,_,rfl,aEe,fun W a6 c=>?_⟩,D⟩;have DI:=D.trans (a6.mono D.size);refine afQ _ _ _ f g ou mP P Q W vj De ?_ ?_ (Ns r9 W DI c) (Ns r' W DI c)
 ·exact Un a6 (by simp[World.cell?_alloc_past,World.cell?_alloc_at]) Qa
 ·exact Un a6 (by simp[World.cell?_alloc_at]) Oq
theorem Zn (w:Ny):NK 142 #[] w fun e w'=>∃ x,e=NU x/\U8 w' x Pz/\NJ w w':=by
 go_enter func142,ntmps142;go_wp2_with fail;refine(ZC 48 57 _).mono ?_;rintro e w' ⟨x,rfl,ac,D⟩;have dS:=hide ac;have bM:=hide D;go_wp2_with fail;go_ret;exact⟨x,rfl,dS.out,bM.out⟩
theorem U8.congr {w:Ny}{v:NP}{p q:Int->Bool}(h:U8 w v p)(e:∀ b:UInt8,p (b.toNat:Int)=q (b.toNat:Int)):U8 w v q:=by
 obtain⟨f,caps,rfl,au,h⟩:=h;exact⟨f,caps,rfl,au,fun W a6 b=>by rw[<-e b];exact h W a6 b⟩
theorem akJ (b:UInt8):inB [95] (b.toNat:Int)=((b.toNat:Int)==95):=by
 have key:∀ m:Fin 256,inB [95] ((m.val:Nat):Int)=(((m.val:Nat):Int)==95):=by decide +kernel
 exact key ⟨b.toNat,b.toNat_lt⟩
def QN (c:Int):Bool:=c==32||c==10
theorem aqL (b:UInt8):inB [32,10] (b.toNat:Int)=QN (b.toNat:Int):=by
 have key:∀ m:Fin 256,inB [32,10] ((m.val:Nat):Int)=QN ((m.val:Nat):Int):=by decide +kernel
 exact key ⟨b.toNat,b.toNat_lt⟩
theorem abn (w:Ny):NK 140 #[] w fun e w'=>∃ x,e=NU x/\U8 w' x Z4/\NJ w w':=by
 go_enter func140,ntmps140;go_wp2_with fail;refine(ZC 97 122 _).mono ?_;rintro e w1 ⟨x,rfl,ac,D⟩;have dS:=hide ac;have bM:=hide D;go_wp2_with fail;refine(acM _ _).mono ?_;have z:=kk (∀{G}(h:G:=by
 refine⟨bE,rfl,dN.out.congr (fun b=>by show (_||inB [95] _)=_;rw[akJ];rfl),?_⟩
 exact aAY),G);exact aAZ
theorem aqM (w:Ny):NK 213 #[] w fun e w'=>∃ x,e=NU x/\U8 w' x U7/\NJ w w':=by
 go_enter func213,ntmps213;go_wp2_with fail;refine(abn _).mono ?_;rintro e w1 ⟨x,rfl,ac,D⟩;have dS:=hide ac;have bM:=hide D;go_wp2_with fail;refine(Zn _).mono ?_;have z:=kk (∀{G}(h:G:=by
 refine⟨bE,rfl,dN.out.congr (fun b=>rfl),?_⟩;exact aAY),G);exact aAZ
/-- The first place from k on whose byte is of another kind, or the end. -/
def Oo (p:Int->Bool)(s:NR)(k:Nat):Nat:=k+((s.data.toList.drop k).takeWhile (fun b=>p (b.toNat:Int))).length
section
variable (p:Int->Bool) (s:NR) (k:Nat)
include p s k
theorem RZ (h:k<=s.size):Oo p s k<=s.size:=by
 unfold Oo;have h1:=((List.takeWhile_prefix (l:=s.data.toList.drop k) (fun b=>p (b.toNat:Int))).length_le);have O:(s.data.toList.drop k).length=s.size - k:=by simp
 omega
theorem Xl (h:k<s.size)(al:p (s[k].toNat:Int)=true):Oo p s (k+1)=Oo p s k:=by
 have z:=kk (∀{G}(h:G:=by
 rw[e,List.takeWhile_cons,if_pos al,List.length_cons];omega),G);exact aA0
theorem abo (h:k<s.size)(al:p (s[k].toNat:Int)=false):Oo p s k=k:=by
 have z:=kk (∀{G}(h:G:=by
 rw[e,List.takeWhile_cons,if_neg (by rw[al];simp)];rfl),G);exact aA0
theorem akK (h:s.size<=k):Oo p s k=k:=by
 unfold Oo;rw[List.drop_of_length_le (by simpa using h)];rfl
end
theorem aah {k:IntKind}{a b:Int}(h:a=b):Ending.returned (.int k a)=NU (.int k b):=by rw[h]
theorem Xm (s:NR)(ce:Nat)(v:NP)(p:Int->Bool)(w:Ny)(ae:s.size<=maxLen)(iP:ce<=s.size)(ap:U8 w v p) :
  NK 67 #[ND s,Nr (ce:Int),v] w fun e w'=>e=NU (Nr (Oo p s ce:Nat))/\w'=w:=by
 unfold maxLen at ae;obtain⟨f,caps,rfl,vj,aG⟩:=ap;have aG:=aG w P8;have r9:=hide aG;clear aG;go_enter func67,ntmps67
 go_wp2
 go_loopw [1] (fun i wr=>∃ k:Nat,k<=s.size/\i=Nr k/\Oo p s k=Oo p s ce/\wr=w) (fun i _=>s.size - (intOf i).toNat)
 case atStart=>exact⟨ce,iP,rfl,rfl,rfl⟩
 case round=>
  obtain⟨k,E,rfl,au,rfl⟩:=hrel;have dw:=hide au;clear au
  by_cases aQ:k<s.size
  ·
   cases al:p (s[k].toNat:Int)
   ·have bF:=hide (abo p s k aQ al);have HP:=hide al;clear al;go_wp2_with fail;refine Calls.mono (Ns r9 _) ?_;rw[HP.out];rintro e w' ⟨rfl,rfl⟩;go_wp2_with fail;go_ret;exact⟨aah (by rw[<-dw.out,bF.out]),rfl⟩
   ·have bF:=hide (Xl p s k aQ al);have HP:=hide al;clear al;go_wp2_with fail;refine Calls.mono (Ns r9 _) ?_;rw[HP.out];rintro e w' ⟨rfl,rfl⟩;go_wp2_with fail
    go_roundw
    case rel=>exact⟨k+1,by omega,by go_num,by rw[bF.out,dw.out],by trivial⟩
    case measure=>simp[intOf];omega
  ·have bF:=hide (akK p s k Nw);go_wp2_with fail;go_ret;exact⟨aah (by rw[<-dw.out,bF.out]),rfl⟩
def isIn (bf:List NR)(s:NR):Bool:=bf.any (fun x=>x.toList==s.toList)
section
variable (bf:List NR) (s:NR) (k:Nat) (h:k<bf.length)
include bf s k h
theorem abI (h0:isIn (bf.take k) s=false)(h1:(bf[k].toList==s.toList)=false):isIn (bf.take (k+1)) s=false:=by
 unfold isIn at *;rw[List.take_succ_eq_append_getElem h,List.any_append,h0];simpa using h1
theorem aox (h1:(bf[k].toList==s.toList)=true):isIn bf s=true:=by
 unfold isIn;exact List.any_eq_true.2 ⟨bf[k],List.getElem_mem h,h1⟩
end
theorem asK (cs:Array NP)(k:Nat)(E:k<19)(x:NR)(ac:cs[k]? = some (ND x))(w:Ny) :
  (Instr.index 272 (.agg cs) (Nr (k:Int))).run prog w=.ok (ND x) w:=by
 simp[Instr.index,run_underlying underlying272,asIntOf,go_sem,E,ac]
theorem abr (bf:List NR)(s:NR)(w:Ny)(aA:bf.length=19)(t:TypeId)(fr:Nat × Nat)
  (hg:w.heap[6]? = some (.cells (bf.map Value.string).toArray t fr)) :
  NK 214 #[ND s] w fun e w'=>e=NU (NI (isIn bf s))/\w'=w:=by
 obtain⟨cs,r8⟩:=xH ((bf.map Value.string).toArray);rw[<-r8.out] at hg;have c9:cs.size=19:=by rw[r8.out];simpa using aA
 have oJ:∀ k:Nat,k<19->∀ W,(Instr.index 272 (.agg cs) (Nr (k:Int))).run prog W=.ok (ND (bf.getD k ByteArray.empty)) W:=fun k E W=>
  asK cs k E _ (by rw[r8.out];simp[aA,E]) W
 have rU:=hide oJ;have sa:=hide c9;have r':=hide hg;clear oJ c9 hg;go_enter func214,ntmps214
 go_wp2_with (refine wpList_load_row rfl 272 _ rfl 6 rfl t cs fr _ r'.out underlying272 rfl (by rw[sa.out];kernel_rfl) ?_)
 go_loop [4,6] (fun _ i=>∃ k:Nat,k<=19/\i=Nr k/\isIn (bf.take k) s=false) (fun _ i=>19 - (intOf i).toNat)
 case atStart=>exact⟨0,Nat.zero_le _,rfl,rfl⟩
 case round=>
  obtain⟨k,E,rfl,au⟩:=hrel;have dw:=hide au;clear au
  by_cases aQ:k<19
  ·have eI:=Ns rU k aQ
   go_wp2
   ·go_ret;exact⟨Sj (aox bf s k Nw (by rw[BEq.comm];assumption)).symm,rfl⟩
   ·exact⟨⟨k+1,by omega,by go_num,abI bf s k Nw dw.out (by rw[BEq.comm];assumption)⟩,by simp[intOf];omega⟩
  ·go_wp2
   go_ret;exact⟨Sj (by have:=Ns dw;rw[List.take_of_length_le Nw] at this;exact this.symm),rfl⟩
section
open Go.ChangeShapes Go.WideShapes Go.ChangeAt Go.WideMaps Go.WideElems Go.RowKit
def ofBytes (l:List UInt8):NR:=⟨l.toArray⟩
def anG:List (List UInt8):=[[118,97,114],[108,101,116],[99,111,110,115,116],[102,117,110,99,116,105,111,110],[105,102],[101,108,115,101],[119,104,105,108,101],[119,105,116,104],[114,101,116,117,114,110],[116,104,114,111,119],[116,114,121],[99,97,116,99,104],[102,105,110,97,108,108,121],[116,121,112,101,111,102],[100,101,108,101,116,101],[116,114,117,101],[102,97,108,115,101],[110,117,108,108],[117,110,100,101,102,105,110,101,100]]
def PI:List NR:=anG.map ofBytes
def anH:List (List UInt8):=[[61,61,61],[38,38],[124,124],[40],[41],[123],[125],[91],[93],[59],[58],[44],[46],[61],[43],[45],[42],[60],[33]]
def Pq:List NR:=anH.map ofBytes
theorem ahM:PI.length=19:=rfl
theorem ahN:Pq.length=19:=rfl
theorem abm {s:NR}{l:List UInt8}(h:s.data.toList=l):s=ofBytes l:=bytes_inj (by rw[h];rfl)
theorem at_eq (s:NR)(i:Nat)(h:i<s.size):s.data.toList.getD i 0=s[i]:=by
 have ax:i<s.data.toList.length:=by (have aU:s.data.toList.length=s.size:=by simp);omega
 rw[List.getD_eq_getElem?_getD,List.getElem?_eq_getElem ax];rfl
end
theorem YJ {W w1:Ny}(D:NJ W w1):(∀ b o,b<W.heap.size->w1.cell? (Nv b o)=W.cell? (Nv b o))/\(∀ b o,b<W.heap.size->w1.frozen? (Nv b o)=W.frozen? (Nv b o)):=
 ⟨fun b o h=>D.cell (p:=(Nv b o)) h,fun b o h=>D.frozen (p:=(Nv b o)) h⟩
inductive Rd where
 | tok (kd:Int) (tx:NR) (n:Int) (e:Nat)
 | bad (er:Int) (p:Nat)
abbrev Xn:NP:=.agg #[Nr 0,OG,Nr 0,Nr 0]
def SA (k:Nat)(r:Rd)(w:Ny)(e:Ending)(w':Ny):Prop:=
 match r with
 | .tok kd tx n hY=>e=NU (.tuple #[.agg #[Nr kd,ND tx,Nr n,Nr (k:Int)],Nr (hY:Int),.nilIface])/\NJ w w'
 | .bad er p=>∃ b,e=NU (.tuple #[Xn,Nr 0,.iface 150 (NM b 0)])/\w'.heap[b]? = some (Og #[Nr er,Nr (p:Int)] 152)/\w.heap.size<=b/\NJ w w'
theorem YK {w w1:Ny}{b:Nat}{o X:Obj}(hbel:Below (w.alloc o).heap.size (w.alloc o) w1)(jt:(w.alloc o).heap.size<=b)(D:w1.heap[b]? = some X)(v0 v1 v2 v3:NP) :
  ((((w1.setCell (Nv w.heap.size 0) v0).setCell (Nv w.heap.size 1) v1).setCell (Nv w.heap.size 2) v2).setCell (Nv w.heap.size 3) v3).heap[b]? = some X/\w.heap.size<=b /\
   NJ w ((((w1.setCell (Nv w.heap.size 0) v0).setCell (Nv w.heap.size 1) v1).setCell (Nv w.heap.size 2) v2).setCell (Nv w.heap.size 3) v3):=by
 have aJ:(w.alloc o).heap.size=w.heap.size+1:=by simp
 have ci:b≠w.heap.size:=Nw;have tw:NJ w (w.alloc o):=OM;have dl:NJ w w1:=tw.trans (hbel.mono Nw);refine⟨?_,by omega,(((dl.setCell OH _).setCell OH _).setCell OH _).setCell OH _⟩;rw[Below.heap_setCell _ _ _ _ ci,Below.heap_setCell _ _ _ _ ci,Below.heap_setCell _ _ _ _ ci,Below.heap_setCell _ _ _ _ ci];exact D
theorem abp (er p:Int)(w:Ny):NK 215 #[Nr er,Nr p] w fun e w'=>
  ∃ b,e=NU (.tuple #[Xn,Nr 0,.iface 150 (NM b 0)])/\w'.heap[b]? = some (Og #[Nr er,Nr p] 152)/\w.heap.size<=b/\NJ w w':=by
 go_enter func215,ntmps215
 go_wp2
 refine bodyPost_ret (v:=.tuple #[Xn,Nr 0,.iface 150 (NM (w.heap.size+1) 0)]) (by simp[results,results215,go_sem]) rfl ⟨_,rfl,?_,by omega,OM.alloc Oq _⟩;simpa using heap_alloc_new (w.alloc (.cells #[Nr 0,OG,Nr 0,Nr 0] 144)) (.cells #[Nr er,Nr p] 152)
def aeH (x p:NR):Bool:=decide (p.size<=x.size)&&((x.extract 0 p.size).toList==p.toList)
theorem ab3 (x p:NR)(w:Ny)(_hx:x.size<=maxLen)(G6:p.size<=maxLen) :
  NK 218 #[ND x,ND p] w fun e w'=>e=NU (NI (aeH x p))/\w'=w:=by
 unfold maxLen at _hx G6
 by_cases h:p.size<=x.size
 all_goals
  go_enter func218,ntmps218
  go_wp2
  go_ret;exact⟨Sj (by simp[aeH,h]),rfl⟩
def Uu (bH:List NR)(s:NR)(k:Nat):Rd:=
 match bH.find? (fun g=>aeH (s.extract k s.size) g) with
 | some g=>.tok 5 g 0 (k+g.size)
 | none=>.bad 3 k
section
variable {bH:List NR} {f:NR->Bool}
include bH f
theorem aoq {i:Nat}(ay:i<bH.length)(h0:∀ j,(aT:j<i)->f (bH[j]'Nw)=false)(h:f bH[i]=true):bH.find? f=some bH[i]:=by
 rw[List.find?_eq_some_iff_getElem];exact⟨h,i,ay,rfl,fun j aT=>by rw[h0 j aT];rfl⟩
theorem Zd (h0:∀ j,(aT:j<bH.length)->f bH[j]=false):bH.find? f=none:=by
 rw[List.find?_eq_none];intro x ac;obtain⟨j,aT,rfl⟩:=List.getElem_of_mem ac;rw[h0 j aT];simp
end
theorem extract_size (s:NR)(a b:Nat)(h1:a<=b)(O:b<=s.size):(s.extract a b).size=b - a:=by
 simp;omega
theorem ad3 (bH:List NR)(s:NR)(k:Nat)(w:Ny)(ae:s.size<=3000)(E:k<s.size)(aA:bH.length=19)(c9:∀ i,i<19->(bH.getD i ByteArray.empty).size<=3)(t:TypeId)(fr:Nat × Nat)
  (hg:w.heap[2]? = some (.cells (bH.map Value.string).toArray t fr)) :
  NK 145 #[ND s,Nr (k:Int)] w (SA k (Uu bH s k) w):=by
 obtain⟨cs,r8⟩:=xH ((bH.map Value.string).toArray);rw[<-r8.out] at hg;have hsz1:cs.size=19:=by rw[r8.out];simpa using aA
 have oJ:∀ k:Nat,k<19->∀ W,(Instr.index 272 (.agg cs) (Nr (k:Int))).run prog W=.ok (ND (bH.getD k ByteArray.empty)) W:=fun k E W=>
  asK cs k E _ (by rw[r8.out];simp[aA,E]) W
 have rU:=hide oJ;have sa:=hide c9;have G0:=hide hsz1;have vc:=hide aA;have r':Hid ((w.alloc (.cells #[Nr 0,OG,Nr 0,Nr 0] 144)).heap[2]? = some (.cells cs t fr)):=by
  have aQ:2<w.heap.size:=(Array.getElem?_eq_some_iff.1 hg).1
  show _=_
  rw[Below.heap_alloc w _ 2 aQ];exact hg
 clear oJ c9 hg aA hsz1;go_enter func145,ntmps145
 go_wp2_with (refine wpList_load_row rfl 272 _ rfl 2 rfl t cs fr _ r'.out underlying272 rfl (by rw[G0.out];kernel_rfl) ?_)
 go_loopw [8,10] (fun _ i wr=>∃ j:Nat,j<=19/\i=Nr j/\(∀ q,q<j->aeH (s.extract k s.size) (bH.getD q ByteArray.empty)=false)/\wr=w.alloc (.cells #[Nr 0,OG,Nr 0,Nr 0] 144)) (fun _ i _=>19 - (intOf i).toNat)
 case atStart=>exact⟨0,Nat.zero_le _,rfl,fun q ag=>absurd ag (Nat.not_lt_zero _),rfl⟩
 case round=>
  obtain⟨j,aT,rfl,au,rfl⟩:=hrel;have dw:=hide au;clear au
  by_cases aQ:j<19
  ·have eI:=Ns rU j aQ;have re:=Ns sa j aQ;obtain⟨g,hg⟩:=xE (bH.getD j ByteArray.empty);rw[<-hg] at eI re;have uF:=hide hg;clear hg
   cases al:aeH (s.extract k s.size) g
   ·have z:=kk (∀{G}(h:G:=by
    go_roundw
    case rel=>exact⟨j+1,by omega,by go_num,fun q ag=>by (by_cases A1:q=j);(rw[A1,<-uF.out];exact HP.out);exact Ns dw q Nw,by trivial⟩
    case measure=>simp[intOf];omega),G);exact aCr
   ·have z:=kk (∀{G}(h:G:=by
    have U:Uu bH s k=.tok 5 g 0 (k+g.size):=by
     unfold Uu;have DU:g=bH[j]'(by rw[vc.out];exact aQ):=by rw[uF.out,List.getD_eq_getElem?_getD,List.getElem?_eq_getElem (by rw[vc.out];exact aQ)];rfl
     rw[aoq (i:=j) (by rw[vc.out];exact aQ) (fun q ag=>by
      have:=Ns dw q ag;rw[List.getD_eq_getElem?_getD,List.getElem?_eq_getElem (by rw[vc.out];omega)] at this
      exact this) (by rw[<-DU];exact HP.out),<-DU]
    rw[U];exact bodyPost_ret (v:=.tuple #[.agg #[Nr 5,ND g,Nr 0,Nr (k:Int)],Nr ((k:Int)+(g.size:Int)),Pe]) (by simp[results,results145,go_sem]) rfl ⟨by simp,OM⟩),G);exact aCr
  ·go_wp2_with fail;refine(abp _ _ _).mono ?_;rintro e w1 ⟨b,rfl,D,jt,hbel⟩;obtain⟨ai,aG⟩:=YJ hbel;have bM:=hide D;clear D;go_wp2_with fail;have U:Uu bH s k=.bad 3 k:=by
    unfold Uu;rw[Zd (fun q ag=>by
     have:=Ns dw q (by rw[vc.out] at ag;omega)
     rw[List.getD_eq_getElem?_getD,List.getElem?_eq_getElem ag] at this;exact this)]
   rw[U];exact bodyPost_ret (v:=.tuple #[Xn,Nr 0,.iface 150 (NM b 0)]) (by simp[results,results145,go_sem,ai]) rfl ⟨b,rfl,YK hbel jt bM.out _ _ _ _⟩
theorem Ug (p:Int->Bool)(s:NR)(k:Nat):k<=Oo p s k:=by unfold Oo;omega
theorem Xo {w w1:Ny}{o:Obj}(hbel:Below (w.alloc o).heap.size (w.alloc o) w1)(v0 v1 v2 v3:NP) :
   NJ w ((((w1.setCell (Nv w.heap.size 0) v0).setCell (Nv w.heap.size 1) v1).setCell (Nv w.heap.size 2) v2).setCell (Nv w.heap.size 3) v3):=by
 have aJ:(w.alloc o).heap.size=w.heap.size+1:=by simp
 have tw:NJ w (w.alloc o):=OM;have dl:NJ w w1:=tw.trans (hbel.mono Nw);exact(((dl.setCell OH _).setCell OH _).setCell OH _).setCell OH _
def Ti (bf:List NR)(s:NR)(k:Nat):Rd:=
 if isIn bf (s.extract k (Oo U7 s k))=true then .tok 2 (s.extract k (Oo U7 s k)) 0 (Oo U7 s k)
 else if 20<Oo U7 s k - k then .bad 4 k
 else .tok 1 (s.extract k (Oo U7 s k)) 0 (Oo U7 s k)
abbrev O35:Obj:=.cells #[Nr 0,OG,Nr 0,Nr 0] 144
section
variable (bf:List NR) (s:NR) (k e:Nat) (w:Ny) (ae:s.size<=3000) (E:k<s.size) (au:Oo U7 s k=e) (kT:k<=e) (gE:e<=s.size)
include bf s k e w ae E au kT gE
theorem ab7 (hw:isIn bf (s.extract k e)=true)(aA:bf.length=19)(t:TypeId)(fr:Nat × Nat)(hg:w.heap[6]? = some (.cells (bf.map Value.string).toArray t fr)) :
  NK 141 #[ND s,Nr (k:Int)] w (SA k (.tok 2 (s.extract k e) 0 e) w):=by
 have z:=kk (∀{G}(h:G:=by
 exact bodyPost_ret (v:=.tuple #[.agg #[Nr 2,ND (s.extract k e),Nr 0,Nr (k:Int)],Nr (e:Int),Pe]) (by simp[results,results141,go_sem,ai]) rfl ⟨rfl,Xo hbel _ _ _ _⟩),G);exact aBZ
theorem ab8 (hw:isIn bf (s.extract k e)=false)(q7:¬ 20<e - k)(aA:bf.length=19)(t:TypeId)(fr:Nat × Nat)(hg:w.heap[6]? = some (.cells (bf.map Value.string).toArray t fr)) :
  NK 141 #[ND s,Nr (k:Int)] w (SA k (.tok 1 (s.extract k e) 0 e) w):=by
 have z:=kk (∀{G}(h:G:=by
 exact bodyPost_ret (v:=.tuple #[.agg #[Nr 1,ND (s.extract k e),Nr 0,Nr (k:Int)],Nr (e:Int),Pe]) (by simp[results,results141,go_sem,ai]) rfl ⟨rfl,Xo hbel _ _ _ _⟩),G);exact aBZ
theorem ab9 (hw:isIn bf (s.extract k e)=false)(q7:20<e - k)(aA:bf.length=19)(t:TypeId)(fr:Nat × Nat)(hg:w.heap[6]? = some (.cells (bf.map Value.string).toArray t fr)) :
  NK 141 #[ND s,Nr (k:Int)] w (SA k (.bad 4 k) w):=by
 have bP:=kk (∀{G}(h:G:=by
 have lV:=hbel;go_wp2_with fail;have hpast:=Xm s k x U7 w1 (by unfold maxLen;omega) Nw ac
 rw[dw.out] at hpast;refine hpast.mono ?_;rintro bC w2 ⟨rfl,rfl⟩;have pc:Hid (w2.heap[6]? = some (.cells (bf.map Value.string).toArray t fr)):=by
  show _=_
  rw[lV.block 6 Qa,Below.heap_alloc w _ 6 aQ];exact Ns gU
 go_wp2_with fail;refine(abr bf (s.extract k e) w2 dE.out t fr pc.out).mono ?_;rw[fs.out];rintro ey ao ⟨rfl,rfl⟩;have z:=kk (∀{G}(h:G:=by
 exact bodyPost_ret (v:=.tuple #[Xn,Nr 0,.iface 150 (NM b 0)]) (by simp[results,results141,go_sem,ai]) rfl ⟨b,rfl,YK hbel qt bM.out _ _ _ _⟩),G);exact aBd),G);exact ztr
end
theorem ad2 (bf:List NR)(s:NR)(k:Nat)(w:Ny)(ae:s.size<=3000)(E:k<s.size)(aA:bf.length=19)(t:TypeId)(fr:Nat × Nat)
  (hg:w.heap[6]? = some (.cells (bf.map Value.string).toArray t fr)) :
  NK 141 #[ND s,Nr (k:Int)] w (SA k (Ti bf s k) w):=by
 have kT:=Ug U7 s k;have gE:=RZ U7 s k Nw
 cases hw:isIn bf (s.extract k (Oo U7 s k))
 ·by_cases q7:20<Oo U7 s k - k
  ·have U:Ti bf s k=.bad 4 k:=by unfold Ti;rw[hw];simp[q7]
   rw[U];exact ab9 bf s k _ w ae E rfl kT gE hw q7 aA t fr hg
  ·have U:Ti bf s k=.tok 1 (s.extract k (Oo U7 s k)) 0 (Oo U7 s k):=by unfold Ti;rw[hw];simp[q7]
   rw[U];exact ab8 bf s k _ w ae E rfl kT gE hw q7 aA t fr hg
 ·have U:Ti bf s k=.tok 2 (s.extract k (Oo U7 s k)) 0 (Oo U7 s k):=by unfold Ti;rw[hw];simp
  rw[U];exact ab7 bf s k _ w ae E rfl kT gE hw aA t fr hg
def VU (l:List UInt8):Int:=l.foldl (fun n b=>n * 10+((b.toNat:Int) - 48)) 0
section
variable (l:List UInt8)
include l
theorem ajz (b:UInt8):VU (l++[b])=VU l * 10+((b.toNat:Int) - 48):=by simp[VU,List.foldl_append]
theorem alu:∀ (n:Int),0<=n->(∀ b ∈ l,Pz (b.toNat:Int)=true) ->
  0<=l.foldl (fun n b=>n * 10+((b.toNat:Int) - 48)) n/\l.foldl (fun n b=>n * 10+((b.toNat:Int) - 48)) n<(n+1) * 10 ^ l.length:=by
 induction l with
 | nil=>intro n h0 _;simp;omega
 | cons b l bR=>
  intro n h0 h;have D:=h b Oq;simp[Pz,aeG] at D;have h1:=bR (n * 10+((b.toNat:Int) - 48)) Nw (fun c ai=>h c (by simp[ai]));refine⟨h1.1,Int.lt_of_lt_of_le h1.2 ?_⟩;rw[List.length_cons,Int.pow_succ,Int.mul_comm ((10:Int) ^ l.length) 10,<-Int.mul_assoc];exact Int.mul_le_mul_of_nonneg_right Nw (Int.pow_nonneg Nw)
theorem XW (h:∀ b ∈ l,Pz (b.toNat:Int)=true):0<=VU l/\VU l<10 ^ l.length:=by
 have h1:=alu l 0 (Int.le_refl _) h;refine⟨h1.1,?_⟩;have O:=h1.2;rw[Int.zero_add,Int.one_mul] at O;exact O
end
theorem aar (x:NR)(hd:∀ i,(ay:i<x.size)->Pz (x[i].toNat:Int)=true)(k:Nat):∀ b ∈ x.data.toList.take k,Pz (b.toNat:Int)=true:=by
 intro b D;obtain⟨i,ay,rfl⟩:=List.getElem_of_mem D;have oH:i<x.data.toList.length:=by simp at ay;simp;omega
 have ae:i<x.size:=by
  have aU:x.data.toList.length=x.size:=by simp
  omega
 rw[List.getElem_take];exact hd i ae
theorem take_snoc (s:NR)(k:Nat)(h:k<s.size):s.data.toList.take (k+1)=s.data.toList.take k++[s[k]]:=by
 rw[List.take_succ_eq_append_getElem (by simpa using h)];rfl
theorem agJ (x:NR)(w:Ny):∃ cap fb,(convert 9 42 (ND x)).run prog w=.ok (.slice (some (Nv w.heap.size 0)) x.size cap) fb/\NJ w fb /\
  ∀ i,(ay:i<x.size)->fb.cell? (Nv w.heap.size i)=some (.int .u8 (x[i].toNat:Int)):=by
 refine⟨_,_,run_bytes_of_string w 9 42 5 x underlying9 underlying42 underlying5,(P8.drew.alloc OH _),?_⟩;intro i ay;have hh:=heap_alloc_new w.drew (.cells (bytesRow x (grownCap w x.size 0 5)) 5 ((bytesRow x (grownCap w x.size 0 5)).size,(bytesRow x (grownCap w x.size 0 5)).size+1))
 have Az:(w.drew.alloc (.cells (bytesRow x (grownCap w x.size 0 5)) 5 ((bytesRow x (grownCap w x.size 0 5)).size,(bytesRow x (grownCap w x.size 0 5)).size+1))).heap[w.heap.size]? = some (.cells (bytesRow x (grownCap w x.size 0 5)) 5 ((bytesRow x (grownCap w x.size 0 5)).size,(bytesRow x (grownCap w x.size 0 5)).size+1)):=hh;have kh:i<x.data.size:=ay;simp only[World.cell?,Az];have ax:(bytesRow x (grownCap w x.size 0 5))[i]? = some (.int .u8 (x[i].toNat:Int)):=by
  unfold bytesRow;rw[Array.getElem?_append_left (by simpa using kh),Array.getElem?_map,Array.getElem?_eq_getElem kh];rfl
 simpa using ax
theorem alv {n:Nat}(h:n<=10):(10:Int) ^ n<=10000000000:=by
 have:∀ m:Fin 11,(10:Int) ^ m.val<=10000000000:=by decide
 exact this ⟨n,by omega⟩
theorem ajA (x:NR)(w:Ny)(h1:1<=x.size)(O:x.size<=10)(hd:∀ i,(ay:i<x.size)->Pz (x[i].toNat:Int)=true) :
  NK 275 #[ND x] w fun e w'=>e=NU (.tuple #[Nr (VU x.data.toList),Pe])/\NJ w w':=by
 obtain⟨cap,fb,ch,hbel,hcell⟩:=agJ x w;have h0:=hd 0 h1;simp[Pz,aeG] at h0;obtain⟨K9,Dk⟩:=h0;have KQ:(((x[0].toNat:Nat):Int)==45)=false:=beq_eq_false_iff_ne.2 Nw;have KP:(((x[0].toNat:Nat):Int)==43)=false:=beq_eq_false_iff_ne.2 Nw;have uy:=hide hcell;have d3:=hide hd;clear hcell hd;go_enter func275,ntmps275
 go_wp2
 go_loop [6,8,49] (fun n _ i=>∃ k:Nat,k<=x.size/\i=Nr k/\n=Nr (VU (x.data.toList.take k))) (fun _ _ i=>x.size - (intOf i).toNat)
 case atStart=>exact⟨0,Nat.zero_le _,rfl,rfl⟩
 case round=>
  obtain⟨k,E,rfl,rfl⟩:=hrel
  by_cases aQ:k<x.size
  ·have eI:=Ns uy k aQ;have oF:=Ns d3 k aQ;simp[Pz,aeG] at oF;obtain⟨aw,D⟩:=oF;have fl:=XW _ (aar x d3.out k);have hl:(x.data.toList.take k).length<=10:=by simp;omega
   have al:=alv hl;obtain⟨rn,gG⟩:=fl;have kl:VU (x.data.toList.take k)<10000000000:=Nw;have ba:=hide (ajz (x.data.toList.take k) x[k]);have eO:=hide (take_snoc x k aQ);obtain⟨N,dE⟩:=xH (VU (x.data.toList.take k));rw[<-dE.out] at rn kl ⊢;clear gG al hl
   go_wp2
   exact⟨⟨k+1,by omega,by go_num,by rw[eO.out,ba.out,<-dE.out]⟩,by simp[intOf];omega⟩
  ·have eO:Hid (x.data.toList.take k=x.data.toList):=List.take_of_length_le Qa
   go_wp2
   go_ret2
   refine⟨?_,hbel⟩;rw[eO.out];rfl
end
end Go.Proofs.YticfnaiehdpbmaaGreatDoor
