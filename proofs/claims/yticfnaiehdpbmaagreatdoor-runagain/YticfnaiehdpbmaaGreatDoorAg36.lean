import Derived.Test.YticfnaiehdpbmaaGreatDoorAg31
import Derived.Test.YticfnaiehdpbmaaGreatDoorAg33
import Derived.Sort.Walk0
set_option maxRecDepth 100000
set_option maxHeartbeats 8000000
set_option linter.unusedVariables false
namespace Go.Proofs.YticfnaiehdpbmaaGreatDoor
open Go.RowKit Go.Proofs.Tryz
namespace Hp
def Zf (F:Fx)(d:Nd)(p:Pl)(σ:St):(Va × Er) × St:=match TU F p (O3 d) [] σ with
 | ((a::b::_,.no),σ1)=>(U2 σ1.M d.2.kd a b,σ1)
 | ((_,e),σ1)=>((vU,e),σ1)
theorem aaZ {F:Fx}{p:Pl}:∀ (a1:List Nd) (be:List Va) (σ:St) (vs:List Va) (σ1:St),TU F p a1 be σ=((vs,.no),σ1)->vs.length=be.length+a1.length
 | [],be,σ,vs,σ1,h=>by rw[TU] at h;cases h;simp
 | d::a1,be,σ,vs,σ1,h=>by
  rcases U:F.v d p σ with ⟨⟨v,e⟩,ck⟩
  by_cases au:e=.no
  ·subst au;rw[aiM U] at h;have:=aaZ a1 _ _ _ _ h;rw[this];simp;omega
  ·rw[aiN U au] at h;cases h;exact absurd rfl au
section
variable {w0:Ny} {mb af:Nat} {aa:List Nat} {es aS aB az aL:NP} {w w':Ny} {σ:St} {N:Nat} {F:Fx}
structure VB2 (w0:Ny)(mb af:Nat)(aa:List Nat)(w2:Ny)(v1 v2:Va)(σ:St)(wz:Ny)(kL j0:Nat):Prop where
 v1:wz.heap[kL]? = some (XI v1)
 v2:wz.heap[j0]? = some (XI v2)
 la:w2.heap.size<=kL
 lb:w2.heap.size<=j0
 ne:kL≠j0
 bl:NJ w2 wz
 ms:Ms w0 mb af aa wz σ
theorem VB2.one {v1 v2:Va}(aK:Ms w0 mb af aa w σ):VB2 w0 mb af aa w v1 v2 σ ((w.alloc (.cells #[Nr v1.k,Nr v1.n,ND v1.s] 65)).alloc (.cells #[Nr v2.k,Nr v2.n,ND v2.s] 65)).drew w.heap.size (w.heap.size+1):=by
 have D:NJ w ((w.alloc (.cells #[Nr v1.k,Nr v1.n,ND v1.s] 65)).alloc (.cells #[Nr v2.k,Nr v2.n,ND v2.s] 65)).drew:=(OM.alloc Oq _).drew;refine⟨alloc_old (NG _ _),?_,OH,by omega,by omega,D,aK.later D⟩;have:=NG (w.alloc (.cells #[Nr v1.k,Nr v1.n,ND v1.s] 65)) (.cells #[Nr v2.k,Nr v2.n,ND v2.s] 65);rw[show (w.alloc (.cells #[Nr v1.k,Nr v1.n,ND v1.s] 65)).heap.size=w.heap.size+1 by simp] at this;exact this
theorem VB2.swap {v1 v2:Va}{wz:Ny}{kL j0:Nat}(h:VB2 w0 mb af aa w v2 v1 σ wz j0 kL):VB2 w0 mb af aa w v1 v2 σ wz kL j0:=⟨h.v2,h.v1,h.lb,h.la,h.ne.symm,h.bl,h.ms⟩
theorem aD2 {H G:Ny->Nat->Nat->Prop}{goal:Prop}(h1:(∀ w v u,H w v u->G w v u)->goal)(O:∀ w v u,H w v u->G w v u):goal:=h1 O
theorem auo (ae:Yh es)(aZ:Bs w0 mb af aa es)(a':X5 w0)(aK:Ms w0 mb af aa w σ){a:Ad}{d:Nd}(hd:Oa aa w a d)(E:d.2.kids.length=2)(p:Pl)(aC:Option Addr)
  (P:St->Prop) (hP:P σ) (bq:∀ ox ∈ O3 d,∀ σ,P σ->RF w0 mb af aa es σ ox p (F.v ox p σ)/\∀ v σ1,F.v ox p σ=((v,.no),σ1)->P σ1)
  (ap:∀ v1 v2 σ1,TU F p (O3 d) [] σ=(([v1,v2],.no),σ1)->(-1000000000<=v1.n/\v1.n<=1000000000)/\(-1000000000<=v2.n/\v2.n<=1000000000)/\(σ1.M.shw v1).size<=1000000/\(σ1.M.shw v2).size<=1000000) :
  NK 259 #[Nu mb,Nu a.p,OQ p aC] w (Oh w0 mb af aa es w (Zf F d p σ)):=by
 have z:=kk (∀{G}(h:G:=by
 obtain⟨q,bo⟩:=xH a.p;obtain⟨BI,c3,hrow,sK⟩:=QD.row cS.at_;obtain⟨cT,dO,aO⟩:=hrow.form;subst aO;have cJ:a.ks.length=2:=by rw[cS.ks,E]
 have bA:=hide (fun X (aj:NJ w2 X)=>afm ae (dj.later aj) (hrow.later aj) (RV.kp (Kp.of aj) _ _ cS.ndl) (by rw[QI,E];omega) ⟨aq,aF,st⟩ aC P hP bq)
 rw[cJ] at c3 bA;obtain⟨rs,bD⟩:=xH (Zf F d ⟨aq,aF,st⟩ σ);rw[<-bD.out,<-bo.out];rw[<-bo.out] at c3 dL
 rcases U:TU F ⟨aq,aF,st⟩ (O3 d) [] σ with ⟨⟨vs,av⟩,σ1⟩
 rw[U] at bA;have bY:=hide U;have GT:=hide ap;have pX:=hide E;have eB:=hide c3;clear bK hr2 U ds cH d5 c3 hP bq ap E cJ sK;go_enter func259,ntmps259;go_wp2_with fail;rw[<-bu.out,<-b1,<-bU];clear bU b1;refine Rj 6 fun ab=>?_;have z:=kk (∀{G}(h:G:=by
 refine uk 4 eB.out ab ?_;refine uk4 5 ga.out ab ?_;refine O0 6 fun K A=>?_;go_simp;refine cm (Ns bA _ ab) ?_;rintro e ao ⟨⟨u,ev,rfl,kq,aI⟩,eV,f4⟩;refine ko A ?_;clear A K;have cQ:=(Om.of (L:=none) ab (Oi dc)).trans f4;have yI:=aI;have c8:=hide (cQ.keep bj.out NH);have cV:=(da.trans cQ);have lC:=(cS.kp cQ.SX);have gh:=eV.lt;obtain⟨cy,bQ,b5,dn,dp,dq,rl⟩:=Ot c8.out;refine uz 7 (.tuple #[u,ev]) ?_;refine uz 8 u ?_;refine uz 9 ev ?_;refine uz 10 u ?_;refine uz 11 ev ?_;refine QX ?_ _;go_simp
 by_cases au:av=.no
 ·subst au;have br:ev=Pe:=aI;subst br;have gg:vs.length=2:=by have:=aaZ _ _ _ _ _ bY.out;rw[this,QI,pX.out];rfl
  obtain⟨v1,v2,rfl⟩:∃ v1 v2,vs=[v1,v2]:=by
   match vs,gg with
   | [v1,v2],_=>exact⟨v1,v2,rfl⟩
  obtain⟨gG,kl,nc,kV⟩:=Ns GT v1 v2 σ1 bY.out;have Bi:ao.ownsRow _ 65 3 u 2 (([v1,v2]:List Va).flatMap Xf):=kq;obtain⟨sl,cv,aO,_,_⟩:=Bi.form Nw;subst aO;have mi:∀ j x,(([v1,v2]:List Va).flatMap Xf)[j]? = some x->ao.cell? (Nv sl j)=some x:=fun j x ac=>by
   have aT:j<6:=by have:=(List.getElem?_eq_some_iff.1 ac).1;simpa[Xf] using this
   rw[Bi.cellAt j Nw];exact ac
  have yN:=hide (mi 0 _ rfl);have hT:=hide (mi 1 _ rfl);have pc:=hide (mi 2 _ rfl);have nn:=hide (mi 3 _ rfl);have yO:=hide (mi 4 _ rfl);have FL:=hide (mi 5 _ rfl);have LL:=(Bi.lt sl rfl).2;have aH:rs=(U2 σ1.M d.2.kd v1 v2,σ1):=by rw[bD.out];unfold Zf;rw[bY.out]
  have cz:=hide aH;have iO:=hide nc;have eU:=hide kV;have eg:=hide gG;have jX:=hide kl;clear gg mi aH nc kV gG kl;go_wp2_with fail;refine aD2 (H:=fun wz kL j0=>VB2 w0 mb af aa ao v1 v2 σ1 wz kL j0) (G:=?GG) (fun dI=>?ways) ?rest
  case ways=>
   refine Rj 9 fun ab=>?_;refine uh 0 (.slice (some (Nv sl 0)) 2 cv) (ab) ?_;refine up 1 sl 0 ab ?_;refine uc 2 (.agg #[Nr v1.k,Nr v1.n,ND v1.s]) rfl (Or.inl ⟨by kernel_rfl,fun X aj=>by have h0:=Oj aj yN.out;have h1:=Oj aj hT.out;have O:=Oj aj pc.out;go_simp⟩) (ab) ?_
   refine uh 3 (.slice (some (Nv sl 0)) 2 cv) (ab) ?_;refine up 4 sl 3 ab ?_;refine uc 5 (.agg #[Nr v2.k,Nr v2.n,ND v2.s]) rfl (Or.inl ⟨by kernel_rfl,fun X aj=>by have h0:=Oj aj nn.out;have h1:=Oj aj yO.out;have O:=Oj aj FL.out;go_simp⟩) (ab) ?_
   refine uq2 6 7 (fun K A=>?_) fun K A=>?_
   ·go_simp;refine A.out _ _ (fun _=>OM.drew) ?_;clear A K;refine O0 7 fun K A=>?_;have z:=kk (∀{G}(h:G:=by
    have ch:=VB2.one (v1:=v1) (v2:=v2) eV
    generalize ((ao.alloc (.cells #[Nr v1.k,Nr v1.n,ND v1.s] 65)).alloc (.cells #[Nr v2.k,Nr v2.n,ND v2.s] 65)).drew=wz at ch ⊢
    generalize ao.heap.size+1=j0 at ch ⊢
    generalize ao.heap.size=kL at ch ⊢
    exact dI wz kL j0 ch),G);exact azd
   ·go_simp;refine A.out _ _ (fun _=>OM.drew) ?_;clear A K;refine O0 6 fun K A=>?_;have z:=kk (∀{G}(h:G:=by
    have ch:=(VB2.one (v1:=v2) (v2:=v1) eV).swap
    generalize ((ao.alloc (.cells #[Nr v2.k,Nr v2.n,ND v2.s] 65)).alloc (.cells #[Nr v1.k,Nr v1.n,ND v1.s] 65)).drew=wz at ch ⊢
    generalize ao.heap.size+1=kL at ch ⊢
    generalize ao.heap.size=j0 at ch ⊢
    exact dI wz kL j0 ch),G);exact azd
  rintro wz kL j0 aN;have dU:=hide (stays aN.bl c8.out);have di:=(cV.trans (Om.of (L:=none) aN.bl (Oi gh)));have jl:=aN.ms;have ee:=aN.ms.lt;have pT:=hide aN.v1;have bM:=hide aN.v2;have Lv:=aN.ne;have Lw:kL≠aR:=fun e=>by
   have h1:=aN.la;have O:=lt_of_heap c8.out;omega
  have Lx:j0≠aR:=fun e=>by
   have h1:=aN.lb;have O:=lt_of_heap c8.out;omega
  have g8:=lC.kp (Kp.of aN.bl);have c0:=g8.cells.2.1;have g':=g8.cells.1;rw[<-bo.out] at c0 g';obtain⟨kd,bn⟩:=xE d.2.kd;rw[<-bn] at c0 cz;clear cy bQ b5 dn dp dq rl bn;obtain⟨cy,bQ,b5,dn,dp,dq,rl⟩:=Ot dU.out;obtain⟨e',cj,dD,hf,hi,hj,g5⟩:=Ot pT.out;obtain⟨hk,gn,gp,ib,ic,id,hm⟩:=Ot bM.out;have mI:=hide c0;have CJ:=hide (cells3 pT.out);have CL:=hide (cells3 bM.out)
  by_cases nZ:kd=27
  ·subst nZ
   by_cases ws:v1=v2
   ·have aH:rs=((Pg true,.no),σ1):=by rw[cz.out];unfold U2;rw[if_pos rfl,decide_eq_true ws]
    have bJ:=hide aH;subst ws;clear aH;go_wp2_with fail;obtain⟨bL,dh⟩:=xE (Pg true);have h3:=UA true wz;exact aup
   ·have aH:rs=((Pg false,.no),σ1):=by rw[cz.out];unfold U2;rw[if_pos rfl,decide_eq_false ws]
    have bJ:=hide aH;have hcase:¬ v1.k=v2.k\/(v1.k=v2.k/\¬ v1.n=v2.n)\/(v1.k=v2.k/\v1.n=v2.n/\¬ v1.s=v2.s):=by
     by_cases h1:v1.k=v2.k
     ·by_cases O:v1.n=v2.n
      ·exact .inr (.inr ⟨h1,O,fun ax=>ws (by cases v1;cases v2;simp_all)⟩)
      ·exact .inr (.inl ⟨h1,O⟩)
     ·exact .inl h1
    clear aH ws
    rcases hcase with h1|⟨h1,O⟩|⟨h1,O,ax⟩
    ·exact ap5
    ·exact ap5
    ·have aU:(v1.s.toList==v2.s.toList)=false:=by
      exact aci ax
     exact ap5
  ·by_cases mg:v1.k=3/\v2.k=3
   ·have aH:rs=(ahg kd v1.n v2.n,σ1):=by rw[cz.out];unfold U2;rw[if_neg nZ,if_pos mg];rfl
    have bJ:=hide aH;obtain⟨sn,vq⟩:=mg;clear aH;go_wp2_with fail;have uN:=hide (fun X=>afo (es:=es) kd v1.n v2.n eg.out jX.out X);obtain⟨ro,mr⟩:=xE (ahg kd v1.n v2.n);rw[<-mr] at uN bJ;have mY:=lt_of_heap pT.out;have ja:=lt_of_heap bM.out;clear sn vq nZ mr c0 e' cj dD hf hi hj g5 hk gn gp ib ic id hm cy bQ b5 dn dp dq rl;refine Rj 8 fun ab=>?_;refine up 0 q 0 ab ?_;refine up 1 q 0 ab ?_;refine up 2 q 0 ab ?_;refine uk 3 mI.out ab ?_;refine up 4 kL 1 ab ?_;refine uk 5 (CJ.out.2.1) ab ?_;refine up 6 j0 1 ab ?_
    refine uk 7 (CL.out.2.1) ab ?_;refine O0 8 fun K A=>?_;go_simp;refine cm (Ns uN _) ?_;rintro e aD ⟨⟨ev,rfl,aI⟩,i'⟩;refine ko A ?_;clear A K;have iC:=ab.trans (i'.mono ab.size);have z:=kk (∀{G}(h:G:=by
    have z:=kk (∀{G}(h:G:=by
    refine uz 9 (vA v9) ?_;refine uz 10 ev ?_;refine O0 11 fun K A=>?_;go_simp;refine ko A ?_;clear A K;refine uz 12 ev ?_;exact aze),G);exact ap6),G);exact azf
   ·by_cases mU:kd=29/\(v1.k=4\/v2.k=4)
    ·have aH:rs=(aaX (σ1.M.shw v1) (σ1.M.shw v2),σ1):=by rw[cz.out];unfold U2 aaX;rw[if_neg nZ,if_neg mg,if_pos mU]
     have bJ:=hide aH;obtain⟨ro,mr⟩:=xE (aaX (σ1.M.shw v1) (σ1.M.shw v2));have n9:=hide (fun X=>aum (es:=es) (σ1.M.shw v1) (σ1.M.shw v2) iO.out eU.out X);rw[<-mr] at n9 bJ;have tq:=hide (fun X (aj:NJ wz X)=>adz aZ a' (jl.later aj) v1 (by have:=Ns eg;omega))
     have uX:=hide (fun X (aj:NJ wz X)=>adz aZ a' (jl.later aj) v2 (by have:=Ns jX;omega))
     obtain⟨nh,wi⟩:=xE (σ1.M.shw v1);obtain⟨t2,eS⟩:=xE (σ1.M.shw v2);rw[<-wi,<-eS] at n9;rw[<-wi] at tq;rw[<-eS] at uX;have mY:=lt_of_heap pT.out;have ja:=lt_of_heap bM.out;obtain⟨HQ,aU⟩:=mU;subst HQ;have oN:v1.k=3->¬ v2.k=3:=fun h1 O=>mg ⟨h1,O⟩;clear aH mr wi eS mg
     by_cases sn:v1.k=3
     ·have vq:=oN sn;have tF:v2.k=4:=aU.resolve_left Nw;clear aU oN;go_wp2_with fail;clear sn vq tF nZ c0 e' cj dD hf hi hj g5 hk gn gp ib ic id hm cy bQ b5 dn dp dq rl;exact auq
     ·by_cases tE:v1.k=4
      ·clear aU oN;go_wp2_with fail;clear sn tE nZ c0 e' cj dD hf hi hj g5 hk gn gp ib ic id hm cy bQ b5 dn dp dq rl;exact auq
      ·have tF:v2.k=4:=aU.resolve_left tE;clear aU oN;go_wp2_with fail;clear sn tE tF nZ c0 e' cj dD hf hi hj g5 hk gn gp ib ic id hm cy bQ b5 dn dp dq rl;exact auq
    ·by_cases vp:kd=28/\v1.k=4/\v2.k=4
     ·obtain⟨HO,tE,tF⟩:=vp;subst HO
      by_cases aQ:v1.s.data.toList<v2.s.data.toList
      ·have aH:rs=((Pg true,.no),σ1):=by rw[cz.out];unfold U2;rw[if_neg NH,if_neg mg,if_neg mU,if_pos ⟨rfl,tE,tF⟩,decide_eq_true aQ]
       have bJ:=hide aH;have H8:Op.bytesLess v1.s.toList v2.s.toList=true:=by rw[ByteArray.toList_eq,ByteArray.toList_eq,bytesLess_eq];exact decide_eq_true aQ
       clear aH mg mU aQ;go_wp2_with fail;obtain⟨bL,dh⟩:=xE (Pg true);have h3:=UA true wz;exact aup
      ·have aH:rs=((Pg false,.no),σ1):=by rw[cz.out];unfold U2;rw[if_neg NH,if_neg mg,if_neg mU,if_pos ⟨rfl,tE,tF⟩,decide_eq_false aQ]
       have bJ:=hide aH;have H8:Op.bytesLess v1.s.toList v2.s.toList=false:=by rw[ByteArray.toList_eq,ByteArray.toList_eq,bytesLess_eq];exact decide_eq_false aQ
       clear aH mg mU aQ;exact ap5
     ·have aH:rs=((vU,bad tType),σ1):=by rw[cz.out];unfold U2;rw[if_neg nZ,if_neg mg,if_neg mU,if_neg vp]
      have bJ:=hide aH;clear aH;have w1:v1.k=3->v2.k=3->False:=fun a b=>mg ⟨a,b⟩;have un:kd=29->v1.k=4->False:=fun a b=>mU ⟨a,.inl b⟩;have uo:kd=29->v2.k=4->False:=fun a b=>mU ⟨a,.inr b⟩;have bB:kd=28->v1.k=4->v2.k=4->False:=fun a b c=>vp ⟨a,b,c⟩;clear mg mU vp
      by_cases Jw:kd=29
      ·subst Jw;have i3:¬ v1.k=4:=fun h=>un rfl h;have i4:¬ v2.k=4:=fun h=>uo rfl h
       by_cases bW:v1.k=3
       ·exact aur
       ·have i5:(v1.k==4)=false:=by simpa using i3
        have pM:(v2.k==4)=false:=by simpa using i4
        have Mr:(v1.k==3)=false:=by simpa using bW
        clear w1 un uo bB;go_wp2_with fail
        all_goals first | (exfalso;omega)|skip
        exact amR
      ·by_cases Jv:kd=28
       ·subst Jv
        by_cases bW:v1.k=3
        ·exact aur
        ·by_cases Jx:v1.k=4
         ·have Mu:¬ v2.k=4:=fun h=>bB rfl Jx h;clear w1 un uo bB;go_wp2_with fail;exact amR
         ·clear w1 un uo bB;go_wp2_with fail;exact amR
       ·by_cases bW:v1.k=3
        ·exact aur
        ·clear w1 un uo bB;go_wp2_with fail;exact amR
 ·obtain⟨et,ex,br⟩:=aI.Vs au ae;subst br;have aH:rs=((vU,av),σ1):=by
   rw[bD.out];unfold Zf;rw[bY.out]
   rcases vs with _|⟨cj,_|⟨dD,jg⟩⟩ <;> cases av <;> first|rfl|exact absurd rfl au
  have bJ:=hide aH;clear au aH;go_wp2_with fail;obtain⟨b3,bz,bb,bx,bv,bi,aY,aX⟩:=rt3 c8.out cI.out bI cV eV (Nr 0) (Nr 0) (OG);rw[<-bz];refine bodyPost_ret (v:=.tuple #[vA vU,.iface et ex]) (by simp[results,results259,go_sem,bi,aY,aX,vU]) rfl ?_;rw[bJ.out];exact⟨⟨_,rfl,yI.O6 bb NH⟩,bv,bx⟩),G);exact U5),G);exact VT
end
end Hp
end Go.Proofs.YticfnaiehdpbmaaGreatDoor
