import Derived.Test.YtoimgcjbcbhclaaGreatDoorAz20
set_option maxRecDepth 100000
set_option maxHeartbeats 0
set_option linter.all false
namespace Go.Proofs.YtoimgcjbcbhclaaGreatDoor
open Go.RowKit Go.Proofs.Tryz
abbrev lvO:Obj:=.cells #[LQ tOr,LQ adI,LQ Yp,LQ Yq,LQ tPM,LQ adJ] 9
def ajd {c:PC}{F:OQ}(ai:ZW c F)(w:LK)(d i:Nat)(r:PR Tr)(aD:d<=30)(W:r=MO c.l (Ru c.l F) d i)(ay:r≠.out)(h:Ps c w i 0 (-1)) :
  MC 193 #[NW c,LJ ((d:Int)+1)] w (Oj c w (NV w.heap.size) ZN r):=by
 have ag:=hide (Q9 h);have bb:=hide ay;have a1:=hide h.SB;unfold MO at W
 by_cases hc:d=30
 ·rw[zalak hc] at W;have ac:r=.bad 4 (MJ c.l i).pl:=W;subst ac;subst hc;have b9:=hide (QI c w i 4 MK h);(try clear h W ay);exact aDa
 ·rw[zalah hc] at W;have iO:d+1<=30:=LM;have tC:decide ((30:Int)<(d:Int)+1)=false:=zalaw LM;unfold Ru at W;have E:=h.c1;have f1:=h.fz 1;have a7:=h.SB;have aF:=hide W;have bN:=hide ai;have fh:=hide h;have hcast:(((d+1:Nat):Nat):Int)=(d:Int)+1:=LM;have pI:=hide (λr T ay=>ai.pr (w.alloc lvO) (d+1) i r w.heap.size iO T ay (h.alloc lvO) (LP _ _) (Nat.ne_of_gt h.SB));rw[hcast] at pI;have wA:Hid (Ap c.P w.heap.size w (w.alloc lvO)):=(Ap.refl c.P w.heap.size w).alloc Nh _
  (try clear h W ay hc hcast)
  cases T:F.pr 2 (d+1) i with
  | out=>rw[T] at aF;exact absurd aF.out bb.out
  | bad er pl=>
   have b9:=hide (pI.out _ T.symm (by nofun));rw[T] at aF;have ac:r=.bad er pl:=Lu aF;subst ac;(try clear T);go_enter func193,ntmps193;have A{G}(h:G:=by
   refine Ul ?_;rintro e w2 ⟨⟨v,rfl,q,rfl⟩,⟨j,ae⟩,he,aa⟩;have cU:=hide ae;have bR:=hide (wA.out.next aa);have cK:=hide (adl c w2 j er pl he Xr ae);(try clear ae E f1);have A{G}(h:G:=by
   go_wp2;go_ret;exact⟨⟨_,rfl,_,rfl⟩,⟨j,dr.out⟩,he,b1.out⟩):=LG h;exact auF):=LG h;exact Xw
  | ok t az=>
   have b9:=hide (pI.out _ T.symm (by nofun));rw[T] at aF;have dw:Hid (r=if fx c.l az=Xr then (if t.kd=23\/t.kd=36 then (MO c.l F.vl (d+1) (az+1)).bind λv aX=>.ok (.mk 24 LH 0 [t,v]) aX else Qo c.l 1 i) else .ok t az):=Lu aF;(try clear T);go_enter func193,ntmps193;have A{G}(h:G:=by
   refine Ul ?_;rintro e w2 ⟨⟨v,rfl,q,rfl,av⟩,ae,aa⟩;have cU:=hide ae;have bR:=hide (wA.out.next aa);have fw:Hid (NV w1.heap.size w2 t (LC q)):=NV.mono ⟨q,rfl,av⟩ wA.out.size;have cK:=hide (NP c w2 az Xr MK ae);have fC:=Sj ae.base.ends ae.lt (s:=Xr);have kF:=hide fC;(try clear ae E f1 a7 fC)
   by_cases af:fx c.l az=Xr
   ·rw[zalaz af] at cK;rw[zalak af] at dw;have ab:=kF.out af MK;(try clear af);have A{G}(h:G:=by
    have gU:=hide (NV.later fw.out (Ap.of (R:=c.P) D) a1.out);obtain⟨u0,wm,hblk,_⟩:=Nj.opens (YC gU.out);have jl:aq.cell? (LD q 0)=some (LJ t.kd):=by rw[cell_of hblk];rfl
    have eZ:=lt_of_heap hblk;have E:=dr.out.c1;have f1:=dr.out.fz 1;have a7:=dr.out.SB;have k3:=dr.out.base.len;have aC:(az:Int)<(c.l.length:Int):=by have:=dr.out.lt;omega
    (try clear hblk)
    by_cases aH:t.kd=23\/t.kd=36
    ·rw[zalak aH] at dw;have n':((az:Int)+1)=(((az+1:Nat)):Int):=LM;have e':Hid (Ps c (aq.setCell (LD c.P 1) (LJ ((az:Int)+1))) (az+1) 0 (-1)):=by rw[n'];exact dr.out.step ab
     have dd:Hid (Ap c.P w1.heap.size w1 (aq.setCell (LD c.P 1) (LJ ((az:Int)+1)))):=b1.out.setCell (p:=(LD c.P 1)) (zalal rfl) _;have h0:Hid (NV w1.heap.size (aq.setCell (LD c.P 1) (LJ ((az:Int)+1))) t (LC q)):=NV.later gU.out ((Ap.refl c.P aq.heap.size aq).setCell (p:=(LD c.P 1)) (zalal rfl) _) a1.out;have vI:((d+1:Nat):Int)+1=(d:Int)+1+1:=LM
     cases bG:MO c.l F.vl (d+1) (az+1) with
     | out=>rw[bG] at dw;exact absurd dw.out bb.out
     | bad er pl=>
      have jW:=bN.out.vl _ (d+1) (az+1) _ iO bG.symm (by nofun) e'.out;rw[vI] at jW;have ft:=hide jW;rw[bG] at dw;have ac:r=.bad er pl:=Lu dw;subst ac;(try clear bG vI n')
      rcases aH with aH|aH
      ·have bT:(t.kd != 23)=false:=by rw[aH];rfl
       exact aEg
      ·have bT:(t.kd != 23)=true:=by rw[aH];rfl
       have a':(t.kd != 36)=false:=by rw[aH];rfl
       exact aEg
     | ok v a8=>
      have jW:=bN.out.vl _ (d+1) (az+1) _ iO bG.symm (by nofun) e'.out;rw[vI] at jW;have ft:=hide jW;rw[bG] at dw;have ac:r=.ok (.mk 24 LH 0 [t,v]) a8:=Lu dw;subst ac;(try clear bG vI n')
      rcases aH with aH|aH
      ·have bT:(t.kd != 23)=false:=by rw[aH];rfl
       exact aD8
      ·have bT:(t.kd != 23)=true:=by rw[aH];rfl
       have a':(t.kd != 36)=false:=by rw[aH];rfl
       exact aD8
    ·rw[zalah aH] at dw;have ac:r=.bad 1 (MJ c.l i).pl:=Lu dw;subst ac;have bT:(t.kd != 23)=true:=zaleg.2 λh=>aH (zalad h);have a':(t.kd != 36)=true:=zaleg.2 λh=>aH (zalal h);have e':Hid (Ps c (aq.setCell (LD c.P 1) (LJ (i:Int))) i 0 (-1)):=dr.out.step fh.out.lt;have dd:Hid (Ap c.P w1.heap.size w1 (aq.setCell (LD c.P 1) (LJ (i:Int)))):=b1.out.setCell (p:=(LD c.P 1)) (zalal rfl) _;have ft:=hide (QI c _ i 1 MK e'.out);(try clear aH);go_wp2_with fail;refine Yi ?_
     rintro e bh ⟨⟨v,rfl,oq,rfl⟩,cJ,he,dS⟩;have ie:=hide cJ;have eg:=hide (dd.out.next dS);(try clear cJ);go_wp2;go_ret;exact⟨⟨_,rfl,_,rfl⟩,ie.out,he,eg.out⟩):=LG h;exact auF
   ·rw[zalaw af] at cK;rw[zalah af] at dw;have ac:r=.ok t az:=Lu dw;subst ac;(try clear af);have A{G}(h:G:=by
    have gU:=hide (NV.later fw.out (Ap.of (R:=c.P) D) a1.out);go_wp2;go_ret;exact⟨⟨_,rfl,gU.out⟩,dr.out,b1.out⟩):=LG h;exact auF):=LG h;exact Xw
def ao9 {l:List Tk}{F:OQ}{d q i j:Nat}{t:Tr}(h:X9 l F d q i=.ok t j):t.kd≠15:=by
 by_cases ac:q=1
 ·subst ac;have cH:X7 l F d i=.ok t j:=h;unfold X7 at cH;obtain⟨_,_,_,cH⟩:=PU cH;obtain⟨s,_,_,cH⟩:=PU cH;unfold P7 at cH;obtain⟨ps,_,_,cH⟩:=PU cH;obtain⟨b,_,_,cH⟩:=PU cH
  cases cH
  show (5:Int)≠15
  decide
 ·have he:X9 l F d q i=VH l F d q i:=by
   match q with
   | 0=>rfl
   | 1=>exact absurd rfl ac
   | 2=>rfl
   | 3=>rfl
   | 4=>rfl
   | 5=>rfl
   | 6=>rfl
   | n+7=>rfl
  rw[he] at h;exact akh h
def akp (l:List Tk):∀ k,ZK (TJ l k):=by
 intro k
 cases k with
 | zero=>intro d i t j h;cases h
 | succ k=>
  intro d i t j h eX;have cH:Pg l (TJ l k) d i=.ok t j:=h;unfold Pg at cH
  split at cH
  ·exact absurd eX (ao9 cH)
  ·exact aza
structure apa (c:PC)(F:OQ):Prop where
 choice:∀ w d i r,d<=30->fx c.l i=tIf->r=Qp c.l F d i->r≠.out->Ps c w i 0 (-1)->MC 111 #[NW c,LJ (d:Int)] w (Oj c w (NV w.heap.size) ZN r)
 attempt:∀ w d i r,d<=30->fx c.l i=Uu->r=Qy c.l F d i->r≠.out->Ps c w i 0 (-1)->MC 111 #[NW c,LJ (d:Int)] w (Oj c w (NV w.heap.size) ZN r)
 decl:∀ w d i r,d<=30->(fx c.l i=Oo\/fx c.l i=Ov\/fx c.l i=MS)->r=UA c.l F d i->r≠.out->Ps c w i 0 (-1)->MC 111 #[NW c,LJ (d:Int)] w (Oj c w (NV w.heap.size) ZN r)
def SL {l:List Tk}{F:OQ}{d i:Nat}{r:PR Tr}{s:LW}(q:Nat)(an:fx l i=s)(N:Np PG s=some q)(W:r=Pg l F d i):r=X9 l F d q i:=by
 unfold Pg at W;rw[an,N] at W;exact W
def aht {l:List Tk}{i:Nat}{s:LW}(W:s≠LH)(an:fx l i=s):(MJ l i).tx=s:=((ao1 W).1 an).2
def ar4 {c:PC}{F:OQ}(ai:ZW c F)(aN:∃ k,VW c.l k F)(U:ZK F)(a7:apa c F)(w:LK)(d i:Nat)(r:PR Tr)(aD:d<=30)(W:r=Pg c.l F d i)(ay:r≠.out)(h:Ps c w i 0 (-1)) :
  MC 111 #[NW c,LJ (d:Int)] w (Oj c w (NV w.heap.size) ZN r):=by
 by_cases jm:fx c.l i=Nc
 ·exact amH ai aN U w d i r aD jm (SL 2 jm (by decide +kernel) W) ay h
 by_cases e1:fx c.l i=Nb
 ·have E:r=(MG c.l Nb i).bind λ_ az=>.ok (.mk 16 LH 0 []) az:=SL 3 e1 (by decide +kernel) W;unfold MG at E;rw[zalak e1] at E;exact amI ai aN w d i r aD e1 E ay h
 by_cases e2:fx c.l i=MI
 ·have E:r=(MG c.l MI i).bind λ_ az=>(nameP c.l az).bind λs aX=>P7 c.l F 5 s d aX:=SL 1 e2 (by decide +kernel) W;unfold MG at E;rw[zalak e2] at E;exact ao6 ai aN U w d i r aD e2 E ay h
 by_cases fE:fx c.l i=tIf
 ·exact a7.choice w d i r aD fE (SL 4 fE (by decide +kernel) W) ay h
 by_cases jI:fx c.l i=QN
 ·have E:r=Pj c.l F d i:=SL 5 jI (by decide +kernel) W;unfold Pj at E;rw[aht MK jI,show Oq QN=8 from by decide +kernel] at E;exact amK ai aN w d i r aD jI E ay h
 by_cases iz:fx c.l i=QU
 ·have E:r=Pj c.l F d i:=SL 5 iz (by decide +kernel) W;unfold Pj at E;rw[aht MK iz,show Oq QU=9 from by decide +kernel] at E;exact ao8 ai aN w d i r aD iz E ay h
 by_cases kr:fx c.l i=Uu
 ·exact a7.attempt w d i r aD kr (SL 7 kr (by decide +kernel) W) ay h
 by_cases mz:fx c.l i=Oo
 ·exact a7.decl w d i r aD (zalad mz) (SL 0 mz (by decide +kernel) W) ay h
 by_cases oo:fx c.l i=Ov
 ·exact a7.decl w d i r aD (zalal (zalad oo)) (SL 0 oo (by decide +kernel) W) ay h
 by_cases pw:fx c.l i=MS
 ·exact a7.decl w d i r aD (zalal (zalal pw)) (SL 0 pw (by decide +kernel) W) ay h
 by_cases pv:fx c.l i=QO
 ·have E:r=Qm c.l F d i:=SL 6 pv (by decide +kernel) W;unfold Qm at E;rw[aht MK pv,show Oq QO=10 from by decide +kernel] at E;have O:((10:Int)=11\/¬ fx c.l (i+1)=Nb)↔¬ fx c.l (i+1)=Nb:=⟨λh=>h.resolve_left MK,zalal⟩;simp only[O] at E;exact ajf ai aN w d i r aD pv E ay h
 by_cases qS:fx c.l i=Ut
 ·have E:r=Qm c.l F d i:=SL 6 qS (by decide +kernel) W;unfold Qm at E;rw[aht MK qS,show Oq Ut=11 from by decide +kernel,zalak (zalad rfl)] at E;exact amJ ai aN w d i r aD qS E ay h
 have eA:Np PG (fx c.l i)=none:=by
  unfold Np PG;simp[jm,e1,e2,fE,jI,iz,kr,mz,oo,pw,pv,qS]
 unfold Pg at W;rw[eA] at W;exact ao7 ai aN w d i r aD jm e1 e2 fE jI iz kr mz oo pw pv qS W ay h
section
variable (c:PC) (w:LK) (i:Nat) (h:Ps c w i 0 (-1))
include c w i h
def ado :
  MC 111 #[NW c,LJ 31] w (Oj c w (NV w.heap.size) ZN (Qo (α:=Tr) c.l 4 i)):=by
 have ag:=hide (QI c w i 4 MK h);(try clear h);go_enter func111,ntmps111;go_wp2_with fail;refine NJ ?_;rintro e w2 ⟨⟨v,rfl,q,rfl⟩,ae,he,aa⟩;have cU:=hide ae;have bR:=hide aa;(try clear ae);exact ave
def aeU :
  MC 193 #[NW c,LJ 31] w (Oj c w (NV w.heap.size) ZN (Qo (α:=Tr) c.l 4 i)):=by
 have ag:=hide (Q9 h);have b9:=hide (QI c w i 4 MK h);(try clear h);exact aDa
end
def amL {c:PC}(a3:Ends c.l)(a7:∀ F,ZW c F->(∃ k,VW c.l k F)->ZK F->apa c F):∀ k,ZW c (TJ c.l k):=by
 intro k
 induction k with
 | zero=>
  refine⟨?_,?_,?_,?_⟩
  ·intro w d i r aD W ay h;unfold MO at W
   by_cases hc:d=30
   ·rw[zalak hc] at W;subst hc;rw[W];exact ado c w i h
   ·rw[zalah hc] at W;exact absurd W ay
  ·intro w d i r aD W ay h;unfold MO at W
   by_cases hc:d=30
   ·rw[zalak hc] at W;subst hc;rw[W];exact aeU c w i h
   ·rw[zalah hc] at W;exact absurd W ay
  ·intro w d i r g aD W ay _ _ _;exact absurd W ay
  ·intro w d i r aD W ay _;exact absurd W ay
 | succ k aU=>
  have aN:∃ m9,VW c.l m9 (TJ c.l k):=⟨k,aeu a3 k⟩;have U:=akp c.l k;refine⟨?_,?_,?_,?_⟩
  ·intro w d i r aD W ay h
   by_cases hc:d=30
   ·subst hc;have E:r=Qo c.l 4 i:=by unfold MO at W;rw[zalak rfl] at W;exact W
    rw[E];exact ado c w i h
   ·have E:r=Pg c.l (TJ c.l k) (d+1) i:=by unfold MO at W;rw[zalah hc] at W;exact W
    have O:=ar4 aU aN U (a7 _ aU aN U) w (d+1) i r LM E ay h;have ao:(((d+1:Nat):Nat):Int)=(d:Int)+1:=LM;rw[ao] at O;exact O
  ·intro w d i r aD W ay h;exact ajd aU w d i r aD W ay h
  ·intro w d i r g aD W ay h N hg;exact ar1 aU w d i r g aD W ay h N hg
  ·intro w d i r aD W ay h;exact ahs aU aN U w d i r aD W ay h
def amM {c:PC}{F:OQ}(ai:ZW c F)(aN:∃ k,VW c.l k F)(U:ZK F)(w:LK)(d i:Nat)(r:PR Tr)(aD:d<=30)(er:Int)(pl:Nat)(an:fx c.l i=Uu)(d9:MV c.l F d (i+1)=.bad er pl)(W:r=(MV c.l F d (i+1)).bind λb az=>(QX c.l F d az).bind λi8 aX=>(Oh c.l F d aX).bind λf ca=>if i8.length+f.length=0 then Qo c.l 3 ca else .ok (.mk 12 LH 0 (b::(i8++f))) ca)(ay:r≠.out)(h:Ps c w i 0 (-1)) :
  MC 111 #[NW c,LJ (d:Int)] w (Oj c w (NV w.heap.size) ZN r):=by
 have a1:=hide h.SB;have dl:=hide h.base.size;have bN:=hide ai;have e4:=hide aN;have hr:=hide U;have A{G}(h:G:=by
 have iz:¬ fx c.l i=QU:=by rw[an];decide
 have aG:=hide W;(try clear W);have A{G}(h:G:=by
 have A{G}(h:G:=by
 (try clear ay aN);have A{G}(h:G:=by
 have A{G}(h:G:=by
 (try clear aI);have ac:r=.bad er pl:=by have E:=Lu aG;rw[d9] at E;exact E
 subst ac;have ag:=hide (PL bN.out e4.out hr.out false _ d (i+1) _ aD d9.symm (by nofun) e3.out.ps);(try clear d9);go_wp2_with fail;refine NJ ?_;rintro e cs ⟨⟨v,rfl,q,rfl⟩,⟨a8,bE⟩,he,cI⟩;have aI:=(cI.block _ (lt_of_heap e3.out.nd) (by have:=Lu a1;omega)).trans e3.out.nd
 (try clear c0 c1 c2 c3 dx lx h4 ey);have br{G}(h:G:=by
 have bv:=e3.out.ap.next cI;have A{G}(h:G:=by
 have bk:=hide (bE.ap aV.out dl.out);have j9:Hid (((cs.setCell (LD w.heap.size 3) (.slice (some (LD cs.heap.size 0)) 1 1)).alloc (.cells #[LC q] 22)).heap[w.heap.size]? = some (MB 12 LH 0 (.slice (some (LD cs.heap.size 0)) 1 1))):=by
  show _=_
  rw[zalaa _ _ _ OM,heap_set aI];rfl
 (try clear aI);have cK:=hide (UF c _ a8 _ _ he Qv bk.out);go_wp2_with fail;refine WB ?_;rintro e gR ⟨rfl,D⟩;have b7:=hide (bS.out.next (Ap.of D));have cD:=hide (bk.out.later D);have dO:=hide ((D.block _ (lt_of_heap j9.out)).trans j9.out);have ft:=hide (UF c _ a8 _ _ he Ox cD.out);(try clear c0 c1 c2 c3 dx h4 ey);go_wp2_with fail;refine Yi ?_;rintro e gn ⟨rfl,D⟩;have bR:=hide (b7.out.next (Ap.of D));have cU:=hide (cD.out.later D);have aI:=(D.block _ (lt_of_heap dO.out)).trans dO.out
 obtain⟨c0,c1,c2,c3,dx⟩:=node_cells aI;have ey:=lt_of_heap aI;(try clear aI);have gS:=hide (adk c gn a8 _ _ 3 he cU.out);go_wp2_with fail;refine cm gS.out ?_;rintro e wz ⟨⟨v,rfl,dM,rfl⟩,df,_,da⟩;have b1:=hide (bR.out.next da);have dr:=hide df;(try clear df c0 c1 c2 c3 dx ey);go_wp2;go_ret;exact⟨⟨_,rfl,_,rfl⟩,dr.out,he,b1.out⟩):=LG h;exact az0):=LG h;exact aqv):=LG h;exact XZ):=LG h;exact azH):=LG h;exact aAn):=LG h;exact zsb):=LG h;exact afY
def amN {c:PC}{F:OQ}(ai:ZW c F)(aN:∃ k,VW c.l k F)(U:ZK F)(w:LK)(d i:Nat)(r:PR Tr)(aD:d<=30)(b:Tr)(j:Nat)(an:fx c.l i=Uu)(d9:MV c.l F d (i+1)=.ok b j)(dZ:¬ fx c.l j=Qv)(jX:¬ fx c.l j=Ox)(W:r=(MV c.l F d (i+1)).bind λb az=>(QX c.l F d az).bind λi8 aX=>(Oh c.l F d aX).bind λf ca=>if i8.length+f.length=0 then Qo c.l 3 ca else .ok (.mk 12 LH 0 (b::(i8++f))) ca)(ay:r≠.out)(h:Ps c w i 0 (-1)) :
  MC 111 #[NW c,LJ (d:Int)] w (Oj c w (NV w.heap.size) ZN r):=by
 have a1:=hide h.SB;have dl:=hide h.base.size;have bN:=hide ai;have e4:=hide aN;have hr:=hide U;have A{G}(h:G:=by
 have iz:¬ fx c.l i=QU:=by rw[an];decide
 have aG:=hide W;(try clear W);have A{G}(h:G:=by
 have A{G}(h:G:=by
 (try clear ay aN);have A{G}(h:G:=by
 have A{G}(h:G:=by
 (try clear aI);have ac:r=.bad 3 (MJ c.l j).pl:=by
  have E:=Lu aG;rw[d9,bind_ok] at E;unfold QX at E;rw[zalah dZ,bind_ok] at E;unfold Oh at E;rw[zalah jX,bind_ok] at E;exact E
 subst ac;have A{G}(h:G:=by
 have A{G}(h:G:=by
 have cK:=hide (OZ c _ j Ox MK af bk.out);(try clear af);go_wp2_with fail;refine WB ?_;rintro e gn ⟨rfl,D⟩;replace bI:=hide (bI.out.stay (Ap.of D) a1.out);replace bS:=hide (bS.out.next (Ap.of D));replace bk:=hide (bk.out.later D);obtain⟨c3,dx,ey⟩:=bI.out.cell;have gS:=hide (QI c gn j 3 MK bk.out);go_wp2_with fail;refine cm gS.out ?_;rintro e wz ⟨⟨v,rfl,dM,rfl⟩,df,he,da⟩;have b1:=hide (bS.out.next da);have dr:=hide df;(try clear df c3 dx ey);go_wp2;go_ret;exact⟨⟨_,rfl,_,rfl⟩,dr.out,he,b1.out⟩):=LG h;exact aA1):=LG h;exact zsl):=LG h;exact XZ):=LG h;exact azH):=LG h;exact aAn):=LG h;exact zsb):=LG h;exact afY
def aGY {H G:LK->LW->Prop}{goal:Prop}(E:(∀ w s,H w s->G w s)->goal)(O:∀ w s,H w s->G w s):goal:=E O
def amP {c:PC}{F:OQ}(ai:ZW c F)(aN:∃ k,VW c.l k F)(U:ZK F)(w:LK)(d i:Nat)(r:PR Tr)(aD:d<=30)(b:Tr)(j:Nat)(an:fx c.l i=Uu)(d9:MV c.l F d (i+1)=.ok b j)(dZ:fx c.l j=Qv)(eA:∀ b8 a' e0,MV c.l F d b8=.ok a' e0->∀ s a9 bD,MG c.l NZ (j+1)=.ok () a9->nameP c.l a9=.ok s bD->MG c.l OX bD=.ok () b8->False)(W:r=(MV c.l F d (i+1)).bind λb az=>(QX c.l F d az).bind λi8 aX=>(Oh c.l F d aX).bind λf ca=>if i8.length+f.length=0 then Qo c.l 3 ca else .ok (.mk 12 LH 0 (b::(i8++f))) ca)(ay:r≠.out)(h:Ps c w i 0 (-1)) :
  MC 111 #[NW c,LJ (d:Int)] w (Oj c w (NV w.heap.size) ZN r):=by
 have A{G}(h:G:=by
 have hr:=hide U;have A{G}(h:G:=by
 have iz:¬ fx c.l i=QU:=by rw[an];decide
 have jx:=hide eA;(try clear eA);have aG:=hide W;(try clear W);have A{G}(h:G:=by
 have A{G}(h:G:=by
 have A{G}(h:G:=by
 have A{G}(h:G:=by
 have A{G}(h:G:=by
 have cK:=hide (OG c _ j Qv MK af bk.out);have A{G}(h:G:=by
 (try clear c0 c1 c2 c3 dx h4 ey);(try clear dZ);refine aGY (H:=λgQ _=>∃ er pl,r=.bad er pl/\MC 186 #[NW c,LJ (d:Int),L9 false] gQ.drew (Xl c gQ.drew er pl ZN)/\Open w.heap.size gQ (.mk 12 LH 0 [b]) w.heap.size (.slice (some (LD cs.heap.size 0)) 1 1) [q]/\Ap c.P w.heap.size w gQ) (G:=?GB) (λzN=>?_) ?_;rotate_left
 ·have ag:=hide (O9 c cM (j+1) NZ MK bk.out);go_wp2_with fail;refine NJ ?_;intro e fs ae
  cases T:MG c.l NZ (j+1) with
  | out=>rw[T] at g9;exact absurd g9.out bb.out
  | bad er pl=>
   rw[T] at ae g9;have ac:r=.bad er pl:=Lu g9;have sP:=hide ac;(try clear ac);obtain⟨⟨v,rfl,rfl⟩,⟨t5,bE⟩,he,aa⟩:=ae;(try clear T);have A{G}(h:G:=by
   replace bk:=hide bE;have ag:=hide ((ai5 c _ t5 _ _ he bk.out).mono (λe w' h=>(⟨⟨_,h.1⟩,h.2⟩:(∃ s,e=MN (LQ s))/\w'=fs)));go_wp2_with fail;refine NJ ?_;rintro e uq ⟨⟨s,rfl⟩,rfl⟩;exact aDt):=LG h;exact ad5
  | ok dg a9=>
   rw[T] at ae g9;have bY:Hid (r=(nameP c.l a9).bind λs aX=>(MG c.l OX aX).bind λ_ ca=>(MV c.l F d ca).bind λa' gi=>(Oh c.l F d gi).bind λf ff=>.ok (.mk 12 LH 0 (b :: .mk 13 s 0 [a']::f)) ff):=Lu g9;obtain⟨⟨v,rfl,rfl⟩,bE,aa⟩:=ae;have cd:=hide T;(try clear T);have A{G}(h:G:=by
   replace bk:=hide bE;have ag:=hide (RJ c fs a9 bk.out);go_wp2_with fail;refine NJ ?_;intro e gm ae
   cases T:nameP c.l a9 with
   | out=>rw[T] at bY;exact absurd bY.out bb.out
   | bad er pl=>
    rw[T] at ae bY;have ac:r=.bad er pl:=Lu bY;have sP:=hide ac;(try clear ac);obtain⟨⟨v,rfl,s,rfl⟩,⟨t5,bE⟩,he,aa⟩:=ae;(try clear T);have A{G}(h:G:=by
    replace bk:=hide bE;exact aDt):=LG h;exact ad5
   | ok s bD=>
    rw[T] at ae bY;have gG:Hid (r=(MG c.l OX bD).bind λ_ ca=>(MV c.l F d ca).bind λa' gi=>(Oh c.l F d gi).bind λf ff=>.ok (.mk 12 LH 0 (b :: .mk 13 s 0 [a']::f)) ff):=Lu bY;obtain⟨⟨v,rfl,rfl⟩,bE,aa⟩:=ae;have bX:=hide T;(try clear T);have A{G}(h:G:=by
    replace bk:=hide bE;have ag:=hide (O9 c gm bD OX MK bk.out);go_wp2_with fail;refine NJ ?_;intro e gQ ae
    cases T:MG c.l OX bD with
    | out=>rw[T] at gG;exact absurd gG.out bb.out
    | bad er pl=>
     rw[T] at ae gG;have ac:r=.bad er pl:=Lu gG;have sP:=hide ac;(try clear ac);obtain⟨⟨v,rfl,rfl⟩,⟨t5,bE⟩,he,aa⟩:=ae;(try clear T);have A{G}(h:G:=by
     replace bk:=hide bE;exact aDu):=LG h;exact ad5
    | ok x3 b8=>
     rw[T] at ae gG;have uY:Hid (r=(MV c.l F d b8).bind λa' gi=>(Oh c.l F d gi).bind λf ff=>.ok (.mk 12 LH 0 (b :: .mk 13 s 0 [a']::f)) ff):=Lu gG;obtain⟨⟨v,rfl,rfl⟩,bE,aa⟩:=ae;have f5:=hide T;(try clear T);have A{G}(h:G:=by
     replace bk:=hide bE
     cases T:MV c.l F d b8 with
     | out=>rw[T] at uY;exact absurd uY.out bb.out
     | ok a' e0=>exact(Lu jx b8 a' e0 T s a9 bD cd.out bX.out f5.out).elim
     | bad er pl=>
      have ag:=hide (PL bN.out e4.out hr.out false gQ.drew d b8 _ aD T.symm (by nofun) bk.out.drew);rw[T] at uY;have ac:r=.bad er pl:=Lu uY;have sP:=hide ac;(try clear ac);(try clear T);go_wp2_with fail;exact zN gQ s ⟨er,pl,sP.out,ag.out,bI.out,bS.out⟩):=LG h;exact ad5):=LG h;exact ad5):=LG h;exact ad5
 ·intro gQ s bA;obtain⟨er,pl,ac,eR,eS,bv⟩:=bA;subst ac;have ag:=hide eR;have EO:=hide eS;have bR:=hide bv;have bI:=EO;have bS:=bR;obtain⟨gu,ja,ed⟩:=bI.out.cell;refine WG (H:=QT c w (.mk 12 LH 0 [b]) (.slice (some (LD cs.heap.size 0)) 1 1) [q] er pl) (G:=?G2) (λez=>?_) ?_;rotate_left
  ·refine zld ?_;refine wt 5 (LQ s) ?_;refine wt 6 (NW c) ?_;refine wt 7 (LJ (d:Int)) ?_;refine wr2 4 8 (λK U=>?_) λK U=>?_
   ·go_simp;refine Qd ?_;(try clear U K);refine O7 8 λK U=>?_;have A{G}(h:G:=by
    have A{G}(h:G:=by
    have cC:Hid (QT _ _ _ _ _ _ _ ax bu):=QT.mk dh.out fq b'.out he;exact aD2):=LG h;exact aq2):=LG h;go_simp;exact alJ
   ·have A{G}(h:G:=by
    have A{G}(h:G:=by
    have cC:Hid (QT _ _ _ _ _ _ _ ax bu):=QT.mk dh.out fq b'.out he;exact aDM):=LG h;exact aq2):=LG h;go_simp;exact alJ
  ·have A{G}(h:G:=by
   have A{G}(h:G:=by
   have A{G}(h:G:=by
   have A{G}(h:G:=by
   have A{G}(h:G:=by
   obtain⟨ol,fq⟩:=cC.out.ps;have he:=cC.out.he;have gW:=hide (fq.ap (Lu (cB (.slice (some (LD g 0)) 2 cap))) dl.out);have uw:=hide (cC.out.ap.trans (Ap.of (Lu (cB (.slice (some (LD g 0)) 2 cap)))));have Ai:=pT (.slice (some (LD g 0)) 2 cap);have sB:=hide (UF c _ ol _ _ he Ox gW.out);(try clear fq cB pT ek el);go_wp2_with fail;refine cm sB.out ?_;rintro e gn ⟨rfl,D⟩;have bR:=hide (uw.out.next (Ap.of D));have cU:=hide (gW.out.later D);have aI:=(D.block _ (lt_of_heap Ai.out)).trans Ai.out
   obtain⟨kA,le,qY,ut,zf⟩:=node_cells aI;have Kn:=lt_of_heap aI;(try clear aI);go_wp2;go_ret;exact⟨⟨_,rfl,_,rfl⟩,⟨ol,cU.out⟩,he,bR.out⟩):=LG h;exact aCc):=LG h;exact aqA):=LG h;exact aBn):=LG h;exact alG):=LG h;exact aAG):=LG h;exact auv):=LG h;exact zsl):=LG h;exact aA4):=LG h;exact XZ):=LG h;exact auf):=LG h;exact zsb):=LG h;exact afY):=LG h;exact af2
def amQ {c:PC}{F:OQ}(ai:ZW c F)(aN:∃ k,VW c.l k F)(U:ZK F)(w:LK)(d i:Nat)(r:PR Tr)(aD:d<=30)(b:Tr)(j:Nat)(s:LW)(a9 bD b8 e0:Nat)(a':Tr)(an:fx c.l i=Uu)(d9:MV c.l F d (i+1)=.ok b j)(dZ:fx c.l j=Qv)(g4:MG c.l NZ (j+1)=.ok () a9)(bG:nameP c.l a9=.ok s bD)(d6:MG c.l OX bD=.ok () b8)(gM:MV c.l F d b8=.ok a' e0)(W:r=(MV c.l F d (i+1)).bind λb az=>(QX c.l F d az).bind λi8 aX=>(Oh c.l F d aX).bind λf ca=>if i8.length+f.length=0 then Qo c.l 3 ca else .ok (.mk 12 LH 0 (b::(i8++f))) ca)(ay:r≠.out)(h:Ps c w i 0 (-1)) :
  MC 111 #[NW c,LJ (d:Int)] w (Oj c w (NV w.heap.size) ZN r):=by
 have A{G}(h:G:=by
 have hr:=hide U;have A{G}(h:G:=by
 have iz:¬ fx c.l i=QU:=by rw[an];decide
 have aG:=hide W;(try clear W);have A{G}(h:G:=by
 have A{G}(h:G:=by
 have A{G}(h:G:=by
 have A{G}(h:G:=by
 have A{G}(h:G:=by
 have cK:=hide (OG c _ j Qv MK af bk.out);have A{G}(h:G:=by
 (try clear c0 c1 c2 c3 dx h4 ey);(try clear dZ);have ag:=hide (O9 c cM (j+1) NZ MK bk.out);go_wp2_with fail;refine NJ ?_;intro e fs ae;rw[g4] at ae;obtain⟨⟨v,rfl,rfl⟩,bE,aa⟩:=ae;have A{G}(h:G:=by
 replace bk:=hide bE;have ag:=hide (RJ c fs a9 bk.out);go_wp2_with fail;refine NJ ?_;intro e gm ae;rw[bG] at ae;obtain⟨⟨v,rfl,rfl⟩,bE,aa⟩:=ae;have A{G}(h:G:=by
 replace bk:=hide bE;have ag:=hide (O9 c gm bD OX MK bk.out);go_wp2_with fail;refine NJ ?_;intro e gQ ae;rw[d6] at ae;obtain⟨⟨v,rfl,rfl⟩,bE,aa⟩:=ae;have A{G}(h:G:=by
 replace bk:=hide bE;obtain⟨gu,ja,ed⟩:=bI.out.cell;have ag:=hide (PL bN.out e4.out hr.out false gQ.drew d b8 _ aD gM.symm (by nofun) bk.out.drew);have bY:Hid (r=(Oh c.l F d e0).bind λf ff=>.ok (.mk 12 LH 0 (b :: .mk 13 s 0 [a']::f)) ff):=by
  have E:=Lu g9;rw[g4,bind_ok,bG,bind_ok,d6,bind_ok,gM,bind_ok] at E;exact E
 (try clear g4 bG d6 gM);go_wp2_with fail;have mf:=hide bS.out.size;refine WG (H:=SN c w gQ.heap.size (.mk 12 LH 0 [b]) (.slice (some (LD cs.heap.size 0)) 1 1) [q] a' e0) (G:=?G3) (λez=>?_) ?_;rotate_left
 ·refine zld ?_;refine wt 5 (LQ s) ?_;refine wt 6 (NW c) ?_;refine wt 7 (LJ (d:Int)) ?_;refine wr2 4 8 (λK U=>?_) λK U=>?_
  ·go_simp;refine Qd ?_;(try clear U K);refine O7 8 λK U=>?_;have A{G}(h:G:=by
   have dh:=hide (bS.out.drew.next aa);have A{G}(h:G:=by
   have cC:Hid (SN _ _ _ _ _ _ _ _ ax bu):=SN.mk (Z:=gQ.heap.size) dh.out fq b'.out (LU.cons fd LU.nil) aa.size (bI.out.kb (((Ap.refl c.P gQ.heap.size gQ).drew).next aa) a1.out);exact aD2):=LG h;exact aq2):=LG h;go_simp;exact ab7
  ·have A{G}(h:G:=by
   have dh:=hide (bS.out.drew.next aa);have A{G}(h:G:=by
   have cC:Hid (SN _ _ _ _ _ _ _ _ ax bu):=SN.mk (Z:=gQ.heap.size) dh.out fq b'.out (LU.cons fd LU.nil) aa.size (bI.out.kb (((Ap.refl c.P gQ.heap.size gQ).drew).next aa) a1.out);exact aDM):=LG h;exact aq2):=LG h;go_simp;exact ab7
 ·have A{G}(h:G:=by
  have i3:=hide (Open.acU (x:=.mk 13 s 0 [a']) rk.out (bI.out.Za mf.out Nh (LU.cons (YC (Vp cC.out.nd cC.out.sz (by simp[maxLen]) #[LC bu] rfl 1 rfl 13 s 0 _ rfl).nv) LU.nil) ((cC.out.kb.alloc _).alloc _)) rfl hown3 dD (dc.imp id λe=>by rw[e];simp))
  have A{G}(h:G:=by
  have A{G}(h:G:=by
  have A{G}(h:G:=by
  have A{G}(h:G:=by
  have gW:=hide (cC.out.ps.ap (Lu (cB (.slice (some (LD g 0)) 2 cap))) dl.out);have uw:=hide (cC.out.ap.trans (Ap.of (Lu (cB (.slice (some (LD g 0)) 2 cap)))));obtain⟨bf,vt⟩:=Open.asA i3.out (Lu (pT (.slice (some (LD g 0)) 2 cap)));obtain⟨bC,dM,rfl⟩:∃ bC dM,bf=[bC,dM]:=by
   have eZ:bf.length=2:=LU.length _ _ vt.kids
   match bf,eZ with
   | [a,b],_=>exact⟨a,b,rfl⟩
  have An:Hid (Open w.heap.size (aq.setCell (LD w.heap.size 3) (.slice (some (LD g 0)) 2 cap)) (.mk 12 LH 0 [b,.mk 13 s 0 [a']]) w.heap.size (.slice (some (LD g 0)) 2 cap) [bC,dM]):=vt;(try clear cB pT ek el)
  by_cases jX:fx c.l e0=Ox
  ·have gG:Hid (r=(MV c.l F d (e0+1)).bind λcV my=>.ok (.mk 12 LH 0 [b,.mk 13 s 0 [a'],.mk 14 LH 0 [cV]]) my):=by
    have E:=Lu bY;unfold Oh at E;rw[zalak jX] at E;rw[E]
    cases MV c.l F d (e0+1) <;> rfl
   have sB:=hide (OG c _ e0 Ox MK jX gW.out);(try clear jX gu ja ed);go_wp2_with fail;refine cm sB.out ?_;rintro e cT ⟨rfl,k5,gJ⟩;have bS:=hide (uw.out.next gJ);have bk:=hide k5;have bI:=hide (An.out.stay gJ a1.out);obtain⟨gu,ja,ed⟩:=bI.out.cell
   cases T:MV c.l F d (e0+1) with
   | out=>rw[T] at gG;exact absurd gG.out bb.out
   | bad er pl=>
    have ag:=hide (PL bN.out e4.out hr.out false cT.drew d (e0+1) _ aD T.symm (by nofun) bk.out.drew);rw[T] at gG;have ac:r=.bad er pl:=Lu gG;subst ac;(try clear T);go_wp2_with fail;refine WG (H:=QT c w (.mk 12 LH 0 [b,.mk 13 s 0 [a']]) (.slice (some (LD g 0)) 2 cap) [bC,dM] er pl) (G:=?G1) (λez=>?_) ?_;rotate_left
    ·refine zld ?_;refine alT ?_;refine wr2 4 7 (λK U=>?_) λK U=>?_
     ·go_simp;refine Qd ?_;(try clear U K);refine O7 7 λK U=>?_;have A{G}(h:G:=by
      have A{G}(h:G:=by
      have cC:Hid (QT _ _ _ _ _ _ _ ax bu):=QT.mk dh.out fq b'.out he;exact ark):=LG h;exact aq3):=LG h;go_simp;exact alJ
     ·have A{G}(h:G:=by
      have A{G}(h:G:=by
      have cC:Hid (QT _ _ _ _ _ _ _ ax bu):=QT.mk dh.out fq b'.out he;exact ari):=LG h;exact aq3):=LG h;go_simp;exact alJ
    ·have A{G}(h:G:=by
     have A{G}(h:G:=by
     have A{G}(h:G:=by
     have A{G}(h:G:=by
     (try clear dc dT);exact aEd):=LG h;exact aqA):=LG h;exact auj):=LG h;exact alG):=LG h;exact aqB
   | ok cV qP=>
    have ag:=hide (PL bN.out e4.out hr.out false cT.drew d (e0+1) _ aD T.symm (by nofun) bk.out.drew);rw[T] at gG;have ac:r=.ok (.mk 12 LH 0 [b,.mk 13 s 0 [a'],.mk 14 LH 0 [cV]]) qP:=Lu gG;subst ac;(try clear T);go_wp2_with fail;have mf:=hide bS.out.size;refine WG (H:=SN c w cT.heap.size (.mk 12 LH 0 [b,.mk 13 s 0 [a']]) (.slice (some (LD g 0)) 2 cap) [bC,dM] cV qP) (G:=?G2) (λez=>?_) ?_;rotate_left
    ·refine zld ?_;refine alT ?_;refine wr2 4 7 (λK U=>?_) λK U=>?_
     ·go_simp;refine Qd ?_;(try clear U K);refine O7 7 λK U=>?_;have A{G}(h:G:=by
      have dh:=hide (bS.out.drew.next aa);have A{G}(h:G:=by
      have cC:Hid (SN _ _ _ _ _ _ _ _ ax bu):=SN.mk (Z:=cT.heap.size) dh.out fq b'.out (LU.cons fd LU.nil) aa.size (bI.out.kb (((Ap.refl c.P cT.heap.size cT).drew).next aa) a1.out);exact ark):=LG h;exact aq3):=LG h;go_simp;exact ab7
     ·have A{G}(h:G:=by
      have dh:=hide (bS.out.drew.next aa);have A{G}(h:G:=by
      have cC:Hid (SN _ _ _ _ _ _ _ _ ax bu):=SN.mk (Z:=cT.heap.size) dh.out fq b'.out (LU.cons fd LU.nil) aa.size (bI.out.kb (((Ap.refl c.P cT.heap.size cT).drew).next aa) a1.out);exact ari):=LG h;exact aq3):=LG h;go_simp;exact ab7
    ·have A{G}(h:G:=by
     have i3:=hide (Open.acU (x:=.mk 14 LH 0 [cV]) rk.out (bI.out.Za mf.out Nh (LU.cons (YC (Vp cC.out.nd cC.out.sz (by simp[maxLen]) #[LC bu] rfl 1 rfl 14 LH 0 _ rfl).nv) LU.nil) ((cC.out.kb.alloc _).alloc _)) rfl hown3 dD (dc.imp id λe=>by rw[e];simp))
     have A{G}(h:G:=by
     have A{G}(h:G:=by
     have A{G}(h:G:=by
     (try clear dc dT);exact aEk):=LG h;exact aqA):=LG h;exact auj):=LG h;exact alG):=LG h;exact aqB
  ·have ac:r=.ok (.mk 12 LH 0 [b,.mk 13 s 0 [a']]) e0:=by
    have E:=Lu bY;unfold Oh at E;rw[zalah jX] at E;exact E
   subst ac;have sB:=hide (OZ c _ e0 Ox MK jX gW.out);(try clear jX);go_wp2_with fail;refine cm sB.out ?_;rintro e gn ⟨rfl,D⟩;have bR:=hide (uw.out.next (Ap.of D));have cU:=hide (gW.out.later D);have gE:=hide (An.out.stay (Ap.of D) a1.out);obtain⟨ut,zf,zl⟩:=gE.out.cell;go_wp2;go_ret;exact⟨⟨_,rfl,gE.out.nv⟩,cU.out,bR.out⟩):=LG h;exact aCc):=LG h;exact aqA):=LG h;exact aBn):=LG h;exact alG):=LG h;exact aAG):=LG h;exact ad5):=LG h;exact ad5):=LG h;exact ad5):=LG h;exact auv):=LG h;exact zsl):=LG h;exact aA4):=LG h;exact XZ):=LG h;exact auf):=LG h;exact zsb):=LG h;exact afY):=LG h;exact af2
