import Derived.Test.YtoimgcjbcbhclaaGreatDoorAz20
set_option maxRecDepth 100000
set_option maxHeartbeats 0
set_option linter.all false
namespace Go.Proofs.YtoimgcjbcbhclaaGreatDoor
open Go.RowKit Go.Proofs.Tryz
def abH {c:PC}{F:OQ}(ai:ZW c F)(aN:∃ k,VW c.l k F)(U:ZK F)(w:LK)(d i:Nat)(r:PR Tr)(aD:d<=30)(kz:LW)(kd:Int)(jb:(kz=Oo/\kd=2)\/(kz=Ov/\kd=3)\/(kz=MS/\kd=4))(an:fx c.l i=kz)(W:r=UA c.l F d i)(ay:r≠.out)(h:Ps c w i 0 (-1)) :
  MC 111 #[NW c,LJ (d:Int)] w (Oj c w (NV w.heap.size) ZN r):=by
 have dt:=h;have A{G}(h:G:=by
 have jm:¬ fx c.l i=Nc:=by rw[an];rcases jb with ⟨rfl,_⟩|⟨rfl,_⟩|⟨rfl,_⟩ <;> decide
 have e1:¬ fx c.l i=Nb:=by rw[an];rcases jb with ⟨rfl,_⟩|⟨rfl,_⟩|⟨rfl,_⟩ <;> decide
 have e2:¬ fx c.l i=MI:=by rw[an];rcases jb with ⟨rfl,_⟩|⟨rfl,_⟩|⟨rfl,_⟩ <;> decide
 have fE:¬ fx c.l i=tIf:=by rw[an];rcases jb with ⟨rfl,_⟩|⟨rfl,_⟩|⟨rfl,_⟩ <;> decide
 have jI:¬ fx c.l i=QN:=by rw[an];rcases jb with ⟨rfl,_⟩|⟨rfl,_⟩|⟨rfl,_⟩ <;> decide
 have iz:¬ fx c.l i=QU:=by rw[an];rcases jb with ⟨rfl,_⟩|⟨rfl,_⟩|⟨rfl,_⟩ <;> decide
 have kr:¬ fx c.l i=Uu:=by rw[an];rcases jb with ⟨rfl,_⟩|⟨rfl,_⟩|⟨rfl,_⟩ <;> decide
 have aG:=hide W;(try clear W);have A{G}(h:G:=by
 have ag:=hide (OZ c cM i Uu MK kr jy.out.ps);go_wp2_with fail;refine NJ ?_;rintro e jo ⟨rfl,D⟩;have lq:=hide (jy.out.below D);have cA:dcK kz=kd:=by rcases jb with ⟨rfl,rfl⟩|⟨rfl,rfl⟩|⟨rfl,rfl⟩ <;> decide +kernel
 have BR:Oq kz=kd:=by rcases jb with ⟨rfl,rfl⟩|⟨rfl,rfl⟩|⟨rfl,rfl⟩ <;> decide +kernel
 have eC:(MJ c.l i).tx=kz:=((ao1 (by rcases jb with ⟨rfl,_⟩|⟨rfl,_⟩|⟨rfl,_⟩ <;> decide)).1 an).2;have Ee:=hide (Sj dt.base.ends dt.lt an (by rcases jb with ⟨rfl,_⟩|⟨rfl,_⟩|⟨rfl,_⟩ <;> decide));(try clear jm e1 e2 fE jI iz kr)
 rcases jb with ⟨E,O⟩|⟨E,O⟩|⟨E,O⟩
 focus
  have am:=NP c jo i Oo MK lq.out.ps;rw[zalaz (an.trans E)] at am;have ag:=hide am;go_wp2_with fail;refine cm ag.out ?_;rintro e wk ⟨rfl,D⟩;have kP:=hide (lq.out.below D)
 rotate_left
 focus
  have am:=NP c jo i Oo MK lq.out.ps;rw[zalaw (by rw[an,E];decide)] at am
  have ag:=hide am;go_wp2_with fail;refine cm ag.out ?_;rintro e fs ⟨rfl,D⟩;have oP:=hide (lq.out.below D);have am:=NP c fs i Ov MK oP.out.ps;rw[zalaz (an.trans E)] at am;have ag:=hide am;go_wp2_with fail;refine cm ag.out ?_;rintro e wk ⟨rfl,D⟩;have kP:=hide (oP.out.below D)
 rotate_left
 focus
  have am:=NP c jo i Oo MK lq.out.ps;rw[zalaw (by rw[an,E];decide)] at am
  have ag:=hide am;go_wp2_with fail;refine cm ag.out ?_;rintro e fs ⟨rfl,D⟩;have oP:=hide (lq.out.below D);have am:=NP c fs i Ov MK oP.out.ps;rw[zalaw (by rw[an,E];decide)] at am
  have ag:=hide am;go_wp2_with fail;refine cm ag.out ?_;rintro e gm ⟨rfl,D⟩;have nQ:=hide (oP.out.below D);have am:=NP c gm i MS MK nQ.out.ps;rw[zalaz (an.trans E)] at am;have ag:=hide am;go_wp2_with fail;refine cm ag.out ?_;rintro e wk ⟨rfl,D⟩;have kP:=hide (nQ.out.below D)
 rotate_left
 all_goals
  have jM:=hide O;(try clear O);(try clear ay aN);have aI:=kP.out.nd;obtain⟨c0,c1,c2,c3,dx⟩:=node_cells aI;have lx:=dx 0;have h4:=dx 3;have ey:=lt_of_heap aI;(try clear aI);have mB:=kP.out.ps.c0;have dg:=kP.out.ps.c1;have pE:=kP.out.ps.fz 1;have a7:=kP.out.ps.SB;have ce:=kP.out.ps.base.tlt;obtain⟨k0,a9,bD,b8⟩:=kP.out.ps.toks;have aC:(i:Int)<(c.l.length:Int):=by have:=kP.out.ps.lt;omega
  go_wp2_with fail;obtain⟨fl,mW⟩:∃ fl,fl=wk.drew:=⟨_,rfl⟩;have aE:Yn c wk fl:=by rw[mW];exact⟨rfl,rfl⟩
  have bL:fl.heap.size=wk.heap.size:=by rw[mW];rfl
  have ld:fl.cell? (LD w.heap.size 0)=some (LJ 0):=by rw[mW];exact c0
  have l0:fl.frozen? (LD w.heap.size 0)=false:=by rw[mW];exact lx
  have n3:∀ o,Yn c wk (fl.alloc o):=λo=>aE.alloc LM LM o;have jC:c.P≠w.heap.size:=by have:=Lu a1;omega
  have GH:c.tb≠w.heap.size:=by have E:=kP.out.ps.base.old;have O:=Lu dl;omega
  have B3:∀ o,Yn c wk ((fl.setCell (LD w.heap.size 0) (LJ kd)).alloc o):=λo=>(aE.set jC GH).alloc OM OM o;have vS:w.heap.size<fl.heap.size:=LM;have dm:∀ o,Hid (Stk c w kd i ((fl.setCell (LD w.heap.size 0) (LJ kd)).alloc o)):=λo=>kP.out.decl dl.out mW o kd
  have g9:Hid (r=(nameP c.l (i+1)).bind λs az=>if kd=4/\¬ fx c.l az=Xr then Qo c.l 3 az else if fx c.l az=Xr then (MO c.l F.vl d (az+1)).bind λv aX=>(MG c.l Nb aX).bind λ_ ca=>.ok (.mk kd s 0 [v]) ca else (MG c.l Nb az).bind λ_ aX=>.ok (.mk kd s 0 []) aX):=by
   have E:=Lu aG;unfold UA at E;rw[eC,BR] at E;exact E
  have Ef:=hide kP.out.ps.base.len;(try clear BR bL c0 c1 c2 c3 dx lx h4 an E);have Fl:=hide mW;(try clear mW);apply aFt
  ·intro ez;refine wp_region_held (S:=Yn c wk) Nw ?_;change wpAnyH _ _ _ _ _ _ _ _ (World.drew _);rw[<-Fl.out];obtain⟨lS,aw,lT,zo,zp,zq,zr,zs,zt,t7,t8,t9,ua,ub,ud,dH,Jj,Jo,Jt,Jk,Jm,Jp,Jr,Ju,Jw,Jl,Jn,Jq,Js,Jv,Jx,Ii,Ij,Ik,Il,Im,In⟩:=ak0 fl;refine wh 0 (LC w.heap.size) aE ?_;refine wh 6 (NW c) aE ?_;refine wh 7 (NW c) aE ?_;refine wh 8 (Mc c.P 0) aE ?_
   refine wg 9 (.slice (some (LD c.tb 0)) c.l.length c.cap) rfl (zalad ⟨by kernel_rfl,λL aO=>by have a2:=(Yn.cell aO 0).trans mB;go_simp⟩) aE ?_
   refine wh 10 (NW c) aE ?_;refine wh 11 (NW c) aE ?_;refine wh 12 (Mc c.P 1) aE ?_;refine wg 13 (LJ (i:Int)) rfl (zalad ⟨by kernel_rfl,λL aO=>by have a2:=(Yn.cell aO 1).trans dg;go_simp⟩) aE ?_
   refine wh 14 (Mc c.tb (i * 4)) aE ?_;refine wh 15 (Mc c.tb (i * 4+1)) aE ?_;refine wg 16 (LQ kz) rfl (zalad ⟨by kernel_rfl,λL aO=>by have a2:=(Yn.tok aO (i * 4+1)).trans (a9.trans (by rw[eC]));go_simp⟩) aE ?_
   refine UK 1 λK U=>?_;go_simp;refine U _ _ (n3 _) (λ_=>?_);(try clear U K);have aW:=Ii kz;have a4:=Ij kz;have bO:=Ik kz;have ew:=Il kz;have fA:=Im kz;have hb:=In kz;rw[cA] at aW a4 bO ew fA hb;have kA:∀ m:Array MapEntry,(fl.alloc (.map m 3)).cell? (LD w.heap.size 0)=some (LJ 0):=λm=>by rw[zalbi _ _ _ vS];exact ld
   have zf:∀ m:Array MapEntry,(fl.alloc (.map m 3)).frozen? (LD w.heap.size 0)=false:=λm=>by rw[zalef (w:=fl) (zalaa fl _ _ vS)];exact l0
   refine wpAnyH_ready (rs:=[2,3,4]) Nw MP (AllReadyH.cons rfl (λK U=>?_) (AllReadyH.cons rfl (λK U=>?_) (AllReadyH.cons rfl (λK U=>?_) AllReadyH.nil)))
   all_goals
    go_simp;refine U _ _ (n3 _) (λ_=>?_);(try clear U K)
   refine wpAnyH_ready (rs:=[3,4]) Nw MP (AllReadyH.cons rfl (λK U=>?_) (AllReadyH.cons rfl (λK U=>?_) AllReadyH.nil));rotate_left 2;refine wpAnyH_ready (rs:=[2,4]) Nw MP (AllReadyH.cons rfl (λK U=>?_) (AllReadyH.cons rfl (λK U=>?_) AllReadyH.nil));rotate_left 2;refine wpAnyH_ready (rs:=[2,3]) Nw MP (AllReadyH.cons rfl (λK U=>?_) (AllReadyH.cons rfl (λK U=>?_) AllReadyH.nil));rotate_left 2
   all_goals
    go_simp;refine U _ _ (n3 _) (λ_=>?_);(try clear U K)
   refine UK 4 λK U=>?_;rotate_left;refine UK 3 λK U=>?_;rotate_left;refine UK 4 λK U=>?_;rotate_left;refine UK 2 λK U=>?_;rotate_left;refine UK 3 λK U=>?_;rotate_left;refine UK 2 λK U=>?_;rotate_left
   all_goals
     go_simp;refine U _ _ (n3 _) (λ_=>?_);(try clear U K);refine wh 5 (.map (some fl.heap.size)) (n3 _) ?_;refine UK 17 λK U=>?_;go_simp;refine U _ _ (n3 _) (λ_=>?_);(try clear U K);refine wh 18 (LC w.heap.size) (n3 _) ?_;refine wh 19 (Mc w.heap.size 0) (n3 _) ?_;refine UK 20 λK U=>?_;go_simp;refine U _ _ (B3 _) (λ_=>?_);(try clear U K);refine wpAnyH_done Nw ?_ _;go_simp
     first|exact ez t7|exact ez t8|exact ez t9|exact ez ua|exact ez ub|exact ez ud
  ·intro m;obtain⟨dB,fB⟩:∃ dB,dB=(fl.setCell (LD w.heap.size 0) (LJ kd)).alloc (.map m 3):=⟨_,rfl⟩;have fu:Hid (Stk c w kd i dB):=by rw[fB];exact Lu (dm _)
   rw[<-fB];(try clear fB dm n3 B3 mB dg pE a7 ce k0 a9 bD b8 ld l0 vS cA eC);have ab:=Lu Ee;have k3:=Lu Ef;have dg:=fu.out.ps.c1;have pE:=fu.out.ps.fz 1;have a7:=fu.out.ps.SB;have e3:=hide (fu.out.stepped a1.out ab);have ag:=hide (RJ c _ (i+1) e3.out.ps);go_wp2_with fail;refine cm ag.out ?_;intro e uq ae;(try clear dg pE a7)
   cases T:nameP c.l (i+1) with
   | out=>rw[T] at g9;exact absurd g9.out bb.out
   | bad er pl=>
    rw[T] at ae g9;have ac:r=.bad er pl:=Lu g9;subst ac;obtain⟨⟨v,rfl,s,rfl⟩,⟨j,cv⟩,he,aa⟩:=ae;have aI:=(aa.block _ (lt_of_heap e3.out.nd) (by have:=Lu a1;omega)).trans e3.out.nd
    obtain⟨c0,c1,c2,c3,dx⟩:=node_cells aI;have rI:=dx 1;have ey:=lt_of_heap aI;have g0:Below w.heap.size uq (uq.setCell (LD w.heap.size 1) (LQ s)):=(zalbd w.heap.size uq).setCell (p:=(LD w.heap.size 1)) Nh _;have bS:=hide ((e3.out.ap.next aa).trans (Ap.of g0));have bk:=hide (cv.ap g0 dl.out);have zw:(uq.setCell (LD w.heap.size 1) (LQ s)).heap[w.heap.size]? = some (MB kd s 0 QJ):=by rw[heap_set aI];rfl
    obtain⟨ct,d1,d2,fy,qd⟩:=node_cells zw;have pb:=lt_of_heap zw;have cK:=hide (Qq he bk.out);have ft:=hide (UF c _ j er pl he Xr bk.out);(try clear T aI zw)
    first
     | have aM:kd=4:=(jM:Hid (kd=4)).out;subst aM;go_wp2_with fail;refine cm cK.out ?_;rintro e su ⟨rfl,rfl⟩
     | (try clear cK);have aM:=jM.out;subst aM
    go_wp2_with fail;refine cm ft.out ?_;rintro e wz ⟨rfl,D⟩;have np:=hide (bS.out.next (Ap.of D));have nF:=hide (bk.out.later D);have gS:=hide (P5 c wz j er pl he Nb nF.out);(try clear c0 c1 c2 c3 dx rI ey ct d1 d2 fy qd pb);go_wp2_with fail;refine cm gS.out ?_;rintro e gn ⟨rfl,rfl⟩;go_wp2;go_ret;exact⟨⟨_,rfl,_,rfl⟩,⟨j,nF.out⟩,he,np.out⟩
   | ok s j=>
    rw[T] at ae g9;have bY:Hid (r=if kd=4/\¬ fx c.l j=Xr then Qo c.l 3 j else if fx c.l j=Xr then (MO c.l F.vl d (j+1)).bind λv aX=>(MG c.l Nb aX).bind λ_ ca=>.ok (.mk kd s 0 [v]) ca else (MG c.l Nb j).bind λ_ aX=>.ok (.mk kd s 0 []) aX):=Lu g9;obtain⟨⟨v,rfl,rfl⟩,cv,aa⟩:=ae;have em:=hide (e3.out.on a1.out cv aa);have cy:=hide (em.out.text dl.out s);have aI:=em.out.nd;obtain⟨c0,c1,c2,c3,dx⟩:=node_cells aI;have rI:=dx 1;have ey:=lt_of_heap aI;obtain⟨ct,d1,d2,fy,qd⟩:=node_cells cy.out.nd
    have pb:=lt_of_heap cy.out.nd;(try clear T aI)
    by_cases af:fx c.l j=Xr
    ·rw[zalah (λh=>h.2 af),zalak af] at bY;have lh:=hide af
     first
      | have aM:kd=4:=(jM:Hid (kd=4)).out;rw[aM] at c0 ct;have cK:=hide (Q9 cy.out.ps);have am:=NP c _ j Xr MK cy.out.ps;rw[zalaz af] at am;have ft:=hide am;(try clear af);go_wp2_with fail;refine cm cK.out ?_;rintro e su ⟨rfl,rfl⟩;go_wp2_with fail;refine cm ft.out ?_;rintro e d0 ⟨rfl,D⟩;have fb:=hide (cy.out.below D);(try clear c0 c1 c2 c3 dx rI ey ct d1 d2 fy qd pb);have ft:=hide (OG c _ j Xr MK lh.out fb.out.ps);go_wp2_with fail;refine cm ft.out ?_;rintro e aj ⟨rfl,k5,gJ⟩;have fH:=hide (fb.out.on a1.out k5 gJ)
      | have aM:=jM.out;rw[aM] at c0 ct;(try clear af);have ft:=hide (OG c _ j Xr MK lh.out cy.out.ps);go_wp2_with fail;refine cm ft.out ?_;rintro e aj ⟨rfl,k5,gJ⟩;have fH:=hide (cy.out.on a1.out k5 gJ);(try clear c0 c1 c2 c3 dx rI ey ct d1 d2 fy qd pb)
     cases T:MO c.l F.vl d (j+1) with
     | out=>rw[T] at bY;exact absurd bY.out bb.out
     | bad er pl=>
      have ag:=hide (bN.out.vl aj d (j+1) _ aD T.symm (by nofun) fH.out.ps);rw[T] at bY;have ac:r=.bad er pl:=Lu bY;subst ac;(try clear T);go_wp2_with fail;refine cm ag.out ?_;rintro e cs ⟨⟨v,rfl,q,rfl⟩,⟨a8,cv⟩,he,aa⟩;have aI:=(aa.block _ (lt_of_heap fH.out.nd) (by have:=Lu a1;omega)).trans fH.out.nd
      obtain⟨c0,c1,c2,c3,dx⟩:=node_cells aI;have h4:=dx 3;have ey:=lt_of_heap aI;have bv:=fH.out.ap.next aa;have aV:Hid (Below w.heap.size cs ((cs.setCell (LD w.heap.size 3) (.slice (some (LD cs.heap.size 0)) 1 1)).alloc (.cells #[LC q] 22))):=((zalbd w.heap.size cs).setCell (p:=(LD w.heap.size 3)) Nh _).alloc OM _;have bS:=hide (bv.trans (Ap.of aV.out));have bk:=hide (cv.ap aV.out dl.out);have b9:=hide (P5 c _ a8 er pl he Nb bk.out);(try clear aI);go_wp2_with fail;refine cm b9.out ?_;rintro e wz ⟨rfl,rfl⟩;go_wp2;go_ret
      exact⟨⟨_,rfl,_,rfl⟩,⟨a8,bk.out⟩,he,bS.out⟩
     | ok t eI=>
      have ag:=hide (bN.out.vl aj d (j+1) _ aD T.symm (by nofun) fH.out.ps);rw[T] at bY;have ac:r=(MG c.l Nb eI).bind λ_ aX=>.ok (.mk kd s 0 [t]) aX:=Lu bY;have gG:=hide ac;(try clear T ac);go_wp2_with fail;refine cm ag.out ?_;rintro e cs ⟨⟨v,rfl,q,rfl,av⟩,cv,aa⟩;have aI:=(aa.block _ (lt_of_heap fH.out.nd) (by have:=Lu a1;omega)).trans fH.out.nd
      obtain⟨c0,c1,c2,c3,dx⟩:=node_cells aI;have h4:=dx 3;have ey:=lt_of_heap aI;have bv:=fH.out.ap.next aa;have aV:Hid (Below w.heap.size cs ((cs.setCell (LD w.heap.size 3) (.slice (some (LD cs.heap.size 0)) 1 1)).alloc (.cells #[LC q] 22))):=((zalbd w.heap.size cs).setCell (p:=(LD w.heap.size 3)) Nh _).alloc OM _;have bS:=hide (bv.trans (Ap.of aV.out));have bk:=hide (cv.ap aV.out dl.out)
      have b3:Hid (NV w.heap.size ((cs.setCell (LD w.heap.size 3) (.slice (some (LD cs.heap.size 0)) 1 1)).alloc (.cells #[LC q] 22)) (.mk kd s 0 [t]) (LC w.heap.size)):=Zr Nh (lt_of_heap fH.out.nd) (set1 cs w.heap.size _) MP aa.size (by rw[heap_set aI];rfl) (LU.cons av LU.nil) rfl #[LC q] rfl (by simp[maxLen])
      have b9:=hide (O9 c _ eI Nb MK bk.out);have bY:=gG;(try clear aI);go_wp2_with fail;refine cm b9.out ?_;intro e wz ae
      cases bG:MG c.l Nb eI with
      | out=>rw[bG] at bY;exact absurd bY.out bb.out
      | bad er pl=>
       rw[bG] at ae bY;have ac:r=.bad er pl:=Lu bY;subst ac;obtain⟨⟨v,rfl,rfl⟩,bE,he,cI⟩:=ae;have cU:=hide bE;have bR:=hide (bS.out.next cI);(try clear bE bG);go_wp2;go_ret;exact⟨⟨_,rfl,_,rfl⟩,cU.out,he,bR.out⟩
      | ok x a8=>
       rw[bG] at ae bY;have ac:r=.ok (.mk kd s 0 [t]) a8:=Lu bY;subst ac;obtain⟨⟨v,rfl,rfl⟩,bE,cI⟩:=ae;have cU:=hide bE;have bR:=hide (bS.out.next cI);have fw:=hide (NV.later b3.out cI a1.out);(try clear bE bG);go_wp2;go_ret;exact⟨⟨_,rfl,fw.out⟩,cU.out,bR.out⟩
    ·first
      | have aM:kd=4:=(jM:Hid (kd=4)).out;subst aM;rw[zalak ⟨rfl,af⟩] at bY;have cK:=hide (Q9 cy.out.ps);have am:=NP c _ j Xr MK cy.out.ps;rw[zalaw af] at am;have ft:=hide am;have ac:r=.bad 3 (MJ c.l j).pl:=Lu bY;subst ac;(try clear af);go_wp2_with fail;refine cm cK.out ?_;rintro e su ⟨rfl,rfl⟩;go_wp2_with fail;refine cm ft.out ?_;rintro e d0 ⟨rfl,D⟩;have fb:=hide (cy.out.below D);have gS:=hide (QI c d0 j 3 MK fb.out.ps);(try clear c0 c1 c2 c3 dx rI ey ct d1 d2 fy qd pb);go_wp2_with fail;refine cm gS.out ?_;rintro e fY ⟨⟨v,rfl,q,rfl⟩,⟨a8,bE⟩,he,aa⟩;have bS:=hide (fb.out.ap.next aa);have bk:=hide bE;have sA:=hide (UF c fY a8 _ _ he Xr bE);(try clear bE);go_wp2_with fail;refine cm sA.out ?_;rintro e wz ⟨rfl,D⟩;have np:=hide (bS.out.next (Ap.of D));have nF:=hide (bk.out.later D);have oE:=hide (P5 c wz a8 _ _ he Nb nF.out);go_wp2_with fail;refine cm oE.out ?_;rintro e gn ⟨rfl,rfl⟩;go_wp2;go_ret;exact⟨⟨_,rfl,_,rfl⟩,⟨a8,nF.out⟩,he,np.out⟩
      | have aM:¬ kd=4:=(by have:=jM.out;omega);rw[zalah (λh=>aM h.1),zalah af] at bY;have bw:=jM.out;subst bw;have ft:=hide (OZ c _ j Xr MK af cy.out.ps);(try clear af);go_wp2_with fail;refine cm ft.out ?_;rintro e d0 ⟨rfl,D⟩;have fb:=hide (cy.out.below D);(try clear c0 c1 c2 c3 dx rI ey ct d1 d2 fy qd pb);have bS:=hide fb.out.ap;have b3:Hid (NV w.heap.size d0 (.mk _ s 0 []) (LC w.heap.size)):=aaw Nh fb.out.nd YO LU.nil;have b9:=hide (O9 c d0 j Nb MK fb.out.ps);go_wp2_with fail;refine cm b9.out ?_;intro e wz ae;cases bG:MG c.l Nb j with
       | out=>rw[bG] at bY;exact absurd bY.out bb.out
       | bad er pl=>
        rw[bG] at ae bY;have ac:r=.bad er pl:=Lu bY;subst ac;obtain⟨⟨v,rfl,rfl⟩,bE,he,cI⟩:=ae;have cU:=hide bE;have bR:=hide (bS.out.next cI);(try clear bE bG);go_wp2;go_ret;exact⟨⟨_,rfl,_,rfl⟩,cU.out,he,bR.out⟩
       | ok x a8=>
        rw[bG] at ae bY;have ac:r=.ok (.mk _ s 0 []) a8:=Lu bY;subst ac;obtain⟨⟨v,rfl,rfl⟩,bE,cI⟩:=ae;have cU:=hide bE;have bR:=hide (bS.out.next cI);have fw:=hide (NV.later b3.out cI a1.out);(try clear bE bG);go_wp2;go_ret;exact⟨⟨_,rfl,fw.out⟩,cU.out,bR.out⟩):=LG h;exact zsb):=LG h;exact az2
