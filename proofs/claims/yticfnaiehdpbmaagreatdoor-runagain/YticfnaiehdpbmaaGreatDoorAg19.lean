import Derived.Test.YticfnaiehdpbmaaGreatDoorAg12
import Derived.Test.YticfnaiehdpbmaaGreatDoorAg14
import Derived.Deep.MidRow
import Derived.Laws.AppendOwnNone
set_option maxRecDepth 100000
set_option maxHeartbeats 8000000
set_option linter.unusedVariables false
namespace Go.Proofs.YticfnaiehdpbmaaGreatDoor
open Go.RowKit Go.Proofs.Tryz
theorem sg2 {s:NR}{x:Sg}(h:YR 2 s=some x):2<=x.str/\x.str<=7:=by
 unfold YR at h
 cases aG:Yp s with
 | none=>rw[aG] at h;cases h
 | some y=>
  rw[aG] at h;have aV:=List.mem_of_find?_eq_some aG;have hy:y=x/\(y.parts==2)=true:=by
   simp only[Option.filter] at h
   split at h
   ·exact⟨Option.some.inj h,by assumption⟩
   ·
    cases h
  obtain⟨rfl,al⟩:=hy;simp only[sgs,List.mem_cons,List.not_mem_nil,or_false] at aV
  rcases aV with rfl|rfl|rfl|rfl|rfl|rfl|rfl|rfl|rfl|rfl|rfl|rfl|rfl|rfl <;> first|decide | (exact absurd al NH)
theorem abz {c:Ctx}{w bf:Ny}{i d:Nat}(x:Sg)(cR:OU c bf i d)(dK:Ap c.R w.heap.size w bf)(ay:i+1<c.l.length) :
  OU c ((bf.setCell (Nv c.R 1) (Nr ((i:Int)+1))).alloc (.cells #[ND x.tx,Nr x.kd,Nr x.parts,Nr x.str] 275)).drew (i+1) d/\Ap c.R w.heap.size w ((bf.setCell (Nv c.R 1) (Nr ((i:Int)+1))).alloc (.cells #[ND x.tx,Nr x.kd,Nr x.parts,Nr x.str] 275)).drew /\
  ((bf.setCell (Nv c.R 1) (Nr ((i:Int)+1))).alloc (.cells #[ND x.tx,Nr x.kd,Nr x.parts,Nr x.str] 275)).drew.heap[bf.heap.size]? = some (.cells #[ND x.tx,Nr x.kd,Nr x.parts,Nr x.str] 275):=by
 obtain⟨h1,O⟩:=stepped cR dK ay;refine⟨(h1.alloc _).drew,(O.alloc O.size _).drew,?_⟩;have:=NG (bf.setCell (Nv c.R 1) (Nr ((i:Int)+1))) (.cells #[ND x.tx,Nr x.kd,Nr x.parts,Nr x.str] 275);rw[World.size_setCell] at this;exact this
section
variable {c:Ctx} {F:Rq}
include c F
theorem agh (hJ:Does c 333 NV (TT c.l F))(w:Ny)(d i:Nat)(r:PR Tr)(e6:YR 1 (fx c.l i)=none)(ae:TT c.l F d i=r)(aM:r≠.out)(h:OU c w i d):NK 311 #[Ov c] w (Pm c w d (NV w.heap.size) r):=by
 have tj:=hide e6;clear e6;have fA:=(Ap.refl c.R w.heap.size w);have bS:=hide h.YV;have ba:=hide ae;have dr:=hide aM;clear ae aM;go_enter func311,ntmps311;have ah:=(U9 c 1 w i d h);have bP:=kk (∀{G}(h:G:=by
 have o':=(fA.next (Ap.of nJ));have l3:=(h.later nJ);clear h;have bP:=kk (∀{G}(h:G:=by
 cases U:TT c.l F d i with
 | out=>
  rw[U] at ba;exact absurd ba.out.symm dr.out
 | bad er p=>
  have ah:=(hJ (bf.alloc (.cells #[OG,Nr 0,Nr 0,Nr 0] 275)) d i _ rfl (by rw[U];nofun) qX)
  rw[U] at ah ba;clear U;have z:=kk (∀{G}(h:G:=by
  exact⟨rfl,Pn ba.out.symm (rH.next aw)⟩),G);exact WE
 | ok cj bW=>
  have ah:=(hJ (bf.alloc (.cells #[OG,Nr 0,Nr 0,Nr 0] 275)) d i _ rfl (by rw[U];nofun) qX)
  rw[U] at ah ba;clear U;go_wp2_with fail;have z:=kk (∀{G}(h:G:=by
  have eo:=(rH.next aw);have eg:=(Q7 gG rH.size);go_wp2_with fail;go_ret;exact RG ba.out.symm ⟨p1,rfl,eg⟩ a8 eo),G);exact aqX),G);exact zts),G);exact ztx
theorem agi (ak:FC c F)(w:Ny)(d i:Nat)(x:Sg)(r:PR Tr)(e6:YR 1 (fx c.l i)=some x)(ae:((OL c.l F.sg d (i+1)).bind fun t a7=>PR.ok (.mk x.kd NC 0 [t]) a7)=r)(aM:r≠.out)(h:OU c w i d):NK 311 #[Ov c] w (Pm c w d (NV w.heap.size) r):=by
 have im:=PU c.R 311;have tj:=hide e6;have ay:=Y4 h.base.ends h.lt e6;have dz:=h.base.len;clear e6;have z:=kk (∀{G}(h:G:=by
 have ba:=hide ae;have dr:=hide aM;clear h ae aM;go_enter func311,ntmps311;have ah:=(U9 c 1 w i d bD);have z:=kk (∀{G}(h:G:=by
 have o':=(fA.next (Ap.of nJ));have l3:=(bD.later nJ);have f7:=l3.c1;have g7:=l3.fz;have dP:=l3.YV;obtain⟨t1,eM,e8⟩:=abz x l3 o' ay;have eF:=hide e8;have r5:Hid (c.R<bf.heap.size):=dP;clear e8
 cases U:OL c.l F.sg d (i+1) with
 | out=>
  exact QA
 | bad er p=>
  have z:=kk (∀{G}(h:G:=by
  simp only[OE] at ba;have z:=kk (∀{G}(h:G:=by
  refine wh 2 (Ov c) eF.out ?_;refine wh 3 (Ov c) eF.out ?_;refine wh 4 (.func (.func 311) #[Ov c] #[]) eF.out ?_;refine WG 5 fun K A=>?_;go_simp;refine cm ah ?_;intro e w' al;obtain⟨rfl,aw⟩:=al;exact⟨rfl,Pn ba.out.symm (eM.next aw)⟩),G);exact aqV),G);exact aCs
 | ok t j=>
  have z:=kk (∀{G}(h:G:=by
  simp only[bind_ok] at ba;have z:=kk (∀{G}(h:G:=by
  refine wh 2 (Ov c) eF.out ?_;refine wh 3 (Ov c) eF.out ?_;refine wh 4 (.func (.func 311) #[Ov c] #[]) eF.out ?_;refine WG 5 fun K A=>?_;go_simp;have z:=kk (∀{G}(h:G:=by
  have eo:=(eM.next aw);have eg:=(Q7 gG eM.size);have iO:=hide ((aw.block _ (lt_of_heap eF.out) (by have:=Ns r5;omega)).trans eF.out)
  refine A.out _ _ iO.out (fun _=>?_);clear A K;refine WG 6 fun K A=>?_;go_simp;have eU:=hide ((Below.heap_alloc w1 (.cells #[Nu p1] 22) _ (lt_of_heap iO.out)).trans iO.out);refine A.out _ _ eU.out (fun _=>?_);clear A K;refine WG 7 fun K A=>?_;go_simp;refine cm (OT x.kd NC (.slice (some (Nv w1.heap.size 0)) 1 1) (w1.alloc (.cells #[Nu p1] 22)) ⟨_,_,_,rfl⟩) ?_;rintro e e9 ⟨rfl,rfl⟩
  have kJ:=hide ((Below.heap_alloc (w1.alloc (.cells #[Nu p1] 22)) (OA x.kd NC 0 (.slice (some (Nv w1.heap.size 0)) 1 1)) _ (lt_of_heap eU.out)).trans eU.out);refine A.out _ _ kJ.out (fun _=>?_);clear A K;refine wh 8 (Nu (w1.alloc (.cells #[Nu p1] 22)).heap.size) kJ.out ?_;refine wpAnyH_done OJ ?_ _;go_simp;go_wp2_with fail;go_ret;obtain⟨cO,cP,c'⟩:=made a8 eo (NT.cons eg NT.nil) (by simp[maxLen]) #[Nu p1] rfl 1 rfl x.kd NC (w1.heap.size+1) rfl;exact RG ba.out.symm cO.nv cP c'),G);exact aqX),G);exact aqV),G);exact aCs),G);exact aq2),G);exact ahS
theorem ah3 (ak:FC c F)(hJ:Does c 333 NV (TT c.l F)):Does c 311 NV (Tn c.l F):=by
 intro w d i r ae aM h;unfold Tn at ae
 cases hg:YR 1 (fx c.l i) with
 | none=>rw[hg] at ae;exact agh hJ w d i r hg ae aM h
 | some x=>rw[hg] at ae;exact agi ak w d i x r hg ae aM h
end
theorem aom {c:Ctx}{F:Rq}(ak:FC c F)(hN:∃ k,FNx c.l k F)(b:Int)(w:Ny)(d i:Nat)(r:PR Tr)(ae:WT c.l F b d i=r)(aM:r≠.out)(h:OU c w i d):NK 280 #[Ov c,Nr b] w (Pm c w d (NV w.heap.size) r):=by
 have dw:=h.base.ends;have dV:=hide h.base.len;have ny:=hide hN;clear hN;have z:=kk (∀{G}(h:G:=by
 unfold WT at ae;have ba:=hide ae;have dr:=hide aM;clear h ae aM;go_enter func280,ntmps280
 cases U:F.sg d i with
 | out=>
  exact QA
 | bad er p=>
  have ah:=(ak.sg w d i _ rfl (by rw[U];nofun) bD)
  exact Z5
 | ok cj bW=>
  have ah:=(ak.sg w d i _ rfl (by rw[U];nofun) bD)
  have z:=kk (∀{G}(h:G:=by
  intro e w1 al;obtain⟨⟨v1,rfl,p1,rfl,gG⟩,a8,aw⟩:=al;have eo:=(fA.next aw);have bJ:=a8;have eg:=(Q7 gG fA.size);clear aw;go_wp2_with fail
  go_loopw [5] (fun v wr=>∃ k t j p,v=Nu p/\Si c.l F b d k t j=r/\OU c wr j d/\Ap c.R w.heap.size w wr/\O7 (From w.heap.size) wr t p) (fun _ wr=>c.l.length - nxt c wr)
  case atStart=>exact⟨F.fuel,cj,bW,p1,rfl,ba.out,bJ,eo,eg⟩
  case round=>
   obtain⟨k,t,j,aW,rfl,ag,a8,gv,fd⟩:=hrel
   cases k with
   | zero=>exact absurd ag.symm dr.out
   | succ k=>
    have bj:=a8;have oh:=a8;have m5:=a8.lt;have dz:=Ns dV;unfold Si at ag
    cases e6:YR 2 (fx c.l j) with
    | none=>
     rw[e6] at ag;have bo:=hide ag;have tj:=hide e6;clear ag e6;have ah:=(U9 c 2 wr j d bj);have bP:=kk (∀{G}(h:G:=by
     have z:=kk (∀{G}(h:G:=by
     have bP:=kk (∀{G}(h:G:=by
     replace fd:=hide (QW fd (Ap.of (P8.alloc OH (.cells #[OG,Nr 0,Nr 0,Nr 0] 275))) bS.out);go_wp2_with fail;go_ret;exact RG bo.out.symm ⟨aW,rfl,fd⟩ qX rH),G);exact zts),G);exact avI),G);exact ztx
    | some x=>
     rw[e6] at ag
     dsimp only at ag
     have tj:=hide e6;have ay:=Y4 dw m5 e6;obtain⟨eM,ru⟩:=sg2 e6;clear e6
     by_cases h5:x.str<b
     ·rw[if_pos h5] at ag;have bo:=hide ag;clear ag;have ah:=(U9 c 2 wr j d bj);have z:=kk (∀{G}(h:G:=by
      have z:=kk (∀{G}(h:G:=by
      have z:=kk (∀{G}(h:G:=by
      replace fd:=hide (QW fd (Ap.of (P8.alloc OH (.cells #[ND x.tx,Nr x.kd,Nr x.parts,Nr x.str] 275))) bS.out);go_wp2_with fail;go_ret;exact RG bo.out.symm ⟨aW,rfl,fd⟩ qX rH),G);exact aCy),G);exact avI),G);exact aq2
     ·rw[if_neg h5] at ag;have bo:=hide ag;clear ag;have ah:=(U9 c 2 wr j d bj);have z:=kk (∀{G}(h:G:=by
      have z:=kk (∀{G}(h:G:=by
      have f7:=l3.c1;have g7:=l3.fz;have dP:=l3.YV;obtain⟨t1,t7,e8⟩:=abz x l3 o' ay;have eF:=hide e8;have r5:Hid (c.R<bf.heap.size):=dP;replace fd:Hid (O7 (From w.heap.size) (((bf.setCell (Nv c.R 1) (Nr ((j:Int)+1))).alloc (.cells #[ND x.tx,Nr x.kd,Nr x.parts,Nr x.str] 275)).drew) t aW):=QW (c:=c) fd ⟨rfl,rfl,rfl,by simp,fun k E oL=>by
       show ((bf.setCell (Nv c.R 1) (Nr ((j:Int)+1))).alloc (.cells #[ND x.tx,Nr x.kd,Nr x.parts,Nr x.str] 275)).heap[k]? = _
       rw[Below.heap_alloc _ _ k (by simpa using E),Below.heap_setCell bf (Nv c.R 1) _ k oL]⟩ bS.out
      clear e8
      cases U:F.pr (x.str+1) d (j+1) with
      | out=>
       exact avt
      | bad er p=>
       have z:=kk (∀{G}(h:G:=by
       rw[U] at ah bo;simp only[OE] at bo;have z:=kk (∀{G}(h:G:=by
       have z:=kk (∀{G}(h:G:=by
       refine cm ah ?_;intro e w' al;obtain⟨rfl,aw⟩:=al;exact⟨rfl,Pn bo.out.symm (t7.next aw)⟩),G);exact aB3),G);exact aqV),G);exact aCp
      | ok u cK=>
       have z:=kk (∀{G}(h:G:=by
       have kR:j+1<cK:=by
        obtain⟨kkq,cM⟩:=Ns ny;exact((cM.pr (x.str+1) d (j+1) ay).2 u cK U).1
       rw[U] at ah bo;simp only[bind_ok] at bo;have z:=kk (∀{G}(h:G:=by
       have z:=kk (∀{G}(h:G:=by
       have z:=kk (∀{G}(h:G:=by
       have eo:=(t7.next aw);have bJ:=a8;have AD:=a8.lt;replace fd:=hide (Zp fd aw bS.out t7.size gG);have iO:=hide ((aw.block _ (lt_of_heap eF.out) (by have:=Ns r5;omega)).trans eF.out)
       clear aw;refine A.out _ _ iO.out (fun _=>?_);clear A K;refine WG 8 fun K A=>?_;go_simp;have eU:=hide ((Below.heap_alloc w1 (.cells #[Nu aW,Nu p1] 22) _ (lt_of_heap iO.out)).trans iO.out);refine A.out _ _ eU.out (fun _=>?_);clear A K;refine WG 9 fun K A=>?_;go_simp;refine cm (OT x.kd NC (.slice (some (Nv w1.heap.size 0)) 2 2) (w1.alloc (.cells #[Nu aW,Nu p1] 22)) ⟨_,_,_,rfl⟩) ?_;rintro e e9 ⟨rfl,rfl⟩
       have kJ:=hide ((Below.heap_alloc (w1.alloc (.cells #[Nu aW,Nu p1] 22)) (OA x.kd NC 0 (.slice (some (Nv w1.heap.size 0)) 2 2)) _ (lt_of_heap eU.out)).trans eU.out);refine A.out _ _ kJ.out (fun _=>?_);clear A K;refine wh 10 (Nu (w1.alloc (.cells #[Nu aW,Nu p1] 22)).heap.size) kJ.out ?_;refine wpAnyH_done OJ ?_ _;go_simp;obtain⟨cO,cP,c'⟩:=made bJ eo fd (by simp[maxLen]) #[Nu aW,Nu p1] rfl 2 rfl x.kd NC (w1.heap.size+1) rfl;obtain⟨sR,rq,vV⟩:=cO.nv;have gK:sR=w1.heap.size+1:=by simpa[Nu] using rq.symm
       subst gK;clear rq;go_wp2_with fail
       go_roundw
       case rel=>exact⟨k,.mk x.kd NC 0 [t,u],cK,w1.heap.size+1,rfl,bo.out,cP,c',vV⟩
       case measure=>rw[TF cP,TF oh];omega),G);exact aqX),G);exact aB3),G);exact aqV),G);exact aCp),G);exact avI),G);exact aq2),G);exact WH),G);exact ahS
theorem ak0 (l:List Tk)(F:Rq)(d i:Nat):UL l F d i=(RI l F d i).bind fun n i2=>
  if fx l i2=aeM then (OL l F.st d (i2+1)).bind fun s2 i3=>.ok (.mk n.kd n.tx n.n (n.kids++[s2])) i3 else .ok n i2:=by
 unfold UL RI
 cases Tj l F d (i+1) with
 | out=>rfl
 | bad er p=>rfl
 | ok v a7=>
  simp only[bind_ok]
  cases OL l F.st d a7 with
  | out=>rfl
  | bad er p=>rfl
  | ok s i2=>rfl
theorem agj {l:List Tk}{F:Rq}{d i j:Nat}{t:Tr}(h:RI l F d i=.ok t j):t.kids.length=2:=by
 unfold RI at h
 cases h1:Tj l F d (i+1) with
 | out=>rw[h1] at h;cases h
 | bad er p=>rw[h1] at h;cases h
 | ok v a7=>
  rw[h1,bind_ok] at h
  cases O:OL l F.st d a7 with
  | out=>rw[O] at h;cases h
  | bad er p=>rw[O] at h;cases h
  | ok s i2=>rw[O,bind_ok] at h;cases h;rfl
theorem ah4 {c:Ctx}{F:Rq}(ak:FC c F)(w:Ny)(d i:Nat)(r:PR Tr)(E:(Ox c.l i).kd≠6)(ae:UL c.l F d i=r)(aM:r≠.out)(h:OU c w i d):NK 151 #[Ov c] w (Pm c w d (NV w.heap.size) r):=by
 have im:=PU c.R 160;have n':=hide E;have z:=kk (∀{G}(h:G:=by
 rw[ak0] at ae;clear E;have z:=kk (∀{G}(h:G:=by
 have ba:=hide ae;have dr:=hide aM;clear h ae aM;go_enter func151,ntmps151
 cases U:RI c.l F d i with
 | out=>
  exact QA
 | bad er p=>
  have ah:=(Yd ak w d i _ n'.out rfl (by rw[U];nofun) bD)
  exact Z5
 | ok cj bW=>
  have jA:=hide (agj U);have ah:=(Yd ak w d i _ n'.out rfl (by rw[U];nofun) bD)
  have z:=kk (∀{G}(h:G:=by
  intro e w1 al;obtain⟨⟨v1,rfl,gG⟩,a8,aw⟩:=al;have eo:=(fA.next aw);have bJ:=a8;have eg:=(EV.mono gG fA.size);obtain⟨aW,hz,BA,rfl,ek⟩:=eg.opens
  by_cases ac:fx c.l bW=aeM
  ·rw[if_pos ac] at ba;have ah:=(QU c aeM w1 bW d bJ ac NH);clear ac;go_wp2_with fail;refine cm ah ?_;rintro e w2 ⟨rfl,hr2,ha2⟩;have bj:=hr2;have ec:=(eo.next ha2);replace ek:=hide (Open.later ek ha2 bS.out);have z:=kk (∀{G}(h:G:=by
   cases U:OL c.l F.st d (bW+1) with
   | out=>
    exact QA
   | bad er p=>
    have ah:=(ZF ak w2.drew d (bW+1) bj.drew (by rw[U];nofun))
    rw[U] at ah ba;simp only[OE] at ba;clear U;go_wp2_with fail;have z:=kk (∀{G}(h:G:=by
    refine wt 5 (Ov c) ?_;refine wt 6 (Ov c) ?_;refine wt 7 (.func (.func 160) #[Ov c] #[]) ?_;refine wr2 4 8 (fun K A=>?_) fun K A=>?_
    ·go_simp;refine A _ _ ?_;clear A K;refine P6 8 fun K A=>?_;exact aBG
    ·exact aBG),G);exact Zo
   | ok lu hc=>
    have ah:=(ZF ak w2.drew d (bW+1) bj.drew (by rw[U];nofun))
    rw[U] at ah ba;simp only[bind_ok] at ba;clear U;go_wp2_with fail;refine abh (H:=fun aD cw=>Ap c.R w2.heap.size w2 aD/\OU c aD hc d/\O7 (From w2.heap.size) aD lu cw) (G:=?G1) (fun dI=>?_) ?_;rotate_left
    ·have z:=kk (∀{G}(h:G:=by
     refine wt 5 (Ov c) ?_;refine wt 6 (Ov c) ?_;refine wt 7 (.func (.func 160) #[Ov c] #[]) ?_;refine wr2 4 8 (fun K A=>?_) fun K A=>?_
     ·go_simp;refine A _ _ ?_;clear A K;refine P6 8 fun K A=>?_;have z:=kk (∀{G}(h:G:=by
      have z:=kk (∀{G}(h:G:=by
      obtain⟨gs,gt,hF⟩:=(Open.later ek dt bS.out).cell;exact avm),G);exact aCz),G);exact afV
     ·have z:=kk (∀{G}(h:G:=by
      have z:=kk (∀{G}(h:G:=by
      obtain⟨gs,gt,hF⟩:=(Open.later ek dt bS.out).cell;exact avM),G);exact aCz),G);exact afV),G);exact Zo
    intro aD cw cB;obtain⟨dt,a8,jL⟩:=cB;have e0:=(ec.next dt);have eC:=(Open.later ek dt bS.out);have mM:=(Open.apart ek ec.size dt bS.out (NT.cons jL NT.nil));obtain⟨gs,gt,hF⟩:=eC.cell;have hlen:=NT.length _ _ eC.kids;have hown:=eC.row;rw[hlen] at hown;have c9:=e0.size;have cJ:cj.kids.length<=3:=by rw[jA.out];decide
    clear hlen;refine P6 10 fun K A=>?_;refine step_append_lies _ rfl _ _ 38 rfl w.heap.size 22 i0 Qb 1 8 underlying38 d2 dH b6 cq rfl NH _ _ _ rfl (hown.alloc _) (Nv aD.heap.size 0) 1 1 [Nu cw] rfl rfl (QE aD cw _ rfl) (one_one cw) NH (by unfold maxLen;omega) Nw Qa (aD.heap.size+1) Oq ?_
    intro g cap ao hown3 eQ c7 _;refine A _ _ ?_;clear A K;have gz:=hide (XU eC mM a8 e0 i1.out hown3 eQ c7);have gi:ao.cell? (Nv aW 3)=aD.cell? (Nv aW 3)/\ao.frozen? (Nv aW 3)=aD.frozen? (Nv aW 3):=by
     exact anN
    obtain⟨gI,gJ⟩:=gi;rw[gs] at gI;rw[gt 3] at gJ;clear c7;refine wt 11 (Nu aW) ?_;refine wt 12 (NM aW 3) ?_;refine P6 13 fun K A=>?_;go_simp;refine A _ _ ?_;clear A K gI gJ gs gt hF;refine wpAny_done OJ ?_ _;go_simp;obtain⟨cO,cP,c'⟩:=Ns gz;go_wp2_with fail;go_ret;exact RG ba.out.symm cO.nv cP c'),G);exact anX
  ·rw[if_neg ac] at ba;have ah:=(RH c aeM w1 bW d bJ ac);clear ac;go_wp2_with fail;refine cm ah ?_;rintro e w2 ⟨rfl,aE⟩;have bj:=(bJ.later aE);have ec:=(eo.next (Ap.of aE));replace ek:=hide (Open.later ek (Ap.of aE) bS.out);go_wp2_with fail;go_ret;exact RG ba.out.symm ek.ev.nv bj ec),G);exact WH),G);exact ahS),G);exact akN
theorem aCS {c:Ctx}{w w1:Ny}{j d:Nat}{t:Tr}{p:Nat}{u:NP}{ps:List Nat}(ez:Open w.heap.size w1 t p u ps)(cR:OU c w1 j d)(dK:Ap c.R w.heap.size w w1)(nN:c.lo<=w.heap.size) :
  EV w.heap.size (w1.setCell (Nv p 3) u) (.mk t.kd t.tx t.n (t.kids++[])) (Nu p)/\OU c (w1.setCell (Nv p 3) u) j d/\Ap c.R w.heap.size w (w1.setCell (Nv p 3) u):=by
 have hset:∀ b,b≠p->(w1.setCell (Nv p 3) u).heap[b]? = w1.heap[b]?:=fun b D=>Below.heap_setCell w1 (Nv p 3) _ b D;have aZ:Below w.heap.size w1 (w1.setCell (Nv p 3) u):=P8.setCell (p:=(Nv p 3)) ez.low _;refine⟨?_,cR.ap aZ nN,dK.trans (Ap.of aZ)⟩;rw[List.append_nil];refine⟨p,u,ps,rfl,ez.low,by rw[heap_set ez.blk];rfl,?_,ez.own,NT.later (fun b D _=>hset b D.2.1) _ _ ez.kids⟩
 exact Qs (I:=fun b=>b≠p) (fun b D _=>hset b D) (fun g hg e=>ez.own (by rw[hg,e])) ez.row
theorem aCT {c:Ctx}{w w1 ao:Ny}{j d:Nat}{t:Tr}{gj:List Tr}{p g cap m:Nat}{u:NP}{ps dR:List Nat}(ez:Open w.heap.size w1 t p u ps)(ac:NT (fun b=>w.heap.size<=b/\b≠p/\u.ownBlock≠some b) w1 (t.kids++gj) (ps++dR))(cR:OU c w1 j d)(dK:Ap c.R w.heap.size w w1)(nN:c.lo<=w.heap.size)
  (hown:ao.ownsRow w.heap.size 22 1 (.slice (some (Nv g 0)) m cap) m (ps.map Nu++dR.map Nu)) (aV:m=ps.length+dR.length) (db:w1.grownBy ao u.ownBlock) (hg:u.ownBlock=some g\/g=w1.heap.size) :
  EV w.heap.size (ao.setCell (Nv p 3) (.slice (some (Nv g 0)) m cap)) (.mk t.kd t.tx t.n (t.kids++gj)) (Nu p) /\
  OU c (ao.setCell (Nv p 3) (.slice (some (Nv g 0)) m cap)) j d /\
  Ap c.R w.heap.size w (ao.setCell (Nv p 3) (.slice (some (Nv g 0)) m cap)):=by
 have hrow:∀ k,u.ownBlock=some k->w.heap.size<=k:=fun k E=>(O9 ez.row k E).2;have hgrow:Below w.heap.size w1 ao:=(Below.refl w.heap.size w1).grown db dK.size hrow;have hset:Below w.heap.size w1 (ao.setCell (Nv p 3) (.slice (some (Nv g 0)) m cap)):=hgrow.setCell (p:=(Nv p 3)) ez.low _;refine⟨?_,cR.ap hset nN,dK.trans (Ap.of hset)⟩;exact ajf ez.low ez.blk ez.own ac (by rw[List.map_append];exact hown) (by rw[aV,List.length_append]) db hg
theorem aCv:UE 348:=fun _ _=>by kernel_rfl
theorem aCw:UE 349:=fun _ _=>by kernel_rfl
theorem LV.many {B:Nat}{w:Ny}{am:List Tr}{v:NP}(h:LV B w am v)(ci:am≠[]):∃ g cap dR,v=.slice (some (Nv g 0)) am.length cap/\dR.length=am.length/\NT (From B) w am dR/\(∀ j u,(dR.map Nu)[j]? = some u->w.cell? (((Nv g 0):Addr).add j)=some u):=by
 obtain⟨⟨dR,U,E⟩,_,_⟩:=h;have hl:=NT.length _ _ E;have al:0<dR.length:=by rw[hl];exact List.length_pos_iff.2 ci
 obtain⟨g,cap,ap,ai⟩:=VQ U al;refine⟨g,cap,dR,by rw[ap,hl],hl,NT.mono (fun b D _=>D.1) _ _ E,fun j u aT=>?_⟩;rw[Addr.add_mid,Nat.zero_add];rw[List.getElem?_map] at aT
 cases ag:dR[j]? with
 | none=>rw[ag] at aT;cases aT
 | some q=>
  rw[ag] at aT;obtain⟨aQ,au⟩:=List.getElem?_eq_some_iff.1 ag;rw[ai j aQ,au];exact aT
theorem aq6 (dR:List Nat):∀ u ∈ dR.map Nu,u.oneCell'=true:=by
 intro u aO;obtain⟨q,_,rfl⟩:=List.mem_map.1 aO;rfl
theorem Open.cap {B:Nat}{w:Ny}{t:Tr}{p:Nat}{cT:Option Addr}{n uc:Nat}{ps:List Nat}(h:Open B w t p (.slice cT n uc) ps)(al:0<t.kids.length):n<=uc/\∃ g,cT=some (Nv g 0):=by
 have hl:=NT.length _ _ h.kids
 rcases h.row.2 with aA|⟨g,cap,cl,ap,_,_,h1,_⟩
 ·omega
 ·simp only[Value.slice.injEq] at ap;obtain⟨rfl,rfl,rfl⟩:=ap;exact⟨h1,g,rfl⟩
theorem ak1 {c:Ctx}{F:Rq}(ak:FC c F)(hN:∃ k,FNx c.l k F)(A:FOk F):Does c 333 NV (TT c.l F):=by
 have im:=PU c.R 348;have D7:=PU c.R 349;intro w d i r ae aM h;have i1:=hide h.base.size;have dw:=h.base.ends;have dV:=hide h.base.len;obtain⟨i0,d2,dH,b6,cq⟩:=info_parts info22;have ny:=hide hN;have z:=kk (∀{G}(h:G:=by
 unfold TT at ae;have ba:=hide ae;have dr:=hide aM;clear h ae aM;go_enter func333,ntmps333
 cases U:Uz c.l F d i with
 | out=>
  exact QA
 | bad er p=>
  have ah:=(acX ak hN A w d i _ rfl (by rw[U];nofun) bD)
  exact Z5
 | ok cj bW=>
  have ah:=(acX ak hN A w d i _ rfl (by rw[U];nofun) bD)
  have z:=kk (∀{G}(h:G:=by
  intro e w1 al;obtain⟨⟨v1,rfl,p1,rfl,gG⟩,a8,aw⟩:=al;have eo:=(fA.next aw);have bJ:=a8;have eg:=(Q7 gG fA.size);clear aw;clear hN A;go_wp2_with fail
  go_loopw [3] (fun v wr=>∃ k t j p,v=Nu p/\QS c.l F d k t j=r/\OU c wr j d/\Ap c.R w.heap.size w wr/\O7 (From w.heap.size) wr t p) (fun _ wr=>c.l.length - nxt c wr)
  case atStart=>exact⟨F.fuel,cj,bW,p1,rfl,ba.out,bJ,eo,eg⟩
  case round=>
   obtain⟨k,t,j,aW,rfl,ag,a8,gv,fd⟩:=hrel
   cases k with
   | zero=>exact absurd ag.symm dr.out
   | succ k=>
    have GE:=a8;have oh:=a8;have m5:=a8.lt;have dz:=Ns dV;unfold QS at ag;have ba:=hide ag;have ah:=(QV c wr j d a8);clear ag
    by_cases ac:fx c.l j=apf
    ·rw[if_pos ac] at ba;have sf:((fx c.l j).toList==[46])=true:=UW (b:=apf) rfl ac;have ay:=Vk dw m5 ac NH;clear ac;have z:=kk (∀{G}(h:G:=by
     have f7:=jY.c1;have g7:=jY.fz;have dP:=jY.YV;obtain⟨oW,j3⟩:=stepped jY jw ay;replace fd:=hide (QW (c:=c) fd (Ap.setCell (R:=c.R) (Ap.refl _ _ _) (p:=(Nv c.R 1)) (Or.inr rfl) (Nr ((j:Int)+1))) bS.out)
     cases U:nameP c.l (j+1) with
     | out=>
      exact QA
     | bad er p=>
      have ah:=(name_any c (dM.setCell (Nv c.R 1) (Nr ((j:Int)+1))) (j+1) d oW);rw[U] at ah ba;simp only[OE] at ba;clear U;have z:=kk (∀{G}(h:G:=by
      exact⟨rfl,Pn ba.out.symm (j3.next aw)⟩),G);exact WE
     | ok dD cK=>
      have kR:=((Uj (q:=True) dw ay).2 _ _ U).1;have ah:=(name_any c (dM.setCell (Nv c.R 1) (Nr ((j:Int)+1))) (j+1) d oW);have z:=kk (∀{G}(h:G:=by
      intro e w2 al;obtain⟨⟨v2,rfl,rfl⟩,a8,aw⟩:=al;have ec:=(j3.next aw);have bj:=a8;replace fd:=hide (QW fd aw bS.out);clear aw;have hlt2:=bj.lt;have ah:=(OT 36 dD (.slice (some (Nv w2.heap.size 0)) 1 1) (w2.alloc (.cells #[Nu aW] 22)) ⟨_,_,_,rfl⟩);go_wp2_with fail;refine cm ah ?_;rintro e e9 ⟨rfl,rfl⟩;obtain⟨cO,cP,c'⟩:=made bj ec (NT.cons fd NT.nil) (by simp[maxLen]) #[Nu aW] rfl 1 rfl 36 dD (w2.heap.size+1) rfl;obtain⟨sR,rq,vV⟩:=cO.nv;have gK:sR=w2.heap.size+1:=by simpa[Nu] using rq.symm
      subst gK;have jB:=vV;have dj:=cP;have jC:=c';clear rq;go_wp2_with fail
      go_roundw
      case rel=>exact⟨k,.mk 36 dD 0 [t],cK,w2.heap.size+1,by simp,ba.out,dj,jC,jB⟩
      case measure=>rw[TF dj,TF oh];omega),G);exact WH),G);exact avD
    ·rw[if_neg ac] at ba;have sf:((fx c.l j).toList==[46])=false:=Uw (b:=apf) rfl ac;clear ac
     by_cases hy:fx c.l j=Qi
     ·rw[if_pos hy] at ba;have Hk:((fx c.l j).toList==[40])=true:=UW (b:=Qi) rfl hy;clear hy;have z:=kk (∀{G}(h:G:=by
      have ah:=(OT 35 NC (.slice (some (Nv dM.heap.size 0)) 1 1) (dM.alloc (.cells #[Nu aW] 22)) ⟨_,_,_,rfl⟩);go_wp2_with fail;refine cm ah ?_;rintro e BL ⟨rfl,rfl⟩;obtain⟨cO,cP,c'⟩:=made jY jw (NT.cons fd NT.nil) (by simp[maxLen]) #[Nu aW] rfl 1 rfl 35 NC (dM.heap.size+1) rfl;obtain⟨t0,jN⟩:=xE (.mk 35 NC 0 [t]:Tr);rw[<-jN] at cO;have jA:Hid (t0.kids.length=1):=by
       show _=_
       rw[jN];rfl
      have pf:=hide jN;obtain⟨ia,hz,BA,gK,ek⟩:=cO.opens;have iG:ia=dM.heap.size+1:=by simpa[Nu] using gK.symm
      rw[iG] at ek;have jE:=cP;have j8:=c';clear gK jN;obtain⟨e9,iq⟩:=xE ((dM.alloc (.cells #[Nu aW] 22)).alloc (OA 35 NC 0 (.slice (some (Nv dM.heap.size 0)) 1 1)));rw[<-iq] at ek jE j8;rw[<-iG] at ek;rw[show (dM.alloc (.cells #[Nu aW] 22)).heap.size=ia by rw[iG];simp,<-iq]
      clear iq iG;have z:=kk (∀{G}(h:G:=by
      obtain⟨kkq,cM⟩:=Ns ny
      cases U:Vh c.l Qi RJ (isVal c.l) (aeN c.l F d) F.fuel j with
      | out=>
       exact QA
      | bad er p=>
       have z:=kk (∀{G}(h:G:=by
       rw[U] at ah ba;simp only[OE] at ba;have z:=kk (∀{G}(h:G:=by
       refine wr2 4 10 (fun K A=>?_) fun K A=>?_
       ·go_simp;refine A _ _ ?_;clear A K;refine P6 10 fun K A=>?_;exact aqR
       ·exact aqR),G);exact aB5),G);exact aCu
      | ok gj cK=>
       have z:=kk (∀{G}(h:G:=by
       have kR:=((Yt (q:=False) dw m5 NH NH (fun h=>h.elim) (fun bW _ h1=>adb cM h1 (fun h=>h.elim))).2 _ _ U).1;rw[U] at ah ba;simp only[bind_ok] at ba;have z:=kk (∀{G}(h:G:=by
       refine wr2 4 10 (fun K A=>?_) fun K A=>?_
       ·go_simp;refine A _ _ ?_;clear A K;refine P6 10 fun K A=>?_;have z:=kk (∀{G}(h:G:=by
        clear aw;exact aCR),G);exact aB6
       ·have z:=kk (∀{G}(h:G:=by
        clear aw;refine A _ _ ?_;clear A K;refine P6 4 fun K A=>?_;go_simp;exact aCR),G);exact aB6),G);exact aB5),G);exact aCu),G);exact anX),G);exact avD
     ·rw[if_neg hy] at ba;have Hk:((fx c.l j).toList==[40])=false:=Uw (b:=Qi) rfl hy;clear hy;have z:=kk (∀{G}(h:G:=by
      go_wp2_with fail;go_ret;exact RG ba.out.symm ⟨aW,rfl,fd⟩ jY jw),G);exact avD),G);exact WH),G);exact ahS
end Go.Proofs.YticfnaiehdpbmaaGreatDoor
