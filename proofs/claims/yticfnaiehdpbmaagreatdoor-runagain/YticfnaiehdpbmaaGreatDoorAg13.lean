import Derived.Test.YticfnaiehdpbmaaGreatDoorAg10
set_option maxRecDepth 100000
set_option maxHeartbeats 8000000
set_option linter.unusedVariables false
namespace Go.Proofs.YticfnaiehdpbmaaGreatDoor
open Go.RowKit Go.Proofs.Tryz
theorem ah5 {c:Ctx}{F:Rq}(ak:FC c F)(w:Ny)(d i:Nat)(r:PR Tr)(E:(Ox c.l i).kd≠6)(ae:Vj c.l F d i=r)(aM:r≠.out)(h:OU c w i d):NK 153 #[Ov c] w (Pm c w d (NV w.heap.size) r):=by
 have im:=PU c.R 224;have n':=hide E;have z:=kk (∀{G}(h:G:=by
 clear E;have z:=kk (∀{G}(h:G:=by
 unfold Vj at ae;have ba:=hide ae;have dr:=hide aM;clear h ae aM;go_enter func153,ntmps153;have z:=kk (∀{G}(h:G:=by
 have ah:=(OT hd NC PG wk ⟨_,_,_,rfl⟩);go_wp2_with fail;refine cm ah ?_;rintro e BL ⟨rfl,rfl⟩;obtain⟨cO,cP,c'⟩:=ZE iJ sZ (KV.nil _ _) hd NC _ rfl;obtain⟨t0,jN⟩:=xE (.mk hd NC 0 []:Tr);have z:=kk (∀{G}(h:G:=by
 have iG:aW=wk.heap.size:=by simpa[Nu] using gK.symm
 have z:=kk (∀{G}(h:G:=by
 obtain⟨e9,iq⟩:=xE (wk.alloc (OA hd NC 0 PG));rw[<-iq] at ek jE j8 iP tU;rw[<-iG] at ek iP tU;rw[<-iq,<-iG];clear iq iG
 by_cases nF:hd=11
 ·rw[if_pos (Or.inl nF)] at ba;have G':(hd==11)=true:=beq_iff_eq.2 nF;clear nF;have cg:=ek;have z:=kk (∀{G}(h:G:=by
  cases U:OL c.l F.vl d (i+1) with
  | out=>
   exact QA
  | bad er p=>
   have ah:=(Ur ak e9.drew d (i+1) jE.drew (by rw[U];nofun))
   rw[U] at ah ba;simp only[OE] at ba;clear U;go_wp2_with fail;have z:=kk (∀{G}(h:G:=by
   have z:=kk (∀{G}(h:G:=by
   refine wr2 4 8 (fun K A=>?_) fun K A=>?_
   ·go_simp;refine A _ _ ?_;clear A K;refine P6 8 fun K A=>?_;exact aqR
   ·exact aqR),G);exact akL),G);exact Zo
  | ok lu hc=>
   have ah:=(Ur ak e9.drew d (i+1) jE.drew (by rw[U];nofun))
   rw[U] at ah ba;simp only[bind_ok] at ba;clear U;go_wp2_with fail;refine abh (H:=fun aD cw=>Ap c.R e9.heap.size e9 aD/\OU c aD hc d/\O7 (From e9.heap.size) aD lu cw) (G:=?G1) (fun dI=>?_) ?_;rotate_left
   ·have z:=kk (∀{G}(h:G:=by
    have z:=kk (∀{G}(h:G:=by
    refine wr2 4 8 (fun K A=>?_) fun K A=>?_
    ·go_simp;refine A _ _ ?_;clear A K;refine P6 8 fun K A=>?_;have z:=kk (∀{G}(h:G:=by
     have dt:=((Ap.refl c.R e9.heap.size e9).drew).next aw;have kK:Hid (Ap c.R e9.heap.size e9 aD/\OU c aD hc d/\O7 (From e9.heap.size) aD lu cw):=⟨dt,a8,jL⟩;exact avK),G);exact afV
    ·have z:=kk (∀{G}(h:G:=by
     have dt:=((Ap.refl c.R e9.heap.size e9).drew).next aw;have kK:Hid (Ap c.R e9.heap.size e9 aD/\OU c aD hc d/\O7 (From e9.heap.size) aD lu cw):=⟨dt,a8,jL⟩;exact avL),G);exact afV),G);exact akL),G);exact Zo
   intro aD cw cB;obtain⟨dt,a8,jL⟩:=cB;have e0:=(j8.next dt);have fN:=a8;have eC:=(Open.later cg dt bS.out);have mM:=(Open.apart cg j8.size dt bS.out (NT.cons jL NT.nil));obtain⟨gs,gt,hF⟩:=eC.cell;have hlen:=NT.length _ _ eC.kids;have hown:=eC.row;rw[hlen] at hown;have HOWN:=hown;have c9:=e0.size;have cJ:t0.kids.length<=3:=by rw[jA.out];decide
   clear hlen;refine P6 10 fun K A=>?_;refine step_append_lies _ rfl _ _ 38 rfl w.heap.size 22 i0 Qb 1 8 underlying38 d2 dH b6 cq rfl NH _ _ _ rfl (HOWN.alloc _) (Nv aD.heap.size 0) 1 1 [Nu cw] rfl rfl (QE aD cw _ rfl) (one_one cw) NH (by unfold maxLen;omega) Nw Qa (aD.heap.size+1) Oq ?_
   intro g cap ao hown3 eQ c7 _;refine A _ _ ?_;clear A K;have gz:=hide (XU eC mM fN e0 i1.out hown3 eQ c7);have gi:ao.cell? (Nv aW 3)=aD.cell? (Nv aW 3)/\ao.frozen? (Nv aW 3)=aD.frozen? (Nv aW 3):=by
    exact anN
   obtain⟨gI,gJ⟩:=gi;rw[gs] at gI;rw[gt 3] at gJ;clear c7;refine wt 11 (Nu aW) ?_;refine wt 12 (NM aW 3) ?_;refine P6 13 fun K A=>?_;go_simp;refine A _ _ ?_;clear A K gI gJ gs gt hF;refine wpAny_done OJ ?_ _;go_simp;obtain⟨cO,cP,c'⟩:=Ns gz;have jB:=cO;have dj:=cP;have jC:=c'
   cases U:OD c.l O5 hc with
   | out=>
    exact QA
   | bad er p=>
    exact aqP
   | ok cj bW=>
    exact aBo),G);exact anU
 ·have G':(hd==11)=false:=beq_eq_false_iff_ne.2 nF;have ah:=(QV c e9 (i+1) d jE)
  by_cases ac:fx c.l (i+1)=O5
  ·rw[if_neg (fun hh=>hh.elim nF (fun O=>O ac))] at ba;have sf:((fx c.l (i+1)).toList==[59])=true:=UW (b:=O5) rfl ac;clear nF ac;have z:=kk (∀{G}(h:G:=by
   have jB:=cg.ev
   cases U:OD c.l O5 (i+1) with
   | out=>
    exact QA
   | bad er p=>
    have ah:=(Oz c O5 dM (i+1) d jY NH);rw[U] at ah ba;simp only[OE] at ba;clear U;have z:=kk (∀{G}(h:G:=by
    exact⟨rfl,Pn ba.out.symm (jw.next aw)⟩),G);exact WE
   | ok cj bW=>
    have ah:=(Oz c O5 dM (i+1) d jY NH);have z:=kk (∀{G}(h:G:=by
    intro e w1 al;obtain⟨⟨v1,rfl,rfl⟩,a8,aw⟩:=al;have eo:=(jw.next aw);exact aBp),G);exact WH),G);exact aqZ
  ·rw[if_pos (Or.inr ac)] at ba;have sf:((fx c.l (i+1)).toList==[59])=false:=Uw (b:=O5) rfl ac;clear nF ac;have z:=kk (∀{G}(h:G:=by
   have z:=kk (∀{G}(h:G:=by
   cases U:OL c.l F.vl d (i+1) with
   | out=>
    exact QA
   | bad er p=>
    have ah:=(Ur ak dM.drew d (i+1) jY.drew (by rw[U];nofun))
    rw[U] at ah ba;simp only[OE] at ba;clear U;go_wp2_with fail;have z:=kk (∀{G}(h:G:=by
    have z:=kk (∀{G}(h:G:=by
    refine wr2 4 8 (fun K A=>?_) fun K A=>?_
    ·go_simp;refine A _ _ ?_;clear A K;refine P6 8 fun K A=>?_;exact aBF
    ·exact aBF),G);exact akL),G);exact Zo
   | ok lu hc=>
    have ah:=(Ur ak dM.drew d (i+1) jY.drew (by rw[U];nofun))
    rw[U] at ah ba;simp only[bind_ok] at ba;clear U;go_wp2_with fail;refine abh (H:=fun aD cw=>Ap c.R dM.heap.size dM aD/\OU c aD hc d/\O7 (From dM.heap.size) aD lu cw) (G:=?G2) (fun dI=>?_) ?_;rotate_left
    ·have z:=kk (∀{G}(h:G:=by
     have z:=kk (∀{G}(h:G:=by
     refine wr2 4 8 (fun K A=>?_) fun K A=>?_
     ·go_simp;refine A _ _ ?_;clear A K;refine P6 8 fun K A=>?_;have z:=kk (∀{G}(h:G:=by
      have dt:=((Ap.refl c.R dM.heap.size dM).drew).next aw;have kK:Hid (Ap c.R dM.heap.size dM aD/\OU c aD hc d/\O7 (From dM.heap.size) aD lu cw):=⟨dt,a8,jL⟩;exact avK),G);exact afV
     ·have z:=kk (∀{G}(h:G:=by
      have dt:=((Ap.refl c.R dM.heap.size dM).drew).next aw;have kK:Hid (Ap c.R dM.heap.size dM aD/\OU c aD hc d/\O7 (From dM.heap.size) aD lu cw):=⟨dt,a8,jL⟩;exact avL),G);exact afV),G);exact akL),G);exact Zo
    intro aD cw cB;obtain⟨dt,a8,jL⟩:=cB;have e0:=(jw.next dt);have fN:=a8;have eC:=(Open.later cg dt bS.out);have mM:=(Open.apart cg jw.size dt bS.out (NT.cons jL NT.nil));obtain⟨gs,gt,hF⟩:=eC.cell;have hlen:=NT.length _ _ eC.kids;have hown:=eC.row;rw[hlen] at hown;have HOWN:=hown;have c9:=e0.size;have cJ:t0.kids.length<=3:=by rw[jA.out];decide
    clear hlen;refine P6 10 fun K A=>?_;refine step_append_lies _ rfl _ _ 38 rfl w.heap.size 22 i0 Qb 1 8 underlying38 d2 dH b6 cq rfl NH _ _ _ rfl (HOWN.alloc _) (Nv aD.heap.size 0) 1 1 [Nu cw] rfl rfl (QE aD cw _ rfl) (one_one cw) NH (by unfold maxLen;omega) Nw Qa (aD.heap.size+1) Oq ?_
    intro g cap ao hown3 eQ c7 _;refine A _ _ ?_;clear A K;have gz:=hide (XU eC mM fN e0 i1.out hown3 eQ c7);have gi:ao.cell? (Nv aW 3)=aD.cell? (Nv aW 3)/\ao.frozen? (Nv aW 3)=aD.frozen? (Nv aW 3):=by
     exact anN
    obtain⟨gI,gJ⟩:=gi;rw[gs] at gI;rw[gt 3] at gJ;clear c7;refine wt 11 (Nu aW) ?_;refine wt 12 (NM aW 3) ?_;refine P6 13 fun K A=>?_;go_simp;refine A _ _ ?_;clear A K gI gJ gs gt hF;refine wpAny_done OJ ?_ _;go_simp;obtain⟨cO,cP,c'⟩:=Ns gz;have jB:=cO;have dj:=cP;have jC:=c'
    cases U:OD c.l O5 hc with
    | out=>
     exact QA
    | bad er p=>
     exact aqP
    | ok cj bW=>
     exact aBo),G);exact anU),G);exact aqZ),G);exact aCC),G);exact aCk),G);exact aCh),G);exact ahS),G);exact akN
end Go.Proofs.YticfnaiehdpbmaaGreatDoor
