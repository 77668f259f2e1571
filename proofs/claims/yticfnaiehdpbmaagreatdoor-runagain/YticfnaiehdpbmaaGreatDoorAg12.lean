import Derived.Test.YticfnaiehdpbmaaGreatDoorAg10
set_option maxRecDepth 100000
set_option maxHeartbeats 8000000
set_option linter.unusedVariables false
namespace Go.Proofs.YticfnaiehdpbmaaGreatDoor
open Go.RowKit Go.Proofs.Tryz
theorem UQ {c:Ctx}{F:Rq}(w:Ny)(d i:Nat)(aM:Rh c.l F i≠.out)(h:OU c w i d):NK 226 #[Ov c] w (Pm c w d (NV w.heap.size) (Rh c.l F i)):=
 ahZ (F:=F) w d i _ rfl aM h
section
variable {c:Ctx} {F:Rq} (ak:FC c F) (hN:∃ k,FNx c.l k F) (A:FOk F)
include c F ak hN A
theorem aol:Does c 148 NV (Yq c.l F):=by
 have z:=kk (∀{G}(h:G:=by
 unfold Yq QO at ae;have ba:=hide ae;have dr:=hide aM;clear ae aM;go_enter func148,ntmps148
 cases U:OD c.l Ol i with
 | out=>
  exact QA
 | bad er p=>
  have ah:=(Oz c Ol w i d h NH);exact Z5
 | ok cj bW=>
  have ah:=(Oz c Ol w i d h NH);have z:=kk (∀{G}(h:G:=by
  have z:=kk (∀{G}(h:G:=by
  have bJ:=a8;clear h
  cases U:nameP c.l bW with
  | out=>
   exact QA
  | bad er p=>
   have ah:=(name_any c w1 bW d bJ);exact anP
  | ok dD cK=>
   have ah:=(name_any c w1 bW d bJ);have z:=kk (∀{G}(h:G:=by
   intro e w2 al;obtain⟨⟨v2,rfl,rfl⟩,a8,aw⟩:=al;have ec:=(eo.next aw);have bj:=a8
   cases U:Rh c.l F cK with
   | out=>
    exact QA
   | bad er p=>
    have ah:=(UQ (F:=F) w2 d cK (by rw[U];nofun) bj)
    exact anO
   | ok jg h'=>
    have ah:=(UQ (F:=F) w2 d cK (by rw[U];nofun) bj)
    have z:=kk (∀{G}(h:G:=by
    have z:=kk (∀{G}(h:G:=by
    cases U:Pj c.l F d h' with
    | out=>
     exact QA
    | bad er p=>
     exact aBu
    | ok tb EK=>
     have dS:=(Vt A U);have ah:=(Qc ak hN ao d h' _ rfl (by rw[U];nofun) c8)
     have z:=kk (∀{G}(h:G:=by
     intro e fq al;obtain⟨⟨vb,rfl,aA⟩,a8,aw⟩:=al;have rG:=(ji.next aw);have z:=kk (∀{G}(h:G:=by
     have fN:=(a8.ap fw c8.base.size);have z:=kk (∀{G}(h:G:=by
     have ah:=(OT 5 dD (.slice (some (Nv aD.heap.size 0)) 2 2) (aD.alloc (.cells #[Nu cL,Nu bc] 22)) ⟨_,_,_,rfl⟩);have z:=kk (∀{G}(h:G:=by
     obtain⟨cO,cP,c'⟩:=made fN e0 (NT.pair (I:=From w.heap.size) nx rV) (by simp[maxLen]) #[Nu cL,Nu bc] rfl 2 rfl 5 dD (aD.heap.size+1) rfl;exact RG ba.out.symm cO.nv cP c'),G);exact Zq),G);exact aCg),G);exact aB8),G);exact WH),G);exact aCc),G);exact WH),G);exact WH),G);exact afW),G);exact WH),G);exact afX
theorem ah1:Does c 157 NV (UK c.l F):=by
 have z:=kk (∀{G}(h:G:=by
 unfold UK QO at ae;have ba:=hide ae;have dr:=hide aM;clear ae aM;go_enter func157,ntmps157
 cases U:OD c.l Ol i with
 | out=>
  exact QA
 | bad er p=>
  have ah:=(Oz c Ol w i d h NH);exact Z5
 | ok cj bW=>
  have ah:=(Oz c Ol w i d h NH);have z:=kk (∀{G}(h:G:=by
  have z:=kk (∀{G}(h:G:=by
  have bJ:=a8;clear h;have ah:=(Yc c w1 bW d bJ)
  cases D:isName c.l bW with
  | true=>
   rw[D] at ah ba;rw[if_pos rfl] at ba;clear D;go_wp2_with fail;refine cm ah ?_;rintro e fy ⟨rfl,jI⟩;have lx:=(eo.next (Ap.of jI));have eN:=(bJ.later jI)
   cases U:nameP c.l bW with
   | out=>
    exact QA
   | bad er p=>
    have ah:=(name_any c fy bW d eN);exact avr
   | ok dD cK=>
    have ah:=(name_any c fy bW d eN);have z:=kk (∀{G}(h:G:=by
    intro e w2 al;obtain⟨⟨v2,rfl,rfl⟩,a8,aw⟩:=al;have ec:=(lx.next aw);have bj:=a8
    cases U:Rh c.l F cK with
    | out=>
     exact QA
    | bad er p=>
     have ah:=(UQ (F:=F) w2 d cK (by rw[U];nofun) bj)
     exact anO
    | ok jg h'=>
     have ah:=(UQ (F:=F) w2 d cK (by rw[U];nofun) bj)
     have z:=kk (∀{G}(h:G:=by
     have z:=kk (∀{G}(h:G:=by
     cases U:Pj c.l F d h' with
     | out=>
      exact QA
     | bad er p=>
      exact aBu
     | ok tb EK=>
      have dS:=(Vt A U);have ah:=(Qc ak hN ao d h' _ rfl (by rw[U];nofun) c8)
      have z:=kk (∀{G}(h:G:=by
      intro e fq al;obtain⟨⟨vb,rfl,aA⟩,a8,aw⟩:=al;have rG:=(ji.next aw);have uT:=a8;have z:=kk (∀{G}(h:G:=by
      have fN:=(uT.ap fw c8.base.size);have z:=kk (∀{G}(h:G:=by
      have ah:=(OT 37 dD (.slice (some (Nv aD.heap.size 0)) 2 2) (aD.alloc (.cells #[Nu cL,Nu bc] 22)) ⟨_,_,_,rfl⟩);have z:=kk (∀{G}(h:G:=by
      obtain⟨cO,cP,c'⟩:=made fN e0 (NT.pair (I:=From w.heap.size) nx rV) (by simp[maxLen]) #[Nu cL,Nu bc] rfl 2 rfl 37 dD (aD.heap.size+1) rfl;exact RG ba.out.symm cO.nv cP c'),G);exact Zq),G);exact aCg),G);exact aB8),G);exact WH),G);exact aCc),G);exact WH),G);exact WH
  | false=>
   rw[D] at ah ba;rw[if_neg NH] at ba;clear D;go_wp2_with fail;refine cm ah ?_;rintro e fy ⟨rfl,jI⟩;have lx:=(eo.next (Ap.of jI));have eN:=(bJ.later jI)
   cases U:Rh c.l F bW with
   | out=>
    exact QA
   | bad er p=>
    have ah:=(UQ (F:=F) fy d bW (by rw[U];nofun) eN)
    exact avr
   | ok dD cK=>
    have ah:=(UQ (F:=F) fy d bW (by rw[U];nofun) eN)
    have z:=kk (∀{G}(h:G:=by
    intro e w2 al;obtain⟨⟨v2,rfl,cr,rfl,kl⟩,a8,aw⟩:=al;have ec:=(lx.next aw);have bj:=a8;have jX:=(Q7 kl lx.size);have nx:=(O7.mono (J:=fun b=>w.heap.size<=b/\b<w2.heap.size) (fun _ D hl=>⟨D,hl⟩) _ _ jX)
    cases U:Pj c.l F d cK with
    | out=>
     exact QA
    | bad er p=>
     have ah:=(Qc ak hN w2 d cK _ rfl (by rw[U];nofun) bj)
     exact anO
    | ok tb EK=>
     have dS:=(Vt A U);have ah:=(Qc ak hN w2 d cK _ rfl (by rw[U];nofun) bj)
     have z:=kk (∀{G}(h:G:=by
     intro e fq al;obtain⟨⟨vb,rfl,aA⟩,a8,aw⟩:=al;have rG:=(ec.next aw);have uT:=a8;have F4:=hide bS.out;replace nx:=(O7.later (fun b D _=>aw.block b D.2 (by have h1:=Ns bS;have O:=D.1;omega)) _ _ nx)
     have ah:=(W9 w2.heap.size tb vb fq aA dS);go_wp2_with fail;refine cm ah ?_;rintro e aD ⟨rfl,br,fw⟩;have e0:=(rG.trans ((Ap.of fw).mono ec.size));have fN:=(uT.ap fw bj.base.size);replace nx:=(O7.later (fun b D _=>fw.block b D.2) _ _ nx);obtain⟨bc,rfl,fl⟩:=br.nv;have rV:=(O7.mono (J:=fun b=>From w.heap.size b/\w2.heap.size<=b) (fun _ D _=>⟨Nat.le_trans ec.size D,D⟩) _ _ fl);have ah:=(OT 37 NC (.slice (some (Nv aD.heap.size 0)) 2 2) (aD.alloc (.cells #[Nu cr,Nu bc] 22)) ⟨_,_,_,rfl⟩)
     have z:=kk (∀{G}(h:G:=by
     obtain⟨cO,cP,c'⟩:=made fN e0 (NT.pair (I:=From w.heap.size) nx rV) (by simp[maxLen]) #[Nu cr,Nu bc] rfl 2 rfl 37 NC (aD.heap.size+1) rfl;exact RG ba.out.symm cO.nv cP c'),G);exact Zq),G);exact WH),G);exact WH),G);exact afW),G);exact WH),G);exact afX
end
theorem aje {c:Ctx}{w W:Ny}{j d:Nat}(cR:OU c W j d)(dK:Ap c.R w.heap.size w W)(kd:Int)(tx:NR)(n:Int)(q:Nat)(ag:q=W.heap.size) :
  NV w.heap.size (W.alloc (OA kd tx n PG)) (.mk kd tx n []) (Nu q)/\OU c (W.alloc (OA kd tx n PG)) j d/\Ap c.R w.heap.size w (W.alloc (OA kd tx n PG)):=by
 subst ag;exact⟨(EV.new (KV.nil _ _) dK.size kd tx n).nv,cR.alloc _,dK.alloc dK.size _⟩
theorem stepped {c:Ctx}{w W:Ny}{i d:Nat}(cR:OU c W i d)(dK:Ap c.R w.heap.size w W)(aT:i+1<c.l.length) :
  OU c (W.setCell (Nv c.R 1) (Nr ((i:Int)+1))) (i+1) d/\Ap c.R w.heap.size w (W.setCell (Nv c.R 1) (Nr ((i:Int)+1))):=
 ⟨cR.go2 (i+1) aT Nw,dK.setCell (p:=(Nv c.R 1)) (Or.inr rfl) _⟩
theorem ad8 {c:Ctx}(f:Nat)(js:UE f)(w:Ny)(d i:Nat)(r:PR Tr)(aM:r≠.out)(q:Nat)(ag:PZ Rf (fx c.l i)=some q)(aG:aeE q=f)(al:∀ W,OU c W i d->NK f #[Ov c] W (Pm c W d (NV W.heap.size) r))(h:OU c w i d) :
  NK 347 #[Ov c] w (Pm c w d (NV w.heap.size) r):=by
 have dV:Hid (∀ W:Ny,OU c W i d->(Instr.lookup 231 (.map (some c.mV)) (ND (fx c.l i)) true).run prog W=.ok (.tuple #[.func (.func f) #[NM c.R 0] #[],NI true]) W):=fun W a6=>by
  have:=acO c (fx c.l i) W a6.base.vals;rw[ag] at this;simp only[aCV,aG] at this;exact this
 have bD:=h;have fA:=(Ap.refl c.R w.heap.size w);have HP:=hide al;have bS:=hide h.YV;have dr:=hide aM;clear h aM ag aG al;go_enter func347,ntmps347;have z:=kk (∀{G}(h:G:=by
 refine wh 0 (Ov c) bD.drew ?_;refine wh 1 (Ov c) bD.drew ?_;refine wh 2 (NM c.R 5) bD.drew ?_;refine wg 3 (.map (some c.mV)) rfl (Or.inl ⟨by kernel_rfl,fun W a6=>by have hh:=OU.c5 a6;go_simp⟩) bD.drew ?_
 exact aA9),G);exact Z7
theorem arp {c:Ctx}(w:Ny)(d i:Nat)(x:Sg)(ag:PZ Rf (fx c.l i)=none)(e6:YR 0 (fx c.l i)=some x)(h:OU c w i d):NK 347 #[Ov c] w (Pm c w d (NV w.heap.size) (.ok (.mk x.kd NC 0 []) (i+1))):=by
 have z:=kk (∀{G}(h:G:=by
 have n9:=hide (Y4 h.base.ends h.lt e6);clear e6;clear h;go_enter func347,ntmps347;have z:=kk (∀{G}(h:G:=by
 have bP:=kk (∀{G}(h:G:=by
 have z:=kk (∀{G}(h:G:=by
 have ah:=(U9 c 0 fy i d eN);have z:=kk (∀{G}(h:G:=by
 have o':=(lx.next (Ap.of nJ));have l3:=(eN.later nJ);have z:=kk (∀{G}(h:G:=by
 have pJ:(bf.alloc (.cells #[ND x.tx,Nr x.kd,Nr x.parts,Nr x.str] 275)).heap[bf.heap.size]? = some (.cells #[ND x.tx,Nr x.kd,Nr x.parts,Nr x.str] 275):=NG _ _;have ti:=hide pJ;clear pJ;have ah:=(QF c (bf.alloc (.cells #[ND x.tx,Nr x.kd,Nr x.parts,Nr x.str] 275)) i d qX);have bP:=kk (∀{G}(h:G:=by
 clear nW;have z:=kk (∀{G}(h:G:=by
 have ay:=Ns n9;obtain⟨oW,j3⟩:=stepped p8 qN ay;have dS:=hide (aje (oW.alloc (.cells #[Nr (Ox c.l i).kd,ND (Ox c.l i).tx,Nr (Ox c.l i).n,Nr ((Ox c.l i).pl:Int)] 144)) (j3.alloc j3.size (.cells #[Nr (Ox c.l i).kd,ND (Ox c.l i).tx,Nr (Ox c.l i).n,Nr ((Ox c.l i).pl:Int)] 144)) x.kd NC 0 (wt.heap.size+1) Oq);have ah:=(OT x.kd NC PG (wt.alloc (.cells #[Nr (Ox c.l i).kd,ND (Ox c.l i).tx,Nr (Ox c.l i).n,Nr ((Ox c.l i).pl:Int)] 144)) ⟨_,_,_,rfl⟩);exact aqQ),G);exact aBV),G);exact ztn),G);exact aCy),G);exact aq2),G);exact zsu),G);exact aBJ),G);exact Z7),G);exact anS
section
variable {c:Ctx} (w:Ny) (d i:Nat) (ag:PZ Rf (fx c.l i)=none) (e6:YR 0 (fx c.l i)=none)
include c w d i ag e6
theorem arq (E:(Ox c.l i).kd=1)(h:OU c w i d):NK 347 #[Ov c] w (Pm c w d (NV w.heap.size) (.ok (.mk 23 (Ox c.l i).tx 0 []) (i+1))):=by
 have z:=kk (∀{G}(h:G:=by
 clear e6;have n9:=hide (Ud h.base.ends h.lt (by rw[E];decide))
 have dl:((Ox c.l i).kd==1)=true:=by rw[E];decide
 have ot:((Ox c.l i).kd==4)=false:=by rw[E];decide
 have em:((Ox c.l i).kd==3)=false:=by rw[E];decide
 clear E;have z:=kk (∀{G}(h:G:=by
 have ay:=Ns n9;obtain⟨oW,j3⟩:=stepped p8 qN ay;have dS:=hide (aje (oW.alloc (.cells #[Nr (Ox c.l i).kd,ND (Ox c.l i).tx,Nr (Ox c.l i).n,Nr ((Ox c.l i).pl:Int)] 144)) (j3.alloc j3.size (.cells #[Nr (Ox c.l i).kd,ND (Ox c.l i).tx,Nr (Ox c.l i).n,Nr ((Ox c.l i).pl:Int)] 144)) 23 (Ox c.l i).tx 0 (wt.heap.size+1) Oq);have ah:=(OT 23 (Ox c.l i).tx PG (wt.alloc (.cells #[Nr (Ox c.l i).kd,ND (Ox c.l i).tx,Nr (Ox c.l i).n,Nr ((Ox c.l i).pl:Int)] 144)) ⟨_,_,_,rfl⟩);exact aqQ),G);exact zsh),G);exact anS
theorem avZ (E:(Ox c.l i).kd=4)(h:OU c w i d):NK 347 #[Ov c] w (Pm c w d (NV w.heap.size) (.ok (.mk 18 (Ox c.l i).tx 0 []) (i+1))):=by
 have z:=kk (∀{G}(h:G:=by
 clear e6;have n9:=hide (Ud h.base.ends h.lt (by rw[E];decide))
 have dl:((Ox c.l i).kd==1)=false:=by rw[E];decide
 have ot:((Ox c.l i).kd==4)=true:=by rw[E];decide
 have em:((Ox c.l i).kd==3)=false:=by rw[E];decide
 clear E;have z:=kk (∀{G}(h:G:=by
 have ay:=Ns n9;obtain⟨oW,j3⟩:=stepped p8 qN ay;have dS:=hide (aje (oW.alloc (.cells #[Nr (Ox c.l i).kd,ND (Ox c.l i).tx,Nr (Ox c.l i).n,Nr ((Ox c.l i).pl:Int)] 144)) (j3.alloc j3.size (.cells #[Nr (Ox c.l i).kd,ND (Ox c.l i).tx,Nr (Ox c.l i).n,Nr ((Ox c.l i).pl:Int)] 144)) 18 (Ox c.l i).tx 0 (wt.heap.size+1) Oq);have ah:=(OT 18 (Ox c.l i).tx PG (wt.alloc (.cells #[Nr (Ox c.l i).kd,ND (Ox c.l i).tx,Nr (Ox c.l i).n,Nr ((Ox c.l i).pl:Int)] 144)) ⟨_,_,_,rfl⟩);exact aqQ),G);exact zsh),G);exact anS
theorem av1 (E:(Ox c.l i).kd=3)(h:OU c w i d):NK 347 #[Ov c] w (Pm c w d (NV w.heap.size) (.ok (.mk 17 NC (Ox c.l i).n []) (i+1))):=by
 have z:=kk (∀{G}(h:G:=by
 clear e6;have n9:=hide (Ud h.base.ends h.lt (by rw[E];decide))
 have dl:((Ox c.l i).kd==1)=false:=by rw[E];decide
 have ot:((Ox c.l i).kd==4)=false:=by rw[E];decide
 have em:((Ox c.l i).kd==3)=true:=by rw[E];decide
 clear E;have z:=kk (∀{G}(h:G:=by
 have ay:=Ns n9;obtain⟨oW,j3⟩:=stepped p8 qN ay;have dS:=hide (aje (oW.alloc (.cells #[Nr (Ox c.l i).kd,ND (Ox c.l i).tx,Nr (Ox c.l i).n,Nr ((Ox c.l i).pl:Int)] 144)) (j3.alloc j3.size (.cells #[Nr (Ox c.l i).kd,ND (Ox c.l i).tx,Nr (Ox c.l i).n,Nr ((Ox c.l i).pl:Int)] 144)) 17 NC (Ox c.l i).n (wt.heap.size+1) Oq);have ah:=(OT 17 NC PG (wt.alloc (.cells #[Nr (Ox c.l i).kd,ND (Ox c.l i).tx,Nr (Ox c.l i).n,Nr ((Ox c.l i).pl:Int)] 144)) ⟨_,_,_,rfl⟩);exact aqQ),G);exact zsh),G);exact anS
theorem av2 (h1:(Ox c.l i).kd≠1)(aU:(Ox c.l i).kd≠4)(ax:(Ox c.l i).kd≠3)(h:OU c w i d):NK 347 #[Ov c] w (Pm c w d (NV w.heap.size) (.bad 3 (Ox c.l i).pl)):=by
 have z:=kk (∀{G}(h:G:=by
 clear e6;have dl:((Ox c.l i).kd==1)=false:=beq_eq_false_iff_ne.2 h1;have ot:((Ox c.l i).kd==4)=false:=beq_eq_false_iff_ne.2 aU;have em:((Ox c.l i).kd==3)=false:=beq_eq_false_iff_ne.2 ax;clear h1 ax aU;have z:=kk (∀{G}(h:G:=by
 have ah:=(TY c 3 (wt.alloc (.cells #[Nr (Ox c.l i).kd,ND (Ox c.l i).tx,Nr (Ox c.l i).n,Nr ((Ox c.l i).pl:Int)] 144)) i d Cu);go_wp2_with fail;refine cm ah ?_;rintro e k1 ⟨rfl,nG⟩;exact⟨rfl,Pn rfl (wU.next (Ap.of nG))⟩),G);exact zsh),G);exact anS
end
theorem aC2:UE 155:=fun _ _=>by kernel_rfl
theorem aC3:UE 156:=fun _ _=>by kernel_rfl
theorem aC4:UE 157:=fun _ _=>by kernel_rfl
theorem aC5 {s:NR}{q:Nat}(h:PZ Rf s=some q):q<3:=by
 unfold PZ at h
 cases aG:Rf.find? (fun e=>decide (s=e.1)) with
 | none=>rw[aG] at h;cases h
 | some e=>
  rw[aG] at h;have aV:=List.mem_of_find?_eq_some aG;simp only[Option.map_some,Option.some.injEq] at h;subst h;simp only[Rf,List.mem_cons,List.not_mem_nil,or_false] at aV
  rcases aV with rfl|rfl|rfl <;> decide
theorem acX {c:Ctx}{F:Rq}(ak:FC c F)(hN:∃ k,FNx c.l k F)(A:FOk F):Does c 347 NV (Uz c.l F):=by
 intro w d i r ae aM h;unfold Uz at ae
 cases ag:PZ Rf (fx c.l i) with
 | some q=>
  have aQ:=aC5 ag;have ax:q=0\/q=1\/q=2:=Nw;rw[ag] at ae
  rcases ax with rfl|rfl|rfl
  ·exact ad8 155 aC2 w d i r aM 0 ag rfl (fun W a6=>Zv ak W d i r ae aM a6) h
  ·exact ad8 156 aC3 w d i r aM 1 ag rfl (fun W a6=>ah0 ak hN W d i r ae aM a6) h
  ·exact ad8 157 aC4 w d i r aM 2 ag rfl (fun W a6=>ah1 ak hN A W d i r ae aM a6) h
 | none=>
  rw[ag] at ae;simp only at ae
  cases hg:YR 0 (fx c.l i) with
  | some x=>
   rw[hg] at ae;subst ae;exact arp w d i x ag hg h
  | none=>
   rw[hg] at ae;simp only at ae
   by_cases h1:(Ox c.l i).kd=1
   ·rw[if_pos h1] at ae;subst ae;exact arq w d i ag hg h1 h
   ·by_cases aU:(Ox c.l i).kd=4
    ·rw[if_neg h1,if_pos aU] at ae;subst ae;exact avZ w d i ag hg aU h
    ·by_cases ax:(Ox c.l i).kd=3
     ·rw[if_neg h1,if_neg aU,if_pos ax] at ae;subst ae;exact av1 w d i ag hg ax h
     ·rw[if_neg h1,if_neg aU,if_neg ax] at ae;subst ae;exact av2 w d i ag hg h1 aU ax h
theorem Yd {c:Ctx}{F:Rq}(ak:FC c F)(w:Ny)(d i:Nat)(r:PR Tr)(E:(Ox c.l i).kd≠6)(ae:RI c.l F d i=r)(aM:r≠.out)(h:OU c w i d):NK 152 #[Ov c] w (Pm c w d (EV w.heap.size) r):=by
 have im:=PU c.R 160;have n':=hide E;clear E;have fA:=(Ap.refl c.R w.heap.size w);have bS:=hide h.YV;unfold RI at ae;have ba:=hide ae;have dr:=hide aM;clear ae aM;go_enter func152,ntmps152;have ah:=(Yw c w i d h n'.out);go_wp2_with fail;refine cm ah ?_;rintro e wk ⟨rfl,iJ,Ag⟩;have sZ:=(fA.next Ag);clear h
 cases U:Tj c.l F d (i+1) with
 | out=>
  exact QA
 | bad er p=>
  have ah:=(Zv ak wk d (i+1) _ rfl (by rw[U];nofun) iJ)
  exact aBy
 | ok cj bW=>
  have ah:=(Zv ak wk d (i+1) _ rfl (by rw[U];nofun) iJ)
  have z:=kk (∀{G}(h:G:=by
  intro e w1 al;obtain⟨⟨v1,rfl,p1,rfl,gG⟩,a8,aw⟩:=al;have eo:=(sZ.next aw);have bJ:=a8;have eg:=(Q7 gG sZ.size)
  cases U:OL c.l F.st d bW with
  | out=>
   exact QA
  | bad er p=>
   have ah:=(ZF ak w1 d bW bJ (by rw[U];nofun))
   exact anP
  | ok dD cK=>
   have ah:=(ZF ak w1 d bW bJ (by rw[U];nofun))
   have z:=kk (∀{G}(h:G:=by
   intro e w2 al;obtain⟨⟨v2,rfl,cr,rfl,kl⟩,a8,aw⟩:=al;have ec:=(eo.next aw);replace eg:=(Zp eg aw bS.out eo.size kl);have ah:=(OT (PD (Ox c.l i).tx) NC (.slice (some (Nv w2.heap.size 0)) 2 2) (w2.alloc (.cells #[Nu p1,Nu cr] 22)) ⟨_,_,_,rfl⟩);have z:=kk (∀{G}(h:G:=by
   obtain⟨cO,cP,c'⟩:=made a8 ec eg (by simp[maxLen]) #[Nu p1,Nu cr] rfl 2 rfl (PD (Ox c.l i).tx) NC (w2.heap.size+1) rfl;exact RG ba.out.symm cO cP c'),G);exact Zq),G);exact WH),G);exact WH
theorem aEP {b:Nat}{w1:Ny}{v0 v1 v2 v3:NP}(aW:w1.heap[b]? = some (.cells #[v0,v1,v2,v3] 144)):ah2 b w1 v0 v1 v2 v3:=
 ⟨by rw[cell_of aW];rfl,by rw[cell_of aW];rfl,by rw[cell_of aW];rfl,by rw[cell_of aW];rfl,QM aW,lt_of_heap aW⟩
theorem akZ {c:Ctx}{F:Rq}(ak:FC c F):Does c 224 NV (UY c.l F):=by
 have im:=PU c.R 224;have z:=kk (∀{G}(h:G:=by
 unfold UY at ae;have ba:=hide ae;have dr:=hide aM;clear ae aM;go_enter func224,ntmps224;have ah:=(QF c w i d h);unfold tkV at ah;go_wp2_with fail;refine cm ah ?_;rintro e wt ⟨rfl,tM⟩;have qN:=(fA.next (Ap.of tM));have p8:=(h.later tM);clear h;have z:=kk (∀{G}(h:G:=by
 have iM:Hid ((wt.alloc (.cells #[Nr (Ox c.l i).kd,ND (Ox c.l i).tx,Nr (Ox c.l i).n,Nr ((Ox c.l i).pl:Int)] 144)).heap[wt.heap.size]? = some (.cells #[Nr (Ox c.l i).kd,ND (Ox c.l i).tx,Nr (Ox c.l i).n,Nr ((Ox c.l i).pl:Int)] 144)):=NG _ _;have r5:Hid (c.R<wt.heap.size):=Nat.lt_of_lt_of_le bS.out qN.size
 cases U:F.pr 2 d i with
 | out=>
  exact QA
 | bad er p=>
  have z:=kk (∀{G}(h:G:=by
  rw[U] at ah ba;simp only[OE] at ba;clear U;have z:=kk (∀{G}(h:G:=by
  exact⟨rfl,Pn ba.out.symm (wU.next aw)⟩),G);exact WE),G);exact aCA
 | ok cj bW=>
  have z:=kk (∀{G}(h:G:=by
  have z:=kk (∀{G}(h:G:=by
  intro e w1 al;obtain⟨⟨v1,rfl,p1,rfl,gG⟩,a8,aw⟩:=al;have eo:=(wU.next aw);have bJ:=a8;have eg:=(Q7 gG wU.size);replace iM:=hide ((aw.block _ (lt_of_heap iM.out) (by have:=Ns r5;omega)).trans iM.out)
  have ah:=(QV c w1 bW d bJ);go_wp2_with fail;refine cm ah ?_;rintro e dM ⟨rfl,xA⟩;have yn:=(eo.next (Ap.of xA));have Cv:=(bJ.later xA);replace eg:=(QW eg (Ap.of xA) bS.out);replace iM:=hide ((xA.block _ (lt_of_heap iM.out)).trans iM.out)
  by_cases ac:fx c.l bW=tEq
  ·rw[if_pos ac] at ba;have sf:((fx c.l bW).toList==[61])=true:=UW (b:=tEq) rfl ac;have CK:=hide ac;have F8:Hid (OD c.l tEq bW=.ok () (bW+1)):=by
    show _=_
    unfold OD;rw[if_pos ac]
   clear ac;obtain⟨g4,dR,oX,_,_⟩:=eg.opens;obtain⟨tC,_,_,_,_⟩:=node_cells oX;clear oX
   by_cases ii:cj.kd=23
   ·have Hc:(cj.kd != 23)=false:=by rw[ii];rfl
    rw[if_pos (Or.inl ii)] at ba;clear ii;exact aCM
   ·have Hc:(cj.kd != 23)=true:=bne_iff_ne.2 ii
    by_cases qf:cj.kd=36
    ·have Hd:(cj.kd != 36)=false:=by rw[qf];rfl
     rw[if_pos (Or.inr qf)] at ba;clear ii qf;exact aCM
    ·have Hd:(cj.kd != 36)=true:=bne_iff_ne.2 qf;rw[if_neg (fun hh=>hh.elim ii qf)] at ba;clear ii qf;obtain⟨t0,nh,t2,t3,tf,tlt⟩:=aEP iM.out;have ah:=(aby c 1 (Ox c.l i) dM);unfold tkV at ah;go_wp2_with fail;refine cm ah ?_;rintro e k1 ⟨rfl,nG⟩;exact⟨rfl,Pn ba.out.symm (yn.next (Ap.of nG))⟩
  ·rw[if_neg ac] at ba;have sf:((fx c.l bW).toList==[61])=false:=Uw (b:=tEq) rfl ac;clear ac;go_wp2_with fail;go_ret;exact RG ba.out.symm ⟨p1,rfl,eg⟩ Cv yn),G);exact WH),G);exact aCA),G);exact aBV),G);exact afX
end Go.Proofs.YticfnaiehdpbmaaGreatDoor
