import Derived.Test.YticfnaiehdpbmaaGreatDoorOn4
import Derived.Deep.MidRow
import Derived.Laws.AppendOwnNone
set_option maxRecDepth 100000
set_option maxHeartbeats 8000000
set_option linter.all false
namespace Go.Proofs.YticfnaiehdpbmaaGreatDoor
open Go.RowKit Go.Proofs.Tryz
def V6 {c:Ctx}{F:SX}(w:Ov)(d i:Nat)(aR:QY c.l F i≠.out)(h:PW c w i d):OE 226 #[Pj c] w (Qn c w d (NV w.heap.size) (QY c.l F i)):=
 ajM (F:=F) w d i _ rfl aR h
section
variable {c:Ctx} {F:SX} (ah:FC c F) (hN:∃ k,FNx c.l k F) (A:FOk F)
include c F ah hN A
theorem aqE:Does c 148 NV (V9 c.l F):=by
 intro w d i r ac aR h;have e1:=(Ap.refl c.R w.heap.size w);have bS:=hide h.rlt;unfold V9 Qy at ac;have a':=hide ac;have dw:=hide aR;clear ac aR;go_enter func148,ntmps148
 cases aa:Pm c.l Qm i with
 | out=>
  exact RS
 | bad er p=>
  have ai:=(Pq c Qm w i d h Oz);exact abd
 | ok cp bK=>
  have ai:=(Pq c Qm w i d h Oz);have z:=Oq (∀{G}(h:G:=by
  have z:=Oq (∀{G}(h:G:=by
  have bM:=ba;clear h
  cases aa:nameP c.l bK with
  | out=>
   exact RS
  | bad er p=>
   have ai:=(name_any c w1 bK d bM);exact ap4
  | ok dG b'=>
   have ai:=(name_any c w1 bK d bM);have z:=Oq (∀{G}(h:G:=by
   intro e w2 al;obtain⟨⟨v2,rfl,rfl⟩,ba,ax⟩:=al;have ee:=(ew.next ax);have bj:=ba
   cases aa:QY c.l F b' with
   | out=>
    exact RS
   | bad er p=>
    have ai:=(V6 (F:=F) w2 d b' (by rw[aa];nofun) bj)
    exact ap3
   | ok jk gr=>
    have ai:=(V6 (F:=F) w2 d b' (by rw[aa];nofun) bj)
    have z:=Oq (∀{G}(h:G:=by
    have z:=Oq (∀{G}(h:G:=by
    cases aa:PX c.l F d gr with
    | out=>
     exact RS
    | bad er p=>
     exact aDU
    | ok tb wT=>
     have dQ:=(WV A aa);have ai:=(QZ ah hN ap d gr _ rfl (by rw[aa];nofun) dp)
     have z:=Oq (∀{G}(h:G:=by
     intro e fy al;obtain⟨⟨vb,rfl,az⟩,ba,ax⟩:=al;have rM:=(jm.next ax);have z:=Oq (∀{G}(h:G:=by
     have fS:=(ba.ap f' dp.base.size);have z:=Oq (∀{G}(h:G:=by
     have ai:=(PV 5 dG (.slice (some (Ot aE.heap.size 0)) 2 2) (aE.alloc (.cells #[Oo cX,Oo bf] 22)) ⟨_,_,_,rfl⟩);have z:=Oq (∀{G}(h:G:=by
     obtain⟨cO,cP,df⟩:=made fS e7 (OL.pair (I:=From w.heap.size) nI r2) (by simp[maxLen]) #[Oo cX,Oo bf] rfl 2 rfl 5 dG (aE.heap.size+1) rfl;exact Ue a'.out.symm cO.nv cP df),G);exact aaD),G);exact aEE),G);exact aEx),G);exact XZ),G);exact aEA),G);exact XZ),G);exact XZ),G);exact aht),G);exact XZ
theorem ajO:Does c 157 NV (Ti c.l F):=by
 intro w d i r ac aR h;have e1:=(Ap.refl c.R w.heap.size w);have bS:=hide h.rlt;unfold Ti Qy at ac;have a':=hide ac;have dw:=hide aR;clear ac aR;go_enter func157,ntmps157
 cases aa:Pm c.l Qm i with
 | out=>
  exact RS
 | bad er p=>
  have ai:=(Pq c Qm w i d h Oz);exact abd
 | ok cp bK=>
  have ai:=(Pq c Qm w i d h Oz);have z:=Oq (∀{G}(h:G:=by
  have z:=Oq (∀{G}(h:G:=by
  have bM:=ba;clear h;have ai:=(Zj c w1 bK d bM)
  cases D:isName c.l bK with
  | true=>
   rw[D] at ai a';rw[if_pos rfl] at a';clear D;go_wp2_with fail;refine cm ai ?_;rintro e fA ⟨rfl,jK⟩;have lD:=(ew.next (Ap.of jK));have eW:=(bM.later jK)
   cases aa:nameP c.l bK with
   | out=>
    exact RS
   | bad er p=>
    have ai:=(name_any c fA bK d eW);exact axY
   | ok dG b'=>
    have ai:=(name_any c fA bK d eW);have z:=Oq (∀{G}(h:G:=by
    intro e w2 al;obtain⟨⟨v2,rfl,rfl⟩,ba,ax⟩:=al;have ee:=(lD.next ax);have bj:=ba
    cases aa:QY c.l F b' with
    | out=>
     exact RS
    | bad er p=>
     have ai:=(V6 (F:=F) w2 d b' (by rw[aa];nofun) bj)
     exact ap3
    | ok jk gr=>
     have ai:=(V6 (F:=F) w2 d b' (by rw[aa];nofun) bj)
     have z:=Oq (∀{G}(h:G:=by
     have z:=Oq (∀{G}(h:G:=by
     cases aa:PX c.l F d gr with
     | out=>
      exact RS
     | bad er p=>
      exact aDU
     | ok tb wT=>
      have dQ:=(WV A aa);have ai:=(QZ ah hN ap d gr _ rfl (by rw[aa];nofun) dp)
      have z:=Oq (∀{G}(h:G:=by
      intro e fy al;obtain⟨⟨vb,rfl,az⟩,ba,ax⟩:=al;have rM:=(jm.next ax);have vm:=ba;have Gs:=hide bS.out;have z:=Oq (∀{G}(h:G:=by
      have fS:=(vm.ap f' dp.base.size);have z:=Oq (∀{G}(h:G:=by
      have ai:=(PV 37 dG (.slice (some (Ot aE.heap.size 0)) 2 2) (aE.alloc (.cells #[Oo cX,Oo bf] 22)) ⟨_,_,_,rfl⟩);have z:=Oq (∀{G}(h:G:=by
      obtain⟨cO,cP,df⟩:=made fS e7 (OL.pair (I:=From w.heap.size) nI r2) (by simp[maxLen]) #[Oo cX,Oo bf] rfl 2 rfl 37 dG (aE.heap.size+1) rfl;exact Ue a'.out.symm cO.nv cP df),G);exact aaD),G);exact aEE),G);exact aEx),G);exact XZ),G);exact aEA),G);exact XZ),G);exact XZ
  | false=>
   rw[D] at ai a';rw[if_neg Oz] at a';clear D;go_wp2_with fail;refine cm ai ?_;rintro e fA ⟨rfl,jK⟩;have lD:=(ew.next (Ap.of jK));have eW:=(bM.later jK)
   cases aa:QY c.l F bK with
   | out=>
    exact RS
   | bad er p=>
    have ai:=(V6 (F:=F) fA d bK (by rw[aa];nofun) eW)
    exact axY
   | ok dG b'=>
    have ai:=(V6 (F:=F) fA d bK (by rw[aa];nofun) eW)
    have z:=Oq (∀{G}(h:G:=by
    intro e w2 al;obtain⟨⟨v2,rfl,cK,rfl,kr⟩,ba,ax⟩:=al;have ee:=(lD.next ax);have bj:=ba;have jc:=(TB kr lD.size);have nI:=(Qb.mono (J:=fun b=>w.heap.size<=b/\b<w2.heap.size) (fun _ D hl=>⟨D,hl⟩) _ _ jc)
    cases aa:PX c.l F d b' with
    | out=>
     exact RS
    | bad er p=>
     have ai:=(QZ ah hN w2 d b' _ rfl (by rw[aa];nofun) bj)
     exact ap3
    | ok tb wT=>
     have dQ:=(WV A aa);have ai:=(QZ ah hN w2 d b' _ rfl (by rw[aa];nofun) bj)
     have z:=Oq (∀{G}(h:G:=by
     intro e fy al;obtain⟨⟨vb,rfl,az⟩,ba,ax⟩:=al;have rM:=(ee.next ax);have vm:=ba;have Gs:=hide bS.out;replace nI:=(Qb.later (fun b D _=>ax.block b D.2 (by have h1:=Om bS;have U:=D.1;omega)) _ _ nI)
     have ai:=(Yf w2.heap.size tb vb fy az dQ);go_wp2_with fail;refine cm ai ?_;rintro e aE ⟨rfl,bv,f'⟩;have e7:=(rM.trans ((Ap.of f').mono ee.size));have fS:=(vm.ap f' bj.base.size);replace nI:=(Qb.later (fun b D _=>f'.block b D.2) _ _ nI);obtain⟨bf,rfl,e'⟩:=bv.nv;have r2:=(Qb.mono (J:=fun b=>From w.heap.size b/\w2.heap.size<=b) (fun _ D _=>⟨Nat.le_trans ee.size D,D⟩) _ _ e');have ai:=(PV 37 Ox (.slice (some (Ot aE.heap.size 0)) 2 2) (aE.alloc (.cells #[Oo cK,Oo bf] 22)) ⟨_,_,_,rfl⟩)
     have z:=Oq (∀{G}(h:G:=by
     obtain⟨cO,cP,df⟩:=made fS e7 (OL.pair (I:=From w.heap.size) nI r2) (by simp[maxLen]) #[Oo cK,Oo bf] rfl 2 rfl 37 Ox (aE.heap.size+1) rfl;exact Ue a'.out.symm cO.nv cP df),G);exact aaD),G);exact XZ),G);exact XZ),G);exact aht),G);exact XZ
end
def akY {c:Ctx}{w W:Ov}{j d:Nat}(cE:PW c W j d)(aO:Ap c.R w.heap.size w W)(kd:Int)(tx:OH)(n:Int)(q:Nat)(ag:q=W.heap.size) :
  NV w.heap.size (W.alloc (Px kd tx n QD)) (.mk kd tx n []) (Oo q)/\PW c (W.alloc (Px kd tx n QD)) j d/\Ap c.R w.heap.size w (W.alloc (Px kd tx n QD)):=by
 subst ag;exact⟨(EV.new (KV.nil _ _) aO.size kd tx n).nv,cE.alloc _,aO.alloc aO.size _⟩
def stepped {c:Ctx}{w W:Ov}{i d:Nat}(cE:PW c W i d)(aO:Ap c.R w.heap.size w W)(aN:i+1<c.l.length) :
  PW c (W.setCell (Ot c.R 1) (Ol ((i:Int)+1))) (i+1) d/\Ap c.R w.heap.size w (W.setCell (Ot c.R 1) (Ol ((i:Int)+1))):=
 ⟨cE.go2 (i+1) aN Ou,aO.setCell (p:=(Ot c.R 1)) (Or.inr rfl) _⟩
def afx {c:Ctx}(f:Nat)(jv:VR f)(w:Ov)(d i:Nat)(r:PR Tr)(aR:r≠.out)(q:Nat)(ag:QG SY (fx c.l i)=some q)(aH:afZ q=f)(al:∀ W,PW c W i d->OE f #[Pj c] W (Qn c W d (NV W.heap.size) r))(h:PW c w i d) :
  OE 347 #[Pj c] w (Qn c w d (NV w.heap.size) r):=by
 have dU:Hid (∀ W:Ov,PW c W i d->(Instr.lookup 231 (.map (some c.mV)) (OB (fx c.l i)) true).run prog W=.ok (.tuple #[.func (.func f) #[OM c.R 0] #[],OC true]) W):=fun W a1=>by
  have:=ad8 c (fx c.l i) W a1.base.vals;rw[ag] at this;simp only[aFl,aH] at this;exact this
 have bB:=h;have e1:=(Ap.refl c.R w.heap.size w);have HP:=hide al;have dw:=hide aR;clear h aR ag aH al;go_enter func347,ntmps347;have z:=Oq (∀{G}(h:G:=by
 refine wh 0 (Pj c) bB.drew ?_;refine wh 1 (Pj c) bB.drew ?_;refine wh 2 (OM c.R 5) bB.drew ?_;refine wg 3 (.map (some c.mV)) rfl (Or.inl ⟨by kernel_rfl,fun W a1=>by have hh:=PW.c5 a1;go_simp⟩) bB.drew ?_
 exact aDy),G);exact abe
def aub {c:Ctx}(w:Ov)(d i:Nat)(x:Sg)(ag:QG SY (fx c.l i)=none)(fa:Zn 0 (fx c.l i)=some x)(h:PW c w i d):OE 347 #[Pj c] w (Qn c w d (NV w.heap.size) (.ok (.mk x.kd Ox 0 []) (i+1))):=by
 have z:=Oq (∀{G}(h:G:=by
 have mX:=hide (WS h.base.ends h.lt fa);clear fa;clear h;go_enter func347,ntmps347;have z:=Oq (∀{G}(h:G:=by
 have bN:=Oq (∀{G}(h:G:=by
 have z:=Oq (∀{G}(h:G:=by
 have ai:=(Wy c 0 fA i d eW);have z:=Oq (∀{G}(h:G:=by
 have pg:=(lD.next (Ap.of nU));have mc:=(eW.later nU);have z:=Oq (∀{G}(h:G:=by
 have pR:(aY.alloc (.cells #[OB x.tx,Ol x.kd,Ol x.parts,Ol x.str] 275)).heap[aY.heap.size]? = some (.cells #[OB x.tx,Ol x.kd,Ol x.parts,Ol x.str] 275):=OA _ _;have tz:=hide pR;clear pR;have ai:=(RX c (aY.alloc (.cells #[OB x.tx,Ol x.kd,Ol x.parts,Ol x.str] 275)) i d q0);have bN:=Oq (∀{G}(h:G:=by
 clear n6;have z:=Oq (∀{G}(h:G:=by
 have am:=Om mX;obtain⟨o3,j5⟩:=stepped qd qN am;have dQ:=hide (akY (o3.alloc (.cells #[Ol (O9 c.l i).kd,OB (O9 c.l i).tx,Ol (O9 c.l i).n,Ol ((O9 c.l i).pl:Int)] 144)) (j5.alloc j5.size (.cells #[Ol (O9 c.l i).kd,OB (O9 c.l i).tx,Ol (O9 c.l i).n,Ol ((O9 c.l i).pl:Int)] 144)) x.kd Ox 0 (wt.heap.size+1) O8);have ai:=(PV x.kd Ox QD (wt.alloc (.cells #[Ol (O9 c.l i).kd,OB (O9 c.l i).tx,Ol (O9 c.l i).n,Ol ((O9 c.l i).pl:Int)] 144)) ⟨_,_,_,rfl⟩);exact atr),G);exact aEe),G);exact ztm),G);exact aEX),G);exact atF),G);exact zsu),G);exact aD8),G);exact abe),G);exact ap7
section
variable {c:Ctx} (w:Ov) (d i:Nat) (ag:QG SY (fx c.l i)=none) (fa:Zn 0 (fx c.l i)=none)
include c w d i ag fa
theorem auc (E:(O9 c.l i).kd=1)(h:PW c w i d):OE 347 #[Pj c] w (Qn c w d (NV w.heap.size) (.ok (.mk 23 (O9 c.l i).tx 0 []) (i+1))):=by
 have z:=Oq (∀{G}(h:G:=by
 clear fa;have mX:=hide (TL h.base.ends h.lt (by rw[E];decide))
 have dq:((O9 c.l i).kd==1)=true:=by rw[E];decide
 have oB:((O9 c.l i).kd==4)=false:=by rw[E];decide
 have em:((O9 c.l i).kd==3)=false:=by rw[E];decide
 clear E;have z:=Oq (∀{G}(h:G:=by
 have am:=Om mX;obtain⟨o3,j5⟩:=stepped qd qN am;have dQ:=hide (akY (o3.alloc (.cells #[Ol (O9 c.l i).kd,OB (O9 c.l i).tx,Ol (O9 c.l i).n,Ol ((O9 c.l i).pl:Int)] 144)) (j5.alloc j5.size (.cells #[Ol (O9 c.l i).kd,OB (O9 c.l i).tx,Ol (O9 c.l i).n,Ol ((O9 c.l i).pl:Int)] 144)) 23 (O9 c.l i).tx 0 (wt.heap.size+1) O8);have ai:=(PV 23 (O9 c.l i).tx QD (wt.alloc (.cells #[Ol (O9 c.l i).kd,OB (O9 c.l i).tx,Ol (O9 c.l i).n,Ol ((O9 c.l i).pl:Int)] 144)) ⟨_,_,_,rfl⟩);exact atr),G);exact zsg),G);exact ap7
theorem ayy (E:(O9 c.l i).kd=4)(h:PW c w i d):OE 347 #[Pj c] w (Qn c w d (NV w.heap.size) (.ok (.mk 18 (O9 c.l i).tx 0 []) (i+1))):=by
 have z:=Oq (∀{G}(h:G:=by
 clear fa;have mX:=hide (TL h.base.ends h.lt (by rw[E];decide))
 have dq:((O9 c.l i).kd==1)=false:=by rw[E];decide
 have oB:((O9 c.l i).kd==4)=true:=by rw[E];decide
 have em:((O9 c.l i).kd==3)=false:=by rw[E];decide
 clear E;have z:=Oq (∀{G}(h:G:=by
 have am:=Om mX;obtain⟨o3,j5⟩:=stepped qd qN am;have dQ:=hide (akY (o3.alloc (.cells #[Ol (O9 c.l i).kd,OB (O9 c.l i).tx,Ol (O9 c.l i).n,Ol ((O9 c.l i).pl:Int)] 144)) (j5.alloc j5.size (.cells #[Ol (O9 c.l i).kd,OB (O9 c.l i).tx,Ol (O9 c.l i).n,Ol ((O9 c.l i).pl:Int)] 144)) 18 (O9 c.l i).tx 0 (wt.heap.size+1) O8);have ai:=(PV 18 (O9 c.l i).tx QD (wt.alloc (.cells #[Ol (O9 c.l i).kd,OB (O9 c.l i).tx,Ol (O9 c.l i).n,Ol ((O9 c.l i).pl:Int)] 144)) ⟨_,_,_,rfl⟩);exact atr),G);exact zsg),G);exact ap7
theorem ayz (E:(O9 c.l i).kd=3)(h:PW c w i d):OE 347 #[Pj c] w (Qn c w d (NV w.heap.size) (.ok (.mk 17 Ox (O9 c.l i).n []) (i+1))):=by
 have z:=Oq (∀{G}(h:G:=by
 clear fa;have mX:=hide (TL h.base.ends h.lt (by rw[E];decide))
 have dq:((O9 c.l i).kd==1)=false:=by rw[E];decide
 have oB:((O9 c.l i).kd==4)=false:=by rw[E];decide
 have em:((O9 c.l i).kd==3)=true:=by rw[E];decide
 clear E;have z:=Oq (∀{G}(h:G:=by
 have am:=Om mX;obtain⟨o3,j5⟩:=stepped qd qN am;have dQ:=hide (akY (o3.alloc (.cells #[Ol (O9 c.l i).kd,OB (O9 c.l i).tx,Ol (O9 c.l i).n,Ol ((O9 c.l i).pl:Int)] 144)) (j5.alloc j5.size (.cells #[Ol (O9 c.l i).kd,OB (O9 c.l i).tx,Ol (O9 c.l i).n,Ol ((O9 c.l i).pl:Int)] 144)) 17 Ox (O9 c.l i).n (wt.heap.size+1) O8);have ai:=(PV 17 Ox QD (wt.alloc (.cells #[Ol (O9 c.l i).kd,OB (O9 c.l i).tx,Ol (O9 c.l i).n,Ol ((O9 c.l i).pl:Int)] 144)) ⟨_,_,_,rfl⟩);exact atr),G);exact zsg),G);exact ap7
theorem ayA (h1:(O9 c.l i).kd≠1)(aL:(O9 c.l i).kd≠4)(aw:(O9 c.l i).kd≠3)(h:PW c w i d):OE 347 #[Pj c] w (Qn c w d (NV w.heap.size) (.bad 3 (O9 c.l i).pl)):=by
 have z:=Oq (∀{G}(h:G:=by
 clear fa;have dq:((O9 c.l i).kd==1)=false:=beq_eq_false_iff_ne.2 h1;have oB:((O9 c.l i).kd==4)=false:=beq_eq_false_iff_ne.2 aL;have em:((O9 c.l i).kd==3)=false:=beq_eq_false_iff_ne.2 aw;clear h1 aw aL;have z:=Oq (∀{G}(h:G:=by
 have ai:=(Vq c 3 (wt.alloc (.cells #[Ol (O9 c.l i).kd,OB (O9 c.l i).tx,Ol (O9 c.l i).n,Ol ((O9 c.l i).pl:Int)] 144)) i d CJ);go_wp2_with fail;refine cm ai ?_;rintro e jU ⟨rfl,j4⟩;exact⟨rfl,Qo rfl (xi.next (Ap.of j4))⟩),G);exact zsg),G);exact ap7
end
def aFw:VR 155:=fun _ _=>by kernel_rfl
def aFx:VR 156:=fun _ _=>by kernel_rfl
def aFy:VR 157:=fun _ _=>by kernel_rfl
def aFz {s:OH}{q:Nat}(h:QG SY s=some q):q<3:=by
 unfold QG at h
 cases aH:SY.find? (fun e=>decide (s=e.1)) with
 | none=>rw[aH] at h;cases h
 | some e=>
  rw[aH] at h;have aS:=List.mem_of_find?_eq_some aH;simp only[Option.map_some,Option.some.injEq] at h;subst h;simp only[SY,List.mem_cons,List.not_mem_nil,or_false] at aS
  rcases aS with rfl|rfl|rfl <;> decide
def aeh {c:Ctx}{F:SX}(ah:FC c F)(hN:∃ k,FNx c.l k F)(A:FOk F):Does c 347 NV (SE c.l F):=by
 intro w d i r ac aR h;unfold SE at ac
 cases ag:QG SY (fx c.l i) with
 | some q=>
  have aQ:=aFz ag;have aw:q=0\/q=1\/q=2:=Ou;rw[ag] at ac
  rcases aw with rfl|rfl|rfl
  ·exact afx 155 aFw w d i r aR 0 ag rfl (fun W a1=>aaJ ah W d i r ac aR a1) h
  ·exact afx 156 aFx w d i r aR 1 ag rfl (fun W a1=>ajN ah hN W d i r ac aR a1) h
  ·exact afx 157 aFy w d i r aR 2 ag rfl (fun W a1=>ajO ah hN A W d i r ac aR a1) h
 | none=>
  rw[ag] at ac;simp only at ac
  cases hg:Zn 0 (fx c.l i) with
  | some x=>
   rw[hg] at ac;subst ac;exact aub w d i x ag hg h
  | none=>
   rw[hg] at ac;simp only at ac
   by_cases h1:(O9 c.l i).kd=1
   ·rw[if_pos h1] at ac;subst ac;exact auc w d i ag hg h1 h
   ·by_cases aL:(O9 c.l i).kd=4
    ·rw[if_neg h1,if_pos aL] at ac;subst ac;exact ayy w d i ag hg aL h
    ·by_cases aw:(O9 c.l i).kd=3
     ·rw[if_neg h1,if_neg aL,if_pos aw] at ac;subst ac;exact ayz w d i ag hg aw h
     ·rw[if_neg h1,if_neg aL,if_neg aw] at ac;subst ac;exact ayA w d i ag hg h1 aL aw h
def Zk {c:Ctx}{F:SX}(ah:FC c F)(w:Ov)(d i:Nat)(r:PR Tr)(E:(O9 c.l i).kd≠6)(ac:Rz c.l F d i=r)(aR:r≠.out)(h:PW c w i d):OE 152 #[Pj c] w (Qn c w d (EV w.heap.size) r):=by
 have jx:=RN c.R 160;have op:=hide E;clear E;have e1:=(Ap.refl c.R w.heap.size w);have bS:=hide h.rlt;unfold Rz at ac;have a':=hide ac;have dw:=hide aR;clear ac aR;go_enter func152,ntmps152;have ai:=(ZC c w i d h op.out);go_wp2_with fail;refine cm ai ?_;rintro e wk ⟨rfl,iY,As⟩;have td:=(e1.next As);clear h
 cases aa:SC c.l F d (i+1) with
 | out=>
  exact RS
 | bad er p=>
  have ai:=(aaJ ah wk d (i+1) _ rfl (by rw[aa];nofun) iY)
  exact aDY
 | ok cp bK=>
  have ai:=(aaJ ah wk d (i+1) _ rfl (by rw[aa];nofun) iY)
  have z:=Oq (∀{G}(h:G:=by
  intro e w1 al;obtain⟨⟨v1,rfl,p1,rfl,gL⟩,ba,ax⟩:=al;have ew:=(td.next ax);have bM:=ba;have eh:=(TB gL td.size)
  cases aa:PD c.l F.st d bK with
  | out=>
   exact RS
  | bad er p=>
   have ai:=(aaT ah w1 d bK bM (by rw[aa];nofun))
   exact ap4
  | ok dG b'=>
   have ai:=(aaT ah w1 d bK bM (by rw[aa];nofun))
   have z:=Oq (∀{G}(h:G:=by
   intro e w2 al;obtain⟨⟨v2,rfl,cK,rfl,kr⟩,ba,ax⟩:=al;have ee:=(ew.next ax);replace eh:=(aaC eh ax bS.out ew.size kr);have ai:=(PV (Qu (O9 c.l i).tx) Ox (.slice (some (Ot w2.heap.size 0)) 2 2) (w2.alloc (.cells #[Oo p1,Oo cK] 22)) ⟨_,_,_,rfl⟩);have z:=Oq (∀{G}(h:G:=by
   obtain⟨cO,cP,df⟩:=made ba ee eh (by simp[maxLen]) #[Oo p1,Oo cK] rfl 2 rfl (Qu (O9 c.l i).tx) Ox (w2.heap.size+1) rfl;exact Ue a'.out.symm cO cP df),G);exact aaD),G);exact XZ),G);exact XZ
def aHr {b:Nat}{w1:Ov}{v0 v1 v2 v3:OG}(aZ:w1.heap[b]? = some (.cells #[v0,v1,v2,v3] 144)):ajP b w1 v0 v1 v2 v3:=
 ⟨by rw[cell_of aZ];rfl,by rw[cell_of aZ];rfl,by rw[cell_of aZ];rfl,by rw[cell_of aZ];rfl,Sv aZ,lt_of_heap aZ⟩
def amY {c:Ctx}{F:SX}(ah:FC c F):Does c 224 NV (Tj c.l F):=by
 have z:=Oq (∀{G}(h:G:=by
 have bS:=hide h.rlt;unfold Tj at ac;have a':=hide ac;have dw:=hide aR;clear ac aR;go_enter func224,ntmps224;have ai:=(RX c w i d h);unfold tkV at ai;go_wp2_with fail;refine cm ai ?_;rintro e wt ⟨rfl,tZ⟩;have qN:=(e1.next (Ap.of tZ));have qd:=(h.later tZ);clear h;have z:=Oq (∀{G}(h:G:=by
 have iG:Hid ((wt.alloc (.cells #[Ol (O9 c.l i).kd,OB (O9 c.l i).tx,Ol (O9 c.l i).n,Ol ((O9 c.l i).pl:Int)] 144)).heap[wt.heap.size]? = some (.cells #[Ol (O9 c.l i).kd,OB (O9 c.l i).tx,Ol (O9 c.l i).n,Ol ((O9 c.l i).pl:Int)] 144)):=OA _ _;have sb:Hid (c.R<wt.heap.size):=Nat.lt_of_lt_of_le bS.out qN.size
 cases aa:F.pr 2 d i with
 | out=>
  exact RS
 | bad er p=>
  have z:=Oq (∀{G}(h:G:=by
  rw[aa] at ai a';simp only[PG] at a';clear aa;have z:=Oq (∀{G}(h:G:=by
  exact⟨rfl,Qo a'.out.symm (xi.next ax)⟩),G);exact XW),G);exact aEZ
 | ok cp bK=>
  have z:=Oq (∀{G}(h:G:=by
  have z:=Oq (∀{G}(h:G:=by
  intro e w1 al;obtain⟨⟨v1,rfl,p1,rfl,gL⟩,ba,ax⟩:=al;have ew:=(xi.next ax);have bM:=ba;have eh:=(TB gL xi.size);replace iG:=hide ((ax.block _ (lt_of_heap iG.out) (by have:=Om sb;omega)).trans iG.out)
  have ai:=(SN c w1 bK d bM);go_wp2_with fail;refine cm ai ?_;rintro e dM ⟨rfl,x1⟩;have yL:=(ew.next (Ap.of x1));have CK:=(bM.later x1);replace eh:=(SS eh (Ap.of x1) bS.out);replace iG:=hide ((x1.block _ (lt_of_heap iG.out)).trans iG.out)
  by_cases ae:fx c.l bK=tEq
  ·rw[if_pos ae] at a';have sr:((fx c.l bK).toList==[61])=true:=V8 (b:=tEq) rfl ae;have Gx:Hid (Pm c.l tEq bK=.ok () (bK+1)):=by
    show _=_
    unfold Pm;rw[if_pos ae]
   clear ae;obtain⟨gW,dO,o4,_,_⟩:=eh.opens;obtain⟨tP,_,_,_,_⟩:=node_cells o4;clear o4
   by_cases io:cp.kd=23
   ·have HD:(cp.kd != 23)=false:=by rw[io];rfl
    rw[if_pos (Or.inl io)] at a';clear io;exact aFb
   ·have HD:(cp.kd != 23)=true:=bne_iff_ne.2 io
    by_cases qj:cp.kd=36
    ·have HE:(cp.kd != 36)=false:=by rw[qj];rfl
     rw[if_pos (Or.inr qj)] at a';clear io qj;exact aFb
    ·have HE:(cp.kd != 36)=true:=bne_iff_ne.2 qj;rw[if_neg (fun hh=>hh.elim io qj)] at a';clear io qj;obtain⟨t0,nu,t2,t3,tf,tlt⟩:=aHr iG.out;have ai:=(acV c 1 (O9 c.l i) dM);unfold tkV at ai;go_wp2_with fail;refine cm ai ?_;rintro e jU ⟨rfl,j4⟩;exact⟨rfl,Qo a'.out.symm (yL.next (Ap.of j4))⟩
  ·rw[if_neg ae] at a';have sr:((fx c.l bK).toList==[61])=false:=VJ (b:=tEq) rfl ae;clear ae;go_wp2;go_ret;exact Ue a'.out.symm ⟨p1,rfl,eh⟩ CK yL),G);exact XZ),G);exact aEZ),G);exact aEe),G);exact atH
def sg2 {s:OH}{x:Sg}(h:Zn 2 s=some x):2<=x.str/\x.str<=7:=by
 unfold Zn at h
 cases aH:Zy s with
 | none=>rw[aH] at h;cases h
 | some y=>
  rw[aH] at h;have aS:=List.mem_of_find?_eq_some aH;have hy:y=x/\(y.parts==2)=true:=by
   simp only[Option.filter] at h
   split at h
   ·exact⟨Option.some.inj h,by assumption⟩
   ·
    cases h
  obtain⟨rfl,al⟩:=hy;simp only[sgs,List.mem_cons,List.not_mem_nil,or_false] at aS
  rcases aS with rfl|rfl|rfl|rfl|rfl|rfl|rfl|rfl|rfl|rfl|rfl|rfl|rfl|rfl <;> first|decide | (exact absurd al Oz)
def acW {c:Ctx}{w aY:Ov}{i d:Nat}(x:Sg)(cE:PW c aY i d)(aO:Ap c.R w.heap.size w aY)(am:i+1<c.l.length) :
  PW c ((aY.setCell (Ot c.R 1) (Ol ((i:Int)+1))).alloc (.cells #[OB x.tx,Ol x.kd,Ol x.parts,Ol x.str] 275)).drew (i+1) d/\Ap c.R w.heap.size w ((aY.setCell (Ot c.R 1) (Ol ((i:Int)+1))).alloc (.cells #[OB x.tx,Ol x.kd,Ol x.parts,Ol x.str] 275)).drew /\
  ((aY.setCell (Ot c.R 1) (Ol ((i:Int)+1))).alloc (.cells #[OB x.tx,Ol x.kd,Ol x.parts,Ol x.str] 275)).drew.heap[aY.heap.size]? = some (.cells #[OB x.tx,Ol x.kd,Ol x.parts,Ol x.str] 275):=by
 obtain⟨h1,U⟩:=stepped cE aO am;refine⟨(h1.alloc _).drew,(U.alloc U.size _).drew,?_⟩;have:=OA (aY.setCell (Ot c.R 1) (Ol ((i:Int)+1))) (.cells #[OB x.tx,Ol x.kd,Ol x.parts,Ol x.str] 275);rw[World.size_setCell] at this;exact this
section
variable {c:Ctx} {F:SX}
include c F
def ahJ (hO:Does c 333 NV (SG c.l F))(w:Ov)(d i:Nat)(r:PR Tr)(fa:Zn 1 (fx c.l i)=none)(ac:SG c.l F d i=r)(aR:r≠.out)(h:PW c w i d):OE 311 #[Pj c] w (Qn c w d (NV w.heap.size) r):=by
 have tA:=hide fa;clear fa;have e1:=(Ap.refl c.R w.heap.size w);have a':=hide ac;have dw:=hide aR;clear ac aR;go_enter func311,ntmps311;have ai:=(Wy c 1 w i d h);have bN:=Oq (∀{G}(h:G:=by
 have pg:=(e1.next (Ap.of nU));have mc:=(h.later nU);clear h;have bN:=Oq (∀{G}(h:G:=by
 cases aa:SG c.l F d i with
 | out=>
  rw[aa] at a';exact absurd a'.out.symm dw.out
 | bad er p=>
  have ai:=(hO (aY.alloc (.cells #[PN,Ol 0,Ol 0,Ol 0] 275)) d i _ rfl (by rw[aa];nofun) q0)
  rw[aa] at ai a';clear aa;have z:=Oq (∀{G}(h:G:=by
  exact⟨rfl,Qo a'.out.symm (rN.next ax)⟩),G);exact XW
 | ok cp bK=>
  have ai:=(hO (aY.alloc (.cells #[PN,Ol 0,Ol 0,Ol 0] 275)) d i _ rfl (by rw[aa];nofun) q0)
  rw[aa] at ai a';clear aa;go_wp2_with fail;have z:=Oq (∀{G}(h:G:=by
  have ew:=(rN.next ax);have eh:=(TB gL rN.size);go_wp2;go_ret;exact Ue a'.out.symm ⟨p1,rfl,eh⟩ ba ew),G);exact atz),G);exact ztr),G);exact ztw
def ahK (ah:FC c F)(w:Ov)(d i:Nat)(x:Sg)(r:PR Tr)(fa:Zn 1 (fx c.l i)=some x)(ac:((PD c.l F.sg d (i+1)).bind fun t a7=>PR.ok (.mk x.kd Ox 0 [t]) a7)=r)(aR:r≠.out)(h:PW c w i d):OE 311 #[Pj c] w (Qn c w d (NV w.heap.size) r):=by
 have jx:=RN c.R 311;have tA:=hide fa;have am:=WS h.base.ends h.lt fa;have dr:=h.base.len;clear fa;have bB:=h;have e1:=(Ap.refl c.R w.heap.size w);have a':=hide ac;have dw:=hide aR;clear h ac aR;go_enter func311,ntmps311;have ai:=(Wy c 1 w i d bB);have z:=Oq (∀{G}(h:G:=by
 have pg:=(e1.next (Ap.of nU));have mc:=(bB.later nU);have f0:=mc.c1;have gB:=mc.fz;have dK:=mc.rlt;obtain⟨ur,eJ,fc⟩:=acW x mc pg am;have eN:=hide fc;have sb:Hid (c.R<aY.heap.size):=dK;clear fc
 cases aa:PD c.l F.sg d (i+1) with
 | out=>
  exact RS
 | bad er p=>
  have z:=Oq (∀{G}(h:G:=by
  simp only[PG] at a';have z:=Oq (∀{G}(h:G:=by
  refine wh 2 (Pj c) eN.out ?_;refine wh 3 (Pj c) eN.out ?_;refine wh 4 (.func (.func 311) #[Pj c] #[]) eN.out ?_;refine XY 5 fun K A=>?_;go_simp;refine cm ai ?_;intro e w' al;obtain⟨rfl,ax⟩:=al;exact⟨rfl,Qo a'.out.symm (eJ.next ax)⟩),G);exact atx),G);exact aEQ
 | ok t j=>
  have z:=Oq (∀{G}(h:G:=by
  simp only[bind_ok] at a';have z:=Oq (∀{G}(h:G:=by
  refine wh 2 (Pj c) eN.out ?_;refine wh 3 (Pj c) eN.out ?_;refine wh 4 (.func (.func 311) #[Pj c] #[]) eN.out ?_;refine XY 5 fun K A=>?_;go_simp;have z:=Oq (∀{G}(h:G:=by
  have ew:=(eJ.next ax);have eh:=(TB gL eJ.size);have iU:=hide ((ax.block _ (lt_of_heap eN.out) (by have:=Om sb;omega)).trans eN.out)
  refine A.out _ _ iU.out (fun _=>?_);clear A K;refine XY 6 fun K A=>?_;go_simp;have e8:=hide ((Below.heap_alloc w1 (.cells #[Oo p1] 22) _ (lt_of_heap iU.out)).trans iU.out);refine A.out _ _ e8.out (fun _=>?_);clear A K;refine XY 7 fun K A=>?_;go_simp;refine cm (PV x.kd Ox (.slice (some (Ot w1.heap.size 0)) 1 1) (w1.alloc (.cells #[Oo p1] 22)) ⟨_,_,_,rfl⟩) ?_;rintro e fe ⟨rfl,rfl⟩
  have kM:=hide ((Below.heap_alloc (w1.alloc (.cells #[Oo p1] 22)) (Px x.kd Ox 0 (.slice (some (Ot w1.heap.size 0)) 1 1)) _ (lt_of_heap e8.out)).trans e8.out);refine A.out _ _ kM.out (fun _=>?_);clear A K;refine wh 8 (Oo (w1.alloc (.cells #[Oo p1] 22)).heap.size) kM.out ?_;refine wpAnyH_done PK ?_ _;go_simp;go_wp2;go_ret;obtain⟨cO,cP,df⟩:=made ba ew (OL.cons eh OL.nil) (by simp[maxLen]) #[Oo p1] rfl 1 rfl x.kd Ox (w1.heap.size+1) rfl;exact Ue a'.out.symm cO.nv cP df),G);exact atz),G);exact atx),G);exact aEQ),G);exact atF
def ajQ (ah:FC c F)(hO:Does c 333 NV (SG c.l F)):Does c 311 NV (Ry c.l F):=by
 intro w d i r ac aR h;unfold Ry at ac
 cases hg:Zn 1 (fx c.l i) with
 | none=>rw[hg] at ac;exact ahJ hO w d i r hg ac aR h
 | some x=>rw[hg] at ac;exact ahK ah w d i x r hg ac aR h
end
def aqF {c:Ctx}{F:SX}(ah:FC c F)(hN:∃ k,FNx c.l k F)(b:Int)(w:Ov)(d i:Nat)(r:PR Tr)(ac:U0 c.l F b d i=r)(aR:r≠.out)(h:PW c w i d):OE 280 #[Pj c,Ol b] w (Qn c w d (NV w.heap.size) r):=by
 have dH:=h.base.ends;have dU:=hide h.base.len;have nJ:=hide hN;clear hN;have z:=Oq (∀{G}(h:G:=by
 unfold U0 at ac;have a':=hide ac;have dw:=hide aR;clear h ac aR;go_enter func280,ntmps280
 cases aa:F.sg d i with
 | out=>
  exact RS
 | bad er p=>
  have ai:=(ah.sg w d i _ rfl (by rw[aa];nofun) bB)
  exact abd
 | ok cp bK=>
  have ai:=(ah.sg w d i _ rfl (by rw[aa];nofun) bB)
  have z:=Oq (∀{G}(h:G:=by
  intro e w1 al;obtain⟨⟨v1,rfl,p1,rfl,gL⟩,ba,ax⟩:=al;have ew:=(e1.next ax);have bM:=ba;have eh:=(TB gL e1.size);clear ax;go_wp2_with fail
  go_loopw [5] (fun v wr=>∃ k t j p,v=Oo p/\QO c.l F b d k t j=r/\PW c wr j d/\Ap c.R w.heap.size w wr/\Qb (From w.heap.size) wr t p) (fun _ wr=>c.l.length - nxt c wr)
  case atStart=>exact⟨F.fuel,cp,bK,p1,rfl,a'.out,bM,ew,eh⟩
  case round=>
   obtain⟨k,t,j,aZ,rfl,ag,ba,gA,fo⟩:=hrel
   cases k with
   | zero=>exact absurd ag.symm dw.out
   | succ k=>
    have bj:=ba;have ov:=ba;have nc:=ba.lt;have dr:=Om dU;unfold QO at ag
    cases fa:Zn 2 (fx c.l j) with
    | none=>
     rw[fa] at ag;have bm:=hide ag;have tA:=hide fa;clear ag fa;have ai:=(Wy c 2 wr j d bj);have bN:=Oq (∀{G}(h:G:=by
     have z:=Oq (∀{G}(h:G:=by
     have bN:=Oq (∀{G}(h:G:=by
     replace fo:=hide (SS fo (Ap.of (QX.alloc O6 (.cells #[PN,Ol 0,Ol 0,Ol 0] 275))) bS.out);go_wp2;go_ret;exact Ue bm.out.symm ⟨aZ,rfl,fo⟩ q0 rN),G);exact ztr),G);exact ayg),G);exact ztw
    | some x=>
     rw[fa] at ag
     dsimp only at ag
     have tA:=hide fa;have am:=WS dH nc fa;obtain⟨eJ,rA⟩:=sg2 fa;clear fa
     by_cases gc:x.str<b
     ·rw[if_pos gc] at ag;have bm:=hide ag;clear ag;have ai:=(Wy c 2 wr j d bj);have z:=Oq (∀{G}(h:G:=by
      have z:=Oq (∀{G}(h:G:=by
      have z:=Oq (∀{G}(h:G:=by
      replace fo:=hide (SS fo (Ap.of (QX.alloc O6 (.cells #[OB x.tx,Ol x.kd,Ol x.parts,Ol x.str] 275))) bS.out);go_wp2;go_ret;exact Ue bm.out.symm ⟨aZ,rfl,fo⟩ q0 rN),G);exact aEX),G);exact ayg),G);exact atF
     ·rw[if_neg gc] at ag;have bm:=hide ag;clear ag;have ai:=(Wy c 2 wr j d bj);have z:=Oq (∀{G}(h:G:=by
      have z:=Oq (∀{G}(h:G:=by
      have f0:=mc.c1;have gB:=mc.fz;have dK:=mc.rlt;obtain⟨ur,ut,fc⟩:=acW x mc pg am;have eN:=hide fc;have sb:Hid (c.R<aY.heap.size):=dK;replace fo:Hid (Qb (From w.heap.size) (((aY.setCell (Ot c.R 1) (Ol ((j:Int)+1))).alloc (.cells #[OB x.tx,Ol x.kd,Ol x.parts,Ol x.str] 275)).drew) t aZ):=SS (c:=c) fo ⟨rfl,rfl,rfl,by simp,fun k E oU=>by
       show ((aY.setCell (Ot c.R 1) (Ol ((j:Int)+1))).alloc (.cells #[OB x.tx,Ol x.kd,Ol x.parts,Ol x.str] 275)).heap[k]? = _
       rw[Below.heap_alloc _ _ k (by simpa using E),Below.heap_setCell aY (Ot c.R 1) _ k oU]⟩ bS.out
      clear fc
      cases aa:F.pr (x.str+1) d (j+1) with
      | out=>
       exact ax0
      | bad er p=>
       have z:=Oq (∀{G}(h:G:=by
       rw[aa] at ai bm;simp only[PG] at bm;have z:=Oq (∀{G}(h:G:=by
       have z:=Oq (∀{G}(h:G:=by
       refine cm ai ?_;intro e w' al;obtain⟨rfl,ax⟩:=al;exact⟨rfl,Qo bm.out.symm (ut.next ax)⟩),G);exact aEs),G);exact atx),G);exact aEN
      | ok u b'=>
       have z:=Oq (∀{G}(h:G:=by
       have km:j+1<b':=by
        obtain⟨j7,cT⟩:=Om nJ;exact((cT.pr (x.str+1) d (j+1) am).2 u b' aa).1
       rw[aa] at ai bm;simp only[bind_ok] at bm;have z:=Oq (∀{G}(h:G:=by
       have z:=Oq (∀{G}(h:G:=by
       have z:=Oq (∀{G}(h:G:=by
       have ew:=(ut.next ax);have bM:=ba;have AR:=ba.lt;replace fo:=hide (aaC fo ax bS.out ut.size gL);have iU:=hide ((ax.block _ (lt_of_heap eN.out) (by have:=Om sb;omega)).trans eN.out)
       clear ax;refine A.out _ _ iU.out (fun _=>?_);clear A K;refine XY 8 fun K A=>?_;go_simp;have e8:=hide ((Below.heap_alloc w1 (.cells #[Oo aZ,Oo p1] 22) _ (lt_of_heap iU.out)).trans iU.out);refine A.out _ _ e8.out (fun _=>?_);clear A K;refine XY 9 fun K A=>?_;go_simp;refine cm (PV x.kd Ox (.slice (some (Ot w1.heap.size 0)) 2 2) (w1.alloc (.cells #[Oo aZ,Oo p1] 22)) ⟨_,_,_,rfl⟩) ?_;rintro e fe ⟨rfl,rfl⟩
       have kM:=hide ((Below.heap_alloc (w1.alloc (.cells #[Oo aZ,Oo p1] 22)) (Px x.kd Ox 0 (.slice (some (Ot w1.heap.size 0)) 2 2)) _ (lt_of_heap e8.out)).trans e8.out);refine A.out _ _ kM.out (fun _=>?_);clear A K;refine wh 10 (Oo (w1.alloc (.cells #[Oo aZ,Oo p1] 22)).heap.size) kM.out ?_;refine wpAnyH_done PK ?_ _;go_simp;obtain⟨cO,cP,df⟩:=made bM ew fo (by simp[maxLen]) #[Oo aZ,Oo p1] rfl 2 rfl x.kd Ox (w1.heap.size+1) rfl;obtain⟨s4,rv,wp⟩:=cO.nv;have gP:s4=w1.heap.size+1:=by simpa[Oo] using rv.symm
       subst gP;clear rv;go_wp2
       go_roundw
       case rel=>exact⟨k,.mk x.kd Ox 0 [t,u],b',w1.heap.size+1,rfl,bm.out,cP,df,wp⟩
       case measure=>rw[U9 cP,U9 ov];omega),G);exact atz),G);exact aEs),G);exact atx),G);exact aEN),G);exact ayg),G);exact atF),G);exact XZ),G);exact amJ
def amZ (l:List Tk)(F:SX)(d i:Nat):Tn l F d i=(Rz l F d i).bind fun n i2=>
  if fx l i2=aaN then (PD l F.st d (i2+1)).bind fun s2 i3=>.ok (.mk n.kd n.tx n.n (n.kids++[s2])) i3 else .ok n i2:=by
 unfold Tn Rz
 cases SC l F d (i+1) with
 | out=>rfl
 | bad er p=>rfl
 | ok v a7=>
  simp only[bind_ok]
  cases PD l F.st d a7 with
  | out=>rfl
  | bad er p=>rfl
  | ok s i2=>rfl
def ahL {l:List Tk}{F:SX}{d i j:Nat}{t:Tr}(h:Rz l F d i=.ok t j):t.kids.length=2:=by
 unfold Rz at h
 cases h1:SC l F d (i+1) with
 | out=>rw[h1] at h;cases h
 | bad er p=>rw[h1] at h;cases h
 | ok v a7=>
  rw[h1,bind_ok] at h
  cases U:PD l F.st d a7 with
  | out=>rw[U] at h;cases h
  | bad er p=>rw[U] at h;cases h
  | ok s i2=>rw[U,bind_ok] at h;cases h;rfl
def ajR {c:Ctx}{F:SX}(ah:FC c F)(w:Ov)(d i:Nat)(r:PR Tr)(E:(O9 c.l i).kd≠6)(ac:Tn c.l F d i=r)(aR:r≠.out)(h:PW c w i d):OE 151 #[Pj c] w (Qn c w d (NV w.heap.size) r):=by
 have jx:=RN c.R 160;have op:=hide E;have z:=Oq (∀{G}(h:G:=by
 rw[amZ] at ac;clear E;have z:=Oq (∀{G}(h:G:=by
 have a':=hide ac;have dw:=hide aR;clear h ac aR;go_enter func151,ntmps151
 cases aa:Rz c.l F d i with
 | out=>
  exact RS
 | bad er p=>
  have ai:=(Zk ah w d i _ op.out rfl (by rw[aa];nofun) bB)
  exact abd
 | ok cp bK=>
  have jb:=hide (ahL aa);have ai:=(Zk ah w d i _ op.out rfl (by rw[aa];nofun) bB)
  have z:=Oq (∀{G}(h:G:=by
  intro e w1 al;obtain⟨⟨v1,rfl,gL⟩,ba,ax⟩:=al;have ew:=(e1.next ax);have bM:=ba;have eh:=(EV.mono gL e1.size);obtain⟨aZ,ho,BQ,rfl,eo⟩:=eh.opens
  by_cases ae:fx c.l bK=aaN
  ·rw[if_pos ae] at a';have ai:=(SQ c aaN w1 bK d bM ae Oz);clear ae;go_wp2_with fail;refine cm ai ?_;rintro e w2 ⟨rfl,hr2,ha2⟩;have bj:=hr2;have ee:=(ew.next ha2);replace eo:=hide (Open.later eo ha2 bS.out);have z:=Oq (∀{G}(h:G:=by
   cases aa:PD c.l F.st d (bK+1) with
   | out=>
    exact RS
   | bad er p=>
    have ai:=(aaT ah w2.drew d (bK+1) bj.drew (by rw[aa];nofun))
    rw[aa] at ai a';simp only[PG] at a';clear aa;go_wp2_with fail;have z:=Oq (∀{G}(h:G:=by
    refine wt 5 (Pj c) ?_;refine wt 6 (Pj c) ?_;refine wt 7 (.func (.func 160) #[Pj c] #[]) ?_;refine wr2 4 8 (fun K A=>?_) fun K A=>?_
    ·go_simp;refine A _ _ ?_;clear A K;refine QV 8 fun K A=>?_;exact aD6
    ·exact aD6),G);exact aaB
   | ok lB hm=>
    have ai:=(aaT ah w2.drew d (bK+1) bj.drew (by rw[aa];nofun))
    rw[aa] at ai a';simp only[bind_ok] at a';clear aa;go_wp2_with fail;refine acC (H:=fun aE cA=>Ap c.R w2.heap.size w2 aE/\PW c aE hm d/\Qb (From w2.heap.size) aE lB cA) (G:=?G1) (fun dJ=>?_) ?_;rotate_left
    ·have z:=Oq (∀{G}(h:G:=by
     refine wt 5 (Pj c) ?_;refine wt 6 (Pj c) ?_;refine wt 7 (.func (.func 160) #[Pj c] #[]) ?_;refine wr2 4 8 (fun K A=>?_) fun K A=>?_
     ·go_simp;refine A _ _ ?_;clear A K;refine QV 8 fun K A=>?_;have z:=Oq (∀{G}(h:G:=by
      have z:=Oq (∀{G}(h:G:=by
      obtain⟨gx,gy,hI⟩:=(Open.later eo dy bS.out).cell;exact axS),G);exact aEY),G);exact ahs
     ·have z:=Oq (∀{G}(h:G:=by
      have z:=Oq (∀{G}(h:G:=by
      obtain⟨gx,gy,hI⟩:=(Open.later eo dy bS.out).cell;exact ayk),G);exact aEY),G);exact ahs),G);exact aaB
    intro aE cA cw;obtain⟨dy,ba,jO⟩:=cw;have e7:=(ee.next dy);have eG:=(Open.later eo dy bS.out);have mZ:=(Open.apart eo ee.size dy bS.out (OL.cons jO OL.nil));obtain⟨gx,gy,hI⟩:=eG.cell;have hlen:=OL.length _ _ eG.kids;have hown:=eG.row;rw[hlen] at hown;have dd:=e7.size;have cM:cp.kids.length<=3:=by rw[jb.out];decide
    clear hlen;refine QV 10 fun K A=>?_;refine step_append_lies _ rfl _ _ 38 rfl w.heap.size 22 i0 Ri 1 8 underlying38 dR dA b9 cn rfl Oz _ _ _ rfl (hown.alloc _) (Ot aE.heap.size 0) 1 1 [Oo cA] rfl rfl (RY aE cA _ rfl) (one_one cA) Oz (by unfold maxLen;omega) Ou Rh (aE.heap.size+1) O8 ?_
    intro g cap ap hown3 eY db _;refine A _ _ ?_;clear A K;have gE:=hide (YX eG mZ ba e7 iF.out hown3 eY db);have gq:ap.cell? (Ot aZ 3)=aE.cell? (Ot aZ 3)/\ap.frozen? (Ot aZ 3)=aE.frozen? (Ot aZ 3):=ap2
    obtain⟨gN,gO⟩:=gq;rw[gx] at gN;rw[gy 3] at gO;clear db;refine wt 11 (Oo aZ) ?_;refine wt 12 (OM aZ 3) ?_;refine QV 13 fun K A=>?_;go_simp;refine A _ _ ?_;clear A K gN gO gx gy hI;refine wpAny_done PK ?_ _;go_simp;obtain⟨cO,cP,df⟩:=Om gE;go_wp2;go_ret;exact Ue a'.out.symm cO.nv cP df),G);exact aqc
  ·rw[if_neg ae] at a';have ai:=(Uf c aaN w1 bK d bM ae);clear ae;go_wp2_with fail;refine cm ai ?_;rintro e w2 ⟨rfl,aF⟩;have bj:=(bM.later aF);have ee:=(ew.next (Ap.of aF));replace eo:=hide (Open.later eo (Ap.of aF) bS.out);go_wp2;go_ret;exact Ue a'.out.symm eo.ev.nv bj ee),G);exact XZ),G);exact amJ),G);exact amL
def aqG {c:Ctx}{b:Nat}{w1 gG:Ov}{i d:Nat}{v0 v1 v2 v3:OG}(h:PW c w1 i d)(n0:c.lo<=b)(p1:w1.heap[b]? = some TT)
  (a1:gG=(((w1.setCell (Ot b 0) v0).setCell (Ot b 1) v1).setCell (Ot b 2) v2).setCell (Ot b 3) v3) :
  PW c gG i d/\Below b w1 gG/\ajP b gG v0 v1 v2 v3:=by
 have a8:Below b w1 gG:=by
  rw[a1];exact((((Below.refl _ w1).setCell (p:=(Ot b 0)) O6 v0).setCell (p:=(Ot b 1)) O6 v1).setCell (p:=(Ot b 2)) O6 v2).setCell (p:=(Ot b 3)) O6 v3
 refine⟨h.ap a8 n0,a8,c160 ?_⟩;rw[a1];exact aat p1 v0 v1 v2 v3
section
variable {c:Ctx} (w:Ov) (d i:Nat)
include c w d i
def aud (E:(O9 c.l i).kd=1)(h:PW c w i d):OE 348 #[Pj c] w fun e w'=>e=OQ (OC true)/\OD w w':=by
 have yM:=(Below.refl w.heap.size w);have dq:((O9 c.l i).kd==1)=true:=by rw[E];decide
 have em:((O9 c.l i).kd==3)=false:=by rw[E];decide
 have oB:((O9 c.l i).kd==4)=false:=by rw[E];decide
 exact axX
def ayB (E:(O9 c.l i).kd=3)(h:PW c w i d):OE 348 #[Pj c] w fun e w'=>e=OQ (OC true)/\OD w w':=by
 have yM:=(Below.refl w.heap.size w);have dq:((O9 c.l i).kd==1)=false:=by rw[E];decide
 have em:((O9 c.l i).kd==3)=true:=by rw[E];decide
 have oB:((O9 c.l i).kd==4)=false:=by rw[E];decide
 exact axX
def ayC (E:(O9 c.l i).kd=4)(h:PW c w i d):OE 348 #[Pj c] w fun e w'=>e=OQ (OC true)/\OD w w':=by
 have yM:=(Below.refl w.heap.size w);have dq:((O9 c.l i).kd==1)=false:=by rw[E];decide
 have em:((O9 c.l i).kd==3)=false:=by rw[E];decide
 have oB:((O9 c.l i).kd==4)=true:=by rw[E];decide
 exact axX
end
section
variable {c:Ctx} (w:Ov) (d i:Nat) (h1:(O9 c.l i).kd≠1) (aw:(O9 c.l i).kd≠3) (aL:(O9 c.l i).kd≠4)
include c w d i h1 aw aL
theorem ayD (q:Nat)(ag:QG SY (fx c.l i)=some q)(h:PW c w i d):OE 348 #[Pj c] w fun e w'=>e=OQ (OC true)/\OD w w':=by
 have z:=Oq (∀{G}(h:G:=by
 have dU:Hid (∀ W:Ov,PW c W i d->(Instr.lookup 231 (.map (some c.mV)) (OB (fx c.l i)) true).run prog W=.ok (.tuple #[.func (.func (afZ q)) #[OM c.R 0] #[],OC true]) W):=fun W a1=>aDM
 clear h h1 aw aL ag;have z:=Oq (∀{G}(h:G:=by
 have z:=Oq (∀{G}(h:G:=by
 have z:=Oq (∀{G}(h:G:=by
 refine A.out _ _ eW (fun _=>?_);clear A K;refine wg 6 (.tuple #[.func (.func (afZ q)) #[OM c.R 0] #[],OC true]) rfl (Or.inl ⟨by kernel_rfl,fun W a1=>by have hh:=dU.out W a1;go_simp⟩) eW ?_
 refine wh 7 (.tuple #[.func (.func (afZ q)) #[OM c.R 0] #[],OC true]) eW ?_;refine wh 8 (.func (.func (afZ q)) #[OM c.R 0] #[]) eW ?_;refine wh 9 (OC true) eW ?_;refine wh 10 (.func (.func (afZ q)) #[OM c.R 0] #[]) eW ?_;refine wh 11 (OC true) eW ?_;refine wpAnyH_done PK ?_ _;go_simp;go_wp2;go_ret;exact⟨rfl,rQ⟩),G);exact ax4),G);exact abe),G);exact ax9),G);exact ax7
theorem aue (ag:QG SY (fx c.l i)=none)(fa:Zy (fx c.l i)=none)(h:PW c w i d):OE 348 #[Pj c] w fun e w'=>e=OQ (OC false)/\OD w w':=by
 have z:=Oq (∀{G}(h:G:=by
 have z:=Oq (∀{G}(h:G:=by
 have eL:Hid (∀ W:Ov,PW c W i d->(Instr.lookup 229 (.map (some c.mS)) (OB (fx c.l i)) true).run prog W=.ok (.tuple #[.agg #[PN,Ol 0,Ol 0,Ol 0],OC false]) W):=fun W a1=>by
  have:=XI c (fx c.l i) W a1.base.signs;rw[fa] at this;exact this
 clear h h1 aw aL ag fa;have z:=Oq (∀{G}(h:G:=by
 have z:=Oq (∀{G}(h:G:=by
 have z:=Oq (∀{G}(h:G:=by
 have z:=Oq (∀{G}(h:G:=by
 have iF:=hide eW.base.size;have z:=Oq (∀{G}(h:G:=by
 have z:=Oq (∀{G}(h:G:=by
 refine wpAnyH_ready (rs:=[5,10]) PK O8 (AllReadyH.cons rfl (fun K A=>?_) (AllReadyH.cons rfl (fun K A=>?_) AllReadyH.nil))
 ·have z:=Oq (∀{G}(h:G:=by
  refine wg 6 (.tuple #[.agg #[PN,Ol 0,Ol 0,Ol 0],OC false]) rfl (Or.inl ⟨by kernel_rfl,fun W a1=>by have hh:=eL.out W a1;go_simp⟩) bM ?_
  have z:=Oq (∀{G}(h:G:=by
  have z:=Oq (∀{G}(h:G:=by
  have bj:=(bM.alloc (.cells #[PN,Ol 0,Ol 0,Ol 0] 275));have bu:=(f3.alloc f3.size (.cells #[PN,Ol 0,Ol 0,Ol 0] 275));exact aD1),G);exact aqa),G);exact atE),G);exact aEH
 ·have z:=Oq (∀{G}(h:G:=by
  refine wg 6 (.tuple #[.agg #[PN,Ol 0,Ol 0,Ol 0],OC false]) rfl (Or.inl ⟨by kernel_rfl,fun W a1=>by have hh:=eL.out W a1;go_simp⟩) bM ?_
  have z:=Oq (∀{G}(h:G:=by
  refine XY 11 fun K A=>?_;go_simp;clear cH bU cg eE eu rlt;obtain⟨gG,iK⟩:=xE ((((w1.setCell (Ot fA.heap.size 0) (PN)).setCell (Ot fA.heap.size 1) (Ol 0)).setCell (Ot fA.heap.size 2) (Ol 0)).setCell (Ot fA.heap.size 3) (Ol 0));obtain⟨hr2,aF,⟨jz,kz,s2,pe,s6,s7⟩⟩:=aqG (v0:=PN) (v1:=Ol 0) (v2:=Ol 0) (v3:=Ol 0) bM iF.out tI.out iK;have bj:=hr2;have bu:=(f3.trans (aF.mono rQ.size));rw[<-iK];clear iK;exact aD1),G);exact atE),G);exact aEr),G);exact aEC),G);exact abe),G);exact aEd),G);exact ax4),G);exact abe),G);exact ax9),G);exact aEl),G);exact ax7
theorem auf (x:Sg)(ag:QG SY (fx c.l i)=none)(fa:Zy (fx c.l i)=some x)(h:PW c w i d):OE 348 #[Pj c] w fun e w'=>e=OQ (OC (decide (x.parts<2)))/\OD w w':=by
 have z:=Oq (∀{G}(h:G:=by
 have z:=Oq (∀{G}(h:G:=by
 have eL:Hid (∀ W:Ov,PW c W i d->(Instr.lookup 229 (.map (some c.mS)) (OB (fx c.l i)) true).run prog W=.ok (.tuple #[.agg #[OB x.tx,Ol x.kd,Ol x.parts,Ol x.str],OC true]) W):=fun W a1=>by
  have:=XI c (fx c.l i) W a1.base.signs;rw[fa] at this;exact this
 clear h h1 aw aL ag fa;have z:=Oq (∀{G}(h:G:=by
 have z:=Oq (∀{G}(h:G:=by
 have z:=Oq (∀{G}(h:G:=by
 have z:=Oq (∀{G}(h:G:=by
 have iF:=hide eW.base.size;have z:=Oq (∀{G}(h:G:=by
 have z:=Oq (∀{G}(h:G:=by
 refine wpAnyH_ready (rs:=[5,10]) PK O8 (AllReadyH.cons rfl (fun K A=>?_) (AllReadyH.cons rfl (fun K A=>?_) AllReadyH.nil))
 ·have z:=Oq (∀{G}(h:G:=by
  have z:=Oq (∀{G}(h:G:=by
  have z:=Oq (∀{G}(h:G:=by
  have z:=Oq (∀{G}(h:G:=by
  have bj:=(bM.alloc (.cells #[OB x.tx,Ol x.kd,Ol x.parts,Ol x.str] 275));have bu:=(f3.alloc f3.size (.cells #[OB x.tx,Ol x.kd,Ol x.parts,Ol x.str] 275));exact aD0),G);exact aqa),G);exact aEf),G);exact aE0),G);exact aEH
 ·have z:=Oq (∀{G}(h:G:=by
  have z:=Oq (∀{G}(h:G:=by
  have z:=Oq (∀{G}(h:G:=by
  refine XY 11 fun K A=>?_;go_simp;clear cH bU cg eE eu rlt;obtain⟨gG,iK⟩:=xE ((((w1.setCell (Ot fA.heap.size 0) (OB x.tx)).setCell (Ot fA.heap.size 1) (Ol x.kd)).setCell (Ot fA.heap.size 2) (Ol x.parts)).setCell (Ot fA.heap.size 3) (Ol x.str));obtain⟨hr2,aF,⟨jz,kz,s2,pe,s6,s7⟩⟩:=aqG (v0:=OB x.tx) (v1:=Ol x.kd) (v2:=Ol x.parts) (v3:=Ol x.str) bM iF.out tI.out iK;have bj:=hr2;have bu:=(f3.trans (aF.mono rQ.size));rw[<-iK];clear iK hr2 aF;exact aD0),G);exact aEf),G);exact aE0),G);exact aEr),G);exact aEC),G);exact abe),G);exact aEd),G);exact ax4),G);exact abe),G);exact ax9),G);exact aEl),G);exact ax7
end
def ahu (c:Ctx):Asks c 348 (isVal c.l):=by
 intro w d i h;unfold isVal
 by_cases h1:(O9 c.l i).kd=1
 ·rw[h1];exact aud w d i h1 h
 ·by_cases aw:(O9 c.l i).kd=3
  ·rw[aw];exact ayB w d i aw h
  ·by_cases aL:(O9 c.l i).kd=4
   ·rw[aL];exact ayC w d i aL h
   ·rw[beq_eq_false_iff_ne.2 h1,beq_eq_false_iff_ne.2 aw,beq_eq_false_iff_ne.2 aL];simp only[Bool.false_or]
    cases ag:QG SY (fx c.l i) with
    | some q=>exact ayD w d i h1 aw aL q ag h
    | none=>
     cases fa:Zy (fx c.l i) with
     | none=>exact aue w d i h1 aw aL ag fa h
     | some x=>
      have ae:=auf w d i h1 aw aL x ag fa h
      cases al:decide (x.parts<2) with
      | true=>rw[al] at ae;simpa[Option.filter,al] using ae
      | false=>rw[al] at ae;simpa[Option.filter,al] using ae
def aFh {c:Ctx}{w w1:Ov}{j d:Nat}{t:Tr}{p:Nat}{u:OG}{ps:List Nat}(eB:Open w.heap.size w1 t p u ps)(cE:PW c w1 j d)(aO:Ap c.R w.heap.size w w1)(n0:c.lo<=w.heap.size) :
  EV w.heap.size (w1.setCell (Ot p 3) u) (.mk t.kd t.tx t.n (t.kids++[])) (Oo p)/\PW c (w1.setCell (Ot p 3) u) j d/\Ap c.R w.heap.size w (w1.setCell (Ot p 3) u):=by
 have hset:∀ b,b≠p->(w1.setCell (Ot p 3) u).heap[b]? = w1.heap[b]?:=fun b D=>Below.heap_setCell w1 (Ot p 3) _ b D;have a8:Below w.heap.size w1 (w1.setCell (Ot p 3) u):=QX.setCell (p:=(Ot p 3)) eB.low _;refine⟨?_,cE.ap a8 n0,aO.trans (Ap.of a8)⟩;rw[List.append_nil];refine⟨p,u,ps,rfl,eB.low,by rw[heap_set eB.blk];rfl,?_,eB.own,OL.later (fun b D _=>hset b D.2.1) _ _ eB.kids⟩
 exact RF (I:=fun b=>b≠p) (fun b D _=>hset b D) (fun g hg e=>eB.own (by rw[hg,e])) eB.row
def aFi {c:Ctx}{w w1 ap:Ov}{j d:Nat}{t:Tr}{fE:List Tr}{p g cap m:Nat}{u:OG}{ps dO:List Nat}(eB:Open w.heap.size w1 t p u ps)(ae:OL (fun b=>w.heap.size<=b/\b≠p/\u.ownBlock≠some b) w1 (t.kids++fE) (ps++dO))(cE:PW c w1 j d)(aO:Ap c.R w.heap.size w w1)(n0:c.lo<=w.heap.size)
  (hown:ap.ownsRow w.heap.size 22 1 (.slice (some (Ot g 0)) m cap) m (ps.map Oo++dO.map Oo)) (aS:m=ps.length+dO.length) (dg:w1.grownBy ap u.ownBlock) (hg:u.ownBlock=some g\/g=w1.heap.size) :
  EV w.heap.size (ap.setCell (Ot p 3) (.slice (some (Ot g 0)) m cap)) (.mk t.kd t.tx t.n (t.kids++fE)) (Oo p) /\
  PW c (ap.setCell (Ot p 3) (.slice (some (Ot g 0)) m cap)) j d /\
  Ap c.R w.heap.size w (ap.setCell (Ot p 3) (.slice (some (Ot g 0)) m cap)):=by
 have hrow:∀ k,u.ownBlock=some k->w.heap.size<=k:=fun k E=>(Qj eB.row k E).2;have hgrow:Below w.heap.size w1 ap:=(Below.refl w.heap.size w1).grown dg aO.size hrow;have hset:Below w.heap.size w1 (ap.setCell (Ot p 3) (.slice (some (Ot g 0)) m cap)):=hgrow.setCell (p:=(Ot p 3)) eB.low _;refine⟨?_,cE.ap hset n0,aO.trans (Ap.of hset)⟩;exact akZ eB.low eB.blk eB.own ae (by rw[List.map_append];exact hown) (by rw[aS,List.length_append]) dg hg
def aET:VR 348:=fun _ _=>by kernel_rfl
def aEU:VR 349:=fun _ _=>by kernel_rfl
def LV.many {B:Nat}{w:Ov}{ao:List Tr}{v:OG}(h:LV B w ao v)(cl:ao≠[]):∃ g cap dO,v=.slice (some (Ot g 0)) ao.length cap/\dO.length=ao.length/\OL (From B) w ao dO/\(∀ j u,(dO.map Oo)[j]? = some u->w.cell? (((Ot g 0):Addr).add j)=some u):=by
 obtain⟨⟨dO,aa,E⟩,_,_⟩:=h;have hl:=OL.length _ _ E;have al:0<dO.length:=by rw[hl];exact List.length_pos_iff.2 cl
 obtain⟨g,cap,av,aj⟩:=Xf aa al;refine⟨g,cap,dO,by rw[av,hl],hl,OL.mono (fun b D _=>D.1) _ _ E,fun j u aN=>?_⟩;rw[Addr.add_mid,Nat.zero_add];rw[List.getElem?_map] at aN
 cases ag:dO[j]? with
 | none=>rw[ag] at aN;cases aN
 | some q=>
  rw[ag] at aN;obtain⟨aQ,aq⟩:=List.getElem?_eq_some_iff.1 ag;rw[aj j aQ,aq];exact aN
def atK (dO:List Nat):∀ u ∈ dO.map Oo,u.oneCell'=true:=by
 intro u aT;obtain⟨q,_,rfl⟩:=List.mem_map.1 aT;rfl
def Open.cap {B:Nat}{w:Ov}{t:Tr}{p:Nat}{cV:Option Addr}{n uc:Nat}{ps:List Nat}(h:Open B w t p (.slice cV n uc) ps)(al:0<t.kids.length):n<=uc/\∃ g,cV=some (Ot g 0):=by
 have hl:=OL.length _ _ h.kids
 rcases h.row.2 with az|⟨g,cap,cj,av,_,_,h1,_⟩
 ·omega
 ·simp only[Value.slice.injEq] at av;obtain⟨rfl,rfl,rfl⟩:=av;exact⟨h1,g,rfl⟩
def am0 {c:Ctx}{F:SX}(ah:FC c F)(hN:∃ k,FNx c.l k F)(A:FOk F):Does c 333 NV (SG c.l F):=by
 have jx:=RN c.R 348;have Ep:=RN c.R 349;intro w d i r ac aR h;have iF:=hide h.base.size;have dH:=h.base.ends;have dU:=hide h.base.len;obtain⟨i0,dR,dA,b9,cn⟩:=info_parts info22;have nJ:=hide hN;have z:=Oq (∀{G}(h:G:=by
 unfold SG at ac;have a':=hide ac;have dw:=hide aR;clear h ac aR;go_enter func333,ntmps333
 cases aa:SE c.l F d i with
 | out=>
  exact RS
 | bad er p=>
  have ai:=(aeh ah hN A w d i _ rfl (by rw[aa];nofun) bB)
  exact abd
 | ok cp bK=>
  have ai:=(aeh ah hN A w d i _ rfl (by rw[aa];nofun) bB)
  have z:=Oq (∀{G}(h:G:=by
  intro e w1 al;obtain⟨⟨v1,rfl,p1,rfl,gL⟩,ba,ax⟩:=al;have ew:=(e1.next ax);have bM:=ba;have eh:=(TB gL e1.size);clear ax;clear hN A;go_wp2_with fail
  go_loopw [3] (fun v wr=>∃ k t j p,v=Oo p/\Qr c.l F d k t j=r/\PW c wr j d/\Ap c.R w.heap.size w wr/\Qb (From w.heap.size) wr t p) (fun _ wr=>c.l.length - nxt c wr)
  case atStart=>exact⟨F.fuel,cp,bK,p1,rfl,a'.out,bM,ew,eh⟩
  case round=>
   obtain⟨k,t,j,aZ,rfl,ag,ba,gA,fo⟩:=hrel
   cases k with
   | zero=>exact absurd ag.symm dw.out
   | succ k=>
    have G9:=ba;have ov:=ba;have nc:=ba.lt;have dr:=Om dU;unfold Qr at ag;have a':=hide ag;have ai:=(SN c wr j d ba);clear ag
    by_cases ae:fx c.l j=arK
    ·rw[if_pos ae] at a';have sr:((fx c.l j).toList==[46])=true:=V8 (b:=arK) rfl ae;have am:=TK dH nc ae Oz;clear ae;have z:=Oq (∀{G}(h:G:=by
     have f0:=j1.c1;have gB:=j1.fz;have dK:=j1.rlt;obtain⟨o3,j5⟩:=stepped j1 jC am;replace fo:=hide (SS (c:=c) fo (Ap.setCell (R:=c.R) (Ap.refl _ _ _) (p:=(Ot c.R 1)) (Or.inr rfl) (Ol ((j:Int)+1))) bS.out)
     cases aa:nameP c.l (j+1) with
     | out=>
      exact RS
     | bad er p=>
      have ai:=(name_any c (dM.setCell (Ot c.R 1) (Ol ((j:Int)+1))) (j+1) d o3);rw[aa] at ai a';simp only[PG] at a';clear aa;have z:=Oq (∀{G}(h:G:=by
      exact⟨rfl,Qo a'.out.symm (j5.next ax)⟩),G);exact XW
     | ok dG b'=>
      have km:=((Ut (q:=True) dH am).2 _ _ aa).1;have ai:=(name_any c (dM.setCell (Ot c.R 1) (Ol ((j:Int)+1))) (j+1) d o3);have z:=Oq (∀{G}(h:G:=by
      intro e w2 al;obtain⟨⟨v2,rfl,rfl⟩,ba,ax⟩:=al;have ee:=(j5.next ax);have bj:=ba;replace fo:=hide (SS fo ax bS.out);clear ax;have hlt2:=bj.lt;have ai:=(PV 36 dG (.slice (some (Ot w2.heap.size 0)) 1 1) (w2.alloc (.cells #[Oo aZ] 22)) ⟨_,_,_,rfl⟩);go_wp2_with fail;refine cm ai ?_;rintro e fe ⟨rfl,rfl⟩;obtain⟨cO,cP,df⟩:=made bj ee (OL.cons fo OL.nil) (by simp[maxLen]) #[Oo aZ] rfl 1 rfl 36 dG (w2.heap.size+1) rfl;obtain⟨s4,rv,wp⟩:=cO.nv;have gP:s4=w2.heap.size+1:=by simpa[Oo] using rv.symm
      subst gP;have jF:=wp;have cZ:=cP;have jG:=df;clear rv;go_wp2
      go_roundw
      case rel=>exact⟨k,.mk 36 dG 0 [t],b',w2.heap.size+1,by simp,a'.out,cZ,jG,jF⟩
      case measure=>rw[U9 cZ,U9 ov];omega),G);exact XZ),G);exact aya
    ·rw[if_neg ae] at a';have sr:((fx c.l j).toList==[46])=false:=VJ (b:=arK) rfl ae;clear ae
     by_cases hy:fx c.l j=Rk
     ·rw[if_pos hy] at a';have HL:((fx c.l j).toList==[40])=true:=V8 (b:=Rk) rfl hy;clear hy;have z:=Oq (∀{G}(h:G:=by
      have ai:=(PV 35 Ox (.slice (some (Ot dM.heap.size 0)) 1 1) (dM.alloc (.cells #[Oo aZ] 22)) ⟨_,_,_,rfl⟩);go_wp2_with fail;refine cm ai ?_;rintro e BZ ⟨rfl,rfl⟩;obtain⟨cO,cP,df⟩:=made j1 jC (OL.cons fo OL.nil) (by simp[maxLen]) #[Oo aZ] rfl 1 rfl 35 Ox (dM.heap.size+1) rfl;obtain⟨t0,jQ⟩:=xE (.mk 35 Ox 0 [t]:Tr);rw[<-jQ] at cO;have jb:Hid (t0.kids.length=1):=by
       show _=_
       rw[jQ];rfl
      have pq:=hide jQ;obtain⟨ie,ho,BQ,gP,eo⟩:=cO.opens;have iP:ie=dM.heap.size+1:=by simpa[Oo] using gP.symm
      rw[iP] at eo;have jH:=cP;have kb:=df;clear gP jQ;obtain⟨fe,iz⟩:=xE ((dM.alloc (.cells #[Oo aZ] 22)).alloc (Px 35 Ox 0 (.slice (some (Ot dM.heap.size 0)) 1 1)));rw[<-iz] at eo jH kb;rw[<-iP] at eo;rw[show (dM.alloc (.cells #[Oo aZ] 22)).heap.size=ie by rw[iP];simp,<-iz]
      clear iz iP;have z:=Oq (∀{G}(h:G:=by
      obtain⟨j7,cT⟩:=Om nJ
      cases aa:UQ c.l Rk SA (isVal c.l) (aaZ c.l F d) F.fuel j with
      | out=>
       exact RS
      | bad er p=>
       have z:=Oq (∀{G}(h:G:=by
       rw[aa] at ai a';simp only[PG] at a';have z:=Oq (∀{G}(h:G:=by
       refine wr2 4 10 (fun K A=>?_) fun K A=>?_
       ·go_simp;refine A _ _ ?_;clear A K;refine QV 10 fun K A=>?_;exact att
       ·exact att),G);exact aEu),G);exact aES
      | ok fE b'=>
       have z:=Oq (∀{G}(h:G:=by
       have km:=((Zz (q:=False) dH nc Oz Oz (fun h=>h.elim) (fun bK _ h1=>aeA cT h1 (fun h=>h.elim))).2 _ _ aa).1;rw[aa] at ai a';simp only[bind_ok] at a';have z:=Oq (∀{G}(h:G:=by
       refine wr2 4 10 (fun K A=>?_) fun K A=>?_
       ·go_simp;refine A _ _ ?_;clear A K;refine QV 10 fun K A=>?_;have z:=Oq (∀{G}(h:G:=by
        clear ax;exact aFg),G);exact aEv
       ·have z:=Oq (∀{G}(h:G:=by
        clear ax;refine A _ _ ?_;clear A K;refine QV 4 fun K A=>?_;go_simp;exact aFg),G);exact aEv),G);exact aEu),G);exact aES),G);exact aqc),G);exact aya
     ·rw[if_neg hy] at a';have HL:((fx c.l j).toList==[40])=false:=VJ (b:=Rk) rfl hy;clear hy;have z:=Oq (∀{G}(h:G:=by
      go_wp2;go_ret;exact Ue a'.out.symm ⟨aZ,rfl,fo⟩ j1 jC),G);exact aya),G);exact XZ),G);exact amJ
