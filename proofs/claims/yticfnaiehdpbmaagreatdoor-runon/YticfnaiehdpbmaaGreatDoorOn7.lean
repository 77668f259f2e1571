import Derived.Test.YticfnaiehdpbmaaGreatDoorOn4
import Derived.Deep.MidRow
import Derived.Laws.AppendOwnNone
set_option maxRecDepth 100000
set_option maxHeartbeats 8000000
set_option linter.all false
namespace Go.Proofs.YticfnaiehdpbmaaGreatDoor
open Go.RowKit Go.Proofs.Tryz
def ajS {c:Ctx}{F:SX}(ah:FC c F)(w:Ov)(d i:Nat)(r:PR Tr)(E:(O9 c.l i).kd≠6)(ac:TJ c.l F d i=r)(aR:r≠.out)(h:PW c w i d):OE 153 #[Pj c] w (Qn c w d (NV w.heap.size) r):=by
 have jx:=RN c.R 224;have op:=hide E;have z:=Oq (∀{G}(h:G:=by
 clear E;have z:=Oq (∀{G}(h:G:=by
 unfold TJ at ac;have a':=hide ac;have dw:=hide aR;clear h ac aR;go_enter func153,ntmps153;have z:=Oq (∀{G}(h:G:=by
 have ai:=(PV hd Ox QD wk ⟨_,_,_,rfl⟩);go_wp2_with fail;refine cm ai ?_;rintro e BZ ⟨rfl,rfl⟩;obtain⟨cO,cP,df⟩:=aaS iY td (KV.nil _ _) hd Ox _ rfl;obtain⟨t0,jQ⟩:=xE (.mk hd Ox 0 []:Tr);have z:=Oq (∀{G}(h:G:=by
 have iP:aZ=wk.heap.size:=by simpa[Oo] using gP.symm
 have z:=Oq (∀{G}(h:G:=by
 obtain⟨fe,iz⟩:=xE (wk.alloc (Px hd Ox 0 QD));rw[<-iz] at eo jH kb iW uf;rw[<-iP] at eo iW uf;rw[<-iz,<-iP];clear iz iP
 by_cases nQ:hd=11
 ·rw[if_pos (Or.inl nQ)] at a';have HA:(hd==11)=true:=beq_iff_eq.2 nQ;clear nQ;have ck:=eo;have z:=Oq (∀{G}(h:G:=by
  cases aa:PD c.l F.vl d (i+1) with
  | out=>
   exact RS
  | bad er p=>
   have ai:=(VG ah fe.drew d (i+1) jH.drew (by rw[aa];nofun))
   rw[aa] at ai a';simp only[PG] at a';clear aa;go_wp2_with fail;have z:=Oq (∀{G}(h:G:=by
   have z:=Oq (∀{G}(h:G:=by
   refine wr2 4 8 (fun K A=>?_) fun K A=>?_
   ·go_simp;refine A _ _ ?_;clear A K;refine QV 8 fun K A=>?_;exact att
   ·exact att),G);exact amI),G);exact aaB
  | ok lB hm=>
   have ai:=(VG ah fe.drew d (i+1) jH.drew (by rw[aa];nofun))
   rw[aa] at ai a';simp only[bind_ok] at a';clear aa;go_wp2_with fail;refine acC (H:=fun aE cA=>Ap c.R fe.heap.size fe aE/\PW c aE hm d/\Qb (From fe.heap.size) aE lB cA) (G:=?G1) (fun dJ=>?_) ?_;rotate_left
   ·have z:=Oq (∀{G}(h:G:=by
    have z:=Oq (∀{G}(h:G:=by
    refine wr2 4 8 (fun K A=>?_) fun K A=>?_
    ·go_simp;refine A _ _ ?_;clear A K;refine QV 8 fun K A=>?_;have z:=Oq (∀{G}(h:G:=by
     have dy:=((Ap.refl c.R fe.heap.size fe).drew).next ax;have kN:Hid (Ap c.R fe.heap.size fe aE/\PW c aE hm d/\Qb (From fe.heap.size) aE lB cA):=⟨dy,ba,jO⟩;exact ayi),G);exact ahs
    ·have z:=Oq (∀{G}(h:G:=by
     have dy:=((Ap.refl c.R fe.heap.size fe).drew).next ax;have kN:Hid (Ap c.R fe.heap.size fe aE/\PW c aE hm d/\Qb (From fe.heap.size) aE lB cA):=⟨dy,ba,jO⟩;exact ayj),G);exact ahs),G);exact amI),G);exact aaB
   intro aE cA cw;obtain⟨dy,ba,jO⟩:=cw;have e7:=(kb.next dy);have fS:=ba;have eG:=(Open.later ck dy bS.out);have mZ:=(Open.apart ck kb.size dy bS.out (OL.cons jO OL.nil));obtain⟨gx,gy,hI⟩:=eG.cell;have hlen:=OL.length _ _ eG.kids;have hown:=eG.row;rw[hlen] at hown;have HOWN:=hown;have dd:=e7.size;have cM:t0.kids.length<=3:=by rw[jb.out];decide
   clear hlen;refine QV 10 fun K A=>?_;refine step_append_lies _ rfl _ _ 38 rfl w.heap.size 22 i0 Ri 1 8 underlying38 dR dA b9 cn rfl Oz _ _ _ rfl (HOWN.alloc _) (Ot aE.heap.size 0) 1 1 [Oo cA] rfl rfl (RY aE cA _ rfl) (one_one cA) Oz (by unfold maxLen;omega) Ou Rh (aE.heap.size+1) O8 ?_
   intro g cap ap hown3 eY db _;refine A _ _ ?_;clear A K;have gE:=hide (YX eG mZ fS e7 iF.out hown3 eY db);have gq:ap.cell? (Ot aZ 3)=aE.cell? (Ot aZ 3)/\ap.frozen? (Ot aZ 3)=aE.frozen? (Ot aZ 3):=ap2
   obtain⟨gN,gO⟩:=gq;rw[gx] at gN;rw[gy 3] at gO;clear db;refine wt 11 (Oo aZ) ?_;refine wt 12 (OM aZ 3) ?_;refine QV 13 fun K A=>?_;go_simp;refine A _ _ ?_;clear A K gN gO gx gy hI;refine wpAny_done PK ?_ _;go_simp;obtain⟨cO,cP,df⟩:=Om gE;have jF:=cO;have cZ:=cP;have jG:=df
   cases aa:Pm c.l Qv hm with
   | out=>
    exact RS
   | bad er p=>
    exact atq
   | ok cp bK=>
    exact aDP),G);exact ap9
 ·have HA:(hd==11)=false:=beq_eq_false_iff_ne.2 nQ;have ai:=(SN c fe (i+1) d jH)
  by_cases ae:fx c.l (i+1)=Qv
  ·rw[if_neg (fun hh=>hh.elim nQ (fun U=>U ae))] at a';have sr:((fx c.l (i+1)).toList==[59])=true:=V8 (b:=Qv) rfl ae;clear nQ ae;have z:=Oq (∀{G}(h:G:=by
   have jF:=ck.ev
   cases aa:Pm c.l Qv (i+1) with
   | out=>
    exact RS
   | bad er p=>
    have ai:=(Pq c Qv dM (i+1) d j1 Oz);rw[aa] at ai a';simp only[PG] at a';clear aa;have z:=Oq (∀{G}(h:G:=by
    exact⟨rfl,Qo a'.out.symm (jC.next ax)⟩),G);exact XW
   | ok cp bK=>
    have ai:=(Pq c Qv dM (i+1) d j1 Oz);have z:=Oq (∀{G}(h:G:=by
    intro e w1 al;obtain⟨⟨v1,rfl,rfl⟩,ba,ax⟩:=al;have ew:=(jC.next ax);exact aDQ),G);exact XZ),G);exact atB
  ·rw[if_pos (Or.inr ae)] at a';have sr:((fx c.l (i+1)).toList==[59])=false:=VJ (b:=Qv) rfl ae;clear nQ ae;have z:=Oq (∀{G}(h:G:=by
   have z:=Oq (∀{G}(h:G:=by
   cases aa:PD c.l F.vl d (i+1) with
   | out=>
    exact RS
   | bad er p=>
    have ai:=(VG ah dM.drew d (i+1) j1.drew (by rw[aa];nofun))
    rw[aa] at ai a';simp only[PG] at a';clear aa;go_wp2_with fail;have z:=Oq (∀{G}(h:G:=by
    have z:=Oq (∀{G}(h:G:=by
    refine wr2 4 8 (fun K A=>?_) fun K A=>?_
    ·go_simp;refine A _ _ ?_;clear A K;refine QV 8 fun K A=>?_;exact aD5
    ·exact aD5),G);exact amI),G);exact aaB
   | ok lB hm=>
    have ai:=(VG ah dM.drew d (i+1) j1.drew (by rw[aa];nofun))
    rw[aa] at ai a';simp only[bind_ok] at a';clear aa;go_wp2_with fail;refine acC (H:=fun aE cA=>Ap c.R dM.heap.size dM aE/\PW c aE hm d/\Qb (From dM.heap.size) aE lB cA) (G:=?G2) (fun dJ=>?_) ?_;rotate_left
    ·have z:=Oq (∀{G}(h:G:=by
     have z:=Oq (∀{G}(h:G:=by
     refine wr2 4 8 (fun K A=>?_) fun K A=>?_
     ·go_simp;refine A _ _ ?_;clear A K;refine QV 8 fun K A=>?_;have z:=Oq (∀{G}(h:G:=by
      have dy:=((Ap.refl c.R dM.heap.size dM).drew).next ax;have kN:Hid (Ap c.R dM.heap.size dM aE/\PW c aE hm d/\Qb (From dM.heap.size) aE lB cA):=⟨dy,ba,jO⟩;exact ayi),G);exact ahs
     ·have z:=Oq (∀{G}(h:G:=by
      have dy:=((Ap.refl c.R dM.heap.size dM).drew).next ax;have kN:Hid (Ap c.R dM.heap.size dM aE/\PW c aE hm d/\Qb (From dM.heap.size) aE lB cA):=⟨dy,ba,jO⟩;exact ayj),G);exact ahs),G);exact amI),G);exact aaB
    intro aE cA cw;obtain⟨dy,ba,jO⟩:=cw;have e7:=(jC.next dy);have fS:=ba;have eG:=(Open.later ck dy bS.out);have mZ:=(Open.apart ck jC.size dy bS.out (OL.cons jO OL.nil));obtain⟨gx,gy,hI⟩:=eG.cell;have hlen:=OL.length _ _ eG.kids;have hown:=eG.row;rw[hlen] at hown;have HOWN:=hown;have dd:=e7.size;have cM:t0.kids.length<=3:=by rw[jb.out];decide
    clear hlen;refine QV 10 fun K A=>?_;refine step_append_lies _ rfl _ _ 38 rfl w.heap.size 22 i0 Ri 1 8 underlying38 dR dA b9 cn rfl Oz _ _ _ rfl (HOWN.alloc _) (Ot aE.heap.size 0) 1 1 [Oo cA] rfl rfl (RY aE cA _ rfl) (one_one cA) Oz (by unfold maxLen;omega) Ou Rh (aE.heap.size+1) O8 ?_
    intro g cap ap hown3 eY db _;refine A _ _ ?_;clear A K;have gE:=hide (YX eG mZ fS e7 iF.out hown3 eY db);have gq:ap.cell? (Ot aZ 3)=aE.cell? (Ot aZ 3)/\ap.frozen? (Ot aZ 3)=aE.frozen? (Ot aZ 3):=ap2
    obtain⟨gN,gO⟩:=gq;rw[gx] at gN;rw[gy 3] at gO;clear db;refine wt 11 (Oo aZ) ?_;refine wt 12 (OM aZ 3) ?_;refine QV 13 fun K A=>?_;go_simp;refine A _ _ ?_;clear A K gN gO gx gy hI;refine wpAny_done PK ?_ _;go_simp;obtain⟨cO,cP,df⟩:=Om gE;have jF:=cO;have cZ:=cP;have jG:=df
    cases aa:Pm c.l Qv hm with
    | out=>
     exact RS
    | bad er p=>
     exact atq
    | ok cp bK=>
     exact aDP),G);exact ap9),G);exact atB),G);exact aE1),G);exact aEI),G);exact aEF),G);exact amJ),G);exact amL
def bind_assoc {α β γ:Type}(r:PR α)(f:α->Nat->PR β)(g:β->Nat->PR γ):(r.bind f).bind g=r.bind fun x i=>(f x i).bind g:=by cases r <;> rfl
def aHs {c:Ctx}{F:SX}(ah:FC c F)(hN:∃ k,FNx c.l k F)(w:Ov)(d i i0:Nat)(h:PW c w i d)(aS:Pm c.l abJ i=.ok () i0)(er:Int)(p:Nat)(D:PX c.l F d i0=.bad er p):OE 154 #[Pj c] w (Qn c w d (NV w.heap.size) (.bad er p)):=by
 obtain⟨sY,dR,dA,b9,cn⟩:=info_parts info22;have e1:=(Ap.refl c.R w.heap.size w);have z:=Oq (∀{G}(h:G:=by
 have xg:=(e1.next ax);have ai:=(QZ ah hN ed d i0 _ rfl (by rw[D];nofun) ba)
 rw[D] at ai;have z:=Oq (∀{G}(h:G:=by
 exact⟨rfl,Qo rfl (xg.next ax)⟩),G);exact XW),G);exact aEV
section
variable {c:Ctx} {F:SX} (ah:FC c F) (hN:∃ k,FNx c.l k F) (w:Ov) (d i i0:Nat) (h:PW c w i d) (aS:Pm c.l abJ i=.ok () i0) (b:Tr) (a7:Nat) (D:PX c.l F d i0=.ok b a7)
include c F ah hN w d i i0 h aS b a7 D
theorem aug (aj:fx c.l a7≠UH)(aH:fx c.l a7≠QM):OE 154 #[Pj c] w (Qn c w d (NV w.heap.size) (.bad 3 (O9 c.l a7).pl)):=by
 obtain⟨sY,dR,dA,b9,cn⟩:=info_parts info22;have e1:=(Ap.refl c.R w.heap.size w);have bS:=hide h.rlt;have z:=Oq (∀{G}(h:G:=by
 have bN:=Oq (∀{G}(h:G:=by
 have bN:=Oq (∀{G}(h:G:=by
 obtain⟨cO,cP,df⟩:=made ba rM (OL.cons rt OL.nil) (by simp[maxLen]) #[Oo bf] rfl 1 rfl 12 Ox (fy.heap.size+1) rfl;have bN:=Oq (∀{G}(h:G:=by
 have z:=Oq (∀{G}(h:G:=by
 rw[<-iz] at eo cP df;rw[<-iP] at eo;have z:=Oq (∀{G}(h:G:=by
 have z:=Oq (∀{G}(h:G:=by
 have ai:=(Uf c QM aE a7 d fS aH);go_wp2_with fail;refine cm ai ?_;rintro e dM ⟨rfl,D⟩;have j1:=(fS.later D);have jC:=(e7.next (Ap.of D));replace eo:=hide (Open.later eo (Ap.of D) bS.out);clear D;have z:=Oq (∀{G}(h:G:=by
 rw[jb.out] at kj;have ai:=(Vq c 3 dM a7 d j1);go_wp2_with fail;refine cm ai ?_;rintro e jU ⟨rfl,j4⟩;exact⟨rfl,Qo rfl (jC.next (Ap.of j4))⟩),G);exact aqc),G);exact aEG),G);exact atA),G);exact aty),G);exact ztt),G);exact ztu),G);exact ztz),G);exact aEV
theorem ayE (aj:fx c.l a7≠UH)(aH:fx c.l a7=QM)(b2:Tr)(i2:Nat)(aF:PX c.l F d (a7+1)=.ok b2 i2):OE 154 #[Pj c] w (Qn c w d (NV w.heap.size) (.ok (.mk 12 Ox 0 [b,.mk 14 Ox 0 [b2]]) i2)):=by
 have iF:=hide h.base.size;have z:=Oq (∀{G}(h:G:=by
 have ck:=eo;have jH:=cP;have kb:=df;have z:=Oq (∀{G}(h:G:=by
 rw[<-iz] at ck jH kb;rw[<-iP] at ck;have z:=Oq (∀{G}(h:G:=by
 have ai:=(Uf c UH fe a7 d jH aj);go_wp2_with fail;refine cm ai ?_;rintro e aE ⟨rfl,D⟩;have fS:=(jH.later D);have e7:=(kb.next (Ap.of D));replace ck:=(Open.later ck (Ap.of D) bS.out);clear D;have ai:=(SQ c QM aE a7 d fS aH Oz);go_wp2_with fail;refine cm ai ?_;rintro e dM ⟨rfl,ba,ax⟩;have j1:=ba;have jC:=(e7.next ax);replace ck:=(Open.later ck (ax) bS.out);have jD:=(QZ ah hN dM.drew d (a7+1) _ rfl (by rw[aF];nofun) j1.drew)
 rw[aF] at jD;have z:=Oq (∀{G}(h:G:=by
 go_wp2_with fail;refine acC (H:=fun aE cA=>Ap c.R dM.heap.size dM aE/\PW c aE i2 d/\Qb (From dM.heap.size) aE b2 cA) (G:=?G1) (fun dJ=>?_) ?_;rotate_left
 ·have z:=Oq (∀{G}(h:G:=by
  refine wt 5 (Pj c) ?_;refine wr2 4 6 (fun K A=>?_) fun K A=>?_
  ·have z:=Oq (∀{G}(h:G:=by
   have z:=Oq (∀{G}(h:G:=by
   have dy:=((Ap.refl c.R dM.heap.size dM).drew).next ax;have kN:Hid (Ap c.R dM.heap.size dM aE/\PW c aE i2 d/\Qb (From dM.heap.size) aE b2 cA):=⟨dy,ba,hB⟩;exact aE9),G);exact amK),G);exact atG
  ·go_simp;refine cm jD ?_;have z:=Oq (∀{G}(h:G:=by
   have dy:=((Ap.refl c.R dM.heap.size dM).drew).next ax;have kN:Hid (Ap c.R dM.heap.size dM aE/\PW c aE i2 d/\Qb (From dM.heap.size) aE b2 cA):=⟨dy,ba,hB⟩;exact aE7),G);exact amK),G);exact aaB
 intro aE cA cw;obtain⟨dy,ba,hB⟩:=cw;have e7:=(jC.next dy);have fS:=ba;have eG:=(Open.later ck dy bS.out);obtain⟨gx,gy,hI⟩:=eG.cell;have pA:aZ<aE.heap.size+1:=Ou;have pB:aZ<aE.heap.size+1+1:=Ou;obtain⟨bR,c7,hD⟩:=made (w:=dM) fS dy (OL.cons hB OL.nil) (by simp[maxLen]) #[Oo cA] rfl 1 rfl 14 Ox (aE.heap.size+1) rfl;have dZ:OD aE ((aE.alloc (.cells #[Oo cA] 22)).alloc (Px 14 Ox 0 (.slice (some (Ot aE.heap.size 0)) 1 1))):=PO.alloc O8 _
 obtain⟨wd,fb⟩:=xE ((aE.alloc (.cells #[Oo cA] 22)).alloc (Px 14 Ox 0 (.slice (some (Ot aE.heap.size 0)) 1 1)));have ag:(aE.alloc (.cells #[Oo cA] 22)).heap.size=aE.heap.size+1:=by simp
 obtain⟨q,iQ⟩:=xE (aE.heap.size+1);obtain⟨ie,mB,iw⟩:=bR.nv;have gP:ie=aE.heap.size+1:=by simpa[Oo] using mB.symm
 subst gP;have gR:wd.heap.size=q+1:=by rw[fb,iQ];simp
 rw[<-fb] at iw c7 hD dZ
 try rw[ag]
 rw[<-iQ] at iw
 try rw[<-iQ]
 try rw[<-fb]
 have im:=(Open.later eG (Ap.of dZ) bS.out);have jW:=(e7.next (Ap.of dZ));have p9:=(Open.apart ck jC.size hD bS.out (OL.cons iw OL.nil));obtain⟨mm,mn,py⟩:=im.cell;clear mB fb iQ ag gx gy hI pA pB;have hlen:=OL.length _ _ im.kids;have hown:=im.row;rw[hlen] at hown;have dd:=jW.size;have cM:t0.kids.length<=3:=by rw[jb.out];decide
 clear hlen;refine QV 10 fun K A=>?_;refine step_append_lies _ rfl _ _ 38 rfl w.heap.size 22 sY Ri 1 8 underlying38 dR dA b9 cn rfl Oz _ _ _ rfl (hown.alloc _) (Ot (q+1) 0) 1 1 [Oo q] rfl rfl (RY wd q _ gR) (one_one q) Oz (by unfold maxLen;omega) Ou Rh (wd.heap.size+1) O8 ?_
 clear gR;intro g cap ap hown3 eY db _;refine A _ _ ?_;clear A K;have gE:=hide (YX im p9 c7 jW iF.out hown3 eY db);have gq:ap.cell? (Ot aZ 3)=wd.cell? (Ot aZ 3)/\ap.frozen? (Ot aZ 3)=wd.frozen? (Ot aZ 3):=ap1
 obtain⟨gN,gO⟩:=gq;rw[mm] at gN;rw[mn 3] at gO;clear db;refine wt 11 (Oo aZ) ?_;refine wt 12 (OM aZ 3) ?_;refine QV 13 fun K A=>?_;go_simp;refine A _ _ ?_;clear A K gN gO mm mn py;refine wpAny_done PK ?_ _;go_simp;obtain⟨cO,cP,df⟩:=Om gE;obtain⟨kB,eV⟩:∃ qJ:Tr,qJ=.mk t0.kd t0.tx t0.n (t0.kids++[.mk 14 Ox 0 [b2]]):=⟨_,rfl⟩;rw[<-eV] at cO;have qS:Hid (kB.kids.length=t0.kids.length+1):=by
  show _=_
  rw[eV];simp[Tr.kids]
 have vo:=hide eV;obtain⟨pz,uz,yD,iX,hopz⟩:=cO.opens;have mC:pz=aZ:=by simpa[Oo] using iX.symm
 rw[mC] at hopz;obtain⟨bA,fJ⟩:=xE ((ap.setCell (Ot aZ 3) (.slice (some (Ot g 0)) (t0.kids.length+1) cap)));rw[<-fJ] at hopz cP df;rw[<-fJ];have ck:=hopz;clear iX fJ mC eV;obtain⟨kj,pI,dK⟩:=ck.cell;obtain⟨cV,uc,lW⟩:=ck.shape;subst lW;have eO:kB.kids.length=2:=by rw[qS.out,jb.out]
 rw[eO] at kj;clear eO;go_wp2;go_ret;have aK:=Om pq;have ay:=Om vo;have n3:=ck.ev.nv;rw[ay,aK] at n3;exact Ue rfl n3 cP df),G);exact ap9),G);exact atA),G);exact aty),G);exact zsj
theorem am1 (aj:fx c.l a7≠UH)(aH:fx c.l a7=QM)(er:Int)(p:Nat)(aF:PX c.l F d (a7+1)=.bad er p):OE 154 #[Pj c] w (Qn c w d (NV w.heap.size) (.bad er p)):=by
 have z:=Oq (∀{G}(h:G:=by
 have z:=Oq (∀{G}(h:G:=by
 rw[<-iz] at eo cP df;rw[<-iP] at eo;have z:=Oq (∀{G}(h:G:=by
 have z:=Oq (∀{G}(h:G:=by
 have ai:=(SQ c QM aE a7 d fS aH Oz);go_wp2_with fail;refine cm ai ?_;rintro e dM ⟨rfl,ba,ax⟩;have jC:=(e7.next ax);replace eo:=hide (Open.later eo (ax) bS.out);have jD:=(QZ ah hN dM.drew d (a7+1) _ rfl (by rw[aF];nofun) ba.drew)
 rw[aF] at jD;have z:=Oq (∀{G}(h:G:=by
 go_wp2_with fail;have z:=Oq (∀{G}(h:G:=by
 refine wt 5 (Pj c) ?_;refine wr2 4 6 (fun K A=>?_) fun K A=>?_
 ·have z:=Oq (∀{G}(h:G:=by
  intro e aE al;obtain⟨rfl,ax⟩:=al;exact⟨rfl,Qo rfl (jC.drew.next ax)⟩),G);exact atG
 ·go_simp;refine cm jD ?_;intro e aE al;obtain⟨rfl,ax⟩:=al;exact⟨rfl,Qo rfl (jC.drew.next ax)⟩),G);exact aaB),G);exact aqc),G);exact aEG),G);exact atA),G);exact aty),G);exact zsj
theorem abu (aj:fx c.l a7=UH)(er:Int)(p:Nat)(ag:Pm c.l Rk (a7+1)=.bad er p\/∃ i2,Pm c.l Rk (a7+1)=.ok () i2/\(nameP c.l i2=.bad er p\/∃ s i3,nameP c.l i2=.ok s i3/\(Pm c.l SA i3=.bad er p\/∃ i4,Pm c.l SA i3=.ok () i4/\PX c.l F d i4=.bad er p))):OE 154 #[Pj c] w (Qn c w d (NV w.heap.size) (.bad er p)):=by
 have bm:=hide ag;clear ag;have z:=Oq (∀{G}(h:G:=by
 have z:=Oq (∀{G}(h:G:=by
 rw[<-iz] at eo cP df;rw[<-iP] at eo;have z:=Oq (∀{G}(h:G:=by
 have ai:=(SQ c UH fe a7 d cP aj Oz);go_wp2_with fail;refine cm ai ?_;rintro e aE ⟨rfl,ba,ax⟩;have fS:=ba;have e7:=(df.next ax);replace eo:=hide (Open.later eo (ax) bS.out);have ai:=(Pq c Rk aE (a7+1) d fS Oz)
 rcases bm.out with U|⟨i2,U,ag⟩
 ·rw[U] at ai;have z:=Oq (∀{G}(h:G:=by
  exact⟨rfl,Qo rfl (e7.next ax)⟩),G);exact XW
 have bm:=hide ag;clear ag;rw[U] at ai;go_wp2_with fail;refine cm ai ?_;intro e wd al;obtain⟨⟨K',rfl,rfl⟩,ba,ax⟩:=al;have ox:=ba;have jW:=(e7.next ax);replace eo:=hide (Open.later eo (ax) bS.out);have ai:=(name_any c wd i2 d ox)
 rcases bm.out with aw|⟨s,i3,aw,ag⟩
 ·rw[aw] at ai;have z:=Oq (∀{G}(h:G:=by
  exact⟨rfl,Qo rfl (jW.next ax)⟩),G);exact XW
 have bm:=hide ag;clear ag;rw[aw] at ai;go_wp2_with fail;refine cm ai ?_;intro e BY al;obtain⟨⟨La,rfl,rfl⟩,ba,ax⟩:=al;have zA:=ba;have xh:=(jW.next ax);replace eo:=hide (Open.later eo (ax) bS.out);have ai:=(Pq c SA BY i3 d zA Oz)
 rcases bm.out with aL|⟨i4,aL,bE⟩
 ·rw[aL] at ai;have z:=Oq (∀{G}(h:G:=by
  exact⟨rfl,Qo rfl (xh.next ax)⟩),G);exact XW
 rw[aL] at ai;go_wp2_with fail;refine cm ai ?_;intro e jV al;obtain⟨⟨Lb,rfl,rfl⟩,ba,ax⟩:=al;have qM:=(xh.next ax);replace eo:=hide (Open.later eo (ax) bS.out);have gf:=(QZ ah hN jV.drew d i4 _ rfl (by rw[bE];nofun) ba.drew)
 rw[bE] at gf;have z:=Oq (∀{G}(h:G:=by
 go_wp2_with fail;have z:=Oq (∀{G}(h:G:=by
 refine wt 5 (OB s) ?_;refine wt 6 (Pj c) ?_;refine wr2 4 7 (fun K A=>?_) fun K A=>?_
 ·go_simp;refine A _ _ ?_;clear A K;refine QV 7 fun K A=>?_;exact aD7
 ·exact aD7),G);exact aaB),G);exact aqc),G);exact atA),G);exact aty),G);exact zsj
theorem aqI (aj:fx c.l a7=UH)(i2:Nat)(U:Pm c.l Rk (a7+1)=.ok () i2)(s:OH)(i3:Nat)(aw:nameP c.l i2=.ok s i3)(i4:Nat)(aL:Pm c.l SA i3=.ok () i4)(b2:Tr)(i5:Nat)(bE:PX c.l F d i4=.ok b2 i5)(aH:fx c.l i5≠QM):OE 154 #[Pj c] w (Qn c w d (NV w.heap.size) (.ok (.mk 12 Ox 0 [b,.mk 13 s 0 [b2]]) i5)):=by
 have iF:=hide h.base.size;have z:=Oq (∀{G}(h:G:=by
 have z:=Oq (∀{G}(h:G:=by
 refine acC (H:=fun aE cA=>Ap c.R jV.heap.size jV aE/\PW c aE i5 d/\Qb (From jV.heap.size) aE b2 cA) (G:=?G2) (fun dJ=>?_) ?_;rotate_left
 ·exact ayp
 intro aE cA cw;obtain⟨dy,ba,hB⟩:=cw;have e7:=(qM.next dy);have fS:=ba;have eG:=(Open.later ck dy bS.out);obtain⟨gx,gy,hI⟩:=eG.cell;have pA:aZ<aE.heap.size+1:=Ou;have pB:aZ<aE.heap.size+1+1:=Ou;obtain⟨bR,c7,hD⟩:=made (w:=jV) fS dy (OL.cons hB OL.nil) (by simp[maxLen]) #[Oo cA] rfl 1 rfl 13 s (aE.heap.size+1) rfl;have dZ:OD aE ((aE.alloc (.cells #[Oo cA] 22)).alloc (Px 13 s 0 (.slice (some (Ot aE.heap.size 0)) 1 1))):=PO.alloc O8 _
 obtain⟨wd,fb⟩:=xE ((aE.alloc (.cells #[Oo cA] 22)).alloc (Px 13 s 0 (.slice (some (Ot aE.heap.size 0)) 1 1)));have ag:(aE.alloc (.cells #[Oo cA] 22)).heap.size=aE.heap.size+1:=by simp
 obtain⟨q,iQ⟩:=xE (aE.heap.size+1);obtain⟨ie,mB,iw⟩:=bR.nv;have gP:ie=aE.heap.size+1:=by simpa[Oo] using mB.symm
 subst gP;have gR:wd.heap.size=q+1:=by rw[fb,iQ];simp
 rw[<-fb] at iw c7 hD dZ
 try rw[ag]
 rw[<-iQ] at iw
 try rw[<-iQ]
 try rw[<-fb]
 have im:=(Open.later eG (Ap.of dZ) bS.out);have jW:=(e7.next (Ap.of dZ));have ox:=c7;have p9:=(Open.apart ck qM.size hD bS.out (OL.cons iw OL.nil));obtain⟨mm,mn,py⟩:=im.cell;clear mB fb iQ ag gx gy hI pA pB;have hlen:=OL.length _ _ im.kids;have hown:=im.row;rw[hlen] at hown;have dd:=jW.size;have cM:t0.kids.length<=3:=by rw[jb.out];decide
 clear hlen;refine QV 11 fun K A=>?_;refine step_append_lies _ rfl _ _ 38 rfl w.heap.size 22 sY Ri 1 8 underlying38 dR dA b9 cn rfl Oz _ _ _ rfl (hown.alloc _) (Ot (q+1) 0) 1 1 [Oo q] rfl rfl (RY wd q _ gR) (one_one q) Oz (by unfold maxLen;omega) Ou Rh (wd.heap.size+1) O8 ?_
 clear gR;intro g cap ap hown3 eY db _;refine A _ _ ?_;clear A K;have gE:=hide (YX im p9 ox jW iF.out hown3 eY db);have gq:ap.cell? (Ot aZ 3)=wd.cell? (Ot aZ 3)/\ap.frozen? (Ot aZ 3)=wd.frozen? (Ot aZ 3):=ap1
 obtain⟨gN,gO⟩:=gq;rw[mm] at gN;rw[mn 3] at gO;clear db;refine wt 12 (Oo aZ) ?_;refine wt 13 (OM aZ 3) ?_;refine QV 14 fun K A=>?_;go_simp;refine A _ _ ?_;clear A K gN gO mm mn py;refine wpAny_done PK ?_ _;go_simp;obtain⟨cO,cP,df⟩:=Om gE;obtain⟨kB,eV⟩:∃ qJ:Tr,qJ=.mk t0.kd t0.tx t0.n (t0.kids++[.mk 13 s 0 [b2]]):=⟨_,rfl⟩;rw[<-eV] at cO;have qS:Hid (kB.kids.length=t0.kids.length+1):=by
  show _=_
  rw[eV];simp[Tr.kids]
 have vo:=hide eV;obtain⟨pz,uz,yD,iX,hopz⟩:=cO.opens;have mC:pz=aZ:=by simpa[Oo] using iX.symm
 rw[mC] at hopz;obtain⟨bA,fJ⟩:=xE ((ap.setCell (Ot aZ 3) (.slice (some (Ot g 0)) (t0.kids.length+1) cap)));rw[<-fJ] at hopz cP df;rw[<-fJ];have ck:=hopz;clear iX fJ mC eV;have ai:=(Uf c QM bA i5 d cP aH);go_wp2_with fail;refine cm ai ?_;rintro e wz ⟨rfl,D⟩;have zB:=(cP.later D);have rO:=(df.next (Ap.of D));replace ck:=(Open.later ck (Ap.of D) bS.out);clear D;obtain⟨kj,pI,dK⟩:=ck.cell;obtain⟨cV,uc,lW⟩:=ck.shape;subst lW;have eO:kB.kids.length=2:=by rw[qS.out,jb.out]
 rw[eO] at kj;clear eO;go_wp2;go_ret;have aK:=Om pq;have ay:=Om vo;have n3:=ck.ev.nv;rw[ay,aK] at n3;exact Ue rfl n3 zB rO),G);exact zsx),G);exact zsj
end
def aHt {c:Ctx}(w:Ov)(d i:Nat)(h:PW c w i d)(er:Int)(p:Nat)(aS:Pm c.l abJ i=.bad er p):OE 154 #[Pj c] w (Qn c w d (NV w.heap.size) (.bad er p)):=by
 have e1:=(Ap.refl c.R w.heap.size w);go_enter func154,ntmps154;have ai:=(Pq c abJ w i d h Oz);rw[aS] at ai;have z:=Oq (∀{G}(h:G:=by
 exact⟨rfl,Qo rfl (e1.next ax)⟩),G);exact XW
section
variable {c:Ctx} {F:SX} (ah:FC c F) (hN:∃ k,FNx c.l k F) (w:Ov) (d i i0:Nat) (h:PW c w i d) (aS:Pm c.l abJ i=.ok () i0) (b:Tr) (a7:Nat) (D:PX c.l F d i0=.ok b a7) (aj:fx c.l a7=UH) (i2:Nat) (U:Pm c.l Rk (a7+1)=.ok () i2) (s:OH) (i3:Nat) (aw:nameP c.l i2=.ok s i3) (i4:Nat) (aL:Pm c.l SA i3=.ok () i4) (b2:Tr) (i5:Nat) (bE:PX c.l F d i4=.ok b2 i5) (aH:fx c.l i5=QM)
include c F ah hN w d i i0 h aS b a7 D aj i2 U s i3 aw i4 aL b2 i5 bE aH
theorem auh (em:Tr)(pT:Nat)(bX:PX c.l F d (i5+1)=.ok em pT):OE 154 #[Pj c] w (Qn c w d (NV w.heap.size) (.ok (.mk 12 Ox 0 [b,.mk 13 s 0 [b2],.mk 14 Ox 0 [em]]) pT)):=by
 have iF:=hide h.base.size;have z:=Oq (∀{G}(h:G:=by
 have z:=Oq (∀{G}(h:G:=by
 refine acC (H:=fun aE cA=>Ap c.R jV.heap.size jV aE/\PW c aE i5 d/\Qb (From jV.heap.size) aE b2 cA) (G:=?G3) (fun dJ=>?_) ?_;rotate_left
 ·exact ayp
 intro aE cA cw;obtain⟨dy,ba,hB⟩:=cw;have e7:=(qM.next dy);have yH:=dy;have fS:=ba;have eG:=(Open.later ck dy bS.out);have mZ:=hB;obtain⟨gx,gy,hI⟩:=eG.cell;have pA:aZ<aE.heap.size+1:=Ou;have pB:aZ<aE.heap.size+1+1:=Ou;obtain⟨bR,c7,hD⟩:=made (w:=jV) fS yH (OL.cons mZ OL.nil) (by simp[maxLen]) #[Oo cA] rfl 1 rfl 13 s (aE.heap.size+1) rfl;have dZ:OD aE ((aE.alloc (.cells #[Oo cA] 22)).alloc (Px 13 s 0 (.slice (some (Ot aE.heap.size 0)) 1 1))):=PO.alloc O8 _
 obtain⟨wd,fb⟩:=xE ((aE.alloc (.cells #[Oo cA] 22)).alloc (Px 13 s 0 (.slice (some (Ot aE.heap.size 0)) 1 1)));have ag:(aE.alloc (.cells #[Oo cA] 22)).heap.size=aE.heap.size+1:=by simp
 obtain⟨q,iQ⟩:=xE (aE.heap.size+1);obtain⟨ie,mB,iw⟩:=bR.nv;have gP:ie=aE.heap.size+1:=by simpa[Oo] using mB.symm
 subst gP;have gR:wd.heap.size=q+1:=by rw[fb,iQ];simp
 rw[<-fb] at iw c7 hD dZ
 try rw[ag]
 rw[<-iQ] at iw
 try rw[<-iQ]
 try rw[<-fb]
 have im:=(Open.later eG (Ap.of dZ) bS.out);have jW:=(e7.next (Ap.of dZ));have ox:=c7;have p9:=(Open.apart ck qM.size hD bS.out (OL.cons iw OL.nil));obtain⟨mm,mn,py⟩:=im.cell;clear mB fb iQ ag gx gy hI pA pB;have hlen:=OL.length _ _ im.kids;have hown:=im.row;rw[hlen] at hown;have HOWN:=hown;have dd:=jW.size;have cM:t0.kids.length<=3:=by rw[jb.out];decide
 clear hlen;refine QV 11 fun K A=>?_;refine step_append_lies _ rfl _ _ 38 rfl w.heap.size 22 sY Ri 1 8 underlying38 dR dA b9 cn rfl Oz _ _ _ rfl (HOWN.alloc _) (Ot (q+1) 0) 1 1 [Oo q] rfl rfl (RY wd q _ gR) (one_one q) Oz (by unfold maxLen;omega) Ou Rh (wd.heap.size+1) O8 ?_
 clear gR;intro g cap ap hown3 eY db _;refine A _ _ ?_;clear A K;have gE:=hide (YX im p9 ox jW iF.out hown3 eY db);have gq:ap.cell? (Ot aZ 3)=wd.cell? (Ot aZ 3)/\ap.frozen? (Ot aZ 3)=wd.frozen? (Ot aZ 3):=ap1
 obtain⟨gN,gO⟩:=gq;rw[mm] at gN;rw[mn 3] at gO;clear db;refine wt 12 (Oo aZ) ?_;refine wt 13 (OM aZ 3) ?_;refine QV 14 fun K A=>?_;go_simp;refine A _ _ ?_;clear A K gN gO mm mn py;refine wpAny_done PK ?_ _;go_simp;obtain⟨cO,cP,df⟩:=Om gE;obtain⟨kB,eV⟩:∃ qJ:Tr,qJ=.mk t0.kd t0.tx t0.n (t0.kids++[.mk 13 s 0 [b2]]):=⟨_,rfl⟩;rw[<-eV] at cO;have qS:Hid (kB.kids.length=t0.kids.length+1):=by
  show _=_
  rw[eV];simp[Tr.kids]
 have vo:=hide eV;obtain⟨pz,uz,yD,iX,hopz⟩:=cO.opens;have mC:pz=aZ:=by simpa[Oo] using iX.symm
 rw[mC] at hopz;obtain⟨bA,fJ⟩:=xE ((ap.setCell (Ot aZ 3) (.slice (some (Ot g 0)) (t0.kids.length+1) cap)));rw[<-fJ] at hopz cP df;rw[<-fJ];have ck:=hopz;have GT:=cP;have Fy:=df;clear iX fJ mC eV;have ai:=(SQ c QM bA i5 d GT aH Oz);go_wp2_with fail;refine cm ai ?_;rintro e wz ⟨rfl,ba,ax⟩;have zB:=ba;have rO:=(Fy.next ax);replace ck:=(Open.later ck (ax) bS.out);have Cr:Hid (kB.kids.length=2):=by
  show _=_
  rw[qS.out,jb.out]
 have jD:=(QZ ah hN wz.drew d (i5+1) _ rfl (by rw[bX];nofun) zB.drew)
 rw[bX] at jD;obtain⟨kj,pI,dK⟩:=ck.cell;obtain⟨cV,uc,lW⟩:=ck.shape;subst lW;go_wp2_with fail;refine acC (H:=fun aE cA=>Ap c.R wz.heap.size wz aE/\PW c aE pT d/\Qb (From wz.heap.size) aE em cA) (G:=?G4) (fun dJ=>?_) ?_;rotate_left
 ·have z:=Oq (∀{G}(h:G:=by
  refine wt 5 (Pj c) ?_;refine wr2 4 6 (fun K A=>?_) fun K A=>?_
  ·have z:=Oq (∀{G}(h:G:=by
   have z:=Oq (∀{G}(h:G:=by
   have dy:=((Ap.refl c.R wz.heap.size wz).drew).next ax;have kN:Hid (Ap c.R wz.heap.size wz aE/\PW c aE pT d/\Qb (From wz.heap.size) aE em cA):=⟨dy,ba,hB⟩;exact aE9),G);exact amK),G);exact atG
  ·go_simp;refine cm jD ?_;have z:=Oq (∀{G}(h:G:=by
   have dy:=((Ap.refl c.R wz.heap.size wz).drew).next ax;have kN:Hid (Ap c.R wz.heap.size wz aE/\PW c aE pT d/\Qb (From wz.heap.size) aE em cA):=⟨dy,ba,hB⟩;exact aE7),G);exact amK),G);exact aaB
 intro aE cA cw;obtain⟨dy,ba,hB⟩:=cw;have e7:=(rO.next dy);have yH:=dy;have fS:=ba;have eG:=(Open.later ck dy bS.out);have mZ:=hB;obtain⟨gx,gy,hI⟩:=eG.cell;have pA:aZ<aE.heap.size+1:=Ou;have pB:aZ<aE.heap.size+1+1:=Ou;obtain⟨bR,c7,hD⟩:=made (w:=wz) fS yH (OL.cons mZ OL.nil) (by simp[maxLen]) #[Oo cA] rfl 1 rfl 14 Ox (aE.heap.size+1) rfl;have dZ:OD aE ((aE.alloc (.cells #[Oo cA] 22)).alloc (Px 14 Ox 0 (.slice (some (Ot aE.heap.size 0)) 1 1))):=PO.alloc O8 _
 obtain⟨wd,fb⟩:=xE ((aE.alloc (.cells #[Oo cA] 22)).alloc (Px 14 Ox 0 (.slice (some (Ot aE.heap.size 0)) 1 1)));have ag:(aE.alloc (.cells #[Oo cA] 22)).heap.size=aE.heap.size+1:=by simp
 obtain⟨q,iQ⟩:=xE (aE.heap.size+1);obtain⟨ie,mB,iw⟩:=bR.nv;have gP:ie=aE.heap.size+1:=by simpa[Oo] using mB.symm
 subst gP;have gR:wd.heap.size=q+1:=by rw[fb,iQ];simp
 rw[<-fb] at iw c7 hD dZ
 try rw[ag]
 rw[<-iQ] at iw
 try rw[<-iQ]
 try rw[<-fb]
 have im:=(Open.later eG (Ap.of dZ) bS.out);have jW:=(e7.next (Ap.of dZ));have ox:=c7;have p9:=(Open.apart ck rO.size hD bS.out (OL.cons iw OL.nil));obtain⟨mm,mn,py⟩:=im.cell;clear mB fb iQ ag gx gy hI pA pB;have hlen:=OL.length _ _ im.kids;have hown:=im.row;rw[hlen] at hown;have HOWN:=hown;have dd:=jW.size;have cM:kB.kids.length<=3:=by rw[Cr.out];decide
 clear hlen;refine QV 10 fun K A=>?_;refine step_append_lies _ rfl _ _ 38 rfl w.heap.size 22 sY Ri 1 8 underlying38 dR dA b9 cn rfl Oz _ _ _ rfl (HOWN.alloc _) (Ot (q+1) 0) 1 1 [Oo q] rfl rfl (RY wd q _ gR) (one_one q) Oz (by unfold maxLen;omega) Ou Rh (wd.heap.size+1) O8 ?_
 clear gR;intro g cap ap hown3 eY db _;refine A _ _ ?_;clear A K;have gE:=hide (YX im p9 ox jW iF.out hown3 eY db);have gq:ap.cell? (Ot aZ 3)=wd.cell? (Ot aZ 3)/\ap.frozen? (Ot aZ 3)=wd.frozen? (Ot aZ 3):=ap1
 obtain⟨gN,gO⟩:=gq;rw[mm] at gN;rw[mn 3] at gO;clear db;refine wt 11 (Oo aZ) ?_;refine wt 12 (OM aZ 3) ?_;refine QV 13 fun K A=>?_;go_simp;refine A _ _ ?_;clear A K gN gO mm mn py;refine wpAny_done PK ?_ _;go_simp;obtain⟨cO,cP,df⟩:=Om gE;obtain⟨Fh,eV⟩:∃ qJ:Tr,qJ=.mk kB.kd kB.tx kB.n (kB.kids++[.mk 14 Ox 0 [em]]):=⟨_,rfl⟩;rw[<-eV] at cO;have Gj:Hid (Fh.kids.length=kB.kids.length+1):=by
  show _=_
  rw[eV];simp[Tr.kids]
 have Hh:=hide eV;obtain⟨pz,uz,yD,iX,hopz⟩:=cO.opens;have mC:pz=aZ:=by simpa[Oo] using iX.symm
 rw[mC] at hopz;obtain⟨bA,fJ⟩:=xE ((ap.setCell (Ot aZ 3) (.slice (some (Ot g 0)) (kB.kids.length+1) cap)));rw[<-fJ] at hopz cP df;rw[<-fJ];have ck:=hopz;clear iX fJ mC eV;obtain⟨kj,pI,dK⟩:=ck.cell;obtain⟨cV,uc,lW⟩:=ck.shape;subst lW;have eO:Fh.kids.length=3:=by rw[Gj.out,qS.out,jb.out]
 rw[eO] at kj;clear eO;go_wp2;go_ret;have aK:=Om pq;have ay:=Om vo;have bz:=Om Hh;have n3:=ck.ev.nv;rw[bz,ay,aK] at n3;exact Ue rfl n3 cP df),G);exact zsx),G);exact zsj
theorem ajT (er:Int)(p:Nat)(bX:PX c.l F d (i5+1)=.bad er p):OE 154 #[Pj c] w (Qn c w d (NV w.heap.size) (.bad er p)):=by
 have iF:=hide h.base.size;have z:=Oq (∀{G}(h:G:=by
 have z:=Oq (∀{G}(h:G:=by
 refine acC (H:=fun aE cA=>Ap c.R jV.heap.size jV aE/\PW c aE i5 d/\Qb (From jV.heap.size) aE b2 cA) (G:=?G5) (fun dJ=>?_) ?_;rotate_left
 ·exact ayp
 intro aE cA cw;obtain⟨dy,ba,hB⟩:=cw;have e7:=(qM.next dy);have fS:=ba;have eG:=(Open.later ck dy bS.out);obtain⟨gx,gy,hI⟩:=eG.cell;have pA:aZ<aE.heap.size+1:=Ou;have pB:aZ<aE.heap.size+1+1:=Ou;obtain⟨bR,c7,hD⟩:=made (w:=jV) fS dy (OL.cons hB OL.nil) (by simp[maxLen]) #[Oo cA] rfl 1 rfl 13 s (aE.heap.size+1) rfl;have dZ:OD aE ((aE.alloc (.cells #[Oo cA] 22)).alloc (Px 13 s 0 (.slice (some (Ot aE.heap.size 0)) 1 1))):=PO.alloc O8 _
 obtain⟨wd,fb⟩:=xE ((aE.alloc (.cells #[Oo cA] 22)).alloc (Px 13 s 0 (.slice (some (Ot aE.heap.size 0)) 1 1)));have ag:(aE.alloc (.cells #[Oo cA] 22)).heap.size=aE.heap.size+1:=by simp
 obtain⟨q,iQ⟩:=xE (aE.heap.size+1);obtain⟨ie,mB,iw⟩:=bR.nv;have gP:ie=aE.heap.size+1:=by simpa[Oo] using mB.symm
 subst gP;have gR:wd.heap.size=q+1:=by rw[fb,iQ];simp
 rw[<-fb] at iw c7 hD dZ
 try rw[ag]
 rw[<-iQ] at iw
 try rw[<-iQ]
 try rw[<-fb]
 have im:=(Open.later eG (Ap.of dZ) bS.out);have jW:=(e7.next (Ap.of dZ));have ox:=c7;have p9:=(Open.apart ck qM.size hD bS.out (OL.cons iw OL.nil));obtain⟨mm,mn,py⟩:=im.cell;clear mB fb iQ ag gx gy hI pA pB;have hlen:=OL.length _ _ im.kids;have hown:=im.row;rw[hlen] at hown;have dd:=jW.size;have cM:t0.kids.length<=3:=by rw[jb.out];decide
 clear hlen;refine QV 11 fun K A=>?_;refine step_append_lies _ rfl _ _ 38 rfl w.heap.size 22 sY Ri 1 8 underlying38 dR dA b9 cn rfl Oz _ _ _ rfl (hown.alloc _) (Ot (q+1) 0) 1 1 [Oo q] rfl rfl (RY wd q _ gR) (one_one q) Oz (by unfold maxLen;omega) Ou Rh (wd.heap.size+1) O8 ?_
 clear gR;intro g cap ap hown3 eY db _;refine A _ _ ?_;clear A K;have gE:=hide (YX im p9 ox jW iF.out hown3 eY db);have gq:ap.cell? (Ot aZ 3)=wd.cell? (Ot aZ 3)/\ap.frozen? (Ot aZ 3)=wd.frozen? (Ot aZ 3):=ap1
 obtain⟨gN,gO⟩:=gq;rw[mm] at gN;rw[mn 3] at gO;clear db;refine wt 12 (Oo aZ) ?_;refine wt 13 (OM aZ 3) ?_;refine QV 14 fun K A=>?_;go_simp;refine A _ _ ?_;clear A K gN gO mm mn py;refine wpAny_done PK ?_ _;go_simp;obtain⟨cO,cP,df⟩:=Om gE;obtain⟨kB,eV⟩:∃ qJ:Tr,qJ=.mk t0.kd t0.tx t0.n (t0.kids++[.mk 13 s 0 [b2]]):=⟨_,rfl⟩;rw[<-eV] at cO;have qS:Hid (kB.kids.length=t0.kids.length+1):=by
  show _=_
  rw[eV];simp[Tr.kids]
 obtain⟨pz,uz,yD,iX,hopz⟩:=cO.opens;have mC:pz=aZ:=by simpa[Oo] using iX.symm
 rw[mC] at hopz;obtain⟨bA,fJ⟩:=xE ((ap.setCell (Ot aZ 3) (.slice (some (Ot g 0)) (t0.kids.length+1) cap)));rw[<-fJ] at hopz cP df;rw[<-fJ];have ck:=hopz;clear iX fJ mC eV;have ai:=(SQ c QM bA i5 d cP aH Oz);go_wp2_with fail;refine cm ai ?_;rintro e wz ⟨rfl,ba,ax⟩;have rO:=(df.next ax);replace ck:=(Open.later ck (ax) bS.out);have Cr:Hid (kB.kids.length=2):=by
  show _=_
  rw[qS.out,jb.out]
 have jD:=(QZ ah hN wz.drew d (i5+1) _ rfl (by rw[bX];nofun) ba.drew)
 rw[bX] at jD;obtain⟨kj,pI,dK⟩:=ck.cell;obtain⟨cV,uc,lW⟩:=ck.shape;subst lW;go_wp2_with fail;refine wp_region_any PK ?_;change wpAny _ _ _ _ _ _ _ (World.drew _);refine wt 0 (Oo aZ) ?_;refine wt 1 (Oo aZ) ?_;refine wt 2 (Oo aZ) ?_;refine wt 3 (OM aZ 3) ?_;refine wt 5 (Pj c) ?_;refine wr2 4 6 (fun K A=>?_) fun K A=>?_
 ·have z:=Oq (∀{G}(h:G:=by
  intro e aE al;obtain⟨rfl,ax⟩:=al;exact⟨rfl,Qo rfl (rO.drew.next ax)⟩),G);exact atG
 ·go_simp;refine cm jD ?_;intro e aE al;obtain⟨rfl,ax⟩:=al;exact⟨rfl,Qo rfl (rO.drew.next ax)⟩),G);exact zsx),G);exact zsj
