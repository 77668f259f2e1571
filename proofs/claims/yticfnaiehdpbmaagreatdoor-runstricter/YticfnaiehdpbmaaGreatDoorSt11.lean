import Derived.Test.YticfnaiehdpbmaaGreatDoorSt10
import Derived.Sort.Walk0
set_option maxRecDepth 100000
set_option maxHeartbeats 8000000
set_option linter.all false
namespace Go.Proofs.YticfnaiehdpbmaaGreatDoor
open Go.RowKit Go.Proofs.Tryz
namespace Hp
def EPost (w0:Og)(mb af:Nat)(O:List Nat)(es:Ot)(w:Og)(r:Er × St)(e:Ending)(w':Og):Prop:=
 (∃ ev,e=OA ev/\WZ es w' ev r.1)/\Ms w0 mb af O w' r.2/\OV none mb w w'
def abO (M:Mo)(o:Int)(nm:Ou)(v:Va)(fx:Bool):(M.put o nm v fx).1=0\/(M.put o nm v fx).1=7:=by
 unfold Mo.put
 repeat' split
 all_goals first|exact Or.inl rfl|exact Or.inr rfl
def aiM (M:Mo)(s:Int)(nm:Ou)(v:Va):(M.start s nm v).1=0\/(M.start s nm v).1=7:=by
 unfold Mo.start
 repeat' split
 all_goals first|exact Or.inl rfl|exact Or.inr rfl
def aoS {es:Ot}{w:Og}{c:Int}(h:c=0\/c=7):WZ es w (TT c) (erP c):=by
 rcases h with rfl|rfl
 all_goals
  rfl
section
variable {w0:Og} {mb af:Nat} {O:List Nat} {es aT aB aA aK:Ot} {w w':Og} {σ:St} {N:Nat}
def Ms.et (h:Ms w0 mb af O w σ)(a1:Bs w0 mb af O es)(aZ:Rj w0):Rj w:=Vd aZ h.below (by rw[<-a1.sz];exact YG aZ)
def ac5 (aJ:Ms w0 mb af O w σ)(s:Int)(nm:Ou)(v:Va)  :
  Oq 268 #[N7 mb,NY s,Oj nm,vA v,Om true] w (EPost w0 mb af O es w (bad QN,σ)):=by
 have z:=N8 (∀{G}(h:G:=by
 have cU:=(aJ.later aE);have dk:=cU.lt;have cG:=(OV.of (L:=none) aE (OO bG));clear eY;go_enter func268,ntmps268;go_wp2_with fail;rw[<-bo.out];refine cm (UQ (es:=es) dk QN) ?_;rintro e gV ⟨⟨ev,rfl,aL⟩,g6⟩;have ox:=(cU.later g6);have oq:=(cG.trans (OV.of (L:=none) g6 (OO dk)));go_wp2;go_ret;exact⟨⟨_,rfl,aL⟩,ox,oq⟩),G);exact aiN
section
variable (aJ:Ms w0 mb af O w σ) (aH:Sz N σ) (hN:N<1000000000) (s:Int) (nm:Ou) (v:Va)
include aJ aH hN s nm v
def agG (aO:σ.M.QX s = -1) :
  Oq 268 #[N7 mb,NY s,Oj nm,vA v,Om false] w (EPost w0 mb af O es w (erP (σ.M.put 0 nm v false).1,σ.Qx 0 nm v false)):=by
 have z:=N8 (∀{G}(h:G:=by
 rw[aO] at m3;clear oW;have⟨oH,ih⟩:=xE ((σ.M.put 0 nm v false).1);have lL:=hide (abO σ.M 0 nm v false);have pn:=hide (fun X (ak:Oo w2 X)=>YL (eC.later ak) aH hN 0 nm v false);rw[<-ih] at lL pn ⊢;have gd:=hide (cells3 eY);have h5:=lt_of_heap eY;clear eY ih aO;have z:=N8 (∀{G}(h:G:=by
 have z:=N8 (∀{G}(h:G:=by
 refine uh 3 (NY 0) (ae) ?_;exact aAX),G);exact TI),G);exact aAY),G);exact aAZ
def aiO (aO:σ.M.QX s≠-1) :
  Oq 268 #[N7 mb,NY s,Oj nm,vA v,Om false] w (EPost w0 mb af O es w (erP (σ.M.put (σ.M.QX s) nm v false).1,σ.Qx (σ.M.QX s) nm v false)):=by
 have z:=N8 (∀{G}(h:G:=by
 rw[<-oW] at m3 aO ⊢;have kw:¬ o = -1:=aO;clear oW aO;have⟨oH,ih⟩:=xE ((σ.M.put o nm v false).1);have lL:=hide (abO σ.M o nm v false);have pn:=hide (fun X (ak:Oo w2 X)=>YL (eC.later ak) aH hN o nm v false);rw[<-ih] at lL pn ⊢;have gd:=hide (cells3 eY);have h5:=lt_of_heap eY;clear eY ih;have z:=N8 (∀{G}(h:G:=by
 have z:=N8 (∀{G}(h:G:=by
 refine uh 3 (NY o) (ae) ?_;exact aAX),G);exact TI),G);exact aAY),G);exact aAZ
def aoT (st:Bool) :
  Oq 268 #[N7 mb,NY s,Oj nm,vA v,Om st] w (EPost w0 mb af O es w (Wy s nm v st σ)):=by
 unfold Wy
 cases st with
 | true=>exact ac5 aJ s nm v
 | false=>
  by_cases aO:σ.M.QX s = -1
  ·have h:=agG (es:=es) aJ aH hN s nm v aO;simp only[Bool.false_eq_true,if_false,if_pos aO];exact h
  ·have h:=aiO (es:=es) aJ aH hN s nm v aO;simp only[Bool.false_eq_true,if_false,if_neg aO];exact h
end
section
variable (a1:Bs w0 mb af O es) (aZ:Rj w0) (aJ:Ms w0 mb af O w σ) (aH:Sz N σ) (hN:N+1<1000000000) (s:Int) (nm:Ou) (v:Va)
include a1 aZ aJ aH hN s nm v
def aA0 (st:Bool)(ai:(σ.M.write s nm v).1=7) :
  Oq 197 #[N7 mb,NY s,Oj nm,vA v,Om st] w (EPost w0 mb af O es w (Wy s nm v st { σ with M:=(σ.M.write s nm v).2 })):=by
 have z:=N8 (∀{G}(h:G:=by
 have fa:=hide eY;have z:=N8 (∀{G}(h:G:=by
 have lP:=hide (nZ.keep fa.out Ol);have cT:=(cG.trans nZ);have fQ:=eu.lt;have ss:=(VR 7 aq (eu.et a1 aZ));refine PS 7 fun K D=>?_;go_simp;refine cm ss ?_;rintro e bD ⟨rfl,dc⟩;refine ko D ?_;clear D K;have jq:=(eu.later dc);have rd:=hide (stays dc lP.out);have fD:=(cT.trans (OV.of (L:=none) dc (OO fQ)));have gz:=jq.lt;refine RY ?_ _;have⟨v0,v1,v2,_,_⟩:=cells3 rd.out;go_simp;go_wp2_with fail;refine cm (aoT (es:=es) jq b8 hN s nm v st) ?_;rintro e ce ⟨⟨ev,rfl,aL⟩,ug,qp⟩
 have g':=(fD.trans qp);clear v0 v1 v2;go_wp2;go_ret;exact⟨⟨_,rfl,aL⟩,ug,g'⟩),G);exact zsm),G);exact aiN
def aA2 (st:Bool)(ai:(σ.M.write s nm v).1=6) :
  Oq 197 #[N7 mb,NY s,Oj nm,vA v,Om st] w (EPost w0 mb af O es w ((bad QN,{ σ with M:=(σ.M.write s nm v).2 }))):=by
 have z:=N8 (∀{G}(h:G:=by
 have z:=N8 (∀{G}(h:G:=by
 have cT:=(cG.trans nZ);have fQ:=eu.lt;have ss:=(VR 6 aq (eu.et a1 aZ));have z:=N8 (∀{G}(h:G:=by
 refine cm (UQ (es:=es) gz QN) ?_;exact aA3),G);exact awj),G);exact zsm),G);exact aiN
def aA4 (st:Bool)(ai:(σ.M.write s nm v).1=1) :
  Oq 197 #[N7 mb,NY s,Oj nm,vA v,Om st] w (EPost w0 mb af O es w ((bad tType,{ σ with M:=(σ.M.write s nm v).2 }))):=by
 have z:=N8 (∀{G}(h:G:=by
 have z:=N8 (∀{G}(h:G:=by
 have cT:=(cG.trans nZ);have fQ:=eu.lt;have ss:=(VR 1 aq (eu.et a1 aZ));exact aA5),G);exact zsm),G);exact aiN
def awk (ai:(σ.M.write s nm v).1=5) :
  Oq 197 #[N7 mb,NY s,Oj nm,vA v,Om true] w (EPost w0 mb af O es w ((bad tType,{ σ with M:=(σ.M.write s nm v).2 }))):=by
 have z:=N8 (∀{G}(h:G:=by
 have z:=N8 (∀{G}(h:G:=by
 have cT:=(cG.trans nZ);have fQ:=eu.lt;have ss:=(VR 5 aq (eu.et a1 aZ));exact aA5),G);exact zsm),G);exact aiN
def awl (ai:(σ.M.write s nm v).1=5) :
  Oq 197 #[N7 mb,NY s,Oj nm,vA v,Om false] w (EPost w0 mb af O es w ((.no,{ σ with M:=(σ.M.write s nm v).2 }))):=by
 have z:=N8 (∀{G}(h:G:=by
 have z:=N8 (∀{G}(h:G:=by
 have cT:=(cG.trans nZ);have fQ:=eu.lt;have ss:=(VR 5 aq (eu.et a1 aZ));exact aA6),G);exact zsm),G);exact aiN
def aoU (st:Bool)(o':¬ (σ.M.write s nm v).1=7)(o9:¬ (σ.M.write s nm v).1=6)(bT:¬ (σ.M.write s nm v).1=1)(o8:¬ (σ.M.write s nm v).1=5) :
  Oq 197 #[N7 mb,NY s,Oj nm,vA v,Om st] w (EPost w0 mb af O es w ((.no,{ σ with M:=(σ.M.write s nm v).2 }))):=by
 have z:=N8 (∀{G}(h:G:=by
 have bL:=N8 (∀{G}(h:G:=by
 have⟨c0,gf⟩:=xE ((σ.M.write s nm v).1);rw[<-gf] at mn o' o9 bT o8;clear gf;have bL:=N8 (∀{G}(h:G:=by
 have z:=N8 (∀{G}(h:G:=by
 have bL:=N8 (∀{G}(h:G:=by
 have cT:=(cG.trans nZ);have fQ:=eu.lt;have ss:=(VR c0 aq (eu.et a1 aZ));exact aA6),G);exact zte),G);exact TI),G);exact aA7),G);exact ztd),G);exact aiN
def auR (st:Bool) :
  Oq 197 #[N7 mb,NY s,Oj nm,vA v,Om st] w (EPost w0 mb af O es w (Zj s nm v st σ)):=by
 unfold Zj;simp only
 by_cases o':(σ.M.write s nm v).1=7
 ·rw[if_pos o'];exact aA0 a1 aZ aJ aH hN s nm v st o'
 rw[if_neg o']
 by_cases o9:(σ.M.write s nm v).1=6
 ·rw[if_pos o9];exact aA2 a1 aZ aJ aH hN s nm v st o9
 rw[if_neg o9]
 by_cases bT:(σ.M.write s nm v).1=1
 ·rw[if_pos bT];exact aA4 a1 aZ aJ aH hN s nm v st bT
 rw[if_neg bT]
 by_cases o8:(σ.M.write s nm v).1=5
 ·rw[if_pos o8]
  cases st with
  | true=>exact awk a1 aZ aJ aH hN s nm v o8
  | false=>exact awl a1 aZ aJ aH hN s nm v o8
 rw[if_neg o8];exact aoU a1 aZ aJ aH hN s nm v st o' o9 bT o8
end
def aeI (F:Fx)(t0 d8:Nd)(p:Pl)(σ:St):(Va × Er) × St:=match F.v (Oa t0 0) p σ with
 | ((ob,.no),σ1)=>match F.v d8 p σ1 with
  | ((v,.no),b6)=>if ob.k≠5 then ((vU,bad tType),b6) else ((v,erP (b6.M.put ob.n t0.2.tx v false).1),b6.Qx ob.n t0.2.tx v false)
  | ((_,e),b6)=>((vU,e),b6)
 | ((_,e),σ1)=>((vU,e),σ1)
def asE (F:Fx)(t0 d8:Nd)(p:Pl)(σ:St):(Va × Er) × St:=match F.v d8 p (look t0 p σ).2 with
 | ((v,.no),σ1)=>((v,(Zj (look t0 p σ).1 t0.2.tx v p.strict σ1).1),(Zj (look t0 p σ).1 t0.2.tx v p.strict σ1).2)
 | ((_,e),σ1)=>((vU,e),σ1)
variable {F:Fx}
def Kp.TK {w w':Og}(h:Kp w w'){q j:Nat}{v:Ot}{e:TypeId}(ai:w.cell? (N9 q j)=some v)(ag:∃ c,w.heap[q]? = some (OM c e))(ao:e=40\/e=22):w'.cell? (N9 q j)=some v:=by
 obtain⟨c,ag⟩:=ag;have U:w'.heap[q]? = w.heap[q]?:=(h q c e ag ao).trans ag.symm;exact(World.cell?_of_block (w:=w) (a:=(N9 q j)) U).trans ai
def OJ.akq {a:Ad}{d:Nd}(h:OJ O w a d){g n cap:Nat}(ai:w.cell? (N9 a.p 3)=some (.slice (some (N9 g 0)) n cap)):∃ c,w.heap[g]? = some (OM c 22):=by
 obtain⟨_,_,_,_,v,c3,aa⟩:=h.cells;rw[c3] at ai;cases ai;exact PW aa.1 rfl
def abS (ab:Zf es)(aJ:Ms w0 mb af O w σ){a b:Ad}{d d8:Nd}(hd:OJ O w a d)(Ii:OJ O w b d8)(E:d.2.kids.length=1)(p:Pl)(aC:Option Addr)(h1:Tt w0 mb af O es σ (Oa d 0) p (F.v (Oa d 0) p σ))
  (U:∀ v1 σ1,F.v (Oa d 0) p σ=((v1,.no),σ1)->Tt w0 mb af O es σ1 d8 p (F.v d8 p σ1)) (aH:∀ v1 σ1 v2 b6,F.v (Oa d 0) p σ=((v1,.no),σ1)->F.v d8 p σ1=((v2,.no),b6)->Sz N b6) (hN:N<1000000000) :
  Oq 292 #[N7 mb,N7 a.p,N7 b.p,PD p aC] w (OQ w0 mb af O es w (aeI F d d8 p σ)):=by
 have z:=N8 (∀{G}(h:G:=by
 have b7:=hide bb;have ei:=hide (cells4 bb);have z:=N8 (∀{G}(h:G:=by
 have⟨b9,cz,cap0,fE,dv,fU,_⟩:=cR.Yb (i:=0) Oe;rw[E] at fE;have⟨q,bj⟩:=xH a.p;have⟨NF,ix⟩:=xH b.p;have⟨kp,c'⟩:=xE b9.p;have z:=N8 (∀{G}(h:G:=by
 have Fp:=(Ii.kp (Kp.of aE));have⟨rs,d'⟩:=xE (aeI F d d8 ⟨au,aG,st⟩ σ);rw[<-d',<-bj.out,<-ix.out];have z:=N8 (∀{G}(h:G:=by
 have bA:=hide d';have bV:=hide aa;have gY:=hide U;have dY:=hide aH;clear bb hr2 d' aa h1 dq cE d2 fE dv c' U aH;go_enter func292,ntmps292;go_wp2_with fail;rw[<-bo.out,<-b4,<-bS];clear bS b4;refine VG (H:=fun wz vb ev=>VB w0 mb af O es w2 v1 aw σ1 wz vb ev) (G:=?GG) (fun dD=>?ways) ?rest
 case ways=>
  exact aeF
 case rest=>
  rintro wz vb ev a7;have z:=N8 (∀{G}(h:G:=by
  have z:=N8 (∀{G}(h:G:=by
  have p6:=(cR.kp a7.fr.Ul);have Fq:=(Fp.kp a7.fr.Ul)
  by_cases ao:aw=.no
  ·subst ao;have bu:ev=Qd:=a7.er;subst bu;have fa:=(NZ gY v1 σ1 bV.out wz b aC a7.ms Fq);rw[<-ix.out] at fa;have⟨aU,p1,cp,cJ,_,d3⟩:=cells4 e'.out
   rcases b4:F.v d8 ⟨au,aG,st⟩ σ1 with ⟨⟨v2,bi⟩,b6⟩
   rw[b4] at fa;have xC:=hide b4;clear b4;go_wp2_with fail;refine cm fa ?_;rintro e aD ⟨⟨ev,rfl,aL⟩,g4,gw⟩;have dB:=aL;have dz:=hide (gw.keep ed.out Ol);have gd:=hide (gw.keep a7.v Ol);have fj:=(dm.trans gw);have p5:=(p6.kp gw.Ul);have hx:=g4.lt;clear aU p1 cp cJ d3 cS bY cg dJ dK dL rl fB cy dO ip iq ir ia;have⟨cS,bY,cg,dJ,dK,dL,rl⟩:=O3 dz.out;have⟨fB,cy,dO,ip,iq,ir,ia⟩:=O3 gd.out
   by_cases gy:bi=.no
   ·subst gy;have bu:ev=Qd:=aL;subst bu
    by_cases bx:v1.k=5
    ·have⟨bH,zi⟩:=xH v1.n;have cn:=NZ dY v1 σ1 v2 b6 bV.out xC.out;have⟨tx,cB⟩:=xE d.2.tx;have⟨oH,ih⟩:=xE ((b6.M.put bH tx v2 false).1);have aI:rs=((v2,erP oH),b6.Qx bH tx v2 false):=by rw[bA.out];unfold aeI;rw[bV.out];dsimp only;rw[xC.out];dsimp only;rw[if_neg (by simp[bx]),ih,zi.out,cB]
     have cD:=hide aI;have lL:=hide (abO b6.M bH tx v2 false);rw[<-ih] at lL;rw[bx] at fB;rw[<-zi.out] at cy;have E8:=hide bx;clear aI bx;go_wp2_with fail;have⟨wd,e7⟩:=xE (aD.alloc (.cells #[NY v2.k,NY v2.n,Oj v2.s] 65));have⟨du,k1⟩:=xE aD.heap.size;have d1:Oo aD wd:=by rw[e7];exact PE
     have Bl:wd.heap[du]? = some (Y0 v2):=by rw[e7,k1];exact Oi _ _
     have mg:=(g4.later d1);have hU:=hide (stays d1 dz.out);have EB:=stays d1 gd.out;have CK:Hid (wd.heap[vb]? = some (OM #[NY 5,NY bH,Oj v1.s] 65)):=by
      show _=_
      rw[EB,E8.out,zi.out]
     have tO:=hide Bl;have vd:=(fj.trans (OV.of (L:=none) d1 (OO hx)));have nc:=p5.kp (Kp.of d1);have c1:=nc.cells.2.2.1;have I8:=nc.cells.1;rw[<-bj.out] at c1 I8;rw[<-cB] at c1;have lI:=hide nc.blk;rw[<-bj.out] at lI;have e9:=hide c1;have uv:=mg.lt;have h5:=lt_of_heap Bl;have MX:=lt_of_heap CK.out;have pn:Hid (∀ X,Ms w0 mb af O X b6->Oq 56 #[N7 mb,NY bH,Oj tx,vA v2,Om false] X fun e w'=>e=OA (TT oH)/\Ms w0 mb af O w' (b6.Qx bH tx v2 false)/\O8 Th mb X w'):=fun X ak=>by
      obtain⟨_,_,_,_,ac⟩:=ak;refine(YL ac cn hN bH tx v2 false).mono ?_;rintro e w' ⟨rfl,U,av⟩;rw[ih];exact⟨rfl,⟨_,_,_,_,U⟩,av⟩
     have kz:du≠aV:=fun e=>by
      have h1:=lt_of_heap dz.out;omega
     try rw[<-e7,<-k1]
     clear e7 Bl EB c1 cB ih k1 cS bY cg dJ dK dL rl fB cy dO ip iq ir ia;have ae:OV none mb wd wd.drew:=OV.of QI.drew (OO uv);refine Qs 12 (fun X=>OV none mb wd X) Pe ?_;refine uc 0 (.agg #[NY v2.k,NY v2.n,Oj v2.s]) rfl (Or.inl ⟨by kernel_rfl,fun X ak=>by have h0:=(cells3 (ak.keep tO.out Ol)).1;have h1:=(cells3 (ak.keep tO.out Ol)).2.1;have U:=(cells3 (ak.keep tO.out Ol)).2.2.1;go_simp⟩) (ae) ?_
     refine up 1 mb 0 ae ?_;refine up 2 mb 0 ae ?_;refine up 3 mb 0 ae ?_;refine up 4 vb 1 ae ?_;refine uc 5 (NY bH) rfl (Or.inl ⟨by kernel_rfl,fun X ak=>by have h0:=(cells3 (ak.keep CK.out Ol)).2.1;go_simp⟩) (ae) ?_
     refine up 6 q 0 ae ?_;refine up 7 q 0 ae ?_;refine up 8 q 1 ae ?_;refine uc 9 (Oj tx) rfl (Or.inl ⟨by kernel_rfl,fun X ak=>by have h0:=ak.Ul.XG e9.out lI.out;go_simp⟩) (ae) ?_
     refine uc 10 (.agg #[NY v2.k,NY v2.n,Oj v2.s]) rfl (Or.inl ⟨by kernel_rfl,fun X ak=>by have h0:=(cells3 (ak.keep tO.out Ol)).1;have h1:=(cells3 (ak.keep tO.out Ol)).2.1;have U:=(cells3 (ak.keep tO.out Ol)).2.2.1;go_simp⟩) (ae) ?_
     refine PS 11 fun K D=>?_;go_simp;refine cm (NZ pn _ (mg.later QI.drew)) ?_;rintro e dF ⟨rfl,qr,qq⟩;have lT:OV none mb wd dF:=ae.trans (OV.ofT qq);refine D.out _ _ (fun _=>lT) ?_;clear D K;have nM:=hide (lT.keep hU.out Ol);have ki:=(vd.trans lT);have⟨hM,gW,gX,iK,iL,iM,hO⟩:=O3 nM.out;refine PS 12 fun K D=>?_;go_simp;refine ko D ?_;clear D K;refine uz 13 (TT oH) ?_;refine RY ?_ _;go_simp;go_wp2_with fail
     have⟨b3,bz,bh,bI,bE,cK,b1,bU⟩:=rt3 nM.out cQ.out bG ki qr (NY v2.k) (NY v2.n) (Oj v2.s);rw[<-bz];refine WB (v:=.tuple #[vA v2,TT oH]) ?_;rw[cD.out];exact⟨⟨_,rfl,aoS lL.out⟩,bE,bI⟩
    ·have aI:rs=((vU,bad tType),b6):=by rw[bA.out];unfold aeI;rw[bV.out];dsimp only;rw[xC.out];dsimp only;rw[if_pos bx]
     have cD:=hide aI;clear aI;go_wp2_with fail;have⟨wd,e7⟩:=xE (aD.alloc (.cells #[NY v2.k,NY v2.n,Oj v2.s] 65));have z:=N8 (∀{G}(h:G:=by
     try rw[<-e7]
     clear e7 cS bY cg dJ dK dL rl fB cy dO ip iq ir ia;refine cm (UQ (es:=es) uv tType) ?_;rintro e gV ⟨⟨ev,rfl,aL⟩,g6⟩;have nN:=hide (stays g6 hU.out);have ox:=(mg.later g6);have oq:=(vd.trans (OV.of (L:=none) g6 (OO uv)));have⟨dl,bT,cY,l7,l8,l9,nl⟩:=O3 nN.out;have z:=N8 (∀{G}(h:G:=by
     have aI:rs=((vU,bad tType),b6):=NZ cD;rw[aI];exact⟨⟨_,rfl,aL.Qn bh Ol⟩,bE,bI⟩),G);exact asx),G);exact awq
   ·have⟨et,ex,bu⟩:=aL.WC gy ab;subst bu;have aI:rs=((vU,bi),b6):=by
     rw[bA.out];unfold aeI;rw[bV.out];dsimp only;rw[xC.out];exact awr
    have bN:=hide aI;clear gy aI fB cy dO ip iq ir ia;go_wp2_with fail;have⟨b3,bz⟩:=xE ((((aD.setCell (N9 aV 0) (NY 0)).setCell (N9 aV 1) (NY 0)).setCell (N9 aV 2) (Pm)).alloc (.cells #[NY v2.k,NY v2.n,Oj v2.s] 65));rw[<-bz];have hi:mb<=aV:=by have:=NZ cQ;omega
    have bh:=RF dz.out hi (NY 0) (NY 0) (Pm);have d0:=(Below.refl _ (((aD.setCell (N9 aV 0) (NY 0)).setCell (N9 aV 1) (NY 0)).setCell (N9 aV 2) (Pm))).alloc Pg (.cells #[NY v2.k,NY v2.n,Oj v2.s] 65);have bL:=N8 (∀{G}(h:G:=by
    have oK:=(dB.Qn bh Ol).later d0;exact aDG),G);exact aBs
  ·have⟨et,ex,bu⟩:=a7.er.WC ao ab;subst bu;have aI:rs=((vU,aw),σ1):=by
    rw[bA.out];unfold aeI;rw[bV.out];exact axO
   have bN:=hide aI;clear ao aI;have bA:=bN;exact asz),G);exact aoW),G);exact asy),G);exact ama),G);exact aiR),G);exact UZ),G);exact Xd
def OJ.adL {a:Ad}{d:Nd}(h:OJ O w a d)(E:d.2.kids.length=2):∃ b9 bP g cap,w.cell? (N9 a.p 3)=some (.slice (some (N9 g 0)) 2 cap)/\w.cell? (N9 g 0)=some (N7 b9.p)/\w.cell? (N9 g 1)=some (N7 bP.p)/\OJ O w b9 (Oa d 0)/\OJ O w bP (Oa d 1):=by
 have⟨b9,cz,cap0,fE,dv,fU,_⟩:=h.Yb (i:=0) Oe;have⟨bP,bK,cap1,jL,fW,jf,_⟩:=h.Yb (i:=1) Oe;rw[E] at fE jL;rw[fE] at jL;simp only[Option.some.injEq,Value.slice.injEq,Addr.mk.injEq,and_true,true_and] at jL;obtain⟨rfl,rfl⟩:=jL;exact⟨b9,bP,cz,cap0,fE,dv,fW,fU,jf⟩
def aaR (ab:Zf es)(aJ:Ms w0 mb af O w σ){a:Ad}{d:Nd}(hd:OJ O w a d)(E:d.2.kids.length=2)(p:Pl)(aC:Option Addr)
  (bm:(Oa d 0).2.kd=36) (cL:(Oa d 0).2.kids.length=1) (h1:Tt w0 mb af O es σ (Oa (Oa d 0) 0) p (F.v (Oa (Oa d 0) 0) p σ))
  (U:∀ v1 σ1,F.v (Oa (Oa d 0) 0) p σ=((v1,.no),σ1)->Tt w0 mb af O es σ1 (Oa d 1) p (F.v (Oa d 1) p σ1)) (aH:∀ v1 σ1 v2 b6,F.v (Oa (Oa d 0) 0) p σ=((v1,.no),σ1)->F.v (Oa d 1) p σ1=((v2,.no),b6)->Sz N b6) (hN:N<1000000000) :
  Oq 257 #[N7 mb,N7 a.p,PD p aC] w (OQ w0 mb af O es w (aeI F (Oa d 0) (Oa d 1) p σ)):=by
 have z:=N8 (∀{G}(h:G:=by
 have ei:=hide (cells4 bb);have z:=N8 (∀{G}(h:G:=by
 have z:=N8 (∀{G}(h:G:=by
 rw[bm] at mD;have bF:=hide (fun X (ak:Oo w2 X)=>abS ab (cU.later ak) (iS.kp (Kp.of ak)) (iT.kp (Kp.of ak)) cL ⟨au,aG,st⟩ aC h1 U aH hN);have⟨rs,d'⟩:=xE (aeI F (Oa d 0) (Oa d 1) ⟨au,aG,st⟩ σ);rw[<-d',<-q4.out,<-qa.out] at bF;rw[<-d'];have z:=N8 (∀{G}(h:G:=by
 have lX:=cell_lt uY.out;clear bb hr2 ag dq cE d2 hblk nq rv fW d' h1 U aH bm cL;go_enter func257,ntmps257;go_wp2_with fail;rw[<-bo.out,<-b4,<-bS];clear bS b4;refine S9 14 fun ae=>?_;have z:=N8 (∀{G}(h:G:=by
 refine uk 4 ez.out ae ?_;refine up 5 cz 0 ae ?_;refine uk 6 uY.out ae ?_;refine up 7 q 0 ae ?_;refine up 8 q 0 ae ?_;refine up 9 q 3 ae ?_;refine uk 10 ez.out ae ?_;refine up 11 cz 1 ae ?_;refine uk 12 oi.out ae ?_;refine uk4 13 ei.out ae ?_;refine PS 14 fun K D=>?_;have z:=N8 (∀{G}(h:G:=by
 have z:=N8 (∀{G}(h:G:=by
 refine uz 15 (vA v9) ?_;refine uz 16 ev ?_;refine PS 17 fun K D=>?_;go_simp;refine ko D ?_;clear D K;refine uz 18 ev ?_;refine RY ?_ _;go_simp;exact ayi),G);exact aBt),G);exact asF),G);exact VZ),G);exact aBu),G);exact aBv),G);exact UZ),G);exact Xd
def aaS (ab:Zf es)(a1:Bs w0 mb af O es)(aZ:Rj w0)(aJ:Ms w0 mb af O w σ){a:Ad}{d:Nd}(hd:OJ O w a d)(E:d.2.kids.length=2)(p:Pl)(aC:Option Addr)
  (bm:¬ (Oa d 0).2.kd=36) (U:Tt w0 mb af O es (look (Oa d 0) p σ).2 (Oa d 1) p (F.v (Oa d 1) p (look (Oa d 0) p σ).2)) (aH:Sz N σ) (cn:∀ v1 σ1,F.v (Oa d 1) p (look (Oa d 0) p σ).2=((v1,.no),σ1)->Sz N σ1) (hN:N+1<1000000000) :
  Oq 257 #[N7 mb,N7 a.p,PD p aC] w (OQ w0 mb af O es w (asE F (Oa d 0) (Oa d 1) p σ)):=by
 have z:=N8 (∀{G}(h:G:=by
 have b7:=hide bb;have ei:=hide (cells4 bb);have z:=N8 (∀{G}(h:G:=by
 have z:=N8 (∀{G}(h:G:=by
 have⟨kd,rx⟩:=xE ((Oa d 0).2.kd);rw[<-rx] at mD bm;have⟨jA,pU⟩:=xE ((look (Oa d 0) ⟨au,aG,st⟩ σ).1);have⟨qW,qK⟩:=xE ((look (Oa d 0) ⟨au,aG,st⟩ σ).2);have hr:=hide (fun X (ak:Oo w2 X)=>aoR a1 (cU.later ak) aH Oe (iS.kp (Kp.of ak)) ⟨au,aG,st⟩ aC);rw[<-pU,<-qK,<-q4.out] at hr;rw[<-qK] at U cn;have⟨tx,cB⟩:=xE ((Oa d 0).2.tx)
 rcases aa:F.v (Oa d 1) ⟨au,aG,st⟩ qW with ⟨⟨v1,aw⟩,σ1⟩
 rw[aa] at U;have⟨rs,d'⟩:=xE (asE F (Oa d 0) (Oa d 1) ⟨au,aG,st⟩ σ);rw[<-d'];have bA:Hid (rs=match (((v1,aw),σ1):(Va × Er) × St) with
  | ((v,.no),σ1)=>((v,(Zj jA tx v st σ1).1),(Zj jA tx v st σ1).2)
  | ((_,e),σ1)=>((vU,e),σ1)):=by
  show _=_
  rw[d'];unfold asE;rw[<-qK,aa,<-pU,<-cB]
  all_goals cases aw <;> rfl
 have bV:=hide aa;have gY:=U;have sw:=hide cn;have fS:=iS.cells.2.2.1;rw[<-cB,<-q4.out] at fS;have mW:=hide fS;have hkl2:=iS.cells.1;rw[<-q4.out] at hkl2;have z:=N8 (∀{G}(h:G:=by
 have q2:=hide hblk;have ix:=hide nq;have Cd:=hide rv;have lX:=cell_lt uY.out;clear bb hr2 ag dq cE d2 hblk nq rv fW d' aa U cn pU qK rx cB fS;go_enter func257,ntmps257;have z:=N8 (∀{G}(h:G:=by
 have z:=N8 (∀{G}(h:G:=by
 refine uk 4 ez.out ae ?_;refine up 5 cz 0 ae ?_;refine uk 6 uY.out ae ?_;refine uk4 7 ei.out ae ?_;refine PS 8 fun K D=>?_;go_simp;refine cm (NZ hr _ ae) ?_;rintro e aq ⟨rfl,eu,f5⟩;refine ko D ?_;clear D K;have c7:=(OV.of (L:=none) ae (OO dk)).trans f5;have dg:=hide (c7.keep bq.out Ol);have fk:=hide (c7.keep b7.out Ol);have Ct:=hide (cells4 fk.out);have cT:=(cG.trans c7);have q0:=hide (c7.Ul.TK ez.out ix.out (Or.inl rfl));have ty:=hide (c7.Ul.TK oi.out q2.out (Or.inr rfl))
 have Fj:=hide (c7.Ul.TK uY.out q2.out (Or.inr rfl));have yW:=hide (c7.Ul.TK mW.out Cd.out (Or.inl rfl));have tK:Hid (∃ c,aq.heap[q]? = some (OM c 40)):=by have⟨c,ai⟩:=NZ ix;exact⟨c,c7.Ul _ _ _ ai (Or.inl rfl)⟩
 have xr:Hid (∃ c,aq.heap[cz]? = some (OM c 22)):=by have⟨c,ai⟩:=NZ q2;exact⟨c,c7.Ul _ _ _ ai (Or.inr rfl)⟩
 have HKB3:Hid (∃ c,aq.heap[kp]? = some (OM c 40)):=by have⟨c,ai⟩:=NZ Cd;exact⟨c,c7.Ul _ _ _ ai (Or.inl rfl)⟩
 have fQ:=eu.lt;have A1:=lt_of_heap fk.out;have s4:q<aq.heap.size:=cell_lt q0.out;have c9:cz<aq.heap.size:=cell_lt ty.out;have bF:=hide (fun X (ak:Oo aq X)=>gY X bP aC (eu.later ak) ((iT.kp c7.Ul).kp (Kp.of ak)));rw[<-qa.out] at bF;refine uz 9 (NY jA) ?_;refine RY ?_ _;go_simp;go_wp2_with fail;refine VG (H:=fun wz vb ev=>VB w0 mb af O es aq v1 aw σ1 wz vb ev) (G:=?GG) (fun dD=>?ways) ?rest
 case ways=>
  refine S9 8 fun ae=>?_;have z:=N8 (∀{G}(h:G:=by
  refine uk 4 q0.out ae ?_;refine up 5 cz 1 ae ?_;exact aBw),G);exact VZ
 case rest=>
  rintro wz vb ev a7;have dj:=a7.fr.keep dg.out Ol;have ed:=hide dj;have⟨cS,bY,cg,dJ,dK,dL,rl⟩:=O3 (dj);have eW:=a7.ms.lt;have cC:vb≠aV:=fun e=>by
   have h1:=a7.vb;have U:=lt_of_heap dg.out;omega
  have dm:OV none mb w wz:=cT.trans a7.fr;have e':=hide (a7.fr.keep fk.out Ol);clear dj
  by_cases ao:aw=.no
  ·subst ao;have bu:ev=Qd:=a7.er;subst bu;have b8:=NZ sw v1 σ1 bV.out;have⟨uL,pS⟩:=xE (Zj jA tx v1 st σ1);have aI:rs=((v1,uL.1),uL.2):=by rw[bA.out,pS]
   have cD:=hide aI;have kJ:Hid (∀ X,Ms w0 mb af O X σ1->Oq 197 #[N7 mb,NY jA,Oj tx,vA v1,Om st] X (EPost w0 mb af O es X uL)):=fun X ak=>by
    rw[pS];exact auR a1 aZ ak b8 hN jA tx v1 st
   have tP:=hide a7.v;have jr:=a7.ms;have tt:=hide (a7.fr.Ul.TK q0.out tK.out (Or.inl rfl));have BW:=hide (a7.fr.Ul.TK Fj.out xr.out (Or.inr rfl));have op:=hide (a7.fr.Ul.TK yW.out HKB3.out (Or.inl rfl));have xA:Hid (∃ c,wz.heap[q]? = some (OM c 40)):=by have⟨c,ai⟩:=NZ tK;exact⟨c,a7.fr.Ul _ _ _ ai (Or.inl rfl)⟩
   have xt:Hid (∃ c,wz.heap[cz]? = some (OM c 22)):=by have⟨c,ai⟩:=NZ xr;exact⟨c,a7.fr.Ul _ _ _ ai (Or.inr rfl)⟩
   have FY:Hid (∃ c,wz.heap[kp]? = some (OM c 40)):=by have⟨c,ai⟩:=NZ HKB3;exact⟨c,a7.fr.Ul _ _ _ ai (Or.inl rfl)⟩
   have hj:=cell_lt tt.out;have rr:=cell_lt BW.out;have AM:=cell_lt op.out;have iU:=lt_of_heap e'.out;have EE:=lt_of_heap a7.v;clear pS aI cS bY cg dJ dK dL rl;go_wp2_with fail;have ae:OV none mb wz wz.drew:=OV.of QI.drew (OO eW);refine Qs 16 (fun X=>OV none mb wz X) Pe ?_;refine uc 0 (.agg #[NY v1.k,NY v1.n,Oj v1.s]) rfl (Or.inl ⟨by kernel_rfl,fun X ak=>by have h0:=(cells3 (ak.keep tP.out Ol)).1;have h1:=(cells3 (ak.keep tP.out Ol)).2.1;have U:=(cells3 (ak.keep tP.out Ol)).2.2.1;go_simp⟩) (ae) ?_
   refine up 1 mb 0 ae ?_;refine uh 2 (NY jA) (ae) ?_;refine up 3 q 0 ae ?_;refine up 4 q 0 ae ?_;refine up 5 q 3 ae ?_;refine uc 6 (.slice (some (N9 cz 0)) 2 cap0) rfl (Or.inl ⟨by kernel_rfl,fun X ak=>by have h0:=ak.Ul.TK tt.out xA.out (Or.inl rfl);go_simp⟩) (ae) ?_
   refine up 7 cz 0 ae ?_;refine uc 8 (Oy kp 0) rfl (Or.inl ⟨by kernel_rfl,fun X ak=>by have h0:=ak.Ul.TK BW.out xt.out (Or.inr rfl);go_simp⟩) (ae) ?_
   refine up 9 kp 0 ae ?_;refine up 10 kp 1 ae ?_;refine uc 11 (Oj tx) rfl (Or.inl ⟨by kernel_rfl,fun X ak=>by have h0:=ak.Ul.TK op.out FY.out (Or.inl rfl);go_simp⟩) (ae) ?_
   refine uc 12 (.agg #[NY v1.k,NY v1.n,Oj v1.s]) rfl (Or.inl ⟨by kernel_rfl,fun X ak=>by have h0:=(cells3 (ak.keep tP.out Ol)).1;have h1:=(cells3 (ak.keep tP.out Ol)).2.1;have U:=(cells3 (ak.keep tP.out Ol)).2.2.1;go_simp⟩) (ae) ?_
   refine up 13 bc 2 ae ?_;refine uc 14 (Om st) rfl (Or.inl ⟨by kernel_rfl,fun X ak=>by have h0:=(cells4 (ak.keep e'.out Ol)).2.2.1;go_simp⟩) (ae) ?_
   refine PS 15 fun K D=>?_;go_simp;refine cm (NZ kJ _ (jr.later QI.drew)) ?_;rintro e dF ⟨⟨ev,rfl,aL⟩,qr,qq⟩;have lT:OV none mb wz dF:=ae.trans qq;refine D.out _ _ (fun _=>lT) ?_;clear D K;have nM:=hide (lT.keep ed.out Ol);have ki:=(dm.trans lT);have⟨hM,gW,gX,iK,iL,iM,hO⟩:=O3 nM.out;refine PS 16 fun K D=>?_;go_simp;refine ko D ?_;clear D K;refine uz 17 ev ?_;refine RY ?_ _;go_simp;go_wp2_with fail
   have⟨b3,bz,bh,bI,bE,cK,b1,bU⟩:=rt3 nM.out cQ.out bG ki qr (NY v1.k) (NY v1.n) (Oj v1.s);rw[<-bz];refine WB (v:=.tuple #[vA v1,ev]) ?_;rw[cD.out];exact⟨⟨_,rfl,aL.Qn bh Ol⟩,bE,bI⟩
  ·have⟨et,ex,bu⟩:=a7.er.WC ao ab;subst bu;have aI:rs=((vU,aw),σ1):=by
    rw[bA.out];exact axO
   have bN:=hide aI;clear ao aI;have bA:=bN;exact asz),G);exact VZ),G);exact asC),G);exact aBu),G);exact aBv),G);exact UZ),G);exact Xd
def LA:Option Nat->Option Addr
 | none=>none
 | some b=>some (N9 b 0)
def OE (w:Og):Option Nat->Option Va->Prop
 | none,none=>True
 | some b,some v=>w.heap[b]? = some (Y0 v)
 | _,_=>False
def ami (r:(Va × Er) × St):Er × St:=match r with
 | ((v,.no),σ1)=>(.X8 v,σ1)
 | ((_,e),σ1)=>(e,σ1)
def aeL (l:Option Va)(r:(Va × Er) × St):(Er × Option Va) × St:=match r with
 | ((v,.no),σ1)=>((.no,l.map fun _=>v),σ1)
 | ((_,e),σ1)=>((e,l),σ1)
def avQ (F:Fx)(d:Nd)(p:Pl)(σ:St):Er × St:=match F.v (Oa d 0) p σ with
 | ((v,.no),σ1)=>Zj (σ.M.find p.scope d.2.tx) d.2.tx v p.strict σ1
 | ((_,e),σ1)=>(e,σ1)
def Zx (d:Nd)(p:Pl)(r:(Va × Er) × St):Er × St:=match r with
 | ((v,.no),σ1)=>(erP (σ1.M.start p.scope d.2.tx v).1,{ σ1 with M:=(σ1.M.start p.scope d.2.tx v).2 })
 | ((_,e),σ1)=>(e,σ1)
variable {L:Option Nat}
def OE.keep {l:Option Va}(h:OE w L l)(aF:OV none mb w w'):OE w' L l:=by
 cases L <;> cases l <;> first|exact h|exact aF.keep h Ol
def Zy (w0:Og)(mb af:Nat)(O:List Nat)(es:Ot)(L:Option Nat)(w:Og)(r:(Er × Option Va) × St)(e:Ending)(w':Og):Prop:=
 (∃ ev,e=OA ev/\WZ es w' ev r.1.1)/\Ms w0 mb af O w' r.2/\OV L mb w w'/\OE w' L r.1.2
section
variable (aJ:Ms w0 mb af O w σ) {u:Ot}
include aJ u
def aiX (aa:RZ 0 w u [])(p:Pl)(aC:Option Addr) :
  Oq 114 #[N7 mb,u,PD p aC] w (OQ w0 mb af O es w ((vU,.no),σ)):=by
 have z:=N8 (∀{G}(h:G:=by
 obtain⟨cV,dM,aQ⟩:=aa.form;rw[List.length_nil] at aQ;subst aQ;have cU:=(aJ.later aE);have cG:=(OV.of (L:=none) aE (OO bG));have bq:=hide hr2;clear bb hr2 dq cE d2;go_enter func114,ntmps114;go_wp2_with fail;have⟨kH,wQ⟩:=xE ((w.alloc (.cells #[NY au,NY aG,Om st,.pointer aC] 73)).alloc (.cells #[NY 0,NY 0,Pm] 65));rw[<-wQ];have m9:kH=w2:=by rw[wQ];exact bo.out.symm
 rw[m9,<-b4];have⟨cK,b1,bU,_,_⟩:=cells3 bq.out;exact Y2 (v:=.tuple #[vA vU,Qd]) ⟨⟨_,rfl,rfl⟩,cU,cG⟩),G);exact zsb
def agO {k:Ad}{fX:Nd}(aa:RZ 0 w u [k])(hd:OJ O w k fX)(p:Pl)(aC:Option Addr)(h1:Tt w0 mb af O es σ fX p (F.v fX p σ)) :
  Oq 114 #[N7 mb,u,PD p aC] w (OQ w0 mb af O es w (F.v fX p σ)):=by
 have z:=N8 (∀{G}(h:G:=by
 obtain⟨cz,cap0,aQ,hg,ai,_⟩:=(aa.later aE).cell 0 OW;rw[show ([k]:List Ad).length=1 from rfl] at aQ;subst aQ;have cU:=(aJ.later aE);have cG:=(OV.of (L:=none) aE (OO bG));have bq:=hide hr2;have ei:=hide (cells4 bb);have cQ:=hide cE;have bF:=hide (fun X (ak:Oo w2 X)=>h1 X k aC (cU.later ak) ((hd.kp (Kp.of aE)).kp (Kp.of ak)));have⟨rs,eB⟩:=xE (F.v fX ⟨au,aG,st⟩ σ);rw[<-eB] at bF ⊢;have⟨kp,c'⟩:=xE k.p;have eI:w2.cell? (N9 cz 0)=some (N7 kp):=by rw[c'];exact ai
 rw[<-c'] at bF;have aj:=hide eI;have dk:=cU.lt;have hpl2:=lt_of_heap bb;clear bb hr2 h1 ai c' dq cE d2 eB eI;go_enter func114,ntmps114;go_wp2_with fail;rw[<-bo.out,<-b4,<-bS];clear bS b4;refine S9 5 fun ae=>?_;refine up 0 mb 0 ae ?_;refine uh 1 (.slice (some (N9 cz 0)) 1 cap0) (ae) ?_;refine up 2 cz 0 ae ?_;refine uk 3 aj.out ae ?_;refine uk4 4 ei.out ae ?_;refine PS 5 fun K D=>?_;have z:=N8 (∀{G}(h:G:=by
 have z:=N8 (∀{G}(h:G:=by
 refine uz 6 (vA v9) ?_;refine uz 7 ev ?_;refine PS 8 fun K D=>?_;go_simp;refine ko D ?_;clear D K;refine uz 9 ev ?_;refine RY ?_ _;go_simp;exact ayi),G);exact aBt),G);exact asF),G);exact zsb
end
section
variable (ab:Zf es) (aJ:Ms w0 mb af O w σ) {a:Ad} {d:Nd} (hd:OJ O w a d) (E:d.2.kids.length=1) (p:Pl)
include ab aJ a d hd E p
def aeM (aC:Option Addr)(h1:Tt w0 mb af O es σ (Oa d 0) p (F.v (Oa d 0) p σ)) :
  Oq 115 #[N7 mb,N7 a.p,PD p aC] w (EPost w0 mb af O es w (ami (F.v (Oa d 0) p σ))):=by
 have bG:=aJ.lt;have z:=N8 (∀{G}(h:G:=by
 have dq:w.heap.size<=bc:=Oe;have z:=N8 (∀{G}(h:G:=by
 have ei:=hide (cells4 bb);have z:=N8 (∀{G}(h:G:=by
 have z:=N8 (∀{G}(h:G:=by
 have z:=N8 (∀{G}(h:G:=by
 rcases aa:F.v (Oa d 0) ⟨au,aG,st⟩ σ with ⟨⟨v1,aw⟩,σ1⟩
 have⟨rs,bA⟩:=xH (ami ((v1,aw),σ1));have z:=N8 (∀{G}(h:G:=by
 have z:=N8 (∀{G}(h:G:=by
 clear bb aa h1 dq fE dv c';go_enter func115,ntmps115;go_wp2_with fail;rw[<-bo.out,<-bS];clear bS;refine VG (H:=fun wz vb ev=>VB w0 mb af O es w2 v1 aw σ1 wz vb ev) (G:=?GG) (fun dD=>?ways) ?rest
 case ways=>
  exact aeF
 case rest=>
  have z:=N8 (∀{G}(h:G:=by
  have⟨fB,cy,dO,ip,iq,ir,ia⟩:=O3 (a7.v)
  by_cases ao:aw=.no
  ·subst ao;have bu:ev=Qd:=a7.er;subst bu;go_wp2_with fail;have d0:=(Below.refl wz.heap.size wz).alloc Pg (.cells #[NY v1.k,NY v1.n,Oj v1.s] 126);refine UC (v:=.iface 122 (Oy wz.heap.size 0)) ?_;have aI:rs=(.X8 v1,σ1):=NZ bA;rw[aI];exact⟨⟨_,rfl,_,rfl,Oi _ _⟩,a7.ms.later d0,dm.trans (OV.of (L:=none) d0 (OO eW))⟩
  ·exact awG),G);exact asN),G);exact aoY),G);exact aoZ),G);exact aiR),G);exact ac6),G);exact zsl),G);exact axY),G);exact zss
def aaT (h1:Tt w0 mb af O es σ (Oa d 0) p (F.v (Oa d 0) p σ)) :
  Oq 117 #[N7 mb,N7 a.p,PD p none] w (Zy w0 mb af O es none w (aeL none (F.v (Oa d 0) p σ))):=by
 have bG:=aJ.lt;obtain⟨au,aG,st⟩:=p;have⟨w2,bo⟩:=xH (w.alloc (.cells #[NY au,NY aG,Om st,QS] 73));have aE:Oo w w2:=by rw[bo.out];exact PE
 have⟨bc,bS⟩:=xE w.heap.size;have bb:w2.heap[bc]? = some (OM #[NY au,NY aG,Om st,QS] 73):=by rw[bo.out,bS];exact Oi _ _
 have dq:w.heap.size<=bc:=Oe;have z:=N8 (∀{G}(h:G:=by
 have b7:=hide bb;have ei:=hide (cells4 bb);have z:=N8 (∀{G}(h:G:=by
 have z:=N8 (∀{G}(h:G:=by
 have bF:=hide (fun X (ak:Oo w2 X)=>h1 X b9 none (cU.later ak) (fU.kp (Kp.of ak)))
 rcases aa:F.v (Oa d 0) ⟨au,aG,st⟩ σ with ⟨⟨v1,aw⟩,σ1⟩
 have⟨rs,bA⟩:=xH (aeL none ((v1,aw),σ1));have z:=N8 (∀{G}(h:G:=by
 have z:=N8 (∀{G}(h:G:=by
 clear bb aa h1 dq fE dv c';go_enter func117,ntmps117;go_wp2_with fail;rw[<-bo.out,<-bS];clear bS;refine VG (H:=fun wz vb ev=>VB w0 mb af O es w2 v1 aw σ1 wz vb ev) (G:=?GG) (fun dD=>?ways) ?rest
 case ways=>
  exact aeF
 case rest=>
  have z:=N8 (∀{G}(h:G:=by
  have e':=hide (a7.fr.keep b7.out Ol);have⟨fB,cy,dO,ip,iq,ir,ia⟩:=O3 (a7.v);have⟨aU,p1,cp,cJ,_,d3⟩:=cells4 e'.out
  by_cases ao:aw=.no
  ·subst ao;have bu:ev=Qd:=a7.er;subst bu;go_wp2_with fail;refine UC (v:=Qd) ?_;have aI:rs=((.no,none),σ1):=NZ bA;rw[aI];exact⟨⟨_,rfl,rfl⟩,a7.ms,dm,trivial⟩
  ·have⟨et,ex,bu⟩:=a7.er.WC ao ab;subst bu;have aI:rs=((aw,none),σ1):=by
    rw[bA.out];exact axO
   have bN:=hide aI;clear ao aI;go_wp2_with fail;refine UC (v:=.iface et ex) ?_;rw[bN.out];exact⟨⟨_,rfl,a7.er⟩,a7.ms,dm,trivial⟩),G);exact asN),G);exact aoY),G);exact aoZ),G);exact ac6),G);exact zsl),G);exact axY
def aaU {v0:Va}{lb:Nat}(hl:w.heap[lb]? = some (Y0 v0))(Jd:mb<=lb)(h1:Tt w0 mb af O es σ (Oa d 0) p (F.v (Oa d 0) p σ)) :
  Oq 117 #[N7 mb,N7 a.p,PD p (some (N9 lb 0))] w (Zy w0 mb af O es (some lb) w (aeL (some v0) (F.v (Oa d 0) p σ))):=by
 have bG:=aJ.lt;obtain⟨au,aG,st⟩:=p;have⟨w2,bo⟩:=xH (w.alloc (.cells #[NY au,NY aG,Om st,Oy lb 0] 73));have aE:Oo w w2:=by rw[bo.out];exact PE
 have⟨bc,bS⟩:=xE w.heap.size;have bb:w2.heap[bc]? = some (OM #[NY au,NY aG,Om st,Oy lb 0] 73):=by rw[bo.out,bS];exact Oi _ _
 have dq:w.heap.size<=bc:=Oe;have z:=N8 (∀{G}(h:G:=by
 have b7:=hide bb;have ei:=hide (cells4 bb);have z:=N8 (∀{G}(h:G:=by
 have z:=N8 (∀{G}(h:G:=by
 have bF:=hide (fun X (ak:Oo w2 X)=>h1 X b9 (some (N9 lb 0)) (cU.later ak) (fU.kp (Kp.of ak)))
 rcases aa:F.v (Oa d 0) ⟨au,aG,st⟩ σ with ⟨⟨v1,aw⟩,σ1⟩
 have⟨rs,bA⟩:=xH (aeL (some v0) ((v1,aw),σ1));have z:=N8 (∀{G}(h:G:=by
 have z:=N8 (∀{G}(h:G:=by
 have fe:=hide (stays aE hl);have Mz:lb≠bc:=fun e=>by have:=lt_of_heap hl;omega
 clear bb aa h1 dq fE dv c' hl;go_enter func117,ntmps117;go_wp2_with fail;rw[<-bo.out,<-bS];clear bS;refine VG (H:=fun wz vb ev=>VB w0 mb af O es w2 v1 aw σ1 wz vb ev) (G:=?GG) (fun dD=>?ways) ?rest
 case ways=>
  exact aeF
 case rest=>
  have z:=N8 (∀{G}(h:G:=by
  have e':=hide (a7.fr.keep b7.out Ol);have f2:=hide (a7.fr.keep fe.out Ol);have qC:lb≠vb:=fun e=>by
   have h1:=a7.vb;have U:=lt_of_heap fe.out;omega
  have⟨fB,cy,dO,ip,iq,ir,ia⟩:=O3 (a7.v);have⟨hM,gW,gX,iK,iL,iM,hO⟩:=O3 f2.out;have⟨aU,p1,cp,cJ,_,d3⟩:=cells4 e'.out
  by_cases ao:aw=.no
  ·subst ao;have bu:ev=Qd:=a7.er;subst bu;go_wp2_with fail;have bh:=RF f2.out Jd (NY v1.k) (NY v1.n) (Oj v1.s);have ea:=aag f2.out (NY v1.k) (NY v1.n) (Oj v1.s);refine UC (v:=Qd) ?_;have aI:rs=((.no,some v1),σ1):=NZ bA;rw[aI];refine⟨⟨_,rfl,rfl⟩,a7.ms.YC bh Ol,?_,ea⟩;refine⟨dm.below.trans bh.below,fun b c e A ao hl=>?_⟩;have h1:=dm.rest b c e A ao OW;have cC:b≠lb:=fun e=>hl (by rw[e]);rw[heap_setCell_other _ _ _ _ cC,heap_setCell_other _ _ _ _ cC,heap_setCell_other _ _ _ _ cC];exact h1
  ·have⟨et,ex,bu⟩:=a7.er.WC ao ab;subst bu;have aI:rs=((aw,some v0),σ1):=by
    rw[bA.out];exact axO
   have bN:=hide aI;clear ao aI;go_wp2_with fail;refine UC (v:=.iface et ex) ?_;rw[bN.out];exact⟨⟨_,rfl,a7.er⟩,a7.ms,dm.up,f2.out⟩),G);exact asN),G);exact aoY),G);exact aoZ),G);exact ac6),G);exact zsl),G);exact axY
def ac9 (aC:Option Addr)(h1:Tt w0 mb af O es σ (Oa d 0) p (F.v (Oa d 0) p σ))(a1:Bs w0 mb af O es)(aZ:Rj w0)(aH:Sz N σ)(cn:∀ v1 σ1,F.v (Oa d 0) p σ=((v1,.no),σ1)->Sz N σ1)(hN:N+1<1000000000) :
  Oq 108 #[N7 mb,N7 a.p,PD p aC] w (EPost w0 mb af O es w (avQ F d p σ)):=by
 have bG:=aJ.lt;have z:=N8 (∀{G}(h:G:=by
 have dq:w.heap.size<=bc:=Oe;have z:=N8 (∀{G}(h:G:=by
 have b7:=hide bb;have ei:=hide (cells4 bb);have z:=N8 (∀{G}(h:G:=by
 have⟨b9,cz,cap0,fE,dv,fU,_⟩:=hd.Yb (i:=0) Oe;rw[E] at fE;have ns:=hd.cells.1;have⟨q,ag⟩:=xE a.p;have⟨kp,q4⟩:=xH b9.p;have na:=fU.kp (Kp.of aE);have⟨tx,cB⟩:=xE d.2.tx;have⟨kS,mC⟩:=xE (σ.M.find au tx);have hr:Hid (∀ X,Oo w2 X->Oq 195 #[N7 mb,NY au,Oj tx] X fun e w'=>e=OA (NY kS)/\Oo X w'):=fun X ak=>by
  have⟨_,_,_,_,ac⟩:=cU.later ak;rw[mC];exact aex ac.hh aH.go.ok aH.go.sm Oe au tx
 rcases aa:F.v (Oa d 0) ⟨au,aG,st⟩ σ with ⟨⟨v1,aw⟩,σ1⟩
 have⟨rs,d'⟩:=xE (avQ F d ⟨au,aG,st⟩ σ);rw[<-d'];have bA:Hid (rs=match (((v1,aw),σ1):(Va × Er) × St) with
  | ((v,.no),σ1)=>Zj kS tx v st σ1
  | ((_,e),σ1)=>(e,σ1)):=by
  show _=_
  rw[d'];unfold avQ;rw[aa,mC,cB]
 have bV:=hide aa;have sw:=hide cn;rw[aa] at h1;have fS:=cR.cells.2.2.1;rw[<-cB] at fS;have hblk:=cR.blk;have hblk2:=cR.akq (OT aE fE);rw[<-ag] at fE ds ns fS hblk ⊢;rw[<-q4.out] at dv;have ez:=hide (OT aE fE);have lK:=hide (OT aE dv);have mW:=hide fS;have ix:=hide hblk;clear bb d' aa ag dq dv cn cB mC fS hblk hblk2;go_enter func108,ntmps108;go_wp2_with fail;rw[<-bo.out,<-bS];clear bS;refine S9 9 fun ae=>?_;have z:=N8 (∀{G}(h:G:=by
 refine up 3 bc 0 ae ?_;refine uk 4 (ei.out.1) ae ?_;refine up 5 q 0 ae ?_;refine up 6 q 0 ae ?_;refine up 7 q 1 ae ?_;refine uk 8 mW.out ae ?_;refine PS 9 fun K D=>?_;go_simp;refine cm (NZ hr _ ae) ?_;rintro e aq ⟨rfl,bn⟩;refine ko D ?_;clear D K;have c7:Oo w2 aq:=ae.trans bn;have iO:=(cU.later c7);have fk:=hide (stays c7 b7.out);have Ct:=hide (cells4 fk.out);have cT:=(cG.trans (OV.of (L:=none) c7 (OO dk)));have q0:=hide (OT c7 ez.out);have ty:=hide (OT c7 lK.out)
 have yW:=hide (OT c7 mW.out);have tK:Hid (∃ c,aq.heap[q]? = some (OM c 40)):=by have⟨c,ai⟩:=NZ ix;exact⟨c,stays c7 ai⟩
 have fQ:=iO.lt;have A1:=lt_of_heap fk.out;have s4:q<aq.heap.size:=cell_lt q0.out;have c9:cz<aq.heap.size:=cell_lt ty.out;have bF:=hide (fun X (ak:Oo aq X)=>h1 X b9 aC (iO.later ak) ((na.kp (Kp.of c7)).kp (Kp.of ak)));rw[<-q4.out] at bF;refine uz 10 (NY kS) ?_;refine RY ?_ _;clear fE;go_simp;go_wp2_with fail;refine VG (H:=fun wz vb ev=>VB w0 mb af O es aq v1 aw σ1 wz vb ev) (G:=?GG) (fun dD=>?ways) ?rest
 case ways=>
  refine S9 8 fun ae=>?_;have z:=N8 (∀{G}(h:G:=by
  refine uk 4 q0.out ae ?_;refine up 5 cz 0 ae ?_;exact aBw),G);exact VZ
 case rest=>
  rintro wz vb ev a7;have eW:=a7.ms.lt;have dm:OV none mb w wz:=cT.trans a7.fr;have e':=hide (a7.fr.keep fk.out Ol)
  by_cases ao:aw=.no
  ·subst ao;have bu:ev=Qd:=a7.er;subst bu;have b8:=NZ sw v1 σ1 bV.out;have⟨uL,pS⟩:=xE (Zj kS tx v1 st σ1);have aI:rs=uL:=by rw[bA.out,pS]
   have cD:=hide aI;have kJ:Hid (∀ X,Oo wz X->Oq 197 #[N7 mb,NY kS,Oj tx,vA v1,Om st] X (EPost w0 mb af O es X uL)):=fun X ak=>by
    rw[pS];exact auR a1 aZ (a7.ms.later ak) b8 hN kS tx v1 st
   have gd:=hide (cells3 a7.v);have sl:=hide (cells4 e'.out);have op:=hide (a7.fr.Ul.TK yW.out tK.out (Or.inl rfl));have hj:=cell_lt op.out;have iU:=lt_of_heap e'.out;have EE:=lt_of_heap a7.v;clear pS aI;go_wp2_with fail;refine S9 9 fun ae=>?_;refine up 0 mb 0 ae ?_;refine uh 1 (NY kS) (ae) ?_;refine up 2 q 0 ae ?_;refine up 3 q 0 ae ?_;refine up 4 q 1 ae ?_;refine uk 5 op.out ae ?_;refine uk3 6 gd.out ae ?_;refine up 7 bc 2 ae ?_;refine uk 8 (sl.out.2.2.1) ae ?_;refine PS 9 fun K D=>?_;go_simp
   refine cm (NZ kJ _ ae) ?_;rintro e dF ⟨⟨ev,rfl,aL⟩,qr,qq⟩;refine ko D ?_;clear D K;have ki:=(dm.trans ((OV.of (L:=none) ae (OO eW)).trans qq));refine uz 10 ev ?_;refine RY ?_ _;go_simp;go_wp2_with fail;refine UC (v:=ev) ?_;rw[cD.out];exact⟨⟨_,rfl,aL⟩,qr,ki⟩
  ·exact awG),G);exact TI),G);exact zsl),G);exact axY),G);exact zss
end
abbrev UD (o:Oc):Ot:=.agg #[Om o.ret,NY o.v.k,NY o.v.n,Oj o.v.s]
def PL (w0:Og)(mb af:Nat)(O:List Nat)(es:Ot)(L:Option Nat)(w:Og)(r:(Oc × Er × Option Va) × St)(e:Ending)(w':Og):Prop:=
 (∃ ev,e=OA (.tuple #[UD r.1.1,ev])/\WZ es w' ev r.1.2.1)/\Ms w0 mb af O w' r.2/\OV L mb w w'/\OE w' L r.1.2.2
def Xq (w0:Og)(mb af:Nat)(O:List Nat)(es:Ot)(σ:St)(d:Nd)(p:Pl)(L:Option Nat)(l:Option Va)(r:(Oc × Er × Option Va) × St):Prop:=
 ∀ (X:Og) (a:Ad),Ms w0 mb af O X σ->OJ O X a d->OE X L l->Oq 53 #[N7 mb,N7 a.p,PD p (LA L)] X (PL w0 mb af O es L X r)
def chQ (F:Fx)(d:Nd)(p:Pl)(l:Option Va)(σ:St):(Oc × Er × Option Va) × St:=match F.v (Oa d 0) p σ with
 | ((v,.no),σ1)=>if v.tru then F.s (Oa d 1) p l σ1 else if 2<d.2.kids.length then F.s (Oa d 2) p l σ1 else ((Qy,.no,l),σ1)
 | ((_,e),σ1)=>((Qy,e,l),σ1)
def wiQ (F:Fx)(d:Nd)(p:Pl)(l:Option Va)(σ:St):(Oc × Er × Option Va) × St:=match Sl F (Oa d 0) p σ with
 | ((o,.no),σ1)=>F.s (Oa d 1) { p with scope:=σ1.top } l (σ1.opn p.scope o (-2))
 | ((_,e),σ1)=>((Qy,e,l),σ1)
section
variable {l:Option Va} (h:OV L mb w w') (hl:OE w L l)
include l h hl
def OV.RS {b:Nat}{c:Array Ot}{t:TypeId}(A:w.heap[b]? = some (OM c t))(aZ:t ∉ Tm)(H2:t≠65):w'.heap[b]? = some (OM c t):=by
 refine h.rest b c t A aZ (fun e=>?_)
 cases L with
 | none=>cases e
 | some lb=>
  cases e
  cases l with
  | none=>exact hl
  | some v=>exact QA A hl H2 rfl
def OV.kpL:Kp w w':=fun b c e A ao=>h.RS hl A (by rcases ao with rfl|rfl <;> decide) (by rcases ao with rfl|rfl <;> decide)
end
def OE.Tv {l:Option Va}{T:List TypeId}(h:OE w L l)(aF:O8 T mb w w')(dZ:65 ∉ T:=by decide):OE w' L l:=by
 cases L <;> cases l <;> first|exact h|exact aF.rest _ _ _ h dZ
def OE.later {l:Option Va}(h:OE w L l)(A:Oo w w'):OE w' L l:=by
 cases L <;> cases l <;> first|exact h|exact stays A h
section
variable (ab:Zf es) (aJ:Ms w0 mb af O w σ) {a:Ad} {d:Nd} (hd:OJ O w a d)
include ab aJ a d hd
def ao8 (E:d.2.kids.length=2)(p:Pl){l:Option Va}(hl:OE w L l)(h1:Tt w0 mb af O es σ (Oa d 0) p (F.v (Oa d 0) p σ))(U:∀ v1 σ1,F.v (Oa d 0) p σ=((v1,.no),σ1)->Xq w0 mb af O es σ1 (Oa d 1) p L l (F.s (Oa d 1) p l σ1)) :
  Oq 111 #[N7 mb,N7 a.p,PD p (LA L)] w (PL w0 mb af O es L w (chQ F d p l σ)):=by
 have z:=N8 (∀{G}(h:G:=by
 have z:=N8 (∀{G}(h:G:=by
 have z:=N8 (∀{G}(h:G:=by
 have z:=N8 (∀{G}(h:G:=by
 have b7:=hide bb;have ei:=hide (cells4 bb);have z:=N8 (∀{G}(h:G:=by
 have z:=N8 (∀{G}(h:G:=by
 have z:=N8 (∀{G}(h:G:=by
 have⟨rs,bA⟩:=xH (chQ F d ⟨au,aG,st⟩ l σ);rw[<-bA.out,<-bj.out];have z:=N8 (∀{G}(h:G:=by
 have z:=N8 (∀{G}(h:G:=by
 refine VG (H:=fun wz vb ev=>VB w0 mb af O es w2 v1 aw σ1 wz vb ev) (G:=?GG) (fun dD=>?ways) ?rest
 case ways=>
  exact aeF
 case rest=>
  rintro wz vb ev a7;have dj:=a7.fr.keep bq.out Ol;have ed:=hide dj;have⟨cS,bY,cg,eo,dJ,dK,dL,jj,rl⟩:=QK (dj);have z:=N8 (∀{G}(h:G:=by
  have gI:=cR.kp a7.fr.Ul;have f2:=(fe.keep a7.fr)
  by_cases ao:aw=.no
  ·subst ao;have bu:ev=Qd:=a7.er;subst bu;have eR:=(WX v1 wz)
   cases e1:v1.tru with
   | true=>
    have z:=N8 (∀{G}(h:G:=by
    have z:=N8 (∀{G}(h:G:=by
    have fa:=hide (fun X (ak:Oo ef X)=>(NZ gY v1 σ1 bV.out) X bP (j0.later ak) (jf.kp (Kp.of ak)) (nE.later ak));have z:=N8 (∀{G}(h:G:=by
    have z:=N8 (∀{G}(h:G:=by
    refine uk 4 uV.out ae ?_;refine up 5 bK 1 ae ?_;refine uk 6 oi.out ae ?_;refine uk4 7 pm.out ae ?_;refine PS 8 fun K D=>?_;have z:=N8 (∀{G}(h:G:=by
    have jO:=(OV.of (L:=L) ae (OO oU)).trans ah;have dz:=hide (jO.RS nE jJ.out Ol Ol);have fj:=(m0.up.trans jO);exact awI),G);exact ao9),G);exact VZ),G);exact aBI),G);exact awJ),G);exact asP
   | false=>
    have z:=N8 (∀{G}(h:G:=by
    have⟨bP,bK,cap1,jL,fW,jf,_⟩:=sV.Yb (i:=1) Oe;have s3:=sV.cells.1;rw[cL,<-bj.out] at jL;rw[<-bj.out] at s3;have aI:rs=((Qy,.no,l),σ1):=by rw[bA.out];unfold chQ;rw[bV.out];simp[md.out,p8.out]
    have cD:=hide aI;have⟨hM,gW,gX,rT,iK,iL,iM,rU,hO⟩:=QK jJ.out;clear cS bY cg eo dJ dK dL jj rl fB cy dO ip iq ir ia fW cL aI;have z:=N8 (∀{G}(h:G:=by
    exact⟨⟨_,rfl,rfl⟩,bE,bI.up,nE.Tv bh⟩),G);exact aBJ),G);exact asP
  ·exact aBK),G);exact aoW),G);exact aBL),G);exact ama),G);exact aiR),G);exact ac6),G);exact UZ),G);exact zsd),G);exact Xr),G);exact zsc),G);exact zsn
def apa (E:d.2.kids.length=3)(p:Pl){l:Option Va}(hl:OE w L l)(h1:Tt w0 mb af O es σ (Oa d 0) p (F.v (Oa d 0) p σ))(U:∀ v1 σ1,F.v (Oa d 0) p σ=((v1,.no),σ1)->Xq w0 mb af O es σ1 (Oa d 1) p L l (F.s (Oa d 1) p l σ1)/\Xq w0 mb af O es σ1 (Oa d 2) p L l (F.s (Oa d 2) p l σ1)) :
  Oq 111 #[N7 mb,N7 a.p,PD p (LA L)] w (PL w0 mb af O es L w (chQ F d p l σ)):=by
 have z:=N8 (∀{G}(h:G:=by
 have z:=N8 (∀{G}(h:G:=by
 have z:=N8 (∀{G}(h:G:=by
 have z:=N8 (∀{G}(h:G:=by
 have b7:=hide bb;have ei:=hide (cells4 bb);have z:=N8 (∀{G}(h:G:=by
 have z:=N8 (∀{G}(h:G:=by
 have z:=N8 (∀{G}(h:G:=by
 have⟨rs,bA⟩:=xH (chQ F d ⟨au,aG,st⟩ l σ);rw[<-bA.out,<-bj.out];have z:=N8 (∀{G}(h:G:=by
 have z:=N8 (∀{G}(h:G:=by
 refine VG (H:=fun wz vb ev=>VB w0 mb af O es w2 v1 aw σ1 wz vb ev) (G:=?GG) (fun dD=>?ways) ?rest
 case ways=>
  exact aeF
 case rest=>
  rintro wz vb ev a7;have dj:=a7.fr.keep bq.out Ol;have ed:=hide dj;have⟨cS,bY,cg,eo,dJ,dK,dL,jj,rl⟩:=QK (dj);have z:=N8 (∀{G}(h:G:=by
  have gI:=cR.kp a7.fr.Ul;have f2:=(fe.keep a7.fr)
  by_cases ao:aw=.no
  ·subst ao;have bu:ev=Qd:=a7.er;subst bu;have eR:=(WX v1 wz)
   cases e1:v1.tru with
   | true=>
    have z:=N8 (∀{G}(h:G:=by
    have z:=N8 (∀{G}(h:G:=by
    have fa:=hide (fun X (ak:Oo ef X)=>(NZ gY v1 σ1 bV.out).1 X bP (j0.later ak) (jf.kp (Kp.of ak)) (nE.later ak));have z:=N8 (∀{G}(h:G:=by
    have z:=N8 (∀{G}(h:G:=by
    refine uk 4 uV.out ae ?_;refine up 5 bK 1 ae ?_;exact aBM),G);exact VZ),G);exact aBI),G);exact awJ),G);exact asP
   | false=>
    have z:=N8 (∀{G}(h:G:=by
    have⟨bP,bK,cap1,jL,fW,jf,_⟩:=sV.Yb (i:=2) Oe;rw[cL,<-bj.out] at jL;have⟨wW,pO⟩:=xE bP.p;have fa:=hide (fun X (ak:Oo ef X)=>(NZ gY v1 σ1 bV.out).2 X bP (j0.later ak) (jf.kp (Kp.of ak)) (nE.later ak));have bL:=N8 (∀{G}(h:G:=by
    have aI:rs=F.s (Oa d 2) ⟨au,aG,st⟩ l σ1:=by rw[bA.out];unfold chQ;rw[bV.out];simp[md.out,p8.out]
    have cD:=hide aI;rw[<-aI] at fa;clear cS bY cg eo dJ dK dL jj rl fB cy dO ip iq ir ia fW pO cL aI;go_wp2_with fail;clear jL;refine S9 8 fun ae=>?_;have z:=N8 (∀{G}(h:G:=by
    refine uk 4 uV.out ae ?_;refine up 5 bK 2 ae ?_;exact aBM),G);exact VZ),G);exact ztv),G);exact asP
  ·exact aBK),G);exact aoW),G);exact aBL),G);exact ama),G);exact aiR),G);exact ac6),G);exact UZ),G);exact zsd),G);exact Xr),G);exact zsc),G);exact zsn
end
abbrev ocO (o:Oc):Obj:=OM #[Om o.ret,NY o.v.k,NY o.v.n,Oj o.v.s] 67
variable {w2:Og}
structure SB (w0:Og)(mb af:Nat)(O:List Nat)(es:Ot)(L:Option Nat)(w2:Og)(o:Oc)(e:Er)(l:Option Va)(σ:St)(wz:Og)(ob:Nat)(ev:Ot):Prop where
 o:wz.heap[ob]? = some (ocO o)
 ob:w2.heap.size<=ob
 er:WZ es wz ev e
 ms:Ms w0 mb af O wz σ
 fr:OV L mb w2 wz
 la:OE wz L l
def SB.late {aD:Og}{ev:Ot}{o:Oc}{e:Er}{l:Option Va}(aL:WZ es aD ev e)(aJ:Ms w0 mb af O aD σ)(ah:OV L mb w2 aD)(hl:OE aD L l):SB w0 mb af O es L w2 o e l σ (aD.alloc (.cells #[Om o.ret,NY o.v.k,NY o.v.n,Oj o.v.s] 67)) aD.heap.size ev:=by
 have A:Oo aD (aD.alloc (.cells #[Om o.ret,NY o.v.k,NY o.v.n,Oj o.v.s] 67)):=PE;exact⟨Oi _ _,ah.below.size,aL.later A,aJ.later A,ah.trans (OV.of A (OO aJ.lt)),hl.later A⟩
def SB.early {aD:Og}{ev x y bB u:Ot}{o:Oc}{e:Er}{l:Option Va}{vb:Nat}(am:aD.heap[vb]? = some (OM #[x,y,bB,u] 67))(a7:w2.heap.size<=vb)(aR:mb<=w2.heap.size)(aL:WZ es aD ev e)(aJ:Ms w0 mb af O aD σ)(ah:OV L mb w2 aD)(hl:OE aD L l) :
  SB w0 mb af O es L w2 o e l σ ((((aD.setCell (N9 vb 0) (Om o.ret)).setCell (N9 vb 1) (NY o.v.k)).setCell (N9 vb 2) (NY o.v.n)).setCell (N9 vb 3) (Oj o.v.s)) vb ev:=by
 have aF:=Ud am (Nat.le_trans aR a7) (Om o.ret) (NY o.v.k) (NY o.v.n) (Oj o.v.s);exact⟨aai am _ _ _ _,a7,aL.Qn aF Ol,aJ.YC aF Ol,ah.newT aF (UR a7 _ _ _ _),hl.Tv aF⟩
section
variable {p:Pl} {d:Nd} {aW:List Nd} {l bQ:Option Va} {o:Oc}
include p d aW l bQ o
def asQ {σ1:St}(h:F.s d p l σ=((o,.no,bQ),σ1))(aa:o.ret=false):Qm F p (d::aW) l σ=Qm F p aW bQ σ1:=by rw[Qm,h];simp[aa]
def apc {σ1:St}(h:F.s d p l σ=((o,.no,bQ),σ1))(aa:o.ret=true):Qm F p (d::aW) l σ=((o,.no,bQ),σ1):=by rw[Qm,h];simp[aa]
def akt {e:Er}{σ1:St}(h:F.s d p l σ=((o,e,bQ),σ1))(ao:e≠.no):Qm F p (d::aW) l σ=((o,e,bQ),σ1):=by
 rw[Qm,h];exact awu
end
def Zz (ab:Zf es)(aJ:Ms w0 mb af O w σ){u:Ot}{cZ:List Ad}{aW:List Nd}(aa:RZ 0 w u cZ)(fw:Uc O w cZ aW)(hlen:aW.length<=1000000)(p:Pl){l:Option Va}(hl:OE w L l)
  (P:St->Option Va->Prop) (hP:P σ l) (br:∀ d ∈ aW,∀ σ l,P σ l->Xq w0 mb af O es σ d p L l (F.s d p l σ)/\∀ o bQ σ1,F.s d p l σ=((o,.no,bQ),σ1)->P σ1 bQ) :
  Oq 28 #[N7 mb,u,PD p (LA L)] w (PL w0 mb af O es L w (Qm F p aW l σ)):=by
 have z:=N8 (∀{G}(h:G:=by
 have z:=N8 (∀{G}(h:G:=by
 have z:=N8 (∀{G}(h:G:=by
 have z:=N8 (∀{G}(h:G:=by
 have fc:=Uc.len _ _ fw;have⟨rs,fM⟩:=xH (Qm F ⟨au,aG,st⟩ aW l σ);rw[<-fM.out];have cU:=(aJ.later aE);have cG:=(OV.of (L:=L) aE (OO bG));have b7:=hide bb;have bq:=hide hr2;have fe:=(hl.later aE);have cQ:=hide cE;have dy:=(aa.later aE);have nF:=(Uc.kp (Kp.of aE) _ _ fw);have oy:=hide hP;have aj:=hide br;obtain⟨cV,dM,aQ⟩:=aa.form;subst aQ;have dk:=cU.lt;have pg:=hide fc;have DU:cZ.length<=1000000:=Oe;clear bb hr2 hP br dq cE d2 fc;go_enter func28,ntmps28;go_wp2_with fail
 rw[<-bo.out,<-b4,<-bS];clear bS b4
 go_loopw [14] (fun i wr=>∃ (k:Nat) (hz:Option Va) (dx:St),k<=cZ.length/\i=NY k/\Ms w0 mb af O wr dx/\P dx hz/\OV L mb w2 wr/\OE wr L hz/\rs=Qm F ⟨au,aG,st⟩ (aW.drop k) hz dx) (fun i _=>cZ.length - (intOf i).toNat)
 case atStart=>exact⟨0,l,σ,Nat.zero_le _,rfl,cU,oy.out,OV.of QI (OO dk),fe,fM.out⟩
 case round=>
  obtain⟨k,hz,dx,E,rfl,aJ,lk,ah,ku,iV⟩:=hrel;have mi:=hide lk;have jb:=hide iV;have h4:=aJ.lt;have c':=ah.kpL fe;have bV:=hide (ah.RS fe bq.out Ol Ol);have A3:=ah.RS fe b7.out Ol Ol;clear lk iV
  by_cases aM:k<cZ.length
  ·have bm:k<aW.length:=by rw[<-pg.out];exact aM
   obtain⟨g,cap,am,hg,ai,ax⟩:=(dy.kp c').cell k aM;have z:=N8 (∀{G}(h:G:=by
   obtain⟨cj,ih⟩:=NZ aj aW[k] (List.getElem_mem _) dx hz mi.out;have bF:=(cj wr cZ[k] aJ ((Uc.get _ _ nF k aM bm).kp c') ku);rw[<-kM.out] at bF;have⟨q,ag⟩:=xE ((cZ[k]).p);rw[<-ag] at ai bF
   rcases dt:F.s aW[k] ⟨au,aG,st⟩ hz dx with ⟨⟨bH,aw,bQ⟩,σ1⟩
   rw[dt] at bF;have lL:=hide ih;have df:=hide dt;have me:=hide (List.drop_eq_getElem_cons bm);have⟨aU,p1,cp,cJ,_,d3⟩:=cells4 A3;clear ih ag dt A3;go_wp2_with fail;refine cm bF ?_;rintro e aD ⟨⟨ev,rfl,aL⟩,g4,gw,g3⟩;have fj:=(ah.trans gw);have dz:=hide (gw.RS ku bV.out Ol Ol);have hx:=g4.lt;clear aU p1 cp cJ d3 ai;obtain⟨i6,⟨eD,dN,eP⟩⟩:=bH
   cases i6 with
   | true=>
    by_cases ao:aw=.no
    ·subst ao;have bu:ev=Qd:=aL;subst bu;have aI:rs=((⟨true,⟨eD,dN,eP⟩⟩,.no,bQ),σ1):=by rw[jb.out,me.out];exact apc df.out rfl
     have cD:=hide aI;clear aI;have z:=N8 (∀{G}(h:G:=by
     refine U8 (v:=.tuple #[UD ⟨true,⟨eD,dN,eP⟩⟩,Qd]) ?_;rw[cD.out];exact⟨⟨_,rfl,oK⟩,bE,bI,xX⟩),G);exact aBN
    ·have⟨et,ex,bu⟩:=aL.WC ao ab;subst bu;have aI:rs=((⟨true,⟨eD,dN,eP⟩⟩,aw,bQ),σ1):=by rw[jb.out,me.out];exact akt df.out ao
     have cD:=hide aI;clear aI ao;have z:=N8 (∀{G}(h:G:=by
     refine U8 (v:=.tuple #[UD ⟨true,⟨eD,dN,eP⟩⟩,.iface et ex]) ?_;rw[cD.out];exact⟨⟨_,rfl,oK⟩,bE,bI,xX⟩),G);exact aBN
   | false=>
    by_cases ao:aw=.no
    ·subst ao;have bu:ev=Qd:=aL;subst bu;go_wp2_with fail;have d0:=(Below.refl aD.heap.size aD).alloc Pg (.cells #[Om false,NY eD,NY dN,Oj eP] 67);have iO:=(g4.later d0);have cT:=(fj.trans (OV.of (L:=L) d0 (OO hx)));have vh:=(g3.later d0)
     go_roundw
     case rel=>
      refine⟨k+1,bQ,σ1,by omega,by go_num,iO,NZ lL _ bQ σ1 df.out,cT,vh,?_⟩;rw[jb.out,me.out];exact asQ df.out rfl
     case measure=>simp[intOf];omega
    ·have⟨et,ex,bu⟩:=aL.WC ao ab;subst bu;have aI:rs=((⟨false,⟨eD,dN,eP⟩⟩,aw,bQ),σ1):=by rw[jb.out,me.out];exact akt df.out ao
     have cD:=hide aI;clear aI ao;have⟨cS,bY,cg,eo,dJ,dK,dL,jj,rl⟩:=QK dz.out;go_wp2_with fail;have⟨b3,bz⟩:=xE (((((aD.setCell (N9 aV 0) (Om false)).setCell (N9 aV 1) (NY eD)).setCell (N9 aV 2) (NY dN)).setCell (N9 aV 3) (Oj eP)).alloc (.cells #[Om false,NY eD,NY dN,Oj eP] 67));rw[<-bz];have hi:mb<=aV:=by have:=NZ cQ;omega
     have bh:=Ud dz.out hi (Om false) (NY eD) (NY dN) (Oj eP);have d0:=(Below.refl _ ((((aD.setCell (N9 aV 0) (Om false)).setCell (N9 aV 1) (NY eD)).setCell (N9 aV 2) (NY dN)).setCell (N9 aV 3) (Oj eP))).alloc Pg (.cells #[Om false,NY eD,NY dN,Oj eP] 67);have ea:=stays d0 (aai dz.out (Om false) (NY eD) (NY dN) (Oj eP));have bL:=N8 (∀{G}(h:G:=by
     refine U8 (v:=.tuple #[UD ⟨false,⟨eD,dN,eP⟩⟩,.iface et ex]) ?_;rw[cD.out];exact⟨⟨_,rfl,oK⟩,bE,bI,xX⟩),G);exact ztl),G);exact awv
  ·have cL:k=cZ.length:=Oe;have aI:rs=((Qy,.no,hz),dx):=by rw[jb.out,cL,pg.out,List.drop_length];rfl
   have cD:=hide aI;have hK:¬ (k:Int)<(cZ.length:Int):=Oe;have⟨cS,bY,cg,eo,dJ,dK,dL,jj,rl⟩:=QK bV.out;clear aI cL A3;go_wp2_with fail;have⟨b3,bz,bh,bI,bE,cK,b1,bU,ej⟩:=rt4 bV.out cQ.out bG (cG.trans ah) aJ (Om false) (NY 0) (NY 0) (Pm);rw[<-bz];refine agP (v:=.tuple #[UD Qy,Qd]) ?_;rw[cD.out];exact⟨⟨_,rfl,rfl⟩,bE,bI,ku.Tv bh⟩),G);exact zsf),G);exact Xr),G);exact zsc),G);exact zsn
def OJ.ar {a:Ad}{d:Nd}(h:OJ O w a d):∃ cV dM,w.cell? (N9 a.p 3)=some (.slice cV d.2.kids.length dM)/\RZ 0 w (.slice cV d.2.kids.length dM) a.ks:=by
 have⟨BI,c3,hrow,_⟩:=Ri.row h.at_;obtain⟨cV,dM,aQ⟩:=hrow.form;rw[h.ks] at aQ;subst aQ;exact⟨cV,dM,c3,hrow⟩
section
variable (aJ:Ms w0 mb af O w σ) {a:Ad} {d:Nd} (hd:OJ O w a d)
include aJ a d hd
def aeN (E:d.2.kids.length=0)(p:Pl)(aC:Option Addr) :
  Oq 108 #[N7 mb,N7 a.p,PD p aC] w (EPost w0 mb af O es w (.no,σ)):=by
 have bG:=aJ.lt;obtain⟨au,aG,st⟩:=p;have aE:=(Below.refl w.heap.size w).alloc Pg (.cells #[NY au,NY aG,Om st,.pointer aC] 73);have cU:=(aJ.later aE);have cG:=(OV.of (L:=none) aE (OO bG));obtain⟨cV,dM,c3,_⟩:=hd.ar;rw[E] at c3;have ns:=hd.cells.1;have⟨q,ag⟩:=xE a.p;rw[<-ag] at c3 ns ⊢;clear ag;go_enter func108,ntmps108;go_wp2_with fail;exact UC (v:=Qd) ⟨⟨_,rfl,rfl⟩,cU,cG⟩
def adM (E:d.2.kids.length<=1){u:Ot}(aa:RZ 0 w u a.ks)(p:Pl)(aC:Option Addr)(h1:∀ fX ∈ Px d,Tt w0 mb af O es σ fX p (F.v fX p σ)) :
  Oq 114 #[N7 mb,u,PD p aC] w (OQ w0 mb af O es w (Tq F (Px d) p σ)):=by
 have fw:=hd.ndl;have cI:=hd.ks;have mF:=RG d;have⟨cZ,fc⟩:=xE a.ks;have⟨aW,hds⟩:=xE (Px d);rw[<-fc] at aa fw cI;rw[<-hds] at fw mF h1 ⊢;clear fc hds
 match cZ,aW,aa,fw,h1 with
 | [],[],aa,_,_=>exact aiX aJ aa p aC
 | [k],[fX],aa,fw,h1=>exact agO aJ aa fw.1 p aC (h1 fX OW)
 | [],_::_,_,fw,_=>exact fw.elim
 | _::_,[],_,fw,_=>exact fw.elim
 | _::_::_,_,_,_,_=>simp at cI;omega
 | [_],_::_::_,_,fw,_=>exact fw.2.elim
end
def asO (ab:Zf es)(aJ:Ms w0 mb af O w σ){a:Ad}{d:Nd}(hd:OJ O w a d)(E:d.2.kids.length<=1)(p:Pl)(aC:Option Addr)(h1:∀ fX ∈ Px d,Tt w0 mb af O es σ fX p (F.v fX p σ))(cn:∀ v1 σ1,Tq F (Px d) p σ=((v1,.no),σ1)->Sz N σ1)(hN:N<1000000000) :
  Oq 109 #[N7 mb,N7 a.p,PD p aC] w (EPost w0 mb af O es w (Zx d p (Tq F (Px d) p σ))):=by
 have bG:=aJ.lt;have z:=N8 (∀{G}(h:G:=by
 have dq:w.heap.size<=bc:=Oe;have z:=N8 (∀{G}(h:G:=by
 have b7:=hide bb;have ei:=hide (cells4 bb);have z:=N8 (∀{G}(h:G:=by
 obtain⟨cV,dM,c3,hrow⟩:=cR.ar;have⟨n,ax⟩:=xE d.2.kids.length;rw[<-ax] at c3 hrow;have⟨q,ag⟩:=xE a.p;have bF:=hide (fun X (ak:Oo w2 X)=>adM (cU.later ak) (cR.kp (Kp.of ak)) E (hrow.later ak) ⟨au,aG,st⟩ aC h1)
 rcases aa:Tq F (Px d) ⟨au,aG,st⟩ σ with ⟨⟨v1,aw⟩,σ1⟩
 rw[aa] at bF;have⟨tx,lO⟩:=xH d.2.tx;have⟨rs,bA⟩:=xH (Zx d ⟨au,aG,st⟩ ((v1,aw),σ1));rw[<-bA.out];have bV:=hide aa;have sw:=hide cn;have fS:=cR.cells.2.2.1;rw[<-lO.out] at fS;have hblk:=cR.blk;rw[<-ag] at c3 ds fS hblk ⊢;have ez:=hide c3;have mW:=hide fS;have ix:=hide hblk;clear bb aa ag h1 dq cn fS hblk c3 ax E;go_enter func109,ntmps109;go_wp2_with fail;rw[<-bo.out,<-bS];clear bS;refine VG (H:=fun wz vb ev=>VB w0 mb af O es w2 v1 aw σ1 wz vb ev) (G:=?GG) (fun dD=>?ways) ?rest
 case ways=>
  refine S9 6 fun ae=>?_;have z:=N8 (∀{G}(h:G:=by
  refine uk 4 ez.out ae ?_;refine uk4 5 ei.out ae ?_;refine uq2 6 10 (fun K D=>?_) fun K D=>?_
  ·have z:=N8 (∀{G}(h:G:=by
   refine uz 7 (.tuple #[(vA v1),ev]) ?_;refine uz 8 (vA v1) ?_;refine uz 9 ev ?_;refine PS 10 fun K D=>?_;go_simp;refine ko D ?_;clear D K;refine PS 11 fun K D=>?_;go_simp;refine ko D ?_;clear D K;refine uz 12 ev ?_;exact aBx),G);exact asF
  ·have z:=N8 (∀{G}(h:G:=by
   have fi:aD.heap[w2.heap.size]? = some (OM #[NY 0,NY 0,Pm] 65):=ah.keep (Oi _ _) Ol;have⟨z0,oc,z2,od,og,oh,zl⟩:=O3 fi;refine uz 7 (.tuple #[(vA v1),ev]) ?_;refine uz 8 (vA v1) ?_;refine uz 9 ev ?_;refine PS 11 fun K D=>?_;go_simp;refine ko D ?_;clear D K;refine uz 12 ev ?_;exact aBG),G);exact aBH),G);exact VZ
 case rest=>
  have z:=N8 (∀{G}(h:G:=by
  have e':=hide (a7.fr.keep b7.out Ol)
  by_cases ao:aw=.no
  ·subst ao;have bu:ev=Qd:=a7.er;subst bu;have b8:=NZ sw v1 σ1 bV.out;have⟨cs,fG⟩:=xE ((σ1.M.start au tx v1).1);have⟨b6,ga⟩:=xE ({ σ1 with M:=(σ1.M.start au tx v1).2 }:St);have aI:rs=(erP cs,b6):=by rw[bA.out,fG,ga,lO.out];rfl
   have cD:=hide aI;have gc:=hide (aiM σ1.M au tx v1);rw[<-fG] at gc;have kJ:Hid (∀ X,Oo wz X->Oq 198 #[N7 mb,NY au,Oj tx,vA v1] X fun e w'=>e=OA (TT cs)/\Ms w0 mb af O w' b6/\O8 Th mb X w'):=fun X ak=>by
    have⟨_,_,_,_,ac⟩:=a7.ms.later ak;refine(asl ac.hh b8.go.sm (OO hN) au tx v1).mono ?_;rintro e w' ⟨rfl,U,av⟩;rw[fG,ga];exact⟨rfl,⟨_,_,_,_,ac.heap U av⟩,av⟩
   have gd:=hide (cells3 a7.v);have sl:=hide (cells4 e'.out);have op:=hide (a7.fr.Ul.TK mW.out ix.out (Or.inl rfl));have hj:=cell_lt op.out;have iU:=lt_of_heap e'.out;have EE:=lt_of_heap a7.v;clear fG ga aI;go_wp2_with fail;refine S9 10 fun ae=>?_;have z:=N8 (∀{G}(h:G:=by
   refine up 3 bc 0 ae ?_;refine uk 4 (sl.out.1) ae ?_;refine up 5 q 0 ae ?_;refine up 6 q 0 ae ?_;refine up 7 q 1 ae ?_;refine uk 8 op.out ae ?_;refine uk3 9 gd.out ae ?_;refine PS 10 fun K D=>?_;go_simp;refine cm (NZ kJ _ ae) ?_;rintro e dF ⟨rfl,qr,qq⟩;refine ko D ?_;clear D K;have ki:=(dm.trans ((OV.of (L:=none) ae (OO eW)).trans (OV.ofT qq)));refine uz 11 (TT cs) ?_;refine RY ?_ _;go_simp;go_wp2_with fail;refine UC (v:=TT cs) ?_;rw[cD.out];exact⟨⟨_,rfl,aoS gc.out⟩,qr,ki⟩),G);exact TI
  ·exact awG),G);exact asN),G);exact zsl),G);exact axY),G);exact zss
def YF (F:Fx)(d:Nd)(p:Pl)(σ:St):(Va × Er) × St:=match Tn F p (Px d) [] σ with
 | ((a::b::_,.no),σ1)=>(UO σ1.M d.2.kd a b,σ1)
 | ((_,e),σ1)=>((vU,e),σ1)
def abW {F:Fx}{p:Pl}:∀ (aW:List Nd) (aX:List Va) (σ:St) (vs:List Va) (σ1:St),Tn F p aW aX σ=((vs,.no),σ1)->vs.length=aX.length+aW.length
 | [],aX,σ,vs,σ1,h=>by rw[Tn] at h;cases h;simp
 | d::aW,aX,σ,vs,σ1,h=>by
  rcases aa:F.v d p σ with ⟨⟨v,e⟩,b6⟩
  by_cases ao:e=.no
  ·subst ao;rw[akr aa] at h;have:=abW aW _ _ _ _ h;rw[this];simp;omega
  ·rw[aks aa ao] at h;cases h;exact absurd rfl ao
structure VB2 (w0:Og)(mb af:Nat)(O:List Nat)(w2:Og)(v1 v2:Va)(σ:St)(wz:Og)(kQ j5:Nat):Prop where
 v1:wz.heap[kQ]? = some (Y0 v1)
 v2:wz.heap[j5]? = some (Y0 v2)
 la:w2.heap.size<=kQ
 lb:w2.heap.size<=j5
 ne:kQ≠j5
 bl:Oo w2 wz
 ms:Ms w0 mb af O wz σ
def VB2.one {v1 v2:Va}(aJ:Ms w0 mb af O w σ):VB2 w0 mb af O w v1 v2 σ ((w.alloc (.cells #[NY v1.k,NY v1.n,Oj v1.s] 65)).alloc (.cells #[NY v2.k,NY v2.n,Oj v2.s] 65)).drew w.heap.size (w.heap.size+1):=by
 have A:Oo w ((w.alloc (.cells #[NY v1.k,NY v1.n,Oj v1.s] 65)).alloc (.cells #[NY v2.k,NY v2.n,Oj v2.s] 65)).drew:=(PE.alloc OW _).drew;refine⟨alloc_old (Oi _ _),?_,Pg,by omega,by omega,A,aJ.later A⟩;have:=Oi (w.alloc (.cells #[NY v1.k,NY v1.n,Oj v1.s] 65)) (.cells #[NY v2.k,NY v2.n,Oj v2.s] 65);rw[show (w.alloc (.cells #[NY v1.k,NY v1.n,Oj v1.s] 65)).heap.size=w.heap.size+1 by simp] at this;exact this
def VB2.swap {v1 v2:Va}{wz:Og}{kQ j5:Nat}(h:VB2 w0 mb af O w v2 v1 σ wz j5 kQ):VB2 w0 mb af O w v1 v2 σ wz kQ j5:=⟨h.v2,h.v1,h.lb,h.la,h.ne.symm,h.bl,h.ms⟩
def aGy {H G:Og->Nat->Nat->Prop}{goal:Prop}(h1:(∀ w v u,H w v u->G w v u)->goal)(U:∀ w v u,H w v u->G w v u):goal:=h1 U
def awC (ab:Zf es)(a1:Bs w0 mb af O es)(aZ:Y1 w0)(aJ:Ms w0 mb af O w σ){a:Ad}{d:Nd}(hd:OJ O w a d)(E:d.2.kids.length=2)(p:Pl)(aC:Option Addr)
  (P:St->Prop) (hP:P σ) (br:∀ oI ∈ Px d,∀ σ,P σ->Tt w0 mb af O es σ oI p (F.v oI p σ)/\∀ v σ1,F.v oI p σ=((v,.no),σ1)->P σ1)
  (am:∀ v1 v2 σ1,Tn F p (Px d) [] σ=(([v1,v2],.no),σ1)->(-1000000000<=v1.n/\v1.n<=1000000000)/\(-1000000000<=v2.n/\v2.n<=1000000000)/\(σ1.M.shw v1).size<=1000000/\(σ1.M.shw v2).size<=1000000) :
  Oq 259 #[N7 mb,N7 a.p,PD p aC] w (OQ w0 mb af O es w (YF F d p σ)):=by
 have z:=N8 (∀{G}(h:G:=by
 have ei:=hide (cells4 bb);have z:=N8 (∀{G}(h:G:=by
 have⟨q,bj⟩:=xH a.p;have⟨BI,c3,hrow,s4⟩:=Ri.row cR.at_;obtain⟨cV,dM,aQ⟩:=hrow.form;subst aQ;have cI:a.ks.length=2:=by rw[cR.ks,E]
 have bF:=hide (fun X (ak:Oo w2 X)=>agL ab (cU.later ak) (hrow.later ak) (Uc.kp (Kp.of ak) _ _ cR.ndl) (by rw[RG,E];omega) ⟨au,aG,st⟩ aC P hP br)
 rw[cI] at c3 bF;have⟨rs,bA⟩:=xH (YF F d ⟨au,aG,st⟩ σ);rw[<-bA.out,<-bj.out];rw[<-bj.out] at c3 ds
 rcases aa:Tn F ⟨au,aG,st⟩ (Px d) [] σ with ⟨⟨vs,aw⟩,σ1⟩
 rw[aa] at bF;have bV:=hide aa;have GX:=hide am;have p8:=hide E;have ez:=hide c3;clear bb hr2 aa dq cE d2 c3 hP br am E cI s4;go_enter func259,ntmps259;go_wp2_with fail;rw[<-bo.out,<-b4,<-bS];clear bS b4;refine S9 6 fun ae=>?_;have z:=N8 (∀{G}(h:G:=by
 refine uk 4 ez.out ae ?_;refine uk4 5 ei.out ae ?_;refine PS 6 fun K D=>?_;go_simp;refine cm (NZ bF _ ae) ?_;rintro e aq ⟨⟨u,ev,rfl,kz,aL⟩,eu,f5⟩;refine ko D ?_;clear D K;have c7:=(OV.of (L:=none) ae (OO dk)).trans f5;have y1:=aL;have dg:=hide (c7.keep bq.out Ol);have cT:=(cG.trans c7);have mX:=(cR.kp c7.Ul);have fQ:=eu.lt;have⟨cS,bY,cg,dJ,dK,dL,rl⟩:=O3 dg.out;refine uz 7 (.tuple #[u,ev]) ?_;refine uz 8 u ?_;refine uz 9 ev ?_;refine uz 10 u ?_;refine uz 11 ev ?_;refine RY ?_ _;go_simp
 by_cases ao:aw=.no
 ·subst ao;have bu:ev=Qd:=aL;subst bu;have f8:vs.length=2:=by have:=abW _ _ _ _ _ bV.out;rw[this,RG,p8.out];rfl
  obtain⟨v1,v2,rfl⟩:∃ v1 v2,vs=[v1,v2]:=by
   match vs,f8 with
   | [v1,v2],_=>exact⟨v1,v2,rfl⟩
  have⟨f9,jQ,gj,iI⟩:=NZ GX v1 v2 σ1 bV.out;have Bo:aq.ownsRow _ 65 3 u 2 (([v1,v2]:List Va).flatMap YE):=kz;have⟨sI,cv,aQ,_,_⟩:=Bo.form Oe;subst aQ;have lV:∀ j x,(([v1,v2]:List Va).flatMap YE)[j]? = some x->aq.cell? (N9 sI j)=some x:=fun j x ac=>by
   have aS:j<6:=by have:=(List.getElem?_eq_some_iff.1 ac).1;simpa[YE] using this
   rw[Bo.cellAt j Oe];exact ac
  have y5:=hide (lV 0 _ rfl);have ib:=hide (lV 1 _ rfl);have ph:=hide (lV 2 _ rfl);have nB:=hide (lV 3 _ rfl);have y6:=hide (lV 4 _ rfl);have FL:=hide (lV 5 _ rfl);have Mj:=(Bo.lt sI rfl).2;have aI:rs=(UO σ1.M d.2.kd v1 v2,σ1):=by rw[bA.out];unfold YF;rw[bV.out]
  have cD:=hide aI;have iQ:=hide gj;have e4:=hide iI;have ec:=hide f9;have j1:=hide jQ;clear f8 lV aI gj iI f9 jQ;go_wp2_with fail;refine aGy (H:=fun wz kQ j5=>VB2 w0 mb af O aq v1 v2 σ1 wz kQ j5) (G:=?GG) (fun dD=>?ways) ?rest
  case ways=>
   refine S9 9 fun ae=>?_;refine uh 0 (.slice (some (N9 sI 0)) 2 cv) (ae) ?_;refine up 1 sI 0 ae ?_;refine uc 2 (.agg #[NY v1.k,NY v1.n,Oj v1.s]) rfl (Or.inl ⟨by kernel_rfl,fun X ak=>by have h0:=OT ak y5.out;have h1:=OT ak ib.out;have U:=OT ak ph.out;go_simp⟩) (ae) ?_
   refine uh 3 (.slice (some (N9 sI 0)) 2 cv) (ae) ?_;refine up 4 sI 3 ae ?_;refine uc 5 (.agg #[NY v2.k,NY v2.n,Oj v2.s]) rfl (Or.inl ⟨by kernel_rfl,fun X ak=>by have h0:=OT ak nB.out;have h1:=OT ak y6.out;have U:=OT ak FL.out;go_simp⟩) (ae) ?_
   refine uq2 6 7 (fun K D=>?_) fun K D=>?_
   ·go_simp;refine D.out _ _ (fun _=>PE.drew) ?_;clear D K;refine PS 7 fun K D=>?_;have z:=N8 (∀{G}(h:G:=by
    have cj:=VB2.one (v1:=v1) (v2:=v2) eu
    generalize ((aq.alloc (.cells #[NY v1.k,NY v1.n,Oj v1.s] 65)).alloc (.cells #[NY v2.k,NY v2.n,Oj v2.s] 65)).drew=wz at cj ⊢
    generalize aq.heap.size+1=j5 at cj ⊢
    generalize aq.heap.size=kQ at cj ⊢
    exact dD wz kQ j5 cj),G);exact aBC
   ·go_simp;refine D.out _ _ (fun _=>PE.drew) ?_;clear D K;refine PS 6 fun K D=>?_;have z:=N8 (∀{G}(h:G:=by
    have cj:=(VB2.one (v1:=v2) (v2:=v1) eu).swap
    generalize ((aq.alloc (.cells #[NY v2.k,NY v2.n,Oj v2.s] 65)).alloc (.cells #[NY v1.k,NY v1.n,Oj v1.s] 65)).drew=wz at cj ⊢
    generalize aq.heap.size+1=kQ at cj ⊢
    generalize aq.heap.size=j5 at cj ⊢
    exact dD wz kQ j5 cj),G);exact aBC
  case rest=>
   rintro wz kQ j5 a7;have ed:=hide (stays a7.bl dg.out);have dm:=(cT.trans (OV.of (L:=none) a7.bl (OO fQ)));have jr:=a7.ms;have eW:=a7.ms.lt;have k6:=hide a7.v1;have bO:=hide a7.v2;have L5:=a7.ne;have L6:kQ≠aV:=fun e=>by
    have h1:=a7.la;have U:=lt_of_heap dg.out;omega
   have L7:j5≠aV:=fun e=>by
    have h1:=a7.lb;have U:=lt_of_heap dg.out;omega
   have gI:=mX.kp (Kp.of a7.bl);have c0:=gI.cells.2.1;have hj:=gI.cells.1;rw[<-bj.out] at c0 hj;have⟨kd,bm⟩:=xE d.2.kd;rw[<-bm] at c0 cD;clear cS bY cg dJ dK dL rl bm;have⟨cS,bY,cg,dJ,dK,dL,rl⟩:=O3 ed.out;have⟨fB,cy,dO,ip,iq,ir,ia⟩:=O3 k6.out;have⟨hM,gW,gX,iK,iL,iM,hO⟩:=O3 bO.out;have mU:=hide c0;have CN:=hide (cells3 k6.out);have CO:=hide (cells3 bO.out)
   by_cases k2:kd=27
   ·subst k2
    by_cases wO:v1=v2
    ·have aI:rs=((PX true,.no),σ1):=by rw[cD.out];unfold UO;rw[if_pos rfl,decide_eq_true wO]
     have bN:=hide aI;subst wO;clear aI;go_wp2_with fail;have⟨b5,dt⟩:=xE (PX true);have h2:=VF true wz;exact awD
    ·have aI:rs=((PX false,.no),σ1):=by rw[cD.out];unfold UO;rw[if_pos rfl,decide_eq_false wO]
     have bN:=hide aI;have hcase:¬ v1.k=v2.k\/(v1.k=v2.k/\¬ v1.n=v2.n)\/(v1.k=v2.k/\v1.n=v2.n/\¬ v1.s=v2.s):=by
      by_cases h1:v1.k=v2.k
      ·by_cases U:v1.n=v2.n
       ·exact .inr (.inr ⟨h1,U,fun av=>wO (by cases v1;cases v2;simp_all)⟩)
       ·exact .inr (.inl ⟨h1,U⟩)
      ·exact .inl h1
     clear aI wO
     rcases hcase with h1|⟨h1,U⟩|⟨h1,U,av⟩
     ·exact asM
     ·exact asM
     ·have aN:(v1.s.toList==v2.s.toList)=false:=adu av
      exact asM
   ·by_cases mw:v1.k=3/\v2.k=3
    ·have aI:rs=(aiW kd v1.n v2.n,σ1):=by rw[cD.out];unfold UO;rw[if_neg k2,if_pos mw];rfl
     have bN:=hide aI;obtain⟨sJ,vT⟩:=mw;clear aI;go_wp2_with fail;have vm:=hide (fun X=>agN (es:=es) kd v1.n v2.n ec.out j1.out X);have⟨ro,mI⟩:=xE (aiW kd v1.n v2.n);rw[<-mI] at vm bN;have oM:=lt_of_heap k6.out;have ll:=lt_of_heap bO.out;clear sJ vT k2 mI c0 fB cy dO ip iq ir ia hM gW gX iK iL iM hO cS bY cg dJ dK dL rl;refine S9 8 fun ae=>?_;refine up 0 q 0 ae ?_;refine up 1 q 0 ae ?_;refine up 2 q 0 ae ?_;refine uk 3 mU.out ae ?_;refine up 4 kQ 1 ae ?_;refine uk 5 (CN.out.2.1) ae ?_
     refine up 6 j5 1 ae ?_;refine uk 7 (CO.out.2.1) ae ?_;refine PS 8 fun K D=>?_;go_simp;refine cm (NZ vm _) ?_;rintro e aD ⟨⟨ev,rfl,aL⟩,je⟩;refine ko D ?_;clear D K;have iC:=ae.trans (je.mono ae.size);have z:=N8 (∀{G}(h:G:=by
     refine uz 9 (vA v9) ?_;refine uz 10 ev ?_;refine PS 11 fun K D=>?_;go_simp;refine ko D ?_;clear D K;refine uz 12 ev ?_;exact aBD),G);exact aBE
    ·by_cases m9:kd=29/\(v1.k=4\/v2.k=4)
     ·have aI:rs=(abU (σ1.M.shw v1) (σ1.M.shw v2),σ1):=by rw[cD.out];unfold UO abU;rw[if_neg k2,if_neg mw,if_pos m9]
      have bN:=hide aI;have⟨ro,mI⟩:=xE (abU (σ1.M.shw v1) (σ1.M.shw v2));have ou:=hide (fun X=>awy (es:=es) (σ1.M.shw v1) (σ1.M.shw v2) iQ.out e4.out X);rw[<-mI] at ou bN;have tQ:=hide (fun X (ak:Oo wz X)=>aeK a1 aZ (jr.later ak) v1 (by have:=NZ ec;omega))
      have vz:=hide (fun X (ak:Oo wz X)=>aeK a1 aZ (jr.later ak) v2 (by have:=NZ j1;omega))
      have⟨kG,wG⟩:=xE (σ1.M.shw v1);have⟨t2,eN⟩:=xE (σ1.M.shw v2);rw[<-wG,<-eN] at ou;rw[<-wG] at tQ;rw[<-eN] at vz;have oM:=lt_of_heap k6.out;have ll:=lt_of_heap bO.out;obtain⟨HV,aN⟩:=m9;subst HV;have mE:v1.k=3->¬ v2.k=3:=fun h1 U=>mw ⟨h1,U⟩;clear aI mI wG eN mw
      by_cases sJ:v1.k=3
      ·have vT:=mE sJ;have ua:v2.k=4:=aN.resolve_left Oe;clear aN mE;go_wp2_with fail;clear sJ vT ua k2 c0 fB cy dO ip iq ir ia hM gW gX iK iL iM hO cS bY cg dJ dK dL rl;exact awE
      ·by_cases t8:v1.k=4
       ·clear aN mE;go_wp2_with fail;clear sJ t8 k2 c0 fB cy dO ip iq ir ia hM gW gX iK iL iM hO cS bY cg dJ dK dL rl;exact awE
       ·have ua:v2.k=4:=aN.resolve_left t8;clear aN mE;go_wp2_with fail;clear sJ t8 ua k2 c0 fB cy dO ip iq ir ia hM gW gX iK iL iM hO cS bY cg dJ dK dL rl;exact awE
     ·by_cases vS:kd=28/\v1.k=4/\v2.k=4
      ·obtain⟨HU,t8,ua⟩:=vS;subst HU
       by_cases aM:v1.s.data.toList<v2.s.data.toList
       ·have aI:rs=((PX true,.no),σ1):=by rw[cD.out];unfold UO;rw[if_neg Ol,if_neg mw,if_neg m9,if_pos ⟨rfl,t8,ua⟩,decide_eq_true aM]
        have bN:=hide aI;have Ic:Op.bytesLess v1.s.toList v2.s.toList=true:=by rw[ByteArray.toList_eq,ByteArray.toList_eq,bytesLess_eq];exact decide_eq_true aM
        clear aI mw m9 aM;go_wp2_with fail;have⟨b5,dt⟩:=xE (PX true);have h2:=VF true wz;exact awD
       ·have aI:rs=((PX false,.no),σ1):=by rw[cD.out];unfold UO;rw[if_neg Ol,if_neg mw,if_neg m9,if_pos ⟨rfl,t8,ua⟩,decide_eq_false aM]
        have bN:=hide aI;have Ic:Op.bytesLess v1.s.toList v2.s.toList=false:=by rw[ByteArray.toList_eq,ByteArray.toList_eq,bytesLess_eq];exact decide_eq_false aM
        clear aI mw m9 aM;exact asM
      ·have aI:rs=((vU,bad tType),σ1):=by rw[cD.out];unfold UO;rw[if_neg k2,if_neg mw,if_neg m9,if_neg vS]
       have bN:=hide aI;clear aI;have w1:v1.k=3->v2.k=3->False:=fun a b=>mw ⟨a,b⟩;have uP:kd=29->v1.k=4->False:=fun a b=>m9 ⟨a,.inl b⟩;have uQ:kd=29->v2.k=4->False:=fun a b=>m9 ⟨a,.inr b⟩;have bD:kd=28->v1.k=4->v2.k=4->False:=fun a b c=>vS ⟨a,b,c⟩;clear mw m9 vS
       by_cases JN:kd=29
       ·subst JN;have i3:¬ v1.k=4:=fun h=>uP rfl h;have i4:¬ v2.k=4:=fun h=>uQ rfl h
        by_cases bR:v1.k=3
        ·exact awF
        ·have i5:(v1.k==4)=false:=by simpa using i3
         have pW:(v2.k==4)=false:=by simpa using i4
         have M0:(v1.k==3)=false:=by simpa using bR
         clear w1 uP uQ bD;go_wp2_with fail
         all_goals first | (exfalso;omega)|skip
         exact ao6
       ·by_cases JM:kd=28
        ·subst JM
         by_cases bR:v1.k=3
         ·exact awF
         ·by_cases JO:v1.k=4
          ·have M6:¬ v2.k=4:=fun h=>bD rfl JO h;clear w1 uP uQ bD;go_wp2_with fail;exact ao6
          ·clear w1 uP uQ bD;go_wp2_with fail;exact ao6
        ·by_cases bR:v1.k=3
         ·exact awF
         ·clear w1 uP uQ bD;go_wp2_with fail;exact ao6
 ·have⟨et,ex,bu⟩:=aL.WC ao ab;subst bu;have aI:rs=((vU,aw),σ1):=by
   rw[bA.out];unfold YF;rw[bV.out]
   rcases vs with _|⟨cy,_|⟨dO,jl⟩⟩ <;> cases aw <;> first|rfl|exact absurd rfl ao
  have bN:=hide aI;clear ao aI;have z:=N8 (∀{G}(h:G:=by
  rw[bN.out];exact⟨⟨_,rfl,y1.Qn bh Ol⟩,bE,bI⟩),G);exact aBF),G);exact VZ),G);exact UZ),G);exact Xd
structure Stp (w0:Og)(mb:Nat)(es:Ot)(eb:Addr):Prop where
 is:es=.iface 359 (.pointer (some eb))
 at1:w0.cell? (N9 1 0)=some es
 et:Rj w0
 lt:1<mb
variable {eb:Addr}
def Stp.WC (h:Stp w0 mb es eb):Zf es:=⟨_,_,h.is⟩
section
variable (h:Stp w0 mb es eb) (aJ:Ms w0 mb af O w σ)
include h aJ
def Stp.cell:w.cell? (N9 1 0)=some (.iface 359 (.pointer (some eb))):=by
 rw[aJ.below.cell (p:=(N9 1 0)) h.lt,h.at1,h.is]
def Stp.ety:Rj w:=Vd h.et aJ.below (by have:=h.lt;omega)
end
def aBT (W:Og):(binOp .eql 31 Qd (.iface 359 (.pointer (some eb)))).run prog W=.ok (Om false) W:=by kernel_rfl
def awP (W:Og):(binOp .eql 31 (.iface 34 (NY 7)) (.iface 359 (.pointer (some eb)))).run prog W=.ok (Om false) W:=by kernel_rfl
def awQ (tb:Nat)(W:Og):(binOp .eql 31 (.iface 122 (Oy tb 0)) (.iface 359 (.pointer (some eb)))).run prog W=.ok (Om false) W:=by kernel_rfl
def asT (W:Og):(binOp .eql 31 (.iface 359 (.pointer (some eb))) (.iface 359 (.pointer (some eb)))).run prog W=.ok (Om true) W:=by
 have h1:(prog.info? 359).map (·.comparable)=some true:=by kernel_rfl
 have⟨i,az,hcmp⟩:=Option.map_eq_some_iff.1 h1;have⟨j,aS⟩:=Option.isSome_iff_exists.1 (show (prog.info? 361).isSome=true by kernel_rfl);exact run_eql_iface_ptr_same W _ underlying31 underlying359 az hcmp aS
def WZ.RS {v:Ot}{e:Er}{l:Option Va}(h:WZ es w v e)(aF:OV L mb w w')(hl:OE w L l):WZ es w' v e:=by
 cases e with
 | no=>exact h
 | stop=>exact h
 | mis=>exact h
 | X8 x=>obtain⟨b,h1,U⟩:=h;exact⟨b,h1,aF.RS hl U Ol Ol⟩
section
variable (bC:Stp w0 mb es eb) (aJ:Ms w0 mb af O w σ) {a:Ad} {d:Nd} (hd:OJ O w a d)
include bC aJ a d hd
def aiY (E:d.2.kids.length=1)(p:Pl)(o:Oc)(bu:WZ es w Qd (.no)){l:Option Va}(hl:OE w L l)(h1:Xq w0 mb af O es σ (Oa d 0) p L l (F.s (Oa d 0) p l σ)) :
  Oq 202 #[N7 mb,N7 a.p,PD p (LA L),UD o,Qd] w (PL w0 mb af O es L w (VY F d p o (.no) l σ)):=by
 have z:=N8 (∀{G}(h:G:=by
 have z:=N8 (∀{G}(h:G:=by
 have z:=N8 (∀{G}(h:G:=by
 have z:=N8 (∀{G}(h:G:=by
 have ab:=bC.WC;have qy:=aBT (eb:=eb);have z:=N8 (∀{G}(h:G:=by
 have⟨rs,bA⟩:=xH (VY F d ⟨au,aG,st⟩ ⟨fZ,⟨ok,on,fY⟩⟩ (.no) l σ);have z:=N8 (∀{G}(h:G:=by
 refine VG (H:=fun wz vb ev=>SB w0 mb af O es L w2 bH aw bQ σ1 wz vb ev) (G:=?GG) (fun dD=>?ways) ?rest
 case ways=>
  exact asU
 case rest=>
  have z:=N8 (∀{G}(h:G:=by
  cases i6 with
  | true=>
   exact awR
  | false=>
   by_cases gy:aw=.no
   ·subst gy;have hev2:qk=Qd:=d5.er;subst hev2;have aI:rs=((⟨fZ,⟨ok,on,fY⟩⟩,.no,bQ),σ1):=by rw[bA.out];unfold VY;rw[bV.out];rfl
    have z:=N8 (∀{G}(h:G:=by
    refine U8 (v:=.tuple #[UD ⟨fZ,⟨ok,on,fY⟩⟩,Qd]) ?_;exact awS),G);exact awT
   ·exact awU),G);exact awV),G);exact awW),G);exact awX),G);exact zsl),G);exact awY),G);exact zsk),G);exact asV
def agQ (E:d.2.kids.length=1)(p:Pl)(o:Oc)(bu:WZ es w (.iface 34 (NY 7)) (.mis)){l:Option Va}(hl:OE w L l)(h1:Xq w0 mb af O es σ (Oa d 0) p L l (F.s (Oa d 0) p l σ)) :
  Oq 202 #[N7 mb,N7 a.p,PD p (LA L),UD o,.iface 34 (NY 7)] w (PL w0 mb af O es L w (VY F d p o (.mis) l σ)):=by
 have z:=N8 (∀{G}(h:G:=by
 have z:=N8 (∀{G}(h:G:=by
 have z:=N8 (∀{G}(h:G:=by
 have z:=N8 (∀{G}(h:G:=by
 have ab:=bC.WC;have qy:=awP (eb:=eb);have z:=N8 (∀{G}(h:G:=by
 have⟨rs,bA⟩:=xH (VY F d ⟨au,aG,st⟩ ⟨fZ,⟨ok,on,fY⟩⟩ (.mis) l σ);have z:=N8 (∀{G}(h:G:=by
 refine VG (H:=fun wz vb ev=>SB w0 mb af O es L w2 bH aw bQ σ1 wz vb ev) (G:=?GG) (fun dD=>?ways) ?rest
 case ways=>
  exact asU
 case rest=>
  have z:=N8 (∀{G}(h:G:=by
  cases i6 with
  | true=>
   exact awR
  | false=>
   by_cases gy:aw=.no
   ·subst gy;have hev2:qk=Qd:=d5.er;subst hev2;have aI:rs=((⟨fZ,⟨ok,on,fY⟩⟩,.mis,bQ),σ1):=by rw[bA.out];unfold VY;rw[bV.out];rfl
    have z:=N8 (∀{G}(h:G:=by
    refine U8 (v:=.tuple #[UD ⟨fZ,⟨ok,on,fY⟩⟩,.iface 34 (NY 7)]) ?_;exact awS),G);exact awT
   ·exact awU),G);exact awV),G);exact awW),G);exact awX),G);exact zsl),G);exact awY),G);exact zsk),G);exact asV
def agR (E:d.2.kids.length=1)(p:Pl)(o:Oc)(tb:Nat)(x:Va)(bu:WZ es w (.iface 122 (Oy tb 0)) (.X8 x)){l:Option Va}(hl:OE w L l)(h1:Xq w0 mb af O es σ (Oa d 0) p L l (F.s (Oa d 0) p l σ)) :
  Oq 202 #[N7 mb,N7 a.p,PD p (LA L),UD o,.iface 122 (Oy tb 0)] w (PL w0 mb af O es L w (VY F d p o (.X8 x) l σ)):=by
 have z:=N8 (∀{G}(h:G:=by
 have z:=N8 (∀{G}(h:G:=by
 have z:=N8 (∀{G}(h:G:=by
 have z:=N8 (∀{G}(h:G:=by
 have ab:=bC.WC;have qy:=awQ (tb:=tb) (eb:=eb);have z:=N8 (∀{G}(h:G:=by
 have⟨rs,bA⟩:=xH (VY F d ⟨au,aG,st⟩ ⟨fZ,⟨ok,on,fY⟩⟩ (.X8 x) l σ);have z:=N8 (∀{G}(h:G:=by
 refine VG (H:=fun wz vb ev=>SB w0 mb af O es L w2 bH aw bQ σ1 wz vb ev) (G:=?GG) (fun dD=>?ways) ?rest
 case ways=>
  exact asU
 case rest=>
  have z:=N8 (∀{G}(h:G:=by
  cases i6 with
  | true=>
   exact awR
  | false=>
   by_cases gy:aw=.no
   ·subst gy;have hev2:qk=Qd:=d5.er;subst hev2;have aI:rs=((⟨fZ,⟨ok,on,fY⟩⟩,.X8 x,bQ),σ1):=by rw[bA.out];unfold VY;rw[bV.out];rfl
    have z:=N8 (∀{G}(h:G:=by
    refine U8 (v:=.tuple #[UD ⟨fZ,⟨ok,on,fY⟩⟩,.iface 122 (Oy tb 0)]) ?_;exact awS),G);exact awT
   ·exact awU),G);exact awV),G);exact awW),G);exact awX),G);exact zsl),G);exact awY),G);exact zsk),G);exact asV
def aeP (p:Pl)(o:Oc){l:Option Va}(hl:OE w L l) :
  Oq 202 #[N7 mb,N7 a.p,PD p (LA L),UD o,.iface 359 (.pointer (some eb))] w (PL w0 mb af O es L w (VY F d p o .stop l σ)):=by
 have z:=N8 (∀{G}(h:G:=by
 have z:=N8 (∀{G}(h:G:=by
 have AW:ob≠aV:=Oe;have d2:bc≠aV:=Oe;have cR:=hd.kp (Kp.of aE);have cU:=(aJ.later aE);have cG:=(OV.of (L:=L) aE (OO bG));have fe:=(hl.later aE);have z:=N8 (∀{G}(h:G:=by
 have qy:=asT (eb:=eb);have qA:=bC.cell aJ;have lX:1<w.heap.size:=cell_lt qA;have jg:=bC.cell cU;rw[cM] at jg;have r8:=hide bC.is;clear qA;have⟨aq,qh⟩:=xH (((w.alloc (.cells #[NY au,NY aG,Om st,.pointer aC] 73)).alloc (.cells #[Om fZ,NY ok,NY on,Oj fY] 67)).alloc (.cells #[Om fZ,NY ok,NY on,Oj fY] 67));have bn:Oo w aq:=by rw[qh.out];exact(PE.alloc OW _).alloc QY _
 have iH:aq.heap[aV]? = some (OM #[Om fZ,NY ok,NY on,Oj fY] 67):=by
  rw[qh.out,b4,show w.heap.size+2=((w.alloc (.cells #[NY au,NY aG,Om st,.pointer aC] 73)).alloc (.cells #[Om fZ,NY ok,NY on,Oj fY] 67)).heap.size by simp];exact Oi _ _
 have dg:=hide iH;have Ei:aV=w.heap.size+1+1:=b4;have⟨q,ag⟩:=xE a.p;have⟨rs,d'⟩:=xE (VY F d ⟨au,aG,st⟩ ⟨fZ,⟨ok,on,fY⟩⟩ .stop l σ);rw[<-d',<-ag];rw[<-ag] at ds;have aI:rs=((⟨fZ,⟨ok,on,fY⟩⟩,.stop,l),σ):=d';have cD:=hide aI;have dS:=hide Ei;clear bb hr2 kw cM d' ag dq cE d2 oV aI iH bS b4 f' Ei AW dk hpl2 ds;go_enter func202,ntmps202;go_wp2_with fail;rw[<-qh.out,<-dS.out];have⟨cK,b1,bU,ej,_,_⟩:=cells4 dg.out
 refine U8 (v:=.tuple #[UD ⟨fZ,⟨ok,on,fY⟩⟩,.iface 359 (.pointer (some eb))]) ?_;rw[cD.out];exact⟨⟨_,rfl,r8.out.symm⟩,aJ.later bn,OV.of bn (OO bG),hl.later bn⟩),G);exact zsl),G);exact zsk),G);exact asV
def amj (E:d.2.kids.length=1)(p:Pl)(o:Oc){e:Er}{ev:Ot}(bu:WZ es w ev e){l:Option Va}(hl:OE w L l)(h1:e≠.stop->Xq w0 mb af O es σ (Oa d 0) p L l (F.s (Oa d 0) p l σ)) :
  Oq 202 #[N7 mb,N7 a.p,PD p (LA L),UD o,ev] w (PL w0 mb af O es L w (VY F d p o e l σ)):=by
 cases e with
 | no=>obtain rfl:ev=.nilIface:=bu;exact aiY bC aJ hd E p o rfl hl (h1 OW)
 | stop=>rw[show ev=.iface 359 (.pointer (some eb)) from (show ev=es from bu).trans bC.is];exact aeP bC aJ hd p o hl
 | mis=>obtain rfl:ev=.iface 34 (NY 7):=bu;exact agQ bC aJ hd E p o rfl hl (h1 OW)
 | X8 x=>obtain⟨tb,rfl,h⟩:=bu;exact agR bC aJ hd E p o tb x ⟨tb,rfl,h⟩ hl (h1 OW)
end
def aeQ (bC:Stp w0 mb es eb)(aJ:Ms w0 mb af O w σ)(ab:σ.steps<=20000) :
  Oq 107 #[N7 mb] w fun e w'=>e=OA (if 20000<σ.steps+1 then es else Qd)/\Ms w0 mb af O w' σ.step/\OV none mb w w':=by
 have ai:=bC.cell aJ;obtain⟨aT,aB,aA,aK,ac⟩:=aJ;rw[<-bC.is] at ai;refine(apb ac.hh ab ai bC.lt).mono ?_;rintro e w' ⟨rfl,hh,aF⟩;have gg:O8 Th mb w w':=⟨aF.below,fun b c e A ao=>aF.rest b c e A (fun h=>ao (by rw[List.mem_singleton.1 h];decide))⟩
 obtain⟨d9,h1,U,av⟩:=ac.fu;exact⟨rfl,⟨aT,aB,aA,aK,ac.bw.trans gg.below,hh,OH ac.lg gg Ol,OH ac.se gg Ol,OH ac.ow gg Ol,d9,h1,OH U gg Ol,fun i a f ay hg=>(av i a f ay hg).kp (O8.kp gg)⟩,OV.ofT gg⟩
section
variable (bC:Stp w0 mb es eb) (aJ:Ms w0 mb af O w σ) {a:Ad} {d:Nd} (hd:OJ O w a d)
include bC aJ a d hd
def abX (ey:σ.steps<=20000)(hst1:20000<=σ.steps)(p:Pl){l:Option Va}(hl:OE w L l) :
  Oq 53 #[N7 mb,N7 a.p,PD p (LA L)] w (PL w0 mb af O es L w ((Qy,.stop,l),σ.step)):=by
 have z:=N8 (∀{G}(h:G:=by
 have z:=N8 (∀{G}(h:G:=by
 have z:=N8 (∀{G}(h:G:=by
 have z:=N8 (∀{G}(h:G:=by
 have z:=N8 (∀{G}(h:G:=by
 have hstep:=aeQ bC cU ey;rw[if_pos Oe,bC.is] at hstep;have r8:=hide bC.is;have fe:=(hl.later aE);have⟨q,bj⟩:=xH a.p;rw[<-bj.out] at ds ⊢;clear bb hr2 dq cE d2;go_enter func53,ntmps53;have z:=N8 (∀{G}(h:G:=by
 have dm:=(cG.trans hF);have f2:=(fe.keep hF);have eW:=hc.lt;have⟨cS,bY,cg,eo,dJ,dK,dL,jj,rl⟩:=QK ed.out;have z:=N8 (∀{G}(h:G:=by
 refine agP (v:=.tuple #[UD Qy,.iface 359 (.pointer (some eb))]) ?_;exact⟨⟨_,rfl,r8.out.symm⟩,bE,bI,f2.Tv bh⟩),G);exact aBX),G);exact abY),G);exact UZ),G);exact zsd),G);exact Xr),G);exact zsc),G);exact zsn
def aeR (bm:d.2.kd=7)(ey:σ.steps<=20000)(hst1:σ.steps<20000)(p:Pl){l:Option Va}(hl:OE w L l){rs:(Oc × Er × Option Va) × St}(br:∀ X,Ms w0 mb af O X σ.step->OJ O X a d->OE X L l->Oq 111 #[N7 mb,N7 a.p,PD p (LA L)] X (PL w0 mb af O es L X rs)) :
  Oq 53 #[N7 mb,N7 a.p,PD p (LA L)] w (PL w0 mb af O es L w rs):=by
 have z:=N8 (∀{G}(h:G:=by
 have z:=N8 (∀{G}(h:G:=by
 have z:=N8 (∀{G}(h:G:=by
 have z:=N8 (∀{G}(h:G:=by
 have b7:=hide bb;have z:=N8 (∀{G}(h:G:=by
 have z:=N8 (∀{G}(h:G:=by
 have aj:=hide br;have e5:(d.2.kd:Int)=7:=by rw[bm]
 exact asY),G);exact aaV),G);exact UZ),G);exact zsd),G);exact Xr),G);exact zsc),G);exact zsn
def aaW (bm:d.2.kd=8)(ey:σ.steps<=20000)(hst1:σ.steps<20000)(p:Pl){l:Option Va}(hl:OE w L l){rs:(Oc × Er × Option Va) × St}(br:∀ X,Ms w0 mb af O X σ.step->OJ O X a d->OE X L l->Oq 112 #[N7 mb,N7 a.p,PD p (LA L)] X (PL w0 mb af O es L X rs)) :
  Oq 53 #[N7 mb,N7 a.p,PD p (LA L)] w (PL w0 mb af O es L w rs):=by
 have z:=N8 (∀{G}(h:G:=by
 have z:=N8 (∀{G}(h:G:=by
 have z:=N8 (∀{G}(h:G:=by
 have z:=N8 (∀{G}(h:G:=by
 have b7:=hide bb;have z:=N8 (∀{G}(h:G:=by
 have z:=N8 (∀{G}(h:G:=by
 have aj:=hide br;have e5:(d.2.kd:Int)=8:=by rw[bm]
 exact asY),G);exact aaV),G);exact UZ),G);exact zsd),G);exact Xr),G);exact zsc),G);exact zsn
def abZ (bm:d.2.kd=9)(ey:σ.steps<=20000)(hst1:σ.steps<20000)(p:Pl){l:Option Va}(hl:OE w L l){rs:(Oc × Er × Option Va) × St}(br:∀ X,Ms w0 mb af O X σ.step->OJ O X a d->OE X L l->Oq 113 #[N7 mb,N7 a.p,PD p (LA L)] X (PL w0 mb af O es L X rs)) :
  Oq 53 #[N7 mb,N7 a.p,PD p (LA L)] w (PL w0 mb af O es L w rs):=by
 have z:=N8 (∀{G}(h:G:=by
 have z:=N8 (∀{G}(h:G:=by
 have z:=N8 (∀{G}(h:G:=by
 have z:=N8 (∀{G}(h:G:=by
 have b7:=hide bb;have z:=N8 (∀{G}(h:G:=by
 have z:=N8 (∀{G}(h:G:=by
 have aj:=hide br;have e5:(d.2.kd:Int)=9:=by rw[bm]
 exact asY),G);exact aaV),G);exact UZ),G);exact zsd),G);exact Xr),G);exact zsc),G);exact zsn
def ada (bm:d.2.kd=12)(ey:σ.steps<=20000)(hst1:σ.steps<20000)(p:Pl){l:Option Va}(hl:OE w L l){rs:(Oc × Er × Option Va) × St}(br:∀ X,Ms w0 mb af O X σ.step->OJ O X a d->OE X L l->Oq 116 #[N7 mb,N7 a.p,PD p (LA L)] X (PL w0 mb af O es L X rs)) :
  Oq 53 #[N7 mb,N7 a.p,PD p (LA L)] w (PL w0 mb af O es L w rs):=by
 have z:=N8 (∀{G}(h:G:=by
 have z:=N8 (∀{G}(h:G:=by
 have z:=N8 (∀{G}(h:G:=by
 have z:=N8 (∀{G}(h:G:=by
 have b7:=hide bb;have z:=N8 (∀{G}(h:G:=by
 have z:=N8 (∀{G}(h:G:=by
 have aj:=hide br;have e5:(d.2.kd:Int)=12:=by rw[bm]
 exact asY),G);exact aaV),G);exact UZ),G);exact zsd),G);exact Xr),G);exact zsc),G);exact zsn
def YM (bm:d.2.kd=2)(ey:σ.steps<=20000)(hst1:σ.steps<20000)(p:Pl){l:Option Va}(hl:OE w L l){aw:Er}{bQ:Option Va}{σ1:St}(br:∀ X,Ms w0 mb af O X σ.step->OJ O X a d->OE X L l->Oq 108 #[N7 mb,N7 a.p,PD p (LA L)] X (Zy w0 mb af O es L X ((aw,bQ),σ1))) :
  Oq 53 #[N7 mb,N7 a.p,PD p (LA L)] w (PL w0 mb af O es L w ((Qy,aw,bQ),σ1)):=by
 have z:=N8 (∀{G}(h:G:=by
 have z:=N8 (∀{G}(h:G:=by
 have z:=N8 (∀{G}(h:G:=by
 have z:=N8 (∀{G}(h:G:=by
 have b7:=hide bb;have z:=N8 (∀{G}(h:G:=by
 have z:=N8 (∀{G}(h:G:=by
 have aj:=hide br;have e5:(d.2.kd:Int)=2:=by rw[bm]
 exact apf),G);exact aaV),G);exact UZ),G);exact zsd),G);exact Xr),G);exact zsc),G);exact zsn
def adb (bm:d.2.kd=3)(ey:σ.steps<=20000)(hst1:σ.steps<20000)(p:Pl){l:Option Va}(hl:OE w L l){aw:Er}{bQ:Option Va}{σ1:St}(br:∀ X,Ms w0 mb af O X σ.step->OJ O X a d->OE X L l->Oq 109 #[N7 mb,N7 a.p,PD p (LA L)] X (Zy w0 mb af O es L X ((aw,bQ),σ1))) :
  Oq 53 #[N7 mb,N7 a.p,PD p (LA L)] w (PL w0 mb af O es L w ((Qy,aw,bQ),σ1)):=by
 have z:=N8 (∀{G}(h:G:=by
 have z:=N8 (∀{G}(h:G:=by
 have z:=N8 (∀{G}(h:G:=by
 have z:=N8 (∀{G}(h:G:=by
 have b7:=hide bb;have z:=N8 (∀{G}(h:G:=by
 have z:=N8 (∀{G}(h:G:=by
 have aj:=hide br;have e5:(d.2.kd:Int)=3:=by rw[bm]
 exact apf),G);exact aaV),G);exact UZ),G);exact zsd),G);exact Xr),G);exact zsc),G);exact zsn
def aaX (bm:d.2.kd=4)(ey:σ.steps<=20000)(hst1:σ.steps<20000)(p:Pl){l:Option Va}(hl:OE w L l){aw:Er}{bQ:Option Va}{σ1:St}(br:∀ X,Ms w0 mb af O X σ.step->OJ O X a d->OE X L l->Oq 109 #[N7 mb,N7 a.p,PD p (LA L)] X (Zy w0 mb af O es L X ((aw,bQ),σ1))) :
  Oq 53 #[N7 mb,N7 a.p,PD p (LA L)] w (PL w0 mb af O es L w ((Qy,aw,bQ),σ1)):=by
 have z:=N8 (∀{G}(h:G:=by
 have z:=N8 (∀{G}(h:G:=by
 have z:=N8 (∀{G}(h:G:=by
 have z:=N8 (∀{G}(h:G:=by
 have b7:=hide bb;have z:=N8 (∀{G}(h:G:=by
 have z:=N8 (∀{G}(h:G:=by
 have aj:=hide br;have e5:(d.2.kd:Int)=4:=by rw[bm]
 exact apf),G);exact aaV),G);exact UZ),G);exact zsd),G);exact Xr),G);exact zsc),G);exact zsn
def aaY (bm:d.2.kd=11)(ey:σ.steps<=20000)(hst1:σ.steps<20000)(p:Pl){l:Option Va}(hl:OE w L l){aw:Er}{bQ:Option Va}{σ1:St}(br:∀ X,Ms w0 mb af O X σ.step->OJ O X a d->OE X L l->Oq 115 #[N7 mb,N7 a.p,PD p (LA L)] X (Zy w0 mb af O es L X ((aw,bQ),σ1))) :
  Oq 53 #[N7 mb,N7 a.p,PD p (LA L)] w (PL w0 mb af O es L w ((Qy,aw,bQ),σ1)):=by
 have z:=N8 (∀{G}(h:G:=by
 have z:=N8 (∀{G}(h:G:=by
 have z:=N8 (∀{G}(h:G:=by
 have z:=N8 (∀{G}(h:G:=by
 have b7:=hide bb;have z:=N8 (∀{G}(h:G:=by
 have z:=N8 (∀{G}(h:G:=by
 have aj:=hide br;have e5:(d.2.kd:Int)=11:=by rw[bm]
 exact apf),G);exact aaV),G);exact UZ),G);exact zsd),G);exact Xr),G);exact zsc),G);exact zsn
def ab1 (bm:d.2.kd=15)(ey:σ.steps<=20000)(hst1:σ.steps<20000)(p:Pl){l:Option Va}(hl:OE w L l){aw:Er}{bQ:Option Va}{σ1:St}(br:∀ X,Ms w0 mb af O X σ.step->OJ O X a d->OE X L l->Oq 117 #[N7 mb,N7 a.p,PD p (LA L)] X (Zy w0 mb af O es L X ((aw,bQ),σ1))) :
  Oq 53 #[N7 mb,N7 a.p,PD p (LA L)] w (PL w0 mb af O es L w ((Qy,aw,bQ),σ1)):=by
 have z:=N8 (∀{G}(h:G:=by
 have z:=N8 (∀{G}(h:G:=by
 have z:=N8 (∀{G}(h:G:=by
 have z:=N8 (∀{G}(h:G:=by
 have b7:=hide bb;have z:=N8 (∀{G}(h:G:=by
 have z:=N8 (∀{G}(h:G:=by
 have aj:=hide br;have e5:(d.2.kd:Int)=15:=by rw[bm]
 exact apf),G);exact aaV),G);exact UZ),G);exact zsd),G);exact Xr),G);exact zsc),G);exact zsn
def YN (bm:d.2.kd≠2/\d.2.kd≠3/\d.2.kd≠4/\d.2.kd≠6/\d.2.kd≠7/\d.2.kd≠8/\d.2.kd≠9/\d.2.kd≠10/\d.2.kd≠11/\d.2.kd≠12/\d.2.kd≠15)(ey:σ.steps<=20000)(hst1:σ.steps<20000)(p:Pl){l:Option Va}(hl:OE w L l) :
  Oq 53 #[N7 mb,N7 a.p,PD p (LA L)] w (PL w0 mb af O es L w ((Qy,.no,l),σ.step)):=by
 have z:=N8 (∀{G}(h:G:=by
 have z:=N8 (∀{G}(h:G:=by
 have z:=N8 (∀{G}(h:G:=by
 have z:=N8 (∀{G}(h:G:=by
 have z:=N8 (∀{G}(h:G:=by
 have z:=N8 (∀{G}(h:G:=by
 obtain⟨cY,hA,rQ,o9,o',rR,yy,yu,JW,JX,JY⟩:=bm;have⟨j9,p'⟩:=xH d.2.kd;rw[<-p'.out] at cY hA rQ o9 o' rR yy yu JW JX JY;clear bb hr2 dq cE d2;go_enter func53,ntmps53;have z:=N8 (∀{G}(h:G:=by
 have z:=N8 (∀{G}(h:G:=by
 rw[<-bj.out] at hj he;rw[<-p'.out] at he;have⟨hp,gp,gb,ka,kb,kc,ke,xf,kf⟩:=QK ed.out;have z:=N8 (∀{G}(h:G:=by
 refine agP (v:=.tuple #[UD Qy,Qd]) ?_;exact⟨⟨_,rfl,rfl⟩,bE,bI,f2.Tv bh⟩),G);exact aBX),G);exact apg),G);exact abY),G);exact aaV),G);exact UZ),G);exact zsd),G);exact Xr),G);exact zsc),G);exact zsn
