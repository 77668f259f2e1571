import Derived.Test.YticfnaiehdpbmaaGreatDoorOn12
set_option maxRecDepth 100000
set_option maxHeartbeats 8000000
set_option linter.all false
namespace Go.Proofs.YticfnaiehdpbmaaGreatDoor
open Go.RowKit Go.Proofs.Tryz
namespace Hp
def EPost (w0:Ov)(mb af:Nat)(O:List Nat)(es:OG)(w:Ov)(r:Er × St)(e:Ending)(w':Ov):Prop:=
 (∃ ev,e=OQ ev/\Xm es w' ev r.1)/\Ms w0 mb af O w' r.2/\O5 none mb w w'
def ab5 (M:Mo)(o:Int)(nm:OH)(v:Va)(fx:Bool):(M.put o nm v fx).1=0\/(M.put o nm v fx).1=7:=by
 unfold Mo.put
 repeat' split
 all_goals first|exact Or.inl rfl|exact Or.inr rfl
def aiW (M:Mo)(s:Int)(nm:OH)(v:Va):(M.start s nm v).1=0\/(M.start s nm v).1=7:=by
 unfold Mo.start
 repeat' split
 all_goals first|exact Or.inl rfl|exact Or.inr rfl
def aoT {es:OG}{w:Ov}{c:Int}(h:c=0\/c=7):Xm es w (Ur c) (erP c):=by
 rcases h with rfl|rfl
 all_goals
  rfl
section
variable {w0:Ov} {mb af:Nat} {O:List Nat} {es aW aC aA aM:OG} {w w':Ov} {σ:St} {N:Nat}
def Ms.et (h:Ms w0 mb af O w σ)(a8:Bs w0 mb af O es)(bc:RP w0):RP w:=Vr bc h.below (by rw[<-a8.sz];exact YO bc)
def adh (aJ:Ms w0 mb af O w σ)(s:Int)(nm:OH)(v:Va)  :
  OE 268 #[Oo mb,Ol s,OB nm,vA v,OC true] w (EPost w0 mb af O es w (bad Q7,σ)):=by
 have z:=Oq (∀{G}(h:G:=by
 have cZ:=(aJ.later aF);have di:=cZ.lt;have cu:=(O5.of (L:=none) aF (O0 bG));clear e0;go_enter func268,ntmps268;go_wp2_with fail;rw[<-bu.out];refine cm (U5 (es:=es) di Q7) ?_;rintro e gX ⟨⟨ev,rfl,aD⟩,g5⟩;have oq:=(cZ.later g5);have oi:=(cu.trans (O5.of (L:=none) g5 (O0 di)));go_wp2;go_ret;exact⟨⟨_,rfl,aD⟩,oq,oi⟩),G);exact aiX
section
variable (aJ:Ms w0 mb af O w σ) (aI:Sz N σ) (hN:N<1000000000) (s:Int) (nm:OH) (v:Va)
include aJ aI hN s nm v
theorem agN (aR:σ.M.RD s = -1) :
  OE 268 #[Oo mb,Ol s,OB nm,vA v,OC false] w (EPost w0 mb af O es w (erP (σ.M.put 0 nm v false).1,σ.RG 0 nm v false)):=by
 have z:=Oq (∀{G}(h:G:=by
 rw[aR] at lK;clear oZ;obtain⟨oE,iq⟩:=xE ((σ.M.put 0 nm v false).1);have lH:=hide (ab5 σ.M 0 nm v false);have pp:=hide (fun X (ak:OD w2 X)=>YS (eJ.later ak) aI hN 0 nm v false);rw[<-iq] at lH pp ⊢;have gh:=hide (cells3 e0);have ia:=lt_of_heap e0;clear e0 iq aR;have z:=Oq (∀{G}(h:G:=by
 have z:=Oq (∀{G}(h:G:=by
 refine uh 3 (Ol 0) (ab) ?_;exact aAY),G);exact Un),G);exact aAZ),G);exact aA0
theorem aiY (aR:σ.M.RD s≠-1) :
  OE 268 #[Oo mb,Ol s,OB nm,vA v,OC false] w (EPost w0 mb af O es w (erP (σ.M.put (σ.M.RD s) nm v false).1,σ.RG (σ.M.RD s) nm v false)):=by
 have z:=Oq (∀{G}(h:G:=by
 rw[<-oZ] at lK aR ⊢;have kt:¬ o = -1:=aR;clear oZ aR;obtain⟨oE,iq⟩:=xE ((σ.M.put o nm v false).1);have lH:=hide (ab5 σ.M o nm v false);have pp:=hide (fun X (ak:OD w2 X)=>YS (eJ.later ak) aI hN o nm v false);rw[<-iq] at lH pp ⊢;have gh:=hide (cells3 e0);have ia:=lt_of_heap e0;clear e0 iq;have z:=Oq (∀{G}(h:G:=by
 have z:=Oq (∀{G}(h:G:=by
 refine uh 3 (Ol o) (ab) ?_;exact aAY),G);exact Un),G);exact aAZ),G);exact aA0
theorem aoU (st:Bool) :
  OE 268 #[Oo mb,Ol s,OB nm,vA v,OC st] w (EPost w0 mb af O es w (XE s nm v st σ)):=by
 unfold XE
 cases st with
 | true=>exact adh aJ s nm v
 | false=>
  by_cases aR:σ.M.RD s = -1
  ·have h:=agN (es:=es) aJ aI hN s nm v aR;simp only[Bool.false_eq_true,if_false,if_pos aR];exact h
  ·have h:=aiY (es:=es) aJ aI hN s nm v aR;simp only[Bool.false_eq_true,if_false,if_neg aR];exact h
end
section
variable (a8:Bs w0 mb af O es) (bc:RP w0) (aJ:Ms w0 mb af O w σ) (aI:Sz N σ) (hN:N+1<1000000000) (s:Int) (nm:OH) (v:Va)
include a8 bc aJ aI hN s nm v
theorem aA1 (st:Bool)(aj:(σ.M.write s nm v).1=7) :
  OE 197 #[Oo mb,Ol s,OB nm,vA v,OC st] w (EPost w0 mb af O es w (XE s nm v st { σ with M:=(σ.M.write s nm v).2 })):=by
 have z:=Oq (∀{G}(h:G:=by
 have fj:=hide e0;have z:=Oq (∀{G}(h:G:=by
 have m0:=hide (nY.keep fj.out Oz);have cQ:=(cu.trans nY);have fD:=eA.lt;have sa:=(V4 7 ap (eA.et a8 bc));refine P5 7 fun K A=>?_;go_simp;refine cm sa ?_;rintro e bA ⟨rfl,dh⟩;refine ko A ?_;clear A K;have jZ:=(eA.later dh);have q3:=hide (stays dh m0.out);have fF:=(cQ.trans (O5.of (L:=none) dh (O0 fD)));have gp:=jZ.lt;refine Sl ?_ _;obtain⟨v0,v1,v2,_,_⟩:=cells3 q3.out;go_simp;go_wp2_with fail;refine cm (aoU (es:=es) jZ b9 hN s nm v st) ?_;rintro e b7 ⟨⟨ev,rfl,aD⟩,tX,qk⟩
 have gu:=(fF.trans qk);clear v0 v1 v2;go_wp2;go_ret;exact⟨⟨_,rfl,aD⟩,tX,gu⟩),G);exact zsm),G);exact aiX
theorem aA3 (st:Bool)(aj:(σ.M.write s nm v).1=6) :
  OE 197 #[Oo mb,Ol s,OB nm,vA v,OC st] w (EPost w0 mb af O es w ((bad Q7,{ σ with M:=(σ.M.write s nm v).2 }))):=by
 have z:=Oq (∀{G}(h:G:=by
 have z:=Oq (∀{G}(h:G:=by
 have cQ:=(cu.trans nY);have fD:=eA.lt;have sa:=(V4 6 ap (eA.et a8 bc));have z:=Oq (∀{G}(h:G:=by
 refine cm (U5 (es:=es) gp Q7) ?_;exact aA4),G);exact awv),G);exact zsm),G);exact aiX
theorem aA5 (st:Bool)(aj:(σ.M.write s nm v).1=1) :
  OE 197 #[Oo mb,Ol s,OB nm,vA v,OC st] w (EPost w0 mb af O es w ((bad tType,{ σ with M:=(σ.M.write s nm v).2 }))):=by
 have z:=Oq (∀{G}(h:G:=by
 have z:=Oq (∀{G}(h:G:=by
 have cQ:=(cu.trans nY);have fD:=eA.lt;have sa:=(V4 1 ap (eA.et a8 bc));exact aA6),G);exact zsm),G);exact aiX
theorem aww (aj:(σ.M.write s nm v).1=5) :
  OE 197 #[Oo mb,Ol s,OB nm,vA v,OC true] w (EPost w0 mb af O es w ((bad tType,{ σ with M:=(σ.M.write s nm v).2 }))):=by
 have z:=Oq (∀{G}(h:G:=by
 have z:=Oq (∀{G}(h:G:=by
 have cQ:=(cu.trans nY);have fD:=eA.lt;have sa:=(V4 5 ap (eA.et a8 bc));exact aA6),G);exact zsm),G);exact aiX
theorem awx (aj:(σ.M.write s nm v).1=5) :
  OE 197 #[Oo mb,Ol s,OB nm,vA v,OC false] w (EPost w0 mb af O es w ((.no,{ σ with M:=(σ.M.write s nm v).2 }))):=by
 have z:=Oq (∀{G}(h:G:=by
 have z:=Oq (∀{G}(h:G:=by
 have cQ:=(cu.trans nY);have fD:=eA.lt;have sa:=(V4 5 ap (eA.et a8 bc));exact aA7),G);exact zsm),G);exact aiX
theorem aoV (st:Bool)(pc:¬ (σ.M.write s nm v).1=7)(pb:¬ (σ.M.write s nm v).1=6)(bR:¬ (σ.M.write s nm v).1=1)(pa:¬ (σ.M.write s nm v).1=5) :
  OE 197 #[Oo mb,Ol s,OB nm,vA v,OC st] w (EPost w0 mb af O es w ((.no,{ σ with M:=(σ.M.write s nm v).2 }))):=by
 have z:=Oq (∀{G}(h:G:=by
 have bN:=Oq (∀{G}(h:G:=by
 obtain⟨c0,gi⟩:=xE ((σ.M.write s nm v).1);rw[<-gi] at mf pc pb bR pa;clear gi;have bN:=Oq (∀{G}(h:G:=by
 have z:=Oq (∀{G}(h:G:=by
 have bN:=Oq (∀{G}(h:G:=by
 have cQ:=(cu.trans nY);have fD:=eA.lt;have sa:=(V4 c0 ap (eA.et a8 bc));exact aA7),G);exact zte),G);exact Un),G);exact aA8),G);exact ztd),G);exact aiX
theorem auD (st:Bool) :
  OE 197 #[Oo mb,Ol s,OB nm,vA v,OC st] w (EPost w0 mb af O es w (asg s nm v st σ)):=by
 unfold asg;simp only
 by_cases pc:(σ.M.write s nm v).1=7
 ·rw[if_pos pc];exact aA1 a8 bc aJ aI hN s nm v st pc
 rw[if_neg pc]
 by_cases pb:(σ.M.write s nm v).1=6
 ·rw[if_pos pb];exact aA3 a8 bc aJ aI hN s nm v st pb
 rw[if_neg pb]
 by_cases bR:(σ.M.write s nm v).1=1
 ·rw[if_pos bR];exact aA5 a8 bc aJ aI hN s nm v st bR
 rw[if_neg bR]
 by_cases pa:(σ.M.write s nm v).1=5
 ·rw[if_pos pa]
  cases st with
  | true=>exact aww a8 bc aJ aI hN s nm v pa
  | false=>exact awx a8 bc aJ aI hN s nm v pa
 rw[if_neg pa];exact aoV a8 bc aJ aI hN s nm v st pc pb bR pa
end
def aeU (F:Fx)(t0 eq:Nd)(p:Pl)(σ:St):(Va × Er) × St:=match F.v (Oy t0 0) p σ with
 | ((ob,.no),σ1)=>match F.v eq p σ1 with
  | ((v,.no),cy)=>if ob.k≠5 then ((vU,bad tType),cy) else ((v,erP (cy.M.put ob.n t0.2.tx v false).1),cy.RG ob.n t0.2.tx v false)
  | ((_,e),cy)=>((vU,e),cy)
 | ((_,e),σ1)=>((vU,e),σ1)
def asv (F:Fx)(t0 eq:Nd)(p:Pl)(σ:St):(Va × Er) × St:=match F.v eq p (look t0 p σ).2 with
 | ((v,.no),σ1)=>((v,(asg (look t0 p σ).1 t0.2.tx v p.strict σ1).1),(asg (look t0 p σ).1 t0.2.tx v p.strict σ1).2)
 | ((_,e),σ1)=>((vU,e),σ1)
variable {F:Fx}
def Kp.Ui {w w':Ov}(h:Kp w w'){q j:Nat}{v:OG}{e:TypeId}(aj:w.cell? (Ot q j)=some v)(ag:∃ c,w.heap[q]? = some (O1 c e))(aq:e=40\/e=22):w'.cell? (Ot q j)=some v:=by
 obtain⟨c,ag⟩:=ag;have U:w'.heap[q]? = w.heap[q]?:=(h q c e ag aq).trans ag.symm;exact(World.cell?_of_block (w:=w) (a:=(Ot q j)) U).trans aj
def OY.akt {a:Ad}{d:Nd}(h:OY O w a d){g n cap:Nat}(aj:w.cell? (Ot a.p 3)=some (.slice (some (Ot g 0)) n cap)):∃ c,w.heap[g]? = some (O1 c 22):=by
 obtain⟨_,_,_,_,v,c3,aa⟩:=h.cells;rw[c3] at aj;cases aj;exact Qc aa.1 rfl
def acd (ac:Zp es)(aJ:Ms w0 mb af O w σ){a b:Ad}{d eq:Nd}(hd:OY O w a d)(IN:OY O w b eq)(E:d.2.kids.length=1)(p:Pl)(aB:Option Addr)(h1:Ub w0 mb af O es σ (Oy d 0) p (F.v (Oy d 0) p σ))
  (U:∀ v1 σ1,F.v (Oy d 0) p σ=((v1,.no),σ1)->Ub w0 mb af O es σ1 eq p (F.v eq p σ1)) (aI:∀ v1 σ1 v2 cy,F.v (Oy d 0) p σ=((v1,.no),σ1)->F.v eq p σ1=((v2,.no),cy)->Sz N cy) (hN:N<1000000000) :
  OE 292 #[Oo mb,Oo a.p,Oo b.p,PU p aB] w (O3 w0 mb af O es w (aeU F d eq p σ)):=by
 have z:=Oq (∀{G}(h:G:=by
 have b8:=hide be;have ei:=hide (cells4 be);have z:=Oq (∀{G}(h:G:=by
 obtain⟨ce,cB,cap0,fG,dC,fV,_⟩:=cU.Yj (i:=0) Ou;rw[E] at fG;obtain⟨q,bm⟩:=xH a.p;obtain⟨N1,iH⟩:=xH b.p;obtain⟨kp,dc⟩:=xE ce.p;have z:=Oq (∀{G}(h:G:=by
 have FP:=(IN.kp (Kp.of aF));obtain⟨rs,d'⟩:=xE (aeU F d eq ⟨au,aG,st⟩ σ);rw[<-d',<-bm.out,<-iH.out];have z:=Oq (∀{G}(h:G:=by
 have bB:=hide d';have bW:=hide aa;have gY:=hide U;have dW:=hide aI;clear be hr2 d' aa h1 dx cL d0 fG dC dc U aI;go_enter func292,ntmps292;go_wp2_with fail;rw[<-bu.out,<-b0,<-bV];clear bV b0;refine VN (H:=fun wz vb ev=>VB w0 mb af O es w2 v1 ay σ1 wz vb ev) (G:=?GG) (fun dJ=>?ways) ?rest
 case ways=>
  exact aeQ
 rintro wz vb ev aV;have cE:=aV.fr.keep bj.out Oz;have dV:=hide cE;obtain⟨cH,bU,cg,dt,du,dv,rl⟩:=O7 (cE);have ea:=aV.ms.lt;have cl:vb≠aU:=fun e=>by
  have h1:=aV.vb;have U:=lt_of_heap bj.out;omega
 have cY:O5 none mb w wz:=cu.trans aV.fr;have eR:=hide (aV.fr.keep b8.out Oz);clear cE;obtain⟨fh,cp,dG,hp,hq,hr,g9⟩:=O7 (aV.v);have p4:=(cU.kp aV.fr.UD);have FQ:=(FP.kp aV.fr.UD)
 by_cases aq:ay=.no
 ·subst aq;have bv:ev=Qp:=aV.er;subst bv;have fj:=(Om gY v1 σ1 bW.out wz b aB aV.ms FQ);rw[<-iH.out] at fj;obtain⟨aZ,p1,cK,cX,_,d2⟩:=cells4 eR.out
  rcases b0:F.v eq ⟨au,aG,st⟩ σ1 with ⟨⟨v2,bz⟩,cy⟩
  rw[b0] at fj;have xw:=hide b0;clear b0;go_wp2_with fail;refine cm fj ?_;rintro e aE ⟨⟨ev,rfl,aD⟩,g4,gz⟩;have dH:=aD;have dF:=hide (gz.keep dV.out Oz);have gh:=hide (gz.keep aV.v Oz);have fl:=(cY.trans gz);have p3:=(p4.kp gz.UD);have hB:=g4.lt;clear aZ p1 cK cX d2 cH bU cg dt du dv rl fh cp dG hp hq hr g9;obtain⟨cH,bU,cg,dt,du,dv,rl⟩:=O7 dF.out;obtain⟨fh,cp,dG,hp,hq,hr,g9⟩:=O7 gh.out
  by_cases ga:bz=.no
  ·subst ga;have bv:ev=Qp:=aD;subst bv
   by_cases bE:v1.k=5
   ·obtain⟨bH,zr⟩:=xH v1.n;have cn:=Om dW v1 σ1 v2 cy bW.out xw.out;obtain⟨tx,cD⟩:=xE d.2.tx;obtain⟨oE,iq⟩:=xE ((cy.M.put bH tx v2 false).1);have aK:rs=((v2,erP oE),cy.RG bH tx v2 false):=by rw[bB.out];unfold aeU;rw[bW.out];dsimp only;rw[xw.out];dsimp only;rw[if_neg (by simp[bE]),iq,zr.out,cD]
    have cI:=hide aK;have lH:=hide (ab5 cy.M bH tx v2 false);rw[<-iq] at lH;rw[bE] at fh;rw[<-zr.out] at cp;have Fw:=hide bE;clear aK bE;go_wp2_with fail;obtain⟨wd,fb⟩:=xE (aE.alloc (.cells #[Ol v2.k,Ol v2.n,OB v2.s] 65));obtain⟨dD,kY⟩:=xE aE.heap.size;have dZ:OD aE wd:=by rw[fb];exact PO
    have Bx:wd.heap[dD]? = some (Y7 v2):=by rw[fb,kY];exact OA _ _
    have l8:=(g4.later dZ);have hY:=hide (stays dZ dF.out);have ES:=stays dZ gh.out;have CT:Hid (wd.heap[vb]? = some (O1 #[Ol 5,Ol bH,OB v1.s] 65)):=by
     show _=_
     rw[ES,Fw.out,zr.out]
    have tD:=hide Bx;have uW:=(fl.trans (O5.of (L:=none) dZ (O0 hB)));have m8:=p3.kp (Kp.of dZ);have c1:=m8.cells.2.2.1;have Jx:=m8.cells.1;rw[<-bm.out] at c1 Jx;rw[<-cD] at c1;have lE:=hide m8.blk;rw[<-bm.out] at lE;have fi:=hide c1;have ug:=l8.lt;have ia:=lt_of_heap Bx;have Nr:=lt_of_heap CT.out;have pp:Hid (∀ X,Ms w0 mb af O X cy->OE 56 #[Oo mb,Ol bH,OB tx,vA v2,OC false] X fun e w'=>e=OQ (Ur oE)/\Ms w0 mb af O w' (cy.RG bH tx v2 false)/\Py Th mb X w'):=fun X ak=>by
     obtain⟨_,_,_,_,ae⟩:=ak;refine(YS ae cn hN bH tx v2 false).mono ?_;rintro e w' ⟨rfl,U,aw⟩;rw[iq];exact⟨rfl,⟨_,_,_,_,U⟩,aw⟩
    have kx:dD≠aU:=fun e=>by
     have h1:=lt_of_heap dF.out;omega
    try rw[<-fb,<-kY]
    clear fb Bx ES c1 cD iq kY cH bU cg dt du dv rl fh cp dG hp hq hr g9;have ab:O5 none mb wd wd.drew:=O5.of QX.drew (O0 ug);refine QE 12 (fun X=>O5 none mb wd X) PK ?_;refine uc 0 (.agg #[Ol v2.k,Ol v2.n,OB v2.s]) rfl (Or.inl ⟨by kernel_rfl,fun X ak=>by have h0:=(cells3 (ak.keep tD.out Oz)).1;have h1:=(cells3 (ak.keep tD.out Oz)).2.1;have U:=(cells3 (ak.keep tD.out Oz)).2.2.1;go_simp⟩) (ab) ?_
    refine up 1 mb 0 ab ?_;refine up 2 mb 0 ab ?_;refine up 3 mb 0 ab ?_;refine up 4 vb 1 ab ?_;refine uc 5 (Ol bH) rfl (Or.inl ⟨by kernel_rfl,fun X ak=>by have h0:=(cells3 (ak.keep CT.out Oz)).2.1;go_simp⟩) (ab) ?_
    refine up 6 q 0 ab ?_;refine up 7 q 0 ab ?_;refine up 8 q 1 ab ?_;refine uc 9 (OB tx) rfl (Or.inl ⟨by kernel_rfl,fun X ak=>by have h0:=ak.UD.XQ fi.out lE.out;go_simp⟩) (ab) ?_
    refine uc 10 (.agg #[Ol v2.k,Ol v2.n,OB v2.s]) rfl (Or.inl ⟨by kernel_rfl,fun X ak=>by have h0:=(cells3 (ak.keep tD.out Oz)).1;have h1:=(cells3 (ak.keep tD.out Oz)).2.1;have U:=(cells3 (ak.keep tD.out Oz)).2.2.1;go_simp⟩) (ab) ?_
    refine P5 11 fun K A=>?_;go_simp;refine cm (Om pp _ (l8.later QX.drew)) ?_;rintro e dM ⟨rfl,qm,ql⟩;have lP:O5 none mb wd dM:=ab.trans (O5.ofT ql);refine A.out _ _ (fun _=>lP) ?_;clear A K;have nL:=hide (lP.keep hY.out Oz);have kf:=(uW.trans lP);obtain⟨hs,ht,hu,ig,ih,ii,hv⟩:=O7 nL.out;refine P5 12 fun K A=>?_;go_simp;refine ko A ?_;clear A K;refine uz 13 (Ur oE) ?_;refine Sl ?_ _;go_simp;go_wp2_with fail
    obtain⟨b1,bx,bi,bF,bC,cG,b4,bT⟩:=rt3 nL.out cR.out bG kf qm (Ol v2.k) (Ol v2.n) (OB v2.s);rw[<-bx];refine WA (v:=.tuple #[vA v2,Ur oE]) ?_;rw[cI.out];exact⟨⟨_,rfl,aoT lH.out⟩,bC,bF⟩
   ·have aK:rs=((vU,bad tType),cy):=by rw[bB.out];unfold aeU;rw[bW.out];dsimp only;rw[xw.out];dsimp only;rw[if_pos bE]
    have cI:=hide aK;clear aK;go_wp2_with fail;obtain⟨wd,fb⟩:=xE (aE.alloc (.cells #[Ol v2.k,Ol v2.n,OB v2.s] 65));have z:=Oq (∀{G}(h:G:=by
    try rw[<-fb]
    clear fb cH bU cg dt du dv rl fh cp dG hp hq hr g9;refine cm (U5 (es:=es) ug tType) ?_;rintro e gX ⟨⟨ev,rfl,aD⟩,g5⟩;have lL:=hide (stays g5 hY.out);have oq:=(l8.later g5);have oi:=(uW.trans (O5.of (L:=none) g5 (O0 ug)));obtain⟨dn,bR,c7,l1,l2,l3,nl⟩:=O7 lL.out;have z:=Oq (∀{G}(h:G:=by
    have aK:rs=((vU,bad tType),cy):=Om cI;rw[aK];exact⟨⟨_,rfl,aD.Qw bi Oz⟩,bC,bF⟩),G);exact asl),G);exact awE
  ·obtain⟨et,ex,bv⟩:=aD.WT ga ac;subst bv;have aK:rs=((vU,bz),cy):=by
    rw[bB.out];unfold aeU;rw[bW.out];dsimp only;rw[xw.out];exact awF
   have bM:=hide aK;clear ga aK fh cp dG hp hq hr g9;go_wp2_with fail;obtain⟨b1,bx⟩:=xE ((((aE.setCell (Ot aU 0) (Ol 0)).setCell (Ot aU 1) (Ol 0)).setCell (Ot aU 2) (PN)).alloc (.cells #[Ol v2.k,Ol v2.n,OB v2.s] 65));rw[<-bx];have gK:mb<=aU:=by have:=Om cR;omega
   have bi:=RJ dF.out gK (Ol 0) (Ol 0) (PN);have d8:=(Below.refl _ (((aE.setCell (Ot aU 0) (Ol 0)).setCell (Ot aU 1) (Ol 0)).setCell (Ot aU 2) (PN))).alloc O6 (.cells #[Ol v2.k,Ol v2.n,OB v2.s] 65);have bN:=Oq (∀{G}(h:G:=by
   have oJ:=(dH.Qw bi Oz).later d8;exact aDK),G);exact aBs
 ·obtain⟨et,ex,bv⟩:=aV.er.WT aq ac;subst bv;have aK:rs=((vU,ay),σ1):=by
   rw[bB.out];unfold aeU;rw[bW.out];exact axR
  have bM:=hide aK;clear aq aK;have bB:=bM;exact asn),G);exact al5),G);exact aiZ),G);exact Vd),G);exact Xu
def OY.adX {a:Ad}{d:Nd}(h:OY O w a d)(E:d.2.kids.length=2):∃ ce bQ g cap,w.cell? (Ot a.p 3)=some (.slice (some (Ot g 0)) 2 cap)/\w.cell? (Ot g 0)=some (Oo ce.p)/\w.cell? (Ot g 1)=some (Oo bQ.p)/\OY O w ce (Oy d 0)/\OY O w bQ (Oy d 1):=by
 obtain⟨ce,cB,cap0,fG,dC,fV,_⟩:=h.Yj (i:=0) Ou;obtain⟨bQ,b5,cap1,jI,fW,jh,_⟩:=h.Yj (i:=1) Ou;rw[E] at fG jI;rw[fG] at jI;simp only[Option.some.injEq,Value.slice.injEq,Addr.mk.injEq,and_true,true_and] at jI;obtain⟨rfl,rfl⟩:=jI;exact⟨ce,bQ,cB,cap0,fG,dC,fW,fV,jh⟩
def aa1 (ac:Zp es)(aJ:Ms w0 mb af O w σ){a:Ad}{d:Nd}(hd:OY O w a d)(E:d.2.kids.length=2)(p:Pl)(aB:Option Addr)
  (bo:(Oy d 0).2.kd=36) (cT:(Oy d 0).2.kids.length=1) (h1:Ub w0 mb af O es σ (Oy (Oy d 0) 0) p (F.v (Oy (Oy d 0) 0) p σ))
  (U:∀ v1 σ1,F.v (Oy (Oy d 0) 0) p σ=((v1,.no),σ1)->Ub w0 mb af O es σ1 (Oy d 1) p (F.v (Oy d 1) p σ1)) (aI:∀ v1 σ1 v2 cy,F.v (Oy (Oy d 0) 0) p σ=((v1,.no),σ1)->F.v (Oy d 1) p σ1=((v2,.no),cy)->Sz N cy) (hN:N<1000000000) :
  OE 257 #[Oo mb,Oo a.p,PU p aB] w (O3 w0 mb af O es w (aeU F (Oy d 0) (Oy d 1) p σ)):=by
 have z:=Oq (∀{G}(h:G:=by
 have ei:=hide (cells4 be);have z:=Oq (∀{G}(h:G:=by
 have z:=Oq (∀{G}(h:G:=by
 rw[bo] at my;have bJ:=hide (fun X (ak:OD w2 X)=>acd ac (cZ.later ak) (iW.kp (Kp.of ak)) (iO.kp (Kp.of ak)) cT ⟨au,aG,st⟩ aB h1 U aI hN);obtain⟨rs,d'⟩:=xE (aeU F (Oy d 0) (Oy d 1) ⟨au,aG,st⟩ σ);rw[<-d',<-qT.out,<-p7.out] at bJ;rw[<-d'];have z:=Oq (∀{G}(h:G:=by
 have mw:=cell_lt uR.out;clear be hr2 ag dx cL d0 hblk nj rk fW d' h1 U aI bo cT;go_enter func257,ntmps257;go_wp2_with fail;rw[<-bu.out,<-b0,<-bV];clear bV b0;refine TI 14 fun ab=>?_;have z:=Oq (∀{G}(h:G:=by
 refine uk 4 eF.out ab ?_;refine up 5 cB 0 ab ?_;refine uk 6 uR.out ab ?_;refine up 7 q 0 ab ?_;refine up 8 q 0 ab ?_;refine up 9 q 3 ab ?_;refine uk 10 eF.out ab ?_;refine up 11 cB 1 ab ?_;refine uk 12 od.out ab ?_;refine uk4 13 ei.out ab ?_;refine P5 14 fun K A=>?_;have z:=Oq (∀{G}(h:G:=by
 have z:=Oq (∀{G}(h:G:=by
 refine uz 15 (vA v9) ?_;refine uz 16 ev ?_;refine P5 17 fun K A=>?_;go_simp;refine ko A ?_;clear A K;refine uz 18 ev ?_;refine Sl ?_ _;go_simp;exact ayl),G);exact aBt),G);exact asw),G);exact Ws),G);exact aBu),G);exact aBv),G);exact Vd),G);exact Xu
def aa2 (ac:Zp es)(a8:Bs w0 mb af O es)(bc:RP w0)(aJ:Ms w0 mb af O w σ){a:Ad}{d:Nd}(hd:OY O w a d)(E:d.2.kids.length=2)(p:Pl)(aB:Option Addr)
  (bo:¬ (Oy d 0).2.kd=36) (U:Ub w0 mb af O es (look (Oy d 0) p σ).2 (Oy d 1) p (F.v (Oy d 1) p (look (Oy d 0) p σ).2)) (aI:Sz N σ) (cn:∀ v1 σ1,F.v (Oy d 1) p (look (Oy d 0) p σ).2=((v1,.no),σ1)->Sz N σ1) (hN:N+1<1000000000) :
  OE 257 #[Oo mb,Oo a.p,PU p aB] w (O3 w0 mb af O es w (asv F (Oy d 0) (Oy d 1) p σ)):=by
 have z:=Oq (∀{G}(h:G:=by
 have b8:=hide be;have ei:=hide (cells4 be);have z:=Oq (∀{G}(h:G:=by
 have z:=Oq (∀{G}(h:G:=by
 obtain⟨kd,rm⟩:=xE ((Oy d 0).2.kd);rw[<-rm] at my bo;obtain⟨jz,pR⟩:=xE ((look (Oy d 0) ⟨au,aG,st⟩ σ).1);obtain⟨qL,qD⟩:=xE ((look (Oy d 0) ⟨au,aG,st⟩ σ).2);have hx:=hide (fun X (ak:OD w2 X)=>aoS a8 (cZ.later ak) aI Ou (iW.kp (Kp.of ak)) ⟨au,aG,st⟩ aB);rw[<-pR,<-qD,<-qT.out] at hx;rw[<-qD] at U cn;obtain⟨tx,cD⟩:=xE ((Oy d 0).2.tx)
 rcases aa:F.v (Oy d 1) ⟨au,aG,st⟩ qL with ⟨⟨v1,ay⟩,σ1⟩
 rw[aa] at U;obtain⟨rs,d'⟩:=xE (asv F (Oy d 0) (Oy d 1) ⟨au,aG,st⟩ σ);rw[<-d'];have bB:Hid (rs=match (((v1,ay),σ1):(Va × Er) × St) with
  | ((v,.no),σ1)=>((v,(asg jz tx v st σ1).1),(asg jz tx v st σ1).2)
  | ((_,e),σ1)=>((vU,e),σ1)):=by
  show _=_
  rw[d'];unfold asv;rw[<-qD,aa,<-pR,<-cD]
  all_goals cases ay <;> rfl
 have bW:=hide aa;have gY:=U;have sf:=hide cn;have fT:=iW.cells.2.2.1;rw[<-cD,<-qT.out] at fT;have mQ:=hide fT;have hkl2:=iW.cells.1;rw[<-qT.out] at hkl2;have z:=Oq (∀{G}(h:G:=by
 have qR:=hide hblk;have iH:=hide nj;have Cq:=hide rk;have mw:=cell_lt uR.out;clear be hr2 ag dx cL d0 hblk nj rk fW d' aa U cn pR qD rm cD fT;go_enter func257,ntmps257;have z:=Oq (∀{G}(h:G:=by
 have z:=Oq (∀{G}(h:G:=by
 refine uk 4 eF.out ab ?_;refine up 5 cB 0 ab ?_;refine uk 6 uR.out ab ?_;refine uk4 7 ei.out ab ?_;refine P5 8 fun K A=>?_;go_simp;refine cm (Om hx _ ab) ?_;rintro e ap ⟨rfl,eA,f8⟩;refine ko A ?_;clear A K;have cS:=(O5.of (L:=none) ab (O0 di)).trans f8;have dp:=hide (cS.keep bj.out Oz);have fM:=hide (cS.keep b8.out Oz);have CE:=hide (cells4 fM.out);have cQ:=(cu.trans cS);have qO:=hide (cS.UD.Ui eF.out iH.out (Or.inl rfl));have tk:=hide (cS.UD.Ui od.out qR.out (Or.inr rfl))
 have FK:=hide (cS.UD.Ui uR.out qR.out (Or.inr rfl));have yZ:=hide (cS.UD.Ui mQ.out Cq.out (Or.inl rfl));have ty:Hid (∃ c,ap.heap[q]? = some (O1 c 40)):=by obtain⟨c,aj⟩:=Om iH;exact⟨c,cS.UD _ _ _ aj (Or.inl rfl)⟩
 have xm:Hid (∃ c,ap.heap[cB]? = some (O1 c 22)):=by obtain⟨c,aj⟩:=Om qR;exact⟨c,cS.UD _ _ _ aj (Or.inr rfl)⟩
 have HKB3:Hid (∃ c,ap.heap[kp]? = some (O1 c 40)):=by obtain⟨c,aj⟩:=Om Cq;exact⟨c,cS.UD _ _ _ aj (Or.inl rfl)⟩
 have fD:=eA.lt;have Bc:=lt_of_heap fM.out;have sS:q<ap.heap.size:=cell_lt qO.out;have db:cB<ap.heap.size:=cell_lt tk.out;have bJ:=hide (fun X (ak:OD ap X)=>gY X bQ aB (eA.later ak) ((iO.kp cS.UD).kp (Kp.of ak)));rw[<-p7.out] at bJ;refine uz 9 (Ol jz) ?_;refine Sl ?_ _;go_simp;go_wp2_with fail;refine VN (H:=fun wz vb ev=>VB w0 mb af O es ap v1 ay σ1 wz vb ev) (G:=?GG) (fun dJ=>?ways) ?rest
 case ways=>
  refine TI 8 fun ab=>?_;have z:=Oq (∀{G}(h:G:=by
  refine uk 4 qO.out ab ?_;refine up 5 cB 1 ab ?_;exact aBw),G);exact Ws
 rintro wz vb ev aV;have cE:=aV.fr.keep dp.out Oz;have dV:=hide cE;obtain⟨cH,bU,cg,dt,du,dv,rl⟩:=O7 (cE);have ea:=aV.ms.lt;have cl:vb≠aU:=fun e=>by
  have h1:=aV.vb;have U:=lt_of_heap dp.out;omega
 have cY:O5 none mb w wz:=cQ.trans aV.fr;have eR:=hide (aV.fr.keep fM.out Oz);clear cE
 by_cases aq:ay=.no
 ·subst aq;have bv:ev=Qp:=aV.er;subst bv;have b9:=Om sf v1 σ1 bW.out;obtain⟨uE,kw⟩:=xE (asg jz tx v1 st σ1);have aK:rs=((v1,uE.1),uE.2):=by rw[bB.out,kw]
  have cI:=hide aK;have kE:Hid (∀ X,Ms w0 mb af O X σ1->OE 197 #[Oo mb,Ol jz,OB tx,vA v1,OC st] X (EPost w0 mb af O es X uE)):=fun X ak=>by
   rw[kw];exact auD a8 bc ak b9 hN jz tx v1 st
  have tE:=hide aV.v;have jr:=aV.ms;have th:=hide (aV.fr.UD.Ui qO.out ty.out (Or.inl rfl));have B7:=hide (aV.fr.UD.Ui FK.out xm.out (Or.inr rfl));have oh:=hide (aV.fr.UD.Ui yZ.out HKB3.out (Or.inl rfl));have xu:Hid (∃ c,wz.heap[q]? = some (O1 c 40)):=by obtain⟨c,aj⟩:=Om ty;exact⟨c,aV.fr.UD _ _ _ aj (Or.inl rfl)⟩
  have xn:Hid (∃ c,wz.heap[cB]? = some (O1 c 22)):=by obtain⟨c,aj⟩:=Om xm;exact⟨c,aV.fr.UD _ _ _ aj (Or.inr rfl)⟩
  have Gi:Hid (∃ c,wz.heap[kp]? = some (O1 c 40)):=by obtain⟨c,aj⟩:=Om HKB3;exact⟨c,aV.fr.UD _ _ _ aj (Or.inl rfl)⟩
  have hf:=cell_lt th.out;have rh:=cell_lt B7.out;have AY:=cell_lt oh.out;have iX:=lt_of_heap eR.out;have EW:=lt_of_heap aV.v;clear kw aK cH bU cg dt du dv rl;go_wp2_with fail;have ab:O5 none mb wz wz.drew:=O5.of QX.drew (O0 ea);refine QE 16 (fun X=>O5 none mb wz X) PK ?_;refine uc 0 (.agg #[Ol v1.k,Ol v1.n,OB v1.s]) rfl (Or.inl ⟨by kernel_rfl,fun X ak=>by have h0:=(cells3 (ak.keep tE.out Oz)).1;have h1:=(cells3 (ak.keep tE.out Oz)).2.1;have U:=(cells3 (ak.keep tE.out Oz)).2.2.1;go_simp⟩) (ab) ?_
  refine up 1 mb 0 ab ?_;refine uh 2 (Ol jz) (ab) ?_;refine up 3 q 0 ab ?_;refine up 4 q 0 ab ?_;refine up 5 q 3 ab ?_;refine uc 6 (.slice (some (Ot cB 0)) 2 cap0) rfl (Or.inl ⟨by kernel_rfl,fun X ak=>by have h0:=ak.UD.Ui th.out xu.out (Or.inl rfl);go_simp⟩) (ab) ?_
  refine up 7 cB 0 ab ?_;refine uc 8 (OM kp 0) rfl (Or.inl ⟨by kernel_rfl,fun X ak=>by have h0:=ak.UD.Ui B7.out xn.out (Or.inr rfl);go_simp⟩) (ab) ?_
  refine up 9 kp 0 ab ?_;refine up 10 kp 1 ab ?_;refine uc 11 (OB tx) rfl (Or.inl ⟨by kernel_rfl,fun X ak=>by have h0:=ak.UD.Ui oh.out Gi.out (Or.inl rfl);go_simp⟩) (ab) ?_
  refine uc 12 (.agg #[Ol v1.k,Ol v1.n,OB v1.s]) rfl (Or.inl ⟨by kernel_rfl,fun X ak=>by have h0:=(cells3 (ak.keep tE.out Oz)).1;have h1:=(cells3 (ak.keep tE.out Oz)).2.1;have U:=(cells3 (ak.keep tE.out Oz)).2.2.1;go_simp⟩) (ab) ?_
  refine up 13 bf 2 ab ?_;refine uc 14 (OC st) rfl (Or.inl ⟨by kernel_rfl,fun X ak=>by have h0:=(cells4 (ak.keep eR.out Oz)).2.2.1;go_simp⟩) (ab) ?_
  refine P5 15 fun K A=>?_;go_simp;refine cm (Om kE _ (jr.later QX.drew)) ?_;rintro e dM ⟨⟨ev,rfl,aD⟩,qm,ql⟩;have lP:O5 none mb wz dM:=ab.trans ql;refine A.out _ _ (fun _=>lP) ?_;clear A K;have nL:=hide (lP.keep dV.out Oz);have kf:=(cY.trans lP);obtain⟨hs,ht,hu,ig,ih,ii,hv⟩:=O7 nL.out;refine P5 16 fun K A=>?_;go_simp;refine ko A ?_;clear A K;refine uz 17 ev ?_;refine Sl ?_ _;go_simp;go_wp2_with fail
  obtain⟨b1,bx,bi,bF,bC,cG,b4,bT⟩:=rt3 nL.out cR.out bG kf qm (Ol v1.k) (Ol v1.n) (OB v1.s);rw[<-bx];refine WA (v:=.tuple #[vA v1,ev]) ?_;rw[cI.out];exact⟨⟨_,rfl,aD.Qw bi Oz⟩,bC,bF⟩
 ·obtain⟨et,ex,bv⟩:=aV.er.WT aq ac;subst bv;have aK:rs=((vU,ay),σ1):=by
   rw[bB.out];exact axR
  have bM:=hide aK;clear aq aK;have bB:=bM;exact asn),G);exact Ws),G);exact asr),G);exact aBu),G);exact aBv),G);exact Vd),G);exact Xu
def LA:Option Nat->Option Addr
 | none=>none
 | some b=>some (Ot b 0)
def OV (w:Ov):Option Nat->Option Va->Prop
 | none,none=>True
 | some b,some v=>w.heap[b]? = some (Y7 v)
 | _,_=>False
def ao7 (r:(Va × Er) × St):Er × St:=match r with
 | ((v,.no),σ1)=>(.XU v,σ1)
 | ((_,e),σ1)=>(e,σ1)
def agV (l:Option Va)(r:(Va × Er) × St):(Er × Option Va) × St:=match r with
 | ((v,.no),σ1)=>((.no,l.map fun _=>v),σ1)
 | ((_,e),σ1)=>((e,l),σ1)
def avQ (F:Fx)(d:Nd)(p:Pl)(σ:St):Er × St:=match F.v (Oy d 0) p σ with
 | ((v,.no),σ1)=>asg (σ.M.find p.scope d.2.tx) d.2.tx v p.strict σ1
 | ((_,e),σ1)=>(e,σ1)
def aci (d:Nd)(p:Pl)(r:(Va × Er) × St):Er × St:=match r with
 | ((v,.no),σ1)=>(erP (σ1.M.start p.scope d.2.tx v).1,{ σ1 with M:=(σ1.M.start p.scope d.2.tx v).2 })
 | ((_,e),σ1)=>(e,σ1)
variable {L:Option Nat}
def OV.keep {l:Option Va}(h:OV w L l)(aH:O5 none mb w w'):OV w' L l:=by
 cases L <;> cases l <;> first|exact h|exact aH.keep h Oz
def ZK (w0:Ov)(mb af:Nat)(O:List Nat)(es:OG)(L:Option Nat)(w:Ov)(r:(Er × Option Va) × St)(e:Ending)(w':Ov):Prop:=
 (∃ ev,e=OQ ev/\Xm es w' ev r.1.1)/\Ms w0 mb af O w' r.2/\O5 L mb w w'/\OV w' L r.1.2
section
variable (aJ:Ms w0 mb af O w σ) {u:OG}
include aJ u
theorem ai5 (aa:TA 0 w u [])(p:Pl)(aB:Option Addr) :
  OE 114 #[Oo mb,u,PU p aB] w (O3 w0 mb af O es w ((vU,.no),σ)):=by
 have z:=Oq (∀{G}(h:G:=by
 obtain⟨cV,dP,aT⟩:=aa.form;rw[List.length_nil] at aT;subst aT;have cZ:=(aJ.later aF);have cu:=(O5.of (L:=none) aF (O0 bG));have bj:=hide hr2;clear be hr2 dx cL d0;go_enter func114,ntmps114;go_wp2_with fail;obtain⟨jU,wO⟩:=xE ((w.alloc (.cells #[Ol au,Ol aG,OC st,.pointer aB] 73)).alloc (.cells #[Ol 0,Ol 0,PN] 65));rw[<-wO];have m5:jU=w2:=by rw[wO];exact bu.out.symm
 rw[m5,<-b0];obtain⟨cG,b4,bT,_,_⟩:=cells3 bj.out;exact Y9 (v:=.tuple #[vA vU,Qp]) ⟨⟨_,rfl,rfl⟩,cZ,cu⟩),G);exact zsb
theorem agW {k:Ad}{fX:Nd}(aa:TA 0 w u [k])(hd:OY O w k fX)(p:Pl)(aB:Option Addr)(h1:Ub w0 mb af O es σ fX p (F.v fX p σ)) :
  OE 114 #[Oo mb,u,PU p aB] w (O3 w0 mb af O es w (F.v fX p σ)):=by
 have z:=Oq (∀{G}(h:G:=by
 obtain⟨cB,cap0,aT,hg,aj,_⟩:=(aa.later aF).cell 0 O8;rw[show ([k]:List Ad).length=1 from rfl] at aT;subst aT;have cZ:=(aJ.later aF);have cu:=(O5.of (L:=none) aF (O0 bG));have bj:=hide hr2;have ei:=hide (cells4 be);have cR:=hide cL;have bJ:=hide (fun X (ak:OD w2 X)=>h1 X k aB (cZ.later ak) ((hd.kp (Kp.of aF)).kp (Kp.of ak)));obtain⟨rs,eI⟩:=xE (F.v fX ⟨au,aG,st⟩ σ);rw[<-eI] at bJ ⊢;obtain⟨kp,dc⟩:=xE k.p;have eS:w2.cell? (Ot cB 0)=some (Oo kp):=by rw[dc];exact aj
 rw[<-dc] at bJ;have ai:=hide eS;have di:=cZ.lt;have hpl2:=lt_of_heap be;clear be hr2 h1 aj dc dx cL d0 eI eS;go_enter func114,ntmps114;go_wp2_with fail;rw[<-bu.out,<-b0,<-bV];clear bV b0;refine TI 5 fun ab=>?_;refine up 0 mb 0 ab ?_;refine uh 1 (.slice (some (Ot cB 0)) 1 cap0) (ab) ?_;refine up 2 cB 0 ab ?_;refine uk 3 ai.out ab ?_;refine uk4 4 ei.out ab ?_;refine P5 5 fun K A=>?_;have z:=Oq (∀{G}(h:G:=by
 have z:=Oq (∀{G}(h:G:=by
 refine uz 6 (vA v9) ?_;refine uz 7 ev ?_;refine P5 8 fun K A=>?_;go_simp;refine ko A ?_;clear A K;refine uz 9 ev ?_;refine Sl ?_ _;go_simp;exact ayl),G);exact aBt),G);exact asw),G);exact zsb
end
section
variable (ac:Zp es) (aJ:Ms w0 mb af O w σ) {a:Ad} {d:Nd} (hd:OY O w a d) (E:d.2.kids.length=1) (p:Pl)
include ac aJ a d hd E p
theorem aeX (aB:Option Addr)(h1:Ub w0 mb af O es σ (Oy d 0) p (F.v (Oy d 0) p σ)) :
  OE 115 #[Oo mb,Oo a.p,PU p aB] w (EPost w0 mb af O es w (ao7 (F.v (Oy d 0) p σ))):=by
 have bG:=aJ.lt;have z:=Oq (∀{G}(h:G:=by
 have dx:w.heap.size<=bf:=Ou;have z:=Oq (∀{G}(h:G:=by
 have ei:=hide (cells4 be);have z:=Oq (∀{G}(h:G:=by
 have z:=Oq (∀{G}(h:G:=by
 have z:=Oq (∀{G}(h:G:=by
 rcases aa:F.v (Oy d 0) ⟨au,aG,st⟩ σ with ⟨⟨v1,ay⟩,σ1⟩
 obtain⟨rs,bB⟩:=xH (ao7 ((v1,ay),σ1));have z:=Oq (∀{G}(h:G:=by
 have z:=Oq (∀{G}(h:G:=by
 clear be aa h1 dx fG dC dc;go_enter func115,ntmps115;go_wp2_with fail;rw[<-bu.out,<-bV];clear bV;refine VN (H:=fun wz vb ev=>VB w0 mb af O es w2 v1 ay σ1 wz vb ev) (G:=?GG) (fun dJ=>?ways) ?rest
 case ways=>
  exact aeQ
 rintro wz vb ev aV;have ea:=aV.ms.lt;have cY:O5 none mb w wz:=cu.trans aV.fr;obtain⟨fh,cp,dG,hp,hq,hr,g9⟩:=O7 (aV.v)
 by_cases aq:ay=.no
 ·subst aq;have bv:ev=Qp:=aV.er;subst bv;go_wp2_with fail;have d8:=(Below.refl wz.heap.size wz).alloc O6 (.cells #[Ol v1.k,Ol v1.n,OB v1.s] 126);refine UU (v:=.iface 122 (OM wz.heap.size 0)) ?_;have aK:rs=(.XU v1,σ1):=Om bB;rw[aK];exact⟨⟨_,rfl,_,rfl,OA _ _⟩,aV.ms.later d8,cY.trans (O5.of (L:=none) d8 (O0 ea))⟩
 ·exact awT),G);exact aoY),G);exact aoZ),G);exact aiZ),G);exact adi),G);exact zsl),G);exact ax1),G);exact zss
theorem aa3 (h1:Ub w0 mb af O es σ (Oy d 0) p (F.v (Oy d 0) p σ)) :
  OE 117 #[Oo mb,Oo a.p,PU p none] w (ZK w0 mb af O es none w (agV none (F.v (Oy d 0) p σ))):=by
 have bG:=aJ.lt;obtain⟨au,aG,st⟩:=p;obtain⟨w2,bu⟩:=xH (w.alloc (.cells #[Ol au,Ol aG,OC st,Ri] 73));have aF:OD w w2:=by rw[bu.out];exact PO
 obtain⟨bf,bV⟩:=xE w.heap.size;have be:w2.heap[bf]? = some (O1 #[Ol au,Ol aG,OC st,Ri] 73):=by rw[bu.out,bV];exact OA _ _
 have dx:w.heap.size<=bf:=Ou;have z:=Oq (∀{G}(h:G:=by
 have b8:=hide be;have ei:=hide (cells4 be);have z:=Oq (∀{G}(h:G:=by
 have z:=Oq (∀{G}(h:G:=by
 have bJ:=hide (fun X (ak:OD w2 X)=>h1 X ce none (cZ.later ak) (fV.kp (Kp.of ak)))
 rcases aa:F.v (Oy d 0) ⟨au,aG,st⟩ σ with ⟨⟨v1,ay⟩,σ1⟩
 obtain⟨rs,bB⟩:=xH (agV none ((v1,ay),σ1));have z:=Oq (∀{G}(h:G:=by
 have z:=Oq (∀{G}(h:G:=by
 clear be aa h1 dx fG dC dc;go_enter func117,ntmps117;go_wp2_with fail;rw[<-bu.out,<-bV];clear bV;refine VN (H:=fun wz vb ev=>VB w0 mb af O es w2 v1 ay σ1 wz vb ev) (G:=?GG) (fun dJ=>?ways) ?rest
 case ways=>
  exact aeQ
 rintro wz vb ev aV;have ea:=aV.ms.lt;have cY:O5 none mb w wz:=cu.trans aV.fr;have eR:=hide (aV.fr.keep b8.out Oz);obtain⟨fh,cp,dG,hp,hq,hr,g9⟩:=O7 (aV.v);obtain⟨aZ,p1,cK,cX,_,d2⟩:=cells4 eR.out
 by_cases aq:ay=.no
 ·subst aq;have bv:ev=Qp:=aV.er;subst bv;go_wp2_with fail;refine UU (v:=Qp) ?_;have aK:rs=((.no,none),σ1):=Om bB;rw[aK];exact⟨⟨_,rfl,rfl⟩,aV.ms,cY,trivial⟩
 ·obtain⟨et,ex,bv⟩:=aV.er.WT aq ac;subst bv;have aK:rs=((ay,none),σ1):=by
   rw[bB.out];exact axR
  have bM:=hide aK;clear aq aK;go_wp2_with fail;refine UU (v:=.iface et ex) ?_;rw[bM.out];exact⟨⟨_,rfl,aV.er⟩,aV.ms,cY,trivial⟩),G);exact aoY),G);exact aoZ),G);exact adi),G);exact zsl),G);exact ax1
theorem aa4 {v0:Va}{lb:Nat}(hl:w.heap[lb]? = some (Y7 v0))(Je:mb<=lb)(h1:Ub w0 mb af O es σ (Oy d 0) p (F.v (Oy d 0) p σ)) :
  OE 117 #[Oo mb,Oo a.p,PU p (some (Ot lb 0))] w (ZK w0 mb af O es (some lb) w (agV (some v0) (F.v (Oy d 0) p σ))):=by
 have bG:=aJ.lt;obtain⟨au,aG,st⟩:=p;obtain⟨w2,bu⟩:=xH (w.alloc (.cells #[Ol au,Ol aG,OC st,OM lb 0] 73));have aF:OD w w2:=by rw[bu.out];exact PO
 obtain⟨bf,bV⟩:=xE w.heap.size;have be:w2.heap[bf]? = some (O1 #[Ol au,Ol aG,OC st,OM lb 0] 73):=by rw[bu.out,bV];exact OA _ _
 have dx:w.heap.size<=bf:=Ou;have z:=Oq (∀{G}(h:G:=by
 have b8:=hide be;have ei:=hide (cells4 be);have z:=Oq (∀{G}(h:G:=by
 have z:=Oq (∀{G}(h:G:=by
 have bJ:=hide (fun X (ak:OD w2 X)=>h1 X ce (some (Ot lb 0)) (cZ.later ak) (fV.kp (Kp.of ak)))
 rcases aa:F.v (Oy d 0) ⟨au,aG,st⟩ σ with ⟨⟨v1,ay⟩,σ1⟩
 obtain⟨rs,bB⟩:=xH (agV (some v0) ((v1,ay),σ1));have z:=Oq (∀{G}(h:G:=by
 have z:=Oq (∀{G}(h:G:=by
 have eL:=hide (stays aF hl);have MU:lb≠bf:=fun e=>by have:=lt_of_heap hl;omega
 clear be aa h1 dx fG dC dc hl;go_enter func117,ntmps117;go_wp2_with fail;rw[<-bu.out,<-bV];clear bV;refine VN (H:=fun wz vb ev=>VB w0 mb af O es w2 v1 ay σ1 wz vb ev) (G:=?GG) (fun dJ=>?ways) ?rest
 case ways=>
  exact aeQ
 rintro wz vb ev aV;have ea:=aV.ms.lt;have cY:O5 none mb w wz:=cu.trans aV.fr;have eR:=hide (aV.fr.keep b8.out Oz);have f6:=hide (aV.fr.keep eL.out Oz);have qw:lb≠vb:=fun e=>by
  have h1:=aV.vb;have U:=lt_of_heap eL.out;omega
 obtain⟨fh,cp,dG,hp,hq,hr,g9⟩:=O7 (aV.v);obtain⟨hs,ht,hu,ig,ih,ii,hv⟩:=O7 f6.out;obtain⟨aZ,p1,cK,cX,_,d2⟩:=cells4 eR.out
 by_cases aq:ay=.no
 ·subst aq;have bv:ev=Qp:=aV.er;subst bv;go_wp2_with fail;have bi:=RJ f6.out Je (Ol v1.k) (Ol v1.n) (OB v1.s);have d1:=ZJ f6.out (Ol v1.k) (Ol v1.n) (OB v1.s);refine UU (v:=Qp) ?_;have aK:rs=((.no,some v1),σ1):=Om bB;rw[aK];refine⟨⟨_,rfl,rfl⟩,aV.ms.YC bi Oz,?_,d1⟩;refine⟨cY.below.trans bi.below,fun b c e D aq hl=>?_⟩;have h1:=cY.rest b c e D aq O8;have cl:b≠lb:=fun e=>hl (by rw[e]);rw[heap_setCell_other _ _ _ _ cl,heap_setCell_other _ _ _ _ cl,heap_setCell_other _ _ _ _ cl];exact h1
 ·obtain⟨et,ex,bv⟩:=aV.er.WT aq ac;subst bv;have aK:rs=((ay,some v0),σ1):=by
   rw[bB.out];exact axR
  have bM:=hide aK;clear aq aK;go_wp2_with fail;refine UU (v:=.iface et ex) ?_;rw[bM.out];exact⟨⟨_,rfl,aV.er⟩,aV.ms,cY.up,f6.out⟩),G);exact aoY),G);exact aoZ),G);exact adi),G);exact zsl),G);exact ax1
theorem adl (aB:Option Addr)(h1:Ub w0 mb af O es σ (Oy d 0) p (F.v (Oy d 0) p σ))(a8:Bs w0 mb af O es)(bc:RP w0)(aI:Sz N σ)(cn:∀ v1 σ1,F.v (Oy d 0) p σ=((v1,.no),σ1)->Sz N σ1)(hN:N+1<1000000000) :
  OE 108 #[Oo mb,Oo a.p,PU p aB] w (EPost w0 mb af O es w (avQ F d p σ)):=by
 have bG:=aJ.lt;have z:=Oq (∀{G}(h:G:=by
 have dx:w.heap.size<=bf:=Ou;have z:=Oq (∀{G}(h:G:=by
 have b8:=hide be;have ei:=hide (cells4 be);have z:=Oq (∀{G}(h:G:=by
 obtain⟨ce,cB,cap0,fG,dC,fV,_⟩:=hd.Yj (i:=0) Ou;rw[E] at fG;have nn:=hd.cells.1;obtain⟨q,ag⟩:=xE a.p;obtain⟨kp,qT⟩:=xH ce.p;have m7:=fV.kp (Kp.of aF);obtain⟨tx,cD⟩:=xE d.2.tx;obtain⟨kQ,mv⟩:=xE (σ.M.find au tx);have hx:Hid (∀ X,OD w2 X->OE 195 #[Oo mb,Ol au,OB tx] X fun e w'=>e=OQ (Ol kQ)/\OD X w'):=fun X ak=>by
  obtain⟨_,_,_,_,ae⟩:=cZ.later ak;rw[mv];exact aeK ae.hh aI.go.ok aI.go.sm Ou au tx
 rcases aa:F.v (Oy d 0) ⟨au,aG,st⟩ σ with ⟨⟨v1,ay⟩,σ1⟩
 obtain⟨rs,d'⟩:=xE (avQ F d ⟨au,aG,st⟩ σ);rw[<-d'];have bB:Hid (rs=match (((v1,ay),σ1):(Va × Er) × St) with
  | ((v,.no),σ1)=>asg kQ tx v st σ1
  | ((_,e),σ1)=>(e,σ1)):=by
  show _=_
  rw[d'];unfold avQ;rw[aa,mv,cD]
 have bW:=hide aa;have sf:=hide cn;rw[aa] at h1;have fT:=cU.cells.2.2.1;rw[<-cD] at fT;have hblk:=cU.blk;have hblk2:=cU.akt (O4 aF fG);rw[<-ag] at fG dz nn fT hblk ⊢;rw[<-qT.out] at dC;have eF:=hide (O4 aF fG);have lG:=hide (O4 aF dC);have mQ:=hide fT;have iH:=hide hblk;clear be d' aa ag dx dC cn cD mv fT hblk hblk2;go_enter func108,ntmps108;go_wp2_with fail;rw[<-bu.out,<-bV];clear bV;refine TI 9 fun ab=>?_;have z:=Oq (∀{G}(h:G:=by
 refine up 3 bf 0 ab ?_;refine uk 4 (ei.out.1) ab ?_;refine up 5 q 0 ab ?_;refine up 6 q 0 ab ?_;refine up 7 q 1 ab ?_;refine uk 8 mQ.out ab ?_;refine P5 9 fun K A=>?_;go_simp;refine cm (Om hx _ ab) ?_;rintro e ap ⟨rfl,br⟩;refine ko A ?_;clear A K;have cS:OD w2 ap:=ab.trans br;have jG:=(cZ.later cS);have fM:=hide (stays cS b8.out);have CE:=hide (cells4 fM.out);have cQ:=(cu.trans (O5.of (L:=none) cS (O0 di)));have qO:=hide (O4 cS eF.out);have tk:=hide (O4 cS lG.out)
 have yZ:=hide (O4 cS mQ.out);have ty:Hid (∃ c,ap.heap[q]? = some (O1 c 40)):=by obtain⟨c,aj⟩:=Om iH;exact⟨c,stays cS aj⟩
 have fD:=jG.lt;have Bc:=lt_of_heap fM.out;have sS:q<ap.heap.size:=cell_lt qO.out;have db:cB<ap.heap.size:=cell_lt tk.out;have bJ:=hide (fun X (ak:OD ap X)=>h1 X ce aB (jG.later ak) ((m7.kp (Kp.of cS)).kp (Kp.of ak)));rw[<-qT.out] at bJ;refine uz 10 (Ol kQ) ?_;refine Sl ?_ _;clear fG;go_simp;go_wp2_with fail;refine VN (H:=fun wz vb ev=>VB w0 mb af O es ap v1 ay σ1 wz vb ev) (G:=?GG) (fun dJ=>?ways) ?rest
 case ways=>
  refine TI 8 fun ab=>?_;have z:=Oq (∀{G}(h:G:=by
  refine uk 4 qO.out ab ?_;refine up 5 cB 0 ab ?_;exact aBw),G);exact Ws
 rintro wz vb ev aV;have ea:=aV.ms.lt;have cY:O5 none mb w wz:=cQ.trans aV.fr;have eR:=hide (aV.fr.keep fM.out Oz)
 by_cases aq:ay=.no
 ·subst aq;have bv:ev=Qp:=aV.er;subst bv;have b9:=Om sf v1 σ1 bW.out;obtain⟨uE,kw⟩:=xE (asg kQ tx v1 st σ1);have aK:rs=uE:=by rw[bB.out,kw]
  have cI:=hide aK;have kE:Hid (∀ X,OD wz X->OE 197 #[Oo mb,Ol kQ,OB tx,vA v1,OC st] X (EPost w0 mb af O es X uE)):=fun X ak=>by
   rw[kw];exact auD a8 bc (aV.ms.later ak) b9 hN kQ tx v1 st
  have gh:=hide (cells3 aV.v);have r7:=hide (cells4 eR.out);have oh:=hide (aV.fr.UD.Ui yZ.out ty.out (Or.inl rfl));have hf:=cell_lt oh.out;have iX:=lt_of_heap eR.out;have EW:=lt_of_heap aV.v;clear kw aK;go_wp2_with fail;refine TI 9 fun ab=>?_;refine up 0 mb 0 ab ?_;refine uh 1 (Ol kQ) (ab) ?_;refine up 2 q 0 ab ?_;refine up 3 q 0 ab ?_;refine up 4 q 1 ab ?_;refine uk 5 oh.out ab ?_;refine uk3 6 gh.out ab ?_;refine up 7 bf 2 ab ?_;refine uk 8 (r7.out.2.2.1) ab ?_;refine P5 9 fun K A=>?_;go_simp
  refine cm (Om kE _ ab) ?_;rintro e dM ⟨⟨ev,rfl,aD⟩,qm,ql⟩;refine ko A ?_;clear A K;have kf:=(cY.trans ((O5.of (L:=none) ab (O0 ea)).trans ql));refine uz 10 ev ?_;refine Sl ?_ _;go_simp;go_wp2_with fail;refine UU (v:=ev) ?_;rw[cI.out];exact⟨⟨_,rfl,aD⟩,qm,kf⟩
 ·exact awT),G);exact Un),G);exact zsl),G);exact ax1),G);exact zss
end
abbrev UY (o:Oc):OG:=.agg #[OC o.ret,Ol o.v.k,Ol o.v.n,OB o.v.s]
def P8 (w0:Ov)(mb af:Nat)(O:List Nat)(es:OG)(L:Option Nat)(w:Ov)(r:(Oc × Er × Option Va) × St)(e:Ending)(w':Ov):Prop:=
 (∃ ev,e=OQ (.tuple #[UY r.1.1,ev])/\Xm es w' ev r.1.2.1)/\Ms w0 mb af O w' r.2/\O5 L mb w w'/\OV w' L r.1.2.2
def XG (w0:Ov)(mb af:Nat)(O:List Nat)(es:OG)(σ:St)(d:Nd)(p:Pl)(L:Option Nat)(l:Option Va)(r:(Oc × Er × Option Va) × St):Prop:=
 ∀ (X:Ov) (a:Ad),Ms w0 mb af O X σ->OY O X a d->OV X L l->OE 53 #[Oo mb,Oo a.p,PU p (LA L)] X (P8 w0 mb af O es L X r)
def chQ (F:Fx)(d:Nd)(p:Pl)(l:Option Va)(σ:St):(Oc × Er × Option Va) × St:=match F.v (Oy d 0) p σ with
 | ((v,.no),σ1)=>if v.tru then F.s (Oy d 1) p l σ1 else if 2<d.2.kids.length then F.s (Oy d 2) p l σ1 else ((QW,.no,l),σ1)
 | ((_,e),σ1)=>((QW,e,l),σ1)
def wiQ (F:Fx)(d:Nd)(p:Pl)(l:Option Va)(σ:St):(Oc × Er × Option Va) × St:=match UW F (Oy d 0) p σ with
 | ((o,.no),σ1)=>F.s (Oy d 1) { p with scope:=σ1.top } l (σ1.opn p.scope o (-2))
 | ((_,e),σ1)=>((QW,e,l),σ1)
section
variable {l:Option Va} (h:O5 L mb w w') (hl:OV w L l)
include l h hl
theorem O5.Rt {b:Nat}{c:Array OG}{t:TypeId}(D:w.heap[b]? = some (O1 c t))(bc:t ∉ Tm)(It:t≠65):w'.heap[b]? = some (O1 c t):=by
 refine h.rest b c t D bc (fun e=>?_)
 cases L with
 | none=>cases e
 | some lb=>
  cases e
  cases l with
  | none=>exact hl
  | some v=>exact QK D hl It rfl
theorem O5.kpL:Kp w w':=fun b c e D aq=>h.Rt hl D (by rcases aq with rfl|rfl <;> decide) (by rcases aq with rfl|rfl <;> decide)
end
def OV.Uc {l:Option Va}{T:List TypeId}(h:OV w L l)(aH:Py T mb w w')(dY:65 ∉ T:=by decide):OV w' L l:=by
 cases L <;> cases l <;> first|exact h|exact aH.rest _ _ _ h dY
def OV.later {l:Option Va}(h:OV w L l)(D:OD w w'):OV w' L l:=by
 cases L <;> cases l <;> first|exact h|exact stays D h
section
variable (ac:Zp es) (aJ:Ms w0 mb af O w σ) {a:Ad} {d:Nd} (hd:OY O w a d)
include ac aJ a d hd
theorem ao8 (E:d.2.kids.length=2)(p:Pl){l:Option Va}(hl:OV w L l)(h1:Ub w0 mb af O es σ (Oy d 0) p (F.v (Oy d 0) p σ))(U:∀ v1 σ1,F.v (Oy d 0) p σ=((v1,.no),σ1)->XG w0 mb af O es σ1 (Oy d 1) p L l (F.s (Oy d 1) p l σ1)) :
  OE 111 #[Oo mb,Oo a.p,PU p (LA L)] w (P8 w0 mb af O es L w (chQ F d p l σ)):=by
 have z:=Oq (∀{G}(h:G:=by
 have z:=Oq (∀{G}(h:G:=by
 have z:=Oq (∀{G}(h:G:=by
 have z:=Oq (∀{G}(h:G:=by
 have b8:=hide be;have ei:=hide (cells4 be);have z:=Oq (∀{G}(h:G:=by
 have z:=Oq (∀{G}(h:G:=by
 have z:=Oq (∀{G}(h:G:=by
 obtain⟨rs,bB⟩:=xH (chQ F d ⟨au,aG,st⟩ l σ);rw[<-bB.out,<-bm.out];have z:=Oq (∀{G}(h:G:=by
 have z:=Oq (∀{G}(h:G:=by
 refine VN (H:=fun wz vb ev=>VB w0 mb af O es w2 v1 ay σ1 wz vb ev) (G:=?GG) (fun dJ=>?ways) ?rest
 case ways=>
  exact aeQ
 rintro wz vb ev aV;have cE:=aV.fr.keep bj.out Oz;have dV:=hide cE;obtain⟨cH,bU,cg,eE,dt,du,dv,iT,rl⟩:=Qx (cE);have ea:=aV.ms.lt;have cl:vb≠aU:=fun e=>by
  have h1:=aV.vb;have U:=lt_of_heap bj.out;omega
 have cY:O5 none mb w wz:=cu.trans aV.fr;have eR:=hide (aV.fr.keep b8.out Oz);clear cE;obtain⟨fh,cp,dG,hp,hq,hr,g9⟩:=O7 (aV.v);have gI:=cU.kp aV.fr.UD;have f6:=(eL.keep aV.fr)
 by_cases aq:ay=.no
 ·subst aq;have bv:ev=Qp:=aV.er;subst bv;have eM:=(Xk v1 wz)
  cases e5:v1.tru with
  | true=>
   have z:=Oq (∀{G}(h:G:=by
   have z:=Oq (∀{G}(h:G:=by
   have fj:=hide (fun X (ak:OD ed X)=>(Om gY v1 σ1 bW.out) X bQ (j0.later ak) (jh.kp (Kp.of ak)) (nD.later ak));have z:=Oq (∀{G}(h:G:=by
   have z:=Oq (∀{G}(h:G:=by
   refine uk 4 uO.out ab ?_;refine up 5 b5 1 ab ?_;refine uk 6 od.out ab ?_;refine uk4 7 p'.out ab ?_;refine P5 8 fun K A=>?_;have z:=Oq (∀{G}(h:G:=by
   have jL:=(O5.of (L:=L) ab (O0 oV)).trans ah;have dF:=hide (jL.Rt nD kL.out Oz Oz);have fl:=(mW.up.trans jL);exact awU),G);exact ao9),G);exact Ws),G);exact aBI),G);exact awV),G);exact asF
  | false=>
   have z:=Oq (∀{G}(h:G:=by
   obtain⟨bQ,b5,cap1,jI,fW,jh,_⟩:=sL.Yj (i:=1) Ou;have sR:=sL.cells.1;rw[cT,<-bm.out] at jI;rw[<-bm.out] at sR;have aK:rs=((QW,.no,l),σ1):=by rw[bB.out];unfold chQ;rw[bW.out];simp[l5.out,p5.out]
   have cI:=hide aK;obtain⟨hs,ht,hu,pX,ig,ih,ii,pY,hv⟩:=Qx kL.out;clear cH bU cg eE dt du dv iT rl fh cp dG hp hq hr g9 fW cT aK;have z:=Oq (∀{G}(h:G:=by
   exact⟨⟨_,rfl,rfl⟩,bC,bF.up,nD.Uc bi⟩),G);exact aBJ),G);exact asF
 ·exact aBK),G);exact aBL),G);exact al5),G);exact aiZ),G);exact adi),G);exact Vd),G);exact zsd),G);exact XH),G);exact zsc),G);exact zsn
theorem apa (E:d.2.kids.length=3)(p:Pl){l:Option Va}(hl:OV w L l)(h1:Ub w0 mb af O es σ (Oy d 0) p (F.v (Oy d 0) p σ))(U:∀ v1 σ1,F.v (Oy d 0) p σ=((v1,.no),σ1)->XG w0 mb af O es σ1 (Oy d 1) p L l (F.s (Oy d 1) p l σ1)/\XG w0 mb af O es σ1 (Oy d 2) p L l (F.s (Oy d 2) p l σ1)) :
  OE 111 #[Oo mb,Oo a.p,PU p (LA L)] w (P8 w0 mb af O es L w (chQ F d p l σ)):=by
 have z:=Oq (∀{G}(h:G:=by
 have z:=Oq (∀{G}(h:G:=by
 have z:=Oq (∀{G}(h:G:=by
 have z:=Oq (∀{G}(h:G:=by
 have b8:=hide be;have ei:=hide (cells4 be);have z:=Oq (∀{G}(h:G:=by
 have z:=Oq (∀{G}(h:G:=by
 have z:=Oq (∀{G}(h:G:=by
 obtain⟨rs,bB⟩:=xH (chQ F d ⟨au,aG,st⟩ l σ);rw[<-bB.out,<-bm.out];have z:=Oq (∀{G}(h:G:=by
 have z:=Oq (∀{G}(h:G:=by
 refine VN (H:=fun wz vb ev=>VB w0 mb af O es w2 v1 ay σ1 wz vb ev) (G:=?GG) (fun dJ=>?ways) ?rest
 case ways=>
  exact aeQ
 rintro wz vb ev aV;have cE:=aV.fr.keep bj.out Oz;have dV:=hide cE;obtain⟨cH,bU,cg,eE,dt,du,dv,iT,rl⟩:=Qx (cE);have ea:=aV.ms.lt;have cl:vb≠aU:=fun e=>by
  have h1:=aV.vb;have U:=lt_of_heap bj.out;omega
 have cY:O5 none mb w wz:=cu.trans aV.fr;have eR:=hide (aV.fr.keep b8.out Oz);clear cE;obtain⟨fh,cp,dG,hp,hq,hr,g9⟩:=O7 (aV.v);have gI:=cU.kp aV.fr.UD;have f6:=(eL.keep aV.fr)
 by_cases aq:ay=.no
 ·subst aq;have bv:ev=Qp:=aV.er;subst bv;have eM:=(Xk v1 wz)
  cases e5:v1.tru with
  | true=>
   have z:=Oq (∀{G}(h:G:=by
   have z:=Oq (∀{G}(h:G:=by
   have fj:=hide (fun X (ak:OD ed X)=>(Om gY v1 σ1 bW.out).1 X bQ (j0.later ak) (jh.kp (Kp.of ak)) (nD.later ak));have z:=Oq (∀{G}(h:G:=by
   have z:=Oq (∀{G}(h:G:=by
   refine uk 4 uO.out ab ?_;refine up 5 b5 1 ab ?_;exact aBM),G);exact Ws),G);exact aBI),G);exact awV),G);exact asF
  | false=>
   have z:=Oq (∀{G}(h:G:=by
   obtain⟨bQ,b5,cap1,jI,fW,jh,_⟩:=sL.Yj (i:=2) Ou;rw[cT,<-bm.out] at jI;obtain⟨wY,pN⟩:=xE bQ.p;have fj:=hide (fun X (ak:OD ed X)=>(Om gY v1 σ1 bW.out).2 X bQ (j0.later ak) (jh.kp (Kp.of ak)) (nD.later ak));have bN:=Oq (∀{G}(h:G:=by
   have aK:rs=F.s (Oy d 2) ⟨au,aG,st⟩ l σ1:=by rw[bB.out];unfold chQ;rw[bW.out];simp[l5.out,p5.out]
   have cI:=hide aK;rw[<-aK] at fj;clear cH bU cg eE dt du dv iT rl fh cp dG hp hq hr g9 fW pN cT aK;go_wp2_with fail;clear jI;refine TI 8 fun ab=>?_;have z:=Oq (∀{G}(h:G:=by
   refine uk 4 uO.out ab ?_;refine up 5 b5 2 ab ?_;exact aBM),G);exact Ws),G);exact ztv),G);exact asF
 ·exact aBK),G);exact aBL),G);exact al5),G);exact aiZ),G);exact adi),G);exact Vd),G);exact zsd),G);exact XH),G);exact zsc),G);exact zsn
end
abbrev ocO (o:Oc):Obj:=O1 #[OC o.ret,Ol o.v.k,Ol o.v.n,OB o.v.s] 67
variable {w2:Ov}
structure SB (w0:Ov)(mb af:Nat)(O:List Nat)(es:OG)(L:Option Nat)(w2:Ov)(o:Oc)(e:Er)(l:Option Va)(σ:St)(wz:Ov)(ob:Nat)(ev:OG):Prop where
 o:wz.heap[ob]? = some (ocO o)
 ob:w2.heap.size<=ob
 er:Xm es wz ev e
 ms:Ms w0 mb af O wz σ
 fr:O5 L mb w2 wz
 la:OV wz L l
def SB.late {aE:Ov}{ev:OG}{o:Oc}{e:Er}{l:Option Va}(aD:Xm es aE ev e)(aJ:Ms w0 mb af O aE σ)(ah:O5 L mb w2 aE)(hl:OV aE L l):SB w0 mb af O es L w2 o e l σ (aE.alloc (.cells #[OC o.ret,Ol o.v.k,Ol o.v.n,OB o.v.s] 67)) aE.heap.size ev:=by
 have D:OD aE (aE.alloc (.cells #[OC o.ret,Ol o.v.k,Ol o.v.n,OB o.v.s] 67)):=PO;exact⟨OA _ _,ah.below.size,aD.later D,aJ.later D,ah.trans (O5.of D (O0 aJ.lt)),hl.later D⟩
def SB.early {aE:Ov}{ev x y bD u:OG}{o:Oc}{e:Er}{l:Option Va}{vb:Nat}(av:aE.heap[vb]? = some (O1 #[x,y,bD,u] 67))(aV:w2.heap.size<=vb)(aS:mb<=w2.heap.size)(aD:Xm es aE ev e)(aJ:Ms w0 mb af O aE σ)(ah:O5 L mb w2 aE)(hl:OV aE L l) :
  SB w0 mb af O es L w2 o e l σ ((((aE.setCell (Ot vb 0) (OC o.ret)).setCell (Ot vb 1) (Ol o.v.k)).setCell (Ot vb 2) (Ol o.v.n)).setCell (Ot vb 3) (OB o.v.s)) vb ev:=by
 have aH:=Uw av (Nat.le_trans aS aV) (OC o.ret) (Ol o.v.k) (Ol o.v.n) (OB o.v.s);exact⟨aat av _ _ _ _,aV,aD.Qw aH Oz,aJ.YC aH Oz,ah.newT aH (U6 aV _ _ _ _),hl.Uc aH⟩
section
variable {p:Pl} {d:Nd} {a6:List Nd} {l b3:Option Va} {o:Oc}
include p d a6 l b3 o
def asG {σ1:St}(h:F.s d p l σ=((o,.no,b3),σ1))(aa:o.ret=false):Q8 F p (d::a6) l σ=Q8 F p a6 b3 σ1:=by rw[Q8,h];simp[aa]
def apc {σ1:St}(h:F.s d p l σ=((o,.no,b3),σ1))(aa:o.ret=true):Q8 F p (d::a6) l σ=((o,.no,b3),σ1):=by rw[Q8,h];simp[aa]
def akw {e:Er}{σ1:St}(h:F.s d p l σ=((o,e,b3),σ1))(aq:e≠.no):Q8 F p (d::a6) l σ=((o,e,b3),σ1):=by
 rw[Q8,h];exact awI
end
def ZL (ac:Zp es)(aJ:Ms w0 mb af O w σ){u:OG}{c9:List Ad}{a6:List Nd}(aa:TA 0 w u c9)(ft:Uo O w c9 a6)(hlen:a6.length<=1000000)(p:Pl){l:Option Va}(hl:OV w L l)
  (P:St->Option Va->Prop) (hP:P σ l) (bq:∀ d ∈ a6,∀ σ l,P σ l->XG w0 mb af O es σ d p L l (F.s d p l σ)/\∀ o b3 σ1,F.s d p l σ=((o,.no,b3),σ1)->P σ1 b3) :
  OE 28 #[Oo mb,u,PU p (LA L)] w (P8 w0 mb af O es L w (Q8 F p a6 l σ)):=by
 have z:=Oq (∀{G}(h:G:=by
 have z:=Oq (∀{G}(h:G:=by
 have z:=Oq (∀{G}(h:G:=by
 have z:=Oq (∀{G}(h:G:=by
 have fk:=Uo.len _ _ ft;obtain⟨rs,fO⟩:=xH (Q8 F ⟨au,aG,st⟩ a6 l σ);rw[<-fO.out];have cZ:=(aJ.later aF);have cu:=(O5.of (L:=L) aF (O0 bG));have b8:=hide be;have bj:=hide hr2;have eL:=(hl.later aF);have cR:=hide cL;have dj:=(aa.later aF);have nF:=(Uo.kp (Kp.of aF) _ _ ft);have ot:=hide hP;have ai:=hide bq;obtain⟨cV,dP,aT⟩:=aa.form;subst aT;have di:=cZ.lt;have pi:=hide fk;have D4:c9.length<=1000000:=Ou;clear be hr2 hP bq dx cL d0 fk;go_enter func28,ntmps28;go_wp2_with fail
 rw[<-bu.out,<-b0,<-bV];clear bV b0
 go_loopw [14] (fun i wr=>∃ (k:Nat) (hC:Option Va) (dE:St),k<=c9.length/\i=Ol k/\Ms w0 mb af O wr dE/\P dE hC/\O5 L mb w2 wr/\OV wr L hC/\rs=Q8 F ⟨au,aG,st⟩ (a6.drop k) hC dE) (fun i _=>c9.length - (intOf i).toNat)
 case atStart=>exact⟨0,l,σ,Nat.zero_le _,rfl,cZ,ot.out,O5.of QX (O0 di),eL,fO.out⟩
 case round=>
  obtain⟨k,hC,dE,E,rfl,aJ,ld,ah,kn,iY⟩:=hrel;have ma:=hide ld;have je:=hide iY;have h':=aJ.lt;have dc:=ah.kpL eL;have bW:=hide (ah.Rt eL bj.out Oz Oz);have Be:=ah.Rt eL b8.out Oz Oz;clear ld iY
  by_cases aQ:k<c9.length
  ·have bo:k<a6.length:=by rw[<-pi.out];exact aQ
   obtain⟨g,cap,av,hg,aj,az⟩:=(dj.kp dc).cell k aQ;have z:=Oq (∀{G}(h:G:=by
   obtain⟨ci,iq⟩:=Om ai a6[k] (List.getElem_mem _) dE hC ma.out;have bJ:=(ci wr c9[k] aJ ((Uo.get _ _ nF k aQ bo).kp dc) kn);rw[<-kI.out] at bJ;obtain⟨q,ag⟩:=xE ((c9[k]).p);rw[<-ag] at aj bJ
   rcases dm:F.s a6[k] ⟨au,aG,st⟩ hC dE with ⟨⟨bH,ay,b3⟩,σ1⟩
   rw[dm] at bJ;have lH:=hide iq;have de:=hide dm;have l6:=hide (List.drop_eq_getElem_cons bo);obtain⟨aZ,p1,cK,cX,_,d2⟩:=cells4 Be;clear iq ag dm Be;go_wp2_with fail;refine cm bJ ?_;rintro e aE ⟨⟨ev,rfl,aD⟩,g4,gz,g3⟩;have fl:=(ah.trans gz);have dF:=hide (gz.Rt kn bW.out Oz Oz);have hB:=g4.lt;clear aZ p1 cK cX d2 aj;obtain⟨iB,⟨ey,dL,eK⟩⟩:=bH
   cases iB with
   | true=>
    by_cases aq:ay=.no
    ·subst aq;have bv:ev=Qp:=aD;subst bv;have aK:rs=((⟨true,⟨ey,dL,eK⟩⟩,.no,b3),σ1):=by rw[je.out,l6.out];exact apc de.out rfl
     have cI:=hide aK;clear aK;have z:=Oq (∀{G}(h:G:=by
     refine Vm (v:=.tuple #[UY ⟨true,⟨ey,dL,eK⟩⟩,Qp]) ?_;rw[cI.out];exact⟨⟨_,rfl,oJ⟩,bC,bF,xQ⟩),G);exact aBN
    ·obtain⟨et,ex,bv⟩:=aD.WT aq ac;subst bv;have aK:rs=((⟨true,⟨ey,dL,eK⟩⟩,ay,b3),σ1):=by rw[je.out,l6.out];exact akw de.out aq
     have cI:=hide aK;clear aK aq;have z:=Oq (∀{G}(h:G:=by
     refine Vm (v:=.tuple #[UY ⟨true,⟨ey,dL,eK⟩⟩,.iface et ex]) ?_;rw[cI.out];exact⟨⟨_,rfl,oJ⟩,bC,bF,xQ⟩),G);exact aBN
   | false=>
    by_cases aq:ay=.no
    ·subst aq;have bv:ev=Qp:=aD;subst bv;go_wp2_with fail;have d8:=(Below.refl aE.heap.size aE).alloc O6 (.cells #[OC false,Ol ey,Ol dL,OB eK] 67);have jG:=(g4.later d8);have cQ:=(fl.trans (O5.of (L:=L) d8 (O0 hB)));have u':=(g3.later d8)
     go_roundw
     case rel=>
      refine⟨k+1,b3,σ1,by omega,by go_num,jG,Om lH _ b3 σ1 de.out,cQ,u',?_⟩;rw[je.out,l6.out];exact asG de.out rfl
     case measure=>simp[intOf];omega
    ·obtain⟨et,ex,bv⟩:=aD.WT aq ac;subst bv;have aK:rs=((⟨false,⟨ey,dL,eK⟩⟩,ay,b3),σ1):=by rw[je.out,l6.out];exact akw de.out aq
     have cI:=hide aK;clear aK aq;obtain⟨cH,bU,cg,eE,dt,du,dv,iT,rl⟩:=Qx dF.out;go_wp2_with fail;obtain⟨b1,bx⟩:=xE (((((aE.setCell (Ot aU 0) (OC false)).setCell (Ot aU 1) (Ol ey)).setCell (Ot aU 2) (Ol dL)).setCell (Ot aU 3) (OB eK)).alloc (.cells #[OC false,Ol ey,Ol dL,OB eK] 67));rw[<-bx];have gK:mb<=aU:=by have:=Om cR;omega
     have bi:=Uw dF.out gK (OC false) (Ol ey) (Ol dL) (OB eK);have d8:=(Below.refl _ ((((aE.setCell (Ot aU 0) (OC false)).setCell (Ot aU 1) (Ol ey)).setCell (Ot aU 2) (Ol dL)).setCell (Ot aU 3) (OB eK))).alloc O6 (.cells #[OC false,Ol ey,Ol dL,OB eK] 67);have d1:=stays d8 (aat dF.out (OC false) (Ol ey) (Ol dL) (OB eK));have bN:=Oq (∀{G}(h:G:=by
     refine Vm (v:=.tuple #[UY ⟨false,⟨ey,dL,eK⟩⟩,.iface et ex]) ?_;rw[cI.out];exact⟨⟨_,rfl,oJ⟩,bC,bF,xQ⟩),G);exact ztl),G);exact awJ
  ·have cT:k=c9.length:=Ou;have aK:rs=((QW,.no,hC),dE):=by rw[je.out,cT,pi.out,List.drop_length];rfl
   have cI:=hide aK;have h8:¬ (k:Int)<(c9.length:Int):=Ou;obtain⟨cH,bU,cg,eE,dt,du,dv,iT,rl⟩:=Qx bW.out;clear aK cT Be;go_wp2_with fail;obtain⟨b1,bx,bi,bF,bC,cG,b4,bT,eg⟩:=rt4 bW.out cR.out bG (cu.trans ah) aJ (OC false) (Ol 0) (Ol 0) (PN);rw[<-bx];refine agX (v:=.tuple #[UY QW,Qp]) ?_;rw[cI.out];exact⟨⟨_,rfl,rfl⟩,bC,bF,kn.Uc bi⟩),G);exact zsf),G);exact XH),G);exact zsc),G);exact zsn
def OY.ar {a:Ad}{d:Nd}(h:OY O w a d):∃ cV dP,w.cell? (Ot a.p 3)=some (.slice cV d.2.kids.length dP)/\TA 0 w (.slice cV d.2.kids.length dP) a.ks:=by
 obtain⟨BW,c3,hrow,_⟩:=RV.row h.at_;obtain⟨cV,dP,aT⟩:=hrow.form;rw[h.ks] at aT;subst aT;exact⟨cV,dP,c3,hrow⟩
section
variable (aJ:Ms w0 mb af O w σ) {a:Ad} {d:Nd} (hd:OY O w a d)
include aJ a d hd
theorem aeY (E:d.2.kids.length=0)(p:Pl)(aB:Option Addr) :
  OE 108 #[Oo mb,Oo a.p,PU p aB] w (EPost w0 mb af O es w (.no,σ)):=by
 have bG:=aJ.lt;obtain⟨au,aG,st⟩:=p;have aF:=(Below.refl w.heap.size w).alloc O6 (.cells #[Ol au,Ol aG,OC st,.pointer aB] 73);have cZ:=(aJ.later aF);have cu:=(O5.of (L:=none) aF (O0 bG));obtain⟨cV,dP,c3,_⟩:=hd.ar;rw[E] at c3;have nn:=hd.cells.1;obtain⟨q,ag⟩:=xE a.p;rw[<-ag] at c3 nn ⊢;clear ag;go_enter func108,ntmps108;go_wp2_with fail;exact UU (v:=Qp) ⟨⟨_,rfl,rfl⟩,cZ,cu⟩
theorem adY (E:d.2.kids.length<=1){u:OG}(aa:TA 0 w u a.ks)(p:Pl)(aB:Option Addr)(h1:∀ fX ∈ P9 d,Ub w0 mb af O es σ fX p (F.v fX p σ)) :
  OE 114 #[Oo mb,u,PU p aB] w (O3 w0 mb af O es w (Vl F (P9 d) p σ)):=by
 have ft:=hd.ndl;have cM:=hd.ks;have mA:=Si d;obtain⟨c9,fk⟩:=xE a.ks;obtain⟨a6,hds⟩:=xE (P9 d);rw[<-fk] at aa ft cM;rw[<-hds] at ft mA h1 ⊢;clear fk hds
 match c9,a6,aa,ft,h1 with
 | [],[],aa,_,_=>exact ai5 aJ aa p aB
 | [k],[fX],aa,ft,h1=>exact agW aJ aa ft.1 p aB (h1 fX O8)
 | [],_::_,_,ft,_=>exact ft.elim
 | _::_,[],_,ft,_=>exact ft.elim
 | _::_::_,_,_,_,_=>simp at cM;omega
 | [_],_::_::_,_,ft,_=>exact ft.2.elim
end
def asE (ac:Zp es)(aJ:Ms w0 mb af O w σ){a:Ad}{d:Nd}(hd:OY O w a d)(E:d.2.kids.length<=1)(p:Pl)(aB:Option Addr)(h1:∀ fX ∈ P9 d,Ub w0 mb af O es σ fX p (F.v fX p σ))(cn:∀ v1 σ1,Vl F (P9 d) p σ=((v1,.no),σ1)->Sz N σ1)(hN:N<1000000000) :
  OE 109 #[Oo mb,Oo a.p,PU p aB] w (EPost w0 mb af O es w (aci d p (Vl F (P9 d) p σ))):=by
 have bG:=aJ.lt;have z:=Oq (∀{G}(h:G:=by
 have dx:w.heap.size<=bf:=Ou;have z:=Oq (∀{G}(h:G:=by
 have b8:=hide be;have ei:=hide (cells4 be);have z:=Oq (∀{G}(h:G:=by
 obtain⟨cV,dP,c3,hrow⟩:=cU.ar;obtain⟨n,az⟩:=xE d.2.kids.length;rw[<-az] at c3 hrow;obtain⟨q,ag⟩:=xE a.p;have bJ:=hide (fun X (ak:OD w2 X)=>adY (cZ.later ak) (cU.kp (Kp.of ak)) E (hrow.later ak) ⟨au,aG,st⟩ aB h1)
 rcases aa:Vl F (P9 d) ⟨au,aG,st⟩ σ with ⟨⟨v1,ay⟩,σ1⟩
 rw[aa] at bJ;obtain⟨tx,lM⟩:=xH d.2.tx;obtain⟨rs,bB⟩:=xH (aci d ⟨au,aG,st⟩ ((v1,ay),σ1));rw[<-bB.out];have bW:=hide aa;have sf:=hide cn;have fT:=cU.cells.2.2.1;rw[<-lM.out] at fT;have hblk:=cU.blk;rw[<-ag] at c3 dz fT hblk ⊢;have eF:=hide c3;have mQ:=hide fT;have iH:=hide hblk;clear be aa ag h1 dx cn fT hblk c3 az E;go_enter func109,ntmps109;go_wp2_with fail;rw[<-bu.out,<-bV];clear bV;refine VN (H:=fun wz vb ev=>VB w0 mb af O es w2 v1 ay σ1 wz vb ev) (G:=?GG) (fun dJ=>?ways) ?rest
 case ways=>
  refine TI 6 fun ab=>?_;have z:=Oq (∀{G}(h:G:=by
  refine uk 4 eF.out ab ?_;refine uk4 5 ei.out ab ?_;refine uq2 6 10 (fun K A=>?_) fun K A=>?_
  ·have z:=Oq (∀{G}(h:G:=by
   refine uz 7 (.tuple #[(vA v1),ev]) ?_;refine uz 8 (vA v1) ?_;refine uz 9 ev ?_;refine P5 10 fun K A=>?_;go_simp;refine ko A ?_;clear A K;refine P5 11 fun K A=>?_;go_simp;refine ko A ?_;clear A K;refine uz 12 ev ?_;exact aBx),G);exact asw
  ·have z:=Oq (∀{G}(h:G:=by
   have fp:aE.heap[w2.heap.size]? = some (O1 #[Ol 0,Ol 0,PN] 65):=ah.keep (OA _ _) Oz;obtain⟨z0,mJ,z2,mK,mL,mM,zl⟩:=O7 fp;refine uz 7 (.tuple #[(vA v1),ev]) ?_;refine uz 8 (vA v1) ?_;refine uz 9 ev ?_;refine P5 11 fun K A=>?_;go_simp;refine ko A ?_;clear A K;refine uz 12 ev ?_;exact aBG),G);exact aBH),G);exact Ws
 rintro wz vb ev aV;have ea:=aV.ms.lt;have cY:O5 none mb w wz:=cu.trans aV.fr;have eR:=hide (aV.fr.keep b8.out Oz)
 by_cases aq:ay=.no
 ·subst aq;have bv:ev=Qp:=aV.er;subst bv;have b9:=Om sf v1 σ1 bW.out;obtain⟨cs,fH⟩:=xE ((σ1.M.start au tx v1).1);obtain⟨cy,ge⟩:=xE ({ σ1 with M:=(σ1.M.start au tx v1).2 }:St);have aK:rs=(erP cs,cy):=by rw[bB.out,fH,ge,lM.out];rfl
  have cI:=hide aK;have gf:=hide (aiW σ1.M au tx v1);rw[<-fH] at gf;have kE:Hid (∀ X,OD wz X->OE 198 #[Oo mb,Ol au,OB tx,vA v1] X fun e w'=>e=OQ (Ur cs)/\Ms w0 mb af O w' cy/\Py Th mb X w'):=fun X ak=>by
   obtain⟨_,_,_,_,ae⟩:=aV.ms.later ak;refine(asa ae.hh b9.go.sm (O0 hN) au tx v1).mono ?_;rintro e w' ⟨rfl,U,aw⟩;rw[fH,ge];exact⟨rfl,⟨_,_,_,_,ae.heap U aw⟩,aw⟩
  have gh:=hide (cells3 aV.v);have r7:=hide (cells4 eR.out);have oh:=hide (aV.fr.UD.Ui mQ.out iH.out (Or.inl rfl));have hf:=cell_lt oh.out;have iX:=lt_of_heap eR.out;have EW:=lt_of_heap aV.v;clear fH ge aK;go_wp2_with fail;refine TI 10 fun ab=>?_;have z:=Oq (∀{G}(h:G:=by
  refine up 3 bf 0 ab ?_;refine uk 4 (r7.out.1) ab ?_;refine up 5 q 0 ab ?_;refine up 6 q 0 ab ?_;refine up 7 q 1 ab ?_;refine uk 8 oh.out ab ?_;refine uk3 9 gh.out ab ?_;refine P5 10 fun K A=>?_;go_simp;refine cm (Om kE _ ab) ?_;rintro e dM ⟨rfl,qm,ql⟩;refine ko A ?_;clear A K;have kf:=(cY.trans ((O5.of (L:=none) ab (O0 ea)).trans (O5.ofT ql)));refine uz 11 (Ur cs) ?_;refine Sl ?_ _;go_simp;go_wp2_with fail;refine UU (v:=Ur cs) ?_;rw[cI.out];exact⟨⟨_,rfl,aoT gf.out⟩,qm,kf⟩),G);exact Un
 ·exact awT),G);exact zsl),G);exact ax1),G);exact zss
