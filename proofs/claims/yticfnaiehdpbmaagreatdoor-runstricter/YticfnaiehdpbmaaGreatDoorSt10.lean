import Derived.Test.YticfnaiehdpbmaaGreatDoorSt9
import Derived.Lib.AppendIntMem
import Derived.Lib.ItoaLen
set_option maxRecDepth 100000
set_option maxHeartbeats 8000000
set_option linter.all false
namespace Go.Proofs.YticfnaiehdpbmaaGreatDoor
open Go.RowKit Go.Proofs.Tryz
namespace Hp
section
variable {w0:Og} {mb af:Nat} {O:List Nat} {w w':Og} {σ:St} {L:Option Nat} {aV:Nat} {x y bB u:Ot} {t:TypeId}
theorem O3 (h:w.heap[aV]? = some (OM #[x,y,bB] t)):w.cell? (N9 aV 0)=some x/\w.cell? (N9 aV 1)=some y/\w.cell? (N9 aV 2)=some bB/\w.frozen? (N9 aV 0)=false/\w.frozen? (N9 aV 1)=false/\w.frozen? (N9 aV 2)=false/\aV<w.heap.size:=by
 have⟨h0,h1,U,f,l⟩:=cells3 h;exact⟨h0,h1,U,f 0,f 1,f 2,l⟩
theorem QK (h:w.heap[aV]? = some (OM #[x,y,bB,u] t)):w.cell? (N9 aV 0)=some x/\w.cell? (N9 aV 1)=some y/\w.cell? (N9 aV 2)=some bB/\w.cell? (N9 aV 3)=some u/\w.frozen? (N9 aV 0)=false/\w.frozen? (N9 aV 1)=false/\w.frozen? (N9 aV 2)=false/\w.frozen? (N9 aV 3)=false/\aV<w.heap.size:=by
 have⟨h0,h1,U,av,f,l⟩:=cells4 h;exact⟨h0,h1,U,av,f 0,f 1,f 2,f 3,l⟩
theorem rt3 (aa:w'.heap[aV]? = some (OM #[x,y,bB] t))(hw:w.heap.size<=aV)(aR:mb<w.heap.size)(ah:OV L mb w w')(aJ:Ms w0 mb af O w' σ)(X Y Z:Ot)(aZ:∀ e ∈ [t],e ∉ Tm/\e≠40/\e≠22:=by decide) :
  ∃ b3,b3=((w'.setCell (N9 aV 0) X).setCell (N9 aV 1) Y).setCell (N9 aV 2) Z/\O8 [t] mb w' b3/\OV L mb w b3/\Ms w0 mb af O b3 σ/\b3.cell? (N9 aV 0)=some X/\b3.cell? (N9 aV 1)=some Y/\b3.cell? (N9 aV 2)=some Z:=by
 have aF:=RF aa (show mb<=aV by omega) X Y Z;have⟨cK,b1,bU,_,_⟩:=cells3 (aag aa X Y Z);exact⟨_,rfl,aF,ah.newT aF (Ub hw _ _ _),aJ.YC aF aZ,cK,b1,bU⟩
theorem rt4 (aa:w'.heap[aV]? = some (OM #[x,y,bB,u] t))(hw:w.heap.size<=aV)(aR:mb<w.heap.size)(ah:OV L mb w w')(aJ:Ms w0 mb af O w' σ)(X Y Z xI:Ot)(aZ:∀ e ∈ [t],e ∉ Tm/\e≠40/\e≠22:=by decide) :
  ∃ b3,b3=(((w'.setCell (N9 aV 0) X).setCell (N9 aV 1) Y).setCell (N9 aV 2) Z).setCell (N9 aV 3) xI/\O8 [t] mb w' b3/\OV L mb w b3/\Ms w0 mb af O b3 σ/\b3.cell? (N9 aV 0)=some X/\b3.cell? (N9 aV 1)=some Y/\b3.cell? (N9 aV 2)=some Z/\b3.cell? (N9 aV 3)=some xI:=by
 have aF:=Ud aa (show mb<=aV by omega) X Y Z xI;have⟨cK,b1,bU,ej,_,_⟩:=cells4 (aai aa X Y Z xI);exact⟨_,rfl,aF,ah.newT aF (UR hw _ _ _ _),aJ.YC aF aZ,cK,b1,bU,ej⟩
variable {es aT aB aA aK:Ot}{N:Nat}
section
variable (a1:Bs w0 mb af O es) (ac:Mx w0 mb af O aT aB aA aK w σ) (aH:Sz N σ) (hN:N<1000000000) {a:Ad} {d:Nd} (hd:OJ O w a d) (p:Pl) (aC:Option Addr)
include a1 ac aH hN a d hd p aC
theorem aah (gL:d.1=none) :
  Oq 291 #[N7 mb,N7 a.p,PD p aC] w fun e w'=>e=OA (NY (σ.M.find p.scope d.2.tx))/\Ms w0 mb af O w' σ/\OV none mb w w':=by
 have bG:=ac.lt;have z:=N8 (∀{G}(h:G:=by
 have z:=N8 (∀{G}(h:G:=by
 have⟨kS,mC⟩:=xE (σ.M.find au tx);have dC:σ.M.find (Pl.mk au aG st).scope d.2.tx=kS:=by rw[<-cB,mC]
 rw[dC];rw[<-mC] at hr;clear dC mC;have m1:=hide gL;clear bb cB gL;have z:=N8 (∀{G}(h:G:=by
 have z:=N8 (∀{G}(h:G:=by
 have z:=N8 (∀{G}(h:G:=by
 refine uz 10 (NY kS) ?_;refine RY ?_ _;have f8:(Instr.lookup 80 (.map (some af)) (N7 q) true).run prog aq=.ok (.tuple #[(NY 0),Om false]) aq:=by
  rw[ku];unfold noV;rw[m1.out];rfl
 clear ku;go_simp;go_wp2;go_ret;exact⟨rfl,⟨_,_,_,_,eF⟩,cT⟩),G);exact awd),G);exact TI),G);exact awe),G);exact awf),G);exact zss
theorem aoP {k:Nat}(gL:d.1=some k)(ab:σ.M.find p.scope d.2.tx = -1) :
  Oq 291 #[N7 mb,N7 a.p,PD p aC] w fun e w'=>e=OA (NY (σ.M.find p.scope d.2.tx))/\Ms w0 mb af O w' σ/\OV none mb w w':=by
 have bG:=ac.lt;have z:=N8 (∀{G}(h:G:=by
 have z:=N8 (∀{G}(h:G:=by
 have dC:σ.M.find au tx = -1:=by rw[cB];exact ab
 rw[ab];rw[dC] at hr;clear dC ab;have m1:=hide gL;clear bb cB gL;have z:=N8 (∀{G}(h:G:=by
 have z:=N8 (∀{G}(h:G:=by
 have z:=N8 (∀{G}(h:G:=by
 refine uz 10 (NY (-1)) ?_;have z:=N8 (∀{G}(h:G:=by
 go_ret;exact⟨rfl,⟨_,_,_,_,eF⟩,cT⟩),G);exact aAU),G);exact awd),G);exact TI),G);exact awe),G);exact awf),G);exact zss
theorem aoQ {k i:Nat}(gL:d.1=some k)(ab:σ.M.find p.scope d.2.tx=i)(az:i<σ.M.Ov.length) :
  Oq 291 #[N7 mb,N7 a.p,PD p aC] w fun e w'=>e=OA (NY (σ.M.find p.scope d.2.tx))/\Ms w0 mb af O w' { σ with seen:=σ.seen++[((k:Int),σ.Qw.getD i 0)] }/\OV none mb w w':=by
 have bG:=ac.lt;have z:=N8 (∀{G}(h:G:=by
 have z:=N8 (∀{G}(h:G:=by
 have dC:σ.M.find au tx=i:=by rw[cB];exact ab
 rw[ab];rw[dC] at hr;clear dC ab;have⟨x,CM⟩:=xH (σ.Qw.getD i 0);rw[<-CM.out];have m1:=hide gL;have gC:=hide az;clear bb cB gL az;have z:=N8 (∀{G}(h:G:=by
 have z:=N8 (∀{G}(h:G:=by
 have z:=N8 (∀{G}(h:G:=by
 refine uz 10 (NY (i:Int)) ?_;have z:=N8 (∀{G}(h:G:=by
 have⟨i0,dW,dw,b8,cn⟩:=info_parts av9;have n5:i<σ.Qw.length:=by rw[aH.oe];exact NZ gC
 have qH:=eF.se;have l0:=eF.ow;have⟨g9,NI,jS⟩:=OG qH;have⟨EU,iJ,qE,_,_⟩:=l0.form Oe;have pK:aq.cell? (N9 EU i)=some (NY (σ.Qw.getD i 0)):=by
  rw[qE] at l0;rw[l0.cellAt i Oe];simp[List.getElem?_map,List.getElem?_eq_getElem n5]
 obtain⟨c6,_⟩:=eF.hh.at_ 4 _ rfl;obtain⟨vH,_⟩:=eF.hh.at_ 6 _ rfl;have⟨n,j1⟩:=xH σ.seen.length;have⟨m,aR⟩:=xE σ.Qw.length;have MF:n<=1000000000:=by rw[j1.out];exact OO (Nat.lt_of_le_of_lt aH.se hN)
 rw[<-aR] at qE n5;rw[<-j1.out] at jS;rw[<-CM.out] at pK;subst jS qE;have Mk:(i:Int)<(m:Int):=Oe;have Fh:=hide c6;have Fi:=hide vH;have om:=hide pK;clear c6 vH pK aR xQ f8;refine S9 16 fun ae=>?_;have z:=N8 (∀{G}(h:G:=by
 refine up 3 mb 2 ae ?_;refine up 4 mb 6 ae ?_;refine uk 5 Fh.out ae ?_;refine uh 6 (NY (k:Int)) (ae) ?_;refine up 7 mb 0 ae ?_;refine up 8 mb 0 ae ?_;refine up 9 mb 8 ae ?_;refine uk 10 Fi.out ae ?_;refine uh 11 (NY (i:Int)) (ae) ?_;refine up 12 EU i ae ?_;refine uk 13 om.out ae ?_;refine uh 14 (.agg #[NY (k:Int),NY x]) (ae) ?_;refine PS 15 fun K D=>?_;go_simp;refine D.out _ _ (fun _=>(QI.drew.alloc OW _)) ?_;clear D K;refine PS 16 fun K D=>?_
 have oD:=(eF.later (w':=aq.drew.alloc (.cells #[NY (k:Int),NY x] 54)) (QI.drew.alloc OW _));have qH:=oD.se;rw[<-j1.out] at qH;refine step_append_lies _ rfl _ _ 27 rfl mb 54 i0 _ 2 16 underlying27 dW dw b8 cn rfl Ol _ _ _ rfl qH (N9 aq.heap.size 0) 1 1 [NY (k:Int),NY x] rfl rfl (aoM aq.drew _ rfl k x) (awc k x) Ol (by unfold maxLen;omega) Oe QY (aq.heap.size+1) OW ?_
 intro hE iz bD hown4 nh pL AB;refine ko D ?_;clear D K;obtain⟨jh,hJ⟩:=oD.aAS ((k:Int),x) (sv':=.slice (some (N9 hE 0)) (n+1) iz) nh (by rw[<-j1.out];exact hown4)
 obtain⟨Lb,Ly⟩:=(oD.hh.keep (T:=[54]) (B:=mb) (w':=bD) (O8.grown nh QY fun k E=>by
  have⟨c,ai⟩:=PW qH E;exact⟨(qH.lt k E).1,c,54,ai,by simp⟩) Ol Ol Ol Ol Ol).at_ 4 _ rfl
 have g':=(cT.trans ((OV.of (L:=none) ((Below.refl _ aq).drew.alloc OW _) (OO fQ)).trans hJ));have gz:mb<bD.heap.size:=by have:=nh.size;simp at this;omega
 clear pL AB;refine uz 17 (Oy mb 0) ?_;refine uz 18 (Oy mb 2) ?_;refine uz 19 (Oy mb 6) ?_;refine PS 20 fun K D=>?_;go_simp;refine ko D ?_;clear D K;refine RY ?_ _;go_simp;go_wp2;go_ret;exact⟨rfl,⟨_,_,_,_,jh⟩,g'⟩),G);exact TI),G);exact aAU),G);exact awd),G);exact TI),G);exact awe),G);exact awf),G);exact zss
end
theorem aoR (a1:Bs w0 mb af O es)(aJ:Ms w0 mb af O w σ)(aH:Sz N σ)(hN:N<1000000000){a:Ad}{d:Nd}(hd:OJ O w a d)(p:Pl)(aC:Option Addr) :
  Oq 291 #[N7 mb,N7 a.p,PD p aC] w fun e w'=>e=OA (NY (look d p σ).1)/\Ms w0 mb af O w' (look d p σ).2/\OV none mb w w':=by
 obtain⟨aT,aB,aA,aK,ac⟩:=aJ
 cases gL:d.1 with
 | none=>
  have aw:look d p σ=(σ.M.find p.scope d.2.tx,σ):=by unfold look;rw[gL]
  rw[aw];exact aah a1 ac aH hN hd p aC gL
 | some k=>
  rcases asw σ.M p.scope d.2.tx with ab|⟨i,ab,az⟩
  ·have aw:look d p σ=(σ.M.find p.scope d.2.tx,σ):=by unfold look;rw[gL,ab];rfl
   rw[aw];exact aoP a1 ac aH hN hd p aC gL ab
  ·have aw:look d p σ=(σ.M.find p.scope d.2.tx,{ σ with seen:=σ.seen++[((k:Int),σ.Qw.getD i 0)] }):=by
    unfold look;rw[gL,ab];simp
   rw[aw];exact aoQ a1 ac aH hN hd p aC gL ab az
def adJ (d:Nd)(p:Pl)(σ:St):(Va × Er) × St:=
 let r:=look d p σ
 let x:=r.2.M.read r.1 d.2.tx
 if x.2=0 then ((x.1,.no),r.2) else ((vU,bad QN),r.2)
theorem Sz.look {N:Nat}{σ:St}(h:Sz N σ)(d:Nd)(p:Pl):Sz (N+1) (look d p σ).2:=by
 unfold Hp.look;simp only
 split
 ·split
  ·exact⟨h.go.up (Nat.le_succ _),Nat.le_succ_of_le h.ow,Nat.le_succ_of_le h.fn,Nat.le_succ_of_le h.lg,by have:=h.se;simp;omega,h.oe⟩
  ·exact h.up (Nat.le_succ _)
 ·exact h.up (Nat.le_succ _)
theorem UQ (_:mb<w.heap.size)(s:Ou):Oq 269 #[Oj s] w fun e w'=>(∃ ev,e=OA ev/\WZ es w' ev (bad s))/\Oo w w':=by
 refine(WW s w).mono ?_;rintro e w' ⟨⟨b,rfl,_,A⟩,U⟩;exact⟨⟨_,rfl,b,rfl,A⟩,U⟩
theorem Kp.XG (h:Kp w w'){q j:Nat}{v:Ot}(ai:w.cell? (N9 q j)=some v)(ag:∃ c,w.heap[q]? = some (OM c 40)):w'.cell? (N9 q j)=some v:=by
 obtain⟨c,ag⟩:=ag;have U:w'.heap[q]? = w.heap[q]?:=(h q c 40 ag (Or.inl rfl)).trans ag.symm;exact(World.cell?_of_block (w:=w) (a:=(N9 q j)) U).trans ai
theorem awg (a1:Bs w0 mb af O es)(aJ:Ms w0 mb af O w σ)(aH:Sz N σ)(hN:N+1<1000000000){a:Ad}{d:Nd}(hd:OJ O w a d)(p:Pl)(aC:Option Addr) :
  Oq 256 #[N7 mb,N7 a.p,PD p aC] w (OQ w0 mb af O es w (adJ d p σ)):=by
 have z:=N8 (∀{G}(h:G:=by
 have cR:=hd.kp (Kp.of aE);have hr:=hide (fun X (ak:Oo w2 X)=>aoR a1 ((aJ.later aE).later ak) aH Oe (cR.kp (Kp.of ak)) ⟨au,aG,st⟩ aC);have⟨kD,gj⟩:=xE ((look d ⟨au,aG,st⟩ σ).1);have⟨σ1,h8⟩:=xE ((look d ⟨au,aG,st⟩ σ).2);have⟨tx,cB⟩:=xE d.2.tx;have⟨v1,uD⟩:=xE ((σ1.M.read kD tx).1);have⟨c1,fN⟩:=xE ((σ1.M.read kD tx).2);have b8:=aH.look d ⟨au,aG,st⟩;rw[<-gj,<-h8] at hr;rw[<-h8] at b8;have aw:adJ d ⟨au,aG,st⟩ σ=if c1=0 then ((v1,.no),σ1) else ((vU,bad QN),σ1):=by
  unfold adJ;simp only;rw[<-gj,<-h8,<-cB,<-uD,<-fN]
 rw[aw];have⟨cS,bA⟩:=xH (if c1=0 then ((v1,Er.no),σ1) else ((vU,bad QN),σ1));rw[<-bA.out];have hU:Hid (∀ X,Ms w0 mb af O X σ1->Oq 290 #[N7 mb,NY kD,Oj tx] X fun e w'=>e=OA (.tuple #[vA v1,TT c1])/\Oo X w'):=fun X ak=>by
  obtain⟨_,_,_,_,ac⟩:=ak;have h:=avZ ac.hh b8.go.sm (OO hN) kD tx;rw[<-uD,<-fN] at h;exact h
 have cU:=(aJ.later aE);have e4:Hid (w2.heap[bc]? = some (plO ⟨au,aG,st⟩ aC)/\w2.cell? (N9 a.p 1)=some (Oj tx)):=⟨bb,by rw[cB];exact cR.cells.2.2.1⟩
 have lI:=hide cR.blk;have cG:=(OV.of (L:=none) aE (OO bG));have bq:=hide hr2;have cQ:=hide cE;have⟨q,ag⟩:=xE a.p;have ds:=cR.cells.1;rw[<-ag] at e4 hr lI ds ⊢;have dk:=cU.lt;have hpl2:=lt_of_heap bb;clear bb hr2 ag cB aw gj h8 uD fN cE dq d2;go_enter func256,ntmps256;go_wp2_with fail;rw[<-bo.out,<-b4,<-bS];clear bS b4;refine VG (H:=fun wz vb ev=>VB w0 mb af O es w2 v1 .no σ1 wz vb Qd/\ev=TT c1) (G:=?GG) (fun dD=>?ways) ?rest
 case ways=>
  have ae:(fun X=>X.heap[bc]? = some (plO ⟨au,aG,st⟩ aC)/\X.cell? (N9 q 1)=some (Oj tx)) w2.drew:=NZ e4;have Dl:Oo w2 w2.drew:=QI.drew;refine Qs 11 (fun X=>X.heap[bc]? = some (plO ⟨au,aG,st⟩ aC)/\X.cell? (N9 q 1)=some (Oj tx)) Pe ?_;refine up 0 mb 0 ae ?_;refine up 1 mb 0 ae ?_;refine up 2 mb 0 ae ?_;refine up 3 mb 0 ae ?_;refine up 4 q 0 ae ?_
  refine uc 5 (.agg #[NY au,NY aG,Om st,.pointer aC]) rfl (Or.inl ⟨by kernel_rfl,fun X ak=>by have h0:=(cells4 ak.1).1;have h1:=(cells4 ak.1).2.1;have U:=(cells4 ak.1).2.2.1;have av:=(cells4 ak.1).2.2.2.1;go_simp⟩) (ae) ?_
  refine up 7 q 0 ae ?_;refine up 8 q 0 ae ?_;refine up 9 q 1 ae ?_;refine uc 10 (Oj tx) rfl (Or.inl ⟨by kernel_rfl,fun X ak=>by have h0:=ak.2;go_simp⟩) (ae) ?_
  refine uq2 6 15 (fun K D=>?_) fun K D=>?_
  ·go_simp;refine cm (NZ hr _ (Dl)) ?_;rintro e aq ⟨rfl,eu,f5⟩;have sM:=(OV.of (Dl) (OO dk)).trans f5;have z:=N8 (∀{G}(h:G:=by
   refine uq2 11 15 (fun K D=>?_) fun K D=>?_
   ·go_simp;refine cm (NZ hU _ (eu)) ?_;rintro e aD ⟨rfl,dc⟩;refine ko D ?_;clear D K;refine uz 12 (.tuple #[(vA v1),(TT c1)]) ?_;refine uz 13 (vA v1) ?_;refine uz 14 (TT c1) ?_;refine PS 15 fun K D=>?_;go_simp;refine ko D ?_;clear D K;refine PS 16 fun K D=>?_;go_simp;refine ko D ?_;clear D K;refine uz 17 (TT c1) ?_;refine RY ?_ _;go_simp;have cj:=VB.late (v:=v1) (es:=es) (e:=.no) (ev:=Qd) rfl (eu.later dc) (sM.trans (OV.of dc (OO eu.lt)))
    generalize aD.alloc (.cells #[NY v1.k,NY v1.n,Oj v1.s] 65)=wz at cj ⊢
    generalize aD.heap.size=vb at cj ⊢
    exact awi
   ·go_simp;have bn:=(Below.refl _ aq).alloc Pg (.cells #[NY 0,NY 0,Pm] 65);refine D.out _ _ (fun _=>⟨stays bn sN.1,OT bn sN.2⟩) ?_;clear D K;refine PS 11 fun K D=>?_;go_simp;refine cm (NZ hU _ (eu.later bn)) ?_;rintro e aD ⟨rfl,dc⟩;refine ko D ?_;clear D K;have fi:aD.heap[aq.heap.size]? = some (OM #[NY 0,NY 0,Pm] 65):=(dc.block _ OW).trans (Oi aq _);have z:=N8 (∀{G}(h:G:=by
    have cj:=VB.early (v:=v1) (es:=es) (e:=.no) (ev:=Qd) fi sM.below.size (OO dk) rfl ((eu.later bn).later dc) (sM.trans ((OV.of bn (OO eu.lt)).trans (OV.of dc (by simp;have:=eu.lt;omega))))
    generalize ((aD.setCell (N9 aq.heap.size 0) (NY v1.k)).setCell (N9 aq.heap.size 1) (NY v1.n)).setCell (N9 aq.heap.size 2) (Oj v1.s)=wz at cj ⊢
    generalize aq.heap.size=vb at cj ⊢
    exact awi),G);exact aAV),G);exact aAW
  ·go_simp;have bZ:Oo w2 (w2.alloc (.cells #[NY 0,NY 0,Pm] 65)).drew:=PE.drew;refine D.out _ _ (fun _=>⟨stays bZ e4.out.1,OT bZ e4.out.2⟩) ?_;clear D K;refine PS 6 fun K D=>?_;go_simp;refine cm (NZ hr _ (bZ)) ?_;rintro e aq ⟨rfl,eu,f5⟩;have sM:=(OV.of (bZ) (OO dk)).trans f5;have z:=N8 (∀{G}(h:G:=by
   have JE:aq.heap[w2.heap.size]? = some (OM #[NY 0,NY 0,Pm] 65):=f5.keep (Oi _ _) Ol;refine PS 11 fun K D=>?_;go_simp;refine cm (NZ hU _ (eu)) ?_;rintro e aD ⟨rfl,dc⟩;refine ko D ?_;clear D K;have fi:aD.heap[w2.heap.size]? = some (OM #[NY 0,NY 0,Pm] 65):=stays dc JE;have z:=N8 (∀{G}(h:G:=by
   have cj:=VB.early (v:=v1) (es:=es) (e:=.no) (ev:=Qd) fi Pg (OO dk) rfl (eu.later dc) (sM.trans (OV.of dc (OO eu.lt)))
   generalize ((aD.setCell (N9 w2.heap.size 0) (NY v1.k)).setCell (N9 w2.heap.size 1) (NY v1.n)).setCell (N9 w2.heap.size 2) (Oj v1.s)=wz at cj ⊢
   generalize w2.heap.size=vb at cj ⊢
   exact awi),G);exact aAV),G);exact aAW
 case rest=>
  rintro wz vb ev ⟨a7,rfl⟩;have z:=N8 (∀{G}(h:G:=by
  have⟨fB,cy,dO,ip,iq,ir,ia⟩:=O3 (a7.v);have bL:=N8 (∀{G}(h:G:=by
  have hF:OV none mb w wz:=cG.trans a7.fr;clear dj
  by_cases h0:c1=0
  ·subst h0;rw[adK];go_wp2_with fail;have⟨b3,bz⟩:=xE (((wz.setCell (N9 aV 0) (NY v1.k)).setCell (N9 aV 1) (NY v1.n)).setCell (N9 aV 2) (Oj v1.s));rw[<-bz];have ea:=aag ed.out (NY v1.k) (NY v1.n) (Oj v1.s);have hi:mb<=aV:=by have:=NZ cQ;omega
   have bh:=RF ed.out hi (NY v1.k) (NY v1.n) (Oj v1.s);have bI:=hF.newT bh (Ub cQ.out _ _ _);have bE:=a7.ms.YC bh Ol;rw[<-bz] at ea bI bE;have⟨cK,b1,bU,_,_⟩:=cells3 ea;refine WB (v:=.tuple #[vA v1,Qd]) ?_;rw[bA.out,if_pos trivial];exact⟨⟨_,rfl,rfl⟩,bE,bI⟩
  ·rw[aeb h0];have cD:=hide h0;clear h0;go_wp2_with fail;refine cm (UQ (es:=es) eW QN) ?_;rintro e gV ⟨⟨ev,rfl,aL⟩,g6⟩;have nN:=hide (stays g6 ed.out);have ox:=(a7.ms.later g6);have oq:=(hF.trans (OV.of (L:=none) g6 (OO eW)));have⟨hM,gW,gX,iK,iL,iM,hO⟩:=O3 nN.out;clear cS bY cg dJ dK dL rl;have z:=N8 (∀{G}(h:G:=by
   rw[bA.out,if_neg cD.out];exact⟨⟨_,rfl,aL.Qn bh Ol⟩,bE,bI⟩),G);exact asx),G);exact ztz),G);exact asy),G);exact zsb
variable {w2:Og}
theorem Mx.calls (ac:Mx w0 mb af O aT aB aA aK w σ)(c:Nat):Mx w0 mb af O aT aB aA aK (w.setCell (N9 mb 10) (NY (c:Int))) { σ with calls:=c }/\O8 [84] mb w (w.setCell (N9 mb 10) (NY (c:Int))):=by
 have⟨hh,aF⟩:=ac.hh.cell 8 (NY (c:Int));have gg:O8 Th mb w (w.setCell (N9 mb 10) (NY (c:Int))):=⟨aF.below,fun b c e A ao=>aF.rest b c e A (fun h=>ao (by rw[List.mem_singleton.1 h];decide))⟩
 obtain⟨d9,h1,U,av⟩:=ac.fu;exact⟨⟨ac.bw.trans gg.below,hh,OH ac.lg gg Ol,OH ac.se gg Ol,OH ac.ow gg Ol,d9,h1,OH U gg Ol,fun i a f ay hg=>(av i a f ay hg).kp (O8.kp gg)⟩,aF⟩
theorem aw3 (A:Nat)(c:Nat)(u:FrameMode)(w:Og)(ai:w.cell? (N9 A 0)=some (Oy mb 0))(aR:w.cell? (N9 mb 10)=some (NY ((c+1:Nat):Int)))(aF:w.frozen? (N9 mb 10)=false)(dE:c<=40) :
  CallsD prog 338 #[Oy A 0] u w fun e fV w'=>fV=u/\(e=OA (.tuple #[])/\w'=w.setCell (N9 mb 10) (NY (c:Int))):=by
 go_enter_d func338,ntmps338
 go_wp2
 go_end0
 exact⟨rfl,rfl⟩
def aeY (w X:Og):Prop:=∀ (b:Nat) c (e:TypeId),w.heap[b]? = some (OM c e)->e≠84->X.heap[b]? = some (OM c e)
theorem amw (ac:Mx w0 mb af O aT aB aA aK w σ)(dE:σ.calls<40){F:Nat}{caps:Array Ot}(pJ:VH F){r:(Va × Er) × St}(aa:r.2.calls=σ.calls+1)
  (xU:∀ X,Mx w0 mb af O aT aB aA aK X { σ with calls:=σ.calls+1 }->aeY w X->w.heap.size<=X.heap.size->Oq F caps X (OQ w0 mb af O es X r)) :
  Oq 319 #[N7 mb,.func (.func F) #[] caps] w (OQ w0 mb af O es w (r.1,{ r.2 with calls:=r.2.calls - 1 })):=by
 have jx:=Yc;have bG:=ac.lt;have⟨uE,hf⟩:=ac.calls (σ.calls+1);have⟨w1,tQ⟩:=xH (w.setCell (N9 mb 10) (NY ((σ.calls:Int)+1)));have aw:((σ.calls+1:Nat):Int)=(σ.calls:Int)+1:=by push_cast;rfl
 rw[aw,<-tQ.out] at uE hf;have da:w1.heap.size=w.heap.size:=by rw[tQ.out];simp
 have⟨w2,bo⟩:=xH ((w1.alloc (.cells #[N7 mb] 62)).alloc (.cells #[NY 0,NY 0,Pm] 65));have aE:Oo w1 w2:=by rw[bo.out];exact PE.alloc OW _
 have⟨bc,j2⟩:=xH w.heap.size;have⟨aV,dS⟩:=xH (w.heap.size+1);have bb:w2.heap[bc]? = some (OM #[N7 mb] 62):=by rw[bo.out,j2.out,<-da];exact alloc_old (Oi _ _)
 have hr2:w2.heap[aV]? = some (OM #[NY 0,NY 0,Pm] 65):=by
  rw[bo.out,dS.out,<-da,show w1.heap.size+1=(w1.alloc (.cells #[N7 mb] 62)).heap.size by simp];exact Oi _ _
 have eC:=uE.later aE;have bC:aeY w w2:=fun b c e A ao=>by
  rw[aE.block b (by rw[da];exact lt_of_block A)]
  exact hf.rest b c e A (by simpa using ao)
 have hsz2:w.heap.size<=w2.heap.size:=by rw[<-da];exact aE.size
 have Aa:OV none mb w w2:=(OV.ofT (L:=none) (⟨hf.below,fun b c e A ao=>hf.rest b c e A (fun h=>ao (by rw[List.mem_singleton.1 h];decide))⟩:O8 Th mb w w1)).trans (OV.of aE (by rw[da];exact OO bG))
 have d7:=(xU w2 eC bC hsz2);obtain⟨sG,t6⟩:=ac.hh.at_ 8 _ rfl;have cC:(σ.calls:Int)≠40:=Oe;have L9:(σ.calls:Int)<40:=Oe;have gf:(0:Int)<=(σ.calls:Int):=Oe;have Ej:r.2.calls=σ.calls+1:=aa;have⟨v1,oC⟩:=xH r.1.1;have⟨rs,fM⟩:=xH ((r.1,{ r.2 with calls:=r.2.calls - 1 }):(Va × Er) × St);rw[<-fM.out];have dz:=hide Ej;have b7:=hide bb;have bq:=hide hr2;clear xU aa bb hr2 hsz2 da aw Ej dE
 go_enter_defers func319,ntmps319
 go_wp2_with fail;rw[<-tQ.out,<-bo.out,<-dS.out,<-j2.out];clear sG t6;refine cm d7 ?_;rintro e aq ⟨⟨ev,rfl,aL⟩,aJ,ah⟩;rw[<-oC.out];have dg:=hide (ah.keep bq.out Ol);have fk:=hide (ah.keep b7.out Ol);have cT:=(Aa.trans ah);have fQ:=aJ.lt;have z:=N8 (∀{G}(h:G:=by
 go_wp2_with fail;have⟨b3,bz⟩:=xE (((aq.setCell (N9 aV 0) (NY v1.k)).setCell (N9 aV 1) (NY v1.n)).setCell (N9 aV 2) (Oj v1.s));rw[<-bz];have ea:=aag dg.out (NY v1.k) (NY v1.n) (Oj v1.s);have hi:mb<=aV:=by have:=NZ dS;omega
 have cE:w.heap.size<=aV:=by have:=NZ dS;omega
 have bh:=RF dg.out hi (NY v1.k) (NY v1.n) (Oj v1.s);have bI:=cT.newT bh (Ub cE _ _ _);have bE:=aJ.YC bh Ol;rw[<-bz] at ea bI bE bh;have oK:=aL.Qn bh Ol;have pP:=bh.rest bc _ _ fk.out Ol;obtain⟨lv',sv',Vr,WA,j8⟩:=bE;obtain⟨Ht,HK⟩:=j8.hh.at_ 8 _ rfl;have⟨pV,kn⟩:=j8.calls σ.calls;have sT:b3.cell? (N9 mb 10)=some (NY ((σ.calls+1:Nat):Int)):=by rw[<-dz.out];exact Ht
 have n6:b3.cell? (N9 bc 0)=some (Oy mb 0):=by rw[cell_of pP];rfl
 have MG:mb≠aV:=by have:=NZ dS;omega
 refine leaves_cons (f:=338) (args:=#[Oy bc 0]) OW (by simp[go_sem]) ?_;refine(aw3 bc σ.calls .returning b3 n6 sT HK Oe).mono ?_;rintro e fV kH ⟨rfl,rfl,rfl⟩;have wD:=kn.rest aV _ _ ea Ol;have⟨cK,b1,bU,_,_⟩:=cells3 wD
 show Leaves _ _ _ _ [] .returning _
 refine⟨.tuple #[vA v1,ev],by simp[results,results319,go_sem,cK,b1,bU],⟨ev,?_,?_⟩,?_,?_⟩
 ·rw[fM.out,oC.out]
 ·rw[fM.out];exact oK.Qn kn Ol
 ·rw[fM.out];have d4:({ r.2 with calls:=r.2.calls - 1 }:St)={ r.2 with calls:=σ.calls }:=by rw[dz.out];rfl
  show Ms _ _ _ _ _ ({ r.2 with calls:=r.2.calls - 1 }:St)
  rw[d4];exact⟨_,_,_,_,pV⟩
 ·exact bI.trans (OV.ofT (⟨kn.below,fun b c e A ao=>kn.rest b c e A (fun h=>ao (by rw[List.mem_singleton.1 h];decide))⟩:O8 Th mb b3 _))),G);exact av6
theorem agW (ac:Ms w0 mb af O w σ)(dE:σ.calls=40)(aK:Ot) :
  Oq 319 #[N7 mb,aK] w (OQ w0 mb af O es w ((vU,bad Uw),σ)):=by
 have bG:=ac.lt;have⟨w2,bo⟩:=xH ((w.alloc (.cells #[N7 mb] 62)).alloc (.cells #[NY 0,NY 0,Pm] 65));have aE:Oo w w2:=by rw[bo.out];exact PE.alloc OW _
 have⟨aV,dS⟩:=xH (w.heap.size+1);have hr2:w2.heap[aV]? = some (OM #[NY 0,NY 0,Pm] 65):=by
  rw[bo.out,dS.out,show w.heap.size+1=(w.alloc (.cells #[N7 mb] 62)).heap.size by simp];exact Oi _ _
 have cU:=(ac.later aE);have dk:=cU.lt;have eR:=(UQ (es:=es) dk Uw);obtain⟨aT,aB,aA,aK,ac⟩:=ac;obtain⟨sG,t6⟩:=ac.hh.at_ 8 _ rfl;rw[dE] at sG;have bq:=hide hr2;clear hr2 dE
 go_enter_defers func319,ntmps319
 go_wp2_with fail;rw[<-bo.out,<-dS.out];clear sG t6;refine cm eR ?_;rintro e aq ⟨⟨ev,rfl,aL⟩,bn⟩;have dg:=hide (stays bn bq.out);have iO:=(cU.later bn);have cT:=(OV.of (L:=none) (aE.trans (bn.mono aE.size)) (OO bG));have z:=N8 (∀{G}(h:G:=by
 go_wp2_with fail;have⟨b3,bz⟩:=xE (((aq.setCell (N9 aV 0) (NY 0)).setCell (N9 aV 1) (NY 0)).setCell (N9 aV 2) (Pm));rw[<-bz];have ea:=aag dg.out (NY 0) (NY 0) (Pm);have hi:mb<=aV:=by have:=NZ dS;omega
 have cE:w.heap.size<=aV:=by have:=NZ dS;omega
 have bh:=RF dg.out hi (NY 0) (NY 0) (Pm);have bI:=cT.newT bh (Ub cE _ _ _);have bE:=iO.YC bh Ol;rw[<-bz] at ea bI bE bh;have⟨cK,b1,bU,_,_⟩:=cells3 ea
 show Leaves _ _ _ _ [] .returning _
 exact⟨.tuple #[vA vU,ev],by simp[results,results319,go_sem,cK,b1,bU,vU],⟨ev,rfl,aL.Qn bh Ol⟩,bE,bI⟩),G);exact av6
theorem ab3 (ac:Mx w0 mb af O aT aB aA aK w σ)(dE:σ.calls<=40){F:Nat}{caps:Array Ot}(pJ:VH F){g:St->(Va × Er) × St}(aa:σ.calls≠40->(g { σ with calls:=σ.calls+1 }).2.calls=σ.calls+1)
  (xU:σ.calls≠40->∀ X,Mx w0 mb af O aT aB aA aK X { σ with calls:=σ.calls+1 }->aeY w X->w.heap.size<=X.heap.size->Oq F caps X (OQ w0 mb af O es X (g { σ with calls:=σ.calls+1 }))) :
  Oq 319 #[N7 mb,.func (.func F) #[] caps] w (OQ w0 mb af O es w (within σ g)):=by
 unfold Hp.within
 split
 ·rename_i h;exact agW ⟨_,_,_,_,ac⟩ h _
 ·rename_i h;exact amw ac Oe pJ (aa h) (xU h)
def Tt (w0:Og)(mb af:Nat)(O:List Nat)(es:Ot)(σ:St)(d:Nd)(p:Pl)(r:(Va × Er) × St):Prop:=
 ∀ (X:Og) (a:Ad) (aC:Option Addr),Ms w0 mb af O X σ->OJ O X a d->Oq 196 #[N7 mb,N7 a.p,PD p aC] X (OQ w0 mb af O es X r)
def aiP (F:Fx)(d:Nd)(p:Pl)(σ:St):(Va × Er) × St:=match F.v (Oa d 0) p σ with
 | ((v,.no),σ1)=>((PX (!v.tru),.no),σ1)
 | ((_,e),σ1)=>((vU,e),σ1)
def Zw (F:Fx)(d:Nd)(p:Pl)(σ:St):(Va × Er) × St:=match F.v (Oa d 0) p σ with
 | ((v,.no),σ1)=>if v.tru=decide (d.2.kd=25) then ((v,.no),σ1) else F.v (Oa d 1) p σ1
 | r=>r
def aiQ (F:Fx)(d:Nd)(p:Pl)(σ:St):(Va × Er) × St:=match Sl F (Oa d 0) p σ with
 | ((o,.no),σ1)=>((((σ1.M.prop o d.2.tx).map Pr.v).getD vU,.no),σ1)
 | ((_,e),σ1)=>((vU,e),σ1)
def aA8 (w0:Og)(mb af:Nat)(O:List Nat)(es:Ot)(w:Og)(r:(Int × Er) × St)(e:Ending)(w':Og):Prop:=
 (∃ ev,e=OA (.tuple #[NY r.1.1,ev])/\WZ es w' ev r.1.2)/\Ms w0 mb af O w' r.2/\OV none mb w w'
variable {F:Fx}
section
variable (ab:Zf es) (aJ:Ms w0 mb af O w σ) {a:Ad} {d:Nd} (hd:OJ O w a d)
include ab aJ a d hd
theorem aoV (p:Pl)(aC:Option Addr)(h1:Tt w0 mb af O es σ d p (F.v d p σ)) :
  Oq 200 #[N7 mb,N7 a.p,PD p aC] w (aA8 w0 mb af O es w (Sl F d p σ)):=by
 have bG:=aJ.lt;have z:=N8 (∀{G}(h:G:=by
 have dq:w.heap.size<=bc:=Oe;have z:=N8 (∀{G}(h:G:=by
 have z:=N8 (∀{G}(h:G:=by
 have⟨q,ag⟩:=xE a.p;have bF:=(h1 w2 a aC cU cR);have⟨rs,bA⟩:=xH (Sl F d ⟨au,aG,st⟩ σ);rw[<-bA.out,<-ag];rw[<-ag] at bF
 rcases aa:F.v d ⟨au,aG,st⟩ σ with ⟨⟨v1,aw⟩,σ1⟩
 rw[aa] at bF;have bV:=hide aa;have⟨aU,p1,cp,cJ,_,_⟩:=cells4 bb;clear bb aa ag dq;go_enter func200,ntmps200;go_wp2_with fail;rw[<-bo.out,<-bS];clear bS;refine cm bF ?_;rintro e aD ⟨⟨ev,rfl,aL⟩,eu,f5⟩;have dB:=aL;have cT:=(cG.trans f5);have fQ:=eu.lt;clear aU p1 cp cJ
 by_cases ao:aw=.no
 ·subst ao;have bu:ev=Qd:=aL;subst bu
  by_cases bx:v1.k=5
  ·go_wp2_with fail;have aI:rs=((v1.n,.no),σ1):=by rw[bA.out];unfold Sl;rw[bV.out];simp[bx]
   refine UC (v:=.tuple #[NY v1.n,Qd]) ?_;rw[aI];exact⟨⟨_,rfl,rfl⟩,eu.later PE,cT.trans (OV.of PE (OO fQ))⟩
  ·have aI:rs=((-1,bad tType),σ1):=by rw[bA.out];unfold Sl;rw[bV.out];simp[bx]
   have cD:=hide aI;clear aI;go_wp2_with fail;have dc:=(Below.refl aD.heap.size aD).alloc Pg (.cells #[NY v1.k,NY v1.n,Oj v1.s] 65);have jq:=(eu.later dc);have fD:=(cT.trans (OV.of (L:=none) dc (OO fQ)));have gz:=jq.lt;refine cm (UQ (es:=es) gz tType) ?_;rintro e gV ⟨⟨ev,rfl,aL⟩,g6⟩;have ox:=(jq.later g6);have oq:=(fD.trans (OV.of (L:=none) g6 (OO gz)));go_wp2_with fail;refine UC (v:=.tuple #[NY (-1),ev]) ?_;rw[cD.out];exact⟨⟨_,rfl,aL⟩,ox,oq⟩
 ·have⟨et,ex,bu⟩:=aL.WC ao ab;subst bu;have aI:rs=((-1,aw),σ1):=by
   rw[bA.out];unfold Sl;rw[bV.out];exact axO
  have cD:=hide aI;clear ao aI;go_wp2_with fail;have dc:=(Below.refl aD.heap.size aD).alloc Pg (.cells #[NY v1.k,NY v1.n,Oj v1.s] 65);refine UC (v:=.tuple #[NY (-1),.iface et ex]) ?_;rw[cD.out];exact⟨⟨_,rfl,dB.later dc⟩,eu.later dc,cT.trans (OV.of (L:=none) dc (OO fQ))⟩),G);exact zsl),G);exact axY),G);exact zss
theorem aA9 (E:d.2.kids.length=1)(p:Pl)(aC:Option Addr)(h1:Tt w0 mb af O es σ (Oa d 0) p (F.v (Oa d 0) p σ)) :
  Oq 260 #[N7 mb,N7 a.p,PD p aC] w (OQ w0 mb af O es w (aiP F d p σ)):=by
 have z:=N8 (∀{G}(h:G:=by
 have ei:=hide (cells4 bb);have z:=N8 (∀{G}(h:G:=by
 have z:=N8 (∀{G}(h:G:=by
 have z:=N8 (∀{G}(h:G:=by
 have⟨rs,d'⟩:=xE (aiP F d ⟨au,aG,st⟩ σ);rw[<-d',<-bj.out];have z:=N8 (∀{G}(h:G:=by
 have bA:=hide d';have bV:=hide aa;clear bb hr2 d' aa h1 dq cE d2 fE dv c';go_enter func260,ntmps260;go_wp2_with fail;rw[<-bo.out,<-b4,<-bS];clear bS b4;refine VG (H:=fun wz vb ev=>VB w0 mb af O es w2 v1 aw σ1 wz vb ev) (G:=?GG) (fun dD=>?ways) ?rest
 case ways=>
  exact aeF
 case rest=>
  have z:=N8 (∀{G}(h:G:=by
  have dm:OV none mb w wz:=cG.trans a7.fr;clear dj;have⟨fB,cy,dO,ip,iq,ir,ia⟩:=O3 (a7.v)
  by_cases ao:aw=.no
  ·subst ao;have bu:ev=Qd:=a7.er;subst bu;have eR:=(WX v1 wz);have⟨bt,md⟩:=xH v1.tru;rw[<-md.out] at eR;go_wp2_with fail;refine cm eR ?_;rintro e ef ⟨rfl,cl⟩;go_wp2_with fail;have⟨b5,df⟩:=xH (PX (!bt));have h2:=VF (!bt) ef;rw[<-df.out] at h2;refine cm h2 ?_;rintro e fs ⟨rfl,cA⟩;have jU:=cl.trans (cA.mono cl.size);have dS:=hide (stays jU ed.out);have k9:=(a7.ms.later jU);have jZ:=(dm.trans (OV.of (L:=none) jU (OO eW)));have⟨hM,gW,gX,iK,iL,iM,hO⟩:=O3 dS.out
   clear cS bY cg dJ dK dL fB cy dO ip iq ir;have z:=N8 (∀{G}(h:G:=by
   have aI:rs=((b5,.no),σ1):=by rw[bA.out];unfold aiP;rw[bV.out,df.out,md.out]
   rw[aI];exact⟨⟨_,rfl,rfl⟩,bE,bI⟩),G);exact agH
  ·have⟨et,ex,bu⟩:=a7.er.WC ao ab;subst bu;have aI:rs=((vU,aw),σ1):=by
    rw[bA.out];unfold aiP;rw[bV.out];exact axO
   have bN:=hide aI;clear ao aI;have bA:=bN;exact asz),G);exact aBa),G);exact ama),G);exact aiR),G);exact ac6),G);exact UZ),G);exact Xd
end
def YE (v:Va):List Ot:=[NY v.k,NY v.n,Oj v.s]
def abT (B:Nat)(w:Og)(u:Ot)(vs:List Va):Prop:=w.ownsRow B 65 3 u vs.length (vs.flatMap YE)
theorem abT.nil (B:Nat)(w:Og):abT B w Qv []:=⟨rfl,Or.inl ⟨rfl,rfl⟩⟩
theorem abT.keep {B:Nat}{u:Ot}{vs:List Va}(h:abT B w u vs)(aF:OV none mb w w'):abT B w' u vs:=row_of h fun _ _ _ hg=>aF.keep hg Ol
def auS (w0:Og)(mb af:Nat)(O:List Nat)(es:Ot)(w:Og)(r:(List Va × Er) × St)(e:Ending)(w':Og):Prop:=
 (∃ u ev,e=OA (.tuple #[u,ev])/\abT w.heap.size w' u r.1.1/\WZ es w' ev r.1.2)/\Ms w0 mb af O w' r.2/\OV none mb w w'
theorem awt:(prog.info? 65).map (fun i=>(i.zero,i.size,i.bytes))=some (some (.agg #[NY 0,NY 0,Pm]),3,32):=by kernel_rfl
theorem amg (w:Og)(H:Nat)(fl:w.heap.size=H)(v:Va)(j:Nat)(u:Ot)(h:(YE v)[j]? = some u) :
  (w.alloc (.cells #[NY v.k,NY v.n,Oj v.s] 65)).cell? (((N9 H 0):Addr).add j)=some u:=by
 subst fl;unfold YE at h
 rcases j with _|_|_|j <;> simp at h
 all_goals subst h;simp[Addr.add]
theorem val_one (v:Va):∀ u ∈ YE v,u.oneCell'=true:=by
 intro u aQ;unfold YE at aQ;simp at aQ
 rcases aQ with rfl|rfl|rfl <;> rfl
section
variable {p:Pl} {d:Nd} {aW:List Nd} {aX:List Va} {v:Va}
include p d aW aX v
theorem akr {σ1:St}(h:F.v d p σ=((v,.no),σ1)):Tn F p (d::aW) aX σ=Tn F p aW (aX++[v]) σ1:=by rw[Tn,h]
theorem aks {e:Er}{σ1:St}(h:F.v d p σ=((v,e),σ1))(ao:e≠.no):Tn F p (d::aW) aX σ=(([],e),σ1):=by
 rw[Tn,h];exact awu
end
theorem agL (ab:Zf es)(aJ:Ms w0 mb af O w σ){u:Ot}{cZ:List Ad}{aW:List Nd}(aa:RZ 0 w u cZ)(fw:Uc O w cZ aW)(hlen:aW.length<=1000000)(p:Pl)(aC:Option Addr)
  (P:St->Prop) (hP:P σ) (br:∀ d ∈ aW,∀ σ,P σ->Tt w0 mb af O es σ d p (F.v d p σ)/\∀ v σ1,F.v d p σ=((v,.no),σ1)->P σ1) :
  Oq 293 #[N7 mb,u,PD p aC] w (auS w0 mb af O es w (Tn F p aW [] σ)):=by
 have⟨i0,dW,dw,b8,cn⟩:=info_parts awt;have bG:=aJ.lt;have z:=N8 (∀{G}(h:G:=by
 have dq:w.heap.size<=bc:=Oe;have fc:=Uc.len _ _ fw;have⟨rs,fM⟩:=xH (Tn F ⟨au,aG,st⟩ aW [] σ);rw[<-fM.out];have cU:=(aJ.later aE);have cG:=(OV.of (L:=none) aE (OO bG));have b7:=hide bb;have dy:=(aa.later aE);have nF:=(Uc.kp (Kp.of aE) _ _ fw);have oy:=hide hP;have aj:=hide br;have hsz2:=aE.size;obtain⟨cV,dM,aQ⟩:=aa.form;subst aQ;have dk:=cU.lt;have pg:=hide fc;have DU:cZ.length<=1000000:=Oe;clear bb hP br dq fc;go_enter func293,ntmps293;go_wp2_with fail;rw[<-bo.out,<-bS];clear bS
 go_loopw [8,15] (fun o i wr=>∃ (k:Nat) (aX:List Va) (dx:St),k<=cZ.length/\i=NY k/\aX.length=k/\abT w2.heap.size wr o aX/\Ms w0 mb af O wr dx/\P dx/\OV none mb w2 wr/\rs=Tn F ⟨au,aG,st⟩ (aW.drop k) aX dx) (fun _ i _=>cZ.length - (intOf i).toNat)
 case atStart=>exact⟨0,[],σ,Nat.zero_le _,rfl,rfl,abT.nil _ _,cU,oy.out,OV.of QI (OO dk),fM.out⟩
 case round=>
  obtain⟨k,aX,dx,E,rfl,hacc,hrow,aJ,lk,ah,iV⟩:=hrel;have q7:=hrow;have mi:=hide lk;have jb:=hide iV;have Fa:=hide hacc;have h4:=aJ.lt;have⟨BA,iJ,aO⟩:=OG hrow;subst aO;have o1:=ah.below.size;clear lk iV hacc
  by_cases aM:k<cZ.length
  ·have bm:k<aW.length:=by rw[<-pg.out];exact aM
   obtain⟨g,cap,am,hg,ai,ax⟩:=(dy.kp ah.Ul).cell k aM;have z:=N8 (∀{G}(h:G:=by
   obtain⟨cj,ih⟩:=NZ aj aW[k] (List.getElem_mem _) dx mi.out;have bF:=(cj wr cZ[k] aC aJ ((Uc.get _ _ nF k aM bm).kp ah.Ul));have⟨q,ag⟩:=xE ((cZ[k]).p);rw[<-ag] at ai bF
   rcases dt:F.v aW[k] ⟨au,aG,st⟩ dx with ⟨⟨v1,aw⟩,σ1⟩
   rw[dt] at bF;have lL:=hide ih;have df:=hide dt;have lW:aW.drop k=aW[k]::aW.drop (k+1):=List.drop_eq_getElem_cons bm;have me:=hide lW;have⟨aU,p1,cp,cJ,_,d3⟩:=cells4 (ah.keep b7.out Ol);have BP:Hid (aX.length=k):=Fa;clear ih ag dt lW;go_wp2_with fail;refine cm bF ?_;rintro e aD ⟨⟨ev,rfl,aL⟩,g4,gw⟩;have fj:=(ah.trans gw);have sr:=(q7.keep gw);have hx:=g4.lt;have iW:wr.heap.size<=aD.heap.size:=gw.below.size;clear aU p1 cp cJ d3 ai
   by_cases ao:aw=.no
   ·subst ao;have bu:ev=Qd:=aL;subst bu;have⟨m,hmeq⟩:=xH aX.length;have uw:m=k:=by rw[hmeq.out];exact NZ BP
    have hrw2:aD.ownsRow w2.heap.size 65 3 (.slice BA m iJ) m (aX.flatMap YE):=by rw[hmeq.out];exact sr
    rw[<-hmeq.out];have AR:m<=1000000:=Oe;clear uw
    go_wp2_with (at_builtin;refine wpList_append_lies _ rfl _ _ 311 rfl w2.heap.size 65 i0 _ 3 32 underlying311 dW dw b8 cn rfl Ol _ _ _ rfl ((hrw2.alloc _).alloc _) (N9 (aD.heap.size+1) 0) 1 1 (YE v1) rfl rfl (amg (aD.alloc (.cells #[NY v1.k,NY v1.n,Oj v1.s] 65)) _ OW v1) (val_one v1) Ol (by unfold maxLen;omega) Oe QY (aD.heap.size+2) OW ?_)
    intro g1 cap' aq hown' hgrow iD _;have bn:Oo aD ((aD.alloc (.cells #[NY v1.k,NY v1.n,Oj v1.s] 65)).alloc (.cells #[NY v1.k,NY v1.n,Oj v1.s] 65)):=PE.alloc OW _;have wf:O8 [65] mb ((aD.alloc (.cells #[NY v1.k,NY v1.n,Oj v1.s] 65)).alloc (.cells #[NY v1.k,NY v1.n,Oj v1.s] 65)) aq:=O8.grown hgrow (by have:=bn.size;omega) fun b A=>by
     obtain⟨c,ai⟩:=PW ((hrw2.alloc _).alloc _) A;exact⟨by have:=(P6 hrw2 b A).2;omega,c,65,ai,by simp⟩
    have iO:=((g4.later bn).YC wf Ol);have cT:OV none mb w2 aq:=by
     refine⟨fj.below.trans ((bn.mono (OO hx)).trans wf.below),fun b c e A ao hl=>?_⟩;have h1:=stays bn (fj.rest b c e A ao hl);refine(hgrow.block b (lt_of_heap h1) (fun e=>?_)).trans h1;have U:=(P6 hrw2 b e.symm).2;have av:=lt_of_heap A;omega
    clear iD;go_wp2
    go_roundw
    case rel=>
     refine⟨k+1,aX++[v1],σ1,by omega,by go_num,by rw[List.length_append,BP.out];rfl,?_,iO,NZ lL v1 σ1 df.out,cT,?_⟩
     ·show World.ownsRow _ _ _ _ _ _ _
      rw[List.length_append,List.flatMap_append,<-hmeq.out];simpa using hown'
     ·rw[jb.out,me.out];exact akr df.out
    case measure=>simp[intOf];omega
   ·have⟨et,ex,bu⟩:=aL.WC ao ab;subst bu;have aI:rs=(([],aw),σ1):=by rw[jb.out,me.out];exact aks df.out ao
    have cD:=hide aI;clear aI ao;go_wp2_with fail;have d0:=(Below.refl aD.heap.size aD).alloc Pg (.cells #[NY v1.k,NY v1.n,Oj v1.s] 65);refine UC (v:=.tuple #[Qv,.iface et ex]) ?_;rw[cD.out];exact⟨⟨_,_,rfl,abT.nil _ _,aL.later d0⟩,g4.later d0,cG.trans (fj.trans (OV.of (L:=none) d0 (OO hx)))⟩),G);exact awv
  ·have cL:k=cZ.length:=Oe;have aI:rs=((aX,.no),dx):=by rw[jb.out,cL,pg.out,List.drop_length];rfl
   have cD:=hide aI;have hK:¬ (k:Int)<(cZ.length:Int):=Oe;clear aI cL;go_wp2_with fail;refine UC (v:=.tuple #[.slice BA aX.length iJ,Qd]) ?_;rw[cD.out];exact⟨⟨_,_,rfl,aiy q7 hsz2,rfl⟩,aJ,cG.trans ah⟩),G);exact zss
abbrev Y1 (w : Og) : Prop := Lib.TabIs prog w "internal/strconv.uint64pow10" .u64 Lib.pow10Tab
theorem Ms.tab (h:Ms w0 mb af O w σ)(a1:Bs w0 mb af O es)(aZ:Y1 w0):Y1 w:=Lib.tabBelow_of_tabIs aZ w (by rw[a1.sz];exact h.below)
theorem agM (b:Bool)(w:Og):Oq 131 #[Om b] w fun e w'=>e=OA (Oj (if b then abv else YV))/\w'=w:=by
 have h:Oq 207 #[Om b] w fun e w'=>e=OA (Oj (if b then abv else YV))/\w'=w:=by
  cases b
  all_goals
   go_enter func207,ntmps207;go_wp2;go_ret;exact⟨rfl,rfl⟩
 have⟨t,aZ⟩:=xE ((if b then abv else YV));rw[<-aZ] at h ⊢;clear aZ;go_enter func131,ntmps131;go_wp2_with fail;refine cm h ?_;exact aww
theorem aeJ (aJ:Ms w0 mb af O w σ)(o:Int):Oq 134 #[N7 mb,NY o] w fun e w'=>e=OA (Oj (if σ.M.codeOf o≠0 then P7 else Yr))/\w'=w:=by
 obtain⟨_,_,_,_,ac⟩:=aJ;have⟨c,ai⟩:=xE (σ.M.codeOf o);have aj:=(aiK ac.hh o);rw[<-ai] at aj ⊢;clear ai
 by_cases c0:c=0
 ·subst c0;rw[if_neg OW];go_enter func134,ntmps134;go_wp2_with fail;refine cm aj ?_;exact aww
 ·rw[if_pos c0];go_enter func134,ntmps134;go_wp2_with fail;refine cm aj ?_;exact aww
theorem aeK (a1:Bs w0 mb af O es)(aZ:Y1 w0)(aJ:Ms w0 mb af O w σ)(v:Va)(ax:-9223372036854775808<=v.n/\v.n<=9223372036854775807):Oq 61 #[N7 mb,vA v] w fun e w'=>e=OA (Oj (σ.M.shw v))/\Oo w w':=by
 have aE:=(Below.refl w.heap.size w).alloc Pg (.cells #[NY v.k,NY v.n,Oj v.s] 65);have Dq:=aJ.later aE;have Jm:=Dq.tab a1 aZ;have dP:=hide ax;clear ax;obtain⟨k,n,t⟩:=v
 by_cases b9:k=0
 ·subst b9;have aw:σ.M.shw ⟨0,n,t⟩=Rf:=rfl;exact asL
 by_cases bP:k=1
 ·subst bP;have aw:σ.M.shw ⟨1,n,t⟩=akd:=rfl;exact asL
 by_cases de:k=2
 ·subst de;have⟨tb,lv⟩:=xE (Va.tru ⟨2,n,t⟩);have⟨aB,jS⟩:=xE ((if tb then abv else YV));have aw:σ.M.shw ⟨2,n,t⟩=aB:=by rw[jS,lv];rfl
  rw[aw];have eR:=(WX ⟨2,n,t⟩ (w.alloc (.cells #[NY 2,NY n,Oj t] 65)));rw[<-lv] at eR;have jZ:=hide (fun X=>agM tb X);rw[<-jS] at jZ;clear aw lv jS;go_enter func61,ntmps61;go_wp2_with fail;refine cm eR ?_;rintro e w1 ⟨rfl,bZ⟩;have eE:=(aE.trans (bZ.mono aE.size));go_wp2_with fail;refine cm (NZ jZ w1) ?_;rintro e aq ⟨rfl,rfl⟩;go_wp2;go_ret;exact⟨rfl,eE⟩
 by_cases g8:k=3
 ·subst g8;have aw:σ.M.shw ⟨3,n,t⟩=YK n:=rfl;rw[aw];have gC:=(Tryz.strconv_Itoa n dP.out.1 dP.out.2 _ Jm);have⟨aB,jS⟩:=xE (YK n);have Ep:(⟨(Lib.itoa n).toArray⟩:Ou)=aB:=by rw[jS];rfl
  rw[Ep] at gC;rw[<-jS];clear aw jS Ep;go_enter func61,ntmps61;go_wp2_with fail;refine cm gC ?_;rintro e w1 ⟨rfl,j9,os,wP⟩;have eE:Oo w w1:=by
   show Below _ _ _
   rw[wP];exact aE.trans (Lib.below_grow _ _ aE.size j9 os)
  clear wP;go_wp2;go_ret;exact⟨rfl,eE⟩
 by_cases k4:k=4
 ·subst k4;have aw:σ.M.shw ⟨4,n,t⟩=t:=rfl;exact asL
 by_cases k3:k=5
 ·subst k3;have dp:=(aeJ Dq n);have⟨aB,jS⟩:=xE ((if σ.M.codeOf n≠0 then P7 else Yr));have aw:σ.M.shw ⟨5,n,t⟩=aB:=by rw[jS];rfl
  rw[aw];rw[<-jS] at dp;clear aw jS;go_enter func61,ntmps61;go_wp2_with fail;refine cm dp ?_;rintro e w1 ⟨rfl,wP⟩;rw[wP];clear wP;go_wp2;go_ret;exact⟨rfl,aE⟩
 have aw:σ.M.shw ⟨k,n,t⟩=Oh:=by unfold Mo.shw;simp[b9,bP,de,g8,k4,k3]
 exact asL
structure Ue (w:Og)(u:Ot)(vs:List Va):Prop where
 form:∃ aC cap,u=.slice aC vs.length cap
 at_:∀ (i:Nat) v,vs[i]? = some v->∃ g o cap c,u=.slice (some (N9 g o)) vs.length cap/\w.heap[g]? = some (OM c 65)/\c[o+i * 3]? = some (NY v.k)/\c[o+i * 3+1]? = some (NY v.n)/\c[o+i * 3+2]? = some (Oj v.s)
variable {vs:List Va}
section
variable (h:Ue w u vs)
include h
theorem Ue.keep (E:∀ (b:Nat) c,w.heap[b]? = some (Obj.cells c 65 (0,0))->w'.heap[b]? = some (Obj.cells c 65 (0,0))):Ue w' u vs:=
 ⟨h.form,fun i v am=>by have⟨g,o,cap,c,h1,U,av⟩:=h.at_ i v am;exact⟨g,o,cap,c,h1,E g c U,av⟩⟩
theorem Ue.later (A:Oo w w'):Ue w' u vs:=h.keep fun _ _ ai=>stays A ai
theorem Ue.frL (aF:OV none mb w w'):Ue w' u vs:=h.keep fun _ _ ai=>aF.keep ai Ol
theorem Ue.cells {i:Nat}{v:Va}(am:vs[i]? = some v):∃ g o cap,u=.slice (some (N9 g o)) vs.length cap/\g<w.heap.size/\w.cell? (N9 g (o+i * 3))=some (NY v.k)/\w.cell? (N9 g (o+i * 3+1))=some (NY v.n)/\w.cell? (N9 g (o+i * 3+2))=some (Oj v.s):=by
 have⟨g,o,cap,c,h1,U,av,aN,bx⟩:=h.at_ i v am;refine⟨g,o,cap,h1,lt_of_heap U,?_,?_,?_⟩
 ·simp[World.cell?,U,av]
 ·simp[World.cell?,U,aN]
 ·simp[World.cell?,U,bx]
end
theorem agX (x y:List UInt8)(r:List (List UInt8)):Lib.join (x::y::r) [32]=x++([32]++Lib.join (y::r) [32]):=by simp[Lib.join,List.intercalate,List.intersperse]
theorem agY:∀ (l:List ByteArray),(⟨(Lib.join (l.map (·.data.toList)) [32]).toArray⟩:ByteArray)=XE l
 | []=>rfl
 | [a]=>by
  rw[XE,List.map_cons,List.map_nil,Lib.join_one]
 | a::b::l=>by
  have h:=agY (b::l);rw[XE,List.map_cons,List.map_cons,agX,<-h];unfold Xo;simp;intro h;cases h
theorem join_le:∀ (l:List ByteArray),(∀ x ∈ l,x.size<=3000)->(Lib.join (l.map (·.data.toList)) [32]).length<=3001 * l.length
 | [],_=>by simp[Lib.join,List.intercalate]
 | [a],h=>by
  have:=h a List.mem_cons_self;rw[List.map_cons,List.map_nil,Lib.join_one];simp;omega
 | a::b::l,h=>by
  have h1:=join_le (b::l) (fun x ac=>h x (List.mem_cons_of_mem _ ac));have U:=h a List.mem_cons_self;have av:a.data.toList.length=a.size:=by simp
  rw[List.map_cons,List.map_cons,agX,List.length_append,List.length_append,av];rw[List.map_cons] at h1;simp only[List.length_cons,List.length_nil] at h1 ⊢;omega
theorem apk {B:Nat}{l:List ByteArray}(h:Q5 B w u l)(hl:l.length<=1000)(ab:∀ x ∈ l,x.size<=3000):Oq 318 #[u,Oj ⟨#[32]⟩] w fun e w'=>e=OA (Oj (XE l))/\Oo w w':=by
 rcases Nat.eq_zero_or_pos l.length with h0|h0
 ·obtain⟨a,c,rfl⟩:=OG h;rw[h0];obtain rfl:=List.eq_nil_of_length_eq_zero h0;exact(Tryz.strings_Join_none a c ⟨#[32]⟩ w).mono fun e w' ⟨h1,U⟩=>⟨h1,by rw[U];exact QI⟩
 ·obtain⟨g,cap,rfl,hg,_⟩:=World.ownsRow.form h h0;have f8:l.length<=cap:=by
   rcases h.2 with ⟨h1,_⟩|⟨g1,cap',ck,h1,_,_,U,_⟩
   ·
    cases h1
   ·simp only[Value.slice.injEq] at h1;omega
  rw[<-agY];exact Tryz.strings_Join g 0 cap l ⟨#[32]⟩ w (fun j x aS=>by
   rw[Nat.zero_add];have AG:=(List.getElem?_eq_some_iff.1 aS).1;rw[World.ownsRow.cellAt h j Oe];simp[aS]) (World.ownsRow.lt h g rfl).2 Oe f8 (by have:=join_le l ab;show (Lib.join _ [32]).length<=_;omega)
theorem as3 (a1:Bs w0 mb af O es)(aZ:Y1 w0)(aJ:Ms w0 mb af O w σ)(aa:Ue w u vs)(hl:vs.length<=1000)(ax:∀ v ∈ vs,(-9223372036854775808<=v.n/\v.n<=9223372036854775807)/\(σ.M.shw v).size<=3000)(yg:σ.log.length<=1000000000) :
  Oq 299 #[N7 mb,u] w fun e w'=>e=OA (.tuple #[])/\Ms w0 mb af O w' { σ with log:=σ.log++[XE (vs.map σ.M.shw)] }/\OV none mb w w':=by
 have⟨i0,dW,dw,b8,cn⟩:=info_parts info9;have bG:=aJ.lt;have hT:=aJ;have dy:=aa;have a':=hide (fun(v:Va) (am:v ∈ vs) (X:Og) (ak:Oo w X)=>aeK a1 aZ (aJ.later ak) v (ax v am).1);have dP:=hide ax;obtain⟨cV,dM,aQ⟩:=aa.form;subst aQ;clear ax;go_enter func299,ntmps299;go_wp2_with fail
 go_loopw [4,9] (fun o i wr=>∃ k:Nat,k<=vs.length/\i=NY k/\Q5 w.heap.size wr o ((vs.take k).map σ.M.shw)/\Oo w wr) (fun _ i _=>vs.length - (intOf i).toNat)
 case atStart=>exact⟨0,Nat.zero_le _,rfl,X4 _ _,QI⟩
 case round=>
  obtain⟨k,E,rfl,hown,hbel⟩:=hrel;have HOWN:=hown;have mc:=hbel;obtain⟨aC,iJ,rfl⟩:=OG hown;have da:=hbel.size
  by_cases aM:k<vs.length
  ·have⟨v,am⟩:=xE (vs[k]);have mK:vs[k]? = some v:=by rw[am];exact List.getElem?_eq_getElem aM
   obtain⟨g,o,cap,aQ,hg,c0,c1,c2⟩:=(dy.later mc).cells mK;simp only[Value.slice.injEq] at aQ;obtain⟨rfl,_,rfl⟩:=aQ;have hK:(k:Int)<(vs.length:Int):=Oe;have⟨x,ac⟩:=xE (σ.M.shw v);have bF:=hide (NZ a' v (List.mem_of_getElem? mK));rw[<-ac] at bF;have dT:=hide ac;have⟨rg,dA⟩:=xE ((vs.take k).map σ.M.shw);have pF:rg.length=k:=by rw[dA];simp;omega
   have dX:=hide dA;rw[<-dA] at HOWN ⊢;have nK:World.ownsRow wr w.heap.size 9 1 (.slice aC k iJ) k (rg.map Value.string):=by
    have h:World.ownsRow wr w.heap.size 9 1 (.slice aC rg.length iJ) rg.length (rg.map Value.string):=HOWN;rw[pF] at h;exact h
   rw[pF];have pj:=hide pF;have zD:=hide mK;clear ac dA pF am mK;go_wp2_with fail;have⟨w2,cM⟩:=xE (wr.alloc (.cells #[NY v.k,NY v.n,Oj v.s] 65));have⟨vb,a7⟩:=xE wr.heap.size;have k1:w2.heap[vb]? = some (Y0 v):=by rw[cM,a7];exact Oi _ _
   have gd:=hide (cells3 k1);have cq:Oo w w2:=by show Below _ _ _;rw[cM];exact mc.alloc da _
   have vk:=(OI nK (show Oo wr w2 by rw[cM];exact PE))
   have MC:mb<w2.heap.size:=by have:=cq.size;omega
   have h5:=lt_of_heap k1;rw[<-cM,<-a7];clear cM a7 k1 c0 c1 c2 hg;refine S9 5 fun ae=>?_;refine uh 0 (.slice aC k iJ) (ae) ?_;refine up 1 mb 0 ae ?_;refine up 2 mb 0 ae ?_;refine up 3 mb 0 ae ?_;refine uk3 4 gd.out ae ?_;refine PS 5 fun K D=>?_;go_simp;refine cm (NZ bF _ (cq.drew)) ?_;rintro e aD ⟨rfl,je⟩;refine ko D ?_;clear D K;have BS:=(cq.drew.trans (je.mono cq.drew.size));have Cq:=(OI vk ((Below.refl _ w2).drew.trans je));have Jj:=BS.size;refine PS 6 fun K D=>?_;go_simp;refine ko D ?_;clear D K
   refine PS 7 fun K D=>?_;refine step_append_lies _ rfl _ _ 26 rfl w.heap.size 9 i0 (Oj ByteArray.empty) 1 16 underlying26 dW dw b8 cn rfl Ol _ _ _ rfl (Cq.alloc _) (N9 aD.heap.size 0) 1 1 [Oj x] rfl rfl (X5 aD x _ rfl) (abA x) Ol (by unfold maxLen;omega) Oe QY (aD.heap.size+1) OW ?_
   intro g1 cap' aq hown' hgrow iD _;refine ko D ?_;clear D K;have dG:=((BS.alloc Jj (.cells #[Oj x] 9)).grown hgrow QY (fun b A=>(P6 Cq b A).2));clear iD;refine uz 8 (.slice (some (N9 g1 0)) (k+1) cap') ?_;refine RY ?_ _;go_simp;go_wp2
   go_roundw
   case rel=>
    refine⟨k+1,by omega,by go_num,?_,dG⟩;have kj:vs.take (k+1)=vs.take k++[v]:=by
     rw[List.take_succ_eq_append_getElem aM];have cf:=NZ zD;rw[List.getElem?_eq_getElem aM] at cf;cases cf;rfl
    rw[kj,List.map_append,<-dX.out]
    show World.ownsRow _ _ _ _ _ _ _
    rw[List.length_append,List.map_append,pj.out]
    show World.ownsRow _ _ _ _ _ _ (_++[Value.string (σ.M.shw v)])
    rw[<-dT.out];exact hown'
   case measure=>simp[intOf];omega
  ·have cL:k=vs.length:=Oe;subst cL;have aS:=apk (OI HOWN (Below.refl wr.heap.size wr).drew) (by rw[List.length_map,List.take_length];exact hl) (fun x ac=>by
    obtain⟨v,am,rfl⟩:=List.mem_map.1 ac;rw[List.take_length] at am;exact(NZ dP v am).2)
   have⟨hn,yb⟩:=xE (XE ((vs.take vs.length).map σ.M.shw));have⟨vl,h5⟩:=xE (((vs.take vs.length).map σ.M.shw).length);rw[<-yb,<-h5] at aS;rw[<-h5];rw[List.take_length] at yb;have FU:=hide yb;obtain⟨aT,aB,aA,aK,uI⟩:=hT;have jy:=uI.later mc;have h4:=jy.lt;have⟨la,fy,qC⟩:=OG jy.lg;subst qC;have eS:=jy;obtain⟨c2,_⟩:=jy.hh.at_ 0 _ rfl;have⟨ln,kv⟩:=xE σ.log.length;rw[<-kv] at c2;have hq:=hide c2;have j1:=hide kv;have Mu:ln<=1000000000:=Oe;clear yb h5 c2 kv;go_wp2_with fail
   refine S9 9 fun ae=>?_;have z:=N8 (∀{G}(h:G:=by
   refine up 3 mb 2 ae ?_;refine up 4 mb 2 ae ?_;refine uk 5 hq.out ae ?_;refine uh 6 (.slice aC vl iJ) (ae) ?_;refine PS 7 fun K D=>?_;go_simp;refine cm aS ?_;rintro e aD ⟨rfl,je⟩;have rn:Oo wr aD:=(Below.refl _ wr).drew.trans je;refine D.out _ _ (fun _=>rn) ?_;clear D K;refine PS 8 fun K D=>?_;go_simp;refine D.out _ _ (fun _=>rn.alloc rn.size _) ?_;clear D K;refine PS 9 fun K D=>?_;have oD:=(eS.later (rn.alloc rn.size (.cells #[Oj hn] 9)));have yh:=oD.lg;rw[<-j1.out] at yh;have MQ:=rn.size
   refine step_append_lies _ rfl _ _ 26 rfl mb 9 i0 (Oj ByteArray.empty) 1 16 underlying26 dW dw b8 cn rfl Ol _ _ _ rfl yh (N9 aD.heap.size 0) 1 1 [Oj hn] rfl rfl (X5 aD hn _ rfl) (abA hn) Ol (by unfold maxLen;omega) Oe QY (aD.heap.size+1) OW ?_
   intro hE iz bD hown4 nh pL _;refine ko D ?_;clear D K;have hgr5:World.grownBy (aD.alloc (.cells #[Oj hn] 9)) bD (Value.slice la σ.log.length fy).ownBlock:=by rw[<-j1.out];exact nh
   obtain⟨jh,hJ⟩:=oD.aAT hn (lv':=.slice (some (N9 hE 0)) (ln+1) iz) hgr5 (by rw[<-j1.out];exact hown4)
   obtain⟨K',Lu⟩:=(oD.hh.keep (T:=[9]) (B:=mb) (w':=bD) (O8.grown nh QY fun k E=>by
    have⟨c,ai⟩:=PW yh E;exact⟨(yh.lt k E).1,c,9,ai,by simp⟩) Ol Ol Ol Ol Ol).at_ 0 _ rfl
   have g':=((OV.of (L:=none) mc (OO bG)).trans ((OV.of (L:=none) (rn.alloc rn.size (.cells #[Oj hn] 9)) (OO h4)).trans hJ));have gz:mb<bD.heap.size:=by have:=nh.size;simp at this;omega
   clear pL;refine uz 10 (Oy mb 0) ?_;refine uz 11 (Oy mb 2) ?_;refine uz 12 (Oy mb 2) ?_;refine PS 13 fun K D=>?_;go_simp;refine ko D ?_;clear D K;refine RY ?_ _;go_simp;go_wp2
   go_end0
   have hu:=jh;rw[FU.out] at hu;exact⟨rfl,⟨_,_,_,_,hu⟩,g'⟩),G);exact TI
theorem ao4 (a b:Ou):a++b=Xo a b:=by
 apply ByteArray.ext;simp[Xo]
def aiW (kd a b:Int):Va × Er:=if kd=28 then (PX (decide (a<b)),.no) else if kd=29 then UN (a+b) else if kd=30 then UN (a - b) else UN (a * b)
def abU (a b:Ou):Va × Er:=if 500<a.size+b.size then (vU,bad Uw) else (VD (Xo a b),.no)
def ao5 (es:Ot)(w:Og)(r:Va × Er)(e:Ending)(w':Og):Prop:=(∃ ev,e=OA (.tuple #[vA r.1,ev])/\WZ es w' ev r.2)/\Oo w w'
theorem abV (n:Int)(w:Og):Oq 314 #[NY n] w (ao5 es w (UN n)):=by
 by_cases h:n < -1000000000\/1000000000<n
 ·exact aiU es n h w
 ·exact amf es n h w
theorem agN (kd a b:Int)(ay:-1000000000<=a/\a<=1000000000)(A:-1000000000<=b/\b<=1000000000)(w:Og):Oq 294 #[NY kd,NY a,NY b] w (ao5 es w (aiW kd a b)):=by
 obtain⟨j4,a2⟩:=ay;obtain⟨dn,b2⟩:=A;have z:=N8 (∀{G}(h:G:=by
 have⟨rs,eB⟩:=xE (aiW kd a b);rw[<-eB]
 by_cases qQ:kd=28
 ·subst qQ
  by_cases aM:a<b
  ·have fM:Hid (rs=(PX true,.no)):=by show _=_;rw[eB];unfold aiW;rw[if_pos rfl,decide_eq_true aM]
   clear eB;go_enter func294,ntmps294;go_wp2_with fail;rw[<-bo.out];refine cm (VF true w2) ?_;rintro e fs ⟨rfl,cA⟩;have⟨b5,dt⟩:=xE (PX true);exact aBz
  ·have fM:Hid (rs=(PX false,.no)):=by show _=_;rw[eB];unfold aiW;rw[if_pos rfl,decide_eq_false aM]
   clear eB;go_enter func294,ntmps294;go_wp2_with fail;rw[<-bo.out];refine cm (VF false w2) ?_;rintro e fs ⟨rfl,cA⟩;have⟨b5,dt⟩:=xE (PX false);exact aBz
 by_cases rM:kd=29
 ·subst rM;have fM:Hid (rs=UN (a+b)):=by show _=_;rw[eB];rfl
  clear eB qQ;go_enter func294,ntmps294;go_wp2_with fail;rw[<-bo.out];refine cm (abV (es:=es) (a+b) w2) ?_;rintro e fs ⟨⟨ev,rfl,aL⟩,cA⟩;have⟨b5,dt⟩:=xE ((UN (a+b)).1);exact awx
 by_cases tc:kd=30
 ·subst tc;have fM:Hid (rs=UN (a - b)):=by show _=_;rw[eB];rfl
  clear eB qQ rM;go_enter func294,ntmps294;go_wp2_with fail;rw[<-bo.out];refine cm (abV (es:=es) (a - b) w2) ?_;rintro e fs ⟨⟨ev,rfl,aL⟩,cA⟩;have⟨b5,dt⟩:=xE ((UN (a - b)).1);exact awx
 have fM:Hid (rs=UN (a * b)):=by show _=_;rw[eB];unfold aiW;rw[if_neg qQ,if_neg rM,if_neg tc]
 have hmul:-1000000000000000000<=a * b/\a * b<=1000000000000000000:=by
  have h1:(a * b).natAbs<=1000000000000000000:=by
   rw[Int.natAbs_mul];exact Nat.mul_le_mul (show a.natAbs<=1000000000 by omega) (show b.natAbs<=1000000000 by omega)
  omega
 have JA:IntKind.i64.wrap (a * b)=a * b:=IntWalk.i64_in _ Oe;clear eB;go_enter func294,ntmps294;go_wp2_with fail;rw[<-bo.out]
 try rw[JA]
 refine cm (abV (es:=es) (a * b) w2) ?_;rintro e fs ⟨⟨ev,rfl,aL⟩,cA⟩;have⟨b5,dt⟩:=xE ((UN (a * b)).1);exact awx),G);exact aBA
theorem awy (a b:Ou)(ay:a.size<=1000000)(A:b.size<=1000000)(w:Og):Oq 295 #[Oj a,Oj b] w (ao5 es w (abU a b)):=by
 have z:=N8 (∀{G}(h:G:=by
 have⟨rs,eB⟩:=xE (abU a b);rw[<-eB]
 by_cases bx:500<a.size+b.size
 ·have fM:Hid (rs=(vU,bad Uw)):=by show _=_;rw[eB];unfold abU;rw[if_pos bx]
  have cf:(a.size:Int)+(b.size:Int) > 500:=Oe;clear eB bx;go_enter func295,ntmps295;go_wp2_with fail;rw[<-bo.out];refine cm (WW Uw w2) ?_;rintro e fs ⟨⟨tb,rfl,lv,aL⟩,cA⟩;have dB:WZ es fs (.iface 122 (Oy tb 0)) (bad Uw):=⟨tb,rfl,aL⟩;have z:=N8 (∀{G}(h:G:=by
  clear aL lv;go_wp2_with fail;have⟨b3,bz⟩:=xE (((fs.setCell (N9 w.heap.size 0) (NY 0)).setCell (N9 w.heap.size 1) (NY 0)).setCell (N9 w.heap.size 2) (Pm));rw[<-bz];have ea:=aag dS.out (NY 0) (NY 0) (Pm);have d0:=below3 hQ Pg (NY 0) (NY 0) (Pm);have bh:=RF (mb:=w.heap.size) dS.out Pg (NY 0) (NY 0) (Pm);rw[<-bz] at ea d0 bh;have⟨cK,b1,bU,_,_⟩:=cells3 ea;refine Y2 (v:=.tuple #[vA vU,.iface 122 (Oy tb 0)]) ?_;rw[fM.out];exact⟨⟨_,rfl,dB.Qn bh Ol⟩,d0⟩),G);exact awz
 ·have fM:Hid (rs=(VD (Xo a b),.no)):=by show _=_;rw[eB];unfold abU;rw[if_neg bx]
  have cf:¬ (a.size:Int)+(b.size:Int) > 500:=Oe;clear eB bx;go_enter func295,ntmps295;go_wp2_with fail;rw[<-bo.out,ao4];refine cm (Zu (Xo a b) w2) ?_;rintro e fs ⟨rfl,cA⟩;have⟨b5,df⟩:=xH (VD (Xo a b));rw[<-df.out];have dS:=hide (stays cA bq.out);have hQ:=(aE.trans (cA.mono aE.size));have⟨dl,bT,cY,l7,l8,l9,nl⟩:=O3 dS.out;exact aBB),G);exact aBA
theorem ai7 (t:Tr)(p:Nat)(w:Og)(h:Ug w t p):Oq 355 #[N7 p] w fun e w'=>e=OA (Om (decide (t.tx=tArgs)))/\Oo w w':=by
 obtain⟨eM,_,c1,_⟩:=h.cells;have⟨tx,cB⟩:=xE t.tx;rw[<-cB] at c1 ⊢;clear cB h
 by_cases ao:tx=tArgs
 ·have aw:=Vz (b:=tArgs) rfl ao;rw[decide_eq_true ao];clear ao;go_enter func355,ntmps355;go_wp2;go_ret;exact⟨rfl,QI⟩
 ·have aw:=U6 (b:=tArgs) rfl ao;rw[decide_eq_false ao];clear ao;go_enter func355,ntmps355;go_wp2;go_ret;exact⟨rfl,QI⟩
theorem aB3:VH 355:=fun _ _=>by kernel_rfl
theorem agZ {B:Nat}{ps:List Tr}{bl:Tr}{q:Nat}(al:Uo B w u ps)(hl:ps.length<=90000)(A:Ug w bl q)(ai:bl.count<=20000):Oq 341 #[u,N7 q] w fun e w'=>e=OA (Om (hasArgs ps bl))/\Oo w w':=by
 have fl:=abk 355 (fun k=>decide (k.tx=tArgs)) aB3 ps u w al hl fun t _ p W _ h=>ai7 t p W h;have⟨dn,bZ⟩:=xE (ps.any fun k=>decide (k.tx=tArgs));rw[<-bZ] at fl;have dP:=hide (fun X (ak:Oo w X)=>ZX bl q false X (A.later ak) ai);have fw:(namesT bl false).length<=100000:=by
  have h1:(namesT bl false).length<=((if false=true then Py bl else [])++(TN bl).map Tr.tx++(OZ bl).map Tr.tx).length:=Zl _;have U:=aa6 bl;have av:=Go.Proofs.YticfnaiehdpbmaaGreatDoor.Tf bl;have aN:=QO bl;simp at h1;omega
 obtain⟨cV,dM,aQ⟩:=al.form;subst aQ;have aI:hasArgs ps bl=(!dn && !hasB (namesT bl false) tArgs):=by rw[bZ];rfl
 rw[aI];clear bZ aI
 cases dn with
 | true=>
  go_enter func341,ntmps341;go_wp2_with fail;refine cm fl ?_;rintro e w1 ⟨rfl,bZ⟩;have eE:=bZ;clear bZ;go_wp2;go_ret;exact⟨rfl,eE⟩
 | false=>
  have⟨b2,aE⟩:=xE (hasB (namesT bl false) tArgs);rw[<-aE];go_enter func341,ntmps341;go_wp2_with fail;refine cm fl ?_;rintro e w1 ⟨rfl,bZ⟩;have eE:=bZ;clear bZ;go_wp2_with fail;refine cm (NZ dP w1 eE) ?_;rintro e w2 ⟨⟨gb,rfl,hr2⟩,cA⟩;have cq:=(eE.trans (cA.mono eE.size));have⟨a2,bU,wK⟩:=OG hr2;subst wK;have aj:=(VL (namesT bl false) tArgs _ w2 hr2 fw);rw[<-aE] at aj;go_wp2_with fail;refine cm aj ?_;rintro e aq ⟨rfl,rfl⟩;go_wp2;go_ret;exact⟨by rw[aE];simp,cq⟩
def Wn (o:Int)(vs:List Va)(k:Nat)(σ:St):St:=(vs.zipIdx.take k).foldl (fun σ (v,i)=>σ.Qx o (Xo ⟨#[97]⟩ (YK i)) v false) σ
theorem ab4 (o:Int)(vs:List Va)(k:Nat)(σ:St)(v:Va)(E:vs[k]? = some v):Wn o vs (k+1) σ=(Wn o vs k σ).Qx o (Xo ⟨#[97]⟩ (YK k)) v false:=by
 have hl:=(List.getElem?_eq_some_iff.1 E).1;have U:k<vs.zipIdx.length:=by rw[List.length_zipIdx];exact hl
 unfold Wn;rw[List.take_succ_eq_append_getElem U,List.foldl_append,List.getElem_zipIdx];rw[List.getElem?_eq_getElem hl] at E;cases E;simp
theorem Sz.Wn (o:Int)(vs:List Va):∀ (k:Nat) {σ:St},Sz N σ->k<=vs.length->Sz (N+k) (Wn o vs k σ)
 | 0,_,h,_=>h
 | k+1,σ,h,E=>by
  rw[ab4 o vs k σ _ (List.getElem?_eq_getElem Oe)];exact(Sz.Wn o vs k h Oe).Qx _ _ _ _
theorem Q9.Xa {o f gT fv:Ot}{w2:Og}(h:Q9 mb o f gT fv w w')(k:O8 Th mb w' w2):Q9 mb o f gT fv w w2:=h.trans (Q9.ofT k)
theorem ag0 (a1:Bs w0 mb af O es)(aZ:Y1 w0)(ac:Mx w0 mb af O aT aB aA aK w σ)(aH:Sz N σ)(hN:N+2000<1000000000)(aa:Ue w u vs)(hl:vs.length<=1500) :
  Oq 342 #[N7 mb,u] w fun e w'=>e=OA (vA (Qa vs σ).1)/\Mx w0 mb af O aT aB aA aK w' (Qa vs σ).2/\Q9 mb aA aK aA aK w w':=by
 have bG:=ac.lt;have z:=N8 (∀{G}(h:G:=by
 have⟨o,aO⟩:=xE (σ.M.objs.length:Int);have⟨σ1,h8⟩:=xE ({ σ with M:=σ.M.OY 0 }:St);have⟨b6,ga⟩:=xE (σ1.Qx o Xn (V7 vs.length) false:St);have b8:Sz (N+1) σ1:=by rw[h8];exact aH.heap (Nat.le_succ _) (aH.go.OY 0) rfl
 have cn:Sz (N+2) b6:=by rw[ga];exact b8.Qx _ _ _ _
 have aI:Qa vs σ=(SQ o,Wn o vs vs.length b6):=by
  unfold Qa Wn;rw[ga,h8,<-aO,List.take_of_length_le (Nat.le_of_eq List.length_zipIdx)]
 rw[aI];have dp:=(aaf (ac.later aE) aH Oe 0);rw[<-aO,<-h8] at dp;have HP:=hide (fun X (ak:Mx w0 mb af O aT aB aA aK X σ1)=>YL ak b8 Oe o Xn (V7 vs.length) false);rw[<-ga] at HP;have bq:=hide hr2;have dy:=(aa.later aE);have cG:=(Q9.of (o:=aA) (f:=aK) aE (OO bG));have cQ:=hide cE;obtain⟨cV,dM,aQ⟩:=aa.form;subst aQ;have hi:mb<=aV:=Oe;clear hr2 cE h8 ga aI aO;go_enter func342,ntmps342;go_wp2_with fail;rw[<-bo.out,<-b4];clear b4;refine cm dp ?_;rintro e aq ⟨rfl,fI,c7⟩;have cT:=(cG.Xa c7)
 have dg:=hide (c7.rest _ _ _ bq.out Ol);have GD:=(dy.keep fun b c A=>c7.rest b c 65 A Ol);have fQ:=fI.lt;go_wp2_with fail;refine S9 7 fun ae=>?_;have z:=N8 (∀{G}(h:G:=by
 refine uh 3 (NY o) (ae) ?_;refine uh 4 (.slice cV vs.length dM) (ae) ?_;refine uh 5 (NY (vs.length:Int)) (ae) ?_;refine PS 6 fun K D=>?_;go_simp;refine cm (aeB (vs.length:Int) aq.drew) ?_;rintro e e8 ⟨rfl,Id⟩;have pH:Oo aq e8:=(Below.refl _ aq).drew.trans Id;refine D.out _ _ (fun _=>pH) ?_;clear D K;have⟨nv,n4⟩:=xE (V7 vs.length);rw[<-n4];rw[<-n4] at HP;have G0:=(fI.later pH);have hS:=(cT.trans (Q9.of pH (OO fQ)));have zq:=hide (stays pH dg.out);have GF:=(GD.later pH);clear n4;refine PS 7 fun K D=>?_
 go_simp;refine cm (NZ HP _ G0) ?_;rintro e bD ⟨rfl,gR,hY⟩;refine ko D ?_;clear D K;have fD:=(hS.Xa hY);have gE:=hide (hY.rest _ _ _ zq.out Ol);have GE:=(GF.keep fun b c A=>hY.rest b c 65 A Ol);have gz:=gR.lt;refine RY ?_ _;go_simp;go_wp2_with fail
 go_loopw [22] (fun i wr=>∃ k:Nat,k<=vs.length/\i=NY k/\Mx w0 mb af O aT aB aA aK wr (Wn o vs k b6)/\Q9 mb aA aK aA aK w wr/\wr.heap[aV]? = some (OM #[NY 0,NY 0,Pm] 65)/\Ue wr (.slice cV vs.length dM) vs) (fun i _=>vs.length - (intOf i).toNat)
 case atStart=>exact⟨0,Nat.zero_le _,rfl,gR,fD,gE.out,GE⟩
 case round=>
  obtain⟨k,E,rfl,jy,hZ,kY,kz⟩:=hrel;have eS:=jy;have bV:=hide kY;have h4:=jy.lt;clear kY
  by_cases aM:k<vs.length
  ·have⟨v,am⟩:=xE (vs[k]);have mK:vs[k]? = some v:=by rw[am];exact List.getElem?_eq_getElem aM
   have⟨g,iZ,cap,aQ,hg,c0,c1,c2⟩:=kz.cells mK;simp only[Value.slice.injEq] at aQ;obtain⟨rfl,_,rfl⟩:=aQ;have hK:(k:Int)<(vs.length:Int):=Oe;have zD:=hide mK;clear am mK;go_wp2_with fail;have⟨ce,h6⟩:=xE (wr.alloc (.cells #[NY v.k,NY v.n,Oj v.s] 65));have⟨vb,a7⟩:=xE wr.heap.size;have k1:ce.heap[vb]? = some (Y0 v):=by rw[h6,a7];exact Oi _ _
   have gd:=hide (cells3 k1);have fm:Oo wr ce:=by rw[h6];exact PE
   have IV:mb<ce.heap.size:=by have:=fm.size;omega
   have h5:=lt_of_heap k1;have⟨pc,zy⟩:=xH (YK (k:Int));have Es:(⟨(Lib.itoa (k:Int)).toArray⟩:Ou)=pc:=by rw[zy.out];rfl
   have Bc:pc.size<=21:=by
    have h:=Lib.itoa_length_le (k:Int) Oe Oe;rw[zy.out];show (List.toArray _).size<=21;rw[List.size_toArray];exact h
   have gC:=(Tryz.strconv_Itoa (k:Int) Oe Oe ce.drew ((show Ms w0 mb af O ce.drew _ from ⟨_,_,_,_,(eS.later fm).later (Below.refl ce.heap.size ce).drew⟩).tab a1 aZ));rw[Es] at gC;have⟨dx,nO⟩:=xH (Wn o vs k b6);rw[<-nO.out] at eS;have jV:Sz (N+2+k) dx:=by rw[nO.out];exact Sz.Wn o vs k cn Oe
   have HP:=hide (fun X (ak:Mx w0 mb af O aT aB aA aK X dx)=>YL ak jV Oe o (Xo ⟨#[97]⟩ pc) v false);have qu:¬ (9223372036854775807:Nat)<1+pc.size:=Oe;rw[<-h6,<-a7];clear h6 a7 k1 c0 c1 c2 hg Es;refine S9 8 fun ae=>?_;have z:=N8 (∀{G}(h:G:=by
   refine uh 3 (NY o) (ae) ?_;refine uh 4 (NY (k:Int)) (ae) ?_;refine uk3 7 gd.out ae ?_;refine PS 5 fun K D=>?_;go_simp;refine cm gC ?_;rintro e e8 ⟨rfl,j9,os,im⟩;have pH:Oo ce e8:=by
    rw[im];exact(Below.refl _ ce).drew.trans (Lib.below_grow ce.heap.size ce.drew (Below.refl ce.heap.size ce).drew.size j9 os)
   refine D.out _ _ (fun _=>pH) ?_;clear D K im;refine uh 6 (Oj (Xo ⟨#[97]⟩ pc)) (pH) ?_ (hy:=Or.inl ⟨by kernel_rfl,fun _ _=>by go_simp;rw[ao4]⟩)
   refine PS 8 fun K D=>?_;go_simp;refine cm (NZ HP _ ((eS.later fm).later pH)) ?_;rintro e ch ⟨rfl,o3,km⟩;refine ko D ?_;clear D K;have rm:Oo wr e8:=fm.trans (pH.mono fm.size);have lN:=((hZ.trans (Q9.of rm (OO h4))).Xa km);have ig:=hide (km.rest _ _ _ (stays rm bV.out) Ol);have re:=((kz.later rm).keep fun b c A=>km.rest b c 65 A Ol);refine RY ?_ _;go_simp;go_wp2
   go_roundw
   case rel=>
    refine⟨k+1,by omega,by go_num,?_,lN,ig.out,re⟩;rw[nO.out,zy.out,<-ab4 o vs k b6 v zD.out] at o3;exact o3
   case measure=>simp[intOf];omega),G);exact TI
  ·have cL:k=vs.length:=Oe;subst cL;have hK:¬ (vs.length:Int)<(vs.length:Int):=Oe;have⟨b5,df⟩:=xH (SQ o);have h2:=aa9 o wr;rw[<-df.out] at h2;go_wp2_with fail;refine cm h2 ?_;rintro e fs ⟨rfl,cA⟩;have dS:=hide (stays cA bV.out);have vC:=(eS.later cA);have jZ:=(hZ.trans (Q9.of cA (OO h4)));have⟨dl,bT,cY,fp,nl⟩:=cells3 dS.out;have l7:=fp 0;have l8:=fp 1;have l9:=fp 2;clear fp;go_wp2_with fail
   have⟨b3,bz⟩:=xE (((fs.setCell (N9 aV 0) (NY b5.k)).setCell (N9 aV 1) (NY b5.n)).setCell (N9 aV 2) (Oj b5.s));rw[<-bz];have ea:=aag dS.out (NY b5.k) (NY b5.n) (Oj b5.s);have bh:=RF dS.out hi (NY b5.k) (NY b5.n) (Oj b5.s);have bI:=jZ.new bh (Ub cQ.out _ _ _);have bE:=vC.YC bh Ol;rw[<-bz] at ea bI bE;have⟨cK,b1,bU,_,_⟩:=cells3 ea;refine WB (v:=vA b5) ?_;refine⟨?_,bE,bI⟩;rw[df.out]),G);exact TI),G);exact aB4
end
end Hp
theorem aan {l:List Tk}{F:Sv}{t:Tr}{j:Nat}(h:UJ l F=.ok t j):∃ ap,Qi l F F.fuel [] 0=.ok ap j/\t=U0 (.mk 1 Oh 0 ap):=by
 unfold UJ at h;have⟨ap,bR,h1,h⟩:=Pv h;cases h;exact⟨ap,h1,rfl⟩
theorem apQ (t:Tr):(U0 t).kd=t.kd:=by unfold U0;split <;> rfl
theorem VQ {aY gs:List Ou}{s:Ou}{t:Tr}(h:Qu aY gs s=.ok t):t.kd=1/\t.count<=1500:=by
 unfold Qu at h
 split at h
 ·
  cases h
 ·split at h
  ·
   cases h
  ·split at h
   ·
    cases h
   ·rename_i aa
    split at h
    ·
     cases h
    ·
     cases h;obtain⟨ap,_,rfl⟩:=aan aa;exact⟨apQ _,by omega⟩
   ·
    cases h
def ZE (r:PaR)(w:Og)(e:Ending)(w':Og):Prop:=
 match r with
 | .ok t=>∃ p,e=OA (.tuple #[N7 p,Om true])/\PO (From w.heap.size) w' t p/\Oo w w'
 | _=>e=OA (.tuple #[.pointer none,Om false])/\Oo w w'
theorem ajp (r:PaR)(s:Ou)(w:Og)(E:∀ t,r=.ok t->t.kd=1)(br:Oq 15 #[Oj s] w (aao r w)):Oq 9 #[Oj s] w (ZE r w):=by
 cases r with
 | ok t=>
  have iT:=E t rfl;clear E;go_enter func9,ntmps9;go_wp2_with fail;refine cm br ?_;rintro e w1 ⟨p,rfl,ax,A⟩;obtain⟨u,ps,hblk,_,_,_⟩:=ax.abB;have⟨pA,_,_,_,_⟩:=node_cells hblk;rw[iT] at pA;have bO:=A;clear hblk iT;go_wp2_with fail
  go_region
  go_wp2_with fail;exact UC (v:=.tuple #[N7 p,Om true]) ⟨p,rfl,PO.later (I:=From w.heap.size) (w:=w1) (w':=w1.drew) (fun b _ _=>rfl) _ _ ax,bO.drew⟩
 | «at» er pl=>
  clear E;go_enter func9,ntmps9;go_wp2_with fail;refine cm br ?_;rintro e w1 ⟨b,rfl,_,_,A⟩;have bO:=A;go_wp2_with fail
  go_region
  go_wp2_with fail;exact UC (v:=.tuple #[QS,Om false]) ⟨rfl,bO.drew⟩
 | bare=>
  clear E;go_enter func9,ntmps9;go_wp2_with fail;refine cm br ?_;rintro e w1 ⟨rfl,A⟩;have bO:=A;go_wp2_with fail
  go_region
  go_wp2_with fail;exact UC (v:=.tuple #[QS,Om false]) ⟨rfl,bO.drew⟩
theorem YT (aY gs:List Ou)(s:Ou)(w:Og)(dA:Lists aY gs w)(j6:∀ g ∈ gs,1<=g.size)(dZ:Tabs w):Oq 9 #[Oj s] w (ZE (Qu aY gs s) w):=
 ajp _ s w (fun _ h=>(VQ h).1) (parse_any aY gs s w dA j6 dZ)
theorem anE (P:Tk->Prop)(aY gs:List Ou)(s:Ou)(j6:∀ g ∈ gs,1<=g.size)(cf:P ⟨6,⟨#[]⟩,0,s.size⟩)(hP:∀ i kd tx n e,i<s.size->Tc aY gs s i=.tok kd tx n e->P ⟨kd,tx,n,i⟩):∀ m i aX l,s.size - i=m->i<=s.size->(∀ t ∈ aX,P t)->Q7 aY gs s i aX=.ok l->∀ t ∈ l,P t:=by
 intro m
 induction m using Nat.strongRecOn with
 | ind m bv=>
  intro i aX l aR az ay h
  by_cases aM:i<s.size
  ·
   cases aa:Tc aY gs s i with
   | bad er p=>rw[WH aY gs s i aX er p aM aa] at h;cases h
   | tok kd tx n e=>
    have z:=N8 (∀{G}(h:G:=by
    refine bv (s.size - OC PU s e) Oe (OC PU s e) _ l rfl gh (fun t aZ=>?_) h
    rcases List.mem_append.1 aZ with aZ|aZ
    ·exact ay t aZ
    ·rw[List.mem_singleton.1 aZ];exact hP i kd tx n e aM aa),G);exact azn
  ·rw[TD aY gs s i aX aM] at h;cases h;intro t aZ
   rcases List.mem_append.1 aZ with aZ|aZ
   ·exact ay t aZ
   ·rw[List.mem_singleton.1 aZ];exact cf
abbrev Sm (s:Ou):Prop:=s.size<=3000
abbrev Nb (n:Int):Prop:=-1000000000<=n/\n<=1000000000
theorem arD (s:Ou)(k:Nat)(E:k<=s.size):∀ b ∈ (s.extract k (OC Qe s k)).data.toList,Qe (b.toNat:Int)=true:=by
 have gJ:=QU Qe s k E;have pM:=TU Qe s k;have da:=extract_size s k (OC Qe s k) Oe gJ;exact azo
theorem anF {aY gs:List Ou}{s:Ou}(ab:s.size<=3000){i e:Nat}{kd n:Int}{tx:Ou}(az:i<s.size)(aa:Tc aY gs s i=.tok kd tx n e):Sm tx/\Nb n:=by
 have ac:∀ a b,(s.extract a b).size<=3000:=fun a b=>by rw[ByteArray.size_extract];omega
 unfold Tc at aa
 split at aa
 ·unfold SG at aa
  split at aa
  ·
   cases aa;exact⟨ac _ _,by decide⟩
  ·split at aa
   ·
    cases aa
   ·
    cases aa;exact⟨ac _ _,by decide⟩
 ·split at aa
  ·unfold rdNum at aa
   split at aa
   ·
    cases aa
   ·split at aa
    ·
     cases aa
    ·split at aa
     ·
      cases aa
     ·rename_i av
      cases aa;exact⟨by show (0:Nat)<=3000;omega,by have:=(YU _ (arD s i (OO az))).1;omega,by omega⟩
  ·split at aa
   ·unfold rdStr at aa
    split at aa
    ·split at aa
     ·
      cases aa
     ·rename_i bx
      cases aa;exact⟨by show (List.toArray _).size<=3000;rw[List.size_toArray];omega,by decide⟩
    ·
     cases aa
   ·unfold TL at aa
    split at aa
    ·rename_i g hg
     cases aa;have U:=List.find?_some hg;unfold Yz at U;simp at U;have av:=ac i s.size;exact⟨by show tx.size<=3000;omega,by decide⟩
    ·
     cases aa
theorem Rk.mono {cW di CP CT:Ou->Prop}{dh CQ:Int->Prop}(h1:∀ s,cW s->CP s)(U:∀ s,di s->CT s)(av:∀ n,dh n->CQ n){c:Nat}{t:Tr}(h:Rk cW di dh c t):Rk CP CT CQ c t:=by
 induction h with
 | name h=>exact .name (h1 _ h)
 | str h=>exact .str (U _ h)
 | num h=>exact .num (av _ h)
 | lit h=>exact .lit h
 | anG h _ i=>exact .anG (h1 _ h) i
 | call _ _ hl i j=>exact .call i j hl
 | one h _ i=>exact .one h i
 | two h _ _ i j=>exact .two h i j
 | Zj h _ _ i j=>exact .Zj h i j
 | obj _ hl i=>exact .obj i hl
 | lam h _ _ i j=>exact .lam (h.imp id (h1 _)) i j
 | prop h _ i=>exact .prop (h1 _ h) i
 | par h=>exact .par (h1 _ h)
 | aly _ hl i=>exact .aly i hl
 | blk _ i=>exact .blk i
 | body h _ i=>exact .body h i
 | decl E h _ hl ai i=>exact .decl E (h1 _ h) i hl ai
 | func h _ _ i j=>exact .func (h1 _ h) i j
 | ah7 _ i=>exact .ah7 i
 | sif _ _ i j=>exact .sif i j
 | arF _ _ _ i j k=>exact .arF i j k
 | loop h _ _ i j=>exact .loop h i j
 | give h _ hl ai i=>exact .give h i hl ai
 | atm _ _ _ hl i j k=>exact .atm i j k hl
 | cat h _ i=>exact .cat (h1 _ h) i
 | fin _ i=>exact .fin i
 | empty=>exact .empty
 | expr _ i=>exact .expr i
 | prog h _ i=>exact .prog h i
theorem anH {aY gs:List Ou}{s:Ou}{t:Tr}(j6:∀ g ∈ gs,1<=g.size)(h:Qu aY gs s=.ok t):Rk Sm Sm Nb 9 t:=by
 have ab:s.size<=3000:=by
  unfold Qu at h
  split at h
  ·
   cases h
  ·omega
 have⟨l,hl,g5⟩:=af0 h;have A:∀ t ∈ l,Sm t.tx/\Nb t.n:=anE (fun t=>Sm t.tx/\Nb t.n) aY gs s j6 ⟨by show (0:Nat)<=3000;omega,show Nb 0 by decide⟩ (fun i kd tx n e az aa=>anF ab az aa) _ _ _ _ rfl (QU PU s 0 (Nat.zero_le _)) (fun t aZ=>by cases aZ) hl
 have E:∀ i,Sm (OX l i).tx/\Nb (OX l i).n:=fun i=>by
  unfold OX;rw[List.getD_eq_getElem?_getD]
  cases az:l[i]? with
  | none=>exact⟨by show (0:Nat)<=3000;omega,by decide⟩
  | some t=>exact A t (List.mem_of_getElem? az)
 exact g5.mono (fun s ⟨i,_,e⟩=>e ▸ (E i).1) (fun s ⟨i,e⟩=>e ▸ (E i).1) (fun n ⟨i,e⟩=>e ▸ (E i).2)
namespace Hp
structure Gv (m:Nat)(v:Va):Prop where
 n:v.k≠5->Nb v.n
 s:Sm v.s
 r:v.k=5->0<=v.n/\v.n<m
theorem Gv.up {n n9:Nat}{v:Va}(h:Gv n v)(ax:n<=n9):Gv n9 v:=⟨h.n,h.s,fun e=>⟨(h.r e).1,by have:=(h.r e).2;omega⟩⟩
theorem sm0:Sm Oh:=by decide
theorem Vs (n:Nat):Gv n vU:=⟨fun _=>by decide,sm0,fun e=>by cases e⟩
theorem gvB (n:Nat)(b:Bool):Gv n (PX b):=⟨fun _=>by cases b <;> decide,sm0,fun e=>by cases e⟩
theorem gvT {n:Nat}{s:Ou}(h:Sm s):Gv n (VD s):=⟨fun _=>show Nb 0 by decide,h,fun e=>by cases e⟩
theorem gvN {n:Nat}{k:Int}(h:Nb k):Gv n (V7 k):=⟨fun _=>h,sm0,fun e=>by cases e⟩
structure Gm (lR:Nat)(M:Mo):Prop where
 pv:∀ x ∈ M.objs,∀ p ∈ x.ps,Gv M.objs.length p.v
 cv:∀ x ∈ M.Ov,∀ c ∈ x.cs,Gv M.objs.length c.v
 co:∀ x ∈ M.objs,0<=x.code/\x.code<3+lR
def K4 (M:Mo)(s:Int)(nm:Ou):Prop:=∃ (i:Nat) (x:Ro) (c:Ce),s=i/\M.Ov[i]? = some x/\c ∈ x.cs/\YW nm c.name=true/\c.kind≠4
inductive Chg (V:Va->Prop) (b9:Int) (M:Mo):Mo->Prop
 | same:Chg V b9 M M
 | ob (i:Nat) (x:Ob) (ps:List Pr) (ac:M.objs[i]? = some x) (al:∀ p ∈ ps,V p.v\/p ∈ x.ps):Chg V b9 M (M.SI i ⟨x.code,ps⟩)
 | ro (i:Nat) (x:Ro) (cs:List Ce) (ac:M.Ov[i]? = some x) (al:∀ c ∈ cs,V c.v\/c ∈ x.cs) (E:∀ c ∈ x.cs,c.kind≠4->∃ eT ∈ cs,eT.name=c.name/\eT.kind=c.kind) (ax:∀ c ∈ cs,c.kind=b9\/∃ q ∈ x.cs,q.kind=c.kind):Chg V b9 M (M.RD i ⟨x.outer,x.object,cs⟩)
section
variable {V:Va->Prop} {b9:Int} {M mq:Mo} {lR:Nat}
section
variable (h:Chg V b9 M mq)
include h
theorem Chg.ol:mq.objs.length=M.objs.length:=by cases h <;> simp[Mo.SI,Mo.RD]
theorem Chg.rl:mq.Ov.length=M.Ov.length:=by cases h <;> simp[Mo.SI,Mo.RD]
theorem Chg.k4 {s:Int}{nm:Ou}(E:K4 M s nm):K4 mq s nm:=by
 obtain⟨i,x,c,rfl,ac,ai,h1,U⟩:=E
 cases h with
 | same=>exact⟨i,x,c,rfl,ac,ai,h1,U⟩
 | ob=>exact⟨i,x,c,rfl,ac,ai,h1,U⟩
 | ro j y cs hy al E ax=>
  by_cases e:j=i
  ·subst e;rw[ac] at hy;cases hy;have⟨eT,av,aN,bx⟩:=E c ai U;exact⟨j,_,eT,rfl,List.getElem?_set_self (List.getElem?_eq_some_iff.1 ac).1,av,by rw[aN];exact h1,by rw[bx];exact U⟩
  ·exact⟨i,x,c,rfl,(List.getElem?_set_ne e).trans ac,ai,h1,U⟩
theorem Chg.gm (fF:∀ v,V v->Gv M.objs.length v)(hg:Gm lR M):Gm lR mq:=by
 have hl:=h.ol
 cases h with
 | same=>exact hg
 | ob i x ps ac al=>
  have uI:=List.mem_of_getElem? ac;refine⟨fun y hy p wA=>?_,fun y hy c ai=>?_,fun y hy=>?_⟩
  ·rw[hl]
   rcases List.mem_or_eq_of_mem_set hy with hy|rfl
   ·exact hg.pv y hy p wA
   ·rcases al p wA with h|ag
    ·exact fF _ h
    ·exact hg.pv x uI p ag
  ·rw[hl];exact hg.cv y hy c ai
  ·rcases List.mem_or_eq_of_mem_set hy with hy|rfl
   ·exact hg.co y hy
   ·exact hg.co x uI
 | ro i x cs ac al E ax=>
  have uI:=List.mem_of_getElem? ac;refine⟨hg.pv,fun y hy c ai=>?_,hg.co⟩
  rcases List.mem_or_eq_of_mem_set hy with hy|rfl
  ·exact hg.cv y hy c ai
  ·rcases al c ai with h|ag
   ·exact fF _ h
   ·exact hg.cv x uI c ag
end
section
variable {α:Type} {f:α->Va} {P:Va->Prop} {l:List α}
include α f P l
theorem acC {k:Nat}{a:α}(ay:P (f a)):∀ p ∈ l.set k a,P (f p)\/p ∈ l:=fun p al=>by
 rcases List.mem_or_eq_of_mem_set al with h|rfl
 ·exact .inr h
 ·exact .inl ay
theorem ahy {a:α}(ay:P (f a)):∀ p ∈ l++[a],P (f p)\/p ∈ l:=fun p al=>by
 rcases List.mem_append.1 al with h|h
 ·exact .inr h
 ·rw[List.mem_singleton.1 h];exact .inl ay
end
theorem adX {l:List Ce}{k:Nat}{c a:Ce}(ai:l[k]? = some c)(ax:a.name=c.name)(E:a.kind=c.kind):∀ d ∈ l,d.kind≠4->∃ eT ∈ l.set k a,eT.name=d.name/\eT.kind=d.kind:=fun d hd _=>by
 obtain⟨j,aS⟩:=List.mem_iff_getElem?.1 hd;have cI:=(List.getElem?_eq_some_iff.1 ai).1
 by_cases e:k=j
 ·subst e;rw[ai] at aS;cases aS;exact⟨a,List.mem_of_getElem? (List.getElem?_set_self cI),ax,E⟩
 ·exact⟨d,List.mem_of_getElem? ((List.getElem?_set_ne e).trans aS),rfl,rfl⟩
theorem ahz {b9:Int}{l:List Ce}{k:Nat}{c a:Ce}(ai:l[k]? = some c)(E:a.kind=c.kind):∀ d ∈ l.set k a,d.kind=b9\/∃ q ∈ l,q.kind=d.kind:=fun d hd=>by
 rcases List.mem_or_eq_of_mem_set hd with h|rfl
 ·exact .inr ⟨d,h,rfl⟩
 ·exact .inr ⟨c,List.mem_of_getElem? ai,E.symm⟩
theorem aqo {b9:Int}{l:List Ce}{a:Ce}(E:a.kind=b9):∀ d ∈ l++[a],d.kind=b9\/∃ q ∈ l,q.kind=d.kind:=fun d hd=>by
 rcases List.mem_append.1 hd with h|h
 ·exact .inr ⟨d,h,rfl⟩
 ·rw[List.mem_singleton.1 h];exact .inl E
theorem Vl (M:Mo)(o:Int)(nm:Ou)(v:Va)(fx:Bool):Chg (· = v) 0 M (M.put o nm v fx).2:=by
 unfold Mo.put
 rcases QG M o with ⟨h0,_⟩|⟨i,x,rfl,ac,h1⟩
 ·rw[h0];exact .same
 ·rw[h1]
  cases E:fP nm x.ps with
  | none=>simp only[E];exact .ob i x _ ac (ahy (f:=Pr.v) (P:=(· = v)) rfl)
  | some k=>
   simp only[E]
   cases ai:x.ps[k]? with
   | none=>exact .same
   | some c=>exact .ob i x _ ac (acC (f:=Pr.v) (P:=(· = v)) rfl)
theorem afl (M:Mo)(o:Int)(nm:Ou):Chg (fun _=>False) 0 M (M.cut o nm).2:=by
 unfold Mo.cut
 rcases QG M o with ⟨h0,_⟩|⟨i,x,rfl,ac,h1⟩
 ·rw[h0];exact .same
 ·rw[h1]
  cases E:fP nm x.ps with
  | none=>simp only[E];exact .same
  | some k=>
   simp only[E]
   cases ai:x.ps[k]? with
   | none=>exact .same
   | some c=>
    simp only
    split
    ·exact .same
    ·exact .ob i x _ ac fun p al=>.inr (List.mem_of_mem_eraseIdx al)
theorem UA (M:Mo)(s:Int)(nm:Ou)(kd:Int)(v:Va):Chg (· = v) kd M (M.declare s nm kd v).2:=by
 unfold Mo.declare
 rcases PK M s with ⟨h0,_⟩|⟨i,x,rfl,ac,h1⟩
 ·rw[h0];exact .same
 ·rw[h1];simp only
  split
  ·exact .same
  ·
   cases E:fC nm x.cs with
   | some j=>exact .same
   | none=>exact .ro i x _ ac (ahy (f:=Ce.v) (P:=(· = v)) rfl) (fun c ai _=>⟨c,List.mem_append_left _ ai,rfl,rfl⟩) (aqo rfl)
theorem adY (M:Mo)(s:Int)(nm:Ou)(v:Va):Chg (· = v) 0 M (M.start s nm v).2:=by
 unfold Mo.start
 rcases PK M s with ⟨h0,_⟩|⟨i,x,rfl,ac,h1⟩
 ·rw[h0];exact .same
 ·rw[h1]
  cases E:fC nm x.cs with
  | none=>simp only[E];exact .same
  | some k=>
   simp only[E]
   cases ai:x.cs[k]? with
   | none=>exact .same
   | some c=>exact .ro i x _ ac (acC (f:=Ce.v) (P:=(· = v)) rfl) (adX ai rfl rfl) (ahz ai rfl)
theorem aqp {M:Mo}{i:Nat}{x:Ro}{nm:Ou}{c:Ce}(h1:M.ro i=some x)(ai:M.YI i nm=some c):∃ k,fC nm x.cs=some k/\x.cs[k]? = some c:=by
 unfold Mo.YI at ai;rw[h1] at ai
 rcases VN (fun c=>YW nm c.name) x.cs with ⟨U,av⟩|⟨k,eT,U,av,aN,_⟩
 ·exact absurd (av.symm.trans ai) OW
 ·have e:some eT=some c:=aN.symm.trans ai;cases e;exact⟨k,U,av⟩
theorem Yx (M:Mo)(s:Int)(nm:Ou)(v:Va):Chg (· = v) 0 M (M.write s nm v).2:=by
 unfold Mo.write
 split
 ·
  cases ai:M.YI s nm with
  | none=>exact Vl _ _ _ _ _
  | some c=>
   simp only
   split
   ·exact .same
   ·split
    ·exact .same
    ·split
     ·exact .same
     ·rcases PK M s with ⟨h0,_⟩|⟨i,x,rfl,ac,h1⟩
      ·rw[h0];exact .same
      ·have⟨k,U,av⟩:=aqp h1 ai;rw[h1];simp only[U];exact .ro i x _ ac (acC (f:=Ce.v) (P:=(· = v)) rfl) (adX av rfl rfl) (ahz av rfl)
 ·exact .same
theorem ahA (M:Mo)(s:Int)(nm:Ou):Chg (fun _=>False) 0 M (M.drop s nm).2:=by
 unfold Mo.drop
 cases ai:M.YI s nm with
 | none=>exact afl _ _ _
 | some c=>
  simp only
  split
  ·exact .same
  ·rename_i E
   rcases PK M s with ⟨h0,_⟩|⟨i,x,rfl,ac,h1⟩
   ·rw[h0];exact .same
   ·have⟨k,U,av⟩:=aqp h1 ai;rw[h1];simp only[U];refine .ro i x _ ac (fun p al=>.inr (List.mem_of_mem_eraseIdx al)) (fun d hd aN=>⟨d,?_,rfl,rfl⟩) fun c ai=>.inr ⟨c,List.mem_of_mem_eraseIdx ai,rfl⟩;obtain⟨j,aS⟩:=List.mem_iff_getElem?.1 hd;have cC:j≠k:=fun e=>by
     subst e;rw[av] at aS;cases aS;exact aN (by simpa using E)
    refine List.mem_eraseIdx_iff_getElem?.2 ⟨j,cC,aS⟩
def N4 (M:Mo)(s:Int):Prop:=∃ (i:Nat) (x:Ro),s=i/\M.Ov[i]? = some x/\x.object = -1/\∀ c ∈ x.cs,c.kind≠4
theorem N4.chg {V:Va->Prop}{b9:Int}{M mq:Mo}{s:Int}(h:N4 M s)(ai:Chg V b9 M mq)(E:b9≠4):N4 mq s:=by
 obtain⟨i,x,rfl,ac,h1,U⟩:=h
 cases ai with
 | same=>exact⟨i,x,rfl,ac,h1,U⟩
 | ob=>exact⟨i,x,rfl,ac,h1,U⟩
 | ro j y cs hy al D6 ax=>
  by_cases e:j=i
  ·subst e;rw[ac] at hy;cases hy;refine⟨j,_,rfl,List.getElem?_set_self (List.getElem?_eq_some_iff.1 ac).1,h1,fun c ai=>?_⟩
   rcases ax c ai with h|⟨q,ag,h⟩
   ·rw[h];exact E
   ·rw[<-h];exact U q ag
  ·exact⟨i,x,rfl,(List.getElem?_set_ne e).trans ac,h1,U⟩
theorem N4.k4 {M:Mo}{s:Int}(h:N4 M s)(nm:Ou){kd:Int}(E:kd≠4)(v:Va):K4 (M.declare s nm kd v).2 s nm:=by
 obtain⟨i,x,rfl,ac,h1,U⟩:=h;have aa:M.ro i=some x:=by
  rcases PK M i with ⟨_,av⟩|⟨j,y,e,hy,av⟩
  ·have:=(List.getElem?_eq_some_iff.1 ac).1;omega
  ·have e:i=j:=Oe;subst e;rw[ac] at hy;cases hy;exact av
 unfold Mo.declare;rw[aa];simp only[h1]
 cases aF:fC nm x.cs with
 | some k=>
  obtain⟨c,ai,aN⟩:∃ c,x.cs[k]? = some c/\YW nm c.name=true:=by
   rcases VN (fun c=>YW nm c.name) x.cs with ⟨bx,_⟩|⟨lB,c,bx,cf,_,g2⟩
   ·exact absurd (bx.symm.trans aF) OW
   ·have e:some lB=some k:=bx.symm.trans aF;cases e;exact⟨c,cf,g2⟩
  exact⟨i,x,c,rfl,ac,List.mem_of_getElem? ai,aN,U c (List.mem_of_getElem? ai)⟩
 | none=>
  refine⟨i,_,⟨nm,v,kd,!(kd==1||kd==2)⟩,rfl,List.getElem?_set_self (List.getElem?_eq_some_iff.1 ac).1,List.mem_append_right _ (List.mem_singleton.2 rfl),?_,E⟩;simp[YW]
mutual
def Tr.nbr:Tr->Bool
 | .mk kd _ _ ks=>!((kd==7||kd==8||kd==9)&&ks.any WI)&&Tr.ajD ks
def Tr.ajD:List Tr->Bool
 | []=>true
 | t::ap=>Tr.nbr t&&Tr.ajD ap
end
mutual
theorem ak6:∀ (t:Tr) (s i b:Bool),chk t s i b=none->Tr.nbr t=true
 | .mk kd tx n ks,s,i,b,h=>by
  rw[chk] at h;rw[Tr.nbr]
  cases hw:wrT (.mk kd tx n ks) (s2 (.mk kd tx n ks) s) (i2 (.mk kd tx n ks) i) b with
  | some e=>rw[hw] at h;cases h
  | none=>
   rw[hw] at h;rw[ahB ks _ _ _ h,Bool.and_true]
   by_cases E:kd=7\/kd=8\/kd=9
   ·have U:brE (.mk kd tx n ks) (s2 (.mk kd tx n ks) s)=none:=by
     rw[<-hw];unfold wrT
     rcases E with rfl|rfl|rfl <;> rfl
    unfold brE at U
    split at U
    ·
     cases U
    ·rename_i av
     have aN:ks.any WI=false:=by
      cases bx:ks.any WI with
      | false=>rfl
      | true=>exact absurd (show _ from by rw[show (Tr.mk kd tx n ks).kids=ks from rfl,bx,Bool.or_true]) av
     rw[aN,Bool.and_false];rfl
   ·have U:(kd==7||kd==8||kd==9)=false:=by simpa[not_or,and_assoc] using E
    rw[U];rfl
theorem ahB:∀ (ap:List Tr) (s i b:Bool),SN ap s i b=none->Tr.ajD ap=true
 | [],_,_,_,_=>by rw[Tr.ajD]
 | t::ap,s,i,b,h=>by
  rw[SN] at h;rw[Tr.ajD]
  cases h1:chk t s i b with
  | some e=>rw[h1] at h;cases h
  | none=>
   rw[h1] at h;rw[ak6 t s i b h1,ahB ap s i b h];rfl
end
theorem ahC:∀ {ap:List Tr},Tr.ajD ap=true->∀ t ∈ ap,Tr.nbr t=true
 | [],_,_,h=>by cases h
 | u::ap,h,t,aZ=>by
  rw[Tr.ajD,Bool.and_eq_true] at h
  rcases List.mem_cons.1 aZ with rfl|aZ
  ·exact h.1
  ·exact ahC h.2 t aZ
theorem ZB {t:Tr}(h:Tr.nbr t=true):(∀ k ∈ t.kids,Tr.nbr k=true)/\((t.kd=7\/t.kd=8\/t.kd=9)->∀ k ∈ t.kids,WI k=false):=by
 cases t with
 | mk kd tx n ks=>
  rw[Tr.nbr,Bool.and_eq_true] at h;refine⟨ahC h.2,fun E k aR=>?_⟩;have U:(kd==7||kd==8||kd==9)=true:=by
   rcases E with E|E|E <;> (change kd=_ at E;subst E;rfl)
  rw[U,Bool.true_and] at h;have av:ks.any WI=false:=by simpa using h.1
  exact Bool.eq_false_iff.2 fun e=>absurd (show ks.any WI=true from List.any_eq_true.2 ⟨k,aR,e⟩) (by rw[av];simp)
structure Nk (c:Nat)(t:Tr):Prop where
 sh:Rk Sm Sm Nb c t
 ct:t.count<=1500
 nb:Tr.nbr t=true
theorem Yv {t k:Tr}(h:k ∈ t.kids):k.count<t.count:=by
 cases t with
 | mk kd tx n ks=>
  have⟨i,az,e⟩:=List.getElem_of_mem h;have:=Ux ks i az;rw[Tr.count];change (ks[i]).count<=_ at this;change ks[i]=k at e;rw[e] at this;omega
theorem Nk.kid {c eT:Nat}{t k:Tr}(h:Nk c t)(E:k ∈ t.kids)(ab:Rk Sm Sm Nb eT k):Nk eT k:=⟨ab,by have:=Yv E;have:=h.ct;omega,(ZB h.nb).1 k E⟩
structure Fg (t:Tr):Prop where
 ct:t.count<=1500
 nb:Tr.nbr t=true
 sh:∃ kd s n p b,t=.mk kd s n [p,b]/\Rk Sm Sm Nb 5 p/\Rk Sm Sm Nb 4 b
structure Iv (N:Int)(σ:St):Prop where
 pz:∃ n:Nat,Sz n σ/\(n:Int)<=N+10000 * σ.steps
 gm:Gm σ.Qg.length σ.M
 fn:∀ f ∈ σ.Qg,Fg f.d.2/\0<=f.scope/\f.scope<σ.M.Ov.length
 ca:σ.calls<=40
 lr:2<=σ.M.Ov.length
 lo:1<=σ.M.objs.length
structure Ex (σ bM:St):Prop where
 ro:σ.M.Ov.length<=bM.M.Ov.length
 ob:σ.M.objs.length<=bM.M.objs.length
 ca:bM.calls=σ.calls
 st:σ.steps<=bM.steps
 k4:∀ s nm,K4 σ.M s nm->K4 bM.M s nm
 lg:σ.log <+: bM.log
def Po (p:Pl)(σ:St):Prop:=0<=p.scope/\p.scope<σ.M.Ov.length
structure Nx (N:Int)(σ bM:St):Prop where
 iv:Iv N bM
 ex:Ex σ bM
 st:bM.steps=σ.steps
variable {N N':Int}{σ σ1 b6:St}{v:Va}
theorem Ex.refl (σ:St):Ex σ σ:=⟨Pg,Pg,rfl,Pg,fun _ _ h=>h,List.prefix_rfl⟩
theorem Ex.trans (h:Ex σ σ1)(k:Ex σ1 b6):Ex σ b6:=⟨Nat.le_trans h.ro k.ro,Nat.le_trans h.ob k.ob,k.ca.trans h.ca,Nat.le_trans h.st k.st,fun s nm x=>k.k4 s nm (h.k4 s nm x),h.lg.trans k.lg⟩
theorem Iv.up (h:Iv N σ)(hN:N<=N'):Iv N' σ:=by
 obtain⟨n,h1,U⟩:=h.pz;exact⟨⟨n,h1,by omega⟩,h.gm,h.fn,h.ca,h.lr,h.lo⟩
theorem Nx.refl (h:Iv N σ):Nx N σ σ:=⟨h,Ex.refl _,rfl⟩
theorem Nx.trans (h:Nx N σ σ1)(k:Nx N' σ1 b6):Nx N' σ b6:=⟨k.iv,h.ex.trans k.ex,k.st.trans h.st⟩
theorem Nx.up (h:Nx N σ σ1)(hN:N<=N'):Nx N' σ σ1:=⟨h.iv.up hN,h.ex,h.st⟩
theorem Po.up {p:Pl}(h:Po p σ)(k:Ex σ σ1):Po p σ1:=⟨h.1,by have:=h.2;have:=k.ro;omega⟩
theorem Po.some {p:Pl}(h:Po p σ):(σ.M.ro p.scope).isSome=true:=by
 rcases PK σ.M p.scope with ⟨_,h1⟩|⟨i,x,_,_,h1⟩
 ·have:=h.1;have:=h.2;omega
 ·rw[h1];rfl
theorem Iv.heap {V:Va->Prop}{b9:Int}{M:Mo}(h:Iv N σ)(ai:Chg V b9 σ.M M)(fF:∀ v,V v->Gv σ.M.objs.length v)(hg:∀ k,σ.M.Go k->M.Go (k+1)):Nx (N+1) σ { σ with M:=M }:=by
 obtain⟨n,h1,U⟩:=h.pz;refine⟨⟨⟨n+1,h1.heap (Nat.le_succ _) (hg _ h1.go) ai.rl,by show ((n+1:Nat):Int)<=N+1+10000 * σ.steps;omega⟩,ai.gm fF h.gm,fun f aF=>?_,h.ca,?_,?_⟩,⟨Nat.le_of_eq ai.rl.symm,Nat.le_of_eq ai.ol.symm,rfl,Pg,fun _ _ x=>ai.k4 x,List.prefix_rfl⟩,rfl⟩
 ·show _/\_/\f.scope<(M.Ov.length:Int)
  rw[ai.rl];exact h.fn f aF
 ·show 2<=M.Ov.length
  rw[ai.rl];exact h.lr
 ·show 1<=M.objs.length
  rw[ai.ol];exact h.lo
section
variable (h:Iv N σ) (am:Gv σ.M.objs.length v)
include h am
theorem Iv.dec (s:Int)(nm:Ou)(kd:Int):Nx (N+1) σ (σ.dec s nm kd v):=h.heap (UA _ _ _ _ _) (fun _ e=>e ▸ am) fun _ g=>g.declare _ _ _ _
theorem Iv.put (o:Int)(nm:Ou)(fx:Bool):Nx (N+1) σ (σ.Qx o nm v fx):=h.heap (Vl _ _ _ _ _) (fun _ e=>e ▸ am) fun _ g=>g.put _ _ _ _
theorem Iv.write (s:Int)(nm:Ou):Nx (N+1) σ { σ with M:=(σ.M.write s nm v).2 }:=h.heap (Yx _ _ _ _) (fun _ e=>e ▸ am) fun _ g=>g.write _ _ _
theorem Iv.start (s:Int)(nm:Ou):Nx (N+1) σ { σ with M:=(σ.M.start s nm v).2 }:=h.heap (adY _ _ _ _) (fun _ e=>e ▸ am) fun _ g=>g.start _ _ _
end
theorem Iv.drop (h:Iv N σ)(s:Int)(nm:Ou):Nx (N+1) σ { σ with M:=(σ.M.drop s nm).2 }:=h.heap (ahA _ _ _) (fun _ e=>e.elim) fun _ g=>g.drop _ _
theorem Iv.cut (h:Iv N σ)(s:Int)(nm:Ou):Nx (N+1) σ { σ with M:=(σ.M.cut s nm).2 }:=h.heap (afl _ _ _) (fun _ e=>e.elim) fun _ g=>g.cut _ _
theorem K4.app {M:Mo}{s:Int}{nm:Ou}{os:List Ob}{l:List Ro}(h:K4 M s nm):K4 ⟨os,M.Ov++l⟩ s nm:=by
 obtain⟨i,x,c,h1,ac,U⟩:=h;exact⟨i,x,c,h1,(List.getElem?_append_left (List.getElem?_eq_some_iff.1 ac).1).trans ac,U⟩
theorem Gm.OY {lR zW:Nat}{M:Mo}{c:Int}(h:Gm lR M)(aF:lR<=zW)(ai:0<=c/\c<3+zW):Gm zW (M.OY c):=by
 have hl:(M.OY c).objs.length=M.objs.length+1:=by simp[Mo.OY]
 refine⟨fun x ac p al=>?_,fun x ac p al=>?_,fun x ac=>?_⟩
 ·rw[hl]
  rcases List.mem_append.1 ac with ac|ac
  ·exact(h.pv x ac p al).up (Nat.le_succ _)
  ·rw[List.mem_singleton.1 ac] at al;cases al
 ·rw[hl];exact(h.cv x ac p al).up (Nat.le_succ _)
 ·rcases List.mem_append.1 ac with ac|ac
  ·have:=h.co x ac;omega
  ·rw[List.mem_singleton.1 ac];exact ai
theorem Iv.OY (h:Iv N σ){c:Int}(ai:0<=c/\c<3+σ.Qg.length):Nx (N+1) σ { σ with M:=σ.M.OY c }:=by
 obtain⟨n,h1,U⟩:=h.pz;exact⟨⟨⟨n+1,h1.heap (Nat.le_succ _) (h1.go.OY _) rfl,by show ((n+1:Nat):Int)<=N+1+10000 * σ.steps;omega⟩,h.gm.OY Pg ai,h.fn,h.ca,h.lr,by have:=h.lo;simp[Mo.OY]⟩,⟨Pg,by simp[Mo.OY],rfl,Pg,fun _ _ x=>x,List.prefix_rfl⟩,rfl⟩
theorem Iv.mkFun (h:Iv N σ){d:Nd}{p:Pl}(hd:Fg d.2)(al:Po p σ):Nx (N+1) σ (mkFun d p σ).2/\Gv (mkFun d p σ).2.M.objs.length (mkFun d p σ).1:=by
 obtain⟨n,h1,U⟩:=h.pz;have n5:(Hp.mkFun d p σ).2.M.objs.length=σ.M.objs.length+1:=by simp[Hp.mkFun,Mo.OY]
 have fO:(Hp.mkFun d p σ).2.Qg.length=σ.Qg.length+1:=by simp[Hp.mkFun]
 refine⟨⟨⟨⟨n+1,h1.mkFun d p,by show ((n+1:Nat):Int)<=N+1+10000 * σ.steps;omega⟩,?_,fun f aF=>?_,h.ca,h.lr,by omega⟩,⟨Pg,by omega,rfl,Pg,fun _ _ x=>x,List.prefix_rfl⟩,rfl⟩,?_⟩
 ·rw[fO];exact h.gm.OY (Nat.le_succ _) ⟨by omega,by push_cast;omega⟩
 ·rcases List.mem_append.1 aF with aF|aF
  ·exact h.fn f aF
  ·rw[List.mem_singleton.1 aF];exact⟨hd,al⟩
 ·rw[n5];exact⟨fun e=>absurd rfl e,sm0,fun _=>⟨by show 0<=((σ.M.objs.length:Nat):Int);omega,by show ((σ.M.objs.length:Nat):Int)<_;omega⟩⟩
theorem Iv.opn (h:Iv N σ)(u o x:Int):Nx (N+1) σ (σ.opn u o x):=by
 obtain⟨n,h1,U⟩:=h.pz;have rG:(σ.opn u o x).M.Ov.length=σ.M.Ov.length+1:=by simp[St.opn,Mo.scope]
 refine⟨⟨⟨n+1,h1.opn u o x,by show ((n+1:Nat):Int)<=N+1+10000 * σ.steps;omega⟩,⟨h.gm.pv,fun y hy c ai=>?_,h.gm.co⟩,fun f aF=>?_,h.ca,by have:=h.lr;omega,h.lo⟩,⟨by omega,Pg,rfl,Pg,fun _ _ k=>k.app,List.prefix_rfl⟩,rfl⟩
 ·rcases List.mem_append.1 hy with hy|hy
  ·exact h.gm.cv y hy c ai
  ·rw[List.mem_singleton.1 hy] at ai;cases ai
 ·have:=h.fn f aF;rw[rG];exact⟨this.1,this.2.1,by omega⟩
theorem Nx.fold {α:Type}{f:St->α->St}{k:Nat}{P:St->Prop}(hP:∀ σ bM,Ex σ bM->P σ->P bM):∀ (l:List α),(∀ a ∈ l,∀ N σ,Iv N σ->P σ->Nx (N+k) σ (f σ a))->∀ {N:Int} {σ:St},Iv N σ->P σ->Nx (N+(k * l.length:Nat)) σ (l.foldl f σ)
 | [],_,N,σ,h,_=>(Nx.refl h).up OW
 | a::l,aF,N,σ,h,al=>by
  have h1:=aF a List.mem_cons_self N σ h al;have U:=Nx.fold hP l (fun b A=>aF b (List.mem_cons_of_mem _ A)) h1.iv (hP _ _ h1.ex al);refine(h1.trans U).up ?_;rw[List.length_cons,Nat.mul_succ]
  push_cast
  omega
theorem Iv.settle (h:Iv N σ)(am:Gv σ.M.objs.length v)(s:Int)(nm:Ou):Nx (N+1) σ (settle s nm v σ):=by
 unfold Hp.settle
 split
 ·exact h.dec am _ _ _
 ·exact h.write am _ _
theorem amW {s:Int}(h:N4 σ.M s)(eh:Int)(nm:Ou)(v:Va):N4 (settle eh nm v σ).M s:=by
 unfold Hp.settle
 split
 ·exact h.chg (UA _ _ _ _ _) Ol
 ·exact h.chg (Yx _ _ _ _) Ol
theorem Iv.lets (h:Iv N σ)(ap:List Tr)(s:Int):Nx (N+ap.length) σ (PN ap s σ):=by
 have:=Nx.fold (P:=fun _=>True) (k:=1) (f:=fun σ (k:Tr)=>σ.dec s k.tx (if k.kd=4 then 2 else 1) vU) (fun _ _ _ h=>h) ap (fun a _ N σ h _=>h.dec (Vs _) _ _ _) h trivial;rw[Nat.one_mul] at this;exact this
theorem ZL:∀ (ap:List Tr) {s:Int} {N:Int} {σ:St},Iv N σ->N4 σ.M s->∀ k ∈ ap,K4 (PN ap s σ).M s k.tx
 | [],_,_,_,_,_,_,h=>by cases h
 | t::ap,s,N,σ,h,aN,k,E=>by
  have h1:=h.dec (Vs _) s t.tx (if t.kd=4 then 2 else 1);have cC:(if t.kd=4 then (2:Int) else 1)≠4:=by split <;> decide
  rcases List.mem_cons.1 E with rfl|E
  ·exact(h1.iv.lets ap s).ex.k4 _ _ (aN.k4 _ cC _)
  ·exact ZL ap h1.iv (aN.chg (UA _ _ _ _ _) cC) k E
theorem ae8 (σ:St)(u x:Int):N4 (σ.opn u (-1) x).M σ.top:=by
 refine⟨σ.M.Ov.length,_,rfl,by simp[St.opn,Mo.scope];rfl,?_,fun c ai=>by cases ai⟩
 simp
theorem Qh {d k:Nd}(h:k ∈ Px d):k.2 ∈ d.2.kids:=by
 have h1:k.2 ∈ (Px d).map (·.2):=List.mem_map.2 ⟨k,h,rfl⟩
 rwa [ab2] at h1
structure Bk (t:Tr):Prop where
 ct:t.count<=1500
 ks:∀ u ∈ t.kids,Nk 1 u
theorem Nk.bk {c:Nat}{t:Tr}(h:Nk c t)(ai:c=3\/c=4\/c=9):Bk t:=by
 refine⟨h.ct,fun u aQ=>?_⟩;have ab:=h.sh
 cases ab with
 | blk ab=>exact h.kid aQ (ab u aQ)
 | body _ ab=>exact h.kid aQ (ab u aQ)
 | prog _ ab=>exact h.kid aQ (ab u aQ)
 | _=>omega
theorem Nk.fg {t:Tr}(h:Nk 1 t)(E:t.kd=5):Fg t:=by
 refine⟨h.ct,h.nb,?_⟩;have ab:=h.sh
 cases ab with
 | func _ al A=>exact⟨_,_,_,_,_,rfl,al,A⟩
 | decl h1=>simp only[Tr.kd] at E;omega
 | ah7 h1=>cases h1;cases E
 | loop h1=>simp only[Tr.kd] at E;omega
 | give h1=>simp only[Tr.kd] at E;omega
 | _=>cases E
theorem Y5 {d:Nd}(h:Bk d.2):∀ k ∈ SX d,Fg k.2:=fun k E=>by
 have⟨h1,U⟩:=List.mem_filter.1 E;exact(h.ks _ (Qh h1)).fg (by simpa[TJ] using U)
theorem acD {d:Nd}(h:Bk d.2):(SX d).length<=1500:=by
 have h1:=List.length_filter_le (fun k:Nd=>TJ k.2) (Px d);have U:=RG d;have av:=QO d.2;have aN:=h.ct;unfold SX;omega
section
variable {t:Tr} (h:Bk t)
include t h
theorem Tf:(OZ t).length<=1500:=by
 have h1:=List.length_filter_le Pj t.kids;have av:=QO t;have aN:=h.ct;unfold OZ;omega
theorem aqr:(TN t).length<=1500:=by
 have h1:=List.length_filter_le TJ t.kids;have av:=QO t;have aN:=h.ct;unfold TN;omega
theorem aax:(Py t).length<=1500:=by
 have h1:=XR t;have U:Tr.counts t.kids<t.count:=by cases t;rw[Tr.count];exact Nat.lt_add_of_pos_left Oe
 have aN:=h.ct;omega
end
theorem aqs {p:Pl}:∀ σ bM,Ex σ bM->Po p σ->Po p bM:=fun _ _ e h=>h.up e
theorem Iv.funcs (h:Iv N σ){d:Nd}{p:Pl}(hd:Bk d.2)(al:Po p σ):Nx (N+3000) σ (Sj d p σ):=by
 have h1:=Nx.fold (P:=Po p) (k:=2) (f:=fun σ k=>let r:=Hp.mkFun k p σ;Hp.settle p.scope k.2.tx r.1 r.2) aqs (SX d) (fun a ay N σ h al=>by
  have⟨h1,U⟩:=h.mkFun (Y5 hd a ay) al;exact(h1.trans (h1.iv.settle U _ _)).up (by push_cast;omega)) h al
 have U:=acD hd;exact h1.up (by push_cast;omega)
theorem aqt {l:List Ou}(h:(XD l).length=0):l=[]:=by
 cases l with
 | nil=>rfl
 | cons a l=>
  exfalso;have key:∀ (l aX:List Ou),aX.length<=(l.foldl Z8 aX).length:=by
   intro l
   induction l with
   | nil=>intro aX;exact Pg
   | cons b l bv=>
    intro aX;refine Nat.le_trans ?_ (bv _);unfold Z8
    split
    ·exact Pg
    ·simp
  have h1:=key l (Z8 [] a);unfold XD at h;rw[List.foldl_cons] at h;have U:(Z8 [] a).length=1:=by unfold Z8;rw[if_neg (by simp[hasB])];rfl
  omega
theorem Yy {t k:Tr}(E:k ∈ t.kids)(hl:Pj k=true):k ∈ OZ t:=List.mem_filter.2 ⟨E,hl⟩
section
variable (h:Iv N σ)
include h
theorem Iv.block {d:Nd}{p:Pl}(hd:Bk d.2)(al:Po p σ):Nx (N+5000) σ (Ph d p σ).2/\Po (Ph d p σ).1 (Ph d p σ).2/\∀ k ∈ Px d,Pj k.2=true->K4 (Ph d p σ).2.M (Ph d p σ).1.scope k.2.tx:=by
 unfold Ph
 split
 ·rename_i h0
  refine⟨(Nx.refl h).up Oe,al,fun k E hl=>?_⟩;unfold namesT at h0;have h1:=aqt h0;have U:(OZ d.2).map Tr.tx=[]:=(List.append_eq_nil_iff.1 h1).2;have av:=Yy (Qh E) hl;rw[List.map_eq_nil_iff.1 U] at av;cases av
 ·have h1:=h.opn p.scope (-1) (own d);have U:=h1.iv.lets (OZ d.2) σ.top;have ky:Po { p with scope:=σ.top } (PN (OZ d.2) σ.top (σ.opn p.scope (-1) (own d))):=by
   refine Po.up ?_ U.ex;exact aDQ
  have av:=U.iv.funcs hd ky;have hl:=Tf hd;refine⟨((h1.trans U).trans av).up Oe,ky.up av.ex,fun k E hl=>?_⟩;exact av.ex.k4 _ _ (ZL _ h1.iv (ae8 _ _ _) _ (Yy (Qh E) hl))
theorem Iv.lam {d:Nd}{p:Pl}(hd:Fg d.2)(al:Po p σ):Nx (N+5) σ (Uz d p σ).2/\Gv (Uz d p σ).2.M.objs.length (Uz d p σ).1:=by
 unfold Uz
 split
 ·have⟨h1,U⟩:=h.mkFun hd al;exact⟨h1.up Oe,U⟩
 ·have h1:=h.opn p.scope (-1) (own d);have ky:Po { p with scope:=σ.top } (σ.opn p.scope (-1) (own d)):=
   ⟨by show (0:Int)<=(σ.M.Ov.length:Int);omega,by show (σ.M.Ov.length:Int)<_;simp[St.opn,Mo.scope];omega⟩
  have⟨U,av⟩:=h1.iv.mkFun hd ky;have aN:=U.iv.dec av σ.top d.2.tx 3;exact⟨((h1.trans U).trans aN).up Oe,av.up aN.ex.ob⟩
theorem Iv.look (d:Nd)(p:Pl):Nx (N+1) σ (look d p σ).2:=by
 unfold Hp.look;simp only
 split
 ·split
  ·obtain⟨n,h1,U⟩:=h.pz;exact⟨⟨⟨n+1,⟨h1.go.up (Nat.le_succ _),Nat.le_succ_of_le h1.ow,Nat.le_succ_of_le h1.fn,Nat.le_succ_of_le h1.lg,by have:=h1.se;simp;omega,h1.oe⟩,by show ((n+1:Nat):Int)<=N+1+10000 * σ.steps;omega⟩,h.gm,h.fn,h.ca,h.lr,h.lo⟩,⟨Pg,Pg,rfl,Pg,fun _ _ x=>x,List.prefix_rfl⟩,rfl⟩
  ·exact(Nx.refl h).up Oe
 ·exact(Nx.refl h).up Oe
theorem Iv.log (s:Ou):Nx (N+1) σ { σ with log:=σ.log++[s] }:=by
 obtain⟨n,h1,U⟩:=h.pz;exact⟨⟨⟨n+1,⟨h1.go.up (Nat.le_succ _),Nat.le_succ_of_le h1.ow,Nat.le_succ_of_le h1.fn,by have:=h1.lg;simp;omega,Nat.le_succ_of_le h1.se,h1.oe⟩,by show ((n+1:Nat):Int)<=N+1+10000 * σ.steps;omega⟩,h.gm,h.fn,h.ca,h.lr,h.lo⟩,⟨Pg,Pg,rfl,Pg,fun _ _ x=>x,List.prefix_append _ _⟩,rfl⟩
end
theorem gvR {n:Nat}{o:Int}(h:0<=o/\o<n):Gv n (SQ o):=⟨fun e=>absurd rfl e,sm0,fun _=>h⟩
theorem afm {l:List Va}:∀ σ bM,Ex σ bM->(∀ v ∈ l,Gv σ.M.objs.length v)->∀ v ∈ l,Gv bM.M.objs.length v:=fun _ _ e h v am=>(h v am).up e.ob
theorem aue {α:Type}{l:List α}{x:α × Nat}(h:x ∈ l.zipIdx):x.1 ∈ l:=by
 obtain⟨a,i⟩:=x;exact List.fst_mem_of_mem_zipIdx h
theorem Iv.args (h:Iv N σ){args:List Va}(hl:args.length<=1500)(ay:∀ v ∈ args,Gv σ.M.objs.length v):Nx (N+2+args.length) σ (Qa args σ).2/\Gv (Qa args σ).2.M.objs.length (Qa args σ).1:=by
 have⟨o,aO⟩:=xE (σ.M.objs.length:Int);have h1:=h.OY (c:=0) Oe;have U:=h1.iv.put (v:=V7 args.length) (gvN (by unfold Nb;omega)) o Xn false
 have f4:=h1.trans U;have av:Nx _ _ (args.zipIdx.foldl (fun σ (v,i)=>σ.Qx o (Xo ⟨#[97]⟩ (YK i)) v false) _):=Nx.fold (P:=fun σ=>∀ v ∈ args,Gv σ.M.objs.length v) (k:=1) afm args.zipIdx (fun x ac N σ h al=>by
  have aR:=aue ac;obtain⟨v,i⟩:=x;exact h.put (al _ aR) _ _ _) f4.iv (afm _ _ f4.ex ay)
 unfold Qa;rw[<-aO];refine⟨(f4.trans av).up (by rw[List.length_zipIdx];push_cast;omega),gvR ⟨by omega,?_⟩⟩
 refine Int.lt_of_lt_of_le ?_ (Int.ofNat_le.2 av.ex.ob);have cf:(({ σ with M:=σ.M.OY 0 }:St).Qx o Xn (V7 args.length) false).M.objs.length=σ.M.objs.length+1:=by
  show (Mo.put _ _ _ _ _).2.objs.length=_
  rw[(Vl _ _ _ _ _).ol];simp[Mo.OY]
 rw[cf];omega
theorem adZ:∀ (no:Option Nat) (ap:List Tr) (i:Nat),((WU no ap).getD i asqq).2=ap.getD i asqq.2
 | _,[],i=>by simp[WU]
 | no,t::ap,0=>rfl
 | no,t::ap,i+1=>by
  rw[WU];exact adZ _ ap i
theorem V3 (d:Nd)(i:Nat):(Oa d i).2=d.2.kids.getD i asqq.2:=adZ _ _ _
theorem ZM {α:Type}{f:St->α->St}{s:Int}(aF:∀ σ a,N4 σ.M s->N4 (f σ a).M s):∀ (l:List α) {σ:St},N4 σ.M s->N4 (l.foldl f σ).M s
 | [],_,h=>h
 | a::l,σ,h=>ZM aF l (aF σ a h)
theorem auf {s:Int}(h:N4 σ.M s)(args:List Va):N4 (Qa args σ).2.M s:=by
 unfold Qa;refine ZM (fun σ a h=>?_) _ ?_
 ·obtain⟨v,i⟩:=a;exact h.chg (Vl _ _ _ _ _) Ol
 ·exact N4.chg (M:=σ.M.OY 0) h (Vl _ _ _ _ _) Ol
section
variable (h:Iv N σ)
include h
theorem Iv.body {d:Nd}{p:Pl}(hd:Fg d.2)(al:Po p σ)(aN:N4 σ.M p.scope){args:List Va}(hl:args.length<=1500)(ay:∀ v ∈ args,Gv σ.M.objs.length v) :
  Nx (N+8000) σ (QB d p args σ)/\Bk (Oa d 1).2/\∀ k ∈ Px (Oa d 1),Pj k.2=true->K4 (QB d p args σ).M p.scope k.2.tx:=by
 obtain⟨kd,s,n,BC,b,nc,s0,A⟩:=hd.sh;have aI:(Oa d 0).2=BC:=by rw[V3,nc];rfl
 have aw:(Oa d 1).2=b:=by rw[V3,nc];rfl
 have hbk:Bk (Oa d 1).2:=by
  rw[aw];have aR:b ∈ d.2.kids:=by rw[nc];exact List.mem_cons_of_mem _ (List.mem_singleton.2 rfl)
  exact Nk.bk (c:=4) ⟨A,by have:=Yv aR;have:=hd.ct;omega,(ZB hd.nb).1 b aR⟩ Oe
 have eM:(Oa d 0).2.kids.length<=8:=by
  rw[aI]
  cases s0 with
  | aly _ hl=>exact hl
 refine⟨?_,hbk,?_⟩
 all_goals
  have h1:Nx _ _ (((Oa d 0).2.kids.zipIdx).foldl (fun σ (k,i)=>Hp.settle p.scope k.tx (args.getD i vU) σ) σ):=Nx.fold (P:=fun σ=>∀ v ∈ args,Gv σ.M.objs.length v) (k:=1) afm (Oa d 0).2.kids.zipIdx (fun x ac N σ h al=>by
   obtain⟨k,i⟩:=x;refine h.settle ?_ _ _;rw[List.getD_eq_getElem?_getD]
   cases az:args[i]? with
   | none=>exact Vs _
   | some v=>exact al v (List.mem_of_getElem? az)) h ay
  have bT:N4 (((Oa d 0).2.kids.zipIdx).foldl (fun σ (k,i)=>Hp.settle p.scope k.tx (args.getD i vU) σ) σ).M p.scope:=ZM (fun σ a h=>by
   obtain⟨k,i⟩:=a;exact amW h _ _ _) _ aN
  unfold QB;simp only
  generalize ((Oa d 0).2.kids.zipIdx).foldl (fun σ (k,i)=>Hp.settle p.scope k.tx (args.getD i vU) σ) σ=σ1 at h1 bT ⊢
  rw[List.length_zipIdx] at h1;have ha1:=afm _ _ h1.ex ay;have⟨b6,zZ⟩:=xE (if hasArgs (Oa d 0).2.kids (Oa d 1).2=true then (Qa args σ1).2.dec p.scope tArgs 0 (Qa args σ1).1 else σ1);have U:Nx (N+1600) σ b6/\N4 b6.M p.scope:=by
   rw[zZ]
   split
   ·have⟨bx,cf⟩:=h1.iv.args hl ha1;have g2:=bx.iv.dec cf p.scope tArgs 0;exact⟨((h1.trans bx).trans g2).up (by push_cast;omega),(auf bT args).chg (UA _ _ _ _ _) Ol⟩
   ·exact⟨h1.up (by push_cast;omega),bT⟩
  rw[<-zZ];obtain⟨U,cY⟩:=U;clear zZ;have av:Nx _ _ ((Py (Oa d 1).2).foldl (fun σ nm=>σ.dec p.scope nm 0 vU) b6):=Nx.fold (P:=fun _=>True) (k:=1) (fun _ _ _ h=>h) (Py (Oa d 1).2) (fun x _ N σ h _=>h.dec (Vs _) _ _ _) U.iv trivial;have hA:N4 ((Py (Oa d 1).2).foldl (fun σ nm=>σ.dec p.scope nm 0 vU) b6).M p.scope:=ZM (fun σ a h=>h.chg (UA _ _ _ _ _) Ol) _ cY
  generalize (Py (Oa d 1).2).foldl (fun σ nm=>σ.dec p.scope nm 0 vU) b6=qX at av hA ⊢
  have h5:=aax hbk;have ij:=Tf hbk;have bx:=av.iv.lets (OZ (Oa d 1).2) p.scope;have cf:=bx.iv.funcs (d:=Oa d 1) hbk ((al.up (U.trans av).ex).up bx.ex)
 ·exact(((U.trans av).trans bx).trans cf).up (by push_cast;omega)
 ·exact fun k E hl=>cf.ex.k4 _ _ (ZL _ av.iv hA _ (Yy (Qh E) hl))
theorem Iv.loosen (s:Int)(nm:Ou):Nx (N+1) σ (loosen s nm σ):=by
 unfold Hp.loosen
 split
 ·exact(Nx.refl h).up Oe
 ·split
  ·exact h.put (Vs _) _ _ _
  ·exact h.dec (Vs _) _ _ _
theorem Iv.auZ {d:Nd}{p:Pl}(hd:Bk d.2)(al:Po p σ):Nx (N+8000) σ (OB d p σ).2/\Po (OB d p σ).1 (OB d p σ).2/\∀ k ∈ Px d,Pj k.2=true->K4 (OB d p σ).2.M (OB d p σ).1.scope k.2.tx:=by
 have h1:Nx _ _ ((SK d.2).foldl (fun σ nm=>Hp.loosen p.declares nm σ) σ):=Nx.fold (P:=fun _=>True) (k:=1) (fun _ _ _ h=>h) (SK d.2) (fun x _ N σ h _=>h.loosen _ _) h trivial;unfold OB;simp only
 generalize (SK d.2).foldl (fun σ nm=>Hp.loosen p.declares nm σ) σ=σ1 at h1 ⊢
 have x9:(SK d.2).length<=3000:=by
  have:=aax hd;have:=aqr hd;unfold SK;rw[List.length_append,List.length_map];omega
 have⟨q,ag⟩:=xE (if 0<(OZ d.2).length then ({ p with scope:=σ1.top },PN (OZ d.2) σ1.top (σ1.opn p.scope (-1) (-3))) else (p,σ1):Pl × St);rw[<-ag];have U:Nx (N+4600) σ q.2/\Po q.1 q.2/\∀ k ∈ Px d,Pj k.2=true->K4 q.2.M q.1.scope k.2.tx:=by
  rw[ag]
  split
  ·have bx:=h1.iv.opn p.scope (-1) (-3);have cf:=bx.iv.lets (OZ d.2) σ1.top;have ij:=Tf hd;refine⟨((h1.trans bx).trans cf).up (by push_cast;omega),Po.up ?_ cf.ex,fun k E hl=>ZL _ bx.iv (ae8 _ _ _) _ (Yy (Qh E) hl)⟩
   exact⟨by show (0:Int)<=(σ1.M.Ov.length:Int);omega,by show (σ1.M.Ov.length:Int)<_;simp[St.opn,Mo.scope];omega⟩
  ·rename_i h0
   refine⟨h1.up (by push_cast;omega),al.up h1.ex,fun k E hl=>?_⟩
   have:=Yy (Qh E) hl;rw[List.eq_nil_of_length_eq_zero (by omega:(OZ d.2).length=0)] at this;cases this
 clear ag;obtain⟨U,bb,eK⟩:=U;have av:Nx _ _ ((SX d).foldl (fun σ k=>let r:=Hp.mkFun k q.1 σ;{ r.2 with M:=(r.2.M.write q.1.declares k.2.tx r.1).2 }) q.2):=Nx.fold (P:=Po q.1) (k:=2) aqs (SX d) (fun a ay N σ h al=>by
  have⟨h1,U⟩:=h.mkFun (Y5 hd a ay) al;exact(h1.trans (h1.iv.write U _ _)).up (by push_cast;omega)) U.iv bb
 have fO:=acD hd;exact⟨(U.trans av).up (by push_cast;omega),bb.up av.ex,fun k E hl=>av.ex.k4 _ _ (eK k E hl)⟩
theorem Iv.prog {d:Nd}(hd:Bk d.2)(aN:N4 σ.M 1):Nx (N+8000) σ (Pq d σ).2/\Po (Pq d σ).1 (Pq d σ).2/\∀ k ∈ Px d,Pj k.2=true->K4 (Pq d σ).2.M (Pq d σ).1.scope k.2.tx:=by
 have h1:Nx _ _ ((Py d.2).foldl (fun σ nm=>if σ.M.has 0 nm then σ else σ.Qx 0 nm vU true) σ):=Nx.fold (P:=fun _=>True) (k:=1) (fun _ _ _ h=>h) (Py d.2) (fun x _ N σ h _=>by
  split
  ·exact(Nx.refl h).up Oe
  ·exact h.put (Vs _) _ _ _) h trivial
 have bT:N4 ((Py d.2).foldl (fun σ nm=>if σ.M.has 0 nm then σ else σ.Qx 0 nm vU true) σ).M 1:=ZM (fun σ a h=>by
  split
  ·exact h
  ·exact h.chg (Vl _ _ _ _ _) Ol) _ aN
 unfold Pq;simp only
 generalize (Py d.2).foldl (fun σ nm=>if σ.M.has 0 nm then σ else σ.Qx 0 nm vU true) σ=σ1 at h1 bT ⊢
 have h5:=aax hd;have ij:=Tf hd;have U:=h1.iv.lets (OZ d.2) 1;have bb:Po ⟨1,0,OU d.2⟩ (PN (OZ d.2) 1 σ1):=⟨by show (0:Int)<=1;omega,by show (1:Int)<_;have:=U.iv.lr;omega⟩
 have av:Nx _ _ ((SX d).foldl (fun σ k=>let r:=Hp.mkFun k ⟨1,0,OU d.2⟩ σ;r.2.Qx 0 k.2.tx r.1 true) (PN (OZ d.2) 1 σ1)):=Nx.fold (P:=Po ⟨1,0,OU d.2⟩) (k:=2) aqs (SX d) (fun a ay N σ h al=>by
  have⟨h1,U⟩:=h.mkFun (Y5 hd a ay) al;exact(h1.trans (h1.iv.put U _ _ _)).up (by push_cast;omega)) U.iv bb
 have fO:=acD hd;exact⟨((h1.trans U).trans av).up (by push_cast;omega),bb.up av.ex,fun k E hl=>av.ex.k4 _ _ (ZL _ h1.iv bT _ (Yy (Qh E) hl))⟩
end
end
section
variable {w0:Og} {mb af:Nat} {O:List Nat} {es aT aB aA aK:Ot} {w w':Og} {σ:St} {N:Nat} {F:Fx} {L:Option Nat} {u:Ot} {vs:List Va}
def U7 (au:Int)(ps:List Tr)(vs:List Va)(k:Nat)(σ:St):St:=(ps.zipIdx.take k).foldl (fun σ (k,i)=>settle au k.tx (vs.getD i vU) σ) σ
theorem adN (au:Int)(ps:List Tr)(vs:List Va)(k:Nat)(σ:St)(hl:k<ps.length):U7 au ps vs (k+1) σ=settle au (ps[k]).tx (vs.getD k vU) (U7 au ps vs k σ):=by
 have U:k<ps.zipIdx.length:=by rw[List.length_zipIdx];exact hl
 unfold U7;rw[List.take_succ_eq_append_getElem U,List.foldl_append,List.getElem_zipIdx];simp
theorem Sz.U7 (au:Int)(ps:List Tr)(vs:List Va):∀ (k:Nat) {σ:St},Sz N σ->k<=ps.length->Sz (N+k) (U7 au ps vs k σ)
 | 0,_,h,_=>h
 | k+1,σ,h,E=>by
  rw[adN au ps vs k σ Oe];exact(Sz.U7 au ps vs k h Oe).settle _ _ _
def Y4 (au:Int)(l:List Ou)(k:Nat)(σ:St):St:=(l.take k).foldl (fun σ nm=>σ.dec au nm 0 vU) σ
theorem adO (au:Int)(l:List Ou)(k:Nat)(σ:St)(hl:k<l.length):Y4 au l (k+1) σ=(Y4 au l k σ).dec au l[k] 0 vU:=by
 unfold Y4;exact apl
theorem Sz.Y4 (au:Int)(l:List Ou):∀ (k:Nat) {σ:St},Sz N σ->k<=l.length->Sz (N+k) (Y4 au l k σ)
 | 0,_,h,_=>h
 | k+1,σ,h,E=>by
  rw[adO au l k σ Oe];exact(Sz.Y4 au l k h Oe).dec _ _ _ _
theorem Sz.args {vs:List Va}(h:Sz N σ):Sz (N+2+vs.length) (Qa vs σ).2:=by
 have aI:(Qa vs σ).2=Hp.Wn σ.M.objs.length vs vs.length (({ σ with M:=σ.M.OY 0 }:St).Qx σ.M.objs.length Xn (V7 vs.length) false):=by
  unfold Qa Hp.Wn;rw[List.take_of_length_le (Nat.le_of_eq List.length_zipIdx)]
 rw[aI];exact Sz.Wn _ _ _ ((h.heap (Nat.le_succ _) (h.go.OY 0) rfl:Sz (N+1) _).Qx _ _ _ _) Pg
theorem OJ.aGA {a:Ad}{d:Nd}{u:Ot}(h:OJ O w a d)(ai:w.cell? (N9 a.p 3)=some u)(E:Kp w w'):Uo 0 w' u d.2.kids/\Ug w' d.2 a.p:=by
 have ax:Ug w' d.2 a.p:=by rw[<-h.tr];exact(Ri.kp E _ h.at_).nat.nt
 obtain⟨_,_,_,v,c3,aa⟩:=ax.cells;have ag:∃ c,w.heap[a.p]? = some (OM c 40):=by
  have h1:=h.at_;exact aw4
 have U:=E.XG ai ag;rw[c3] at U;cases U;exact⟨aa,ax⟩
theorem aw5 (a1:Bs w0 mb af O es)(aZ:Y1 w0)(ac:Mx w0 mb af O aT aB aA aK w σ)(aH:Sz N σ)(hN:N+9000<1000000000){a:Ad}{d:Nd}(hd:OJ O w a d)(E:d.2.kids.length=2)(ai:d.2.count<=1500)(eM:(Oa d 0).2.kids.length<=8)(U:∀ k ∈ SX (Oa d 1),k.2.kids.length=2)(p:Pl)(aC:Option Addr)(aa:Ue w u vs)(hl:vs.length<=1500) :
  Oq 324 #[N7 mb,N7 a.p,PD p aC,u] w fun e w'=>e=OA (.tuple #[])/\∃ WA,Mx w0 mb af O aT aB aA WA w' (QB d p vs σ)/\Q9 mb aA aK aA WA w w':=by
 have bG:=ac.lt;have z:=N8 (∀{G}(h:G:=by
 have cR:=hd.kp (Kp.of aE);have⟨b9,cz,cap0,c3,dv,fU,_⟩:=cR.Yb (i:=0) Oe;have⟨bP,bK,cap1,jL,fW,jf,_⟩:=cR.Yb (i:=1) Oe;rw[E] at c3 jL;rw[c3] at jL;simp only[Option.some.injEq,Value.slice.injEq,Addr.mk.injEq,and_true,true_and] at jL;obtain⟨rfl,rfl⟩:=jL;have rC:Ug w2 (Oa d 0).2 b9.p:=by rw[<-fU.tr];exact fU.at_.nat.nt
 have f9:Ug w2 (Oa d 1).2 bP.p:=by rw[<-jf.tr];exact jf.at_.nat.nt
 obtain⟨Eh,_,_,v0,xO,d'⟩:=rC.cells;obtain⟨NC,cw,qI⟩:=d'.form;subst qI;have Ih:(Oa d 1).2.count<=1500:=by
  have h1:(Oa d 1).2 ∈ d.2.kids:=by
   rw[V3,List.getD_eq_getElem?_getD,List.getElem?_eq_getElem (by omega:1<d.2.kids.length)];exact List.getElem_mem _
  have:=Yv h1;omega
 have IH:=QO (Oa d 1).2;have Jw:=XR (Oa d 1).2;have yo:(Py (Oa d 1).2).length<=1500:=by
  have U:Tr.counts (Oa d 1).2.kids<(Oa d 1).2.count:=by cases (Oa d 1).2;rw[Tr.count];exact Nat.lt_add_of_pos_left Oe
  omega
 have⟨q,ag⟩:=xE a.p;have⟨cK,sn⟩:=xH b9.p;have⟨b1,tJ⟩:=xH bP.p;have ds:=cR.cells.1;have dC:=cell_lt dv;have BT:=hide xO;have⟨ps,qe⟩:=xH ((Oa d 0).2.kids);have⟨bl,ll⟩:=xE (Oa d 1);rw[<-qe.out] at d' eM xO;rw[<-qe.out] at BT;rw[<-ll] at f9 jf U Ih IH Jw yo;rw[<-ag] at c3 ds ⊢;rw[<-sn.out] at dv xO Eh;rw[<-tJ.out] at fW;have⟨rs,eB⟩:=xE (QB d ⟨au,aG,st⟩ vs σ);rw[<-eB]
 have fM:Hid (rs=Sj bl ⟨au,aG,st⟩ (PN (OZ bl.2) au (Y4 au (Py bl.2) (Py bl.2).length (if hasArgs ps bl.2 then (Qa vs (U7 au ps vs ps.length σ)).2.dec au tArgs 0 (Qa vs (U7 au ps vs ps.length σ)).1 else U7 au ps vs ps.length σ)))):=by
  show _=_
  rw[eB,qe.out,ll];unfold QB Y4 U7;rw[List.take_length,List.take_of_length_le (Nat.le_of_eq List.length_zipIdx)]
 have el:=(ac.later aE);have cG:=(Q9.of (o:=aA) (f:=aK) aE (OO bG));have b7:=hide bb;have bq:=(aa.later aE);have gY:=hide U;obtain⟨cV,dM,aQ⟩:=aa.form;subst aQ;have pP:ps.length<=8:=eM;clear ac bb eB ll ag U eM;go_enter func324,ntmps324;go_wp2_with fail;rw[<-bo.out,<-bS];clear bS
 go_region
 have d1:Oo w2 w2.drew:=QI.drew;have⟨aq,mL⟩:=xE w2.drew;rw[<-mL] at d1 ⊢;have eF:=(el.later d1);have cT:=(cG.trans (Q9.of d1 (OO el.lt)));have fk:=hide (stays d1 b7.out);have dg:=(bq.later d1);have q7:=hide (fun X (ak:Kp aq X)=>fU.aGA BT.out (fun b c e A ao=>ak b c e (Kp.of d1 b c e A ao) ao));have r6:=(jf.kp (Kp.of d1));have fQ:=eF.lt;rw[<-qe.out,<-sn.out] at q7;clear mL c3 dv fW xO dC ds Eh;go_wp2_with fail
 go_loopw [32] (fun i wr=>∃ k:Nat,k<=ps.length/\i=NY k/\Mx w0 mb af O aT aB aA aK wr (U7 au ps vs k σ)/\Q9 mb aA aK aA aK w wr/\wr.heap[bc]? = some (OM #[NY au,NY aG,Om st,.pointer aC] 73)/\Ue wr (.slice cV vs.length dM) vs/\Kp aq wr) (fun i _=>ps.length - (intOf i).toNat)
 case atStart=>exact⟨0,Nat.zero_le _,rfl,eF,cT,fk.out,dg,fun _ _ _ h _=>h⟩
 case round=>
  obtain⟨k,c',rfl,jy,hZ,pQ,kz,oT⟩:=hrel;have eS:=jy;have kK:=hZ;have fL:=hide pQ;have ml:=kz;have jp:=oT;have h4:=jy.lt;clear pQ
  by_cases aM:k<ps.length
  ·obtain⟨g,cap,ho,am,hg,ai,ax⟩:=(NZ q7 wr jp).1.cell k aM;simp only[Value.slice.injEq] at am;obtain⟨rfl,_,rfl⟩:=am;obtain⟨nr,_,c1,_⟩:=ax.cells;have hK:(k:Int)<(ps.length:Int):=Oe;have⟨x,ac⟩:=xE ((ps[k]).tx);rw[<-ac] at c1;have dT:=hide ac;have⟨v,am⟩:=xE (vs.getD k vU);have bF:=hide am;have⟨dx,gS⟩:=xE (U7 au ps vs k σ);rw[<-gS] at eS;have jV:Sz (N+k) dx:=by rw[gS];exact Sz.U7 au ps vs k aH Oe
   have a':=hide (fun X (ak:Mx w0 mb af O aT aB aA aK X dx)=>ag1 ak jV Oe au x v);have nO:=hide gS;have e9:=hide c1;clear ac gS c1
   by_cases ay:k<vs.length
   ·have mK:vs[k]? = some v:=by rw[am,List.getD_eq_getElem?_getD,List.getElem?_eq_getElem ay];rfl
    have⟨sI,iZ,Le,aQ,AC,gH,d8,gt⟩:=ml.cells mK;simp only[Value.slice.injEq] at aQ;obtain⟨rfl,_,rfl⟩:=aQ;have qB:(k:Int)<(vs.length:Int):=Oe;clear am mK;go_wp2_with fail;have⟨ce,h6⟩:=xE (wr.alloc (.cells #[NY v.k,NY v.n,Oj v.s] 65));have⟨vb,a7⟩:=xE wr.heap.size;have k1:ce.heap[vb]? = some (Y0 v):=by rw[h6,a7];exact Oi _ _
    exact aB5
   ·have qB:¬ (k:Int)<(vs.length:Int):=Oe;have Ez:v=vU:=by rw[am,List.getD_eq_getElem?_getD,List.getElem?_eq_none Oe];rfl
    have GW:=hide Ez;clear am Ez;go_wp2_with fail;have⟨ce,h6⟩:=xE (wr.alloc (.cells #[NY 0,NY 0,Pm] 65));have⟨vb,a7⟩:=xE wr.heap.size;have k1:ce.heap[vb]? = some (Y0 v):=by rw[h6,a7,GW.out];exact Oi _ _
    exact aB5
  ·have cL:k=ps.length:=Oe;subst cL;have hK:¬ (ps.length:Int)<(ps.length:Int):=Oe;have⟨IZ,eG⟩:=NZ q7 wr jp;have fd:Ug wr bl.2 b1:=by
    rw[tJ.out,<-r6.tr];exact(Ri.kp jp _ r6.at_).nat.nt
   have k6:=(agZ IZ Oe fd Oe);have⟨Hm,cl⟩:=xE (hasArgs ps bl.2);rw[<-cl] at k6 fM;have⟨yC,Bv⟩:=xE (U7 au ps vs ps.length σ);rw[<-Bv] at eS fM;have o4:Sz (N+8) yC:=by rw[Bv];exact(Sz.U7 au ps vs ps.length aH Pg).up Oe
   clear cl Bv;go_wp2_with fail;refine cm k6 ?_;rintro e bD ⟨rfl,dc⟩;have f3:=(eS.later dc);have fD:=(kK.trans (Q9.of dc (OO h4)));have kN:=hide (stays dc fL.out);have rd:=(ml.later dc);have kL:Kp aq bD:=fun b c e A ao=>Kp.of dc b c e (jp b c e A ao) ao;have gz:=f3.lt
   cases Hm with
   | true=>
    have⟨Km,yl⟩:=xE (Qa vs yC);obtain⟨CY,BM⟩:=Km;have⟨fJ,hk⟩:=xE (BM.dec au tArgs 0 CY);have s7:Sz (N+1590) BM:=by
     have h:=o4.args (vs:=vs);rw[<-yl] at h;exact h.up Oe
    have nP:Sz (N+1600) fJ:=by show Sz _ _;rw[hk];exact(s7.dec _ _ _ _).up Oe
    have hs:Hid (rs=Sj bl ⟨au,aG,st⟩ (PN (OZ bl.2) au (Y4 au (Py bl.2) (Py bl.2).length fJ))):=by
     show _=_
     have h:=NZ fM;rw[<-yl,if_pos rfl] at h;rw[h,hk]
    have BQ:=hide (fun X (ak:Mx w0 mb af O aT aB aA aK X yC) (fF:Ue X (.slice cV vs.length dM) vs)=>ag0 a1 aZ ak o4 Oe fF hl);rw[<-yl] at BQ;have tA:=hide (fun X (ak:Mx w0 mb af O aT aB aA aK X BM)=>WY ak s7 Oe au tArgs 0 CY);rw[<-hk] at tA;clear yl hk;go_wp2_with fail;have c8:bD.drew.heap[bc]? = some (OM #[NY au,NY aG,Om st,.pointer aC] 73):=stays (Below.refl bD.heap.size bD).drew kN.out;have ae:Oo bD bD.drew:=QI.drew
    refine Qs 8 (fun X=>X.heap[bc]? = some (OM #[NY au,NY aG,Om st,.pointer aC] 73)) Pe ?_;refine up 0 mb 0 c8 ?_;refine up 1 mb 0 c8 ?_;refine up 2 mb 0 c8 ?_;refine up 3 bc 0 c8 ?_;refine uc 4 (NY au) rfl (Or.inl ⟨by kernel_rfl,fun X ak=>by have h0:=(cells4 ak).1;go_simp⟩) (c8) ?_
    refine up 5 mb 0 c8 ?_;refine uh 6 (.slice cV vs.length dM) (c8) ?_;refine PS 7 fun K D=>?_;go_simp;refine cm (NZ BQ _ (f3.later ae) (rd.later ae)) ?_;rintro e ce ⟨rfl,l4,hJ⟩;have g7:=f3.later ae;have qF:=(hJ.frL (L:=none) g7).keep c8 Ol;refine D.out _ _ (fun _=>qF) ?_;clear D K;have jh:=l4.lt;have g':=((fD.trans (Q9.of ae (OO gz))).trans hJ);have mf:Kp aq ce:=fun b c e A ao=>hJ.kp g7 b c e (Kp.of ae b c e (kL b c e A ao) ao) ao;have ja:=hide qF;clear qF;refine PS 8 fun K D=>?_;go_simp
    refine cm (NZ tA _ l4) ?_;rintro e i7 ⟨rfl,uF,rq⟩;refine ko D ?_;clear D K;have lQ:=hide uF;have i':=hide (g'.Xa rq);have iP:=hide (rq.rest _ _ _ ja.out Ol);have k8:Hid (Kp aq i7):=fun b c e A ao=>O8.kp rq b c e (mf b c e A ao) ao;have nk:=uF.lt;clear c8;refine RY ?_ _;go_simp;have bF:=hide (fun X (ak:Kp aq X)=>WJ bl.2 b1 X (by
     rw[tJ.out,<-r6.tr];exact(Ri.kp ak _ r6.at_).nat.nt) Oe)
    go_wp2_with fail;refine cm (NZ bF _ k8.out) ?_;have z:=N8 (∀{G}(h:G:=by
    have rf:=(lQ.out.later hH);have p7:=(i'.out.trans (Q9.of hH (OO nk)));have vn:=hide (stays hH iP.out);have xv:Kp aq d6:=fun b c e A ao=>Kp.of hH b c e (NZ k8 b c e A ao) ao;exact aB6),G);exact aB7
   | false=>
    have⟨fJ,hk⟩:=xE yC;have⟨i7,lz⟩:=xE bD;have hs:Hid (rs=Sj bl ⟨au,aG,st⟩ (PN (OZ bl.2) au (Y4 au (Py bl.2) (Py bl.2).length fJ))):=by
     show _=_
     rw[fM.out,hk];rfl
    have nP:Sz (N+1600) fJ:=by show Sz _ _;rw[hk];exact o4.up Oe
    have lQ:=f3;have i':=fD;have iP:=kN;have k8:=kL;have nk:=gz;rw[<-hk,<-lz] at lQ;rw[<-lz] at i' iP k8 nk ⊢;clear hk lz;have bF:=hide (fun X (ak:Kp aq X)=>WJ bl.2 b1 X (by
     rw[tJ.out,<-r6.tr];exact(Ri.kp ak _ r6.at_).nat.nt) Oe)
    go_wp2_with fail;refine cm (NZ bF _ k8) ?_;have z:=N8 (∀{G}(h:G:=by
    have rf:=(lQ.later hH);have p7:=(i'.trans (Q9.of hH (OO nk)));have vn:=hide (stays hH iP.out);have xv:Kp aq d6:=fun b c e A ao=>Kp.of hH b c e (k8 b c e A ao) ao;exact aB6),G);exact aB7),G);exact zss
def Eo (σ:St):Er->Prop
 | .no=>σ.steps<=20000
 | .stop=>σ.steps=20001
 | .X8 v=>σ.steps<=20000/\Gv σ.M.objs.length v
 | .mis=>False
structure VO (N:Int)(σ:St)(r:(Va × Er) × St):Prop where
 iv:Iv N r.2
 ex:Ex σ r.2
 er:Eo r.2 r.1.2
 va:Gv r.2.M.objs.length r.1.1
structure Q (f:Nat)(N:Int)(p:Pl)(σ:St):Prop where
 fu:20001<σ.steps+f
 st:σ.steps<=20000
 iv:Iv N σ
 po:Po p σ
def Lg (σ:St)(l:Option Va):Prop:=∀ v,l=some v->Gv σ.M.objs.length v
structure SO (N:Int)(σ:St)(r:(Oc × Er × Option Va) × St):Prop where
 iv:Iv N r.2
 ex:Ex σ r.2
 er:Eo r.2 r.1.2.1
 va:Gv r.2.M.objs.length r.1.1.v
 la:Lg r.2 r.1.2.2
structure FI (F:Fx)(f:Nat):Prop where
 v:∀ {N d p σ},Q f N p σ->Nk 0 d.2->VO N σ (F.v d p σ)/\σ.steps<(F.v d p σ).2.steps
 s:∀ {N d p l σ},Q f N p σ->Nk 1 d.2->(Pj d.2=true->K4 σ.M p.scope d.2.tx)->Lg σ l->SO N σ (F.s d p l σ)/\σ.steps<(F.s d p l σ).2.steps
end
section
variable {N N':Int} {σ σ1 b6:St} {v:Va} {e:Er} {f:Nat} {p:Pl} {F:Fx} {d:Nd} {l bQ:Option Va} {o:Oc}
section
variable (h:Q f N p σ)
include h
theorem Q.nx (k:Nx N' σ σ1):Q f N' p σ1:=⟨by rw[k.st];exact h.fu,by rw[k.st];exact h.st,k.iv,h.po.up k.ex⟩
theorem Q.next (k:VO N' σ ((v,.no),σ1)):Q f N' p σ1:=⟨by have:=h.fu;have:=k.ex.st;dsimp only at this;omega,k.er,k.iv,h.po.up k.ex⟩
theorem Q.nexts (k:SO N' σ ((o,.no,l),σ1)):Q f N' p σ1:=⟨by have:=h.fu;have:=k.ex.st;dsimp only at this;omega,k.er,k.iv,h.po.up k.ex⟩
end
theorem VO.up {r:(Va × Er) × St}(h:VO N σ r)(hN:N<=N'):VO N' σ r:=⟨h.iv.up hN,h.ex,h.er,h.va⟩
theorem SO.up {r:(Oc × Er × Option Va) × St}(h:SO N σ r)(hN:N<=N'):SO N' σ r:=⟨h.iv.up hN,h.ex,h.er,h.va,h.la⟩
theorem VO.after {r:(Va × Er) × St}(k:Ex σ σ1)(h:VO N σ1 r):VO N σ r:=⟨h.iv,k.trans h.ex,h.er,h.va⟩
theorem SO.after {r:(Oc × Er × Option Va) × St}(k:Ex σ σ1)(h:SO N σ1 r):SO N σ r:=⟨h.iv,k.trans h.ex,h.er,h.va,h.la⟩
theorem VO.err (h:VO N σ ((v,e),σ1)):VO N σ ((vU,e),σ1):=⟨h.iv,h.ex,h.er,Vs _⟩
theorem VO.aqu (h:VO N σ ((v,e),σ1))(hl:Lg σ l):SO N σ ((Qy,e,l),σ1):=⟨h.iv,h.ex,h.er,Vs _,fun x ac=>(hl x ac).up h.ex.ob⟩
theorem VO.ret (h:Nx N σ σ1)(ab:σ.steps<=20000)(am:Gv σ1.M.objs.length v):VO N σ ((v,.no),σ1):=⟨h.iv,h.ex,by show σ1.steps<=20000;rw[h.st];exact ab,am⟩
theorem VO.bad {s:Ou}(h:Nx N σ σ1)(ab:σ.steps<=20000)(am:Sm s):VO N σ ((vU,bad s),σ1):=⟨h.iv,h.ex,⟨by rw[h.st];exact ab,gvT am⟩,Vs _⟩
theorem Lg.up (h:Lg σ l)(k:Ex σ σ1):Lg σ1 l:=fun x ac=>(h x ac).up k.ob
theorem SO.ret (h:Nx N σ σ1)(ab:σ.steps<=20000)(am:Gv σ1.M.objs.length o.v)(hl:Lg σ1 l):SO N σ ((o,.no,l),σ1):=⟨h.iv,h.ex,by show σ1.steps<=20000;rw[h.st];exact ab,am,hl⟩
theorem ak7 {lR:Nat}{M:Mo}{o:Int}{nm:Ou}{q:Pr}(h:Gm lR M)(al:M.prop o nm=some q):Gv M.objs.length q.v:=by
 unfold Mo.prop at al;have⟨x,h1,U⟩:=Option.bind_eq_some_iff.1 al;have ac:x ∈ M.objs:=aD1
 exact h.pv x ac q (List.mem_of_find?_eq_some U)
theorem aug {lR:Nat}{M:Mo}(h:Gm lR M)(s:Int)(nm:Ou):Gv M.objs.length (M.read s nm).1:=by
 unfold Mo.read
 cases ai:M.YI s nm with
 | some c=>
  simp only
  split
  ·exact aDO
  ·exact Vs _
 | none=>
  simp only
  cases al:M.prop (M.QX s) nm with
  | none=>exact Vs _
  | some q=>exact ak7 h al
theorem smR:Sm QN:=by decide
theorem smT:Sm tType:=by decide
theorem smG:Sm Uw:=by decide
theorem smS:Sm Uk:=by decide
theorem aqv {M:Mo}{o:Int}(h:0<=o/\o<M.objs.length)(nm:Ou)(v:Va)(fx:Bool):(M.put o nm v fx).1=0:=by
 unfold Mo.put
 rcases QG M o with ⟨_,h1⟩|⟨i,x,rfl,ac,h1⟩
 ·omega
 ·rw[h1];simp only
  split
  ·rfl
  ·split <;> rfl
theorem aqw {M:Mo}{s:Int}{nm:Ou}(h:K4 M s nm)(v:Va):(M.start s nm v).1=0:=by
 obtain⟨i,x,c,rfl,ac,ai,h1,_⟩:=h;unfold Mo.start
 rcases PK M i with ⟨_,U⟩|⟨j,y,e,hy,U⟩
 ·have:=(List.getElem?_eq_some_iff.1 ac).1;omega
 ·have e:i=j:=Oe;subst e;rw[ac] at hy;cases hy;rw[U];simp only
  rcases VN (fun c=>YW nm c.name) x.cs with ⟨av,_⟩|⟨k,eT,av,aN,_,_⟩
  ·exact absurd (List.findIdx?_eq_none_iff.1 av c ai) (by rw[h1];simp)
  ·rw[show fC nm x.cs=some k from av];simp only[aN]
section
variable (h:Iv N σ) (ab:σ.steps<=20000) (am:Gv σ.M.objs.length v) (s:Int) (nm:Ou) (st:Bool)
include h ab am s nm st
theorem amX:Iv (N+1) (Wy s nm v st σ).2/\Ex σ (Wy s nm v st σ).2/\Eo (Wy s nm v st σ).2 (Wy s nm v st σ).1:=by
 unfold Wy
 split
 ·exact⟨h.up Oe,Ex.refl _,ab,gvT smR⟩
 ·simp only;have⟨q,ag⟩:=xE (if σ.M.QX s = -1 then 0 else σ.M.QX s);rw[<-ag];have eX:0<=q/\q<σ.M.objs.length:=by
   have n1:=h.lo;rw[ag]
   split
   ·omega
   ·rename_i h0
    obtain⟨n,aH,_⟩:=h.pz;unfold Mo.QX at h0 ⊢
    rcases PK σ.M s with ⟨h1,_⟩|⟨i,x,rfl,ac,h1⟩
    ·rw[h1] at h0;exact absurd rfl h0
    ·rw[h1] at h0 ⊢;change x.object≠-1 at h0
     show 0<=x.object/\x.object<_
     rcases aH.go.ok.obj i x ac with U|⟨j,U,av⟩
     ·exact absurd U h0
     ·omega
  have h1:=h.put am q nm false;refine⟨h1.iv,h1.ex,?_⟩;rw[aqv eX]
  show (σ.Qx q nm v false).steps<=20000
  exact ab
theorem aqx:Iv (N+2) (Zj s nm v st σ).2/\Ex σ (Zj s nm v st σ).2/\Eo (Zj s nm v st σ).2 (Zj s nm v st σ).1:=by
 have h1:=h.write am s nm;unfold Zj;simp only;have az:=h1.iv.up (show N+1<=N+2 by omega)
 split
 ·have⟨U,av,aN⟩:=amX h1.iv ab (am.up h1.ex.ob) s nm st;exact⟨U.up Oe,h1.ex.trans av,aN⟩
 ·split
  ·exact⟨az,h1.ex,ab,gvT smR⟩
  ·split
   ·exact⟨az,h1.ex,ab,gvT smT⟩
   ·split
    ·refine⟨az,h1.ex,?_⟩
     dsimp only
     split
     ·exact⟨ab,gvT smT⟩
     ·exact ab
    ·exact⟨az,h1.ex,ab⟩
end
theorem ak8 (M:Nat)(n:Int):Gv M (UN n).1/\((UN n).2=.no\/(UN n).2=bad Uw):=by
 unfold UN
 split
 ·exact⟨Vs _,.inr rfl⟩
 ·exact⟨gvN ⟨by omega,by omega⟩,.inl rfl⟩
theorem auh (n:Nat)(M:Mo)(kd:Int)(a b:Va):Gv n (UO M kd a b).1/\((UO M kd a b).2=.no\/∃ s,(UO M kd a b).2=bad s/\Sm s):=by
 have ax:∀ k,Gv n (UN k).1/\((UN k).2=.no\/∃ s,(UN k).2=bad s/\Sm s):=fun k=>⟨(ak8 n k).1,(ak8 n k).2.imp id fun e=>⟨_,e,smG⟩⟩;unfold UO
 split
 ·exact⟨gvB _ _,.inl rfl⟩
 ·split
  ·split
   ·exact⟨gvB _ _,.inl rfl⟩
   ·split
    ·exact ax _
    ·split <;> exact ax _
  ·split
   ·split
    ·exact⟨Vs _,.inr ⟨_,rfl,smG⟩⟩
    ·rename_i h0
     refine⟨gvT ?_,.inl rfl⟩;have:(Xo (M.shw a) (M.shw b)).size=(M.shw a).size+(M.shw b).size:=by
      show (List.toArray _).size=_
      rw[List.size_toArray,List.length_append];rfl
     unfold Sm;omega
   ·split
    ·exact⟨gvB _ _,.inl rfl⟩
    ·exact⟨Vs _,.inr ⟨_,rfl,smT⟩⟩
theorem aui (M:Mo)(v:Va):Sm (Vq M v):=by
 unfold Vq
 repeat' split
 all_goals decide
structure LO (N:Int)(σ:St)(r:(List Va × Er) × St)(n:Nat):Prop where
 iv:Iv N r.2
 ex:Ex σ r.2
 er:Eo r.2 r.1.2
 va:∀ v ∈ r.1.1,Gv r.2.M.objs.length v
 ln:r.1.1.length<=n
theorem ab7 (ah:FI F f):∀ (aW:List Nd) (aX:List Va) {σ:St},Q f N p σ->(∀ d ∈ aW,Nk 0 d.2)->(∀ v ∈ aX,Gv σ.M.objs.length v)->LO N σ (Tn F p aW aX σ) (aX.length+aW.length)
 | [],aX,σ,h,_,ay=>⟨h.iv,Ex.refl _,h.st,ay,Pg⟩
 | d::aW,aX,σ,h,hd,ay=>by
  have h1:=(ah.v h (hd d List.mem_cons_self)).1;rw[Tn]
  rcases aa:F.v d p σ with ⟨⟨v,e⟩,σ1⟩
  rw[aa] at h1
  cases e with
  | no=>
   have U:=ab7 ah aW (aX++[v]) (h.next h1) (fun x ac=>hd x (List.mem_cons_of_mem _ ac)) (fun x ac=>by
    rcases List.mem_append.1 ac with ac|ac
    ·exact(ay x ac).up h1.ex.ob
    ·rw[List.mem_singleton.1 ac];exact h1.va)
   exact⟨U.iv,h1.ex.trans U.ex,U.er,U.va,by have:=U.ln;simp at this ⊢;omega⟩
  | _=>exact⟨h1.iv,h1.ex,h1.er,(fun x ac=>by cases ac),Nat.zero_le _⟩
theorem aam (ah:FI F f):∀ (aW:List Nd) {l:Option Va} {σ:St},Q f N p σ->(∀ d ∈ aW,Nk 1 d.2)->(∀ d ∈ aW,Pj d.2=true->K4 σ.M p.scope d.2.tx)->Lg σ l->SO N σ (Qm F p aW l σ)
 | [],l,σ,h,_,_,hl=>⟨h.iv,Ex.refl _,h.st,Vs _,hl⟩
 | d::aW,l,σ,h,hd,E,hl=>by
  have h1:=(ah.s h (hd d List.mem_cons_self) (E d List.mem_cons_self) hl).1;rw[Qm]
  rcases aa:F.s d p l σ with ⟨⟨o,e,bQ⟩,σ1⟩
  rw[aa] at h1
  cases e with
  | no=>
   dsimp only
   split
   ·exact h1
   ·exact(aam ah aW (h.nexts h1) (fun x ac=>hd x (List.mem_cons_of_mem _ ac)) (fun x ac eC=>h1.ex.k4 _ _ (E x (List.mem_cons_of_mem _ ac) eC)) h1.la).after h1.ex
  | _=>exact h1
theorem ad1 {g:St->(Va × Er) × St}(h:Q f N p σ)(hg:σ.calls≠40->VO N' { σ with calls:=σ.calls+1 } (g { σ with calls:=σ.calls+1 }))(hN:N<=N'):VO N' σ (within σ g):=by
 unfold Hp.within
 split
 ·exact .bad ((Nx.refl h.iv).up hN) h.st smG
 ·rename_i h0
  have h1:=hg h0;have ai:=h1.ex.ca
  dsimp only at ai
  refine⟨?_,⟨h1.ex.ro,h1.ex.ob,by show (g _).2.calls - 1=σ.calls;rw[ai];rfl,h1.ex.st,h1.ex.k4,h1.ex.lg⟩,?_,h1.va⟩
  ·obtain⟨n,aH,ax⟩:=h1.iv.pz;exact⟨⟨n,⟨aH.go,aH.ow,aH.fn,aH.lg,aH.se,aH.oe⟩,ax⟩,h1.iv.gm,h1.iv.fn,by have:=h1.iv.ca;show (g _).2.calls - 1<=40;omega,h1.iv.lr,h1.iv.lo⟩
  ·have U:=h1.er
   dsimp only
   revert U
   cases (g { σ with calls:=σ.calls+1 }).1.2 with
   | _=>exact id
theorem Q.call (h:Q f N p σ)(ai:σ.calls≠40):Q f N p { σ with calls:=σ.calls+1 }:=by
 obtain⟨n,aH,ax⟩:=h.iv.pz;exact⟨h.fu,h.st,⟨⟨n,⟨aH.go,aH.ow,aH.fn,aH.lg,aH.se,aH.oe⟩,ax⟩,h.iv.gm,h.iv.fn,by have:=h.iv.ca;show σ.calls+1<=40;omega,h.iv.lr,h.iv.lo⟩,h.po⟩
theorem aqy (ah:FI F f)(h:Q f N p σ){fn:Fu}(hv:Fg fn.d.2){args:List Va}(hl:args.length<=1500)(ay:∀ v ∈ args,Gv σ.M.objs.length v):VO (N+9000) σ (VE F fn args σ):=by
 unfold VE;refine ad1 h (fun ai=>?_) Oe;have h1:=h.call ai
 dsimp only
 have U:=h1.iv.opn fn.scope (-1) (own fn.d);have ha1:∀ v ∈ args,Gv (St.opn { σ with calls:=σ.calls+1 } fn.scope (-1) (own fn.d)).M.objs.length v:=ay;have bT:=ae8 { σ with calls:=σ.calls+1 } fn.scope (own fn.d);have ky:Po ⟨St.top { σ with calls:=σ.calls+1 },St.top { σ with calls:=σ.calls+1 },fn.strict⟩ (St.opn { σ with calls:=σ.calls+1 } fn.scope (-1) (own fn.d)):=
  ⟨by show (0:Int)<=(σ.M.Ov.length:Int);omega,by show (σ.M.Ov.length:Int)<_;simp[St.opn,Mo.scope];omega⟩
 generalize St.opn { σ with calls:=σ.calls+1 } fn.scope (-1) (own fn.d)=σ1 at U ha1 bT ky ⊢
 generalize iW:St.top { σ with calls:=σ.calls+1 }=au at bT ky ⊢
 have⟨av,hbk,E⟩:=U.iv.body (d:=fn.d) (p:=⟨au,au,fn.strict⟩) hv ky bT hl ha1;have ge:=U.trans av;have ag:Q f (N+9000) ⟨au,au,fn.strict⟩ (QB fn.d ⟨au,au,fn.strict⟩ args σ1):=⟨by rw[ge.st];exact h.fu,by rw[ge.st];exact h.st,ge.iv.up Oe,ky.up av.ex⟩
 have aN:=aam ah (Px (Oa fn.d 1)) (l:=none) ag (fun d hd=>hbk.ks _ (Qh hd)) E (fun _ e=>by cases e);exact⟨aN.iv,ge.ex.trans aN.ex,aN.er,aN.va⟩
theorem adR (ah:FI F f)(h:Q f N p σ){t:Tr}(aZ:Bk t):VO (N+9000) σ (X9 F (none,t) p σ):=by
 unfold X9;simp only
 split
 ·exact .bad ((Nx.refl h.iv).up Oe) h.st smS
 ·have⟨q,ag⟩:=xE (if (p.strict||OU t)=true then (⟨σ.top,σ.top,true⟩,σ.opn p.scope (-1) (-3)) else ({ p with strict:=p.strict||OU t },σ):Pl × St);rw[<-ag];have h1:Nx (N+1) σ q.2/\Po q.1 q.2:=by
   rw[ag]
   split
   ·exact⟨h.iv.opn _ _ _,by show (0:Int)<=(σ.M.Ov.length:Int);omega,by show (σ.M.Ov.length:Int)<_;simp[St.opn,Mo.scope];omega⟩
   ·exact⟨(Nx.refl h.iv).up Oe,h.po⟩
  clear ag;obtain⟨h1,oX⟩:=h1;have⟨U,bb,E⟩:=h1.iv.auZ (d:=(none,t)) aZ oX
  generalize OB (none,t) q.1 q.2=bB at U bb E ⊢
  have f4:=h1.trans U;have ag:Q f (N+9000) bB.1 bB.2:=⟨by rw[f4.st];exact h.fu,by rw[f4.st];exact h.st,f4.iv.up Oe,bb⟩
  have aN:=aam ah (Px (none,t)) (l:=some vU) ag (fun d hd=>aZ.ks _ (Qh hd)) E (fun _ e=>by cases e;exact Vs _)
  rcases aa:Qm F bB.1 (Px (none,t)) (some vU) bB.2 with ⟨⟨o,e,bQ⟩,σ1⟩
  rw[aa] at aN;have nY:=f4.ex.trans aN.ex
  cases e with
  | no=>
   refine⟨aN.iv,nY,aN.er,?_⟩
   show Gv _ (bQ.getD vU)
   cases bQ with
   | none=>exact Vs _
   | some v=>exact aN.la v rfl
  | _=>exact⟨aN.iv,nY,aN.er,Vs _⟩
theorem U4:∀ g ∈ O0,1<=g.size:=by decide
theorem XO {s:Ou}{t:Tr}{st:Bool}(h:Qu O4 O0 s=.ok t)(ai:chk t st false false=none):Nk 9 t:=⟨anH U4 h,(VQ h).2,ak6 t _ _ _ ai⟩
theorem auj (ah:FI F f)(h:Q f N p σ)(c:Tr){args:List Va}(ay:∀ v ∈ args,Gv σ.M.objs.length v):VO (N+9000) σ (Ya F c p args σ):=by
 unfold Ya
 cases args with
 | nil=>exact .ret ((Nx.refl h.iv).up Oe) h.st (Vs _)
 | cons a more=>
  dsimp only
  split
  ·exact .ret ((Nx.refl h.iv).up Oe) h.st (ay a List.mem_cons_self)
  ·have⟨q,ag⟩:=xE (if c.kd≠23\/c.tx≠RH then ⟨1,0,false⟩ else p:Pl);rw[<-ag];have al:Po q σ:=by
    rw[ag]
    split
    ·exact⟨by show (0:Int)<=1;omega,by show (1:Int)<_;have:=h.iv.lr;omega⟩
    ·exact h.po
   clear ag;refine ad1 h (fun ai=>?_) Oe;have h1:Q f N q { σ with calls:=σ.calls+1 }:=⟨h.fu,h.st,(h.call ai).iv,al⟩;have A:∀ {s:Ou},Sm s->VO (N+9000) { σ with calls:=σ.calls+1 } ((vU,Hp.bad s),{ σ with calls:=σ.calls+1 }):=fun ab=>.bad ((Nx.refl h1.iv).up Oe) h1.st ab
   generalize ({ σ with calls:=σ.calls+1 }:St)=τ at h1 A ⊢
   cases aa:Qu O4 O0 a.s with
   | ok t=>
    simp only
    cases E:chk t q.strict false false with
    | none=>exact adR ah h1 ((XO aa E).bk Oe)
    | some e=>exact A smS
   | _=>exact A smS
theorem Nk.au0 {t:Tr}(h:Nk 0 t)(E:t.kd=35):(∀ u ∈ t.kids,Nk 0 u)/\t.kids.length<=9:=by
 have ab:=h.sh
 cases ab with
 | call aZ ab hl=>exact⟨fun u aQ=>h.kid aQ (by rcases List.mem_cons.1 aQ with rfl|aQ;exact aZ;exact ab u aQ),by show (_::_).length<=9;simp;omega⟩
 | lit h1=>simp only[Tr.kd] at E;omega
 | one h1=>simp only[Tr.kd] at E;omega
 | two h1=>simp only[Tr.kd] at E;omega
 | _=>cases E
section
variable (ah:FI F f) (h:Q f N p σ) (hd:Nk 0 d.2)
include ah h hd
theorem auk (E:d.2.kd=35):VO (N+9000) σ (XF F d p σ):=by
 have⟨eL,cI⟩:=hd.au0 E;have h1:=ab7 ah (Px d) [] h (fun x ac=>eL _ (Qh ac)) (fun _ h=>by cases h);unfold XF
 rcases aa:Tn F p (Px d) [] σ with ⟨⟨vs,e⟩,σ1⟩
 rw[aa] at h1;have kv:vs.length<=9:=by have:=h1.ln;have:=RG d;simp at *;omega
 cases vs with
 | nil=>exact⟨h1.iv.up Oe,h1.ex,h1.er,Vs _⟩
 | cons aK args=>
  cases e with
  | no=>
   have ag:Q f N p σ1:=⟨by have:=h.fu;have:=h1.ex.st;dsimp only at this;omega,h1.er,h1.iv,h.po.up h1.ex⟩
   have wf:=h1.va aK List.mem_cons_self;have sY:∀ v ∈ args,Gv σ1.M.objs.length v:=fun v am=>h1.va v (List.mem_cons_of_mem _ am);have oM:args.length<=1500:=by simp at kv;omega
   have ax:=(Nx.refl ag.iv).up (show N<=N+9000 by omega);simp only;refine VO.after h1.ex ?_
   split
   ·exact .bad ax ag.st smT
   ·split
    ·exact .bad ax ag.st smT
    ·split
     ·exact .ret ((ag.iv.log _).up Oe) ag.st (Vs _)
     ·split
      ·exact auj ah ag _ sY
      ·split
       ·rename_i fn hv
        exact aqy ah ag (ag.iv.fn fn (List.mem_of_getElem? hv)).1 oM sY
       ·exact .ret ax ag.st (Vs _)
  | _=>exact⟨h1.iv.up Oe,h1.ex,h1.er,Vs _⟩
theorem aal:Iv N (Sl F d p σ).2/\Ex σ (Sl F d p σ).2/\Eo (Sl F d p σ).2 (Sl F d p σ).1.2/\((Sl F d p σ).1.2=.no->0<=(Sl F d p σ).1.1/\(Sl F d p σ).1.1<(Sl F d p σ).2.M.objs.length):=by
 have h1:=(ah.v h hd).1;unfold Sl
 rcases aa:F.v d p σ with ⟨⟨v,e⟩,σ1⟩
 rw[aa] at h1
 cases e with
 | no=>
  simp only
  split
  ·exact⟨h1.iv,h1.ex,⟨h1.er,gvT smT⟩,fun e=>by cases e⟩
  ·rename_i bx
   exact⟨h1.iv,h1.ex,h1.er,fun _=>h1.va.r (by simpa using bx)⟩
 | _=>exact⟨h1.iv,h1.ex,h1.er,fun e=>by cases e⟩
end
theorem aqz (ah:FI F f)(o:Int):∀ (ks:List Nd) {N:Int} {σ:St},Q f N p σ->(0<=o/\o<σ.M.objs.length)->(∀ k ∈ ks,Nk 0 (Oa k 0).2)->VO (N+ks.length) σ (Xp F p o ks σ)
 | [],N,σ,h,aO,_=>.ret ((Nx.refl h.iv).up OW) h.st (gvR aO)
 | k::ks,N,σ,h,aO,E=>by
  have h1:=(ah.v h (E k List.mem_cons_self)).1;rw[Xp]
  rcases aa:F.v (Oa k 0) p σ with ⟨⟨v,e⟩,σ1⟩
  rw[aa] at h1
  cases e with
  | no=>
   have U:=h1.iv.put h1.va o k.2.tx false;have f':=(h1.ex.trans U.ex).ob;have av:=aqz ah o ks ((h.next h1).nx U) ⟨aO.1,Int.lt_of_lt_of_le aO.2 (Int.ofNat_le.2 f')⟩ (fun x ac=>E x (List.mem_cons_of_mem _ ac));refine(VO.after (h1.ex.trans U.ex) av).up ?_;rw[List.length_cons];push_cast;omega
  | _=>exact⟨h1.iv.up Oe,h1.ex,h1.er,Vs _⟩
