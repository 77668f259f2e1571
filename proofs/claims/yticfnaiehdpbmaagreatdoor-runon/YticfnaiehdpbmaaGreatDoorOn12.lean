import Derived.Test.YticfnaiehdpbmaaGreatDoorOn11
set_option maxRecDepth 100000
set_option maxHeartbeats 8000000
set_option linter.all false
namespace Go.Proofs.YticfnaiehdpbmaaGreatDoor
open Go.RowKit Go.Proofs.Tryz
namespace Hp
section
variable {w0:Ov} {mb af:Nat} {O:List Nat} {w w':Ov} {σ:St} {L:Option Nat} {aU:Nat} {x y bD u:OG} {t:TypeId}
def O7 (h:w.heap[aU]? = some (O1 #[x,y,bD] t)):w.cell? (Ot aU 0)=some x/\w.cell? (Ot aU 1)=some y/\w.cell? (Ot aU 2)=some bD/\w.frozen? (Ot aU 0)=false/\w.frozen? (Ot aU 1)=false/\w.frozen? (Ot aU 2)=false/\aU<w.heap.size:=by
 obtain⟨h0,h1,U,f,l⟩:=cells3 h;exact⟨h0,h1,U,f 0,f 1,f 2,l⟩
def Qx (h:w.heap[aU]? = some (O1 #[x,y,bD,u] t)):w.cell? (Ot aU 0)=some x/\w.cell? (Ot aU 1)=some y/\w.cell? (Ot aU 2)=some bD/\w.cell? (Ot aU 3)=some u/\w.frozen? (Ot aU 0)=false/\w.frozen? (Ot aU 1)=false/\w.frozen? (Ot aU 2)=false/\w.frozen? (Ot aU 3)=false/\aU<w.heap.size:=by
 obtain⟨h0,h1,U,aw,f,l⟩:=cells4 h;exact⟨h0,h1,U,aw,f 0,f 1,f 2,f 3,l⟩
def rt3 (aa:w'.heap[aU]? = some (O1 #[x,y,bD] t))(hw:w.heap.size<=aU)(aS:mb<w.heap.size)(ah:O5 L mb w w')(aJ:Ms w0 mb af O w' σ)(X Y Z:OG)(bc:∀ e ∈ [t],e ∉ Tm/\e≠40/\e≠22:=by decide) :
  ∃ b1,b1=((w'.setCell (Ot aU 0) X).setCell (Ot aU 1) Y).setCell (Ot aU 2) Z/\Py [t] mb w' b1/\O5 L mb w b1/\Ms w0 mb af O b1 σ/\b1.cell? (Ot aU 0)=some X/\b1.cell? (Ot aU 1)=some Y/\b1.cell? (Ot aU 2)=some Z:=by
 have aH:=RJ aa (show mb<=aU by omega) X Y Z;obtain⟨cG,b4,bT,_,_⟩:=cells3 (ZJ aa X Y Z);exact⟨_,rfl,aH,ah.newT aH (Ua hw _ _ _),aJ.YC aH bc,cG,b4,bT⟩
def rt4 (aa:w'.heap[aU]? = some (O1 #[x,y,bD,u] t))(hw:w.heap.size<=aU)(aS:mb<w.heap.size)(ah:O5 L mb w w')(aJ:Ms w0 mb af O w' σ)(X Y Z xz:OG)(bc:∀ e ∈ [t],e ∉ Tm/\e≠40/\e≠22:=by decide) :
  ∃ b1,b1=(((w'.setCell (Ot aU 0) X).setCell (Ot aU 1) Y).setCell (Ot aU 2) Z).setCell (Ot aU 3) xz/\Py [t] mb w' b1/\O5 L mb w b1/\Ms w0 mb af O b1 σ/\b1.cell? (Ot aU 0)=some X/\b1.cell? (Ot aU 1)=some Y/\b1.cell? (Ot aU 2)=some Z/\b1.cell? (Ot aU 3)=some xz:=by
 have aH:=Uw aa (show mb<=aU by omega) X Y Z xz;obtain⟨cG,b4,bT,eg,_,_⟩:=cells4 (aat aa X Y Z xz);exact⟨_,rfl,aH,ah.newT aH (U6 hw _ _ _ _),aJ.YC aH bc,cG,b4,bT,eg⟩
variable {es aW aC aA aM:OG}{N:Nat}
section
variable (a8:Bs w0 mb af O es) (ae:Mx w0 mb af O aW aC aA aM w σ) (aI:Sz N σ) (hN:N<1000000000) {a:Ad} {d:Nd} (hd:OY O w a d) (p:Pl) (aB:Option Addr)
include a8 ae aI hN a d hd p aB
theorem aar (gM:d.1=none) :
  OE 291 #[Oo mb,Oo a.p,PU p aB] w fun e w'=>e=OQ (Ol (σ.M.find p.scope d.2.tx))/\Ms w0 mb af O w' σ/\O5 none mb w w':=by
 have bG:=ae.lt;have z:=Oq (∀{G}(h:G:=by
 have z:=Oq (∀{G}(h:G:=by
 obtain⟨kQ,mv⟩:=xE (σ.M.find au tx);have dI:σ.M.find (Pl.mk au aG st).scope d.2.tx=kQ:=by rw[<-cD,mv]
 rw[dI];rw[<-mv] at hx;clear dI mv;have mY:=hide gM;clear be cD gM;have z:=Oq (∀{G}(h:G:=by
 have z:=Oq (∀{G}(h:G:=by
 have z:=Oq (∀{G}(h:G:=by
 refine uz 10 (Ol kQ) ?_;refine Sl ?_ _;have gn:(Instr.lookup 80 (.map (some af)) (Oo q) true).run prog ap=.ok (.tuple #[(Ol 0),OC false]) ap:=by
  rw[kn];unfold noV;rw[mY.out];rfl
 clear kn;go_simp;go_wp2;go_ret;exact⟨rfl,⟨_,_,_,_,eN⟩,cQ⟩),G);exact awp),G);exact Un),G);exact awq),G);exact awr),G);exact zss
theorem aoQ {k:Nat}(gM:d.1=some k)(ac:σ.M.find p.scope d.2.tx = -1) :
  OE 291 #[Oo mb,Oo a.p,PU p aB] w fun e w'=>e=OQ (Ol (σ.M.find p.scope d.2.tx))/\Ms w0 mb af O w' σ/\O5 none mb w w':=by
 have bG:=ae.lt;have z:=Oq (∀{G}(h:G:=by
 have z:=Oq (∀{G}(h:G:=by
 have dI:σ.M.find au tx = -1:=by rw[cD];exact ac
 rw[ac];rw[dI] at hx;clear dI ac;have mY:=hide gM;clear be cD gM;have z:=Oq (∀{G}(h:G:=by
 have z:=Oq (∀{G}(h:G:=by
 have z:=Oq (∀{G}(h:G:=by
 refine uz 10 (Ol (-1)) ?_;have z:=Oq (∀{G}(h:G:=by
 go_ret;exact⟨rfl,⟨_,_,_,_,eN⟩,cQ⟩),G);exact aAV),G);exact awp),G);exact Un),G);exact awq),G);exact awr),G);exact zss
theorem aoR {k i:Nat}(gM:d.1=some k)(ac:σ.M.find p.scope d.2.tx=i)(am:i<σ.M.OI.length) :
  OE 291 #[Oo mb,Oo a.p,PU p aB] w fun e w'=>e=OQ (Ol (σ.M.find p.scope d.2.tx))/\Ms w0 mb af O w' { σ with seen:=σ.seen++[((k:Int),σ.QF.getD i 0)] }/\O5 none mb w w':=by
 have bG:=ae.lt;have z:=Oq (∀{G}(h:G:=by
 have z:=Oq (∀{G}(h:G:=by
 have dI:σ.M.find au tx=i:=by rw[cD];exact ac
 rw[ac];rw[dI] at hx;clear dI ac;obtain⟨x,CV⟩:=xH (σ.QF.getD i 0);rw[<-CV.out];have mY:=hide gM;have gD:=hide am;clear be cD gM am;have z:=Oq (∀{G}(h:G:=by
 have z:=Oq (∀{G}(h:G:=by
 have z:=Oq (∀{G}(h:G:=by
 refine uz 10 (Ol (i:Int)) ?_;have z:=Oq (∀{G}(h:G:=by
 obtain⟨i0,dR,dA,b9,cn⟩:=info_parts awn;have n4:i<σ.QF.length:=by rw[aI.oe];exact Om gD
 have qB:=eN.se;have lV:=eN.ow;obtain⟨jA,N5,jP⟩:=OX qB;obtain⟨E',iS,n5,_,_⟩:=lV.form Ou;have pJ:ap.cell? (Ot E' i)=some (Ol (σ.QF.getD i 0)):=by
  rw[n5] at lV;rw[lV.cellAt i Ou];simp[List.getElem?_map,List.getElem?_eq_getElem n4]
 obtain⟨c6,_⟩:=eN.hh.at_ 4 _ rfl;obtain⟨vC,_⟩:=eN.hh.at_ 6 _ rfl;obtain⟨n,jc⟩:=xH σ.seen.length;obtain⟨m,aS⟩:=xE σ.QF.length;have M5:n<=1000000000:=by rw[jc.out];exact O0 (Nat.lt_of_le_of_lt aI.se hN)
 rw[<-aS] at n5 n4;rw[<-jc.out] at jP;rw[<-CV.out] at pJ;subst jP n5;have MJ:(i:Int)<(m:Int):=Ou;have FH:=hide c6;have FJ:=hide vC;have og:=hide pJ;clear c6 vC pJ aS xG gn;refine TI 16 fun ab=>?_;have z:=Oq (∀{G}(h:G:=by
 refine up 3 mb 2 ab ?_;refine up 4 mb 6 ab ?_;refine uk 5 FH.out ab ?_;refine uh 6 (Ol (k:Int)) (ab) ?_;refine up 7 mb 0 ab ?_;refine up 8 mb 0 ab ?_;refine up 9 mb 8 ab ?_;refine uk 10 FJ.out ab ?_;refine uh 11 (Ol (i:Int)) (ab) ?_;refine up 12 E' i ab ?_;refine uk 13 og.out ab ?_;refine uh 14 (.agg #[Ol (k:Int),Ol x]) (ab) ?_;refine P5 15 fun K A=>?_;go_simp;refine A.out _ _ (fun _=>(QX.drew.alloc O8 _)) ?_;clear A K;refine P5 16 fun K A=>?_
 have lN:=(eN.later (w':=ap.drew.alloc (.cells #[Ol (k:Int),Ol x] 54)) (QX.drew.alloc O8 _));have qB:=lN.se;rw[<-jc.out] at qB;refine step_append_lies _ rfl _ _ 27 rfl mb 54 i0 _ 2 16 underlying27 dR dA b9 cn rfl Oz _ _ _ rfl qB (Ot ap.heap.size 0) 1 1 [Ol (k:Int),Ol x] rfl rfl (aoN ap.drew _ rfl k x) (awo k x) Oz (by unfold maxLen;omega) Ou Rh (ap.heap.size+1) O8 ?_
 intro hJ hG bA hown4 kT na wb;refine ko A ?_;clear A K;obtain⟨hR,hc⟩:=lN.aAT ((k:Int),x) (sv':=.slice (some (Ot hJ 0)) (n+1) hG) kT (by rw[<-jc.out];exact hown4)
 obtain⟨LE,LZ⟩:=(lN.hh.keep (T:=[54]) (B:=mb) (w':=bA) (Py.grown kT Rh fun k E=>by
  obtain⟨c,aj⟩:=Qc qB E;exact⟨(qB.lt k E).1,c,54,aj,by simp⟩) Oz Oz Oz Oz Oz).at_ 4 _ rfl
 have gu:=(cQ.trans ((O5.of (L:=none) ((Below.refl _ ap).drew.alloc O8 _) (O0 fD)).trans hc));have gp:mb<bA.heap.size:=by have:=kT.size;simp at this;omega
 clear na wb;refine uz 17 (OM mb 0) ?_;refine uz 18 (OM mb 2) ?_;refine uz 19 (OM mb 6) ?_;refine P5 20 fun K A=>?_;go_simp;refine ko A ?_;clear A K;refine Sl ?_ _;go_simp;go_wp2;go_ret;exact⟨rfl,⟨_,_,_,_,hR⟩,gu⟩),G);exact Un),G);exact aAV),G);exact awp),G);exact Un),G);exact awq),G);exact awr),G);exact zss
end
def aoS (a8:Bs w0 mb af O es)(aJ:Ms w0 mb af O w σ)(aI:Sz N σ)(hN:N<1000000000){a:Ad}{d:Nd}(hd:OY O w a d)(p:Pl)(aB:Option Addr) :
  OE 291 #[Oo mb,Oo a.p,PU p aB] w fun e w'=>e=OQ (Ol (look d p σ).1)/\Ms w0 mb af O w' (look d p σ).2/\O5 none mb w w':=by
 obtain⟨aW,aC,aA,aM,ae⟩:=aJ
 cases gM:d.1 with
 | none=>
  have ay:look d p σ=(σ.M.find p.scope d.2.tx,σ):=by unfold look;rw[gM]
  rw[ay];exact aar a8 ae aI hN hd p aB gM
 | some k=>
  rcases asj σ.M p.scope d.2.tx with ac|⟨i,ac,am⟩
  ·have ay:look d p σ=(σ.M.find p.scope d.2.tx,σ):=by unfold look;rw[gM,ac];rfl
   rw[ay];exact aoQ a8 ae aI hN hd p aB gM ac
  ·have ay:look d p σ=(σ.M.find p.scope d.2.tx,{ σ with seen:=σ.seen++[((k:Int),σ.QF.getD i 0)] }):=by
    unfold look;rw[gM,ac];simp
   rw[ay];exact aoR a8 ae aI hN hd p aB gM ac am
def agM (d:Nd)(p:Pl)(σ:St):(Va × Er) × St:=
 let r:=look d p σ
 let x:=r.2.M.read r.1 d.2.tx
 if x.2=0 then ((x.1,.no),r.2) else ((vU,bad Q7),r.2)
def Sz.look {N:Nat}{σ:St}(h:Sz N σ)(d:Nd)(p:Pl):Sz (N+1) (look d p σ).2:=by
 unfold Hp.look;simp only
 split
 ·split
  ·exact⟨h.go.up (Nat.le_succ _),Nat.le_succ_of_le h.ow,Nat.le_succ_of_le h.fn,Nat.le_succ_of_le h.lg,by have:=h.se;simp;omega,h.oe⟩
  ·exact h.up (Nat.le_succ _)
 ·exact h.up (Nat.le_succ _)
def U5 (_:mb<w.heap.size)(s:OH):OE 269 #[OB s] w fun e w'=>(∃ ev,e=OQ ev/\Xm es w' ev (bad s))/\OD w w':=by
 refine(Xj s w).mono ?_;rintro e w' ⟨⟨b,rfl,_,D⟩,U⟩;exact⟨⟨_,rfl,b,rfl,D⟩,U⟩
def Kp.XQ (h:Kp w w'){q j:Nat}{v:OG}(aj:w.cell? (Ot q j)=some v)(ag:∃ c,w.heap[q]? = some (O1 c 40)):w'.cell? (Ot q j)=some v:=by
 obtain⟨c,ag⟩:=ag;have U:w'.heap[q]? = w.heap[q]?:=(h q c 40 ag (Or.inl rfl)).trans ag.symm;exact(World.cell?_of_block (w:=w) (a:=(Ot q j)) U).trans aj
def aws (a8:Bs w0 mb af O es)(aJ:Ms w0 mb af O w σ)(aI:Sz N σ)(hN:N+1<1000000000){a:Ad}{d:Nd}(hd:OY O w a d)(p:Pl)(aB:Option Addr) :
  OE 256 #[Oo mb,Oo a.p,PU p aB] w (O3 w0 mb af O es w (agM d p σ)):=by
 have z:=Oq (∀{G}(h:G:=by
 have cU:=hd.kp (Kp.of aF);have hx:=hide (fun X (ak:OD w2 X)=>aoS a8 ((aJ.later aF).later ak) aI Ou (cU.kp (Kp.of ak)) ⟨au,aG,st⟩ aB);obtain⟨kz,np⟩:=xE ((look d ⟨au,aG,st⟩ σ).1);obtain⟨σ1,ic⟩:=xE ((look d ⟨au,aG,st⟩ σ).2);obtain⟨tx,cD⟩:=xE d.2.tx;obtain⟨v1,uq⟩:=xE ((σ1.M.read kz tx).1);obtain⟨c1,f0⟩:=xE ((σ1.M.read kz tx).2);have b9:=aI.look d ⟨au,aG,st⟩;rw[<-np,<-ic] at hx;rw[<-ic] at b9;have ay:agM d ⟨au,aG,st⟩ σ=if c1=0 then ((v1,.no),σ1) else ((vU,bad Q7),σ1):=by
  unfold agM;simp only;rw[<-np,<-ic,<-cD,<-uq,<-f0]
 rw[ay];obtain⟨cH,bB⟩:=xH (if c1=0 then ((v1,Er.no),σ1) else ((vU,bad Q7),σ1));rw[<-bB.out];have hY:Hid (∀ X,Ms w0 mb af O X σ1->OE 290 #[Oo mb,Ol kz,OB tx] X fun e w'=>e=OQ (.tuple #[vA v1,Ur c1])/\OD X w'):=fun X ak=>by
  obtain⟨_,_,_,_,ae⟩:=ak;have h:=awe ae.hh b9.go.sm (O0 hN) kz tx;rw[<-uq,<-f0] at h;exact h
 have cZ:=(aJ.later aF);have e8:Hid (w2.heap[bf]? = some (plO ⟨au,aG,st⟩ aB)/\w2.cell? (Ot a.p 1)=some (OB tx)):=⟨be,by rw[cD];exact cU.cells.2.2.1⟩
 have lE:=hide cU.blk;have cu:=(O5.of (L:=none) aF (O0 bG));have bj:=hide hr2;have cR:=hide cL;obtain⟨q,ag⟩:=xE a.p;have dz:=cU.cells.1;rw[<-ag] at e8 hx lE dz ⊢;have di:=cZ.lt;have hpl2:=lt_of_heap be;clear be hr2 ag cD ay np ic uq f0 cL dx d0;go_enter func256,ntmps256;go_wp2_with fail;rw[<-bu.out,<-b0,<-bV];clear bV b0;refine VN (H:=fun wz vb ev=>VB w0 mb af O es w2 v1 .no σ1 wz vb Qp/\ev=Ur c1) (G:=?GG) (fun dJ=>?ways) ?rest
 case ways=>
  have ab:(fun X=>X.heap[bf]? = some (plO ⟨au,aG,st⟩ aB)/\X.cell? (Ot q 1)=some (OB tx)) w2.drew:=Om e8;have Dq:OD w2 w2.drew:=QX.drew;refine QE 11 (fun X=>X.heap[bf]? = some (plO ⟨au,aG,st⟩ aB)/\X.cell? (Ot q 1)=some (OB tx)) PK ?_;refine up 0 mb 0 ab ?_;refine up 1 mb 0 ab ?_;refine up 2 mb 0 ab ?_;refine up 3 mb 0 ab ?_;refine up 4 q 0 ab ?_
  refine uc 5 (.agg #[Ol au,Ol aG,OC st,.pointer aB]) rfl (Or.inl ⟨by kernel_rfl,fun X ak=>by have h0:=(cells4 ak.1).1;have h1:=(cells4 ak.1).2.1;have U:=(cells4 ak.1).2.2.1;have aw:=(cells4 ak.1).2.2.2.1;go_simp⟩) (ab) ?_
  refine up 7 q 0 ab ?_;refine up 8 q 0 ab ?_;refine up 9 q 1 ab ?_;refine uc 10 (OB tx) rfl (Or.inl ⟨by kernel_rfl,fun X ak=>by have h0:=ak.2;go_simp⟩) (ab) ?_
  refine uq2 6 15 (fun K A=>?_) fun K A=>?_
  ·go_simp;refine cm (Om hx _ (Dq)) ?_;rintro e ap ⟨rfl,eA,f8⟩;have sC:=(O5.of (Dq) (O0 di)).trans f8;have z:=Oq (∀{G}(h:G:=by
   refine uq2 11 15 (fun K A=>?_) fun K A=>?_
   ·go_simp;refine cm (Om hY _ (eA)) ?_;rintro e aE ⟨rfl,dh⟩;refine ko A ?_;clear A K;refine uz 12 (.tuple #[(vA v1),(Ur c1)]) ?_;refine uz 13 (vA v1) ?_;refine uz 14 (Ur c1) ?_;refine P5 15 fun K A=>?_;go_simp;refine ko A ?_;clear A K;refine P5 16 fun K A=>?_;go_simp;refine ko A ?_;clear A K;refine uz 17 (Ur c1) ?_;refine Sl ?_ _;go_simp;have ci:=VB.late (v:=v1) (es:=es) (e:=.no) (ev:=Qp) rfl (eA.later dh) (sC.trans (O5.of dh (O0 eA.lt)))
    generalize aE.alloc (.cells #[Ol v1.k,Ol v1.n,OB v1.s] 65)=wz at ci ⊢
    generalize aE.heap.size=vb at ci ⊢
    exact awu
   ·go_simp;have br:=(Below.refl _ ap).alloc O6 (.cells #[Ol 0,Ol 0,PN] 65);refine A.out _ _ (fun _=>⟨stays br sD.1,O4 br sD.2⟩) ?_;clear A K;refine P5 11 fun K A=>?_;go_simp;refine cm (Om hY _ (eA.later br)) ?_;rintro e aE ⟨rfl,dh⟩;refine ko A ?_;clear A K;have fp:aE.heap[ap.heap.size]? = some (O1 #[Ol 0,Ol 0,PN] 65):=(dh.block _ O8).trans (OA ap _);have z:=Oq (∀{G}(h:G:=by
    have ci:=VB.early (v:=v1) (es:=es) (e:=.no) (ev:=Qp) fp sC.below.size (O0 di) rfl ((eA.later br).later dh) (sC.trans ((O5.of br (O0 eA.lt)).trans (O5.of dh (by simp;have:=eA.lt;omega))))
    generalize ((aE.setCell (Ot ap.heap.size 0) (Ol v1.k)).setCell (Ot ap.heap.size 1) (Ol v1.n)).setCell (Ot ap.heap.size 2) (OB v1.s)=wz at ci ⊢
    generalize ap.heap.size=vb at ci ⊢
    exact awu),G);exact aAW),G);exact aAX
  ·go_simp;have b6:OD w2 (w2.alloc (.cells #[Ol 0,Ol 0,PN] 65)).drew:=PO.drew;refine A.out _ _ (fun _=>⟨stays b6 e8.out.1,O4 b6 e8.out.2⟩) ?_;clear A K;refine P5 6 fun K A=>?_;go_simp;refine cm (Om hx _ (b6)) ?_;rintro e ap ⟨rfl,eA,f8⟩;have sC:=(O5.of (b6) (O0 di)).trans f8;have z:=Oq (∀{G}(h:G:=by
   have J1:ap.heap[w2.heap.size]? = some (O1 #[Ol 0,Ol 0,PN] 65):=f8.keep (OA _ _) Oz;refine P5 11 fun K A=>?_;go_simp;refine cm (Om hY _ (eA)) ?_;rintro e aE ⟨rfl,dh⟩;refine ko A ?_;clear A K;have fp:aE.heap[w2.heap.size]? = some (O1 #[Ol 0,Ol 0,PN] 65):=stays dh J1;have z:=Oq (∀{G}(h:G:=by
   have ci:=VB.early (v:=v1) (es:=es) (e:=.no) (ev:=Qp) fp O6 (O0 di) rfl (eA.later dh) (sC.trans (O5.of dh (O0 eA.lt)))
   generalize ((aE.setCell (Ot w2.heap.size 0) (Ol v1.k)).setCell (Ot w2.heap.size 1) (Ol v1.n)).setCell (Ot w2.heap.size 2) (OB v1.s)=wz at ci ⊢
   generalize w2.heap.size=vb at ci ⊢
   exact awu),G);exact aAW),G);exact aAX
 rintro wz vb ev ⟨aV,rfl⟩;have cE:=aV.fr.keep bj.out Oz;have dV:=hide cE;obtain⟨cH,bU,cg,dt,du,dv,rl⟩:=O7 (cE);obtain⟨fh,cp,dG,hp,hq,hr,g9⟩:=O7 (aV.v);have ea:=aV.ms.lt;have cl:vb≠aU:=fun e=>by
  have h1:=aV.vb;have U:=lt_of_heap bj.out;omega
 have hM:O5 none mb w wz:=cu.trans aV.fr;clear cE
 by_cases h0:c1=0
 ·subst h0;rw[adW];go_wp2_with fail;obtain⟨b1,bx⟩:=xE (((wz.setCell (Ot aU 0) (Ol v1.k)).setCell (Ot aU 1) (Ol v1.n)).setCell (Ot aU 2) (OB v1.s));rw[<-bx];have d1:=ZJ dV.out (Ol v1.k) (Ol v1.n) (OB v1.s);have gK:mb<=aU:=by have:=Om cR;omega
  have bi:=RJ dV.out gK (Ol v1.k) (Ol v1.n) (OB v1.s);have bF:=hM.newT bi (Ua cR.out _ _ _);have bC:=aV.ms.YC bi Oz;rw[<-bx] at d1 bF bC;obtain⟨cG,b4,bT,_,_⟩:=cells3 d1;refine WA (v:=.tuple #[vA v1,Qp]) ?_;rw[bB.out,if_pos trivial];exact⟨⟨_,rfl,rfl⟩,bC,bF⟩
 ·rw[ael h0];have cI:=hide h0;clear h0;go_wp2_with fail;refine cm (U5 (es:=es) ea Q7) ?_;rintro e gX ⟨⟨ev,rfl,aD⟩,g5⟩;have lL:=hide (stays g5 dV.out);have oq:=(aV.ms.later g5);have oi:=(hM.trans (O5.of (L:=none) g5 (O0 ea)));obtain⟨hs,ht,hu,ig,ih,ii,hv⟩:=O7 lL.out;clear cH bU cg dt du dv rl;have z:=Oq (∀{G}(h:G:=by
  rw[bB.out,if_neg cI.out];exact⟨⟨_,rfl,aD.Qw bi Oz⟩,bC,bF⟩),G);exact asl),G);exact zsb
variable {w2:Ov}
def Mx.calls (ae:Mx w0 mb af O aW aC aA aM w σ)(c:Nat):Mx w0 mb af O aW aC aA aM (w.setCell (Ot mb 10) (Ol (c:Int))) { σ with calls:=c }/\Py [84] mb w (w.setCell (Ot mb 10) (Ol (c:Int))):=by
 obtain⟨hh,aH⟩:=ae.hh.cell 8 (Ol (c:Int));have gj:Py Th mb w (w.setCell (Ot mb 10) (Ol (c:Int))):=⟨aH.below,fun b c e D aq=>aH.rest b c e D (fun h=>aq (by rw[List.mem_singleton.1 h];decide))⟩
 obtain⟨d6,h1,U,aw⟩:=ae.fu;exact⟨⟨ae.bw.trans gj.below,hh,OW ae.lg gj Oz,OW ae.se gj Oz,OW ae.ow gj Oz,d6,h1,OW U gj Oz,fun i a f ax hg=>(aw i a f ax hg).kp (Py.kp gj)⟩,aH⟩
def axe (D:Nat)(c:Nat)(u:FrameMode)(w:Ov)(aj:w.cell? (Ot D 0)=some (OM mb 0))(aS:w.cell? (Ot mb 10)=some (Ol ((c+1:Nat):Int)))(aH:w.frozen? (Ot mb 10)=false)(dK:c<=40) :
  CallsD prog 338 #[OM D 0] u w fun e g8 w'=>g8=u/\(e=OQ (.tuple #[])/\w'=w.setCell (Ot mb 10) (Ol (c:Int))):=by
 go_enter_d func338,ntmps338
 go_wp2
 go_end0
 exact⟨rfl,rfl⟩
def ae9 (w X:Ov):Prop:=∀ (b:Nat) c (e:TypeId),w.heap[b]? = some (O1 c e)->e≠84->X.heap[b]? = some (O1 c e)
def amo (ae:Mx w0 mb af O aW aC aA aM w σ)(dK:σ.calls<40){F:Nat}{caps:Array OG}(pI:VR F){r:(Va × Er) × St}(aa:r.2.calls=σ.calls+1)
  (xM:∀ X,Mx w0 mb af O aW aC aA aM X { σ with calls:=σ.calls+1 }->ae9 w X->w.heap.size<=X.heap.size->OE F caps X (O3 w0 mb af O es X r)) :
  OE 319 #[Oo mb,.func (.func F) #[] caps] w (O3 w0 mb af O es w (r.1,{ r.2 with calls:=r.2.calls - 1 })):=by
 have jx:=Yk;have bG:=ae.lt;obtain⟨ur,hb⟩:=ae.calls (σ.calls+1);obtain⟨w1,tF⟩:=xH (w.setCell (Ot mb 10) (Ol ((σ.calls:Int)+1)));have ay:((σ.calls+1:Nat):Int)=(σ.calls:Int)+1:=by push_cast;rfl
 rw[ay,<-tF.out] at ur hb;have dd:w1.heap.size=w.heap.size:=by rw[tF.out];simp
 obtain⟨w2,bu⟩:=xH ((w1.alloc (.cells #[Oo mb] 62)).alloc (.cells #[Ol 0,Ol 0,PN] 65));have aF:OD w1 w2:=by rw[bu.out];exact PO.alloc O8 _
 obtain⟨bf,kK⟩:=xH w.heap.size;obtain⟨aU,d9⟩:=xH (w.heap.size+1);have be:w2.heap[bf]? = some (O1 #[Oo mb] 62):=by rw[bu.out,kK.out,<-dd];exact alloc_old (OA _ _)
 have hr2:w2.heap[aU]? = some (O1 #[Ol 0,Ol 0,PN] 65):=by
  rw[bu.out,d9.out,<-dd,show w1.heap.size+1=(w1.alloc (.cells #[Oo mb] 62)).heap.size by simp];exact OA _ _
 have eJ:=ur.later aF;have bI:ae9 w w2:=fun b c e D aq=>by
  rw[aF.block b (by rw[dd];exact lt_of_block D)]
  exact hb.rest b c e D (by simpa using aq)
 have hsz2:w.heap.size<=w2.heap.size:=by rw[<-dd];exact aF.size
 have Iy:O5 none mb w w2:=(O5.ofT (L:=none) (⟨hb.below,fun b c e D aq=>hb.rest b c e D (fun h=>aq (by rw[List.mem_singleton.1 h];decide))⟩:Py Th mb w w1)).trans (O5.of aF (by rw[dd];exact O0 bG))
 have d4:=(xM w2 eJ bI hsz2);obtain⟨ss,tP⟩:=ae.hh.at_ 8 _ rfl;have cl:(σ.calls:Int)≠40:=Ou;have Mv:(σ.calls:Int)<40:=Ou;have gi:(0:Int)<=(σ.calls:Int):=Ou;have EE:r.2.calls=σ.calls+1:=aa;obtain⟨v1,oy⟩:=xH r.1.1;obtain⟨rs,fO⟩:=xH ((r.1,{ r.2 with calls:=r.2.calls - 1 }):(Va × Er) × St);rw[<-fO.out];have dF:=hide EE;have b8:=hide be;have bj:=hide hr2;clear xM aa be hr2 hsz2 dd ay EE dK
 go_enter_defers func319,ntmps319
 go_wp2_with fail;rw[<-tF.out,<-bu.out,<-d9.out,<-kK.out];clear ss tP;refine cm d4 ?_;rintro e ap ⟨⟨ev,rfl,aD⟩,aJ,ah⟩;rw[<-oy.out];have dp:=hide (ah.keep bj.out Oz);have fM:=hide (ah.keep b8.out Oz);have cQ:=(Iy.trans ah);have fD:=aJ.lt;have z:=Oq (∀{G}(h:G:=by
 go_wp2_with fail;obtain⟨b1,bx⟩:=xE (((ap.setCell (Ot aU 0) (Ol v1.k)).setCell (Ot aU 1) (Ol v1.n)).setCell (Ot aU 2) (OB v1.s));rw[<-bx];have d1:=ZJ dp.out (Ol v1.k) (Ol v1.n) (OB v1.s);have gK:mb<=aU:=by have:=Om d9;omega
 have cL:w.heap.size<=aU:=by have:=Om d9;omega
 have bi:=RJ dp.out gK (Ol v1.k) (Ol v1.n) (OB v1.s);have bF:=cQ.newT bi (Ua cL _ _ _);have bC:=aJ.YC bi Oz;rw[<-bx] at d1 bF bC bi;have oJ:=aD.Qw bi Oz;have pO:=bi.rest bf _ _ fM.out Oz;obtain⟨lv',sv',VA,WI,j6⟩:=bC;obtain⟨HQ,H7⟩:=j6.hh.at_ 8 _ rfl;obtain⟨pS,kk⟩:=j6.calls σ.calls;have sJ:b1.cell? (Ot mb 10)=some (Ol ((σ.calls+1:Nat):Int)):=by rw[<-dF.out];exact HQ
 have n6:b1.cell? (Ot bf 0)=some (OM mb 0):=by rw[cell_of pO];rfl
 have M7:mb≠aU:=by have:=Om d9;omega
 refine leaves_cons (f:=338) (args:=#[OM bf 0]) O8 (by simp[go_sem]) ?_;refine(axe bf σ.calls .returning b1 n6 sJ H7 Ou).mono ?_;rintro e g8 jU ⟨rfl,rfl,rfl⟩;have wB:=kk.rest aU _ _ d1 Oz;obtain⟨cG,b4,bT,_,_⟩:=cells3 wB
 show Leaves _ _ _ _ [] .returning _
 refine⟨.tuple #[vA v1,ev],by simp[results,results319,go_sem,cG,b4,bT],⟨ev,?_,?_⟩,?_,?_⟩
 ·rw[fO.out,oy.out]
 ·rw[fO.out];exact oJ.Qw kk Oz
 ·rw[fO.out];have ez:({ r.2 with calls:=r.2.calls - 1 }:St)={ r.2 with calls:=σ.calls }:=by rw[dF.out];rfl
  show Ms _ _ _ _ _ ({ r.2 with calls:=r.2.calls - 1 }:St)
  rw[ez];exact⟨_,_,_,_,pS⟩
 ·exact bF.trans (O5.ofT (⟨kk.below,fun b c e D aq=>kk.rest b c e D (fun h=>aq (by rw[List.mem_singleton.1 h];decide))⟩:Py Th mb b1 _))),G);exact awk
def ag4 (ae:Ms w0 mb af O w σ)(dK:σ.calls=40)(aM:OG) :
  OE 319 #[Oo mb,aM] w (O3 w0 mb af O es w ((vU,bad UM),σ)):=by
 have bG:=ae.lt;obtain⟨w2,bu⟩:=xH ((w.alloc (.cells #[Oo mb] 62)).alloc (.cells #[Ol 0,Ol 0,PN] 65));have aF:OD w w2:=by rw[bu.out];exact PO.alloc O8 _
 obtain⟨aU,d9⟩:=xH (w.heap.size+1);have hr2:w2.heap[aU]? = some (O1 #[Ol 0,Ol 0,PN] 65):=by
  rw[bu.out,d9.out,show w.heap.size+1=(w.alloc (.cells #[Oo mb] 62)).heap.size by simp];exact OA _ _
 have cZ:=(ae.later aF);have di:=cZ.lt;have eM:=(U5 (es:=es) di UM);obtain⟨aW,aC,aA,aM,ae⟩:=ae;obtain⟨ss,tP⟩:=ae.hh.at_ 8 _ rfl;rw[dK] at ss;have bj:=hide hr2;clear hr2 dK
 go_enter_defers func319,ntmps319
 go_wp2_with fail;rw[<-bu.out,<-d9.out];clear ss tP;refine cm eM ?_;rintro e ap ⟨⟨ev,rfl,aD⟩,br⟩;have dp:=hide (stays br bj.out);have jG:=(cZ.later br);have cQ:=(O5.of (L:=none) (aF.trans (br.mono aF.size)) (O0 bG));have z:=Oq (∀{G}(h:G:=by
 go_wp2_with fail;obtain⟨b1,bx⟩:=xE (((ap.setCell (Ot aU 0) (Ol 0)).setCell (Ot aU 1) (Ol 0)).setCell (Ot aU 2) (PN));rw[<-bx];have d1:=ZJ dp.out (Ol 0) (Ol 0) (PN);have gK:mb<=aU:=by have:=Om d9;omega
 have cL:w.heap.size<=aU:=by have:=Om d9;omega
 have bi:=RJ dp.out gK (Ol 0) (Ol 0) (PN);have bF:=cQ.newT bi (Ua cL _ _ _);have bC:=jG.YC bi Oz;rw[<-bx] at d1 bF bC bi;obtain⟨cG,b4,bT,_,_⟩:=cells3 d1
 show Leaves _ _ _ _ [] .returning _
 exact⟨.tuple #[vA vU,ev],by simp[results,results319,go_sem,cG,b4,bT,vU],⟨ev,rfl,aD.Qw bi Oz⟩,bC,bF⟩),G);exact awk
def acu (ae:Mx w0 mb af O aW aC aA aM w σ)(dK:σ.calls<=40){F:Nat}{caps:Array OG}(pI:VR F){g:St->(Va × Er) × St}(aa:σ.calls≠40->(g { σ with calls:=σ.calls+1 }).2.calls=σ.calls+1)
  (xM:σ.calls≠40->∀ X,Mx w0 mb af O aW aC aA aM X { σ with calls:=σ.calls+1 }->ae9 w X->w.heap.size<=X.heap.size->OE F caps X (O3 w0 mb af O es X (g { σ with calls:=σ.calls+1 }))) :
  OE 319 #[Oo mb,.func (.func F) #[] caps] w (O3 w0 mb af O es w (within σ g)):=by
 unfold Hp.within
 split
 ·rename_i h;exact ag4 ⟨_,_,_,_,ae⟩ h _
 ·rename_i h;exact amo ae Ou pI (aa h) (xM h)
def Ub (w0:Ov)(mb af:Nat)(O:List Nat)(es:OG)(σ:St)(d:Nd)(p:Pl)(r:(Va × Er) × St):Prop:=
 ∀ (X:Ov) (a:Ad) (aB:Option Addr),Ms w0 mb af O X σ->OY O X a d->OE 196 #[Oo mb,Oo a.p,PU p aB] X (O3 w0 mb af O es X r)
def al3 (F:Fx)(d:Nd)(p:Pl)(σ:St):(Va × Er) × St:=match F.v (Oy d 0) p σ with
 | ((v,.no),σ1)=>((Qi (!v.tru),.no),σ1)
 | ((_,e),σ1)=>((vU,e),σ1)
def ab6 (F:Fx)(d:Nd)(p:Pl)(σ:St):(Va × Er) × St:=match F.v (Oy d 0) p σ with
 | ((v,.no),σ1)=>if v.tru=decide (d.2.kd=25) then ((v,.no),σ1) else F.v (Oy d 1) p σ1
 | r=>r
def al4 (F:Fx)(d:Nd)(p:Pl)(σ:St):(Va × Er) × St:=match UW F (Oy d 0) p σ with
 | ((o,.no),σ1)=>((((σ1.M.prop o d.2.tx).map Pr.v).getD vU,.no),σ1)
 | ((_,e),σ1)=>((vU,e),σ1)
def aA9 (w0:Ov)(mb af:Nat)(O:List Nat)(es:OG)(w:Ov)(r:(Int × Er) × St)(e:Ending)(w':Ov):Prop:=
 (∃ ev,e=OQ (.tuple #[Ol r.1.1,ev])/\Xm es w' ev r.1.2)/\Ms w0 mb af O w' r.2/\O5 none mb w w'
variable {F:Fx}
section
variable (ac:Zp es) (aJ:Ms w0 mb af O w σ) {a:Ad} {d:Nd} (hd:OY O w a d)
include ac aJ a d hd
theorem aoW (p:Pl)(aB:Option Addr)(h1:Ub w0 mb af O es σ d p (F.v d p σ)) :
  OE 200 #[Oo mb,Oo a.p,PU p aB] w (aA9 w0 mb af O es w (UW F d p σ)):=by
 have bG:=aJ.lt;have z:=Oq (∀{G}(h:G:=by
 have dx:w.heap.size<=bf:=Ou;have z:=Oq (∀{G}(h:G:=by
 have z:=Oq (∀{G}(h:G:=by
 obtain⟨q,ag⟩:=xE a.p;have bJ:=(h1 w2 a aB cZ cU);obtain⟨rs,bB⟩:=xH (UW F d ⟨au,aG,st⟩ σ);rw[<-bB.out,<-ag];rw[<-ag] at bJ
 rcases aa:F.v d ⟨au,aG,st⟩ σ with ⟨⟨v1,ay⟩,σ1⟩
 rw[aa] at bJ;have bW:=hide aa;obtain⟨aZ,p1,cK,cX,_,_⟩:=cells4 be;clear be aa ag dx;go_enter func200,ntmps200;go_wp2_with fail;rw[<-bu.out,<-bV];clear bV;refine cm bJ ?_;rintro e aE ⟨⟨ev,rfl,aD⟩,eA,f8⟩;have dH:=aD;have cQ:=(cu.trans f8);have fD:=eA.lt;clear aZ p1 cK cX
 by_cases aq:ay=.no
 ·subst aq;have bv:ev=Qp:=aD;subst bv
  by_cases bE:v1.k=5
  ·go_wp2_with fail;have aK:rs=((v1.n,.no),σ1):=by rw[bB.out];unfold UW;rw[bW.out];simp[bE]
   refine UU (v:=.tuple #[Ol v1.n,Qp]) ?_;rw[aK];exact⟨⟨_,rfl,rfl⟩,eA.later PO,cQ.trans (O5.of PO (O0 fD))⟩
  ·have aK:rs=((-1,bad tType),σ1):=by rw[bB.out];unfold UW;rw[bW.out];simp[bE]
   have cI:=hide aK;clear aK;go_wp2_with fail;have dh:=(Below.refl aE.heap.size aE).alloc O6 (.cells #[Ol v1.k,Ol v1.n,OB v1.s] 65);have jZ:=(eA.later dh);have fF:=(cQ.trans (O5.of (L:=none) dh (O0 fD)));have gp:=jZ.lt;refine cm (U5 (es:=es) gp tType) ?_;rintro e gX ⟨⟨ev,rfl,aD⟩,g5⟩;have oq:=(jZ.later g5);have oi:=(fF.trans (O5.of (L:=none) g5 (O0 gp)));go_wp2_with fail;refine UU (v:=.tuple #[Ol (-1),ev]) ?_;rw[cI.out];exact⟨⟨_,rfl,aD⟩,oq,oi⟩
 ·obtain⟨et,ex,bv⟩:=aD.WT aq ac;subst bv;have aK:rs=((-1,ay),σ1):=by
   rw[bB.out];unfold UW;rw[bW.out];exact axR
  have cI:=hide aK;clear aq aK;go_wp2_with fail;have dh:=(Below.refl aE.heap.size aE).alloc O6 (.cells #[Ol v1.k,Ol v1.n,OB v1.s] 65);refine UU (v:=.tuple #[Ol (-1),.iface et ex]) ?_;rw[cI.out];exact⟨⟨_,rfl,dH.later dh⟩,eA.later dh,cQ.trans (O5.of (L:=none) dh (O0 fD))⟩),G);exact zsl),G);exact ax1),G);exact zss
theorem aBa (E:d.2.kids.length=1)(p:Pl)(aB:Option Addr)(h1:Ub w0 mb af O es σ (Oy d 0) p (F.v (Oy d 0) p σ)) :
  OE 260 #[Oo mb,Oo a.p,PU p aB] w (O3 w0 mb af O es w (al3 F d p σ)):=by
 have z:=Oq (∀{G}(h:G:=by
 have ei:=hide (cells4 be);have z:=Oq (∀{G}(h:G:=by
 have z:=Oq (∀{G}(h:G:=by
 have z:=Oq (∀{G}(h:G:=by
 obtain⟨rs,d'⟩:=xE (al3 F d ⟨au,aG,st⟩ σ);rw[<-d',<-bm.out];have z:=Oq (∀{G}(h:G:=by
 have bB:=hide d';have bW:=hide aa;clear be hr2 d' aa h1 dx cL d0 fG dC dc;go_enter func260,ntmps260;go_wp2_with fail;rw[<-bu.out,<-b0,<-bV];clear bV b0;refine VN (H:=fun wz vb ev=>VB w0 mb af O es w2 v1 ay σ1 wz vb ev) (G:=?GG) (fun dJ=>?ways) ?rest
 case ways=>
  exact aeQ
 rintro wz vb ev aV;have cE:=aV.fr.keep bj.out Oz;have dV:=hide cE;obtain⟨cH,bU,cg,dt,du,dv,rl⟩:=O7 (cE);have ea:=aV.ms.lt;have cl:vb≠aU:=fun e=>by
  have h1:=aV.vb;have U:=lt_of_heap bj.out;omega
 have cY:O5 none mb w wz:=cu.trans aV.fr;clear cE;obtain⟨fh,cp,dG,hp,hq,hr,g9⟩:=O7 (aV.v)
 by_cases aq:ay=.no
 ·subst aq;have bv:ev=Qp:=aV.er;subst bv;have eM:=(Xk v1 wz);obtain⟨bt,l5⟩:=xH v1.tru;rw[<-l5.out] at eM;go_wp2_with fail;refine cm eM ?_;rintro e ed ⟨rfl,cr⟩;go_wp2_with fail;obtain⟨bP,de⟩:=xH (Qi (!bt));have h6:=VL (!bt) ed;rw[<-de.out] at h6;refine cm h6 ?_;rintro e fy ⟨rfl,cC⟩;have jS:=cr.trans (cC.mono cr.size);have d9:=hide (stays jS dV.out);have k2:=(aV.ms.later jS);have jY:=(cY.trans (O5.of (L:=none) jS (O0 ea)));obtain⟨hs,ht,hu,ig,ih,ii,hv⟩:=O7 d9.out
  clear cH bU cg dt du dv fh cp dG hp hq hr;have z:=Oq (∀{G}(h:G:=by
  have aK:rs=((bP,.no),σ1):=by rw[bB.out];unfold al3;rw[bW.out,de.out,l5.out]
  rw[aK];exact⟨⟨_,rfl,rfl⟩,bC,bF⟩),G);exact agO
 ·obtain⟨et,ex,bv⟩:=aV.er.WT aq ac;subst bv;have aK:rs=((vU,ay),σ1):=by
   rw[bB.out];unfold al3;rw[bW.out];exact axR
  have bM:=hide aK;clear aq aK;have bB:=bM;exact asn),G);exact al5),G);exact aiZ),G);exact adi),G);exact Vd),G);exact Xu
end
end
end Hp
def afs (s:OH):Prop:=s=aaN\/s=UH\/s=QM
def afs.facts {s:OH}(h:afs s):s≠Ox/\QG SY s=none/\(Zn 0 s).isNone=true/\(Zn 1 s).isNone=true/\QG Uj s=none:=by
 rcases h with rfl|rfl|rfl <;> decide
section
variable {l:List Tk} {s:OH} {i:Nat} (ac:afs s) (aH:fx l i=s)
include ac aH
theorem acQ:(O9 l i).kd=2\/(O9 l i).kd=5:=by
 have h0:=ac.facts.1;unfold fx at aH
 split at aH
 ·rename_i h
  simpa using h
 ·exact absurd aH.symm h0
theorem aqg (F:SX)(d:Nat)(x:Tr)(j:Nat):SE l F d i≠.ok x j:=by
 obtain⟨_,U,aw,_,_⟩:=ac.facts;have E:=acQ ac aH;unfold SE;rw[aH,U];simp only;rw[Option.isNone_iff_eq_none.1 aw];simp only;rw[if_neg Ou,if_neg Ou,if_neg Ou]
 nofun
theorem aFp (k d:Nat)(x:Tr)(j:Nat):(fns l k).sg d i≠.ok x j:=by
 cases k with
 | zero=>nofun
 | succ k=>
  obtain⟨_,_,_,aL,_⟩:=ac.facts
  show Ry l (fns l k) d i≠.ok x j
  unfold Ry;rw[aH,Option.isNone_iff_eq_none.1 aL];simp only;unfold SG;intro h;obtain⟨t,bK,h1,_⟩:=PI h;exact aqg ac aH _ _ _ _ h1
theorem aFq (k:Nat)(b:Int)(d:Nat)(x:Tr)(j:Nat):(fns l k).pr b d i≠.ok x j:=by
 cases k with
 | zero=>nofun
 | succ k=>
  show U0 l (fns l k) b d i≠.ok x j
  unfold U0;intro h;obtain⟨t,bK,h1,_⟩:=PI h;exact aFp ac aH _ _ _ _ h1
theorem akA (k d:Nat)(x:Tr)(j:Nat):(fns l k).vl d i≠.ok x j:=by
 cases k with
 | zero=>nofun
 | succ k=>
  show Tj l (fns l k) d i≠.ok x j
  unfold Tj;intro h;obtain⟨t,bK,h1,_⟩:=PI h;exact aFq ac aH _ _ _ _ _ h1
theorem ad3 (k d:Nat)(x:Tr)(j:Nat):(fns l k).st d i≠.ok x j:=by
 cases k with
 | zero=>nofun
 | succ k=>
  obtain⟨_,_,_,_,bE⟩:=ac.facts
  show PY l (fns l k) d i≠.ok x j
  unfold PY;rw[aH,bE];simp only;unfold Wh;intro h;obtain⟨t,bK,h1,_⟩:=PI h;unfold PD at h1
  split at h1
  ·
   cases h1
  ·exact akA ac aH _ _ _ _ h1
end
def aqh {l:List Tk}{k n:Nat}{aX ao:List Tr}{i j:Nat}{s:OH}(ac:afs s)(h:PL l (fns l k) n aX i=.ok ao j):fx l i≠s:=by
 intro aH
 cases n with
 | zero=>cases h
 | succ n=>
  unfold PL at h;have E:=acQ ac aH;rw[if_neg Ou] at h;obtain⟨t,bK,h1,_⟩:=PI h;unfold PD at h1
  split at h1
  ·
   cases h1
  ·exact ad3 ac aH _ _ _ _ h1
def atM {l l':List Tk}{O:Nat}{F c8:SX}(aD:Ends l)(aO:∀ i,i<O->O9 l i=O9 l' i)(dr:l.length=O+1)(ah:FJs l O F c8) :
  ∀ n aX i ao j,i<l.length->PL l F n aX i=.ok ao j->∃ k,k<=O - i/\∀ e,PL l' c8 (k+e) aX i=PL l' c8 e ao O:=by
 intro n
 induction n with
 | zero=>intro aX i ao j _ h;cases h
 | succ n bn=>
  intro aX i ao j am h;unfold PL at h
  by_cases mx:i=O
  ·rw[if_pos ((aD i am).2 Ou)] at h;cases h;subst mx;exact⟨0,Nat.zero_le _,fun e=>by rw[Nat.zero_add]⟩
  ·have bX:¬ (O9 l i).kd=6:=fun h=>by have:=(aD i am).1 h;omega
   rw[if_neg bX] at h;obtain⟨t,bK,h1,h⟩:=PI h;have aN:=Tz (l':=l') (ah.st (0+1) i am) t bK h1;obtain⟨k,E,aq⟩:=bn _ bK ao j aN.1.2 h;refine⟨k+1,by omega,fun e=>?_⟩;rw[show k+1+e=(k+e)+1 by omega]
   conv=>lhs;unfold PL
   rw[<-aO i Ou,if_neg bX,aN.2 Ou];exact aq e
def atN {l l':List Tk}{O ce:Nat}{F c8:SX}(hN:FNx l ce F)(aO:Shifts l l' O)(ah:FSh O F c8) :
  ∀ n aX i ao j,i<l.length->PL l F n aX i=.ok ao j->∃ fE,ao=aX++fE/\∃ k,k<=l.length - i/\∀ e acc',PL l' c8 (k+1+e) acc' (O+i)=.ok (acc'++fE) (O+j):=by
 intro n
 induction n with
 | zero=>intro aX i ao j _ h;cases h
 | succ n bn=>
  intro aX i ao j am h;unfold PL at h
  by_cases bX:(O9 l i).kd=6
  ·rw[if_pos bX] at h;cases h;refine⟨[],by simp,0,Nat.zero_le _,fun e acc'=>?_⟩;rw[show 0+1+e=e+1 by omega];unfold PL;rw[aO.kd,if_pos bX,List.append_nil]
  ·rw[if_neg bX] at h;obtain⟨t,bK,h1,h⟩:=PI h;have aN:=(QT (l:=l) (d:=0) (hN.st (0+1) i am)).2 t bK h1;obtain⟨fE,aT,k,E,aq⟩:=bn _ bK ao j aN.2 h;refine⟨t::fE,by rw[aT];simp,k+1,by omega,fun e acc'=>?_⟩
   rw[show k+1+1+e=(k+1+e)+1 by omega]
   conv=>lhs;unfold PL
   rw[aO.kd,if_neg bX,(SK (ah.st (0+1) i)).1 t bK h1]
   show PL l' c8 (k+1+e) (acc'++[t]) (O+bK)=_
   rw[aq];simp
def acR (t:Tr):(Tv t).kids=t.kids:=by unfold Tv;split <;> rfl
def aax {l:List Tk}{F:SX}{t:Tr}{j:Nat}(h:Uh l F=.ok t j):∃ ao,PL l F F.fuel [] 0=.ok ao j/\t=Tv (.mk 1 Ox 0 ao):=by
 unfold Uh at h;obtain⟨ao,bK,h1,h⟩:=PI h;cases h;exact⟨ao,h1,rfl⟩
def aqi {l':List Tk}{x:Tk}{m:List Tk}{i:Nat}(h:i<l'.length):O9 (l'++[x]) i=O9 (l'++m) i:=by
 unfold O9;rw[List.getD_eq_getElem?_getD,List.getD_eq_getElem?_getD,List.getElem?_append_left h,List.getElem?_append_left h]
def amR (l' lb:List Tk)(pZ i:Nat):O9 (l'++lb.map (afo pZ)) (l'.length+i)=((lb[i]?).map (afo pZ)).getD ⟨6,Ox,0,0⟩:=by
 unfold O9;rw[List.getD_eq_getElem?_getD,List.getElem?_append_right Ou,Nat.add_sub_cancel_left,List.getElem?_map]
def amS (l' lb:List Tk)(pZ:Nat):Shifts lb (l'++lb.map (afo pZ)) l'.length:=by
 constructor <;> intro i <;> rw[amR] <;> unfold O9 <;> rw[List.getD_eq_getElem?_getD] <;> cases lb[i]? <;> rfl
def ajG (aY bb:List OH)(a b:OH)(x y:Tr)(h5:∀ g ∈ bb,1<=g.size)(hg:∀ g ∈ bb,(10:UInt8) ∉ g.data.toList)
  (dd:a.size+b.size<=2500) (ax:Qd aY bb a=.ok x) (D:Qd aY bb b=.ok y) :
  Qd aY bb (jn a b)=.bare\/x=Tv (.mk 1 Ox 0 x.kids)/\Qd aY bb (jn a b)=.ok (Tv (.mk 1 Ox 0 (x.kids++y.kids))):=by
 unfold Qd at ax D;rw[if_neg Ou] at ax D
 cases ya:RH aY bb a (OT Qe a 0) [] with
 | bad er p=>rw[ya] at ax;cases ax
 | ok la=>
  cases h9:RH aY bb b (OT Qe b 0) [] with
  | bad er p=>rw[h9] at D;cases D
  | ok lb=>
   rw[ya] at ax;rw[h9] at D;simp only at ax D;obtain⟨xN,Di,M6⟩:=aaG h5 ya;obtain⟨Dr,xL,e'⟩:=aaG h5 h9;obtain⟨l',rp,Ek⟩:=amH aY bb a b la lb h5 hg ya h9
   cases kw:Uh la (fns la KK) with
   | out=>rw[kw] at ax;cases ax
   | bad er p=>rw[kw] at ax;cases ax
   | ok ta Nw=>
    cases b0:Uh lb (fns lb KK) with
    | out=>rw[b0] at D;cases D
    | bad er p=>rw[b0] at D;cases D
    | ok tb wT=>
     rw[kw] at ax;rw[b0] at D;simp only at ax D
     split at ax
     ·
      cases ax
     split at D
     ·
      cases D
     cases ax;cases D;obtain⟨xs,EZ,rfl⟩:=aax kw;obtain⟨Fq,BF,rfl⟩:=aax b0;have rg:(fns la KK).fuel=24099:=(Xz xN KK).fuel;have oQ:(fns lb KK).fuel=24099:=(Xz Dr KK).fuel;have hlen:la.length=l'.length+1:=by rw[rp];simp
     have xU:=amS l' lb (a.size+1);have Ah:∀ i,i<l'.length->O9 la i=O9 (l'++lb.map (afo (a.size+1))) i:=fun i am=>by rw[rp];exact aqi am
     obtain⟨s0,aN⟩:=xE (l'++lb.map (afo (a.size+1)));rw[<-aN] at xU Ah Ek;have hP:Parts la s0 l'.length:=by
      intro s ac;constructor
      ·intro aH;have h1:=acQ (s:=s) ac aH;have U:=(xN l'.length Ou).2 Ou;omega
      ·have h1:=aqh (s:=s) ac BF;have U:=U2 xU (i:=0);rw[Nat.add_zero] at U;rw[U];exact h1
     have Dt:=avU xN Ah hP KK;have Iz:=avV xU KK;rw[rg] at EZ;rw[oQ] at BF;obtain⟨bQ,iO,J_⟩:=atM xN Ah hlen Dt _ _ _ _ _ Di EZ;obtain⟨fE,jR,ds,eO,ga⟩:=atN (Xz Dr KK) xU Iz _ _ _ _ _ xL BF;rw[List.nil_append] at jR;subst jR;have AJ:(fns s0 KK).fuel=24099:=by rw[<-Dt.fuel];exact rg
     have hloop:PL s0 (fns s0 KK) (fns s0 KK).fuel [] 0=.ok (xs++Fq) (l'.length+wT):=by
      rw[AJ,show 24099=bQ+(ds+1+(24099 - bQ - ds - 1)) by omega,J_];have:=ga (24099 - bQ - ds - 1) xs;rw[Nat.add_zero] at this;exact this
     have hprog:Uh s0 (fns s0 KK)=.ok (Tv (.mk 1 Ox 0 (xs++Fq))) (l'.length+wT):=by
      unfold Uh;rw[hloop];rfl
     have AS:¬ 3000<(jn a b).size:=by rw[YH];omega
     unfold Qd;rw[if_neg AS,Ek];simp only;rw[hprog];simp only
     split
     ·exact Or.inl rfl
     ·refine Or.inr ?_;rw[acR,acR];exact⟨rfl,rfl⟩
def apP (t:Tr):(Tv t).kd=t.kd:=by unfold Tv;split <;> rfl
def VZ {aY bb:List OH}{s:OH}{t:Tr}(h:Qd aY bb s=.ok t):t.kd=1/\t.count<=1500:=by
 unfold Qd at h
 split at h
 ·
  cases h
 ·split at h
  ·
   cases h
  ·split at h
   ·
    cases h
   ·rename_i aa
    split at h
    ·
     cases h
    ·
     cases h;obtain⟨ao,_,rfl⟩:=aax aa;exact⟨apP _,by omega⟩
   ·
    cases h
def ahl (r:PaR)(w:Ov)(e:Ending)(w':Ov):Prop:=
 match r with
 | .ok t=>∃ p,e=OQ (.tuple #[Oo p,OC true])/\Qb (From w.heap.size) w' t p/\OD w w'
 | _=>e=OQ (.tuple #[.pointer none,OC false])/\OD w w'
def ajx (r:PaR)(s:OH)(w:Ov)(E:∀ t,r=.ok t->t.kd=1)(bq:OE 15 #[OB s] w (aay r w)):OE 9 #[OB s] w (ahl r w):=by
 cases r with
 | ok t=>
  have iO:=E t rfl;clear E;go_enter func9,ntmps9;go_wp2_with fail;refine cm bq ?_;rintro e w1 ⟨p,rfl,az,D⟩;obtain⟨u,ps,hblk,_,_,_⟩:=az.abT;obtain⟨q7,_,_,_,_⟩:=node_cells hblk;rw[iO] at q7;have bL:=D;clear hblk iO;go_wp2_with fail
  go_region
  go_wp2_with fail;exact UU (v:=.tuple #[Oo p,OC true]) ⟨p,rfl,Qb.later (I:=From w.heap.size) (w:=w1) (w':=w1.drew) (fun b _ _=>rfl) _ _ az,bL.drew⟩
 | «at» er pl=>
  clear E;go_enter func9,ntmps9;go_wp2_with fail;refine cm bq ?_;rintro e w1 ⟨b,rfl,_,_,D⟩;have bL:=D;go_wp2_with fail
  go_region
  go_wp2_with fail;exact UU (v:=.tuple #[Ri,OC false]) ⟨rfl,bL.drew⟩
 | bare=>
  clear E;go_enter func9,ntmps9;go_wp2_with fail;refine cm bq ?_;rintro e w1 ⟨rfl,D⟩;have bL:=D;go_wp2_with fail
  go_region
  go_wp2_with fail;exact UU (v:=.tuple #[Ri,OC false]) ⟨rfl,bL.drew⟩
def abw (aY bb:List OH)(s:OH)(w:Ov)(dr:Lists aY bb w)(h5:∀ g ∈ bb,1<=g.size)(dY:Tabs w):OE 9 #[OB s] w (ahl (Qd aY bb s) w):=
 ajx _ s w (fun _ h=>(VZ h).1) (parse_any aY bb s w dr h5 dY)
def anA (P:Tk->Prop)(aY bb:List OH)(s:OH)(h5:∀ g ∈ bb,1<=g.size)(bX:P ⟨6,⟨#[]⟩,0,s.size⟩)(hP:∀ i kd tx n e,i<s.size->RU aY bb s i=.tok kd tx n e->P ⟨kd,tx,n,i⟩):∀ m i aX l,s.size - i=m->i<=s.size->(∀ t ∈ aX,P t)->RH aY bb s i aX=.ok l->∀ t ∈ l,P t:=by
 intro m
 induction m using Nat.strongRecOn with
 | ind m bn=>
  intro i aX l aS am ax h
  by_cases aQ:i<s.size
  ·
   cases aa:RU aY bb s i with
   | bad er p=>rw[WX aY bb s i aX er p aQ aa] at h;cases h
   | tok kd tx n e=>
    have z:=Oq (∀{G}(h:G:=by
    refine bn (s.size - OT Qe s e) Ou (OT Qe s e) _ l rfl gc (fun t bc=>?_) h
    rcases List.mem_append.1 bc with bc|bc
    ·exact ax t bc
    ·rw[List.mem_singleton.1 bc];exact hP i kd tx n e aQ aa),G);exact azn
  ·rw[UN aY bb s i aX aQ] at h;cases h;intro t bc
   rcases List.mem_append.1 bc with bc|bc
   ·exact ax t bc
   ·rw[List.mem_singleton.1 bc];exact bX
abbrev Sm (s:OH):Prop:=s.size<=3000
abbrev Nb (n:Int):Prop:=-1000000000<=n/\n<=1000000000
def aro (s:OH)(k:Nat)(E:k<=s.size):∀ b ∈ (s.extract k (OT Ql s k)).data.toList,Ql (b.toNat:Int)=true:=by
 have gJ:=QL Ql s k E;have pL:=Us Ql s k;have dd:=extract_size s k (OT Ql s k) Ou gJ;exact azo
def anB {aY bb:List OH}{s:OH}(ac:s.size<=3000){i e:Nat}{kd n:Int}{tx:OH}(am:i<s.size)(aa:RU aY bb s i=.tok kd tx n e):Sm tx/\Nb n:=by
 have ae:∀ a b,(s.extract a b).size<=3000:=fun a b=>by rw[ByteArray.size_extract];omega
 unfold RU at aa
 split at aa
 ·unfold TG at aa
  split at aa
  ·
   cases aa;exact⟨ae _ _,by decide⟩
  ·split at aa
   ·
    cases aa
   ·
    cases aa;exact⟨ae _ _,by decide⟩
 ·split at aa
  ·unfold rdNum at aa
   split at aa
   ·
    cases aa
   ·split at aa
    ·
     cases aa
    ·split at aa
     ·
      cases aa
     ·rename_i aw
      cases aa;exact⟨by show (0:Nat)<=3000;omega,by have:=(Y1 _ (aro s i (O0 am))).1;omega,by omega⟩
  ·split at aa
   ·unfold rdStr at aa
    split at aa
    ·split at aa
     ·
      cases aa
     ·rename_i bE
      cases aa;exact⟨by show (List.toArray _).size<=3000;rw[List.size_toArray];omega,by decide⟩
    ·
     cases aa
   ·unfold Uk at aa
    split at aa
    ·rename_i g hg
     cases aa;have U:=List.find?_some hg;unfold YJ at U;simp at U;have aw:=ae i s.size;exact⟨by show tx.size<=3000;omega,by decide⟩
    ·
     cases aa
def RQ.mono {cW dl CY C1:OH->Prop}{dk CZ:Int->Prop}(h1:∀ s,cW s->CY s)(U:∀ s,dl s->C1 s)(aw:∀ n,dk n->CZ n){c:Nat}{t:Tr}(h:RQ cW dl dk c t):RQ CY C1 CZ c t:=by
 induction h with
 | name h=>exact .name (h1 _ h)
 | str h=>exact .str (U _ h)
 | num h=>exact .num (aw _ h)
 | lit h=>exact .lit h
 | anC h _ i=>exact .anC (h1 _ h) i
 | call _ _ hl i j=>exact .call i j hl
 | one h _ i=>exact .one h i
 | two h _ _ i j=>exact .two h i j
 | asg h _ _ i j=>exact .asg h i j
 | obj _ hl i=>exact .obj i hl
 | lam h _ _ i j=>exact .lam (h.imp id (h1 _)) i j
 | prop h _ i=>exact .prop (h1 _ h) i
 | par h=>exact .par (h1 _ h)
 | ali _ hl i=>exact .ali i hl
 | blk _ i=>exact .blk i
 | body h _ i=>exact .body h i
 | decl E h _ hl aj i=>exact .decl E (h1 _ h) i hl aj
 | func h _ _ i j=>exact .func (h1 _ h) i j
 | aic _ i=>exact .aic i
 | sif _ _ i j=>exact .sif i j
 | arq _ _ _ i j k=>exact .arq i j k
 | loop h _ _ i j=>exact .loop h i j
 | give h _ hl aj i=>exact .give h i hl aj
 | atm _ _ _ hl i j k=>exact .atm i j k hl
 | cat h _ i=>exact .cat (h1 _ h) i
 | fin _ i=>exact .fin i
 | empty=>exact .empty
 | expr _ i=>exact .expr i
 | prog h _ i=>exact .prog h i
def anD {aY bb:List OH}{s:OH}{t:Tr}(h5:∀ g ∈ bb,1<=g.size)(h:Qd aY bb s=.ok t):RQ Sm Sm Nb 9 t:=by
 have ac:s.size<=3000:=by
  unfold Qd at h
  split at h
  ·
   cases h
  ·omega
 obtain⟨l,hl,eC⟩:=af4 h;have D:∀ t ∈ l,Sm t.tx/\Nb t.n:=anA (fun t=>Sm t.tx/\Nb t.n) aY bb s h5 ⟨by show (0:Nat)<=3000;omega,show Nb 0 by decide⟩ (fun i kd tx n e am aa=>anB ac am aa) _ _ _ _ rfl (QL Qe s 0 (Nat.zero_le _)) (fun t bc=>by cases bc) hl
 have E:∀ i,Sm (O9 l i).tx/\Nb (O9 l i).n:=fun i=>by
  unfold O9;rw[List.getD_eq_getElem?_getD]
  cases am:l[i]? with
  | none=>exact⟨by show (0:Nat)<=3000;omega,by decide⟩
  | some t=>exact D t (List.mem_of_getElem? am)
 exact eC.mono (fun s ⟨i,_,e⟩=>e ▸ (E i).1) (fun s ⟨i,e⟩=>e ▸ (E i).1) (fun n ⟨i,e⟩=>e ▸ (E i).2)
namespace Hp
structure Gv (m:Nat)(v:Va):Prop where
 n:v.k≠5->Nb v.n
 s:Sm v.s
 r:v.k=5->0<=v.n/\v.n<m
def Gv.up {n mH:Nat}{v:Va}(h:Gv n v)(az:n<=mH):Gv mH v:=⟨h.n,h.s,fun e=>⟨(h.r e).1,by have:=(h.r e).2;omega⟩⟩
def sm0:Sm Ox:=by decide
def VD (n:Nat):Gv n vU:=⟨fun _=>by decide,sm0,fun e=>by cases e⟩
def gvB (n:Nat)(b:Bool):Gv n (Qi b):=⟨fun _=>by cases b <;> decide,sm0,fun e=>by cases e⟩
def gvT {n:Nat}{s:OH}(h:Sm s):Gv n (Wn s):=⟨fun _=>show Nb 0 by decide,h,fun e=>by cases e⟩
def gvN {n:Nat}{k:Int}(h:Nb k):Gv n (Xh k):=⟨fun _=>h,sm0,fun e=>by cases e⟩
structure Gm (lO:Nat)(M:Mo):Prop where
 pv:∀ x ∈ M.objs,∀ p ∈ x.ps,Gv M.objs.length p.v
 cv:∀ x ∈ M.OI,∀ c ∈ x.cs,Gv M.objs.length c.v
 co:∀ x ∈ M.objs,0<=x.code/\x.code<3+lO
def K4 (M:Mo)(s:Int)(nm:OH):Prop:=∃ (i:Nat) (x:Ro) (c:Ce),s=i/\M.OI[i]? = some x/\c ∈ x.cs/\Z7 nm c.name=true/\c.kind≠4
inductive Chg (V:Va->Prop) (ce:Int) (M:Mo):Mo->Prop
 | same:Chg V ce M M
 | ob (i:Nat) (x:Ob) (ps:List Pr) (ae:M.objs[i]? = some x) (al:∀ p ∈ ps,V p.v\/p ∈ x.ps):Chg V ce M (M.TN i ⟨x.code,ps⟩)
 | ro (i:Nat) (x:Ro) (cs:List Ce) (ae:M.OI[i]? = some x) (al:∀ c ∈ cs,V c.v\/c ∈ x.cs) (E:∀ c ∈ x.cs,c.kind≠4->∃ en ∈ cs,en.name=c.name/\en.kind=c.kind) (az:∀ c ∈ cs,c.kind=ce\/∃ q ∈ x.cs,q.kind=c.kind):Chg V ce M (M.RZ i ⟨x.outer,x.object,cs⟩)
section
variable {V:Va->Prop} {ce:Int} {M oA:Mo} {lO:Nat}
section
variable (h:Chg V ce M oA)
include h
theorem Chg.ol:oA.objs.length=M.objs.length:=by cases h <;> simp[Mo.TN,Mo.RZ]
theorem Chg.rl:oA.OI.length=M.OI.length:=by cases h <;> simp[Mo.TN,Mo.RZ]
theorem Chg.k4 {s:Int}{nm:OH}(E:K4 M s nm):K4 oA s nm:=by
 obtain⟨i,x,c,rfl,ae,aj,h1,U⟩:=E
 cases h with
 | same=>exact⟨i,x,c,rfl,ae,aj,h1,U⟩
 | ob=>exact⟨i,x,c,rfl,ae,aj,h1,U⟩
 | ro j y cs hy al E az=>
  by_cases e:j=i
  ·subst e;rw[ae] at hy;cases hy;obtain⟨en,aw,aL,bE⟩:=E c aj U;exact⟨j,_,en,rfl,List.getElem?_set_self (List.getElem?_eq_some_iff.1 ae).1,aw,by rw[aL];exact h1,by rw[bE];exact U⟩
  ·exact⟨i,x,c,rfl,(List.getElem?_set_ne e).trans ae,aj,h1,U⟩
theorem Chg.gm (fZ:∀ v,V v->Gv M.objs.length v)(hg:Gm lO M):Gm lO oA:=by
 have hl:=h.ol
 cases h with
 | same=>exact hg
 | ob i x ps ae al=>
  have uv:=List.mem_of_getElem? ae;refine⟨fun y hy p EA=>?_,fun y hy c aj=>?_,fun y hy=>?_⟩
  ·rw[hl]
   rcases List.mem_or_eq_of_mem_set hy with hy|rfl
   ·exact hg.pv y hy p EA
   ·rcases al p EA with h|ag
    ·exact fZ _ h
    ·exact hg.pv x uv p ag
  ·rw[hl];exact hg.cv y hy c aj
  ·rcases List.mem_or_eq_of_mem_set hy with hy|rfl
   ·exact hg.co y hy
   ·exact hg.co x uv
 | ro i x cs ae al E az=>
  have uv:=List.mem_of_getElem? ae;refine⟨hg.pv,fun y hy c aj=>?_,hg.co⟩
  rcases List.mem_or_eq_of_mem_set hy with hy|rfl
  ·exact hg.cv y hy c aj
  ·rcases al c aj with h|ag
   ·exact fZ _ h
   ·exact hg.cv x uv c ag
end
section
variable {α:Type} {f:α->Va} {P:Va->Prop} {l:List α}
include α f P l
def acT {k:Nat}{a:α}(ax:P (f a)):∀ p ∈ l.set k a,P (f p)\/p ∈ l:=fun p al=>by
 rcases List.mem_or_eq_of_mem_set al with h|rfl
 ·exact .inr h
 ·exact .inl ax
def ahD {a:α}(ax:P (f a)):∀ p ∈ l++[a],P (f p)\/p ∈ l:=fun p al=>by
 rcases List.mem_append.1 al with h|h
 ·exact .inr h
 ·rw[List.mem_singleton.1 h];exact .inl ax
end
def aeb {l:List Ce}{k:Nat}{c a:Ce}(aj:l[k]? = some c)(az:a.name=c.name)(E:a.kind=c.kind):∀ d ∈ l,d.kind≠4->∃ en ∈ l.set k a,en.name=d.name/\en.kind=d.kind:=fun d hd _=>by
 obtain⟨j,aN⟩:=List.mem_iff_getElem?.1 hd;have cM:=(List.getElem?_eq_some_iff.1 aj).1
 by_cases e:k=j
 ·subst e;rw[aj] at aN;cases aN;exact⟨a,List.mem_of_getElem? (List.getElem?_set_self cM),az,E⟩
 ·exact⟨d,List.mem_of_getElem? ((List.getElem?_set_ne e).trans aN),rfl,rfl⟩
def ahE {ce:Int}{l:List Ce}{k:Nat}{c a:Ce}(aj:l[k]? = some c)(E:a.kind=c.kind):∀ d ∈ l.set k a,d.kind=ce\/∃ q ∈ l,q.kind=d.kind:=fun d hd=>by
 rcases List.mem_or_eq_of_mem_set hd with h|rfl
 ·exact .inr ⟨d,h,rfl⟩
 ·exact .inr ⟨c,List.mem_of_getElem? aj,E.symm⟩
def aqo {ce:Int}{l:List Ce}{a:Ce}(E:a.kind=ce):∀ d ∈ l++[a],d.kind=ce\/∃ q ∈ l,q.kind=d.kind:=fun d hd=>by
 rcases List.mem_append.1 hd with h|h
 ·exact .inr ⟨d,h,rfl⟩
 ·rw[List.mem_singleton.1 h];exact .inl E
def VY (M:Mo)(o:Int)(nm:OH)(v:Va)(fx:Bool):Chg (· = v) 0 M (M.put o nm v fx).2:=by
 unfold Mo.put
 rcases Rn M o with ⟨h0,_⟩|⟨i,x,rfl,ae,h1⟩
 ·rw[h0];exact .same
 ·rw[h1]
  cases E:fP nm x.ps with
  | none=>simp only[E];exact .ob i x _ ae (ahD (f:=Pr.v) (P:=(· = v)) rfl)
  | some k=>
   simp only[E]
   cases aj:x.ps[k]? with
   | none=>exact .same
   | some c=>exact .ob i x _ ae (acT (f:=Pr.v) (P:=(· = v)) rfl)
def akR (M:Mo)(o:Int)(nm:OH):Chg (fun _=>False) 0 M (M.cut o nm).2:=by
 unfold Mo.cut
 rcases Rn M o with ⟨h0,_⟩|⟨i,x,rfl,ae,h1⟩
 ·rw[h0];exact .same
 ·rw[h1]
  cases E:fP nm x.ps with
  | none=>simp only[E];exact .same
  | some k=>
   simp only[E]
   cases aj:x.ps[k]? with
   | none=>exact .same
   | some c=>
    simp only
    split
    ·exact .same
    ·exact .ob i x _ ae fun p al=>.inr (List.mem_of_mem_eraseIdx al)
def VI (M:Mo)(s:Int)(nm:OH)(kd:Int)(v:Va):Chg (· = v) kd M (M.declare s nm kd v).2:=by
 unfold Mo.declare
 rcases P7 M s with ⟨h0,_⟩|⟨i,x,rfl,ae,h1⟩
 ·rw[h0];exact .same
 ·rw[h1];simp only
  split
  ·exact .same
  ·
   cases E:fC nm x.cs with
   | some j=>exact .same
   | none=>exact .ro i x _ ae (ahD (f:=Ce.v) (P:=(· = v)) rfl) (fun c aj _=>⟨c,List.mem_append_left _ aj,rfl,rfl⟩) (aqo rfl)
def amV (M:Mo)(s:Int)(nm:OH)(v:Va):Chg (· = v) 0 M (M.start s nm v).2:=by
 unfold Mo.start
 rcases P7 M s with ⟨h0,_⟩|⟨i,x,rfl,ae,h1⟩
 ·rw[h0];exact .same
 ·rw[h1]
  cases E:fC nm x.cs with
  | none=>simp only[E];exact .same
  | some k=>
   simp only[E]
   cases aj:x.cs[k]? with
   | none=>exact .same
   | some c=>exact .ro i x _ ae (acT (f:=Ce.v) (P:=(· = v)) rfl) (aeb aj rfl rfl) (ahE aj rfl)
def aqp {M:Mo}{i:Nat}{x:Ro}{nm:OH}{c:Ce}(h1:M.ro i=some x)(aj:M.Y3 i nm=some c):∃ k,fC nm x.cs=some k/\x.cs[k]? = some c:=by
 unfold Mo.Y3 at aj;rw[h1] at aj
 rcases VW (fun c=>Z7 nm c.name) x.cs with ⟨U,aw⟩|⟨k,en,U,aw,aL,_⟩
 ·exact absurd (aw.symm.trans aj) O8
 ·have e:some en=some c:=aL.symm.trans aj;cases e;exact⟨k,U,aw⟩
def aec (M:Mo)(s:Int)(nm:OH)(v:Va):Chg (· = v) 0 M (M.write s nm v).2:=by
 unfold Mo.write
 split
 ·
  cases aj:M.Y3 s nm with
  | none=>exact VY _ _ _ _ _
  | some c=>
   simp only
   split
   ·exact .same
   ·split
    ·exact .same
    ·split
     ·exact .same
     ·rcases P7 M s with ⟨h0,_⟩|⟨i,x,rfl,ae,h1⟩
      ·rw[h0];exact .same
      ·obtain⟨k,U,aw⟩:=aqp h1 aj;rw[h1];simp only[U];exact .ro i x _ ae (acT (f:=Ce.v) (P:=(· = v)) rfl) (aeb aw rfl rfl) (ahE aw rfl)
 ·exact .same
def aqr (M:Mo)(s:Int)(nm:OH):Chg (fun _=>False) 0 M (M.drop s nm).2:=by
 unfold Mo.drop
 cases aj:M.Y3 s nm with
 | none=>exact akR _ _ _
 | some c=>
  simp only
  split
  ·exact .same
  ·rename_i E
   rcases P7 M s with ⟨h0,_⟩|⟨i,x,rfl,ae,h1⟩
   ·rw[h0];exact .same
   ·obtain⟨k,U,aw⟩:=aqp h1 aj;rw[h1];simp only[U];refine .ro i x _ ae (fun p al=>.inr (List.mem_of_mem_eraseIdx al)) (fun d hd aL=>⟨d,?_,rfl,rfl⟩) fun c aj=>.inr ⟨c,List.mem_of_mem_eraseIdx aj,rfl⟩;obtain⟨j,aN⟩:=List.mem_iff_getElem?.1 hd;have cl:j≠k:=fun e=>by
     subst e;rw[aw] at aN;cases aN;exact aL (by simpa using E)
    refine List.mem_eraseIdx_iff_getElem?.2 ⟨j,cl,aN⟩
def N4 (M:Mo)(s:Int):Prop:=∃ (i:Nat) (x:Ro),s=i/\M.OI[i]? = some x/\x.object = -1/\∀ c ∈ x.cs,c.kind≠4
def N4.chg {V:Va->Prop}{ce:Int}{M oA:Mo}{s:Int}(h:N4 M s)(aj:Chg V ce M oA)(E:ce≠4):N4 oA s:=by
 obtain⟨i,x,rfl,ae,h1,U⟩:=h
 cases aj with
 | same=>exact⟨i,x,rfl,ae,h1,U⟩
 | ob=>exact⟨i,x,rfl,ae,h1,U⟩
 | ro j y cs hy al Ed az=>
  by_cases e:j=i
  ·subst e;rw[ae] at hy;cases hy;refine⟨j,_,rfl,List.getElem?_set_self (List.getElem?_eq_some_iff.1 ae).1,h1,fun c aj=>?_⟩
   rcases az c aj with h|⟨q,ag,h⟩
   ·rw[h];exact E
   ·rw[<-h];exact U q ag
  ·exact⟨i,x,rfl,(List.getElem?_set_ne e).trans ae,h1,U⟩
def N4.k4 {M:Mo}{s:Int}(h:N4 M s)(nm:OH){kd:Int}(E:kd≠4)(v:Va):K4 (M.declare s nm kd v).2 s nm:=by
 obtain⟨i,x,rfl,ae,h1,U⟩:=h;have aa:M.ro i=some x:=by
  rcases P7 M i with ⟨_,aw⟩|⟨j,y,e,hy,aw⟩
  ·have:=(List.getElem?_eq_some_iff.1 ae).1;omega
  ·have e:i=j:=Ou;subst e;rw[ae] at hy;cases hy;exact aw
 unfold Mo.declare;rw[aa];simp only[h1]
 cases aH:fC nm x.cs with
 | some k=>
  obtain⟨c,aj,aL⟩:∃ c,x.cs[k]? = some c/\Z7 nm c.name=true:=by
   rcases VW (fun c=>Z7 nm c.name) x.cs with ⟨bE,_⟩|⟨lx,c,bE,bX,_,fY⟩
   ·exact absurd (bE.symm.trans aH) O8
   ·have e:some lx=some k:=bE.symm.trans aH;cases e;exact⟨c,bX,fY⟩
  exact⟨i,x,c,rfl,ae,List.mem_of_getElem? aj,aL,U c (List.mem_of_getElem? aj)⟩
 | none=>
  refine⟨i,_,⟨nm,v,kd,!(kd==1||kd==2)⟩,rfl,List.getElem?_set_self (List.getElem?_eq_some_iff.1 ae).1,List.mem_append_right _ (List.mem_singleton.2 rfl),?_,E⟩;simp[Z7]
mutual
def Tr.nbr:Tr->Bool
 | .mk kd _ _ ks=>!((kd==7||kd==8||kd==9)&&ks.any WY)&&Tr.ajL ks
def Tr.ajL:List Tr->Bool
 | []=>true
 | t::ao=>Tr.nbr t&&Tr.ajL ao
end
mutual
def akS:∀ (t:Tr) (s i b:Bool),chk t s i b=none->Tr.nbr t=true
 | .mk kd tx n ks,s,i,b,h=>by
  rw[chk] at h;rw[Tr.nbr]
  cases hw:wrT (.mk kd tx n ks) (s2 (.mk kd tx n ks) s) (i2 (.mk kd tx n ks) i) b with
  | some e=>rw[hw] at h;cases h
  | none=>
   rw[hw] at h;rw[ahF ks _ _ _ h,Bool.and_true]
   by_cases E:kd=7\/kd=8\/kd=9
   ·have U:brE (.mk kd tx n ks) (s2 (.mk kd tx n ks) s)=none:=by
     rw[<-hw];unfold wrT
     rcases E with rfl|rfl|rfl <;> rfl
    unfold brE at U
    split at U
    ·
     cases U
    ·rename_i aw
     have aL:ks.any WY=false:=by
      cases bE:ks.any WY with
      | false=>rfl
      | true=>exact absurd (show _ from by rw[show (Tr.mk kd tx n ks).kids=ks from rfl,bE,Bool.or_true]) aw
     rw[aL,Bool.and_false];rfl
   ·have U:(kd==7||kd==8||kd==9)=false:=by simpa[not_or,and_assoc] using E
    rw[U];rfl
def ahF:∀ (ao:List Tr) (s i b:Bool),TS ao s i b=none->Tr.ajL ao=true
 | [],_,_,_,_=>by rw[Tr.ajL]
 | t::ao,s,i,b,h=>by
  rw[TS] at h;rw[Tr.ajL]
  cases h1:chk t s i b with
  | some e=>rw[h1] at h;cases h
  | none=>
   rw[h1] at h;rw[akS t s i b h1,ahF ao s i b h];rfl
end
def ahG:∀ {ao:List Tr},Tr.ajL ao=true->∀ t ∈ ao,Tr.nbr t=true
 | [],_,_,h=>by cases h
 | u::ao,h,t,bc=>by
  rw[Tr.ajL,Bool.and_eq_true] at h
  rcases List.mem_cons.1 bc with rfl|bc
  ·exact h.1
  ·exact ahG h.2 t bc
def ZN {t:Tr}(h:Tr.nbr t=true):(∀ k ∈ t.kids,Tr.nbr k=true)/\((t.kd=7\/t.kd=8\/t.kd=9)->∀ k ∈ t.kids,WY k=false):=by
 cases t with
 | mk kd tx n ks=>
  rw[Tr.nbr,Bool.and_eq_true] at h;refine⟨ahG h.2,fun E k aS=>?_⟩;have U:(kd==7||kd==8||kd==9)=true:=by
   rcases E with E|E|E <;> (change kd=_ at E;subst E;rfl)
  rw[U,Bool.true_and] at h;have aw:ks.any WY=false:=by simpa using h.1
  exact Bool.eq_false_iff.2 fun e=>absurd (show ks.any WY=true from List.any_eq_true.2 ⟨k,aS,e⟩) (by rw[aw];simp)
structure Nk (c:Nat)(t:Tr):Prop where
 sh:RQ Sm Sm Nb c t
 ct:t.count<=1500
 nb:Tr.nbr t=true
def YF {t k:Tr}(h:k ∈ t.kids):k.count<t.count:=by
 cases t with
 | mk kd tx n ks=>
  obtain⟨i,am,e⟩:=List.getElem_of_mem h;have:=UO ks i am;rw[Tr.count];change (ks[i]).count<=_ at this;change ks[i]=k at e;rw[e] at this;omega
def Nk.kid {c en:Nat}{t k:Tr}(h:Nk c t)(E:k ∈ t.kids)(ac:RQ Sm Sm Nb en k):Nk en k:=⟨ac,by have:=YF E;have:=h.ct;omega,(ZN h.nb).1 k E⟩
structure Fg (t:Tr):Prop where
 ct:t.count<=1500
 nb:Tr.nbr t=true
 sh:∃ kd s n p b,t=.mk kd s n [p,b]/\RQ Sm Sm Nb 5 p/\RQ Sm Sm Nb 4 b
structure Iv (N:Int)(σ:St):Prop where
 pz:∃ n:Nat,Sz n σ/\(n:Int)<=N+10000 * σ.steps
 gm:Gm σ.Rq.length σ.M
 fn:∀ f ∈ σ.Rq,Fg f.d.2/\0<=f.scope/\f.scope<σ.M.OI.length
 ca:σ.calls<=40
 lr:2<=σ.M.OI.length
 lo:1<=σ.M.objs.length
structure Ex (σ bO:St):Prop where
 ro:σ.M.OI.length<=bO.M.OI.length
 ob:σ.M.objs.length<=bO.M.objs.length
 ca:bO.calls=σ.calls
 st:σ.steps<=bO.steps
 k4:∀ s nm,K4 σ.M s nm->K4 bO.M s nm
 lg:σ.log <+: bO.log
def Po (p:Pl)(σ:St):Prop:=0<=p.scope/\p.scope<σ.M.OI.length
structure Nx (N:Int)(σ bO:St):Prop where
 iv:Iv N bO
 ex:Ex σ bO
 st:bO.steps=σ.steps
variable {N N':Int}{σ σ1 cy:St}{v:Va}
def Ex.refl (σ:St):Ex σ σ:=⟨O6,O6,rfl,O6,fun _ _ h=>h,List.prefix_rfl⟩
def Ex.trans (h:Ex σ σ1)(k:Ex σ1 cy):Ex σ cy:=⟨Nat.le_trans h.ro k.ro,Nat.le_trans h.ob k.ob,k.ca.trans h.ca,Nat.le_trans h.st k.st,fun s nm x=>k.k4 s nm (h.k4 s nm x),h.lg.trans k.lg⟩
def Iv.up (h:Iv N σ)(hN:N<=N'):Iv N' σ:=by
 obtain⟨n,h1,U⟩:=h.pz;exact⟨⟨n,h1,by omega⟩,h.gm,h.fn,h.ca,h.lr,h.lo⟩
def Nx.refl (h:Iv N σ):Nx N σ σ:=⟨h,Ex.refl _,rfl⟩
def Nx.trans (h:Nx N σ σ1)(k:Nx N' σ1 cy):Nx N' σ cy:=⟨k.iv,h.ex.trans k.ex,k.st.trans h.st⟩
def Nx.up (h:Nx N σ σ1)(hN:N<=N'):Nx N' σ σ1:=⟨h.iv.up hN,h.ex,h.st⟩
def Po.up {p:Pl}(h:Po p σ)(k:Ex σ σ1):Po p σ1:=⟨h.1,by have:=h.2;have:=k.ro;omega⟩
def Po.some {p:Pl}(h:Po p σ):(σ.M.ro p.scope).isSome=true:=by
 rcases P7 σ.M p.scope with ⟨_,h1⟩|⟨i,x,_,_,h1⟩
 ·have:=h.1;have:=h.2;omega
 ·rw[h1];rfl
def Iv.heap {V:Va->Prop}{ce:Int}{M:Mo}(h:Iv N σ)(aj:Chg V ce σ.M M)(fZ:∀ v,V v->Gv σ.M.objs.length v)(hg:∀ k,σ.M.Go k->M.Go (k+1)):Nx (N+1) σ { σ with M:=M }:=by
 obtain⟨n,h1,U⟩:=h.pz;refine⟨⟨⟨n+1,h1.heap (Nat.le_succ _) (hg _ h1.go) aj.rl,by show ((n+1:Nat):Int)<=N+1+10000 * σ.steps;omega⟩,aj.gm fZ h.gm,fun f aH=>?_,h.ca,?_,?_⟩,⟨Nat.le_of_eq aj.rl.symm,Nat.le_of_eq aj.ol.symm,rfl,O6,fun _ _ x=>aj.k4 x,List.prefix_rfl⟩,rfl⟩
 ·show _/\_/\f.scope<(M.OI.length:Int)
  rw[aj.rl];exact h.fn f aH
 ·show 2<=M.OI.length
  rw[aj.rl];exact h.lr
 ·show 1<=M.objs.length
  rw[aj.ol];exact h.lo
section
variable (h:Iv N σ) (av:Gv σ.M.objs.length v)
include h av
theorem Iv.dec (s:Int)(nm:OH)(kd:Int):Nx (N+1) σ (σ.dec s nm kd v):=h.heap (VI _ _ _ _ _) (fun _ e=>e ▸ av) fun _ g=>g.declare _ _ _ _
theorem Iv.put (o:Int)(nm:OH)(fx:Bool):Nx (N+1) σ (σ.RG o nm v fx):=h.heap (VY _ _ _ _ _) (fun _ e=>e ▸ av) fun _ g=>g.put _ _ _ _
theorem Iv.write (s:Int)(nm:OH):Nx (N+1) σ { σ with M:=(σ.M.write s nm v).2 }:=h.heap (aec _ _ _ _) (fun _ e=>e ▸ av) fun _ g=>g.write _ _ _
theorem Iv.start (s:Int)(nm:OH):Nx (N+1) σ { σ with M:=(σ.M.start s nm v).2 }:=h.heap (amV _ _ _ _) (fun _ e=>e ▸ av) fun _ g=>g.start _ _ _
end
def Iv.drop (h:Iv N σ)(s:Int)(nm:OH):Nx (N+1) σ { σ with M:=(σ.M.drop s nm).2 }:=h.heap (aqr _ _ _) (fun _ e=>e.elim) fun _ g=>g.drop _ _
def Iv.cut (h:Iv N σ)(s:Int)(nm:OH):Nx (N+1) σ { σ with M:=(σ.M.cut s nm).2 }:=h.heap (akR _ _ _) (fun _ e=>e.elim) fun _ g=>g.cut _ _
def K4.app {M:Mo}{s:Int}{nm:OH}{os:List Ob}{l:List Ro}(h:K4 M s nm):K4 ⟨os,M.OI++l⟩ s nm:=by
 obtain⟨i,x,c,h1,ae,U⟩:=h;exact⟨i,x,c,h1,(List.getElem?_append_left (List.getElem?_eq_some_iff.1 ae).1).trans ae,U⟩
def Gm.Pz {lO z':Nat}{M:Mo}{c:Int}(h:Gm lO M)(aH:lO<=z')(aj:0<=c/\c<3+z'):Gm z' (M.Pz c):=by
 have hl:(M.Pz c).objs.length=M.objs.length+1:=by simp[Mo.Pz]
 refine⟨fun x ae p al=>?_,fun x ae p al=>?_,fun x ae=>?_⟩
 ·rw[hl]
  rcases List.mem_append.1 ae with ae|ae
  ·exact(h.pv x ae p al).up (Nat.le_succ _)
  ·rw[List.mem_singleton.1 ae] at al;cases al
 ·rw[hl];exact(h.cv x ae p al).up (Nat.le_succ _)
 ·rcases List.mem_append.1 ae with ae|ae
  ·have:=h.co x ae;omega
  ·rw[List.mem_singleton.1 ae];exact aj
def Iv.Pz (h:Iv N σ){c:Int}(aj:0<=c/\c<3+σ.Rq.length):Nx (N+1) σ { σ with M:=σ.M.Pz c }:=by
 obtain⟨n,h1,U⟩:=h.pz;exact⟨⟨⟨n+1,h1.heap (Nat.le_succ _) (h1.go.Pz _) rfl,by show ((n+1:Nat):Int)<=N+1+10000 * σ.steps;omega⟩,h.gm.Pz O6 aj,h.fn,h.ca,h.lr,by have:=h.lo;simp[Mo.Pz]⟩,⟨O6,by simp[Mo.Pz],rfl,O6,fun _ _ x=>x,List.prefix_rfl⟩,rfl⟩
def Iv.mkFun (h:Iv N σ){d:Nd}{p:Pl}(hd:Fg d.2)(al:Po p σ):Nx (N+1) σ (mkFun d p σ).2/\Gv (mkFun d p σ).2.M.objs.length (mkFun d p σ).1:=by
 obtain⟨n,h1,U⟩:=h.pz;have n4:(Hp.mkFun d p σ).2.M.objs.length=σ.M.objs.length+1:=by simp[Hp.mkFun,Mo.Pz]
 have fI:(Hp.mkFun d p σ).2.Rq.length=σ.Rq.length+1:=by simp[Hp.mkFun]
 refine⟨⟨⟨⟨n+1,h1.mkFun d p,by show ((n+1:Nat):Int)<=N+1+10000 * σ.steps;omega⟩,?_,fun f aH=>?_,h.ca,h.lr,by omega⟩,⟨O6,by omega,rfl,O6,fun _ _ x=>x,List.prefix_rfl⟩,rfl⟩,?_⟩
 ·rw[fI];exact h.gm.Pz (Nat.le_succ _) ⟨by omega,by push_cast;omega⟩
 ·rcases List.mem_append.1 aH with aH|aH
  ·exact h.fn f aH
  ·rw[List.mem_singleton.1 aH];exact⟨hd,al⟩
 ·rw[n4];exact⟨fun e=>absurd rfl e,sm0,fun _=>⟨by show 0<=((σ.M.objs.length:Nat):Int);omega,by show ((σ.M.objs.length:Nat):Int)<_;omega⟩⟩
def Iv.opn (h:Iv N σ)(u o x:Int):Nx (N+1) σ (σ.opn u o x):=by
 obtain⟨n,h1,U⟩:=h.pz;have qA:(σ.opn u o x).M.OI.length=σ.M.OI.length+1:=by simp[St.opn,Mo.scope]
 refine⟨⟨⟨n+1,h1.opn u o x,by show ((n+1:Nat):Int)<=N+1+10000 * σ.steps;omega⟩,⟨h.gm.pv,fun y hy c aj=>?_,h.gm.co⟩,fun f aH=>?_,h.ca,by have:=h.lr;omega,h.lo⟩,⟨by omega,O6,rfl,O6,fun _ _ k=>k.app,List.prefix_rfl⟩,rfl⟩
 ·rcases List.mem_append.1 hy with hy|hy
  ·exact h.gm.cv y hy c aj
  ·rw[List.mem_singleton.1 hy] at aj;cases aj
 ·have:=h.fn f aH;rw[qA];exact⟨this.1,this.2.1,by omega⟩
def Nx.fold {α:Type}{f:St->α->St}{k:Nat}{P:St->Prop}(hP:∀ σ bO,Ex σ bO->P σ->P bO):∀ (l:List α),(∀ a ∈ l,∀ N σ,Iv N σ->P σ->Nx (N+k) σ (f σ a))->∀ {N:Int} {σ:St},Iv N σ->P σ->Nx (N+(k * l.length:Nat)) σ (l.foldl f σ)
 | [],_,N,σ,h,_=>(Nx.refl h).up O8
 | a::l,aH,N,σ,h,al=>by
  have h1:=aH a List.mem_cons_self N σ h al;have U:=Nx.fold hP l (fun b D=>aH b (List.mem_cons_of_mem _ D)) h1.iv (hP _ _ h1.ex al);refine(h1.trans U).up ?_;rw[List.length_cons,Nat.mul_succ]
  push_cast
  omega
def Iv.settle (h:Iv N σ)(av:Gv σ.M.objs.length v)(s:Int)(nm:OH):Nx (N+1) σ (settle s nm v σ):=by
 unfold Hp.settle
 split
 ·exact h.dec av _ _ _
 ·exact h.write av _ _
def amW {s:Int}(h:N4 σ.M s)(fd:Int)(nm:OH)(v:Va):N4 (settle fd nm v σ).M s:=by
 unfold Hp.settle
 split
 ·exact h.chg (VI _ _ _ _ _) Oz
 ·exact h.chg (aec _ _ _ _) Oz
def Iv.lets (h:Iv N σ)(ao:List Tr)(s:Int):Nx (N+ao.length) σ (Qz ao s σ):=by
 have:=Nx.fold (P:=fun _=>True) (k:=1) (f:=fun σ (k:Tr)=>σ.dec s k.tx (if k.kd=4 then 2 else 1) vU) (fun _ _ _ h=>h) ao (fun a _ N σ h _=>h.dec (VD _) _ _ _) h trivial;rw[Nat.one_mul] at this;exact this
def ZW:∀ (ao:List Tr) {s:Int} {N:Int} {σ:St},Iv N σ->N4 σ.M s->∀ k ∈ ao,K4 (Qz ao s σ).M s k.tx
 | [],_,_,_,_,_,_,h=>by cases h
 | t::ao,s,N,σ,h,aL,k,E=>by
  have h1:=h.dec (VD _) s t.tx (if t.kd=4 then 2 else 1);have cl:(if t.kd=4 then (2:Int) else 1)≠4:=by split <;> decide
  rcases List.mem_cons.1 E with rfl|E
  ·exact(h1.iv.lets ao s).ex.k4 _ _ (aL.k4 _ cl _)
  ·exact ZW ao h1.iv (aL.chg (VI _ _ _ _ _) cl) k E
def afh (σ:St)(u x:Int):N4 (σ.opn u (-1) x).M σ.top:=by
 refine⟨σ.M.OI.length,_,rfl,by simp[St.opn,Mo.scope];rfl,?_,fun c aj=>by cases aj⟩
 simp
def Qq {d k:Nd}(h:k ∈ P9 d):k.2 ∈ d.2.kids:=by
 have h1:k.2 ∈ (P9 d).map (·.2):=List.mem_map.2 ⟨k,h,rfl⟩
 rwa [acs] at h1
structure Bk (t:Tr):Prop where
 ct:t.count<=1500
 ks:∀ u ∈ t.kids,Nk 1 u
def Nk.bk {c:Nat}{t:Tr}(h:Nk c t)(aj:c=3\/c=4\/c=9):Bk t:=by
 refine⟨h.ct,fun u aT=>?_⟩;have ac:=h.sh
 cases ac with
 | blk ac=>exact h.kid aT (ac u aT)
 | body _ ac=>exact h.kid aT (ac u aT)
 | prog _ ac=>exact h.kid aT (ac u aT)
 | _=>omega
def Nk.fg {t:Tr}(h:Nk 1 t)(E:t.kd=5):Fg t:=by
 refine⟨h.ct,h.nb,?_⟩;have ac:=h.sh
 cases ac with
 | func _ al D=>exact⟨_,_,_,_,_,rfl,al,D⟩
 | decl h1=>simp only[Tr.kd] at E;omega
 | aic h1=>cases h1;cases E
 | loop h1=>simp only[Tr.kd] at E;omega
 | give h1=>simp only[Tr.kd] at E;omega
 | _=>cases E
def Zc {d:Nd}(h:Bk d.2):∀ k ∈ TY d,Fg k.2:=fun k E=>by
 obtain⟨h1,U⟩:=List.mem_filter.1 E;exact(h.ks _ (Qq h1)).fg (by simpa[TM] using U)
def acU {d:Nd}(h:Bk d.2):(TY d).length<=1500:=by
 have h1:=List.length_filter_le (fun k:Nd=>TM k.2) (P9 d);have U:=Si d;have aw:=Rf d.2;have aL:=h.ct;unfold TY;omega
section
variable {t:Tr} (h:Bk t)
include t h
theorem TW:(Pv t).length<=1500:=by
 have h1:=List.length_filter_le PE t.kids;have aw:=Rf t;have aL:=h.ct;unfold Pv;omega
theorem aqs:(TV t).length<=1500:=by
 have h1:=List.length_filter_le TM t.kids;have aw:=Rf t;have aL:=h.ct;unfold TV;omega
theorem aaI:(P6 t).length<=1500:=by
 have h1:=X4 t;have U:Tr.counts t.kids<t.count:=by cases t;rw[Tr.count];exact Nat.lt_add_of_pos_left Ou
 have aL:=h.ct;omega
end
def aqt {p:Pl}:∀ σ bO,Ex σ bO->Po p σ->Po p bO:=fun _ _ e h=>h.up e
def Iv.funcs (h:Iv N σ){d:Nd}{p:Pl}(hd:Bk d.2)(al:Po p σ):Nx (N+3000) σ (U4 d p σ):=by
 have h1:=Nx.fold (P:=Po p) (k:=2) (f:=fun σ k=>let r:=Hp.mkFun k p σ;Hp.settle p.scope k.2.tx r.1 r.2) aqt (TY d) (fun a ax N σ h al=>by
  obtain⟨h1,U⟩:=h.mkFun (Zc hd a ax) al;exact(h1.trans (h1.iv.settle U _ _)).up (by push_cast;omega)) h al
 have U:=acU hd;exact h1.up (by push_cast;omega)
def aqu {l:List OH}(h:(WH l).length=0):l=[]:=by
 cases l with
 | nil=>rfl
 | cons a l=>
  exfalso;have key:∀ (l aX:List OH),aX.length<=(l.foldl aak aX).length:=by
   intro l
   induction l with
   | nil=>intro aX;exact O6
   | cons b l bn=>
    intro aX;refine Nat.le_trans ?_ (bn _);unfold aak
    split
    ·exact O6
    ·simp
  have h1:=key l (aak [] a);unfold WH at h;rw[List.foldl_cons] at h;have U:(aak [] a).length=1:=by unfold aak;rw[if_neg (by simp[hasB])];rfl
  omega
def YI {t k:Tr}(E:k ∈ t.kids)(hl:PE k=true):k ∈ Pv t:=List.mem_filter.2 ⟨E,hl⟩
section
variable (h:Iv N σ)
include h
theorem Iv.block {d:Nd}{p:Pl}(hd:Bk d.2)(al:Po p σ):Nx (N+5000) σ (Qg d p σ).2/\Po (Qg d p σ).1 (Qg d p σ).2/\∀ k ∈ P9 d,PE k.2=true->K4 (Qg d p σ).2.M (Qg d p σ).1.scope k.2.tx:=by
 unfold Qg
 split
 ·rename_i h0
  refine⟨(Nx.refl h).up Ou,al,fun k E hl=>?_⟩;unfold namesT at h0;have h1:=aqu h0;have U:(Pv d.2).map Tr.tx=[]:=(List.append_eq_nil_iff.1 h1).2;have aw:=YI (Qq E) hl;rw[List.map_eq_nil_iff.1 U] at aw;cases aw
 ·have h1:=h.opn p.scope (-1) (own d);have U:=h1.iv.lets (Pv d.2) σ.top;have kv:Po { p with scope:=σ.top } (Qz (Pv d.2) σ.top (σ.opn p.scope (-1) (own d))):=by
   refine Po.up ?_ U.ex;exact aDT
  have aw:=U.iv.funcs hd kv;have hl:=TW hd;refine⟨((h1.trans U).trans aw).up Ou,kv.up aw.ex,fun k E hl=>?_⟩;exact aw.ex.k4 _ _ (ZW _ h1.iv (afh _ _ _) _ (YI (Qq E) hl))
theorem Iv.lam {d:Nd}{p:Pl}(hd:Fg d.2)(al:Po p σ):Nx (N+5) σ (Xi d p σ).2/\Gv (Xi d p σ).2.M.objs.length (Xi d p σ).1:=by
 unfold Xi
 split
 ·obtain⟨h1,U⟩:=h.mkFun hd al;exact⟨h1.up Ou,U⟩
 ·have h1:=h.opn p.scope (-1) (own d);have kv:Po { p with scope:=σ.top } (σ.opn p.scope (-1) (own d)):=
   ⟨by show (0:Int)<=(σ.M.OI.length:Int);omega,by show (σ.M.OI.length:Int)<_;simp[St.opn,Mo.scope];omega⟩
  obtain⟨U,aw⟩:=h1.iv.mkFun hd kv;have aL:=U.iv.dec aw σ.top d.2.tx 3;exact⟨((h1.trans U).trans aL).up Ou,aw.up aL.ex.ob⟩
theorem Iv.look (d:Nd)(p:Pl):Nx (N+1) σ (look d p σ).2:=by
 unfold Hp.look;simp only
 split
 ·split
  ·obtain⟨n,h1,U⟩:=h.pz;exact⟨⟨⟨n+1,⟨h1.go.up (Nat.le_succ _),Nat.le_succ_of_le h1.ow,Nat.le_succ_of_le h1.fn,Nat.le_succ_of_le h1.lg,by have:=h1.se;simp;omega,h1.oe⟩,by show ((n+1:Nat):Int)<=N+1+10000 * σ.steps;omega⟩,h.gm,h.fn,h.ca,h.lr,h.lo⟩,⟨O6,O6,rfl,O6,fun _ _ x=>x,List.prefix_rfl⟩,rfl⟩
  ·exact(Nx.refl h).up Ou
 ·exact(Nx.refl h).up Ou
theorem Iv.log (s:OH):Nx (N+1) σ { σ with log:=σ.log++[s] }:=by
 obtain⟨n,h1,U⟩:=h.pz;exact⟨⟨⟨n+1,⟨h1.go.up (Nat.le_succ _),Nat.le_succ_of_le h1.ow,Nat.le_succ_of_le h1.fn,by have:=h1.lg;simp;omega,Nat.le_succ_of_le h1.se,h1.oe⟩,by show ((n+1:Nat):Int)<=N+1+10000 * σ.steps;omega⟩,h.gm,h.fn,h.ca,h.lr,h.lo⟩,⟨O6,O6,rfl,O6,fun _ _ x=>x,List.prefix_append _ _⟩,rfl⟩
end
def gvR {n:Nat}{o:Int}(h:0<=o/\o<n):Gv n (Um o):=⟨fun e=>absurd rfl e,sm0,fun _=>h⟩
def afv {l:List Va}:∀ σ bO,Ex σ bO->(∀ v ∈ l,Gv σ.M.objs.length v)->∀ v ∈ l,Gv bO.M.objs.length v:=fun _ _ e h v av=>(h v av).up e.ob
def atU {α:Type}{l:List α}{x:α × Nat}(h:x ∈ l.zipIdx):x.1 ∈ l:=by
 obtain⟨a,i⟩:=x;exact List.fst_mem_of_mem_zipIdx h
def Iv.args (h:Iv N σ){args:List Va}(hl:args.length<=1500)(ax:∀ v ∈ args,Gv σ.M.objs.length v):Nx (N+2+args.length) σ (Tq args σ).2/\Gv (Tq args σ).2.M.objs.length (Tq args σ).1:=by
 obtain⟨o,aR⟩:=xE (σ.M.objs.length:Int);have h1:=h.Pz (c:=0) Ou;have U:=h1.iv.put (v:=Xh args.length) (gvN (by unfold Nb;omega)) o YB false
 have hK:=h1.trans U;have aw:Nx _ _ (args.zipIdx.foldl (fun σ (v,i)=>σ.RG o (Yg ⟨#[97]⟩ (aaP i)) v false) _):=Nx.fold (P:=fun σ=>∀ v ∈ args,Gv σ.M.objs.length v) (k:=1) afv args.zipIdx (fun x ae N σ h al=>by
  have aS:=atU ae;obtain⟨v,i⟩:=x;exact h.put (al _ aS) _ _ _) hK.iv (afv _ _ hK.ex ax)
 unfold Tq;rw[<-aR];refine⟨(hK.trans aw).up (by rw[List.length_zipIdx];push_cast;omega),gvR ⟨by omega,?_⟩⟩
 refine Int.lt_of_lt_of_le ?_ (Int.ofNat_le.2 aw.ex.ob);have bX:(({ σ with M:=σ.M.Pz 0 }:St).RG o YB (Xh args.length) false).M.objs.length=σ.M.objs.length+1:=by
  show (Mo.put _ _ _ _ _).2.objs.length=_
  rw[(VY _ _ _ _ _).ol];simp[Mo.Pz]
 rw[bX];omega
def aed:∀ (no:Option Nat) (ao:List Tr) (i:Nat),((YL no ao).getD i ase).2=ao.getD i ase.2
 | _,[],i=>by simp[YL]
 | no,t::ao,0=>rfl
 | no,t::ao,i+1=>by
  rw[YL];exact aed _ ao i
def Xp (d:Nd)(i:Nat):(Oy d i).2=d.2.kids.getD i ase.2:=aed _ _ _
def ZX {α:Type}{f:St->α->St}{s:Int}(aH:∀ σ a,N4 σ.M s->N4 (f σ a).M s):∀ (l:List α) {σ:St},N4 σ.M s->N4 (l.foldl f σ).M s
 | [],_,h=>h
 | a::l,σ,h=>ZX aH l (aH σ a h)
def atV {s:Int}(h:N4 σ.M s)(args:List Va):N4 (Tq args σ).2.M s:=by
 unfold Tq;refine ZX (fun σ a h=>?_) _ ?_
 ·obtain⟨v,i⟩:=a;exact h.chg (VY _ _ _ _ _) Oz
 ·exact N4.chg (M:=σ.M.Pz 0) h (VY _ _ _ _ _) Oz
section
variable (h:Iv N σ)
include h
theorem Iv.body {d:Nd}{p:Pl}(hd:Fg d.2)(al:Po p σ)(aL:N4 σ.M p.scope){args:List Va}(hl:args.length<=1500)(ax:∀ v ∈ args,Gv σ.M.objs.length v) :
  Nx (N+8000) σ (Tt d p args σ)/\Bk (Oy d 1).2/\∀ k ∈ P9 (Oy d 1),PE k.2=true->K4 (Tt d p args σ).M p.scope k.2.tx:=by
 obtain⟨kd,s,n,BP,b,m8,sP,D⟩:=hd.sh;have aK:(Oy d 0).2=BP:=by rw[Xp,m8];rfl
 have ay:(Oy d 1).2=b:=by rw[Xp,m8];rfl
 have hbk:Bk (Oy d 1).2:=by
  rw[ay];have aS:b ∈ d.2.kids:=by rw[m8];exact List.mem_cons_of_mem _ (List.mem_singleton.2 rfl)
  exact Nk.bk (c:=4) ⟨D,by have:=YF aS;have:=hd.ct;omega,(ZN hd.nb).1 b aS⟩ Ou
 have eP:(Oy d 0).2.kids.length<=8:=by
  rw[aK]
  cases sP with
  | ali _ hl=>exact hl
 refine⟨?_,hbk,?_⟩
 all_goals
  have h1:Nx _ _ (((Oy d 0).2.kids.zipIdx).foldl (fun σ (k,i)=>Hp.settle p.scope k.tx (args.getD i vU) σ) σ):=Nx.fold (P:=fun σ=>∀ v ∈ args,Gv σ.M.objs.length v) (k:=1) afv (Oy d 0).2.kids.zipIdx (fun x ae N σ h al=>by
   obtain⟨k,i⟩:=x;refine h.settle ?_ _ _;rw[List.getD_eq_getElem?_getD]
   cases am:args[i]? with
   | none=>exact VD _
   | some v=>exact al v (List.mem_of_getElem? am)) h ax
  have bR:N4 (((Oy d 0).2.kids.zipIdx).foldl (fun σ (k,i)=>Hp.settle p.scope k.tx (args.getD i vU) σ) σ).M p.scope:=ZX (fun σ a h=>by
   obtain⟨k,i⟩:=a;exact amW h _ _ _) _ aL
  unfold Tt;simp only
  generalize ((Oy d 0).2.kids.zipIdx).foldl (fun σ (k,i)=>Hp.settle p.scope k.tx (args.getD i vU) σ) σ=σ1 at h1 bR ⊢
  rw[List.length_zipIdx] at h1;have ha1:=afv _ _ h1.ex ax;obtain⟨cy,Ac⟩:=xE (if hasArgs (Oy d 0).2.kids (Oy d 1).2=true then (Tq args σ1).2.dec p.scope tArgs 0 (Tq args σ1).1 else σ1);have U:Nx (N+1600) σ cy/\N4 cy.M p.scope:=by
   rw[Ac]
   split
   ·obtain⟨bE,bX⟩:=h1.iv.args hl ha1;have fY:=bE.iv.dec bX p.scope tArgs 0;exact⟨((h1.trans bE).trans fY).up (by push_cast;omega),(atV bR args).chg (VI _ _ _ _ _) Oz⟩
   ·exact⟨h1.up (by push_cast;omega),bR⟩
  rw[<-Ac];obtain⟨U,c7⟩:=U;clear Ac;have aw:Nx _ _ ((P6 (Oy d 1).2).foldl (fun σ nm=>σ.dec p.scope nm 0 vU) cy):=Nx.fold (P:=fun _=>True) (k:=1) (fun _ _ _ h=>h) (P6 (Oy d 1).2) (fun x _ N σ h _=>h.dec (VD _) _ _ _) U.iv trivial;have hD:N4 ((P6 (Oy d 1).2).foldl (fun σ nm=>σ.dec p.scope nm 0 vU) cy).M p.scope:=ZX (fun σ a h=>h.chg (VI _ _ _ _ _) Oz) _ c7
  generalize (P6 (Oy d 1).2).foldl (fun σ nm=>σ.dec p.scope nm 0 vU) cy=xe at aw hD ⊢
  have ia:=aaI hbk;have iu:=TW hbk;have bE:=aw.iv.lets (Pv (Oy d 1).2) p.scope;have bX:=bE.iv.funcs (d:=Oy d 1) hbk ((al.up (U.trans aw).ex).up bE.ex)
 ·exact(((U.trans aw).trans bE).trans bX).up (by push_cast;omega)
 ·exact fun k E hl=>bX.ex.k4 _ _ (ZW _ aw.iv hD _ (YI (Qq E) hl))
theorem Iv.loosen (s:Int)(nm:OH):Nx (N+1) σ (loosen s nm σ):=by
 unfold Hp.loosen
 split
 ·exact(Nx.refl h).up Ou
 ·split
  ·exact h.put (VD _) _ _ _
  ·exact h.dec (VD _) _ _ _
theorem Iv.au8 {d:Nd}{p:Pl}(hd:Bk d.2)(al:Po p σ):Nx (N+8000) σ (OO d p σ).2/\Po (OO d p σ).1 (OO d p σ).2/\∀ k ∈ P9 d,PE k.2=true->K4 (OO d p σ).2.M (OO d p σ).1.scope k.2.tx:=by
 have h1:Nx _ _ ((TP d.2).foldl (fun σ nm=>Hp.loosen p.declares nm σ) σ):=Nx.fold (P:=fun _=>True) (k:=1) (fun _ _ _ h=>h) (TP d.2) (fun x _ N σ h _=>h.loosen _ _) h trivial;unfold OO;simp only
 generalize (TP d.2).foldl (fun σ nm=>Hp.loosen p.declares nm σ) σ=σ1 at h1 ⊢
 have x5:(TP d.2).length<=3000:=by
  have:=aaI hd;have:=aqs hd;unfold TP;rw[List.length_append,List.length_map];omega
 obtain⟨q,ag⟩:=xE (if 0<(Pv d.2).length then ({ p with scope:=σ1.top },Qz (Pv d.2) σ1.top (σ1.opn p.scope (-1) (-3))) else (p,σ1):Pl × St);rw[<-ag];have U:Nx (N+4600) σ q.2/\Po q.1 q.2/\∀ k ∈ P9 d,PE k.2=true->K4 q.2.M q.1.scope k.2.tx:=by
  rw[ag]
  split
  ·have bE:=h1.iv.opn p.scope (-1) (-3);have bX:=bE.iv.lets (Pv d.2) σ1.top;have iu:=TW hd;refine⟨((h1.trans bE).trans bX).up (by push_cast;omega),Po.up ?_ bX.ex,fun k E hl=>ZW _ bE.iv (afh _ _ _) _ (YI (Qq E) hl)⟩
   exact⟨by show (0:Int)<=(σ1.M.OI.length:Int);omega,by show (σ1.M.OI.length:Int)<_;simp[St.opn,Mo.scope];omega⟩
  ·rename_i h0
   refine⟨h1.up (by push_cast;omega),al.up h1.ex,fun k E hl=>?_⟩
   have:=YI (Qq E) hl;rw[List.eq_nil_of_length_eq_zero (by omega:(Pv d.2).length=0)] at this;cases this
 clear ag;obtain⟨U,be,eO⟩:=U;have aw:Nx _ _ ((TY d).foldl (fun σ k=>let r:=Hp.mkFun k q.1 σ;{ r.2 with M:=(r.2.M.write q.1.declares k.2.tx r.1).2 }) q.2):=Nx.fold (P:=Po q.1) (k:=2) aqt (TY d) (fun a ax N σ h al=>by
  obtain⟨h1,U⟩:=h.mkFun (Zc hd a ax) al;exact(h1.trans (h1.iv.write U _ _)).up (by push_cast;omega)) U.iv be
 have fI:=acU hd;exact⟨(U.trans aw).up (by push_cast;omega),be.up aw.ex,fun k E hl=>aw.ex.k4 _ _ (eO k E hl)⟩
theorem Iv.prog {d:Nd}(hd:Bk d.2)(aL:N4 σ.M 1):Nx (N+8000) σ (PZ d σ).2/\Po (PZ d σ).1 (PZ d σ).2/\∀ k ∈ P9 d,PE k.2=true->K4 (PZ d σ).2.M (PZ d σ).1.scope k.2.tx:=by
 have h1:Nx _ _ ((P6 d.2).foldl (fun σ nm=>if σ.M.has 0 nm then σ else σ.RG 0 nm vU true) σ):=Nx.fold (P:=fun _=>True) (k:=1) (fun _ _ _ h=>h) (P6 d.2) (fun x _ N σ h _=>by
  split
  ·exact(Nx.refl h).up Ou
  ·exact h.put (VD _) _ _ _) h trivial
 have bR:N4 ((P6 d.2).foldl (fun σ nm=>if σ.M.has 0 nm then σ else σ.RG 0 nm vU true) σ).M 1:=ZX (fun σ a h=>by
  split
  ·exact h
  ·exact h.chg (VY _ _ _ _ _) Oz) _ aL
 unfold PZ;simp only
 generalize (P6 d.2).foldl (fun σ nm=>if σ.M.has 0 nm then σ else σ.RG 0 nm vU true) σ=σ1 at h1 bR ⊢
 have ia:=aaI hd;have iu:=TW hd;have U:=h1.iv.lets (Pv d.2) 1;have be:Po ⟨1,0,Pg d.2⟩ (Qz (Pv d.2) 1 σ1):=⟨by show (0:Int)<=1;omega,by show (1:Int)<_;have:=U.iv.lr;omega⟩
 have aw:Nx _ _ ((TY d).foldl (fun σ k=>let r:=Hp.mkFun k ⟨1,0,Pg d.2⟩ σ;r.2.RG 0 k.2.tx r.1 true) (Qz (Pv d.2) 1 σ1)):=Nx.fold (P:=Po ⟨1,0,Pg d.2⟩) (k:=2) aqt (TY d) (fun a ax N σ h al=>by
  obtain⟨h1,U⟩:=h.mkFun (Zc hd a ax) al;exact(h1.trans (h1.iv.put U _ _ _)).up (by push_cast;omega)) U.iv be
 have fI:=acU hd;exact⟨((h1.trans U).trans aw).up (by push_cast;omega),be.up aw.ex,fun k E hl=>aw.ex.k4 _ _ (ZW _ h1.iv bR _ (YI (Qq E) hl))⟩
end
section
open Go.RowKit Go.Extern.Stop Go.Stop Go.Extern
def ank {w:Ov}{T:Nat}{n v0:OG}(bH i6:Obj)(dY:w.cell? (Ot T 0)=some v0)(lQ:T<w.heap.size) :
  (((w.setCell (Ot T 0) n).alloc bH).alloc i6).cell? (Ot T 0)=some n/\Below T w (((w.setCell (Ot T 0) n).alloc bH).alloc i6):=by
 have tL:Below T w (w.setCell (Ot T 0) n):=QX.setCell (p:=(Ot T 0)) O6 _;have aI:=tL.size;have h0:(w.setCell (Ot T 0) n).cell? (Ot T 0)=some n:=World.cell?_setCell_same _ _ _ dY;have h1:((w.setCell (Ot T 0) n).alloc bH).cell? (Ot T 0)=some n:=by rw[World.cell?_alloc_past _ _ _ Ou];exact h0
 have b9:((w.setCell (Ot T 0) n).alloc bH).heap.size=(w.setCell (Ot T 0) n).heap.size+1:=World.size_alloc _ _;refine⟨by rw[World.cell?_alloc_past _ _ _ Ou];exact h1,(tL.alloc Ou _).alloc Ou _⟩
def as_hit (n:Int)(T a:Nat)(w:Ov)(dY:w.cell? (Ot T 0)=some (Ol 0))(ah:w.frozen? (Ot T 0)=false)(ax:w.cell? (Ot a 0)=some (OM T 0))(lQ:T<w.heap.size)(oM:a<w.heap.size) :
  OE 65 #[.iface 34 (Ol n),.iface 86 (OM T 0),.agg #[OM 13 86,OM a 0,.int .u64 150],.iface 215 (.agg #[OM 13 34])] w fun e w'=>
   e=OQ (OC true)/\w'.cell? (Ot T 0)=some (Ol n)/\Below T w w':=by
 have z:=Oq (∀{G}(h:G:=by
 have BV:=R9.afW;have Hx:=R9.aaX;have K5:=R9.ak8;have c9:=R9.aq6 (Ot a 0) (Ot T 0) (w.alloc (.cells #[OM 13 86,OM a 0,.int .u64 150] 130)) (by rw[World.cell?_alloc_past _ _ _ oM];exact ax)
 have st:=R9.aza (Ot T 0) (Ot (w.heap.size+1) 0) n (Ol 0) ((w.alloc (.cells #[OM 13 86,OM a 0,.int .u64 150] 130)).alloc (.cells #[Ol n] 34))
  (by rw[World.cell?_alloc_at _ _ _ _ O8];rfl) (by rw[World.cell?_alloc_past _ _ _ Rh,World.cell?_alloc_past _ _ _ lQ];exact dY) (by rw[World.frozen?_alloc_old _ _ _ Rh,World.frozen?_alloc_old _ _ _ Rh];exact ah)
 have z:=Oq (∀{G}(h:G:=by
 exact⟨rfl,ank _ _ dY lQ⟩),G);exact aq7),G);exact aq8
def avp (n:Int)(T:Nat)(w:Ov)(dY:w.cell? (Ot T 0)=some (Ol 0))(ah:w.frozen? (Ot T 0)=false)(lQ:T<w.heap.size)(hg:w.cell? (Ot 0 0)=some (.iface 215 (.agg #[OM 13 31]))) :
  OE 32 #[.iface 34 (Ol n),.iface 86 (OM T 0)] w fun e w'=>e=OQ (OC true)/\w'.cell? (Ot T 0)=some (Ol n)/\Below T w w':=by
 have bN:=Oq (∀{G}(h:G:=by
 have K6:=R9.ak9;have K0:=R9.avq;have Kd:=R9.avr;have n8:=R9.avs;have HW:=R9.avt;have J6:=R9.aek;have dI:0<w.heap.size:=azb
 obtain⟨gF,iV⟩:=xE ((w.alloc (.cells #[OM T 0] 86)).alloc (.cells #[OM 13 86,OM w.heap.size 0,.int .u64 150] 130));have mw:((w.alloc (.cells #[OM T 0] 86)).alloc (.cells #[OM 13 86,OM w.heap.size 0,.int .u64 150] 130)).cell? (Ot 0 0)=some (.iface 215 (.agg #[OM 13 31])):=azc
 have ax:gF.cell? (Ot w.heap.size 0)=some (OM T 0):=azd
 have re:gF.cell? (Ot T 0)=some (Ol 0):=by rw[iV,World.cell?_alloc_past _ _ _ Rh,World.cell?_alloc_past _ _ _ lQ];exact dY
 have bN:=Oq (∀{G}(h:G:=by
 have rH:=R9.aq9 (Ot w.heap.size 0) (Ot T 0) gF ax;rw[iV] at rH;have ai:Hid _:=as_hit n T w.heap.size gF re sB ax Ou Ou;rw[iV] at ai kh;clear b9 sB re ax iV gF;exact aze),G);exact zty),G);exact ztb
def ara (n:Int)(T a:Nat)(w:Ov)(_:w.cell? (Ot T 0)=some Ri)(_:w.frozen? (Ot T 0)=false)(_:w.cell? (Ot a 0)=some (OM T 0))(_:T<w.heap.size)(_:a<w.heap.size) :
  OE 65 #[.iface 34 (Ol n),.iface 123 (OM T 0),.agg #[OM 13 123,OM a 0,.int .u64 150],.iface 215 (.agg #[OM 13 122])] w fun e w'=>
   e=OQ (OC false)/\OD w w':=by
 have z:=Oq (∀{G}(h:G:=by
 have BV:=R9.afW;have Hy:=R9.Z8;have n220:∀ (v:OG) (iC:TypeId) (w:Ov),(Instr.typeAssert (.iface 34 v) iC 220 true).run prog w=.ok (.tuple #[Qp,OC false]) w:=fun v iC w=>run_typeAssert_lacksB underlying220 PK PK v iC w;have n223:∀ (v:OG) (iC:TypeId) (w:Ov),(Instr.typeAssert (.iface 34 v) iC 223 true).run prog w=.ok (.tuple #[Qp,OC false]) w:=fun v iC w=>run_typeAssert_lacksB underlying223 PK PK v iC w
 have n224:∀ (v:OG) (iC:TypeId) (w:Ov),(Instr.typeAssert (.iface 34 v) iC 224 true).run prog w=.ok (.tuple #[Qp,OC false]) w:=fun v iC w=>run_typeAssert_lacksB underlying224 PK PK v iC w;have z:=Oq (∀{G}(h:G:=by
 exact⟨rfl,PO⟩),G);exact aq7),G);exact aq8
def arb (n:Int)(T:Nat)(w:Ov)(dY:w.cell? (Ot T 0)=some Ri)(ah:w.frozen? (Ot T 0)=false)(lQ:T<w.heap.size)(hg:w.cell? (Ot 0 0)=some (.iface 215 (.agg #[OM 13 31]))) :
  OE 32 #[.iface 34 (Ol n),.iface 123 (OM T 0)] w fun e w'=>e=OQ (OC false)/\OD w w':=by
 have z:=Oq (∀{G}(h:G:=by
 have z:=Oq (∀{G}(h:G:=by
 have ai:Hid _:=ara n T w.heap.size gF re sB ax Ou Ou;exact azf),G);exact avu),G);exact zsv
def anl (bf:Addr)(T a:Nat)(w:Ov)(_:w.cell? (Ot T 0)=some Ri)(_:w.frozen? (Ot T 0)=false)(_:w.cell? (Ot a 0)=some (OM T 0))(_:T<w.heap.size)(_:a<w.heap.size) :
  OE 65 #[.iface 359 (.pointer (some bf)),.iface 123 (OM T 0),.agg #[OM 13 123,OM a 0,.int .u64 150],.iface 215 (.agg #[OM 13 122])] w fun e w'=>
   e=OQ (OC false)/\OD w w':=by
 have z:=Oq (∀{G}(h:G:=by
 have BV:=R9.ala;have Hy:=R9.Zr;have n220:∀ (v:OG) (iC:TypeId) (w:Ov),(Instr.typeAssert (.iface 359 v) iC 220 true).run prog w=.ok (.tuple #[Qp,OC false]) w:=fun v iC w=>run_typeAssert_lacksB underlying220 PK PK v iC w;have n223:∀ (v:OG) (iC:TypeId) (w:Ov),(Instr.typeAssert (.iface 359 v) iC 223 true).run prog w=.ok (.tuple #[Qp,OC false]) w:=fun v iC w=>run_typeAssert_lacksB underlying223 PK PK v iC w
 have n224:∀ (v:OG) (iC:TypeId) (w:Ov),(Instr.typeAssert (.iface 359 v) iC 224 true).run prog w=.ok (.tuple #[Qp,OC false]) w:=fun v iC w=>run_typeAssert_lacksB underlying224 PK PK v iC w;have z:=Oq (∀{G}(h:G:=by
 exact⟨rfl,PO⟩),G);exact aq7),G);exact aq8
def afX (bf:Addr)(T:Nat)(w:Ov)(dY:w.cell? (Ot T 0)=some Ri)(ah:w.frozen? (Ot T 0)=false)(lQ:T<w.heap.size)(hg:w.cell? (Ot 0 0)=some (.iface 215 (.agg #[OM 13 31]))) :
  OE 32 #[.iface 359 (.pointer (some bf)),.iface 123 (OM T 0)] w fun e w'=>e=OQ (OC false)/\OD w w':=by
 have z:=Oq (∀{G}(h:G:=by
 have z:=Oq (∀{G}(h:G:=by
 have ai:Hid _:=anl bf T w.heap.size gF re sB ax Ou Ou;exact azf),G);exact avu),G);exact zsv
def anm (T:Nat)(w:Ov)(P:TypeId):OE 32 #[Qp,.iface P (OM T 0)] w fun e w'=>e=OQ (OC false)/\w'=w:=by
 go_enter func32,ntmps32;go_wp2;go_ret;exact⟨rfl,rfl⟩
abbrev RP (w:Ov):Prop:=w.cell? (Ot 0 0)=some (.iface 215 (.agg #[OM 13 31]))
def YO {w:Ov}(h:RP w):0<w.heap.size:=by
 rcases Nat.lt_or_ge 0 w.heap.size with fq|fq
 ·exact fq
 ·simp[RP,World.cell?,Array.getElem?_eq_none fq] at h
def Vr {w w':Ov}{B:Nat}(h:RP w)(D:Below B w w')(a8:0<B):RP w':=by
 unfold RP;rw[D.cell (p:=(Ot 0 0)) a8];exact h
def Zt (n:Int)(w:Ov)(hg:RP w) :
  OE 12 #[.iface 34 (Ol n)] w fun e w'=>e=OQ (Ol n)/\OD w w':=by
 have dI:=YO hg;obtain⟨gF,iV⟩:=xE (w.alloc (.cells #[Ol 0] 34));have dY:gF.cell? (Ot w.heap.size 0)=some (Ol 0):=by rw[iV,World.cell?_alloc_at _ _ _ _ rfl];rfl
 have ah:gF.frozen? (Ot w.heap.size 0)=false:=by rw[iV];exact World.frozen?_alloc_at _ _ _ _ rfl
 have b9:gF.heap.size=w.heap.size+1:=by rw[iV];simp
 have kh:OD w gF:=by rw[iV];exact PO
 have jw:RP gF:=Vr hg kh dI;have ai:Hid _:=avp n w.heap.size gF dY ah Ou jw;rw[iV] at ai kh;clear jw b9 ah dY iV gF dI;go_enter func12,ntmps12;go_wp2_with fail;refine cm ai.out ?_;rintro e w2 ⟨rfl,eS,aF⟩;go_wp2;go_ret;exact⟨rfl,kh.trans aF⟩
def ano (w:Ov):OE 12 #[Qp] w fun e w'=>e=OQ (Ol 0)/\OD w w':=by
 go_enter func12,ntmps12;go_wp2;go_ret;exact⟨rfl,QX⟩
def V4 (c:Int)(w:Ov)(hg:RP w):OE 12 #[Ur c] w fun e w'=>e=OQ (Ol c)/\OD w w':=by
 by_cases h:c=0
 ·subst h;exact ano w
 ·rw[ael h];exact Zt c w hg
end
def Eo (σ:St):Er->Prop
 | .no=>σ.steps<=20000
 | .stop=>σ.steps=20001
 | .XU v=>σ.steps<=20000/\Gv σ.M.objs.length v
 | .mis=>False
structure VO (N:Int)(σ:St)(r:(Va × Er) × St):Prop where
 iv:Iv N r.2
 ex:Ex σ r.2
 er:Eo r.2 r.1.2
 va:Gv r.2.M.objs.length r.1.1
structure Q (f:Nat)(N:Int)(p:Pl)(σ:St):Prop where
 fu:20001<σ.steps+f
 st:σ.steps<=20000
 iv:Iv N σ
 po:Po p σ
def Lg (σ:St)(l:Option Va):Prop:=∀ v,l=some v->Gv σ.M.objs.length v
structure SO (N:Int)(σ:St)(r:(Oc × Er × Option Va) × St):Prop where
 iv:Iv N r.2
 ex:Ex σ r.2
 er:Eo r.2 r.1.2.1
 va:Gv r.2.M.objs.length r.1.1.v
 la:Lg r.2 r.1.2.2
structure FI (F:Fx)(f:Nat):Prop where
 v:∀ {N d p σ},Q f N p σ->Nk 0 d.2->VO N σ (F.v d p σ)/\σ.steps<(F.v d p σ).2.steps
 s:∀ {N d p l σ},Q f N p σ->Nk 1 d.2->(PE d.2=true->K4 σ.M p.scope d.2.tx)->Lg σ l->SO N σ (F.s d p l σ)/\σ.steps<(F.s d p l σ).2.steps
variable {e:Er}{f:Nat}{p:Pl}{F:Fx}{d:Nd}{l b3:Option Va}{o:Oc}
section
variable (h:Q f N p σ)
include h
theorem Q.nx (k:Nx N' σ σ1):Q f N' p σ1:=⟨by rw[k.st];exact h.fu,by rw[k.st];exact h.st,k.iv,h.po.up k.ex⟩
theorem Q.next (k:VO N' σ ((v,.no),σ1)):Q f N' p σ1:=⟨by have:=h.fu;have:=k.ex.st;dsimp only at this;omega,k.er,k.iv,h.po.up k.ex⟩
theorem Q.nexts (k:SO N' σ ((o,.no,l),σ1)):Q f N' p σ1:=⟨by have:=h.fu;have:=k.ex.st;dsimp only at this;omega,k.er,k.iv,h.po.up k.ex⟩
end
def VO.up {r:(Va × Er) × St}(h:VO N σ r)(hN:N<=N'):VO N' σ r:=⟨h.iv.up hN,h.ex,h.er,h.va⟩
def SO.up {r:(Oc × Er × Option Va) × St}(h:SO N σ r)(hN:N<=N'):SO N' σ r:=⟨h.iv.up hN,h.ex,h.er,h.va,h.la⟩
def VO.after {r:(Va × Er) × St}(k:Ex σ σ1)(h:VO N σ1 r):VO N σ r:=⟨h.iv,k.trans h.ex,h.er,h.va⟩
def SO.after {r:(Oc × Er × Option Va) × St}(k:Ex σ σ1)(h:SO N σ1 r):SO N σ r:=⟨h.iv,k.trans h.ex,h.er,h.va,h.la⟩
def VO.err (h:VO N σ ((v,e),σ1)):VO N σ ((vU,e),σ1):=⟨h.iv,h.ex,h.er,VD _⟩
def VO.aqv (h:VO N σ ((v,e),σ1))(hl:Lg σ l):SO N σ ((QW,e,l),σ1):=⟨h.iv,h.ex,h.er,VD _,fun x ae=>(hl x ae).up h.ex.ob⟩
def VO.ret (h:Nx N σ σ1)(ac:σ.steps<=20000)(av:Gv σ1.M.objs.length v):VO N σ ((v,.no),σ1):=⟨h.iv,h.ex,by show σ1.steps<=20000;rw[h.st];exact ac,av⟩
def VO.bad {s:OH}(h:Nx N σ σ1)(ac:σ.steps<=20000)(av:Sm s):VO N σ ((vU,bad s),σ1):=⟨h.iv,h.ex,⟨by rw[h.st];exact ac,gvT av⟩,VD _⟩
def Lg.up (h:Lg σ l)(k:Ex σ σ1):Lg σ1 l:=fun x ae=>(h x ae).up k.ob
def SO.ret (h:Nx N σ σ1)(ac:σ.steps<=20000)(av:Gv σ1.M.objs.length o.v)(hl:Lg σ1 l):SO N σ ((o,.no,l),σ1):=⟨h.iv,h.ex,by show σ1.steps<=20000;rw[h.st];exact ac,av,hl⟩
def akT {lO:Nat}{M:Mo}{o:Int}{nm:OH}{q:Pr}(h:Gm lO M)(al:M.prop o nm=some q):Gv M.objs.length q.v:=by
 unfold Mo.prop at al;obtain⟨x,h1,U⟩:=Option.bind_eq_some_iff.1 al;have ae:x ∈ M.objs:=by
  rcases Rn M o with ⟨h0,_⟩|⟨i,y,_,hy,aw⟩
  ·rw[h0] at h1;cases h1
  ·rw[aw] at h1;cases h1;exact List.mem_of_getElem? hy
 exact h.pv x ae q (List.mem_of_find?_eq_some U)
def atW {lO:Nat}{M:Mo}(h:Gm lO M)(s:Int)(nm:OH):Gv M.objs.length (M.read s nm).1:=by
 unfold Mo.read
 cases aj:M.Y3 s nm with
 | some c=>
  simp only
  split
  ·unfold Mo.Y3 at aj;obtain⟨x,h1,U⟩:=Option.bind_eq_some_iff.1 aj;have ae:x ∈ M.OI:=by
    rcases P7 M s with ⟨h0,_⟩|⟨i,y,_,hy,aw⟩
    ·rw[h0] at h1;cases h1
    ·rw[aw] at h1;cases h1;exact List.mem_of_getElem? hy
   exact h.cv x ae c (List.mem_of_find?_eq_some U)
  ·exact VD _
 | none=>
  simp only
  cases al:M.prop (M.RD s) nm with
  | none=>exact VD _
  | some q=>exact akT h al
def smR:Sm Q7:=by decide
def smT:Sm tType:=by decide
def smG:Sm UM:=by decide
def smS:Sm UC:=by decide
def aqw {M:Mo}{o:Int}(h:0<=o/\o<M.objs.length)(nm:OH)(v:Va)(fx:Bool):(M.put o nm v fx).1=0:=by
 unfold Mo.put
 rcases Rn M o with ⟨_,h1⟩|⟨i,x,rfl,ae,h1⟩
 ·omega
 ·rw[h1];simp only
  split
  ·rfl
  ·split <;> rfl
def aqx {M:Mo}{s:Int}{nm:OH}(h:K4 M s nm)(v:Va):(M.start s nm v).1=0:=by
 obtain⟨i,x,c,rfl,ae,aj,h1,_⟩:=h;unfold Mo.start
 rcases P7 M i with ⟨_,U⟩|⟨j,y,e,hy,U⟩
 ·have:=(List.getElem?_eq_some_iff.1 ae).1;omega
 ·have e:i=j:=Ou;subst e;rw[ae] at hy;cases hy;rw[U];simp only
  rcases VW (fun c=>Z7 nm c.name) x.cs with ⟨aw,_⟩|⟨k,en,aw,aL,_,_⟩
  ·exact absurd (List.findIdx?_eq_none_iff.1 aw c aj) (by rw[h1];simp)
  ·rw[show fC nm x.cs=some k from aw];simp only[aL]
section
variable (h:Iv N σ) (ac:σ.steps<=20000) (av:Gv σ.M.objs.length v) (s:Int) (nm:OH) (st:Bool)
include h ac av s nm st
theorem amX:Iv (N+1) (XE s nm v st σ).2/\Ex σ (XE s nm v st σ).2/\Eo (XE s nm v st σ).2 (XE s nm v st σ).1:=by
 unfold XE
 split
 ·exact⟨h.up Ou,Ex.refl _,ac,gvT smR⟩
 ·simp only;obtain⟨q,ag⟩:=xE (if σ.M.RD s = -1 then 0 else σ.M.RD s);rw[<-ag];have eU:0<=q/\q<σ.M.objs.length:=by
   have n0:=h.lo;rw[ag]
   split
   ·omega
   ·rename_i h0
    obtain⟨n,aI,_⟩:=h.pz;unfold Mo.RD at h0 ⊢
    rcases P7 σ.M s with ⟨h1,_⟩|⟨i,x,rfl,ae,h1⟩
    ·rw[h1] at h0;exact absurd rfl h0
    ·rw[h1] at h0 ⊢;change x.object≠-1 at h0
     show 0<=x.object/\x.object<_
     rcases aI.go.ok.obj i x ae with U|⟨j,U,aw⟩
     ·exact absurd U h0
     ·omega
  have h1:=h.put av q nm false;refine⟨h1.iv,h1.ex,?_⟩;rw[aqw eU]
  show (σ.RG q nm v false).steps<=20000
  exact ac
theorem aqy:Iv (N+2) (asg s nm v st σ).2/\Ex σ (asg s nm v st σ).2/\Eo (asg s nm v st σ).2 (asg s nm v st σ).1:=by
 have h1:=h.write av s nm;unfold asg;simp only;have am:=h1.iv.up (show N+1<=N+2 by omega)
 split
 ·obtain⟨U,aw,aL⟩:=amX h1.iv ac (av.up h1.ex.ob) s nm st;exact⟨U.up Ou,h1.ex.trans aw,aL⟩
 ·split
  ·exact⟨am,h1.ex,ac,gvT smR⟩
  ·split
   ·exact⟨am,h1.ex,ac,gvT smT⟩
   ·split
    ·refine⟨am,h1.ex,?_⟩
     dsimp only
     split
     ·exact⟨ac,gvT smT⟩
     ·exact ac
    ·exact⟨am,h1.ex,ac⟩
end
def akU (M:Nat)(n:Int):Gv M (Ve n).1/\((Ve n).2=.no\/(Ve n).2=bad UM):=by
 unfold Ve
 split
 ·exact⟨VD _,.inr rfl⟩
 ·exact⟨gvN ⟨by omega,by omega⟩,.inl rfl⟩
def atX (n:Nat)(M:Mo)(kd:Int)(a b:Va):Gv n (Wp M kd a b).1/\((Wp M kd a b).2=.no\/∃ s,(Wp M kd a b).2=bad s/\Sm s):=by
 have az:∀ k,Gv n (Ve k).1/\((Ve k).2=.no\/∃ s,(Ve k).2=bad s/\Sm s):=fun k=>⟨(akU n k).1,(akU n k).2.imp id fun e=>⟨_,e,smG⟩⟩;unfold Wp
 split
 ·exact⟨gvB _ _,.inl rfl⟩
 ·split
  ·split
   ·exact⟨gvB _ _,.inl rfl⟩
   ·split
    ·exact az _
    ·split <;> exact az _
  ·split
   ·split
    ·exact⟨VD _,.inr ⟨_,rfl,smG⟩⟩
    ·rename_i h0
     refine⟨gvT ?_,.inl rfl⟩;have:(Yg (M.shw a) (M.shw b)).size=(M.shw a).size+(M.shw b).size:=by
      show (List.toArray _).size=_
      rw[List.size_toArray,List.length_append];rfl
     unfold Sm;omega
   ·split
    ·exact⟨gvB _ _,.inl rfl⟩
    ·exact⟨VD _,.inr ⟨_,rfl,smT⟩⟩
def atY (M:Mo)(v:Va):Sm (Vz M v):=by
 unfold Vz
 repeat' split
 all_goals decide
structure LO (N:Int)(σ:St)(r:(List Va × Er) × St)(n:Nat):Prop where
 iv:Iv N r.2
 ex:Ex σ r.2
 er:Eo r.2 r.1.2
 va:∀ v ∈ r.1.1,Gv r.2.M.objs.length v
 ln:r.1.1.length<=n
def acz (ah:FI F f):∀ (a6:List Nd) (aX:List Va) {σ:St},Q f N p σ->(∀ d ∈ a6,Nk 0 d.2)->(∀ v ∈ aX,Gv σ.M.objs.length v)->LO N σ (Vk F p a6 aX σ) (aX.length+a6.length)
 | [],aX,σ,h,_,ax=>⟨h.iv,Ex.refl _,h.st,ax,O6⟩
 | d::a6,aX,σ,h,hd,ax=>by
  have h1:=(ah.v h (hd d List.mem_cons_self)).1;rw[Vk]
  rcases aa:F.v d p σ with ⟨⟨v,e⟩,σ1⟩
  rw[aa] at h1
  cases e with
  | no=>
   have U:=acz ah a6 (aX++[v]) (h.next h1) (fun x ae=>hd x (List.mem_cons_of_mem _ ae)) (fun x ae=>by
    rcases List.mem_append.1 ae with ae|ae
    ·exact(ax x ae).up h1.ex.ob
    ·rw[List.mem_singleton.1 ae];exact h1.va)
   exact⟨U.iv,h1.ex.trans U.ex,U.er,U.va,by have:=U.ln;simp at this ⊢;omega⟩
  | _=>exact⟨h1.iv,h1.ex,h1.er,(fun x ae=>by cases ae),Nat.zero_le _⟩
def Ym (ah:FI F f):∀ (a6:List Nd) {l:Option Va} {σ:St},Q f N p σ->(∀ d ∈ a6,Nk 1 d.2)->(∀ d ∈ a6,PE d.2=true->K4 σ.M p.scope d.2.tx)->Lg σ l->SO N σ (Q8 F p a6 l σ)
 | [],l,σ,h,_,_,hl=>⟨h.iv,Ex.refl _,h.st,VD _,hl⟩
 | d::a6,l,σ,h,hd,E,hl=>by
  have h1:=(ah.s h (hd d List.mem_cons_self) (E d List.mem_cons_self) hl).1;rw[Q8]
  rcases aa:F.s d p l σ with ⟨⟨o,e,b3⟩,σ1⟩
  rw[aa] at h1
  cases e with
  | no=>
   dsimp only
   split
   ·exact h1
   ·exact(Ym ah a6 (h.nexts h1) (fun x ae=>hd x (List.mem_cons_of_mem _ ae)) (fun x ae eJ=>h1.ex.k4 _ _ (E x (List.mem_cons_of_mem _ ae) eJ)) h1.la).after h1.ex
  | _=>exact h1
def aee {g:St->(Va × Er) × St}(h:Q f N p σ)(hg:σ.calls≠40->VO N' { σ with calls:=σ.calls+1 } (g { σ with calls:=σ.calls+1 }))(hN:N<=N'):VO N' σ (within σ g):=by
 unfold Hp.within
 split
 ·exact .bad ((Nx.refl h.iv).up hN) h.st smG
 ·rename_i h0
  have h1:=hg h0;have aj:=h1.ex.ca
  dsimp only at aj
  refine⟨?_,⟨h1.ex.ro,h1.ex.ob,by show (g _).2.calls - 1=σ.calls;rw[aj];rfl,h1.ex.st,h1.ex.k4,h1.ex.lg⟩,?_,h1.va⟩
  ·obtain⟨n,aI,az⟩:=h1.iv.pz;exact⟨⟨n,⟨aI.go,aI.ow,aI.fn,aI.lg,aI.se,aI.oe⟩,az⟩,h1.iv.gm,h1.iv.fn,by have:=h1.iv.ca;show (g _).2.calls - 1<=40;omega,h1.iv.lr,h1.iv.lo⟩
  ·have U:=h1.er
   dsimp only
   revert U
   cases (g { σ with calls:=σ.calls+1 }).1.2 with
   | _=>exact id
def Q.call (h:Q f N p σ)(aj:σ.calls≠40):Q f N p { σ with calls:=σ.calls+1 }:=by
 obtain⟨n,aI,az⟩:=h.iv.pz;exact⟨h.fu,h.st,⟨⟨n,⟨aI.go,aI.ow,aI.fn,aI.lg,aI.se,aI.oe⟩,az⟩,h.iv.gm,h.iv.fn,by have:=h.iv.ca;show σ.calls+1<=40;omega,h.iv.lr,h.iv.lo⟩,h.po⟩
def aqz (ah:FI F f)(h:Q f N p σ){fn:Fu}(hA:Fg fn.d.2){args:List Va}(hl:args.length<=1500)(ax:∀ v ∈ args,Gv σ.M.objs.length v):VO (N+9000) σ (XF F fn args σ):=by
 unfold XF;refine aee h (fun aj=>?_) Ou;have h1:=h.call aj
 dsimp only
 have U:=h1.iv.opn fn.scope (-1) (own fn.d);have ha1:∀ v ∈ args,Gv (St.opn { σ with calls:=σ.calls+1 } fn.scope (-1) (own fn.d)).M.objs.length v:=ax;have bR:=afh { σ with calls:=σ.calls+1 } fn.scope (own fn.d);have kv:Po ⟨St.top { σ with calls:=σ.calls+1 },St.top { σ with calls:=σ.calls+1 },fn.strict⟩ (St.opn { σ with calls:=σ.calls+1 } fn.scope (-1) (own fn.d)):=
  ⟨by show (0:Int)<=(σ.M.OI.length:Int);omega,by show (σ.M.OI.length:Int)<_;simp[St.opn,Mo.scope];omega⟩
 generalize St.opn { σ with calls:=σ.calls+1 } fn.scope (-1) (own fn.d)=σ1 at U ha1 bR kv ⊢
 generalize iZ:St.top { σ with calls:=σ.calls+1 }=au at bR kv ⊢
 obtain⟨aw,hbk,E⟩:=U.iv.body (d:=fn.d) (p:=⟨au,au,fn.strict⟩) hA kv bR hl ha1;have io:=U.trans aw;have ag:Q f (N+9000) ⟨au,au,fn.strict⟩ (Tt fn.d ⟨au,au,fn.strict⟩ args σ1):=⟨by rw[io.st];exact h.fu,by rw[io.st];exact h.st,io.iv.up Ou,kv.up aw.ex⟩
 have aL:=Ym ah (P9 (Oy fn.d 1)) (l:=none) ag (fun d hd=>hbk.ks _ (Qq hd)) E (fun _ e=>by cases e);exact⟨aL.iv,io.ex.trans aL.ex,aL.er,aL.va⟩
def ad4 (ah:FI F f)(h:Q f N p σ){t:Tr}(bc:Bk t):VO (N+9000) σ (Yh F (none,t) p σ):=by
 unfold Yh;simp only
 split
 ·exact .bad ((Nx.refl h.iv).up Ou) h.st smS
 ·obtain⟨q,ag⟩:=xE (if (p.strict||Pg t)=true then (⟨σ.top,σ.top,true⟩,σ.opn p.scope (-1) (-3)) else ({ p with strict:=p.strict||Pg t },σ):Pl × St);rw[<-ag];have h1:Nx (N+1) σ q.2/\Po q.1 q.2:=by
   rw[ag]
   split
   ·exact⟨h.iv.opn _ _ _,by show (0:Int)<=(σ.M.OI.length:Int);omega,by show (σ.M.OI.length:Int)<_;simp[St.opn,Mo.scope];omega⟩
   ·exact⟨(Nx.refl h.iv).up Ou,h.po⟩
  clear ag;obtain⟨h1,o0⟩:=h1;obtain⟨U,be,E⟩:=h1.iv.au8 (d:=(none,t)) bc o0
  generalize OO (none,t) q.1 q.2=bD at U be E ⊢
  have hK:=h1.trans U;have ag:Q f (N+9000) bD.1 bD.2:=⟨by rw[hK.st];exact h.fu,by rw[hK.st];exact h.st,hK.iv.up Ou,be⟩
  have aL:=Ym ah (P9 (none,t)) (l:=some vU) ag (fun d hd=>bc.ks _ (Qq hd)) E (fun _ e=>by cases e;exact VD _)
  rcases aa:Q8 F bD.1 (P9 (none,t)) (some vU) bD.2 with ⟨⟨o,e,b3⟩,σ1⟩
  rw[aa] at aL;have nX:=hK.ex.trans aL.ex
  cases e with
  | no=>
   refine⟨aL.iv,nX,aL.er,?_⟩
   show Gv _ (b3.getD vU)
   cases b3 with
   | none=>exact VD _
   | some v=>exact aL.la v rfl
  | _=>exact⟨aL.iv,nX,aL.er,VD _⟩
def V3:∀ g ∈ Ph,1<=g.size:=by decide
def WW {s:OH}{t:Tr}{st:Bool}(h:Qd Pn Ph s=.ok t)(aj:chk t st false false=none):Nk 9 t:=⟨anD V3 h,(VZ h).2,akS t _ _ _ aj⟩
def atZ (ah:FI F f)(h:Q f N p σ)(c:Tr){args:List Va}(ax:∀ v ∈ args,Gv σ.M.objs.length v):VO (N+9000) σ (Yi F c p args σ):=by
 unfold Yi
 cases args with
 | nil=>exact .ret ((Nx.refl h.iv).up Ou) h.st (VD _)
 | cons a more=>
  dsimp only
  split
  ·exact .ret ((Nx.refl h.iv).up Ou) h.st (ax a List.mem_cons_self)
  ·obtain⟨q,ag⟩:=xE (if c.kd≠23\/c.tx≠Vx then ⟨1,0,false⟩ else p:Pl);rw[<-ag];have al:Po q σ:=by
    rw[ag]
    split
    ·exact⟨by show (0:Int)<=1;omega,by show (1:Int)<_;have:=h.iv.lr;omega⟩
    ·exact h.po
   clear ag;refine aee h (fun aj=>?_) Ou;have h1:Q f N q { σ with calls:=σ.calls+1 }:=⟨h.fu,h.st,(h.call aj).iv,al⟩;have D:∀ {s:OH},Sm s->VO (N+9000) { σ with calls:=σ.calls+1 } ((vU,Hp.bad s),{ σ with calls:=σ.calls+1 }):=fun ac=>.bad ((Nx.refl h1.iv).up Ou) h1.st ac
   generalize ({ σ with calls:=σ.calls+1 }:St)=τ at h1 D ⊢
   cases aa:Qd Pn Ph a.s with
   | ok t=>
    simp only
    cases E:chk t q.strict false false with
    | none=>exact ad4 ah h1 ((WW aa E).bk Ou)
    | some e=>exact D smS
   | _=>exact D smS
def Nk.au9 {t:Tr}(h:Nk 0 t)(E:t.kd=35):(∀ u ∈ t.kids,Nk 0 u)/\t.kids.length<=9:=by
 have ac:=h.sh
 cases ac with
 | call bc ac hl=>exact⟨fun u aT=>h.kid aT (by rcases List.mem_cons.1 aT with rfl|aT;exact bc;exact ac u aT),by show (_::_).length<=9;simp;omega⟩
 | lit h1=>simp only[Tr.kd] at E;omega
 | one h1=>simp only[Tr.kd] at E;omega
 | two h1=>simp only[Tr.kd] at E;omega
 | _=>cases E
section
variable (ah:FI F f) (h:Q f N p σ) (hd:Nk 0 d.2)
include ah h hd
theorem at6 (E:d.2.kd=35):VO (N+9000) σ (ZF F d p σ):=by
 obtain⟨eT,cM⟩:=hd.au9 E;have h1:=acz ah (P9 d) [] h (fun x ae=>eT _ (Qq ae)) (fun _ h=>by cases h);unfold ZF
 rcases aa:Vk F p (P9 d) [] σ with ⟨⟨vs,e⟩,σ1⟩
 rw[aa] at h1;have kq:vs.length<=9:=by have:=h1.ln;have:=Si d;simp at *;omega
 cases vs with
 | nil=>exact⟨h1.iv.up Ou,h1.ex,h1.er,VD _⟩
 | cons aM args=>
  cases e with
  | no=>
   have ag:Q f N p σ1:=⟨by have:=h.fu;have:=h1.ex.st;dsimp only at this;omega,h1.er,h1.iv,h.po.up h1.ex⟩
   have v8:=h1.va aM List.mem_cons_self;have sN:∀ v ∈ args,Gv σ1.M.objs.length v:=fun v av=>h1.va v (List.mem_cons_of_mem _ av);have oM:args.length<=1500:=by simp at kq;omega
   have az:=(Nx.refl ag.iv).up (show N<=N+9000 by omega);simp only;refine VO.after h1.ex ?_
   split
   ·exact .bad az ag.st smT
   ·split
    ·exact .bad az ag.st smT
    ·split
     ·exact .ret ((ag.iv.log _).up Ou) ag.st (VD _)
     ·split
      ·exact atZ ah ag _ sN
      ·split
       ·rename_i fn hA
        exact aqz ah ag (ag.iv.fn fn (List.mem_of_getElem? hA)).1 oM sN
       ·exact .ret az ag.st (VD _)
  | _=>exact⟨h1.iv.up Ou,h1.ex,h1.er,VD _⟩
theorem aaw:Iv N (UW F d p σ).2/\Ex σ (UW F d p σ).2/\Eo (UW F d p σ).2 (UW F d p σ).1.2/\((UW F d p σ).1.2=.no->0<=(UW F d p σ).1.1/\(UW F d p σ).1.1<(UW F d p σ).2.M.objs.length):=by
 have h1:=(ah.v h hd).1;unfold UW
 rcases aa:F.v d p σ with ⟨⟨v,e⟩,σ1⟩
 rw[aa] at h1
 cases e with
 | no=>
  simp only
  split
  ·exact⟨h1.iv,h1.ex,⟨h1.er,gvT smT⟩,fun e=>by cases e⟩
  ·rename_i bE
   exact⟨h1.iv,h1.ex,h1.er,fun _=>h1.va.r (by simpa using bE)⟩
 | _=>exact⟨h1.iv,h1.ex,h1.er,fun e=>by cases e⟩
end
def aqA (ah:FI F f)(o:Int):∀ (ks:List Nd) {N:Int} {σ:St},Q f N p σ->(0<=o/\o<σ.M.objs.length)->(∀ k ∈ ks,Nk 0 (Oy k 0).2)->VO (N+ks.length) σ (aan F p o ks σ)
 | [],N,σ,h,aR,_=>.ret ((Nx.refl h.iv).up O8) h.st (gvR aR)
 | k::ks,N,σ,h,aR,E=>by
  have h1:=(ah.v h (E k List.mem_cons_self)).1;rw[aan]
  rcases aa:F.v (Oy k 0) p σ with ⟨⟨v,e⟩,σ1⟩
  rw[aa] at h1
  cases e with
  | no=>
   have U:=h1.iv.put h1.va o k.2.tx false;have gd:=(h1.ex.trans U.ex).ob;have aw:=aqA ah o ks ((h.next h1).nx U) ⟨aR.1,Int.lt_of_lt_of_le aR.2 (Int.ofNat_le.2 gd)⟩ (fun x ae=>E x (List.mem_cons_of_mem _ ae));refine(VO.after (h1.ex.trans U.ex) aw).up ?_;rw[List.length_cons];push_cast;omega
  | _=>exact⟨h1.iv.up Ou,h1.ex,h1.er,VD _⟩
