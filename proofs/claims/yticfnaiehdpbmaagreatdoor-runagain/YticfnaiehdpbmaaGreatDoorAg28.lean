import Derived.Test.YticfnaiehdpbmaaGreatDoorAg27
set_option maxRecDepth 100000
set_option maxHeartbeats 8000000
set_option linter.unusedVariables false
namespace Go.Proofs.YticfnaiehdpbmaaGreatDoor
open Go.RowKit Go.Proofs.Tryz
namespace Hp
section
variable {w0:Ny} {mb af:Nat} {aa:List Nat} {w w':Ny} {σ:St} {L:Option Nat} {aR:Nat} {x y bE u:NP} {t:TypeId}
theorem Ot (h:w.heap[aR]? = some (Og #[x,y,bE] t)):w.cell? (Nv aR 0)=some x/\w.cell? (Nv aR 1)=some y/\w.cell? (Nv aR 2)=some bE/\w.frozen? (Nv aR 0)=false/\w.frozen? (Nv aR 1)=false/\w.frozen? (Nv aR 2)=false/\aR<w.heap.size:=by
 obtain⟨h0,h1,O,f,l⟩:=cells3 h;exact⟨h0,h1,O,f 0,f 1,f 2,l⟩
theorem PE (h:w.heap[aR]? = some (Og #[x,y,bE,u] t)):w.cell? (Nv aR 0)=some x/\w.cell? (Nv aR 1)=some y/\w.cell? (Nv aR 2)=some bE/\w.cell? (Nv aR 3)=some u/\w.frozen? (Nv aR 0)=false/\w.frozen? (Nv aR 1)=false/\w.frozen? (Nv aR 2)=false/\w.frozen? (Nv aR 3)=false/\aR<w.heap.size:=by
 obtain⟨h0,h1,O,ax,f,l⟩:=cells4 h;exact⟨h0,h1,O,ax,f 0,f 1,f 2,f 3,l⟩
theorem rt3 (U:w'.heap[aR]? = some (Og #[x,y,bE] t))(hw:w.heap.size<=aR)(aV:mb<w.heap.size)(ak:Om L mb w w')(aK:Ms w0 mb af aa w' σ)(X Y Z:NP)(a':∀ e ∈ [t],e ∉ Tm/\e≠40/\e≠22:=by decide) :
  ∃ b3,b3=((w'.setCell (Nv aR 0) X).setCell (Nv aR 1) Y).setCell (Nv aR 2) Z/\OB [t] mb w' b3/\Om L mb w b3/\Ms w0 mb af aa b3 σ/\b3.cell? (Nv aR 0)=some X/\b3.cell? (Nv aR 1)=some Y/\b3.cell? (Nv aR 2)=some Z:=by
 have aG:=Qy U (show mb<=aR by omega) X Y Z;obtain⟨bi,aY,aX,_,_⟩:=cells3 (YC U X Y Z);exact⟨_,rfl,aG,ak.newT aG (RD hw _ _ _),aK.Xd aG a',bi,aY,aX⟩
theorem rt4 (U:w'.heap[aR]? = some (Og #[x,y,bE,u] t))(hw:w.heap.size<=aR)(aV:mb<w.heap.size)(ak:Om L mb w w')(aK:Ms w0 mb af aa w' σ)(X Y Z xf:NP)(a':∀ e ∈ [t],e ∉ Tm/\e≠40/\e≠22:=by decide) :
  ∃ b3,b3=(((w'.setCell (Nv aR 0) X).setCell (Nv aR 1) Y).setCell (Nv aR 2) Z).setCell (Nv aR 3) xf/\OB [t] mb w' b3/\Om L mb w b3/\Ms w0 mb af aa b3 σ/\b3.cell? (Nv aR 0)=some X/\b3.cell? (Nv aR 1)=some Y/\b3.cell? (Nv aR 2)=some Z/\b3.cell? (Nv aR 3)=some xf:=by
 have aG:=Sr U (show mb<=aR by omega) X Y Z xf;obtain⟨bi,aY,aX,cu,_,_⟩:=cells4 (Zg U X Y Z xf);exact⟨_,rfl,aG,ak.newT aG (TB hw _ _ _ _),aK.Xd aG a',bi,aY,aX,cu⟩
variable {es aS aB az aL:NP}{N:Nat}
section
variable (aZ:Bs w0 mb af aa es) (ac:Mx w0 mb af aa aS aB az aL w σ) (aJ:Sz N σ) (hN:N<1000000000) {a:Ad} {d:Nd} (hd:Oa aa w a d) (p:Pl) (aC:Option Addr)
include aZ ac aJ hN a d hd p aC
theorem Zd (gH:d.1=none) :
  NK 291 #[Nu mb,Nu a.p,OQ p aC] w fun e w'=>e=NU (Nr (σ.M.find p.scope d.2.tx))/\Ms w0 mb af aa w' σ/\Om none mb w w':=by
 have bI:=ac.lt;have z:=kk (∀{G}(h:G:=by
 have z:=kk (∀{G}(h:G:=by
 obtain⟨kM,mj⟩:=xE (σ.M.find aq tx);have dx:σ.M.find (Pl.mk aq aF st).scope d.2.tx=kM:=by rw[<-cD,mj]
 rw[dx];rw[<-mj] at ho;clear dx mj;have mL:=hide gH;clear bK cD gH;have z:=kk (∀{G}(h:G:=by
 have z:=kk (∀{G}(h:G:=by
 have z:=kk (∀{G}(h:G:=by
 refine uz 10 (Nr kM) ?_;refine QX ?_ _;have gg:(Instr.lookup 80 (.map (some af)) (Nu q) true).run prog ao=.ok (.tuple #[(Nr 0),NI false]) ao:=by
  rw[ki];unfold noV;rw[mL.out];rfl
 clear ki;go_simp;go_wp2_with fail;go_ret;exact⟨rfl,⟨_,_,_,_,eF⟩,cV⟩),G);exact atV),G);exact RU),G);exact atW),G);exact atX),G);exact zsr
theorem amB {k:Nat}(gH:d.1=some k)(ae:σ.M.find p.scope d.2.tx = -1) :
  NK 291 #[Nu mb,Nu a.p,OQ p aC] w fun e w'=>e=NU (Nr (σ.M.find p.scope d.2.tx))/\Ms w0 mb af aa w' σ/\Om none mb w w':=by
 have bI:=ac.lt;have z:=kk (∀{G}(h:G:=by
 have z:=kk (∀{G}(h:G:=by
 have dx:σ.M.find aq tx = -1:=by rw[cD];exact ae
 rw[ae];rw[dx] at ho;clear dx ae;have mL:=hide gH;clear bK cD gH;have z:=kk (∀{G}(h:G:=by
 have z:=kk (∀{G}(h:G:=by
 have z:=kk (∀{G}(h:G:=by
 refine uz 10 (Nr (-1)) ?_;have z:=kk (∀{G}(h:G:=by
 go_ret;exact⟨rfl,⟨_,_,_,_,eF⟩,cV⟩),G);exact ayy),G);exact atV),G);exact RU),G);exact atW),G);exact atX),G);exact zsr
theorem amC {k i:Nat}(gH:d.1=some k)(ae:σ.M.find p.scope d.2.tx=i)(ay:i<σ.M.NQ.length) :
  NK 291 #[Nu mb,Nu a.p,OQ p aC] w fun e w'=>e=NU (Nr (σ.M.find p.scope d.2.tx))/\Ms w0 mb af aa w' { σ with seen:=σ.seen++[((k:Int),σ.PS.getD i 0)] }/\Om none mb w w':=by
 have bI:=ac.lt;have z:=kk (∀{G}(h:G:=by
 have z:=kk (∀{G}(h:G:=by
 have dx:σ.M.find aq tx=i:=by rw[cD];exact ae
 rw[ae];rw[dx] at ho;clear dx ae;obtain⟨x,CI⟩:=xH (σ.PS.getD i 0);rw[<-CI.out];have mL:=hide gH;have f1:=hide ay;clear bK cD gH ay;have z:=kk (∀{G}(h:G:=by
 have z:=kk (∀{G}(h:G:=by
 have z:=kk (∀{G}(h:G:=by
 refine uz 10 (Nr (i:Int)) ?_;have z:=kk (∀{G}(h:G:=by
 obtain⟨i0,d2,dH,b6,cq⟩:=info_parts atT;have nR:i<σ.PS.length:=by rw[aJ.oe];exact Ns f1
 have qA:=eF.se;have lh:=eF.ow;obtain⟨j6,M8,jM⟩:=N8 qA;obtain⟨ET,iK,nU,_,_⟩:=lh.form Nw;have pB:ao.cell? (Nv ET i)=some (Nr (σ.PS.getD i 0)):=by
  rw[nU] at lh;rw[lh.cellAt i Nw];simp[List.getElem?_map,List.getElem?_eq_getElem nR]
 obtain⟨c6,_⟩:=eF.hh.at_ 4 _ rfl;obtain⟨vf,_⟩:=eF.hh.at_ 6 _ rfl;obtain⟨n,jX⟩:=xH σ.seen.length;obtain⟨m,aV⟩:=xE σ.PS.length;have L6:n<=1000000000:=by rw[jX.out];exact Oi (Nat.lt_of_le_of_lt aJ.se hN)
 rw[<-aV] at nU nR;rw[<-jX.out] at jM;rw[<-CI.out] at pB;subst jM nU;have LM:(i:Int)<(m:Int):=Nw;have Fi:=hide c6;have Fj:=hide vf;have n3:=hide pB;clear c6 vf pB aV xk gg;refine Rj 16 fun ab=>?_;have z:=kk (∀{G}(h:G:=by
 refine up 3 mb 2 ab ?_;refine up 4 mb 6 ab ?_;refine uk 5 Fi.out ab ?_;refine uh 6 (Nr (k:Int)) (ab) ?_;refine up 7 mb 0 ab ?_;refine up 8 mb 0 ab ?_;refine up 9 mb 8 ab ?_;refine uk 10 Fj.out ab ?_;refine uh 11 (Nr (i:Int)) (ab) ?_;refine up 12 ET i ab ?_;refine uk 13 n3.out ab ?_;refine uh 14 (.agg #[Nr (k:Int),Nr x]) (ab) ?_;refine O0 15 fun K A=>?_;go_simp;refine A.out _ _ (fun _=>(P8.drew.alloc Oq _)) ?_;clear A K;refine O0 16 fun K A=>?_
 have lI:=(eF.later (w':=ao.drew.alloc (.cells #[Nr (k:Int),Nr x] 54)) (P8.drew.alloc Oq _));have qA:=lI.se;rw[<-jX.out] at qA;refine step_append_lies _ rfl _ _ 27 rfl mb 54 i0 _ 2 16 underlying27 d2 dH b6 cq rfl NH _ _ _ rfl qA (Nv ao.heap.size 0) 1 1 [Nr (k:Int),Nr x] rfl rfl (amy ao.drew _ rfl k x) (atU k x) NH (by unfold maxLen;omega) Nw Qa (ao.heap.size+1) Oq ?_
 intro hG hD bB hown4 kQ m4 vK;refine ko A ?_;clear A K;obtain⟨hM,g9⟩:=lI.ayw ((k:Int),x) (sv':=.slice (some (Nv hG 0)) (n+1) hD) kQ (by rw[<-jX.out];exact hown4)
 obtain⟨KG,K1⟩:=(lI.hh.keep (T:=[54]) (B:=mb) (w':=bB) (OB.grown kQ Qa fun k E=>by
  obtain⟨c,ai⟩:=OZ qA E;exact⟨(qA.lt k E).1,c,54,ai,by simp⟩) NH NH NH NH NH).at_ 4 _ rfl
 have gq:=(cV.trans ((Om.of (L:=none) ((Below.refl _ ao).drew.alloc Oq _) (Oi gh)).trans g9));have gx:mb<bB.heap.size:=by have:=kQ.size;simp at this;omega
 clear m4 vK;refine uz 17 (NM mb 0) ?_;refine uz 18 (NM mb 2) ?_;refine uz 19 (NM mb 6) ?_;refine O0 20 fun K A=>?_;go_simp;refine ko A ?_;clear A K;refine QX ?_ _;go_simp;go_wp2_with fail;go_ret;exact⟨rfl,⟨_,_,_,_,hM⟩,gq⟩),G);exact RU),G);exact ayy),G);exact atV),G);exact RU),G);exact atW),G);exact atX),G);exact zsr
end
theorem amD (aZ:Bs w0 mb af aa es)(aK:Ms w0 mb af aa w σ)(aJ:Sz N σ)(hN:N<1000000000){a:Ad}{d:Nd}(hd:Oa aa w a d)(p:Pl)(aC:Option Addr) :
  NK 291 #[Nu mb,Nu a.p,OQ p aC] w fun e w'=>e=NU (Nr (look d p σ).1)/\Ms w0 mb af aa w' (look d p σ).2/\Om none mb w w':=by
 obtain⟨aS,aB,az,aL,ac⟩:=aK
 cases gH:d.1 with
 | none=>
  have av:look d p σ=(σ.M.find p.scope d.2.tx,σ):=by unfold look;rw[gH]
  rw[av];exact Zd aZ ac aJ hN hd p aC gH
 | some k=>
  rcases apL σ.M p.scope d.2.tx with ae|⟨i,ae,ay⟩
  ·have av:look d p σ=(σ.M.find p.scope d.2.tx,σ):=by unfold look;rw[gH,ae];rfl
   rw[av];exact amB aZ ac aJ hN hd p aC gH ae
  ·have av:look d p σ=(σ.M.find p.scope d.2.tx,{ σ with seen:=σ.seen++[((k:Int),σ.PS.getD i 0)] }):=by
    unfold look;rw[gH,ae];simp
   rw[av];exact amC aZ ac aJ hN hd p aC gH ae ay
def afg (d:Nd)(p:Pl)(σ:St):(Va × Er) × St:=
 let r:=look d p σ
 let x:=r.2.M.read r.1 d.2.tx
 if x.2=0 then ((x.1,.no),r.2) else ((vU,bad Qe),r.2)
theorem Sz.look {N:Nat}{σ:St}(h:Sz N σ)(d:Nd)(p:Pl):Sz (N+1) (look d p σ).2:=by
 unfold Hp.look;simp only
 split
 ·split
  ·exact⟨h.go.up (Nat.le_succ _),Nat.le_succ_of_le h.ow,Nat.le_succ_of_le h.fn,Nat.le_succ_of_le h.lg,by have:=h.se;simp;omega,h.oe⟩
  ·exact h.up (Nat.le_succ _)
 ·exact h.up (Nat.le_succ _)
theorem TA (_:mb<w.heap.size)(s:NR):NK 269 #[ND s] w fun e w'=>(∃ ev,e=NU ev/\U4 es w' ev (bad s))/\NJ w w':=by
 refine(VH s w).mono ?_;rintro e w' ⟨⟨b,rfl,_,D⟩,O⟩;exact⟨⟨_,rfl,b,rfl,D⟩,O⟩
theorem Kp.Wx (h:Kp w w'){q j:Nat}{v:NP}(ai:w.cell? (Nv q j)=some v)(ag:∃ c,w.heap[q]? = some (Og c 40)):w'.cell? (Nv q j)=some v:=by
 obtain⟨c,ag⟩:=ag;have O:w'.heap[q]? = w.heap[q]?:=(h q c 40 ag (Or.inl rfl)).trans ag.symm;exact(World.cell?_of_block (w:=w) (a:=(Nv q j)) O).trans ai
theorem atY (aZ:Bs w0 mb af aa es)(aK:Ms w0 mb af aa w σ)(aJ:Sz N σ)(hN:N+1<1000000000){a:Ad}{d:Nd}(hd:Oa aa w a d)(p:Pl)(aC:Option Addr) :
  NK 256 #[Nu mb,Nu a.p,OQ p aC] w (Oh w0 mb af aa es w (afg d p σ)):=by
 have z:=kk (∀{G}(h:G:=by
 have cS:=hd.kp (Kp.of aE);have ho:=hide (fun X (aj:NJ w2 X)=>amD aZ ((aK.later aE).later aj) aJ Nw (cS.kp (Kp.of aj)) ⟨aq,aF,st⟩ aC);obtain⟨ku,nc⟩:=xE ((look d ⟨aq,aF,st⟩ σ).1);obtain⟨σ1,h9⟩:=xE ((look d ⟨aq,aF,st⟩ σ).2);obtain⟨tx,cD⟩:=xE d.2.tx;obtain⟨v1,sM⟩:=xE ((σ1.M.read ku tx).1);obtain⟨c1,f7⟩:=xE ((σ1.M.read ku tx).2);have b6:=aJ.look d ⟨aq,aF,st⟩;rw[<-nc,<-h9] at ho;rw[<-h9] at b6;have av:afg d ⟨aq,aF,st⟩ σ=if c1=0 then ((v1,.no),σ1) else ((vU,bad Qe),σ1):=by
  unfold afg;simp only;rw[<-nc,<-h9,<-cD,<-sM,<-f7]
 rw[av];obtain⟨cy,bD⟩:=xH (if c1=0 then ((v1,Er.no),σ1) else ((vU,bad Qe),σ1));rw[<-bD.out];have hW:Hid (∀ X,Ms w0 mb af aa X σ1->NK 290 #[Nu mb,Nr ku,ND tx] X fun e w'=>e=NU (.tuple #[vA v1,RY c1])/\NJ X w'):=fun X aj=>by
  obtain⟨_,_,_,_,ac⟩:=aj;have h:=atI ac.hh b6.go.sm (Oi hN) ku tx;rw[<-sM,<-f7] at h;exact h
 have dj:=(aK.later aE);have eU:Hid (w2.heap[bc]? = some (plO ⟨aq,aF,st⟩ aC)/\w2.cell? (Nv a.p 1)=some (ND tx)):=⟨bK,by rw[cD];exact cS.cells.2.2.1⟩
 have ly:=hide cS.blk;have da:=(Om.of (L:=none) aE (Oi bI));have bj:=hide hr2;have cI:=hide cH;obtain⟨q,ag⟩:=xE a.p;have dL:=cS.cells.1;rw[<-ag] at eU ho ly dL ⊢;have dc:=dj.lt;have hpl2:=lt_of_heap bK;clear bK hr2 ag cD av nc h9 sM f7 cH ds d5;go_enter func256,ntmps256;go_wp2_with fail;rw[<-bu.out,<-b1,<-bU];clear bU b1;refine UC (H:=fun wz vb ev=>VB w0 mb af aa es w2 v1 .no σ1 wz vb Pe/\ev=RY c1) (G:=?GG) (fun dI=>?ways) ?rest
 case ways=>
  have ab:(fun X=>X.heap[bc]? = some (plO ⟨aq,aF,st⟩ aC)/\X.cell? (Nv q 1)=some (ND tx)) w2.drew:=Ns eU;have Ds:NJ w2 w2.drew:=P8.drew;refine PO 11 (fun X=>X.heap[bc]? = some (plO ⟨aq,aF,st⟩ aC)/\X.cell? (Nv q 1)=some (ND tx)) OJ ?_;refine up 0 mb 0 ab ?_;refine up 1 mb 0 ab ?_;refine up 2 mb 0 ab ?_;refine up 3 mb 0 ab ?_;refine up 4 q 0 ab ?_
  refine uc 5 (.agg #[Nr aq,Nr aF,NI st,.pointer aC]) rfl (Or.inl ⟨by kernel_rfl,fun X aj=>by have h0:=(cells4 aj.1).1;have h1:=(cells4 aj.1).2.1;have O:=(cells4 aj.1).2.2.1;have ax:=(cells4 aj.1).2.2.2.1;go_simp⟩) (ab) ?_
  refine up 7 q 0 ab ?_;refine up 8 q 0 ab ?_;refine up 9 q 1 ab ?_;refine uc 10 (ND tx) rfl (Or.inl ⟨by kernel_rfl,fun X aj=>by have h0:=aj.2;go_simp⟩) (ab) ?_
  refine uq2 6 15 (fun K A=>?_) fun K A=>?_
  ·go_simp;refine cm (Ns ho _ (Ds)) ?_;rintro e ao ⟨rfl,eV,f4⟩;have sr:=(Om.of (Ds) (Oi dc)).trans f4;have z:=kk (∀{G}(h:G:=by
   refine uq2 11 15 (fun K A=>?_) fun K A=>?_
   ·go_simp;refine cm (Ns hW _ (eV)) ?_;rintro e aD ⟨rfl,du⟩;refine ko A ?_;clear A K;refine uz 12 (.tuple #[(vA v1),(RY c1)]) ?_;refine uz 13 (vA v1) ?_;refine uz 14 (RY c1) ?_;refine O0 15 fun K A=>?_;go_simp;refine ko A ?_;clear A K;refine O0 16 fun K A=>?_;go_simp;refine ko A ?_;clear A K;refine uz 17 (RY c1) ?_;refine QX ?_ _;go_simp;have ch:=VB.late (v:=v1) (es:=es) (e:=.no) (ev:=Pe) rfl (eV.later du) (sr.trans (Om.of du (Oi eV.lt)))
    generalize aD.alloc (.cells #[Nr v1.k,Nr v1.n,ND v1.s] 65)=wz at ch ⊢
    generalize aD.heap.size=vb at ch ⊢
    exact at6
   ·go_simp;have bm:=(Below.refl _ ao).alloc OH (.cells #[Nr 0,Nr 0,OG] 65);refine A.out _ _ (fun _=>⟨stays bm ss.1,Oj bm ss.2⟩) ?_;clear A K;refine O0 11 fun K A=>?_;go_simp;refine cm (Ns hW _ (eV.later bm)) ?_;rintro e aD ⟨rfl,du⟩;refine ko A ?_;clear A K;have fe:aD.heap[ao.heap.size]? = some (Og #[Nr 0,Nr 0,OG] 65):=(du.block _ Oq).trans (NG ao _);have z:=kk (∀{G}(h:G:=by
    have ch:=VB.early (v:=v1) (es:=es) (e:=.no) (ev:=Pe) fe sr.below.size (Oi dc) rfl ((eV.later bm).later du) (sr.trans ((Om.of bm (Oi eV.lt)).trans (Om.of du (by simp;have:=eV.lt;omega))))
    generalize ((aD.setCell (Nv ao.heap.size 0) (Nr v1.k)).setCell (Nv ao.heap.size 1) (Nr v1.n)).setCell (Nv ao.heap.size 2) (ND v1.s)=wz at ch ⊢
    generalize ao.heap.size=vb at ch ⊢
    exact at6),G);exact ayz),G);exact ayA
  ·go_simp;have b4:NJ w2 (w2.alloc (.cells #[Nr 0,Nr 0,OG] 65)).drew:=OM.drew;refine A.out _ _ (fun _=>⟨stays b4 eU.out.1,Oj b4 eU.out.2⟩) ?_;clear A K;refine O0 6 fun K A=>?_;go_simp;refine cm (Ns ho _ (b4)) ?_;rintro e ao ⟨rfl,eV,f4⟩;have sr:=(Om.of (b4) (Oi dc)).trans f4;have z:=kk (∀{G}(h:G:=by
   have Jo:ao.heap[w2.heap.size]? = some (Og #[Nr 0,Nr 0,OG] 65):=f4.keep (NG _ _) NH;refine O0 11 fun K A=>?_;go_simp;refine cm (Ns hW _ (eV)) ?_;rintro e aD ⟨rfl,du⟩;refine ko A ?_;clear A K;have fe:aD.heap[w2.heap.size]? = some (Og #[Nr 0,Nr 0,OG] 65):=stays du Jo;have z:=kk (∀{G}(h:G:=by
   have ch:=VB.early (v:=v1) (es:=es) (e:=.no) (ev:=Pe) fe OH (Oi dc) rfl (eV.later du) (sr.trans (Om.of du (Oi eV.lt)))
   generalize ((aD.setCell (Nv w2.heap.size 0) (Nr v1.k)).setCell (Nv w2.heap.size 1) (Nr v1.n)).setCell (Nv w2.heap.size 2) (ND v1.s)=wz at ch ⊢
   generalize w2.heap.size=vb at ch ⊢
   exact at6),G);exact ayz),G);exact ayA
 rintro wz vb ev ⟨aN,rfl⟩;have cR:=aN.fr.keep bj.out NH;have dU:=hide cR;obtain⟨cy,bQ,b5,dn,dp,dq,rl⟩:=Ot (cR);obtain⟨e',cj,dD,hf,hi,hj,g5⟩:=Ot (aN.v);have ee:=aN.ms.lt;have ci:vb≠aR:=fun e=>by
  have h1:=aN.vb;have O:=lt_of_heap bj.out;omega
 have i8:Om none mb w wz:=da.trans aN.fr;clear cR
 by_cases h0:c1=0
 ·subst h0;rw[acE];go_wp2_with fail;obtain⟨b3,bz⟩:=xE (((wz.setCell (Nv aR 0) (Nr v1.k)).setCell (Nv aR 1) (Nr v1.n)).setCell (Nv aR 2) (ND v1.s));rw[<-bz];have d7:=YC dU.out (Nr v1.k) (Nr v1.n) (ND v1.s);have gF:mb<=aR:=by have:=Ns cI;omega
  have bb:=Qy dU.out gF (Nr v1.k) (Nr v1.n) (ND v1.s);have bx:=i8.newT bb (RD cI.out _ _ _);have bv:=aN.ms.Xd bb NH;rw[<-bz] at d7 bx bv;obtain⟨bi,aY,aX,_,_⟩:=cells3 d7;refine bodyPost_ret (v:=.tuple #[vA v1,Pe]) (by simp[results,results256,go_sem,bi,aY,aX]) rfl ?_;rw[bD.out,if_pos trivial];exact⟨⟨_,rfl,rfl⟩,bv,bx⟩
 ·rw[ac0 h0];have cz:=hide h0;clear h0;go_wp2_with fail;refine cm (TA (es:=es) ee Qe) ?_;rintro e gS ⟨⟨ev,rfl,aI⟩,g0⟩;have nB:=hide (stays g0 dU.out);have oc:=(aN.ms.later g0);have n7:=(i8.trans (Om.of (L:=none) g0 (Oi ee)));obtain⟨hk,gn,gp,ib,ic,id,hm⟩:=Ot nB.out;clear cy bQ b5 dn dp dq rl;have z:=kk (∀{G}(h:G:=by
  refine bodyPost_ret (v:=.tuple #[vA vU,ev]) (by simp[results,results256,go_sem,bi,aY,aX,vU]) rfl ?_;rw[bD.out,if_neg cz.out];exact⟨⟨_,rfl,aI.O6 bb NH⟩,bv,bx⟩),G);exact apM),G);exact zsb
end
end Hp
end Go.Proofs.YticfnaiehdpbmaaGreatDoor
