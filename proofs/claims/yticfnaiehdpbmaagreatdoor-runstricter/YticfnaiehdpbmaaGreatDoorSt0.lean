import Derived.Test.YticfnaiehdpbmaaGreatDoorProg
import Derived.WalkKit
import Derived.Deep.LoopGhost
import Derived.Deep.RegionWith
set_option maxRecDepth 100000
set_option maxHeartbeats 8000000
set_option linter.all false
namespace Go.Proofs.YticfnaiehdpbmaaGreatDoor
open Go.RowKit Go.Proofs.Tryz
section
structure Kk (C:Prop):Prop where
 o:C
def N8 (C:Prop)(k:C:=by exact fun h=>h):Kk C:=⟨k⟩
attribute [go_sem] results108 results109 results110 results111 results112 results113 results114 results115 results116 results117 results141 results143 results144 results145 results15 results196 results200 results201 results202 results215 results256 results257 results258 results259 results260 results261 results262 results263 results264 results265 results266 results27 results28 results29 results292 results293 results294 results295 results298 results30 results300 results301 results312 results320 results321 results322 results323 results340 results342 results36 results53 results60 results68 results9
variable {P:Program} {fn:Func} {R:Ending->World->Prop} {a:Act} {w:World} {v:Value}
def WB (dj:R (.returned v) w)(aa:(results fn a.tmps).run P w=.ok v w:=by simp[results,go_sem,cK,b1,bU])(hd:a.defers=[]:=by rfl):bodyPost P fn R .ret a w:=⟨hd,v,aa,dj⟩
def U8 (dj:R (.returned v) w)(aa:(results fn a.tmps).run P w=.ok v w:=by simp[results,go_sem,cK,b1,bU,ej])(hd:a.defers=[]:=by rfl):bodyPost P fn R .ret a w:=⟨hd,v,aa,dj⟩
def Y2 (dj:R (.returned v) w)(aa:(results fn a.tmps).run P w=.ok v w:=by simp[results,go_sem,cK,b1,bU,vU])(hd:a.defers=[]:=by rfl):bodyPost P fn R .ret a w:=⟨hd,v,aa,dj⟩
def UC (dj:R (.returned v) w)(aa:(results fn a.tmps).run P w=.ok v w:=by simp[results,go_sem])(hd:a.defers=[]:=by rfl):bodyPost P fn R .ret a w:=⟨hd,v,aa,dj⟩
def afb (dj:R (.returned v) w)(aa:(results fn a.tmps).run P w=.ok v w:=by simp[results,go_sem,ai])(hd:a.defers=[]:=by rfl):bodyPost P fn R .ret a w:=⟨hd,v,aa,dj⟩
def agP (dj:R (.returned v) w)(aa:(results fn a.tmps).run P w=.ok v w:=by simp[results,go_sem,cK,b1,bU,ej,vU])(hd:a.defers=[]:=by rfl):bodyPost P fn R .ret a w:=⟨hd,v,aa,dj⟩
end
section
variable {G:Prop}
def zta (h:G:=by
  rw[<-rH] at aa ⊢;have⟨w2,cM⟩:=xE ((((w.alloc (.cells #[N7 mb] 62)).alloc (.cells #[NY au,NY aG,Om st,.pointer aC] 73)).alloc (.cells #[.slice cV dN dM] 311)).alloc (.cells #[NY 0,NY 0,Pm] 65));have aE:Oo w w2:=by rw[cM];exact((PE.alloc OW _).alloc QY _).alloc QY _
  have⟨dn,bZ⟩:=xE w.heap.size;have⟨bc,bS⟩:=xE (w.heap.size+1);have⟨em,bn⟩:=xE (w.heap.size+1+1);have⟨aV,b4⟩:=xE (w.heap.size+1+1+1);have bK:w2.heap[dn]? = some (OM #[N7 mb] 62):=by rw[cM,bZ];exact alloc_old (alloc_old (alloc_old (Oi _ _)))
  have sH:w2.heap[bc]? = some (OM #[NY au,NY aG,Om st,.pointer aC] 73):=aGZ
  have dV:w2.heap[em]? = some (OM #[.slice cV dN dM] 311):=aGU
  have hr2:w2.heap[aV]? = some (OM #[NY 0,NY 0,Pm] 65):=aGT
  have cE:w.heap.size<=aV:=Oe;have dq:w.heap.size<=bc:=Oe;have d2:bc≠aV:=Oe;have eC:=ac.later aE;exact bL.o):G:=h
def ztb (h:G:=by
  have H1 := @run_callFunc_extern prog 62 _ (fun args => ReflectliteValue.unpack (args.getD 0 (.tuple #[]))) func62 Pe Pe Pe Pe; have LR := @run_callFunc_extern prog 63 _ (ReflectliteValue.methodAny (ReflectliteValue.valueError "reflectlite.Value.Type" 0) (fun t _ _ _ => ReflectliteType.toType t)) func63 Pe Pe Pe Pe; have LS := @run_callFunc_extern prog 64 _ (ReflectliteValue.method (ReflectliteValue.valueError "reflectlite.Value.IsNil" 0) ReflectliteValue.isNil) func64 Pe Pe Pe Pe
  have LW := @run_callFunc_extern prog 371 _ (ReflectliteType.abiMethod fun t => do pure (.int .u8 (<- Rtype.kind t))) func371 Pe Pe Pe Pe; have LL := @run_callFunc_extern prog 385 _ (ReflectliteType.method ReflectliteType.elem) func385 Pe Pe Pe Pe; have LM := @run_callFunc_extern prog 386 _ (ReflectliteType.relation "Implements" ReflectliteType.implements_) func386 Pe Pe Pe Pe; have Nu := R9.azh; have Ns := R9.azi; have Nt := R9.azj; exact bL.o):G:=h
def ztc (h:G:=by
  have bG:=aJ.lt;obtain⟨au,aG,st⟩:=p;have⟨w2,bo⟩:=xH ((w.alloc (.cells #[NY au,NY aG,Om st,.pointer aC] 73)).alloc (.cells #[NY 0,NY 0,Pm] 65));have aE:Oo w w2:=by rw[bo.out];exact PE.alloc OW _
  have⟨bc,bS⟩:=xE w.heap.size;have⟨aV,b4⟩:=xE (w.heap.size+1);have bb:w2.heap[bc]? = some (OM #[NY au,NY aG,Om st,.pointer aC] 73):=by rw[bo.out,bS];exact alloc_old (Oi _ _)
  have hr2:w2.heap[aV]? = some (OM #[NY 0,NY 0,Pm] 65):=asu
  have dq:w.heap.size<=bc:=Oe;have cE:w.heap.size<=aV:=Oe;exact bL.o):G:=h
def ztd (h:G:=by
  have cG:=(OV.of (L:=none) aE (OO bG));obtain⟨aT,aB,aA,aK,ac⟩:=aJ;have el:=(ac.later aE);have dk:=el.lt;have mn:=hide (fun X (ak:Oo w2 X)=>aey (el.later ak).hh aH.go.sm Oe s nm v);have⟨σ1,iQ⟩:=xH ({ σ with M:=(σ.M.write s nm v).2 }:St);have b8:Sz (N+1) σ1:=by rw[iQ.out];exact aH.heap (Nat.le_succ _) (aH.go.write s nm v) (Yd _ _ _ _)
  rw[<-iQ.out];exact bL.o):G:=h
def zte (h:G:=by
  refine uh 3 (NY s) (ae) ?_;refine uh 4 (Oj nm) (ae) ?_;refine uk3 5 gd.out ae ?_;refine PS 6 fun K D=>?_;go_simp;refine cm (NZ mn _ ae) ?_;rintro e aq ⟨rfl,kW,c7⟩;refine ko D ?_;clear D K;have fI:=(el.later ae).heap kW c7;rw[<-iQ.out] at fI;have eu:Ms w0 mb af O aq σ1:=⟨_,_,_,_,fI⟩;have nZ:=(OV.of (L:=none) ae (OO dk)).trans (OV.ofT c7);exact bL.o):G:=h
def ztf (h:G:=by
  have⟨ep,mm⟩:=xH (w.alloc (.cells #[NY n.k,NY n.n,Oj n.s] 65));have Iq:g<ep.heap.size:=by rw[mm.out];exact hg
  rw[show w.alloc (vO n)=ep by rw[mm.out]] at aj d7 pK fl hrow' kh sb dm e0;clear dE az h am bi mJ lq hg;go_enter func128,ntmps128;go_wp2_with fail;rw[<-mm.out];refine cm aj ?_;rintro e w' ⟨rfl,hw⟩;rw[hw];clear hw;go_wp2_with fail;exact bL.o):G:=h
def ztg (h:G:=by
  refine D.out _ _ eQ (fun _=>?_);clear D K;refine wg 6 (.tuple #[.nilFunc,Om false]) rfl (Or.inl ⟨by kernel_rfl,fun W a6=>by have hh:=dX.out W a6;go_simp⟩) eQ ?_
  refine wh 7 (.tuple #[.nilFunc,Om false]) eQ ?_;refine wh 8 .nilFunc eQ ?_;refine wh 9 (Om false) eQ ?_;refine wh 10 .nilFunc eQ ?_;refine wh 11 (Om false) eQ ?_;refine wpAnyH_done Pe ?_ _;go_simp;exact bL.o):G:=h
def zth (h:G:=by
  have Do:Lists aY gs (w.alloc O35):=dA.later PE;have dy:=hide aa;have dX:=hide hl;clear aa hl;go_enter func68,ntmps68;go_wp2_with fail;refine(acj _).mono ?_;rintro aw w1 ⟨x,rfl,⟨dU,c1,rfl,Lp,hf⟩,hbel⟩;have vc:=hide (hf w1 QI);clear hf;go_wp2_with fail;refine cm (NZ vc _) ?_;rw[dX.out];rintro bi w2 ⟨rfl,rfl⟩;go_wp2_with fail;exact bL.o):G:=h
def zti (h:G:=by
  have fM:Hid (aY.heap[aV]? = some (OM #[NY 0,NY 0,Pm] 65)):=by show _=_;rw[gQ,heap_setCell_other _ _ _ _ (Ne.symm d2)];exact NZ bq
  have xp:=(cG.newT kZ (fun b A=>by rw[gQ];exact heap_setCell_other _ _ _ _ (show b≠bc by omega)))
  have pi:Kp w2 aY:=fun b c e A ao=>kZ.rest b c e A (by rcases ao with rfl|rfl <;> decide);exact bL.o):G:=h
def ztj (h:G:=by
  refine wh 4 (O1 c) bA.drew ?_;refine XL 5 fun K D=>?_;go_simp;refine cm (RV c _ i d bA.drew) ?_;rintro e fA ⟨rfl,jN⟩;have eQ:=(bA.drew.later jN);exact bL.o):G:=h
def ztk (h:G:=by
  refine uz 11 ev ?_;refine PS 12 fun K D=>?_;go_simp;refine ko D ?_;clear D K;exact bL.o):G:=h
def ztl (h:G:=by
  have pG:=g4.YC bh Ol;have bI:=((cG.trans fj).newT bh (UR cQ.out _ _ _ _)).trans (OV.of (L:=L) d0 (OO pG.lt));have bE:=pG.later d0;have oK:=(aL.Qn bh Ol).later d0;have xX:=(g3.Tv bh).later d0;rw[<-bz] at ea bI bE oK xX;have⟨cK,b1,bU,ej,_,_⟩:=cells4 ea;exact bL.o):G:=h
def ztm (h:G:=by
  unfold tkV at aj;go_wp2_with fail;refine cm aj ?_;rintro e wt ⟨rfl,uj⟩;have qZ:=(rZ.next (Ap.of uj));have qf:=(q9.later uj);have n6:=(uj.block aY.heap.size OW).trans tL.out;have⟨b9,bP,de,g8,JS,M8⟩:=c160 n6;have fN:=qf.c1;have he:=qf.fz;have dE:=qf.rlt;exact bL.o):G:=h
def ztn (h:G:=by
  have dB:=hide ao;clear ao;go_enter func143,ntmps143;go_wp2_with fail;refine(aaq _).mono ?_;rintro aw w1 ⟨x,rfl,ac,hbel⟩;have⟨ai,aF⟩:=ZK hbel;have mc:=hbel;go_wp2_with fail;have hpast:=Yi s k x Qe w1 (by unfold maxLen;omega) Oe ac
  rw[dB.out] at hpast;refine hpast.mono ?_;exact bL.o):G:=h
def zto (h:G:=by
  have gP:t.count=1+Tr.counts t.kids:=by cases t with|mk kd tx gB ks=>exact count_mk _ _ _ _
  exact bL.o):G:=h
def ztp (h:G:=by
  have aM:6<w.heap.size:=(Array.getElem?_eq_some_iff.1 hg).1;have dB:=hide ao;have gZ:=hide hg;have dP:=hide ax;have ft:=hide hw;clear hg ax ao hw;go_enter func141,ntmps141;go_wp2_with fail;refine(atz _).mono ?_;rintro aw w1 ⟨x,rfl,ac,hbel⟩;have⟨ai,aF⟩:=ZK hbel;exact bL.o):G:=h
def ztq (h:G:=by
  have lV:=avW az E ai;have a':=(Yq (h.later e0) ab D i nm);rw[show M.has i nm=true by simp[Mo.has,lV]] at a';have dX:Hid (∀ w1,Oo w w1->_):=fun w1 A=>YJ (h.later A) ab D i nm;have gC:=hide az;have f1:=hide E;have gc:=hide ai;have kh:=hide lV;exact bL.o):G:=h
def ztr (h:G:=by
  have rZ:=(pd.alloc pd.size (.cells #[Pm,NY 0,NY 0,NY 0] 275));have q9:=(mj.alloc (.cells #[Pm,NY 0,NY 0,NY 0] 275));exact bL.o):G:=h
def zts (h:G:=by
  go_simp;refine D.out _ _ (fun _=>PE.drew) ?_;clear D K;refine PS 8 fun K D=>?_;go_simp;exact bL.o):G:=h
def ztt (h:G:=by
  have⟨t0,pp⟩:=xH (.mk 12 Oh 0 [b]:Tr);rw[<-pp.out] at cO;have jG:Hid (t0.kids.length=1):=by
   show _=_
   rw[pp.out];rfl
  obtain⟨aU,hp,BD,gO,en⟩:=cO.opens;have iF:aU=fs.heap.size+1:=by simpa[N7] using gO.symm
  rw[iF] at en;exact bL.o):G:=h
def ztu (h:G:=by
  have rY:=(xk.next ay);obtain⟨bc,rfl,rB⟩:=(EV.mono fd xk.size).nv;have aj:=(PG 12 Oh (.slice (some (N9 fs.heap.size 0)) 1 1) (fs.alloc (.cells #[N7 bc] 22)) ⟨_,_,_,rfl⟩);go_wp2_with fail;refine cm aj ?_;rintro e BL ⟨rfl,rfl⟩;exact bL.o):G:=h
def ztv (h:G:=by
  rw[<-kM.out] at fa;rw[<-pO] at fW fa;have pm:=hide (cells4 (stays cl e'.out));have wx:=lt_of_heap (stays cl e'.out);have s3:q<ef.heap.size:=by rw[bj.out];exact sV.cells.1
  have sY:=cell_lt fW;have uV:=hide jL;have oi:=hide fW;exact bL.o):G:=h
def ztw (h:G:=by
  rw[tM.out] at aj;simp only[atJ,ap9,Option.isSome] at aj;go_wp2_with fail;refine cm aj ?_;rintro e aY ⟨rfl,nW⟩;exact bL.o):G:=h
def ztx (h:G:=by
  have AW:ob≠aV:=Oe;have d2:bc≠aV:=Oe;have A4:bc≠tb:=Oe;have htb':tb=aV+1:=Oe;have rF:bc<tb/\ob<tb/\aV<tb/\w.heap.size<=tb:=Oe;have cU:=(aJ.later aE);have cG:=(OV.of (L:=L) aE (OO bG));exact bL.o):G:=h
def zty (h:G:=by
  have qo:gF.frozen? (N9 T 0)=false:=by rw[iR,World.frozen?_alloc_old _ _ _ QY,World.frozen?_alloc_old _ _ _ QY];exact ah
  have b8:gF.heap.size=w.heap.size+2:=by rw[iR];simp
  have kk:Oo w gF:=by rw[iR];exact PE.alloc OW _
  exact bL.o):G:=h
def ztz (h:G:=by
  have eW:=a7.ms.lt;have cC:vb≠aV:=fun e=>by
   have h1:=a7.vb;have U:=lt_of_heap bq.out;omega
  exact bL.o):G:=h
def aD7 (h:G:=by
  have GI:=ba;have xk:=(eZ.next ay);have aj:=(QL ah hN ef d i0 _ rfl (by rw[A];nofun) GI)
  rw[A] at aj;go_wp2_with fail;refine cm aj ?_;intro e fs al;obtain⟨⟨vb,rfl,fd⟩,ba,ay⟩:=al;exact bL.o):G:=h
def aD8 (h:G:=by
  refine wh 0 (O1 c) bA.drew ?_;refine wh 1 (O1 c) bA.drew ?_;refine wh 2 (Oy c.R 5) bA.drew ?_;refine wg 3 (.map (some c.mV)) rfl (Or.inl ⟨by kernel_rfl,fun W a6=>by have hh:=PI.c5 a6;go_simp⟩) bA.drew ?_
  exact bL.o):G:=h
def aCo (h:G:=by
  refine cm (NZ ha w2 eG) ?_;rintro e k5 ⟨rfl,iX⟩;rw[iX];clear bS b4 iX;have⟨aU,p1,cp,cJ,gU,d3⟩:=cells4 b7.out;have w6:=gU 2;clear gU;go_wp2_with fail;have lZ:mb<=bc:=Oe;exact bL.o):G:=h
def axe (h:G:=by
  have jx:=Yc;have bG:=ac.lt;obtain⟨au,aG,st⟩:=p;obtain⟨cV,dM,aQ⟩:=aa.form;subst aQ;exact bL.o):G:=h
def aD9 (h:G:=by
  have aM:=h.rlt;have eR:Hid (∀ (w:Og),PI c w i d->Oq 221 #[O1 c] w fun e w'=>e=OA (Oj s)/\Oo w w'):=fun w h=>by rw[ab];exact RV c w i d h
  clear h ab aO;go_enter func312,ntmps312;exact bL.o):G:=h
def aCJ (h:G:=by
  simp only[Value.slice.injEq] at aQ;obtain⟨rfl,hdrop,rfl⟩:=aQ;clear hdrop;have Is:g<w.heap.size+1:=Oe;have AA:g<w.heap.size+1+1:=Oe;have It:g<w.heap.size+1+1+1:=Oe;exact bL.o):G:=h
def aBs (h:G:=by
  have ea:=stays d0 (aag dz.out (NY 0) (NY 0) (Pm));have pG:=g4.YC bh Ol;have bI:=(fj.newT bh (Ub cQ.out _ _ _)).trans (OV.of (L:=none) d0 (OO pG.lt));have bE:=pG.later d0;exact bL.o):G:=h
def aEa (h:G:=by
  go_enter func267,ntmps267;go_wp2_with fail;refine cm a' ?_;rintro e w1 ⟨rfl,A⟩;have cA:=((Below.refl _ w).alloc Pg _).trans (A.mono OW);have⟨q,r,be,ew,aa⟩:=dX.out w1 cA;exact bL.o):G:=h
def aCK (h:G:=by
  have dG:=hide bn;have dS:=hide b4;have⟨q,ag⟩:=xE c.p;have qI:dN≠0:=by rw[rH];simp
  have uD:¬ (dN:Int)=0:=Oe;have Bn:(0:Int)<(dN:Int):=Oe;exact bL.o):G:=h
def aEb (h:G:=by
  have dX:Hid (∀ W:Og,PI c W i d->(Instr.lookup 231 (.map (some c.mV)) (Oj (fx c.l i)) true).run prog W=.ok (.tuple #[.nilFunc,Om false]) W):=fun W a6=>aDI
  exact bL.o):G:=h
def aA7 (h:G:=by
  have gd:=hide (cells3 eY);have h5:=lt_of_heap eY;clear eY;go_enter func197,ntmps197;go_wp2_with fail;rw[<-bo.out,<-a7];clear a7;refine S9 6 fun ae=>?_;exact bL.o):G:=h
def aEc (h:G:=by
  have⟨w2,bo⟩:=xH (w.alloc (.cells #[NY v.k,NY v.n,Oj v.s] 65));have⟨vb,a7⟩:=xE w.heap.size;have aE:Oo w w2:=by rw[bo.out];exact PE
  exact bL.o):G:=h
def aBO (h:G:=by
  have lZ:mb<=bc:=by have:=NZ sv;omega
  have lu:=V4 (j:=0) fk.out lZ (NY e2);have⟨bD,fH⟩:=xE (aq.setCell (N9 bc 0) (NY e2));exact bL.o):G:=h
def aEd (h:G:=by
  have bL:=N8 (∀{G}(h:G:=by
  exact z.o),G);exact ztg):G:=h
def aEe (h:G:=by
  have xm:=(qZ.alloc qZ.size (.cells #[NY (OX c.l i).kd,Oj (OX c.l i).tx,NY (OX c.l i).n,NY ((OX c.l i).pl:Int)] 144));have Cz:=(qf.alloc (.cells #[NY (OX c.l i).kd,Oj (OX c.l i).tx,NY (OX c.l i).n,NY ((OX c.l i).pl:Int)] 144));exact z.o):G:=h
def axY (h:G:=by
  have cR:=hd.kp (Kp.of aE);have cU:=(aJ.later aE);have cG:=(OV.of (L:=none) aE (OO bG));exact z.o):G:=h
def aEf (h:G:=by
  refine wh 7 (.tuple #[.agg #[Oj x.tx,NY x.kd,NY x.parts,NY x.str],Om true]) bN ?_;refine wh 8 (.agg #[Oj x.tx,NY x.kd,NY x.parts,NY x.str]) bN ?_;refine wh 9 (Om true) bN ?_;exact z.o):G:=h
def axZ (h:G:=by
  rintro e aD ⟨⟨ev,rfl,aL⟩,aJ,ah⟩;refine ko D ?_;clear D K;exact z.o):G:=h
def ax0 (h:G:=by
  go_wp2_with fail;rw[<-bo.out,<-b4,<-bS];clear bS b4;exact z.o):G:=h
def aEg (h:G:=by
  have A1:p<jl.heap.size:=by rw[gR] at A2;simpa using A2
  clear xP;go_wp2_with fail;rw[<-gR];clear gR gt px tZ C6 A1;exact z.o):G:=h
def aEh (h:G:=by
  refine PS 14 fun K D=>?_;go_simp;refine ko D ?_;clear D K;refine uz 15 ev ?_;refine RY ?_ _;go_simp;exact z.o):G:=h
def Xd (h:G:=by
  have bL:=N8 (∀{G}(h:G:=by
  have d2:bc≠aV:=Oe;exact axY),G);exact ztc):G:=h
def zsb (h:G:=by
  have bL:=N8 (∀{G}(h:G:=by
  have d2:bc≠aV:=Oe;exact z.o),G);exact ztc):G:=h
def zsc (h:G:=by
  have aE:Oo w w2:=by rw[bo.out];exact PE.alloc OW _
  have⟨bc,bS⟩:=xE w.heap.size;have⟨aV,b4⟩:=xE (w.heap.size+1);have bb:w2.heap[bc]? = some (OM #[NY au,NY aG,Om st,.pointer aC] 73):=by rw[bo.out,bS];exact alloc_old (Oi _ _)
  exact z.o):G:=h
def zsd (h:G:=by
  have dq:w.heap.size<=bc:=Oe;have cE:w.heap.size<=aV:=Oe;have d2:bc≠aV:=Oe;exact axY):G:=h
def zse (h:G:=by
  have aE:Oo w w2:=by rw[bo.out];exact PE.alloc OW _
  have⟨bc,bS⟩:=xE w.heap.size;have⟨aV,b4⟩:=xE (w.heap.size+1);exact z.o):G:=h
def zsf (h:G:=by
  have dq:w.heap.size<=bc:=Oe;have cE:w.heap.size<=aV:=Oe;have d2:bc≠aV:=Oe;exact z.o):G:=h
def zsg (h:G:=by
  clear h;go_enter func347,ntmps347;go_wp2_with fail;refine wp_region_held (S:=fun W=>PI c W i d) Pe ?_;change wpAnyH _ _ _ _ _ _ _ _ (World.drew _);have bL:=N8 (∀{G}(h:G:=by
  have bL:=N8 (∀{G}(h:G:=by
  have lH:=(eZ.next (Ap.of (QI.drew.trans jN)));have bL:=N8 (∀{G}(h:G:=by
  have aj:=(V6 c 0 fA i d eQ);have bL:=N8 (∀{G}(h:G:=by
  have pd:=(lH.next (Ap.of nW));have mj:=(eQ.later nW);have bL:=N8 (∀{G}(h:G:=by
  have pU:(aY.alloc (.cells #[Pm,NY 0,NY 0,NY 0] 275)).heap[aY.heap.size]? = some (.cells #[Pm,NY 0,NY 0,NY 0] 275):=Oi _ _;have tL:=hide pU;clear pU;have aj:=(Rt c (aY.alloc (.cells #[Pm,NY 0,NY 0,NY 0] 275)) i d q9);have bL:=N8 (∀{G}(h:G:=by
  clear n6;exact aEe),G);exact ztm),G);exact ztr),G);exact ztw),G);exact ztg),G);exact ztj),G);exact aD8):G:=h
def UZ (h:G:=by
  have bq:=hide hr2;have cQ:=hide cE;have dk:=cU.lt;have hpl2:=lt_of_heap bb;have ds:=cR.cells.1;exact z.o):G:=h
def zsj (h:G:=by
  have⟨s9,dW,dw,b8,cn⟩:=info_parts info22;have bA:=h;have eZ:=(Ap.refl c.R w.heap.size w);have bW:=hide h.rlt;clear h;go_enter func154,ntmps154;have aj:=(O5 c abu w i d bA Ol);rw[aR] at aj;go_wp2_with fail;refine cm aj ?_;intro e ef al;obtain⟨⟨va,rfl,rfl⟩,ba,ay⟩:=al;have bL:=N8 (∀{G}(h:G:=by
  have vt:=ba;have bL:=N8 (∀{G}(h:G:=by
  have⟨cO,cP,db⟩:=made vt rY (Oz.cons rB Oz.nil) (by simp[maxLen]) #[N7 bc] rfl 1 rfl 12 Oh (fs.heap.size+1) rfl;have bL:=N8 (∀{G}(h:G:=by
  exact z.o),G);exact ztt),G);exact ztu),G);exact aD7):G:=h
def zsk (h:G:=by
  have dq:w.heap.size<=bc:=Oe;have cE:w.heap.size<=aV:=Oe;exact z.o):G:=h
def zsl (h:G:=by
  have dk:=cU.lt;have hpl2:=lt_of_heap bb;have ds:=cR.cells.1;exact z.o):G:=h
def zsm (h:G:=by
  have bL:=N8 (∀{G}(h:G:=by
  rw[ai] at mn;clear ai;have bL:=N8 (∀{G}(h:G:=by
  refine up 0 mb 0 ae ?_;refine up 1 mb 0 ae ?_;refine up 2 mb 0 ae ?_;have bL:=N8 (∀{G}(h:G:=by
  exact z.o),G);exact zte),G);exact aA7),G);exact ztd):G:=h
def zsn (h:G:=by
  have⟨aC,kM⟩:=xH (LA L);rw[<-kM.out];have bG:=aJ.lt;obtain⟨au,aG,st⟩:=p;have⟨w2,bo⟩:=xH ((w.alloc (.cells #[NY au,NY aG,Om st,.pointer aC] 73)).alloc (.cells #[Om false,NY 0,NY 0,Pm] 67));exact z.o):G:=h
def zso (h:G:=by
  have bL:=N8 (∀{G}(h:G:=by
  have⟨dN,rH⟩:=xE (List.length (v::vs));have bL:=N8 (∀{G}(h:G:=by
  have bq:=hide hr2;have cG:=(OV.of (L:=none) aE (OO bG));have cU:Ms w0 mb af O w2 σ:=⟨_,_,_,_,eC⟩;have bo:=hide cM;have cQ:=hide cE;have eE:=hide bZ;have Fc:=hide bS;have bL:=N8 (∀{G}(h:G:=by
  have ml:=(aa.later aE);have⟨g,iZ,cap,aQ,dC,gH,d8,gt⟩:=aa.cells (i:=0) rfl;rw[Nat.zero_mul,Nat.add_zero] at gH d8 gt;rw[E] at gH;have bL:=N8 (∀{G}(h:G:=by
  obtain⟨ds,c0,c1,_⟩:=Av.cells;rw[<-ag] at ds c0 c1 ⊢;have Ja:q<w.heap.size+1:=Oe;have Jb:q<w.heap.size+1+1:=Oe;have s4:q<w.heap.size+1+1+1:=Oe;exact z.o),G);exact aCJ),G);exact aCK),G);exact zta),G);exact axe):G:=h
def zsp (h:G:=by
  have bL:=N8 (∀{G}(h:G:=by
  exact z.o),G);exact zta):G:=h
def zsq (h:G:=by
  have bL:=N8 (∀{G}(h:G:=by
  have cI:t.kids.length<=20000:=by have:=Ti t.kids;omega
  have⟨ek,il⟩:=xE (w.alloc (.cells #[Om s,Om i,Om b] 112));have hI:Oo w ek:=by rw[il];exact PE
  have kx:XI w.heap.size s i b ek:=by rw[il];exact XI.new _ _ _ _
  have wo:=h.later hI;obtain⟨eM,c0,c1,u,c3,aa⟩:=h.cells;rw[bm] at c0;exact z.o),G);exact zto):G:=h
def zsr (h:G:=by
  have d7:=hide hd;clear hd;have bL:=N8 (∀{G}(h:G:=by
  refine(aaq _).mono ?_;rintro d4 aq ⟨jl,rfl,⟨fT,c3,rfl,Lq,c7⟩,sR⟩;have cT:=hide (c7 aq QI);have ts:=(hbel.trans (sR.mono hbel.size));clear c7;go_wp2_with fail;refine cm (NZ cT _) ?_;rw[d7.out];rintro hC bD ⟨rfl,rfl⟩;go_wp2_with fail;exact z.o),G);exact zth):G:=h
def zss (h:G:=by
  obtain⟨au,aG,st⟩:=p;have⟨w2,bo⟩:=xH (w.alloc (.cells #[NY au,NY aG,Om st,.pointer aC] 73));have aE:Oo w w2:=by rw[bo.out];exact PE
  have⟨bc,bS⟩:=xE w.heap.size;have bb:w2.heap[bc]? = some (OM #[NY au,NY aG,Om st,.pointer aC] 73):=by rw[bo.out,bS];exact Oi _ _
  exact z.o):G:=h
def XM (h:G:=by
  rw[aa] at aj a';simp only[bind_ok] at a';clear aa;go_wp2_with fail;refine cm aj ?_;exact z.o):G:=h
def zsu (h:G:=by
  have bL:=N8 (∀{G}(h:G:=by
  have lH:=(eZ.next (Ap.of (QI.drew.trans jN)));exact aEd),G);exact ztj):G:=h
def zsv (h:G:=by
  have bL:=N8 (∀{G}(h:G:=by
  have KB:=R9.ah5;have Kv:=R9.arx;have JR:=R9.arz;have kA:=R9.arA;have Hz:=R9.arB;have JJ:=R9.acW;have dC:0<w.heap.size:=azb
  have⟨gF,iR⟩:=xE ((w.alloc (.cells #[Oy T 0] 123)).alloc (.cells #[Oy 13 123,Oy w.heap.size 0,.int .u64 150] 130));have lX:((w.alloc (.cells #[Oy T 0] 123)).alloc (.cells #[Oy 13 123,Oy w.heap.size 0,.int .u64 150] 130)).cell? (N9 0 0)=some (.iface 215 (.agg #[Oy 13 31])):=azc
  have ay:gF.cell? (N9 w.heap.size 0)=some (Oy T 0):=azd
  exact z.o),G);exact ztb):G:=h
def zsw (h:G:=by
  have bL:=N8 (∀{G}(h:G:=by
  have cI:t.kids.length<=20000:=by have:=Ti t.kids;omega
  exact z.o),G);exact zto):G:=h
def zsx (h:G:=by
  have ci:=en;have jK:=cP;have kg:=db;clear gO;have⟨e8,im⟩:=xE ((fs.alloc (.cells #[N7 bc] 22)).alloc (O7 12 Oh 0 (.slice (some (N9 fs.heap.size 0)) 1 1)));rw[<-im] at ci jK kg;rw[<-iF] at ci;rw[show (fs.alloc (.cells #[N7 bc] 22)).heap.size=aU by rw[iF];simp,<-im]
  clear im iF;have aj:=(RU c VA e8 a8 d jK ai Ol);go_wp2_with fail;refine cm aj ?_;rintro e aD ⟨rfl,ba,ay⟩;have fR:=ba;have e3:=(kg.next ay);replace ci:=(Open.later ci (ay) bW.out);have aj:=(O5 c RP aD (a8+1) d fR Ol);rw[U] at aj;go_wp2_with fail;refine cm aj ?_;intro e wd al;obtain⟨⟨KG,rfl,rfl⟩,ba,ay⟩:=al;have oB:=ba;have jX:=(e3.next ay);replace ci:=(Open.later ci (ay) bW.out);have aj:=(name_any c wd i2 d oB);rw[av] at aj;go_wp2_with fail;refine cm aj ?_;intro e BK al
  obtain⟨⟨KH,rfl,rfl⟩,ba,ay⟩:=al;have zr:=ba;have xl:=(jX.next ay);replace ci:=(Open.later ci (ay) bW.out);have aj:=(O5 c TV BK i3 d zr Ol);rw[aN] at aj;go_wp2_with fail;refine cm aj ?_;intro e jW al;obtain⟨⟨KI,rfl,rfl⟩,ba,ay⟩:=al;have GJ:=ba;have qY:=(xl.next ay);replace ci:=(Open.later ci (ay) bW.out);have gc:=(QL ah hN jW.drew d i4 _ rfl (by rw[bx];nofun) GJ.drew)
  rw[bx] at gc;obtain⟨lp,pJ,dE⟩:=ci.cell;obtain⟨cV,uc,l1⟩:=ci.shape;subst l1;go_wp2_with fail;exact z.o):G:=h
def zsy (h:G:=by
  have bG:=aJ.lt;obtain⟨au,aG,st⟩:=p;obtain⟨fZ,⟨ok,on,fY⟩⟩:=o;have⟨w2,cM⟩:=xE ((((w.alloc (.cells #[NY au,NY aG,Om st,.pointer aC] 73)).alloc (.cells #[Om fZ,NY ok,NY on,Oj fY] 67)).alloc (.cells #[Om false,NY 0,NY 0,Pm] 67)).alloc (.cells #[QS] 122));have aE:Oo w w2:=by rw[cM];exact((PE.alloc OW _).alloc QY _).alloc QY _
  have⟨bc,bS⟩:=xE w.heap.size;have⟨ob,f'⟩:=xE (w.heap.size+1);have⟨aV,b4⟩:=xE (w.heap.size+2);have⟨tb,lv⟩:=xE (w.heap.size+3);have bb:w2.heap[bc]? = some (OM #[NY au,NY aG,Om st,.pointer aC] 73):=by rw[cM,bS];exact alloc_old (alloc_old (alloc_old (Oi _ _)))
  have kw:w2.heap[ob]? = some (OM #[Om fZ,NY ok,NY on,Oj fY] 67):=aG1
  have hr2:w2.heap[aV]? = some (OM #[Om false,NY 0,NY 0,Pm] 67):=aGX
  have eN:w2.heap[tb]? = some (OM #[QS] 122):=aGV
  exact z.o):G:=h
def zsz (h:G:=by
  rw[aO] at pK;rw[E,Yp] at d7;clear E;have bL:=N8 (∀{G}(h:G:=by
  refine cm d7 ?_;rintro e w1 ⟨rfl,A⟩;have f7:Below (w.heap.size+1) (w.alloc (.cells #[NY n.k,NY n.n,Oj n.s] 65)) w1:=by rw[<-mm.out];exact A.mono (by rw[mm.out];simp)
  have⟨dl,bT,cY,fp,nl⟩:=YA f7;have bO:=(e0.trans (A.mono e0.size));have gq:=(fl.later A);have q8:=(OI hrow' A);have dC:g<w1.heap.size:=Nat.lt_of_lt_of_le sb.out A.size;have fN:w1.cell? (N9 g (i * 3+2))=some v:=(cell_below A (a:=(N9 g (i * 3+2))) sb.out).trans kh.out;have hfz1:w1.frozen? (N9 g (i * 3+2))=false:=(World.frozen?_of_block (w:=ep) (a:=(N9 g (i * 3+2))) (A.block g sb.out)).trans (dm.out _);clear pK;go_wp2_with fail;refine wp_region_any Pe ?_;change wpAny _ _ _ _ _ _ _ (World.drew _)
  refine wt 0 (Oy g (i * 3)) ?_;refine wt 1 (Oy g (i * 3)) ?_;refine wt 2 (Oy g (i * 3)) ?_;refine wt 3 (Oy g (i * 3+2)) ?_;refine wt 5 (Oj nm) ?_;exact z.o),G);exact ztf):G:=h
def TI (h:G:=by
  refine up 0 mb 0 ae ?_;refine up 1 mb 0 ae ?_;refine up 2 mb 0 ae ?_;exact z.o):G:=h
def aEj (h:G:=by
  have bL:=N8 (∀{G}(h:G:=by
  exact z.o),G);exact zth):G:=h
def aoI (h:G:=by
  obtain⟨h0,h1,aF,hf,hl⟩:=h.c;have e0:Oo w (w.alloc (vO n)):=PE;have fl:=h.later e0;have⟨g,cap,v,bi,aM,am,dE,hrow,hg,a1,lq,_⟩:=fl.ro.at_ (i:=i) (e:=x.h) (by simp[az]);have aj:=(Z9 g cap _ i aM (w.alloc (vO n)));rw[<-bi] at aj;have hrow':(w.alloc (vO n)).ownsRow H 262 6 v x.cs.length (x.cs.flatMap Ce.h):=hrow;have d7:=(aew g (i * 3) v x.cs H nm (w.alloc (vO n)) (dE 2 v rfl) hrow' (by have:=ab.cs x (List.mem_of_getElem? az);omega))
  have mJ:=ab.cs x (List.mem_of_getElem? az);have pK:(w.alloc (vO n)).cell? (N9 g (i * 3+1))=some (NY x.object):=dE 1 _ rfl;exact z.o):G:=h
def asV (h:G:=by
  have⟨aC,oV⟩:=xE (LA L);rw[<-oV];have bG:=aJ.lt;obtain⟨au,aG,st⟩:=p;obtain⟨fZ,⟨ok,on,fY⟩⟩:=o;have⟨w2,cM⟩:=xE (((w.alloc (.cells #[NY au,NY aG,Om st,.pointer aC] 73)).alloc (.cells #[Om fZ,NY ok,NY on,Oj fY] 67)).alloc (.cells #[Om false,NY 0,NY 0,Pm] 67));have aE:Oo w w2:=by rw[cM];exact(PE.alloc OW _).alloc QY _
  have⟨bc,bS⟩:=xE w.heap.size;have⟨ob,f'⟩:=xE (w.heap.size+1);have⟨aV,b4⟩:=xE (w.heap.size+2);have bb:w2.heap[bc]? = some (OM #[NY au,NY aG,Om st,.pointer aC] 73):=by rw[cM,bS];exact alloc_old (alloc_old (Oi _ _))
  have kw:w2.heap[ob]? = some (OM #[Om fZ,NY ok,NY on,Oj fY] 67):=aG2
  have hr2:w2.heap[aV]? = some (OM #[Om false,NY 0,NY 0,Pm] 67):=aGY
  exact z.o):G:=h
def V8 (h:G:=by
  have hstep:=aeQ bC cU ey;rw[if_neg Oe] at hstep;have⟨q,bj⟩:=xH a.p;rw[<-bj.out] at ds ⊢;exact z.o):G:=h
def aar (h:G:=by
  refine wp_region_any Pe ?_;change wpAny _ _ _ _ _ _ _ (World.drew _);refine wt 0 (N7 aU) ?_;refine wt 1 (N7 aU) ?_;refine wt 2 (N7 aU) ?_;refine wt 3 (Oy aU 3) ?_;exact z.o):G:=h
def VZ (h:G:=by
  refine up 0 mb 0 ae ?_;refine up 1 q 0 ae ?_;refine up 2 q 0 ae ?_;refine up 3 q 3 ae ?_;exact z.o):G:=h
def aro (h:G:=by
  have LT := @run_callFunc_extern prog 135 _ ReflectliteType.typeOf func135 Pe Pe Pe Pe; have LK := @run_callFunc_extern prog 383 _ (ReflectliteType.relation "AssignableTo" ReflectliteType.assignableTo) func383 Pe Pe Pe Pe; have Dg := @run_callFunc_extern prog 136 _ (ReflectliteValue.method (ReflectliteValue.valueError "reflectlite.Value.Elem" 0) ReflectliteValue.elem) func136 Pe Pe Pe Pe; have LU := @run_callFunc_extern prog 137 _ ReflectliteValue.set func137 Pe Pe Pe Pe
  have H1:=@run_callFunc_extern prog 62 _ (fun args=>ReflectliteValue.unpack (args.getD 0 (.tuple #[]))) func62 Pe Pe Pe Pe;have Nr:=R9.arC;exact z.o):G:=h
def amd (h:G:=by
  have⟨b9,cz,cap0,fE,dv,fU,_⟩:=hd.Yb (i:=0) Oe;rw[E] at fE;have na:=fU.kp (Kp.of aE);have⟨q,bj⟩:=xH a.p;have⟨kp,c'⟩:=xE b9.p;have ns:=hd.cells.1;have sZ:=fU.cells.1;have eK:=na.cells.1;have mD:=fU.cells.2.1;have kR:=na.cells.2.1;have fS:=na.cells.2.2.1;have dC:=cell_lt dv;exact z.o):G:=h
def aa2 (h:G:=by
  go_wp2_with fail;refine wp_region_held (S:=fun W=>PI c W i d) Pe ?_;change wpAnyH _ _ _ _ _ _ _ _ (World.drew _);exact z.o):G:=h
def abY (h:G:=by
  go_wp2_with fail;rw[<-bo.out,<-b4,<-bS];clear bS b4;refine cm hstep ?_;rintro e wz ⟨rfl,hc,hF⟩;have ed:=hide (hF.keep bq.out Ol);exact z.o):G:=h
def aiN (h:G:=by
  have bG:=aJ.lt;have bL:=N8 (∀{G}(h:G:=by
  have eY:w2.heap[vb]? = some (Y0 v):=by rw[bo.out,a7];exact Oi _ _
  exact z.o),G);exact aEc):G:=h
def Xr (h:G:=by
  have hr2:w2.heap[aV]? = some (OM #[Om false,NY 0,NY 0,Pm] 67):=asu
  exact z.o):G:=h
def asa (h:G:=by
  have e0:Oo w ep:=by rw[sP];exact PE
  have gq:=(h.later e0);have⟨dl,bT,cY,fp,nl⟩:=YA (w1:=ep) (by rw[sP];exact QI)
  obtain⟨gH,d8,_,px,tZ⟩:=gq.c;rw[<-sP];have hrow:ep.ownsRow H 198 3 aB M.Ov.length (flat (M.Ov.map Ro.h) b'):=by have:=gq.ro.row;rwa [List.length_map] at this
  clear sP h0 h1 aF hf gH;refine wp_region_any Pe ?_;change wpAny _ _ _ _ _ _ _ (World.drew _);refine wt 0 (Oy H 0) ?_;refine wt 1 (Oy H 0) ?_;refine wt 2 (Oy H 0) ?_;refine wt 3 (Oy H 1) ?_;exact z.o):G:=h
def aaV (h:G:=by
  have hstep:=aeQ bC cU ey;rw[if_neg Oe] at hstep;have fe:=(hl.later aE);have⟨q,bj⟩:=xH a.p;rw[<-bj.out] at ds ⊢;exact z.o):G:=h
def awZ (h:G:=by
  have cD:=hide aI;clear bb hr2 kw eN cM d' ag dq cE d2 A4 rF oV aI t0 tf n' kr;go_enter func201,ntmps201;go_wp2_with fail;rw[<-bo.out,<-b4,<-f',<-bS,<-htb'];clear bS b4 f' lv htb';refine cm kJ ?_;rintro e wz ⟨rfl,iC⟩;have ed:=hide (stays iC bq.out);have zk:=hide (stays iC vk.out);have dk:=cU.lt;have jr:=(cU.later iC);have f2:=(fe.later iC);have dm:=(cG.trans (OV.of (L:=L) iC (OO dk)));have⟨cS,bY,cg,eo,dJ,dK,dL,jj,rl⟩:=QK ed.out;have⟨z0,oc,z2,z3,od,og,oh,xi,zl⟩:=QK zk.out
  go_wp2_with fail;have⟨b3,bz,bh,bI,bE,cK,b1,bU,ej⟩:=rt4 ed.out cQ.out bG dm jr (Om fZ) (NY ok) (NY on) (Oj fY);rw[<-bz];exact z.o):G:=h
def XK (h:G:=by
  go_wp2_with fail;refine cm aj ?_;intro e w' al;obtain⟨rfl,ay⟩:=al;exact z.o):G:=h
def aCB (h:G:=by
  have nk:=lQ.lt;have⟨lb,jw⟩:=xE i7.heap.size;have lZ:mb<=bc:=Oe;have wH:=V4 (j:=3) iP.out lZ (Oy lb 0);have qF:=as8 iP.out (Oy lb 0);have⟨ce,h6⟩:=xE (i7.setCell (N9 bc 3) (Oy lb 0));have hsz5:ce.heap.size=i7.heap.size:=by rw[h6];simp
  rw[<-h6] at wH qF;have l4:=lQ.YC wH Ol;have⟨ch,gn⟩:=xE (ce.alloc (.cells #[NY 0,NY 0,Pm] 65));have fh:Oo ce ch:=by rw[gn];exact PE
  have AN:ch.heap[lb]? = some (OM #[NY 0,NY 0,Pm] 65):=by rw[gn,jw,<-hsz5];exact Oi _ _
  have mo:=(l4.later fh);have mh:=hide (stays fh qF);have xx:OE ch (some lb) (some vU):=AN;have A8:ce.heap[aV]? = some (OM #[NY 0,NY 0,Pm] 65):=wH.rest _ _ _ hs.out Ol;have ig:=hide (stays fh A8);have nD:Kp w2 ch:=fun b c e A ao=>Kp.of fh b c e (wH.rest b c e (k8 b c e A ao) (by rcases ao with rfl|rfl <;> decide)) ao;have lN:OV none mb w ch:=(i'.newT wH (fun b A=>by rw[h6];exact heap_setCell_other _ _ _ _ (show b≠bc by omega))).trans (OV.of fh (by rw[hsz5];exact OO nk))
  have rA:=mo.lt;have IN:w.heap.size<=lb:=by have:=i'.below.size;omega
  have Ec:mb<=lb:=Oe;have IR:lb≠aV:=fun e=>by have:=lt_of_heap hs.out;omega
  rw[<-jw,<-h6,<-gn];exact z.o):G:=h
def avX (h:G:=by
  obtain⟨h0,h1,aF,hf,hl⟩:=h.c;have e0:Oo w (w.alloc (vO n)):=PE;have bL:=N8 (∀{G}(h:G:=by
  unfold vO at a';clear ai az E lV aF hf;have bL:=N8 (∀{G}(h:G:=by
  obtain⟨b9,bP,_,_,_⟩:=(h.later cA).c;exact z.o),G);exact aEa),G);exact ztq):G:=h
def aDa (h:G:=by
  have bL:=N8 (∀{G}(h:G:=by
  exact z.o),G);exact aEc):G:=h
def agH (h:G:=by
  go_wp2_with fail;have⟨b3,bz,bh,bI,bE,cK,b1,bU⟩:=rt3 dS.out cQ.out bG jZ k9 (NY b5.k) (NY b5.n) (Oj b5.s);rw[<-bz];refine WB (v:=.tuple #[vA b5,Qd]) ?_;exact z.o):G:=h
def ac6 (h:G:=by
  have⟨b9,cz,cap0,fE,dv,fU,_⟩:=cR.Yb (i:=0) Oe;rw[E] at fE;have⟨q,bj⟩:=xH a.p;have⟨kp,c'⟩:=xE b9.p;exact z.o):G:=h
def aqa (h:G:=by
  have bL:=N8 (∀{G}(h:G:=by
  clear ag;have bA:=h;have eZ:=(Ap.refl c.R w.heap.size w);have q1:=h.base.ends;have dA:=h.base.len;have tM:=hide e6;exact z.o),G);exact aEb):G:=h
def atK (h:G:=by
  refine D.out _ _ bN (fun _=>?_);clear D K;refine wg 6 (.tuple #[.agg #[Oj x.tx,NY x.kd,NY x.parts,NY x.str],Om true]) rfl (Or.inl ⟨by kernel_rfl,fun W a6=>by have hh:=dX.out W a6;go_simp⟩) bN ?_
  exact aEf):G:=h
def awV (h:G:=by
  rintro wt lb qk d5;have hs:=hide (d5.fr.RS fe bq.out Ol Ol);have Gi:=hide (d5.fr.RS fe vk.out Ol Ol);have i':=(cG.trans d5.fr);have pk:=d5.ms;have lM:=d5.er;have Fy:=(mY.RS d5.fr fe);have bW:=d5.la;have IX:=d5.ms.lt;have AT:lb≠aV:=fun e=>by
   have h1:=d5.ob;have U:=lt_of_heap bq.out;omega
  obtain⟨i6,⟨eD,dN,eP⟩⟩:=bH;have⟨cS,bY,cg,eo,dJ,dK,dL,jj,rl⟩:=QK hs.out;have⟨hM,gW,gX,rT,iK,iL,iM,rU,hO⟩:=QK (d5.o);have⟨z0,oc,z2,z3,od,og,oh,xi,zl⟩:=QK Gi.out;exact z.o):G:=h
def atL (h:G:=by
  clear aa;go_wp2_with fail;refine wp_region_held (S:=fun W=>W.heap[aY.heap.size]? = some (.cells #[Oj x.tx,NY x.kd,NY x.parts,NY x.str] 275)) Pe ?_;change wpAnyH _ _ _ _ _ _ _ _ (World.drew _);refine wh 0 (Oy aY.heap.size 1) eF.out ?_;refine wg 1 (NY x.kd) rfl (Or.inl ⟨by kernel_rfl,fun W a6=>by have⟨_,j9,_,_,_,_⟩:=c160 a6;go_simp⟩) eF.out ?_
  exact z.o):G:=h
def aEl (h:G:=by
  have bL:=N8 (∀{G}(h:G:=by
  exact z.o),G);exact aEb):G:=h
def aoW (h:G:=by
  have bL:=N8 (∀{G}(h:G:=by
  have dm:OV none mb w wz:=cG.trans a7.fr;have e':=hide (a7.fr.keep b7.out Ol);clear dj;have⟨fB,cy,dO,ip,iq,ir,ia⟩:=O3 (a7.v);exact z.o),G);exact ztz):G:=h
def aat (h:G:=by
  go_wp2_with fail;refine cm aj ?_;rintro e e8 ⟨rfl,rfl⟩;go_wp2;go_ret;exact z.o):G:=h
def awd (h:G:=by
  refine up 3 bc 0 ae ?_;refine uk 4 (ei.out.1) ae ?_;refine up 5 q 0 ae ?_;refine up 6 q 0 ae ?_;refine up 7 q 1 ae ?_;refine uk 8 e9.out ae ?_;refine PS 9 fun K D=>?_;go_simp;refine cm (NZ hr _ ae) ?_;rintro e aq ⟨rfl,bn⟩;refine ko D ?_;clear D K;have Am:=ae.trans bn;have eF:=(el.later Am);have cT:=(cG.trans (OV.of (L:=none) Am (OO dk)));have ku:=ae3 a1 eF.bw (cR.kp (Kp.of Am));have⟨xQ,_⟩:=eF.hh.at_ 5 _ rfl;have fQ:=eF.lt;rw[<-bj.out] at ku;exact z.o):G:=h
def aBN (h:G:=by
  have⟨cS,bY,cg,eo,dJ,dK,dL,jj,rl⟩:=QK dz.out;go_wp2_with fail;have⟨b3,bz⟩:=xE (((((aD.setCell (N9 aV 0) (Om true)).setCell (N9 aV 1) (NY eD)).setCell (N9 aV 2) (NY dN)).setCell (N9 aV 3) (Oj eP)).alloc (.cells #[Om true,NY eD,NY dN,Oj eP] 67));rw[<-bz];have hi:mb<=aV:=by have:=NZ cQ;omega
  have bh:=Ud dz.out hi (Om true) (NY eD) (NY dN) (Oj eP);have d0:=(Below.refl _ ((((aD.setCell (N9 aV 0) (Om true)).setCell (N9 aV 1) (NY eD)).setCell (N9 aV 2) (NY dN)).setCell (N9 aV 3) (Oj eP))).alloc Pg (.cells #[Om true,NY eD,NY dN,Oj eP] 67);have ea:=stays d0 (aai dz.out (Om true) (NY eD) (NY dN) (Oj eP));have bL:=N8 (∀{G}(h:G:=by
  exact z.o),G);exact ztl):G:=h
def al7 (h:G:=by
  obtain⟨h0,h1,aF,hf,hl⟩:=h.c;have e0:Oo w (w.alloc (vO n)):=PE;exact z.o):G:=h
def ama (h:G:=by
  rw[<-bj.out] at fE ds;rw[<-c'] at dv bF
  rcases aa:F.v (Oa d 0) ⟨au,aG,st⟩ σ with ⟨⟨v1,aw⟩,σ1⟩
  rw[aa] at bF;have ez:=hide fE;have lK:=hide dv;have dC:=cell_lt dv;exact z.o):G:=h
def asP (h:G:=by
  rw[e1] at eR;have md:=hide e1;clear e1;go_wp2_with fail;refine cm eR ?_;rintro e ef ⟨rfl,cl⟩;have jJ:=hide (stays cl ed.out);have j0:=(a7.ms.later cl);have nE:=(f2.later cl);have m0:=(dm.trans (OV.of (L:=none) cl (OO eW)));have oU:=j0.lt;have sV:=gI.kp (Kp.of cl);have cL:=NZ p8;exact z.o):G:=h
def awm (h:G:=by
  refine uk 4 ez.out ae ?_;refine up 5 cz 0 ae ?_;refine uk 6 lK.out ae ?_;refine uk4 7 ei.out ae ?_;refine PS 8 fun K D=>?_;go_simp;refine cm (NZ bF _ ae) ?_;rintro e wz ⟨⟨ev,rfl,aL⟩,hc,hF⟩;refine ko D ?_;clear D K;refine uz 9 (.tuple #[NY bH,ev]) ?_;refine uz 10 (NY bH) ?_;refine uz 11 ev ?_;refine uz 12 (NY bH) ?_;refine uz 13 ev ?_;refine RY ?_ _;have tB:=aL;have mB:=(OV.of (L:=none) ae (OO dk)).trans hF;have ed:=hide (mB.keep bq.out Ol);exact z.o):G:=h
def aEm (h:G:=by
  clear ay;have⟨ps,hown,nj,AK⟩:=NZ tG;have hlen:=Oz.length _ _ nj;have vY:=P6 hown;rw[hlen] at hown;have HLEN:=hide hlen;have da:=tn.size;have gh:=NZ qb;have m3:=hide vY;clear vY hlen
  go_wp2_with (at_builtin;refine wpList_append_lies _ rfl _ _ 38 rfl w.heap.size 22 i0 QS 1 8 underlying38 dW dw b8 cn rfl Ol _ _ _ rfl (hown.alloc _) (N9 bD.heap.size 0) 1 1 [N7 kC] rfl rfl (Rq bD kC _ rfl) (one_one kC) Ol (by unfold maxLen;omega) Oe QY (bD.heap.size+1) OW ?_)
  intro g cap ce hown' hgrow hg _;have mf:KV w.heap.size ce (aX++[t]) (.slice (some (N9 g 0)) (aX.length+1) cap):=ak2 AK (by rw[List.map_append];exact hown') (by simp[HLEN.out]) hgrow hg
  have mQ:=((tn.alloc da (.cells #[N7 kC] 22)).grown hgrow QY (fun k E=>(NZ m3 k E).2));have gr:=(ba.ap (((Below.refl w.heap.size bD).alloc da (.cells #[N7 kC] 22)).grown hgrow QY (fun k E=>(NZ m3 k E).2)) iw.out);clear hg;go_wp2_with fail;exact z.o):G:=h
def anK (h:G:=by
  have lI:Hid (QZ t=true->∀ W,Oo w W->Oq 103 #[N7 p] W fun e w'=>(∃ q,e=OA (N7 q)/\Ug W (PZ t 1) q)/\w'=W):=fun aF W a6=>abm t p W (fd W a6) (by
   have:need t.kd=2:=aG0
   omega) Oe
  exact z.o):G:=h
def aBa (h:G:=by
  rintro wz vb ev a7;have dj:=a7.fr.keep bq.out Ol;have ed:=hide dj;have⟨cS,bY,cg,dJ,dK,dL,rl⟩:=O3 (dj);have bL:=N8 (∀{G}(h:G:=by
  exact z.o),G);exact ztz):G:=h
def awf (h:G:=by
  have dq:w.heap.size<=bc:=Oe;have cR:=hd.kp (Kp.of aE);have e9:=hide cR.cells.2.2.1;have el:=(ac.later aE);have ei:=hide (cells4 bb);have cG:=(OV.of (L:=none) aE (OO bG));have⟨q,bj⟩:=xH a.p;have⟨tx,cB⟩:=xE d.2.tx;have ds:=cR.cells.1;rw[<-bj.out] at e9 ds ⊢;rw[<-cB] at e9;have dk:=el.lt;have hpl2:=lt_of_heap bb;have hr:=hide (fun X (ak:Oo w2 X)=>aex (el.later ak).hh aH.go.ok aH.go.sm (OO hN) au tx);exact z.o):G:=h
def asI (h:G:=by
  go_simp;refine cm (NZ bF _ ae) ?_;rintro e aD ⟨⟨ev,rfl,aL⟩,aJ,ah⟩;refine ko D ?_;clear D K;refine uz 9 (.tuple #[(vA v1),ev]) ?_;refine uz 10 (vA v1) ?_;have bL:=N8 (∀{G}(h:G:=by
  refine PS 13 fun K D=>?_;go_simp;refine ko D ?_;clear D K;exact z.o),G);exact ztk):G:=h
def aiV (h:G:=by
  refine PS 13 fun K D=>?_;go_simp;refine ko D ?_;clear D K;refine uz 14 ev ?_;refine RY ?_ _;go_simp;exact z.o):G:=h
def ax1 (h:G:=by
  refine wh 0 (O1 c) ra.drew ?_;refine wh 1 (O1 c) ra.drew ?_;refine wh 2 (Oy c.R 5) ra.drew ?_;refine wg 3 (.map (some c.mV)) rfl (Or.inl ⟨by kernel_rfl,fun W a6=>by have hh:=PI.c5 a6;go_simp⟩) ra.drew ?_
  refine wh 4 (O1 c) ra.drew ?_;refine XL 5 fun K D=>?_;go_simp;refine cm (RV c _ i d ra.drew) ?_;rintro e fA ⟨rfl,jN⟩;have eQ:=(ra.drew.later jN);have r2:=(e1.trans ((QI.drew.trans jN).mono e1.size));exact z.o):G:=h
def avl (h:G:=by
  have rp:gF.cell? (N9 T 0)=some QS:=by rw[iR,World.cell?_alloc_past _ _ _ QY,World.cell?_alloc_past _ _ _ lU];exact dZ
  have bL:=N8 (∀{G}(h:G:=by
  have rR:=R9.anA (N9 w.heap.size 0) (N9 T 0) gF ay;rw[iR] at rR;exact z.o),G);exact zty):G:=h
def awW (h:G:=by
  rw[<-bA.out,<-ag];rw[<-ag] at c3 ds;rw[<-c'] at dv bF;rw[<-oV] at bF
  rcases aa:F.s (Oa d 0) ⟨au,aG,st⟩ l σ with ⟨⟨bH,aw,bQ⟩,σ1⟩
  rw[aa] at bF;have ez:=hide c3;have lK:=hide dv;have dC:=cell_lt dv;have bV:=hide aa;clear bb hr2 kw cM aa ag h1 dq cE d2 c3 dv c' oV;go_enter func202,ntmps202;go_wp2_with fail;rw[<-bo.out,<-b4,<-f',<-bS];clear bS b4 f' jg lX;go_wp2_with fail;exact z.o):G:=h
def asA (h:G:=by
  rw[e1] at eR;have md:=hide e1;clear e1;go_wp2_with fail;refine S9 11 fun ae=>?_;refine uh 0 Qd (ae) ?_;refine uh 1 (Om false) (ae) ?_;refine uh 2 (Om false) (ae) ?_;refine uk3 3 gd.out ae ?_;refine up 5 q 0 ae ?_;refine up 6 q 0 ae ?_;refine up 7 q 0 ae ?_;refine uk 8 mU.out ae ?_;exact z.o):G:=h
def aw0 (h:G:=by
  have bL:=N8 (∀{G}(h:G:=by
  have vk:=hide kw;have GO:=hide eN;have bo:=hide cM;have bq:=hide hr2;have cQ:=hide cE;have fe:=(hl.later aE);have⟨t0,tf,n'⟩:=aaj eN;have kr:=bC.ety cU;exact z.o),G);exact ztx):G:=h
def aCp (h:G:=by
  go_enter func322,ntmps322;go_wp2_with fail;rw[<-bo.out,<-b4,<-bS];have bL:=N8 (∀{G}(h:G:=by
  have kZ:=V4 (j:=2) b7.out lZ (Om false);have gi:=aku b7.out (Om false);have⟨aY,gQ⟩:=xE (w2.setCell (N9 bc 2) (Om false));rw[<-gQ] at kZ gi ⊢;have pu:=(el.YC kZ Ol);have bL:=N8 (∀{G}(h:G:=by
  have Ed:=pu.lt;exact z.o),G);exact zti),G);exact aCo):G:=h
def atM (h:G:=by
  clear gO;have⟨e8,im⟩:=xE ((fs.alloc (.cells #[N7 bc] 22)).alloc (O7 12 Oh 0 (.slice (some (N9 fs.heap.size 0)) 1 1)));exact z.o):G:=h
def aBl (h:G:=by
  rw[<-bj.out] at fE ds ns ⊢;rw[<-c'] at dv sZ eK mD kR fS;have r4:=hide kR;have mW:=hide fS;clear bb hr2 dq cE d2 c' cB kR fS aF bm;go_enter func261,ntmps261;go_wp2_with fail;rw[<-bo.out,<-b4,<-bS];clear bS b4;refine S9 15 fun ae=>?_;refine up 0 kp 0 ae ?_;refine up 1 kp 0 ae ?_;refine up 2 kp 0 ae ?_;refine uk 3 r4.out ae ?_;refine uh 4 (Om true) (ae) ?_;refine uh 5 (Om true) (ae) ?_;refine up 6 mb 0 ae ?_;refine up 7 mb 0 ae ?_;refine up 8 mb 0 ae ?_;refine up 9 bc 0 ae ?_;refine uk 10 (ei.out.1) ae ?_
  refine up 11 kp 0 ae ?_;refine up 12 kp 0 ae ?_;refine up 13 kp 1 ae ?_;refine uk 14 mW.out ae ?_;refine PS 15 fun K D=>?_;go_simp;refine cm (NZ hr _ ae) ?_;rintro e ef ⟨rfl,bn⟩;refine ko D ?_;clear D K;have cl:=ae.trans bn;exact z.o):G:=h
def amL (h:G:=by
  have bA:=h;have eZ:=(Ap.refl c.R w.heap.size w);have bW:=hide h.rlt;exact z.o):G:=h
def avT (h:G:=by
  go_wp2_with fail;rw[<-mm.out];refine cm aj ?_;rintro e w' ⟨rfl,hw⟩;rw[hw];clear hw;go_wp2_with fail;refine cm d7 ?_;rintro e w1 ⟨rfl,A⟩;exact z.o):G:=h
def agu (h:G:=by
  simp only[Value.slice.injEq,Option.some.injEq,Addr.mk.injEq,and_true,true_and] at hL;obtain⟨rfl,rfl⟩:=hL;exact z.o):G:=h
def asF (h:G:=by
  go_simp;refine cm (NZ bF _ ae) ?_;exact axZ):G:=h
def aAM (h:G:=by
  have bL:=N8 (∀{G}(h:G:=by
  exact z.o),G);exact aEa):G:=h
def aiz (h:G:=by
  go_wp2_with fail;refine cm be ?_;rintro e w' ⟨rfl,rfl⟩;go_wp2_with fail;refine cm ew ?_;rintro e w1 ⟨rfl,A⟩;exact z.o):G:=h
def aCm (h:G:=by
  have⟨dR,gP⟩:=xE (σ.top:Int);have⟨fJ,hk⟩:=xE (σ.opn au (-1) (-3));rw[<-gP,<-hk] at aL bu;have lM:=hide aL;have mY:=hide bu;have mI:(σ.M.ro au).isSome=true:=Po.some (p:=⟨au,aG,true⟩) al;have ci:=hide (fun X (ak:Mx w0 mb af O aT aB aA aK X σ)=>YZ ak aH Oe au (-1) (-3) mI);rw[<-gP,<-hk] at ci;have nP:Sz (N+1) fJ:=by show Sz _ _;rw[hk];exact aH.opn _ _ _
  have I1:0<=dR/\dR<fJ.M.Ov.length:=by rw[gP,hk];exact⟨by show (0:Int)<=(σ.M.Ov.length:Int);omega,by show (σ.M.Ov.length:Int)<_;simp[St.opn,Mo.scope];omega⟩
  rw[<-bj.out];clear bb hr2 gP hk aL bu mI br al;go_enter func322,ntmps322;go_wp2_with fail;rw[<-bo.out,<-b4,<-bS];exact z.o):G:=h
def aoY (h:G:=by
  rw[aa] at bF;have ez:=hide fE;have lK:=hide dv;have dC:=cell_lt dv;exact z.o):G:=h
def awX (h:G:=by
  have mY:=(bu.later aE);have qA:=bC.cell aJ;have lX:1<w.heap.size:=cell_lt qA;have jg:=bC.cell cU;rw[cM] at jg;clear qA;have⟨b9,cz,cap0,c3,dv,fU,_⟩:=cR.Yb (i:=0) Oe;rw[E] at c3;have⟨q,ag⟩:=xE a.p;have⟨kp,c'⟩:=xE b9.p;have bF:=hide (fun X (ak:Oo w2 X)=>h1 X b9 (cU.later ak) (fU.kp (Kp.of ak)) (fe.later ak));exact z.o):G:=h
def aBr (h:G:=by
  have bN:=hide aI;clear ao aI;have⟨cS,bY,cg,dJ,dK,dL,rl⟩:=O3 dz.out;go_wp2_with fail;have⟨b3,bz⟩:=xE ((((aD.setCell (N9 aV 0) (NY 0)).setCell (N9 aV 1) (NY 0)).setCell (N9 aV 2) (Pm)).alloc (.cells #[NY v1.k,NY v1.n,Oj v1.s] 65));rw[<-bz];have hi:mb<=aV:=by have:=NZ cQ;omega
  have bh:=RF dz.out hi (NY 0) (NY 0) (Pm);have d0:=(Below.refl _ (((aD.setCell (N9 aV 0) (NY 0)).setCell (N9 aV 1) (NY 0)).setCell (N9 aV 2) (Pm))).alloc Pg (.cells #[NY v1.k,NY v1.n,Oj v1.s] 65);have bL:=N8 (∀{G}(h:G:=by
  exact z.o),G);exact aBs):G:=h
def aDw (h:G:=by
  have nG:=hide ax;clear ax;have bL:=N8 (∀{G}(h:G:=by
  rintro bi w2 ⟨rfl,rfl⟩;go_wp2_with fail;have hds:∀ i,(az:i<(s.extract k e).size)->Qe ((s.extract k e)[i].toNat:Int)=true:=fun i az=>aHf
  have da:=extract_size s k e Oe gJ;refine(aqb (s.extract k e) w2 Oe Oe hds).mono ?_;rw[nG.out];rintro d4 aq ⟨rfl,sR⟩;have nU:=mc.trans (sR.mono mc.size);clear ai aF;have⟨ai,aF⟩:=ZK nU;have mc:=nU;exact z.o),G);exact ztn):G:=h
def aEo (h:G:=by
  have bL:=N8 (∀{G}(h:G:=by
  go_wp2_with fail;have hpast:=Yi s k x Vt w1 (by unfold maxLen;omega) Oe ac
  rw[dB.out] at hpast;refine hpast.mono ?_;rintro bi w2 ⟨rfl,rfl⟩;have ph:Hid (w2.heap[6]? = some (.cells (aY.map Value.string).toArray t fr)):=by
   show _=_
   rw[hbel.block 6 QY,Below.heap_alloc w _ 6 aM];exact NZ gZ
  go_wp2_with fail;refine(acw aY (s.extract k e) w2 dP.out t fr ph.out).mono ?_;rw[ft.out];rintro d4 aq ⟨rfl,rfl⟩;go_wp2_with fail;exact z.o),G);exact ztp):G:=h
def atN (h:G:=by
  refine cm aj ?_;intro e w1 al;obtain⟨⟨v1,rfl,p1,rfl,f9⟩,ba,ay⟩:=al;exact z.o):G:=h
def ahn (h:G:=by
  go_simp;refine cm aj ?_;intro e aD al;obtain⟨⟨du,rfl,cw,rfl,jR⟩,ba,ay⟩:=al;exact z.o):G:=h
def aer (h:G:=by
  go_wp2_with fail;refine cm aj ?_;rintro e w2 ⟨rfl,rfl⟩;go_wp2_with fail;exact z.o):G:=h
def awo (h:G:=by
  refine uh 6 undef (ae) ?_ (hy:=Or.inr ⟨by kernel_rfl,rfl⟩);refine uh 7 undef (ae) ?_ (hy:=Or.inr ⟨by kernel_rfl,rfl⟩);refine uh 8 undef (ae) ?_ (hy:=Or.inr ⟨by kernel_rfl,rfl⟩);refine uh 9 undef (ae) ?_ (hy:=Or.inr ⟨by kernel_rfl,rfl⟩);refine uh 10 undef (ae) ?_ (hy:=Or.inr ⟨by kernel_rfl,rfl⟩);exact z.o):G:=h
def ax2 (h:G:=by
  go_simp;refine D.out _ _ sp (fun _=>?_);clear D K;refine XL 5 fun K D=>?_;go_simp;refine cm (eR.out _ sp) ?_;rintro e w1 ⟨rfl,A⟩;have⟨hr1,f7,aU,p1⟩:=ax3 bA A;have⟨cS,bY,cg,eo,eO,rlt⟩:=c160 p1;have bN:=hr1;have ft:=f7;have sC:=hide aU;have tT:=hide p1;clear aU p1;exact z.o):G:=h
def aEp (h:G:=by
  have Eu:(RW w).heap.size=w.heap.size+2:=by simp
  have hsz2:=aE.size;have dj:=NZ Fl;have c0:aq.heap[w.heap.size]? = some (OM #[QS] 22):=by
   rw[ay.block _ Oe Oe,aE.block _ Oe,Below.heap_alloc _ _ _ OW];exact Oi _ _
  have c1:aq.heap[w.heap.size+1]? = some (OM #[Qd] 31):=aHb
  have gH:aq.cell? (N9 w.heap.size 0)=some QS:=by rw[cell_of c0];rfl
  have Hs:=RN c0;have d8:aq.cell? (N9 (w.heap.size+1) 0)=some Qd:=by rw[cell_of c1];rfl
  have Hv:=RN c1;have lJ:Oo w aq:=aHa
  have gY:Hid (w.heap.size+2<=w2.heap.size):=by show _<=_;omega
  exact z.o):G:=h
def asK (h:G:=by
  have bL:=N8 (∀{G}(h:G:=by
  refine cm (NZ bF _ (PE.drew)) ?_;exact axZ),G);exact zts):G:=h
def az3 (h:G:=by
  rw[hh] at aj;have ic:=hide hh;clear hh;go_wp2_with fail;refine cm aj ?_;rintro e w2 ⟨rfl,rfl⟩
  go_wp2_with (at_builtin;refine wpList_append_lies _ rfl _ _ 38 rfl w1.heap.size 22 i0 QS 1 8 underlying38 dW dw b8 cn rfl Ol _ _ _ rfl (dp.alloc _) (N9 w2.heap.size 0) 1 1 [N7 q] rfl rfl (aix w2 q _ rfl) (aob q) Ol (by unfold maxLen;omega) Oe QY (w2.heap.size+1) OW ?_)
  intro g1 cap' aq hown' hgrow iD _;have dG:=(hbel.trans (((Below.refl w1.heap.size w2).alloc da (.cells #[N7 q] 22)).grown hgrow QY (fun b A=>(NZ tH b A).2)));clear iD;go_wp2_with fail;exact z.o):G:=h
def av7 (h:G:=by
  have pa:=gU 0;clear gU;refine uz 7 (Oy bc 0) ?_;refine PS 8 fun K D=>?_;go_simp;refine ko D ?_;clear D K;refine RY ?_ _;go_simp;have bL:=N8 (∀{G}(h:G:=by
  exact z.o),G);exact aBO):G:=h
def atO (h:G:=by
  rw[show (fs.alloc (.cells #[N7 bc] 22)).heap.size=aU by rw[iF];simp,<-im]
  clear im iF;exact z.o):G:=h
def aqc (h:G:=by
  obtain⟨lp,pJ,dE⟩:=ci.cell;obtain⟨cV,uc,l1⟩:=ci.shape;subst l1;exact z.o):G:=h
def aho (h:G:=by
  intro e w1 al;obtain⟨⟨v1,rfl,rfl⟩,ba,ay⟩:=al;have eq:=(eZ.next ay);exact z.o):G:=h
def awY (h:G:=by
  have AW:ob≠aV:=Oe;have d2:bc≠aV:=Oe;have cR:=hd.kp (Kp.of aE);have cU:=(aJ.later aE);have cG:=(OV.of (L:=L) aE (OO bG));have vk:=hide kw;have ei:=hide (cells4 bb);have bo:=hide cM;have bq:=hide hr2;have cQ:=hide cE;have fe:=(hl.later aE);exact z.o):G:=h
def apg (h:G:=by
  have dm:=(cG.trans hF);have f2:=(fe.keep hF);have eW:=hc.lt;have gI:=cR.kp hF.Ul;have hj:=gI.cells.1;have he:=gI.cells.2.1;exact z.o):G:=h
def aEq (h:G:=by
  have bA:=h;have dy:=((h.alloc SY).drew);have sp:=(((h.alloc SY).alloc SY).drew);have dX:Hid (∀ W:Og,PI c W i d->(Instr.lookup 229 (.map (some c.mS)) (Oj s) true).run prog W=.ok (.tuple #[.agg #[Oj x.tx,NY x.kd,NY x.parts,NY x.str],Om true]) W):=fun W a6=>by
   have:=Xv c s W a6.base.signs;rw[aO] at this;exact this
  have bL:=N8 (∀{G}(h:G:=by
  exact z.o),G);exact aD9):G:=h
def azG (h:G:=by
  refine wh 3 (Oj tx) ae ?_ (hy:=Or.inl ⟨by kernel_rfl,fun X ak=>by have hh:=OT ak e9.out;go_simp⟩)
  refine wh 4 (XP s i b) ae ?_ (hy:=Or.inl ⟨by kernel_rfl,fun X ak=>by
    have hh:=XI.later kx ak;have h0:=hh.c0;have h1:=hh.c1;have U:=hh.c2;clear hh;go_simp⟩)
  refine XL 5 fun K D=>?_;go_simp;refine cm (k'.out _) ?_;rintro e w2 ⟨rfl,aE⟩
  try rw[<-il] at aE
  have f6:Oo ek w2:=ae.trans (aE.mono Pg);refine D.out _ _ f6 (fun _=>?_);clear D K;refine wh 6 (Ve er) f6 ?_;refine wpAnyH_done Pe ?_ _;go_simp;exact z.o):G:=h
def aCZ (h:G:=by
  have ha:Hid (∀ X,Oo w2 X->Oq 58 #[N7 b1] X fun e w'=>e=OA (Om j')/\w'=X):=fun X ak=>aG9
  have eX:q<w2.heap.size:=by
   have h1:=hd.cells.1;rw[<-ag] at h1;have U:=aE.size;omega
  have dk:mb<w2.heap.size:=by have:=aE.size;omega
  have f8:bc<w2.heap.size:=lt_of_heap bb;have D':aV<w2.heap.size:=lt_of_heap hr2;have Cv:Hid (w.heap.size<=aV):=by show _<=_;omega
  clear ax n5 ag D c3 c1 d5 np E bb hr2 cM;go_enter func60,ntmps60;exact ax0):G:=h
def atQ (h:G:=by
  go_wp2_with fail;refine cm aj ?_;rintro e dF ⟨rfl,oN⟩;have j3:=(jK.later oN);have jD:=(kg.next (Ap.of oN));have ci:=(Open.later en (Ap.of oN) bW.out);clear iS uu;exact z.o):G:=h
def alS (h:G:=by
  simp only[Value.slice.injEq] at am;obtain⟨rfl,_,rfl⟩:=am;have hK:(k:Int)<(l.length:Int):=Oe;exact z.o):G:=h
def arP (h:G:=by
  unfold Ve;have hq:=(NZ nA dO cq);have gt:=n7.at.c2;have px:=RN n7 2;have tZ:=lt_of_heap n7;go_wp2_with fail;refine cm hq ?_;rintro e jl ⟨rfl,rfl⟩;exact z.o):G:=h
def aC1 (h:G:=by
  refine up 3 mb 0 ae ?_;refine up 4 mb 0 ae ?_;refine up 5 mb 12 ae ?_;refine uk 6 r3.out ae ?_;refine uh 7 (Oj x) (ae) ?_;refine PS 8 fun K D=>?_;go_simp;refine cm (NZ B7 _ ae) ?_;rintro e bD ⟨rfl,dc⟩;refine ko D ?_;clear D K;have wb:Oo wr bD:=ae.trans (dc.mono ae.size);have f3:=(eS.later wb);have fD:=(kK.trans (Q9.of wb (OO h4)));have gE:=hide (stays wb bV.out);have rd:=(OI kz wb);have kL:Kp w2 bD:=fun b c e A ao=>Kp.of wb b c e (jp b c e A ao) ao;have gz:=f3.lt;exact z.o):G:=h
def arO (h:G:=by
  obtain⟨g,cap,q,am,hg,bX,ax⟩:=(uB.later A).cell k aM;simp only[Value.slice.injEq] at am;obtain⟨rfl,_,rfl⟩:=am;have hK:(k:Int)<(t.kids.length:Int):=Oe;exact z.o):G:=h
def asy (h:G:=by
  have dj:=a7.fr.keep bq.out Ol;have ed:=hide dj;have⟨cS,bY,cg,dJ,dK,dL,rl⟩:=O3 (dj);exact z.o):G:=h
def aEr (h:G:=by
  go_simp;have sp:=((eQ.alloc SY).drew);refine D.out _ _ sp (fun _=>?_);clear D K;refine XL 5 fun K D=>?_;go_simp;refine cm (RV c _ i d sp) ?_;rintro e w1 ⟨rfl,A⟩;have bN:=(sp.later A);have eE:=(r2.trans ((((Below.refl fA.heap.size fA).alloc Pg SY).drew.trans (A.mono OW)).mono r2.size));have p1:w1.heap[fA.heap.size]? = some SY:=(A.block _ OW).trans (Oi fA SY);have⟨cS,bY,cg,eo,eO,rlt⟩:=c160 p1;have tT:=hide p1;clear p1;refine D.out _ _ bN (fun _=>?_);clear D K;exact z.o):G:=h
def aBI (h:G:=by
  have bL:=N8 (∀{G}(h:G:=by
  have aI:rs=F.s (Oa d 1) ⟨au,aG,st⟩ l σ1:=by rw[bA.out];unfold chQ;rw[bV.out];simp[md.out]
  have cD:=hide aI;rw[<-aI] at fa;clear cS bY cg eo dJ dK dL jj rl fB cy dO ip iq ir ia fW pO cL aI jL;go_wp2_with fail;refine S9 8 fun ae=>?_;exact z.o),G);exact ztv):G:=h
def aAZ (h:G:=by
  have bG:=aJ.lt;have⟨w2,bo⟩:=xH (w.alloc (.cells #[NY v.k,NY v.n,Oj v.s] 65));have⟨vb,vz⟩:=xH w.heap.size;have aE:Oo w w2:=by rw[bo.out];exact PE
  have eY:w2.heap[vb]? = some (Y0 v):=by rw[bo.out,vz.out];exact Oi _ _
  have cU:=(aJ.later aE);have dk:=cU.lt;have cG:=(OV.of (L:=none) aE (OO bG));obtain⟨aT,aB,aA,aK,ac⟩:=aJ;have eC:=ac.later aE;have⟨o,oW⟩:=xE (σ.M.QX s);have m3:=(akn eC.hh s);have⟨C2,_⟩:=eC.hh.at_ 9 _ rfl;exact z.o):G:=h
def ao3 (h:G:=by
  refine uk 4 ez.out ae ?_;refine up 5 cz 0 ae ?_;refine uk 6 lK.out ae ?_;exact z.o):G:=h
def azN (h:G:=by
  have nC:Hid (∀ (k:Nat) (E:k<t.kids.length) (q:Nat) (W:Og),Ug W t.kids[k] q->Oq 48 #[N7 q,XP true true true] W fun e w'=>e=OA (Ve (chk t.kids[k] true true true))/\Oo W w'):=fun k E q W ag=>by
   have h1:=Ux t.kids k E;exact bv t.kids[k] Oe (oR _ (List.getElem_mem _)) Oe q true true true W ag
  have⟨er,nX⟩:=xE (wrT t true true b);have⟨vJ,fG⟩:=xE (SN t.kids true true true);rw[<-nX,<-fG] at mA;simp only[<-nX] at mn;rw[mA];have tw:=hide fG;exact z.o):G:=h
def aiR (h:G:=by
  have bF:=hide (fun X (ak:Oo w2 X)=>h1 X b9 aC (cU.later ak) (fU.kp (Kp.of ak)));exact z.o):G:=h
def aqd (h:G:=by
  refine XL 10 fun K D=>?_;go_simp;refine D.out _ _ (bN.alloc SY) (fun _=>?_);clear D K;refine XL 11 fun K D=>?_;go_simp;exact z.o):G:=h
def atS (h:G:=by
  obtain⟨gu,gv,hD⟩:=(Open.later ci dr bW.out).cell;have pB:aU<aD.heap.size+1:=Oe;have pC:aU<aD.heap.size+1+1:=Oe;refine D _ _ ?_;clear D K;exact z.o):G:=h
def asx (h:G:=by
  go_wp2_with fail;have⟨b3,bz,bh,bI,bE,cK,b1,bU⟩:=rt3 nN.out cQ.out bG oq ox (NY 0) (NY 0) (Pm);rw[<-bz];refine Y2 (v:=.tuple #[vA vU,ev]) ?_;exact z.o):G:=h
def ata (h:G:=by
  have⟨q,bj⟩:=xH a.p;have el:=(ac.later aE);have k7:=(hd.kp (Kp.of aE));have b7:=hide bb;have bq:=hide hr2;have cG:=(OV.of (L:=none) aE (OO bG));exact z.o):G:=h
def awj (h:G:=by
  refine PS 7 fun K D=>?_;go_simp;refine cm ss ?_;rintro e bD ⟨rfl,dc⟩;refine ko D ?_;clear D K;have jq:=(eu.later dc);have fD:=(cT.trans (OV.of (L:=none) dc (OO fQ)));have gz:=jq.lt;refine RY ?_ _;go_simp;go_wp2_with fail;exact z.o):G:=h
def aqe (h:G:=by
  go_wp2_with fail;refine cm aj ?_;rintro e aq ⟨rfl,bn⟩;have jn:=(gx.next (Ap.of bn));have dg:=(bq.later bn);exact z.o):G:=h
def aC0 (h:G:=by
  have⟨i0,dW,dw,b8,cn⟩:=info_parts ato;have⟨bP,g,cap,c3,c1,um,_⟩:=hd.Yb (i:=1) Oe;rw[E] at c3;have⟨n,ax⟩:=xE σ.Qg.length;have⟨ol,n5⟩:=xE ((σ.M.objs.length:Int):Int);have⟨q,ag⟩:=xE a.p;have⟨b1,np⟩:=xE bP.p;have bG:=ac.lt;rw[<-n5,<-ag];rw[<-ax] at hl;rw[<-ag] at c3;rw[<-np] at c1;have dT:=ac;have d7:=hd;have dP:=hide ax;have tH:=hide n5;have bj:=hide ag;have zv:=ab;have p':=hide D;exact z.o):G:=h
def ax4 (h:G:=by
  have bA:=h;have yJ:=(Below.refl w.heap.size w);have dn:((OX c.l i).kd==1)=false:=beq_eq_false_iff_ne.2 h1;have em:((OX c.l i).kd==3)=false:=beq_eq_false_iff_ne.2 av;have oF:((OX c.l i).kd==4)=false:=beq_eq_false_iff_ne.2 aN;exact z.o):G:=h
def aAs (h:G:=by
  obtain⟨cI,iT,eK⟩:=List.findIdx?_eq_some_iff_getElem.1 E;have⟨N,dP⟩:=xH bs.length;have fc:(bs.eraseIdx k).length=N - 1:=by rw[List.length_eraseIdx,if_pos cI,dP.out]
  rw[fc];have⟨m6,ju⟩:=PW hrow (k:=g) rfl;have JG:bB≠g:=QA aH ju Ol;have qJ:=lt_of_block aH;have pq:=hide aQ;have dY:=hide aH;rw[<-dP.out] at aj hrow cI;rw[<-dP.out] at aR;have Ds:bs.length=N:=dP.out.symm;clear E iT eK aH nu ju aQ fc;rw[Ds];clear Ds;exact z.o):G:=h
def aw8 (h:G:=by
  go_wp2_with fail;refine cm pi ?_;rintro e bD ⟨rfl,dc⟩;have iN:=(oO.trans (dc.mono Jk));have yK:=(Aq.trans (dc.mono Aq.size));have kN:=hide (stays yK fk.out);have gz:mb<bD.heap.size:=by have:=iN.size;omega
  exact z.o):G:=h
def ao9 (h:G:=by
  go_simp;refine cm (NZ fa _ ae) ?_;rintro e aD ⟨⟨ev,rfl,aL⟩,aJ,ah,g3⟩;refine ko D ?_;clear D K;exact z.o):G:=h
def amK (h:G:=by
  refine wt 5 (O1 c) ?_;refine wt 6 (O1 c) ?_;refine wt 7 (.func (.func 224) #[O1 c] #[]) ?_;exact z.o):G:=h
def amM (h:G:=by
  intro e aD al;obtain⟨⟨du,rfl,jR⟩,ba,ay⟩:=al;obtain⟨cw,rfl,hx⟩:=jR.nv;exact z.o):G:=h
def aEs (h:G:=by
  refine wh 2 (N7 aU) eF.out ?_;refine wh 3 (O1 c) eF.out ?_;refine wh 4 (Oy aY.heap.size 3) eF.out ?_;refine wg 5 (NY x.str) rfl (Or.inl ⟨by kernel_rfl,fun W a6=>by have⟨_,_,_,j9,_,_⟩:=c160 a6;go_simp⟩) eF.out ?_
  refine wg 6 (NY (x.str+1)) rfl (Or.inl ⟨by kernel_rfl,fun W _=>by have hw:IntKind.i64.wrap (x.str+1)=x.str+1:=(by rw[IntKind.wrap_i64];omega);go_simp;try exact hw⟩) eF.out ?_
  refine XL 7 fun K D=>?_;go_simp;exact z.o):G:=h
def aAH (h:G:=by
  have oQ:(M.Ov.map Ro.h)[i]? = some x.h:=by simp[az]
  have hrow:w.ownsRow H 262 6 _ x.cs.length (x.cs.flatMap Ce.h):=h.ro.own i x.h _ oQ am;have⟨g1,cap',hL,_⟩:=atC hrow A;simp only[Value.slice.injEq,Option.some.injEq,Addr.mk.injEq,and_true] at hL;obtain⟨rfl,rfl,rfl⟩:=hL;have⟨bY,b1⟩:=hrow.stored (k * 6+1) (NY n.k);have⟨cg,bU⟩:=bY.stored (k * 6+2) (NY n.n);have⟨eo,ej⟩:=cg.stored (k * 6+3) (Oj n.s);exact z.o):G:=h
def atT (h:G:=by
  refine wh 7 (.tuple #[.agg #[Pm,NY 0,NY 0,NY 0],Om false]) bN ?_;refine wh 8 (.agg #[Pm,NY 0,NY 0,NY 0]) bN ?_;refine wh 9 (Om false) bN ?_;exact z.o):G:=h
def aoZ (h:G:=by
  rw[<-bA.out,<-bj.out];rw[<-bj.out] at fE ds;rw[<-c'] at dv bF;exact z.o):G:=h
def aov (h:G:=by
  have⟨dl,bT,cY,fp,nl⟩:=YA (A.mono OW);have bO:=(((Below.refl _ w).alloc Pg _).trans (A.mono OW));exact z.o):G:=h
def asR (h:G:=by
  go_wp2_with fail;have⟨b3,bz,bh,bI,bE,cK,b1,bU,ej⟩:=rt4 hs.out cQ.out bG i' pk (Om true) (NY eD) (NY dN) (Oj eP);rw[<-bz];exact z.o):G:=h
def aAR (h:G:=by
  refine S9 6 fun ae=>?_;refine up 0 mb 0 ae ?_;refine up 1 bc 0 ae ?_;refine uk 2 (ei.out.1) ae ?_;refine up 3 mb 0 ae ?_;refine up 4 q 0 ae ?_;refine PS 5 fun K D=>?_;go_simp;refine cm (NZ lc _ ae) ?_;rintro e k5 ⟨rfl,iX⟩;rw[iX];clear iX k5;refine D.out _ _ (fun _=>ae) ?_;clear D K;refine PS 6 fun K D=>?_;go_simp;refine cm (NZ ci _ ae) ?_;rintro e aq ⟨rfl,w3,fI,c7⟩;refine ko D ?_;clear D K;exact z.o):G:=h
def aDt (h:G:=by
  go_wp2_with fail;have⟨b3,bz⟩:=xE (((fs.setCell (N9 w.heap.size 0) (NY b5.k)).setCell (N9 w.heap.size 1) (NY b5.n)).setCell (N9 w.heap.size 2) (Oj b5.s));rw[<-bz];have ea:=aag dS.out (NY b5.k) (NY b5.n) (Oj b5.s);have d0:=below3 hQ Pg (NY b5.k) (NY b5.n) (Oj b5.s);have bh:=RF (mb:=w.heap.size) dS.out Pg (NY b5.k) (NY b5.n) (Oj b5.s);rw[<-bz] at ea d0 bh;have⟨cK,b1,bU,_,_⟩:=cells3 ea;exact z.o):G:=h
def ax5 (h:G:=by
  refine wh 0 (O1 c) dy ?_;refine wh 1 (O1 c) dy ?_;refine wh 2 (Oy c.R 3) dy ?_;refine wg 3 (.map (some c.mS)) rfl (Or.inl ⟨by kernel_rfl,fun W a6=>by have hh:=PI.c3 a6;go_simp⟩) dy ?_
  refine wh 4 (O1 c) dy ?_;exact z.o):G:=h
def az2 (h:G:=by
  go_wp2_with (at_builtin;refine wpList_append_lies _ rfl _ _ 26 rfl w.heap.size 9 i0 (Oj ByteArray.empty) 1 16 underlying26 dW dw b8 cn rfl Ol _ _ _ rfl (nK.alloc _) (N9 wr.heap.size 0) 1 1 [Oj x] rfl rfl (X5 wr x _ rfl) (abA x) Ol (by unfold maxLen;omega) Oe QY (wr.heap.size+1) OW ?_)
  intro g1 cap' aq hown' hgrow iD _;have dG:=((hbel.alloc da (.cells #[Oj x] 9)).grown hgrow QY (fun b A=>(P6 nK b A).2));exact z.o):G:=h
def anL (h:G:=by
  rw[iI,kt,kV] at mA;have fd:∀ W,Oo w W->Ug W t p:=fun W a6=>h.later a6;have sf:=hide fd;exact z.o):G:=h
def azK (h:G:=by
  have dc:Oo w i8:=aDB
  have rD:Ug i8 t p:=NZ sf i8 dc;obtain⟨A2,_,_,uO,xP,uB⟩:=rD.cells;obtain⟨cV,uc,rfl⟩:=uB.form;have C6:(jl.setCell (N9 w.heap.size 2) (Om false)).cell? (N9 p 3)=some (.slice cV t.kids.length uc):=by rw[<-gR];exact xP
  exact aEg):G:=h
def ajw (h:G:=by
  subst E;refine(if_neg (show ¬ 20000<σ.steps+1 by omega)).trans ?_;exact z.o):G:=h
def axa (h:G:=by
  have cQ:=hide cE;have dk:=el.lt;have ha:=hide (fun X (ak:Ug X d.2 a.p)=>Td d.2 a.p X ak);rw[dZ,<-bj.out] at ha;have eG:Ug w2 d.2 q:=by rw[bj.out,<-k7.tr];exact k7.at_.nat.nt
  exact z.o):G:=h
def axb (h:G:=by
  have bb:w2.heap[bc]? = some (OM #[NY au,NY aG,Om false,.pointer aC] 73):=by rw[bo.out,bS];exact alloc_old (Oi _ _)
  have hr2:w2.heap[aV]? = some (OM #[NY 0,NY 0,Pm] 65):=aG4
  exact z.o):G:=h
def aAo (h:G:=by
  obtain⟨b,lm⟩:∃ b,bs[m+1]? = some b:=⟨_,List.getElem?_eq_getElem (by rw[<-dP.out];exact aM)⟩
  have hkl':k<bs.length:=by rw[<-dP.out];exact cI
  have hml':m<bs.length:=by rw[<-dP.out];omega
  have ij:(Lm bs k m).length=N:=by rw[aoe hkl' hml',dP.out]
  have Ar:(Lm bs k m)[m+1]? = some b:=by rw[aAf hkl' hml' Oe];exact lm
  have hown2:=hown;rw[<-ij] at hown2;exact z.o):G:=h
def amN (h:G:=by
  have iw:=hide h.base.size;have⟨i0,dW,dw,b8,cn⟩:=info_parts info22;exact z.o):G:=h
def aAK (h:G:=by
  have fl:=h.later e0;have⟨g,cap,v,bi,aM,am,dE,hrow,hg,a1,lq,_⟩:=fl.ob.at_ (i:=i) (e:=x.h) (by simp[az]);have aj:=(abH g cap _ i aM (w.alloc (vO n)));rw[<-bi] at aj;have hrow':(w.alloc (vO n)).ownsRow H 207 5 v x.ps.length (x.ps.flatMap Pr.h):=hrow;have d7:=(aev g (i * 2) v x.ps H nm (w.alloc (vO n)) (dE 1 v rfl) hrow' (by have:=ab.ps x (List.mem_of_getElem? az);omega))
  exact z.o):G:=h
def avY (h:G:=by
  have bF:=hide am;have gC:=hide az;have jY:=hide bi;have kh:=hide (dE 2 v rfl);have HLEN:=hide mJ;have sb:=hide hg;have dm:=hide lq;have⟨lA,dW,dw,b8,cn⟩:=info_parts aa7;exact z.o):G:=h
def ax6 (h:G:=by
  go_enter func348,ntmps348;have aj:=(Rt c w i d bA);unfold tkV at aj;have fO:=abe (OX c.l i);go_wp2_with fail;refine cm aj ?_;rintro e wt ⟨rfl,e1⟩;have ra:=(bA.later e1);exact z.o):G:=h
def asJ (h:G:=by
  have⟨z0,oc,z2,od,og,oh,zl⟩:=O3 fi;refine uz 9 (.tuple #[(vA v1),ev]) ?_;refine uz 10 (vA v1) ?_;refine uz 11 ev ?_;exact z.o):G:=h
def arR (h:G:=by
  go_wp2_with fail;refine cm (NZ nA _ ((Below.refl w.heap.size w).alloc Pg _)) ?_;rintro e cy ⟨rfl,rfl⟩;go_wp2_with fail;exact z.o):G:=h
def avU (h:G:=by
  have⟨oo,oW⟩:=xE (M.QX s);have dp:Hid (∀ w1,Oo w w1->Oq 125 #[Oy H 0,NY s] w1 fun e w'=>e=OA (NY oo)/\w'=w1):=fun w1 A=>by rw[oW];exact aac (h.later A) s
  exact z.o):G:=h
def ax7 (h:G:=by
  have fh:Oo ce ch:=by rw[gn];exact PE
  have DQ:=fm.trans (fh.mono fm.size);have ny:=(iN.trans (DQ.mono iN.size));have ig:=(NZ bq ch (BR.out.trans (DQ.mono BR.out.size)));exact z.o):G:=h
def aBv (h:G:=by
  have⟨b9,bP,cz,cap0,c3,dv,fW,fU,jf⟩:=hd.adL E;have iS:=fU.kp (Kp.of aE);have iT:=jf.kp (Kp.of aE);have⟨q,ag⟩:=xE a.p;have⟨kp,q4⟩:=xH b9.p;have⟨wW,qa⟩:=xH bP.p;have ns:=hd.cells.1;have sZ:=fU.cells.1;have mD:=fU.cells.2.1;have dC:=cell_lt dv;have hblk:=cR.akq (OT aE c3);have nq:=cR.blk;have rv:=iS.blk;exact z.o):G:=h
def azT (h:G:=by
  have rD:Ug i8 t p:=NZ sf i8 dc;obtain⟨A2,_,_,uO,xP,uB⟩:=rD.cells;obtain⟨cV,uc,rfl⟩:=uB.form;have C6:(jl.setCell (N9 w.heap.size 2) (Om true)).cell? (N9 p 3)=some (.slice cV t.kids.length uc):=by rw[<-gR];exact xP
  exact aEg):G:=h
def atn (h:G:=by
  have h1:=heap_setCell_same w b 0 _ t x' h;have U:=heap_setCell_same _ b 1 _ t jC h1;have av:=heap_setCell_same _ b 2 _ t jm U;exact z.o):G:=h
def aCr (h:G:=by
  go_simp;refine cm (NZ fa _ (pG) yd (ue)) ?_;rintro e aD ⟨⟨ev,rfl,aL⟩,g4,gw,g3⟩;refine ko D ?_;clear D K;refine uz 10 (.tuple #[(UD bH),ev]) ?_;refine uz 11 (UD bH) ?_;refine uz 12 ev ?_;refine PS 13 fun K D=>?_;go_simp;refine ko D ?_;clear D K;exact aEh):G:=h
def apj (h:G:=by
  refine PS 11 fun K D=>?_;go_simp;refine ko D ?_;clear D K;refine uz 12 ev ?_;refine RY ?_ _;exact z.o):G:=h
def atU (h:G:=by
  rw[tM.out] at aj;simp only[atJ,sgV,Option.isSome] at aj;go_wp2_with fail;refine cm aj ?_;rintro e aY ⟨rfl,nW⟩;exact z.o):G:=h
def ax8 (h:G:=by
  go_wp2_with fail;refine cm aj ?_;rintro e dF ⟨rfl,oN⟩;have j3:=(GK.later oN);have jD:=(gx.next (Ap.of oN));replace eG:=hide (RX (c:=c) eG (Ap.of oN) bW.out);exact z.o):G:=h
def ax9 (h:G:=by
  go_simp;refine cm (PG 13 s (.slice (some (N9 aD.heap.size 0)) 1 1) (aD.alloc (.cells #[N7 cw] 22)) ⟨_,_,_,rfl⟩) ?_;rintro e BJ ⟨rfl,rfl⟩;refine D _ _ ?_;clear D K;exact z.o):G:=h
def as5 (h:G:=by
  have h1:=XR d.2;have U:Tr.counts d.2.kids<d.2.count:=by cases d.2;rw[Tr.count];exact Nat.lt_add_of_pos_left Oe
  exact z.o):G:=h
def aEt (h:G:=by
  refine wt 12 (N7 h') ?_;refine wt 13 (Oy h' 3) ?_;refine QF 14 fun K D=>?_;go_simp;refine D _ _ ?_;clear D K;refine wpAny_done Pe ?_ _;go_simp;have⟨cO,cP,db⟩:=NZ gD;obtain⟨th,rE,ws⟩:=cO.nv;have gO:th=h':=by simpa[N7] using rE.symm
  subst gO;have jT:=NZ pp;have jH:=ws;have cU:=cP;have iO:=db;clear rE;go_wp2_with fail;exact z.o):G:=h
def arN (h:G:=by
  have h0:=s1.at.c0;have h1:=s1.at.c1;have U:=s1.at.c2;have yp:=lt_of_heap s1;have aj:=(NZ nC k aM q wr ax);exact z.o):G:=h
def awq (h:G:=by
  have d1:Oo aD wd:=by rw[e7];exact PE
  have mg:=(g4.later d1);have hU:=hide (stays d1 dz.out);have vd:=(fj.trans (OV.of (L:=none) d1 (OO hx)));have uv:=mg.lt;exact z.o):G:=h
def atE (h:G:=by
  go_wp2_with fail;refine cm aj ?_;rintro e w2 ⟨rfl,aE⟩;have cq:=(A.trans (aE.mono A.size));go_wp2_with fail;exact z.o):G:=h
def aC5 (h:G:=by
  go_wp2_with fail;refine cm fj ?_;rintro e d6 ⟨⟨Kx,rfl,A6⟩,hH⟩;obtain⟨d9,m7,Jo⟩:=A6.form;subst Jo;have rf:=(lQ.later hH);have p7:=(i'.trans (Q9.of hH (OO nk)));have vn:=hide (stays hH iP.out);have nL:=hide (stays hH hs.out);have Gc:=(Uc.kp (fun b c e A ao=>Kp.of hH b c e (k8 b c e A ao) ao) _ _ fw);exact z.o):G:=h
def as1 (h:G:=by
  rw[e5] at he;have⟨aU,p1,cp,cJ,_,d3⟩:=cells4 e'.out;clear e5;go_wp2_with fail;refine cm bF ?_;exact z.o):G:=h
def aEu (h:G:=by
  clear aa;go_wp2_with fail;refine wp_region_any Pe ?_;change wpAny _ _ _ _ _ _ _ (World.drew _);refine wt 0 (N7 h') ?_;refine wt 1 (N7 h') ?_;refine wt 2 (N7 h') ?_;refine wt 3 (Oy h' 3) ?_;refine wt 5 (O1 c) ?_;refine wt 6 (O1 c) ?_;refine wt 7 (.func (.func 348) #[O1 c] #[]) ?_;refine wt 8 (O1 c) ?_;refine wt 9 (.func (.func 349) #[O1 c] #[]) ?_;exact z.o):G:=h
def awT (h:G:=by
  have cD:=hide aI;clear aI;go_wp2_with fail;have⟨b3,bz,bh,bI,bE,cK,b1,bU,ej⟩:=rt4 hs.out cQ.out bG i' pk (Om fZ) (NY ok) (NY on) (Oj fY);rw[<-bz];exact z.o):G:=h
def aAl (h:G:=by
  have dl:aq.cell? (N9 wr.heap.size 0)=some (Oj b.name):=by simp[World.cell?,hblk]
  have bT:aq.cell? (N9 wr.heap.size 1)=some (NY b.v.k):=by simp[World.cell?,hblk]
  have cY:aq.cell? (N9 wr.heap.size 2)=some (NY b.v.n):=by simp[World.cell?,hblk]
  have hA:aq.cell? (N9 wr.heap.size 3)=some (Oj b.v.s):=by simp[World.cell?,hblk]
  exact z.o):G:=h
def aEv (h:G:=by
  go_simp;refine cm aj ?_;intro e aD al;obtain⟨⟨du,rfl,qC⟩,ba,ay⟩:=al;have e3:=(kg.drew.next ay);have fR:=ba;have hlt2:=ba.lt;have eA:=(Open.later en (((Ap.refl c.R e8.heap.size e8).drew).next ay) bW.out);have kM:=(((Ap.refl c.R e8.heap.size e8).drew).next ay);have zc:=qC;obtain⟨gu,gv,hD⟩:=eA.cell;exact z.o):G:=h
def avC (h:G:=by
  clear aZ h3 ai h gP n3 oR iI kt fd nX fG mA;go_enter func48,ntmps48;go_wp2_with fail;refine cm (NZ ha _ ((Below.refl w.heap.size w).alloc Pg _)) ?_;exact z.o):G:=h
def azP (h:G:=by
  rw[<-nX,<-fG] at mA;simp only[<-nX] at mn;rw[mA];have tw:=hide fG;have jo:=((Below.refl w.heap.size w).alloc Pg (.cells #[Om false,Om i,Om b] 112));exact z.o):G:=h
def aCt (h:G:=by
  refine D.out _ _ (fun _=>sO) ?_;clear D K;have ud:OV (some lb) mb ch d6:=(OV.of ae (OO rA)).trans fO;have pG:Ms w0 mb af O d6 tm:=⟨_,_,_,_,rI⟩;have yd:Kp ch d6:=fun b c e A ao=>ng.kp g7 b c e (Kp.of ae b c e A ao) ao;have ue:OE d6 (some lb) (some vU):=nf.keep (stays ae xx) Ol;have AP:=rI.lt;exact z.o):G:=h
def asb (h:G:=by
  rintro e w1 ⟨rfl,hw⟩;rw[hw];clear hw;go_wp2_with fail;have⟨lA,dW,dw,b8,cn⟩:=info_parts ar9;exact z.o):G:=h
def aw7 (h:G:=by
  go_enter func354,ntmps354;go_wp2_with fail;refine cm dp ?_;rintro e w1 ⟨rfl,rfl⟩;go_wp2_with fail;refine cm ic ?_;rintro e w2 ⟨rfl,A⟩;have bO:=A;exact z.o):G:=h
def aAe (h:G:=by
  clear fF gP h5;have⟨zG,x2⟩:=xE (V++F);have⟨zH,x3⟩:=xE (zG++G);rw[<-x2,<-x3];have Bm:zG.length<=40000:=by rw[x2,List.length_append];omega
  have MY:zH.length<=60000:=by rw[x3,List.length_append];omega
  have vy:=hide x2;have GV:=hide x3;clear x2 x3;go_enter func78,ntmps78;exact z.o):G:=h
def aqf (h:G:=by
  obtain⟨lp,pJ,dE⟩:=en.cell;obtain⟨cV,uc,l1⟩:=en.shape;subst l1;exact z.o):G:=h
def aya (h:G:=by
  go_simp;refine cm (eR.out _ dy) ?_;rintro e w1 ⟨rfl,A⟩;have⟨hr1,f7,aU⟩:=ayb bA A;have bN:=hr1;have ft:=f7;have sC:=hide aU;clear aU;exact z.o):G:=h
def aAr (h:G:=by
  go_wp2_with fail;refine cm aj ?_;rintro e w1 ⟨rfl,A⟩;have q8:=(OI hrow A);have ib:w.grownBy w1 (some g):=⟨A.os,A.tape,A.output,A.size,fun j aS _=>A.block j aS⟩;have hcap:N<=cap:=aG8
  have Mq:((k:Int) == -1)=false:=by rw[beq_eq_false_iff_ne];omega
  go_wp2_with fail;exact z.o):G:=h
def aok (h:G:=by
  obtain⟨h0,h1,aF,hf,Ac⟩:=h.c;have HLEN:=hide ab.r;have q5:=hide Ac;exact z.o):G:=h
def aoD (h:G:=by
  go_wp2_with fail;refine cm aj ?_;rintro e w' ⟨rfl,rfl⟩;go_wp2_with fail;exact z.o):G:=h
def aBm (h:G:=by
  rw[bm] at mD kR;have⟨tx,cB⟩:=xE ((Oa d 0).2.tx);rw[<-cB] at fS;have hr:Hid (∀ X,Oo w2 X->Oq 195 #[N7 mb,NY au,Oj tx] X fun e w'=>e=OA (NY (σ.M.find au tx))/\Oo X w'):=fun X ak=>by
   have⟨_,_,_,_,ac⟩:=cU.later ak;exact aex ac.hh aH.go.ok aH.go.sm (OO hN) au tx
  exact z.o):G:=h
def aCS (h:G:=by
  have aI:VY F d p o e l σ=match F.s (Oa d 0) p l σ with
   | ((bH,.no,bQ),σ1)=>if bH.ret then ((bH,.no,bQ),σ1) else ((o,e,bQ),σ1)
   | r=>r:=by
   unfold VY
   cases e with
   | stop=>exact absurd rfl ao
   | _=>rfl
  rw[aI]
  rcases aa:F.s (Oa d 0) p l σ with ⟨⟨bH,aw,bQ⟩,σ1⟩
  rw[aa] at hw;exact z.o):G:=h
def aCM (h:G:=by
  rw[<-eB];have zE:=hide a6;rw[<-eB] at zE;have ib:=hide bK;have ot:=hide sH;have nB:=hide dV;have IQ:=yi;clear cM hr2 bZ bS bn b4 bK sH dV ag rH bX br a6 eB dE al yi IQ E;go_enter func300,ntmps300;go_wp2_with fail;rw[<-bo.out,<-dS.out,<-dG.out,<-Fc.out,<-eE.out];exact z.o):G:=h
def atV (h:G:=by
  have⟨_,cH,bJ,gj⟩:=am v σ1 aa;rw[show F.v (Oa d 0) (p.lo b) (σ.fu gs).step=_ from bJ];exact z.o):G:=h
def aCR (h:G:=by
  have ag:=h.q OW;have h1:=ag.iv.opn p.scope (-1) (own d);have U:=h1.iv.dec (h.er.2.up h1.ex.ob) σ.top d.2.tx 0;have f4:=h1.trans U;have ky:Po { p with scope:=σ.top } ((σ.opn p.scope (-1) (own d)).dec σ.top d.2.tx 0 v):=by
   refine Po.up (σ:=σ.opn p.scope (-1) (own d)) ?_ U.ex;exact aDQ
  exact z.o):G:=h
def aB4 (h:G:=by
  have⟨w2,bo⟩:=xH (w.alloc (.cells #[NY 0,NY 0,Pm] 65));have aE:Oo w w2:=by rw[bo.out];exact PE
  have⟨aV,b4⟩:=xE w.heap.size;have hr2:w2.heap[aV]? = some (OM #[NY 0,NY 0,Pm] 65):=by rw[bo.out,b4];exact Oi _ _
  have cE:w.heap.size<=aV:=Oe;exact z.o):G:=h
def aEw (h:G:=by
  have jx:=Yc;have dP:=hide dP;have HP:=hide HP
  go_enter_defers func34,ntmps34
  go_wp2_with fail;refine cm dP.out ?_;rintro e w2 ⟨c,rfl,dE,DS,ba,aE⟩;have aj:=(HP.out c w2 dE ba);have Fl:=hide DS;clear dE DS;go_wp2_with fail;refine cm aj ?_;intro e aq al;exact z.o):G:=h
def aC8 (h:G:=by
  refine uh 3 (NY au) (ae) ?_;refine uh 4 (Oj nm) (ae) ?_;refine uk3 5 bF.out ae ?_;refine PS 6 fun K D=>?_;go_simp;refine cm (NZ d7 _ ae) ?_;rintro e aq ⟨rfl,kW,c7⟩;refine ko D ?_;clear D K;have cT:=((O8.of aE (OO bG)).trans ((O8.of ae (OO dk)).trans c7));exact z.o):G:=h
def axc (h:G:=by
  have bG:=ac.lt;have⟨w2,bo⟩:=xH ((w.alloc (.cells #[NY au,NY aG,Om false,.pointer aC] 73)).alloc (.cells #[NY 0,NY 0,Pm] 65));exact z.o):G:=h
def aCz (h:G:=by
  rintro wt ob ev d5;have sr:=hide (d5.fr.rest aV _ _ ig.out Ol (fun e=>IR (by cases e;rfl)))
  have r':OV none mb w wt:=OV.down (lN.up.trans d5.fr) IN;have Ck:=d5.ms;have xo:=d5.er;have Cg:=d5.la;have⟨cS,bY,cg,dJ,dK,dL,rl⟩:=O3 sr.out;clear c8;exact z.o):G:=h
def aC3 (h:G:=by
  simp only[Value.slice.injEq] at am;obtain⟨rfl,_,rfl⟩:=am;have bm:k<aW.length:=Oe;have oP:=(Uc.get _ _ Gc k aM bm).kp jp;obtain⟨ds,_,c1,_⟩:=oP.cells;have hK:(k:Int)<(cZ.length:Int):=Oe;have⟨x,ac⟩:=xE ((aW[k]).2.tx);rw[<-ac] at c1;exact z.o):G:=h
def aEx (h:G:=by
  replace nI:=(PO.later (fun b A _=>ay.block b A.2 (by have h1:=NZ bW;have U:=A.1;omega)) _ _ nI)
  have aj:=(X7 aq.heap.size tb vb fs ax dT);go_wp2_with fail;refine cm aj ?_;rintro e aD ⟨rfl,bu,f7⟩;have e3:=(rY.trans ((Ap.of f7).mono jn.size));exact z.o):G:=h
def aBo (h:G:=by
  rcases aa:F.v (Oa d 0) ⟨au,aG,st⟩ σ with ⟨⟨v1,aw⟩,σ1⟩
  have bF:=hide (fun X (aJ:Ms w0 mb af O X σ) (ak:OV none mb w2 X)=>h1 X b9 aC aJ (na.kp ak.Ul));rw[aa] at bF;rw[<-c'] at bF;have⟨rs,bA⟩:=xH (agI ((v1,aw),σ1));rw[<-bA.out];clear aa;exact z.o):G:=h
def as6 (h:G:=by
  have cL:k=l.length:=Oe;subst cL;have hK:¬ (l.length:Int)<(l.length:Int):=Oe;exact z.o):G:=h
def ar4 (h:G:=by
  go_enter func36,ntmps36;go_wp2_with fail;refine cm aj ?_;rintro e w1 ⟨rfl,jg,ha1⟩;exact z.o):G:=h
def aCH (h:G:=by
  have⟨i0,dW,dw,b8,cn⟩:=info_parts info3;have⟨vH,vQ⟩:=ac.hh.at_ 6 _ rfl;have bG:=ac.lt;have⟨aC,iJ,qE⟩:=OG ac.ow;have lc:=ac.ow;have CC:=hide iW;have⟨n,dP⟩:=xH σ.Qw.length;rw[<-dP.out] at lc hl qE;clear iW;subst qE;exact z.o):G:=h
def atW (h:G:=by
  go_simp;refine D _ _ ?_;clear D K;refine QF 6 fun K D=>?_;go_simp;refine cm jE ?_;exact z.o):G:=h
def ayc (h:G:=by
  go_simp;refine cm (PG 14 Oh (.slice (some (N9 aD.heap.size 0)) 1 1) (aD.alloc (.cells #[N7 cw] 22)) ⟨_,_,_,rfl⟩) ?_;exact z.o):G:=h
def asB (h:G:=by
  refine up 4 q 0 ae ?_;refine up 5 q 0 ae ?_;refine up 6 q 1 ae ?_;refine uk 7 e9.out ae ?_;exact z.o):G:=h
def aEy (h:G:=by
  refine XL 11 fun K D=>?_;go_simp;clear cS bY cg eo eO rlt;have⟨gG,iB⟩:=xE ((((w1.setCell (N9 (w.heap.size+1) 0) (Oj x.tx)).setCell (N9 (w.heap.size+1) 1) (NY x.kd)).setCell (N9 (w.heap.size+1) 2) (NY x.parts)).setCell (N9 (w.heap.size+1) 3) (NY x.str));exact z.o):G:=h
