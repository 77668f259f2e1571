import Derived.Test.YticfnaiehdpbmaaGreatDoorAg24
set_option maxRecDepth 100000
set_option maxHeartbeats 8000000
set_option linter.unusedVariables false
namespace Go.Proofs.YticfnaiehdpbmaaGreatDoor
open Go.RowKit Go.Proofs.Tryz
namespace Hp
abbrev OQ (p:Pl)(aC:Option Addr):NP:=.agg #[Nr p.scope,Nr p.declares,NI p.strict,.pointer aC]
abbrev plO (p:Pl)(aC:Option Addr):Obj:=Og #[Nr p.scope,Nr p.declares,NI p.strict,.pointer aC] 73
theorem cells3 {w:Ny}{b:Nat}{x y bE:NP}{t:TypeId}(h:w.heap[b]? = some (Og #[x,y,bE] t)):w.cell? (Nv b 0)=some x/\w.cell? (Nv b 1)=some y/\w.cell? (Nv b 2)=some bE/\(∀ j,w.frozen? (Nv b j)=false)/\b<w.heap.size:=by
 refine⟨?_,?_,?_,fun j=>?_,lt_of_heap h⟩
 ·rw[cell_of h];rfl
 ·rw[cell_of h];rfl
 ·rw[cell_of h];rfl
 ·simp[World.frozen?,h]
theorem cells4 {w:Ny}{b:Nat}{x y bE u:NP}{t:TypeId}(h:w.heap[b]? = some (Og #[x,y,bE,u] t)):w.cell? (Nv b 0)=some x/\w.cell? (Nv b 1)=some y/\w.cell? (Nv b 2)=some bE/\w.cell? (Nv b 3)=some u/\(∀ j,w.frozen? (Nv b j)=false)/\b<w.heap.size:=by
 refine⟨?_,?_,?_,?_,fun j=>?_,lt_of_heap h⟩
 ·rw[cell_of h];rfl
 ·rw[cell_of h];rfl
 ·rw[cell_of h];rfl
 ·rw[cell_of h];rfl
 ·simp[World.frozen?,h]
theorem stays {w X:Ny}{b:Nat}{o:Obj}(D:NJ w X)(h:w.heap[b]? = some o):X.heap[b]? = some o:=(D.block b (lt_of_heap h)).trans h
theorem alloc_old {w:Ny}{b:Nat}{o gP:Obj}(h:w.heap[b]? = some o):(w.alloc gP).heap[b]? = some o:=by rw[Below.heap_alloc w gP b (lt_of_heap h)];exact h
theorem YC {w:Ny}{b:Nat}{x y bE:NP}{t:TypeId}(h:w.heap[b]? = some (Og #[x,y,bE] t))(x' jv jh:NP) :
  (((w.setCell (Nv b 0) x').setCell (Nv b 1) jv).setCell (Nv b 2) jh).heap[b]? = some (Og #[x',jv,jh] t):=by
 have z:=kk (∀{G}(h:G:=by
 exact ax),G);exact aqD
section
variable {w0:Ny} {mb af:Nat} {aa:List Nat} {es aS aB az aL:NP} {w w':Ny} {σ:St}
theorem Mx.Xd {T:List TypeId}(h:Mx w0 mb af aa aS aB az aL w σ)(f:OB T mb w w')(dA:∀ e ∈ T,e ∉ Tm/\e≠40/\e≠22):Mx w0 mb af aa aS aB az aL w' σ:=by
 have aA:∀ e,e ∈ Tm->e ∉ T:=fun e au h=>(dA e h).1 au;obtain⟨d0,h1,O,ax⟩:=h.fu;exact⟨h.bw.trans f.below,h.hh.keep f (aA _ NH) (aA _ NH) (aA _ NH) (aA _ NH) (aA _ NH),N7 h.lg f (aA _ NH),N7 h.se f (aA _ NH),N7 h.ow f (aA _ NH),d0,h1,N7 O f (aA _ NH),fun i a gV aw gf=>(ax i a gV aw gf).kp (fun b c e D au=>f.rest b c e D (fun q=>by rcases au with rfl|rfl;exact(dA _ q).2.1 rfl;exact(dA _ q).2.2 rfl))⟩
theorem Qy {b:Nat}{x y bE:NP}{t:TypeId}(h:w.heap[b]? = some (Og #[x,y,bE] t))(D:mb<=b)(x' jv jh:NP):OB [t] mb w (((w.setCell (Nv b 0) x').setCell (Nv b 1) jv).setCell (Nv b 2) jh):=by
 have h1:=heap_setCell_same w b 0 _ t x' h;have O:=heap_setCell_same _ b 1 _ t jv h1;exact OB.setCell (OB.setCell (OB.setCell (OB.of P8 (Nat.le_trans D (Oi (lt_of_heap h)))) h Oq D _) h1 Oq D _) O Oq D _
theorem P9.new {o f gP gV:NP}{w2:Ny}{T:List TypeId}(h:P9 mb o f gP gV w w')(k:OB T mb w' w2)(E:∀ b,b<w.heap.size->w2.heap[b]? = w'.heap[b]?):P9 mb o f gP gV w w2:=
 ⟨h.below.trans k.below,fun b c e D au aM aG=>by rw[E b (lt_of_heap D)];exact h.rest b c e D au aM aG,h.oo,h.ff⟩
theorem RD {b:Nat}(D:w.heap.size<=b)(x' jv jh:NP)(j:Nat)(aT:j<w.heap.size):(((w'.setCell (Nv b 0) x').setCell (Nv b 1) jv).setCell (Nv b 2) jh).heap[j]? = w'.heap[j]?:=by
 have ci:j≠b:=Nw;rw[heap_setCell_other _ _ _ _ ci,heap_setCell_other _ _ _ _ ci,heap_setCell_other _ _ _ _ ci]
theorem Mx.asz (h:Mx w0 mb af aa aS aB az aL w σ){a:Ad}{f:Fu}(hd:Oa aa w a f.d){ao:Ny}{Vd:NP}(hg:w.grownBy ao aL.ownBlock)
  {d0:List Ad} (h1:d0.length=σ.Qn.length) (O:w.ownsRow mb 211 3 aL σ.Qn.length ((d0.zip σ.Qn).flatMap fn3)) (ax:∀ (i:Nat) a f,d0[i]? = some a->σ.Qn[i]? = some f->Oa aa w a f.d)
  (aM:ao.ownsRow mb 211 3 Vd (σ.Qn.length+1) ((d0.zip σ.Qn).flatMap fn3++fn3 (a,f)))
  (ag:∀ q,Vd.ownBlock=some q->aL.ownBlock=some q\/w.heap.size<=q) :
  Mx w0 mb af aa aS aB az Vd (ao.setCell (Nv mb 9) Vd) { σ with Qn:=σ.Qn++[f] }/\P9 mb az aL az Vd w (ao.setCell (Nv mb 9) Vd):=by
 have dZ:OB [211] mb w ao:=OB.grown hg (Oi h.lt) fun k E=>by
  obtain⟨c,ai⟩:=OZ O E;exact⟨(O.lt k E).1,c,211,ai,by simp⟩
 have kS:=h.hh.keep dZ NH NH NH NH NH;obtain⟨lO,dW⟩:=kS.cell 7 Vd;have gW:OB [211,84] mb w (ao.setCell (Nv mb 9) Vd):=(dZ.mono NH OH).trans (dW.mono NH OH);have dd:Kp w (ao.setCell (Nv mb 9) Vd):=fun b c e D au=>gW.rest b c e D (by rcases au with rfl|rfl <;> decide);refine⟨⟨h.bw.trans gW.below,lO,N7 h.lg gW NH,N7 h.se gW NH,N7 h.ow gW NH,d0++[a],by simp[h1],?_,fun i l9 gV aw gf=>?_⟩,⟨gW.below,fun b c e D au _ gf=>?_,fun _ h=>.inl h,ag⟩⟩
 ·have bN:=N7 aM dW NH
  show World.ownsRow _ _ _ _ _ (σ.Qn++[f]).length (((d0++[a]).zip (σ.Qn++[f])).flatMap fn3)
  rw[List.length_append,List.zip_append h1,List.flatMap_append];simpa using bN
 ·rcases Nat.lt_or_ge i d0.length with ay|ay
  ·rw[List.getElem?_append_left ay] at aw;have cQ:(σ.Qn++[f])[i]? = some gV:=gf;rw[List.getElem?_append_left Nw] at cQ;exact(ax i l9 gV aw cQ).kp dd
  ·rw[List.getElem?_append_right ay] at aw;have kh:=(List.getElem?_eq_some_iff.1 aw).1;simp at kh;have Is:i - d0.length=0:=Nw;have cQ:(σ.Qn++[f])[i]? = some gV:=gf;rw[List.getElem?_append_right Nw,show i - σ.Qn.length=0 by omega] at cQ;rw[Is] at aw;simp at aw cQ;subst aw cQ;exact hd.kp dd
 ·have cA:ao.heap[b]? = some (Og c e):=(hg.block b (lt_of_block D) (fun e=>gf e.symm)).trans D;exact dW.rest b c e cA (fun q=>au (by rw[List.mem_singleton.1 q];decide))
theorem aqE:(prog.info? 211).map (fun i=>(i.zero,i.size,i.bytes))=some (some (.agg #[Qb,Nr 0,NI false]),3,24):=by kernel_rfl
theorem afK (w:Ny)(H:Nat)(fk:w.heap.size=H)(q:Nat)(s:Int)(b:Bool)(j:Nat)(u:NP)(h:([Nu q,Nr s,NI b]:List NP)[j]? = some u) :
  (w.alloc (.cells #[Nu q,Nr s,NI b] 211)).cell? (((Nv H 0):Addr).add j)=some u:=by
 subst fk
 rcases j with _|_|_|j <;> simp at h
 all_goals subst h;simp[Addr.add]
theorem ant (q:Nat)(s:Int)(b:Bool):∀ u ∈ ([Nu q,Nr s,NI b]:List NP),u.oneCell'=true:=by
 intro u aO;simp at aO
 rcases aO with rfl|rfl|rfl <;> rfl
section
variable (ac:Mx w0 mb af aa aS aB az aL w σ) {a:Ad} {d:Nd} (hd:Oa aa w a d) (E:d.2.kids.length=2) (hl:σ.Qn.length<=1000000000) {K:Nat} (ae:σ.M.Small K) (A:K<=1000000000) (aq aF:Int) (aC:Option Addr) (k0:Bool) (cG:k0=Ou (Nz d 1).2)
include ac a d hd E hl K ae A aq aF aC k0 cG
theorem ahC :
  NK 60 #[Nu mb,Nu a.p,.agg #[Nr aq,Nr aF,NI true,.pointer aC]] w fun e w'=>e=NU (vA (Rz σ.M.objs.length))/\∃ Vd,Mx w0 mb af aa aS aB az Vd w' { σ with Qn:=σ.Qn++[⟨d,aq,true⟩],M:=σ.M.Oy (3+σ.Qn.length) }/\P9 mb az aL az Vd w w':=by
 have z:=kk (∀{G}(h:G:=by
 obtain⟨w2,de⟩:=xE ((w.alloc (.cells #[Nr aq,Nr aF,NI true,.pointer aC] 73)).alloc (.cells #[Nr 0,Nr 0,OG] 65));have z:=kk (∀{G}(h:G:=by
 have bK:w2.heap[bc]? = some (Og #[Nr aq,Nr aF,NI true,.pointer aC] 73):=by
  rw[de,bU];exact alloc_old (NG _ _)
 have hr2:w2.heap[aR]? = some (Og #[Nr 0,Nr 0,OG] 65):=by
  rw[de,b1,show w.heap.size+1=(w.alloc (.cells #[Nr aq,Nr aF,NI true,.pointer aC] 73)).heap.size by simp];exact NG _ _
 have z:=kk (∀{G}(h:G:=by
 refine alV (G:=?GG) (fun dI=>?ways) ?rest
 case ways=>
  have z:=kk (∀{G}(h:G:=by
  refine uh 5 (NI true) (ab) ?_;have z:=kk (∀{G}(h:G:=by
  refine uh 11 undef (ab) ?_ (hy:=Or.inr ⟨by kernel_rfl,rfl⟩);refine uh 12 undef (ab) ?_ (hy:=Or.inr ⟨by kernel_rfl,rfl⟩);refine uh 13 (NI true) (ab) ?_;refine uh 14 (.agg #[NM q 0,Nr aq,NI true]) (ab) ?_;refine O0 15 fun K A=>?_;go_simp;refine A.out _ _ (fun _=>OM.drew) ?_;clear A K;refine O0 16 fun K A=>?_;go_simp;refine ko A ?_;clear A K;refine QX ?_ _;go_simp;exact dI),G);exact aud),G);exact aAB
 obtain⟨ao,j4⟩:=xE ((w2.alloc (.cells #[Nu q,Nr aq,NI true] 211)).drew);rw[<-j4];have cQ:ao.heap[w2.heap.size]? = some (Og #[Nu q,Nr aq,NI true] 211):=by
  rw[j4];exact NG w2 _
 have bm:NJ w2 ao:=by
  rw[j4];exact OM.drew
 obtain⟨q5,qq⟩:=xE w2.heap.size;rw[<-qq] at cQ ⊢;have hbw3:NJ w ao:=cf.trans (bm.mono cf.size);have e8:=dS.later hbw3;obtain⟨l',sj⟩:=e8.hh.at_ 7 _ rfl;obtain⟨zG,Au,f8,Av⟩:=e8.fu;obtain⟨ye,J1,nU⟩:=N8 f8;have cV:=hide (cells3 cQ);have c8:=hide (stays bm bj.out);have lC:=(d3.kp (Kp.of hbw3));rw[<-dE.out] at nU;subst nU;have rM:=hide l';have gh:mb<ao.heap.size:=by have:=bm.size;omega
 have fG:q5<ao.heap.size:=lt_of_heap cQ;clear cQ bm l' sj f8 j4 qq cf bu Au Av zG eK dc gg;go_wp2_with fail;refine Rj 7 fun ab=>?_;refine up 0 mb 0 ab ?_;refine up 1 mb 0 ab ?_;refine up 2 mb 0 ab ?_;refine up 3 mb 9 ab ?_;refine uk 4 rM.out ab ?_;refine uk3 5 cV.out ab ?_;refine O0 6 fun K A=>?_;go_simp;refine A.out _ _ (fun _=>OM.drew) ?_;clear A K;refine O0 7 fun K A=>?_;have lI:=(e8.later (w':=ao.drew.alloc (.cells #[Nu q,Nr aq,NI true] 211)) (P8.drew.alloc Oq _));obtain⟨d0,vG,hfr0,pC⟩:=lI.fu
 have f8:=hfr0;rw[<-dE.out] at f8;refine step_append_lies _ rfl _ _ 82 rfl mb 211 i0 _ 3 24 underlying82 d2 dH b6 cq rfl NH _ _ _ rfl f8 (Nv ao.heap.size 0) 1 1 [Nu q,Nr aq,NI true] rfl rfl (afK ao.drew _ rfl q aq true) (ant q aq true) NH (by unfold maxLen;omega) Nw Qa (ao.heap.size+1) Oq ?_
 intro hG hD bB hown4 kQ m4 vK;refine ko A ?_;clear A K;obtain⟨hM,g9⟩:=lI.asz (a:=a) (f:=⟨d,aq,true⟩) (lC.kp (Kp.of (P8.drew.alloc Oq _))) (Vd:=.slice (some (Nv hG 0)) (n+1) hD) kQ vG hfr0 pC (by rw[<-dE.out];rw[bo.out] at hown4;exact hown4) (fun q ag=>by
  simp only[Value.ownBlock,Option.some.injEq] at ag;subst ag
  rcases m4 with h|h
  ·exact .inl h
  ·right;simp;omega)
 obtain⟨Hl,HB⟩:=(lI.hh.keep (T:=[211]) (B:=mb) (w':=bB) (OB.grown kQ Qa fun k E=>by
  obtain⟨c,ai⟩:=OZ f8 E;exact⟨(f8.lt k E).1,c,211,ai,by simp⟩) NH NH NH NH NH).at_ 7 _ rfl
 have hV:=hM;have vF:=(P9.of ((Below.refl _ ao).drew.alloc Oq _) (Oi gh)).trans g9;have fM:=hide ((vF.ZO (L:=none) e8).rest aR _ 65 c8.out NH Oq);have gq:=((P9.of hbw3 (Oi bI)).trans vF);have gx:mb<bB.heap.size:=by have:=kQ.size;simp at this;omega
 clear hM m4 vK pC vG;refine uz 8 (NM mb 0) ?_;refine uz 9 (NM mb 9) ?_;refine O0 10 fun K A=>?_;go_simp;refine ko A ?_;clear A K;refine QX ?_ _;go_simp;obtain⟨b',ha⟩:=xE (bB.setCell (Nv mb 9) (.slice (some (Nv hG 0)) (n+1) hD));rw[<-ha] at hV gq fM ⊢;clear ha;obtain⟨l',sj⟩:=hV.hh.at_ 7 _ rfl;have hM:=hV.lt;have rM:=hide l';have lE:=hide (fun X (aj:NJ b' X)=>Yx (hV.later aj).hh xb pd.out (3+((n:Int)+1) - 1));clear l' sj;have qy:aR<b'.heap.size:=lt_of_heap fM.out;go_wp2_with fail
 refine Rj 10 fun ab=>?_;refine up 0 mb 0 ab ?_;refine up 1 mb 0 ab ?_;refine up 2 mb 0 ab ?_;refine up 3 mb 0 ab ?_;refine up 4 mb 0 ab ?_;refine up 5 mb 9 ab ?_;refine uk 6 rM.out ab ?_;refine uh 7 (Nr ((n:Int)+1)) (ab) ?_;refine uh 8 (Nr (3+((n:Int)+1))) (ab) ?_ (hy:=Or.inl ⟨by kernel_rfl,fun _ _=>by go_simp;exact IntWalk.i64_in _ Nw⟩)
 refine uh 9 (Nr (3+((n:Int)+1) - 1)) (ab) ?_ (hy:=Or.inl ⟨by kernel_rfl,fun _ _=>by go_simp;exact IntWalk.i64_in _ Nw⟩)
 refine O0 10 fun K A=>?_;go_simp;refine cm (Ns lE _ ab) ?_;rintro e b9 ⟨rfl,AA,jc⟩;rw[<-rX.out];refine ko A ?_;clear A K;have uL:=((hV.later ab).heap AA jc);have j9:=(gq.trans ((P9.of ab (Oi hM)).trans (P9.ofT jc)));have hA:=hide (jc.rest aR _ 65 (stays ab fM.out) NH);refine O0 11 fun K A=>?_;go_simp;obtain⟨bL,dh⟩:=xE (Rz ol);have na:=Yz ol b9;rw[<-dh] at na;have cZ:=hide dh;clear dh;refine cm na ?_;rintro e eh ⟨rfl,fW⟩;refine ko A ?_;clear A K;have yX:=(uL.later fW)
 have nj:=(j9.trans (P9.of fW (Oi uL.lt)));obtain⟨cy,bQ,b5,en,rl⟩:=cells3 (stays fW hA.out);have dn:=en 0;have dp:=en 1;have dq:=en 2;have ka:=hide (stays fW hA.out);clear en;refine O0 12 fun K A=>?_;go_simp;refine ko A ?_;clear A K;refine QX ?_ _;go_simp;go_wp2_with fail;obtain⟨b3,bz⟩:=xE (((eh.setCell (Nv aR 0) (Nr bL.k)).setCell (Nv aR 1) (Nr bL.n)).setCell (Nv aR 2) (ND bL.s));rw[<-bz];have d7:=YC ka.out (Nr bL.k) (Nr bL.n) (ND bL.s);have gF:mb<=aR:=by have:=Ns w9;omega
 have bb:=Qy ka.out gF (Nr bL.k) (Nr bL.n) (ND bL.s);have bx:=nj.new bb (RD w9.out _ _ _);have bv:=yX.Xd bb NH;rw[<-bz] at d7 bx bv;obtain⟨bi,aY,aX,_,_⟩:=cells3 d7;rw[<-cZ.out];refine bodyPost_ret (v:=vA bL) (by simp[results,results60,go_sem,bi,aY,aX]) rfl ⟨rfl,_,?_,bx⟩;have av:3+((n:Int)+1) - 1=3+(σ.Qn.length:Int):=by rw[<-dE.out];omega
 rw[av] at bv;exact bv),G);exact aAC),G);exact au6),G);exact aAD
theorem akC :
  NK 60 #[Nu mb,Nu a.p,.agg #[Nr aq,Nr aF,NI false,.pointer aC]] w fun e w'=>e=NU (vA (Rz σ.M.objs.length))/\∃ Vd,Mx w0 mb af aa aS aB az Vd w' { σ with Qn:=σ.Qn++[⟨d,aq,k0⟩],M:=σ.M.Oy (3+σ.Qn.length) }/\P9 mb az aL az Vd w w':=by
 have z:=kk (∀{G}(h:G:=by
 obtain⟨w2,de⟩:=xE ((w.alloc (.cells #[Nr aq,Nr aF,NI false,.pointer aC] 73)).alloc (.cells #[Nr 0,Nr 0,OG] 65));have z:=kk (∀{G}(h:G:=by
 have bK:w2.heap[bc]? = some (Og #[Nr aq,Nr aF,NI false,.pointer aC] 73):=by
  rw[de,bU];exact alloc_old (NG _ _)
 have hr2:w2.heap[aR]? = some (Og #[Nr 0,Nr 0,OG] 65):=by
  rw[de,b1,show w.heap.size+1=(w.alloc (.cells #[Nr aq,Nr aF,NI false,.pointer aC] 73)).heap.size by simp];exact NG _ _
 have z:=kk (∀{G}(h:G:=by
 refine alV (G:=?GG) (fun dI=>?ways) ?rest
 case ways=>
  have z:=kk (∀{G}(h:G:=by
  refine uh 5 (NI false) (ab) ?_;refine up 6 q 0 ab ?_;refine up 7 q 0 ab ?_;refine up 8 q 3 ab ?_;refine uk 9 eB.out ab ?_;refine up 10 g 1 ab ?_;refine uk 11 e1.out ab ?_;refine uq2 12 15 (fun K A=>?ca) fun K A=>?cb
  case' ca=>
   go_simp;refine cm (Ns hB _ (ab)) ?_;rintro e k2 ⟨rfl,iT⟩;rw[iT];clear iT k2;refine A.out _ _ (fun _=>ab) ?_;clear A K;refine uh 13 (NI k0) (ab) ?_ (hy:=Or.inl ⟨by kernel_rfl,fun _ _=>k0.rec (by go_simp) (by go_simp)⟩);refine uh 14 (.agg #[NM q 0,Nr aq,NI k0]) (ab) ?_;refine O0 15 fun K A=>?_;go_simp;refine A.out _ _ (fun _=>OM.drew) ?_;clear A K;refine O0 16 fun K A=>?_;go_simp;refine ko A ?_;clear A K;refine QX ?_ _
  case' cb=>
   go_simp;refine A.out _ _ (fun _=>OM.drew) ?_;clear A K;refine O0 12 fun K A=>?_;go_simp;refine cm (Ns hB _ (OM.drew)) ?_;rintro e k2 ⟨rfl,iT⟩;rw[iT];clear iT k2;refine A.out _ _ (fun _=>OM.drew) ?_;clear A K;refine uh 13 (NI k0) (OM.drew) ?_ (hy:=Or.inl ⟨by kernel_rfl,fun _ _=>k0.rec (by go_simp) (by go_simp)⟩);refine uh 14 (.agg #[NM q 0,Nr aq,NI k0]) (OM.drew) ?_;refine O0 16 fun K A=>?_;go_simp;refine ko A ?_;clear A K;refine QX ?_ _
  all_goals
   go_simp;exact dI),G);exact aAB
 obtain⟨ao,j4⟩:=xE ((w2.alloc (.cells #[Nu q,Nr aq,NI k0] 211)).drew);rw[<-j4];have cQ:ao.heap[w2.heap.size]? = some (Og #[Nu q,Nr aq,NI k0] 211):=by
  rw[j4];exact NG w2 _
 have bm:NJ w2 ao:=by
  rw[j4];exact OM.drew
 obtain⟨q5,qq⟩:=xE w2.heap.size;rw[<-qq] at cQ ⊢;have hbw3:NJ w ao:=cf.trans (bm.mono cf.size);have e8:=dS.later hbw3;obtain⟨l',sj⟩:=e8.hh.at_ 7 _ rfl;obtain⟨zG,Au,f8,Av⟩:=e8.fu;obtain⟨ye,J1,nU⟩:=N8 f8;have cV:=hide (cells3 cQ);have c8:=hide (stays bm bj.out);have lC:=(d3.kp (Kp.of hbw3));rw[<-dE.out] at nU;subst nU;have rM:=hide l';have gh:mb<ao.heap.size:=by have:=bm.size;omega
 have fG:q5<ao.heap.size:=lt_of_heap cQ;clear cQ bm l' sj f8 j4 qq cf bu Au Av zG eK dc gg;go_wp2_with fail;refine Rj 7 fun ab=>?_;refine up 0 mb 0 ab ?_;refine up 1 mb 0 ab ?_;refine up 2 mb 0 ab ?_;refine up 3 mb 9 ab ?_;refine uk 4 rM.out ab ?_;refine uk3 5 cV.out ab ?_;refine O0 6 fun K A=>?_;go_simp;refine A.out _ _ (fun _=>OM.drew) ?_;clear A K;refine O0 7 fun K A=>?_;have lI:=(e8.later (w':=ao.drew.alloc (.cells #[Nu q,Nr aq,NI k0] 211)) (P8.drew.alloc Oq _));obtain⟨d0,vG,hfr0,pC⟩:=lI.fu
 have f8:=hfr0;rw[<-dE.out] at f8;refine step_append_lies _ rfl _ _ 82 rfl mb 211 i0 _ 3 24 underlying82 d2 dH b6 cq rfl NH _ _ _ rfl f8 (Nv ao.heap.size 0) 1 1 [Nu q,Nr aq,NI k0] rfl rfl (afK ao.drew _ rfl q aq k0) (ant q aq k0) NH (by unfold maxLen;omega) Nw Qa (ao.heap.size+1) Oq ?_
 intro hG hD bB hown4 kQ m4 vK;refine ko A ?_;clear A K;obtain⟨hM,g9⟩:=lI.asz (a:=a) (f:=⟨d,aq,k0⟩) (lC.kp (Kp.of (P8.drew.alloc Oq _))) (Vd:=.slice (some (Nv hG 0)) (n+1) hD) kQ vG hfr0 pC (by rw[<-dE.out];rw[bo.out] at hown4;exact hown4) (fun q ag=>by
  simp only[Value.ownBlock,Option.some.injEq] at ag;subst ag
  rcases m4 with h|h
  ·exact .inl h
  ·right;simp;omega)
 obtain⟨Hl,HB⟩:=(lI.hh.keep (T:=[211]) (B:=mb) (w':=bB) (OB.grown kQ Qa fun k E=>by
  obtain⟨c,ai⟩:=OZ f8 E;exact⟨(f8.lt k E).1,c,211,ai,by simp⟩) NH NH NH NH NH).at_ 7 _ rfl
 have hV:=hM;have vF:=(P9.of ((Below.refl _ ao).drew.alloc Oq _) (Oi gh)).trans g9;have fM:=hide ((vF.ZO (L:=none) e8).rest aR _ 65 c8.out NH Oq);have gq:=((P9.of hbw3 (Oi bI)).trans vF);have gx:mb<bB.heap.size:=by have:=kQ.size;simp at this;omega
 clear hM m4 vK pC vG;refine uz 8 (NM mb 0) ?_;refine uz 9 (NM mb 9) ?_;refine O0 10 fun K A=>?_;go_simp;refine ko A ?_;clear A K;refine QX ?_ _;go_simp;obtain⟨b',ha⟩:=xE (bB.setCell (Nv mb 9) (.slice (some (Nv hG 0)) (n+1) hD));rw[<-ha] at hV gq fM ⊢;clear ha;obtain⟨l',sj⟩:=hV.hh.at_ 7 _ rfl;have hM:=hV.lt;have rM:=hide l';have lE:=hide (fun X (aj:NJ b' X)=>Yx (hV.later aj).hh xb pd.out (3+((n:Int)+1) - 1));clear l' sj;have qy:aR<b'.heap.size:=lt_of_heap fM.out;go_wp2_with fail
 refine Rj 10 fun ab=>?_;refine up 0 mb 0 ab ?_;refine up 1 mb 0 ab ?_;refine up 2 mb 0 ab ?_;refine up 3 mb 0 ab ?_;refine up 4 mb 0 ab ?_;refine up 5 mb 9 ab ?_;refine uk 6 rM.out ab ?_;refine uh 7 (Nr ((n:Int)+1)) (ab) ?_;refine uh 8 (Nr (3+((n:Int)+1))) (ab) ?_ (hy:=Or.inl ⟨by kernel_rfl,fun _ _=>by go_simp;exact IntWalk.i64_in _ Nw⟩)
 refine uh 9 (Nr (3+((n:Int)+1) - 1)) (ab) ?_ (hy:=Or.inl ⟨by kernel_rfl,fun _ _=>by go_simp;exact IntWalk.i64_in _ Nw⟩)
 refine O0 10 fun K A=>?_;go_simp;refine cm (Ns lE _ ab) ?_;rintro e b9 ⟨rfl,AA,jc⟩;rw[<-rX.out];refine ko A ?_;clear A K;have uL:=((hV.later ab).heap AA jc);have j9:=(gq.trans ((P9.of ab (Oi hM)).trans (P9.ofT jc)));have hA:=hide (jc.rest aR _ 65 (stays ab fM.out) NH);refine O0 11 fun K A=>?_;go_simp;obtain⟨bL,dh⟩:=xE (Rz ol);have na:=Yz ol b9;rw[<-dh] at na;have cZ:=hide dh;clear dh;refine cm na ?_;rintro e eh ⟨rfl,fW⟩;refine ko A ?_;clear A K;have yX:=(uL.later fW)
 have nj:=(j9.trans (P9.of fW (Oi uL.lt)));obtain⟨cy,bQ,b5,en,rl⟩:=cells3 (stays fW hA.out);have dn:=en 0;have dp:=en 1;have dq:=en 2;have ka:=hide (stays fW hA.out);clear en;refine O0 12 fun K A=>?_;go_simp;refine ko A ?_;clear A K;refine QX ?_ _;go_simp;go_wp2_with fail;obtain⟨b3,bz⟩:=xE (((eh.setCell (Nv aR 0) (Nr bL.k)).setCell (Nv aR 1) (Nr bL.n)).setCell (Nv aR 2) (ND bL.s));rw[<-bz];have d7:=YC ka.out (Nr bL.k) (Nr bL.n) (ND bL.s);have gF:mb<=aR:=by have:=Ns w9;omega
 have bb:=Qy ka.out gF (Nr bL.k) (Nr bL.n) (ND bL.s);have bx:=nj.new bb (RD w9.out _ _ _);have bv:=yX.Xd bb NH;rw[<-bz] at d7 bx bv;obtain⟨bi,aY,aX,_,_⟩:=cells3 d7;rw[<-cZ.out];refine bodyPost_ret (v:=vA bL) (by simp[results,results60,go_sem,bi,aY,aX]) rfl ⟨rfl,_,?_,bx⟩;have av:3+((n:Int)+1) - 1=3+(σ.Qn.length:Int):=by rw[<-dE.out];omega
 rw[av] at bv;exact bv),G);exact aAC),G);exact au6),G);exact aAD
end
end
end Hp
end Go.Proofs.YticfnaiehdpbmaaGreatDoor
