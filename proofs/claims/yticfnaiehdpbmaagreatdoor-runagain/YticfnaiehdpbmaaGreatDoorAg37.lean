import Derived.Test.YticfnaiehdpbmaaGreatDoorAg31
import Derived.Test.YticfnaiehdpbmaaGreatDoorAg34
import Derived.Test.YticfnaiehdpbmaaGreatDoorAg35
set_option maxRecDepth 100000
set_option maxHeartbeats 8000000
set_option linter.unusedVariables false
namespace Go.Proofs.YticfnaiehdpbmaaGreatDoor
open Go.RowKit Go.Proofs.Tryz
namespace Hp
section
variable {w0:Ny} {mb af:Nat} {aa:List Nat} {es aS aB az aL:NP} {w w':Ny} {σ:St} {N:Nat} {F:Fx} {u:NP} {vs:List Va}
theorem azI:UE 323:=fun _ _=>by kernel_rfl
theorem bx1 {b:Nat}{x:NP}{t:TypeId}(h:w.heap[b]? = some (Og #[x] t)):w.cell? (Nv b 0)=some x:=by rw[cell_of h];rfl
theorem P9.box {gP gV:NP}{b:Nat}{c:Array NP}(h:P9 mb az aL gP gV w w')(ac:Mx w0 mb af aa aS aB az aL w σ)(D:w.heap[b]? = some (Og c 211))(aA:aL.ownBlock≠some b):w'.heap[b]? = some (Og c 211):=
 h.rest b c 211 D NH (fun e=>by
  obtain⟨ft,ai⟩:=OZ ac.ow e;exact PW D ai NH rfl) aA
theorem am4 (aZ:Bs w0 mb af aa es)(a':X5 w0)(ac:Mx w0 mb af aa aS aB az aL w σ)(aJ:Sz N σ)(hN:N+10000<1000000000){f:Fu}{a:Ad}(hd:Oa aa w a f.d)(E:f.d.2.kids.length=2)(ai:f.d.2.count<=1500)(eY:(Nz f.d 0).2.kids.length<=8)(O:∀ k ∈ Sl (Nz f.d 1),k.2.kids.length=2)(iS:(σ.M.ro f.scope).isSome=true)
  {dl b2 em:Nat} (b0:w.heap[dl]? = some (Og #[Nu mb] 62)) (d4:w.heap[b2]? = some (Og #[Nu a.p,Nr f.scope,NI f.strict] 211)) (ci:aL.ownBlock≠some b2) (d1:w.heap[em]? = some (Og #[u] 311)) (U:Sv w u vs) (hl:vs.length<=1500) {rs:(Oc × Er × Option Va) × St}
  (bq:∀ X fR (bV:Ad),Ms w0 mb af aa X (QZ f.d ⟨σ.top,σ.top,f.strict⟩ vs (σ.opn f.scope (-1) (own f.d)))->QT 0 X fR bV.ks->RV aa X bV.ks (O3 (Nz f.d 1))->NK 28 #[Nu mb,fR,OQ ⟨σ.top,σ.top,f.strict⟩ none] X (OY w0 mb af aa es none X rs)) :
  NK 323 #[NM dl 0,NM b2 0,NM em 0] w (Oh w0 mb af aa es w ((rs.1.1.v,rs.1.2.1),rs.2)):=by
 have bI:=ac.lt;obtain⟨xm,q6,pk⟩:=f;obtain⟨⟨bG,av,b8⟩,mG⟩:=rs
 dsimp only at hd E ai eY O iS d4 bq ⊢
 obtain⟨L,dz⟩:=xE (none:Option Nat);obtain⟨w2,de⟩:=xE (w.alloc (.cells #[Nr 0,Nr 0,OG] 65));have aE:NJ w w2:=by rw[de];exact OM
 obtain⟨aR,b1⟩:=xE w.heap.size;have hr2:w2.heap[aR]? = some (Og #[Nr 0,Nr 0,OG] 65):=by rw[de,b1];exact NG _ _
 have cH:w.heap.size<=aR:=Nw;obtain⟨ow,lh⟩:=xE (own xm);obtain⟨eZ,kX⟩:=xE (σ.top:Int);rw[<-lh,<-kX] at bq;obtain⟨σ1,h9⟩:=xE (σ.opn q6 (-1) ow);rw[<-h9] at bq;obtain⟨ck,f'⟩:=xE (QZ xm ⟨eZ,eZ,pk⟩ vs σ1);rw[<-f'] at bq;have ej:=(ac.later aE);have lB:=(hd.kp (Kp.of aE));have bj:=hide hr2;have cf:=aE;have hT:=hide (stays aE b0);have pc:=hide (stays aE d4);have nn:=hide (stays aE d1);have fa:=(U.later aE);have da:=(P9.of (o:=az) (f:=aL) aE (Oi bI))
 have k8:=hide (fun X (aj:NJ w2 X)=>XD aZ (ej.later aj) (lB.kp (Kp.of aj)));have cg:=hide (fun X (aj:NJ w2 X)=>X4 (ej.later aj) aJ Nw q6 (-1) ow iS);rw[<-lh] at k8;rw[<-kX,<-h9] at cg;have b6:Sz (N+1) σ1:=by rw[h9];exact aJ.opn _ _ _
 have rJ:=hide (fun X TW (aj:Mx w0 mb af aa aS aB TW aL X σ1) (qm:Oa aa X a xm) (fV:Sv X u vs)=>auO aZ a' aj b6 Nw qm E ai eY O ⟨eZ,eZ,pk⟩ none fV hl);rw[<-f'] at rJ;obtain⟨q,ag⟩:=xE a.p;rw[<-ag] at k8 rJ pc;have bo:=hide ag;have ah:=hide bq;have f2:=hide E;have s8:=hide dz;have Ci:=hide ci;have bu:=hide de;have cI:=hide cH;have dc:=ej.lt;have eR:=lt_of_heap hT.out;have gg:=lt_of_heap pc.out;have xM:=lt_of_heap nn.out;have e1:=hide (bx1 hT.out);have hn:=hide (cells3 pc.out)
 clear E ai eY O iS b0 d4 ci d1 bq dz de hr2 cH lh kX h9 f' ag a';go_enter func323,ntmps323;go_wp2_with fail;rw[<-bu.out,<-b1];clear b1;refine Rj 7 fun ab=>?_;refine uk 0 e1.out ab ?_;refine up 1 b2 1 ab ?_;refine uk 2 (hn.out.2.1) ab ?_;refine uk 3 e1.out ab ?_;refine up 4 b2 0 ab ?_;refine uk 5 (hn.out.1) ab ?_;refine O0 6 fun K A=>?_;go_simp;refine cm (Ns k8 _ ab) ?_;rintro e k2 ⟨rfl,iT⟩;subst iT;refine A.out _ _ (fun _=>ab) ?_;clear A K;refine O0 7 fun K A=>?_;go_simp;refine cm (Ns cg _ ab) ?_
 rintro e ao ⟨rfl,J3,e8,cQ⟩;refine ko A ?_;clear A K;have g3:=ej.later ab;have fG:=cQ.ZO (L:=none) g3;have eF:=e8;have cV:=((da.trans (P9.of ab (Oi dc))).trans cQ);have rS:=hide (fG.keep (stays ab hT.out) NH);have wY:=hide (fG.keep (stays ab nn.out) NH);have c8:=hide (fG.keep (stays ab bj.out) NH);have FD:=((Om.of (L:=none) (cf.trans (ab.mono cf.size)) (Oi bI)).trans fG);have B3:=hide (cQ.box g3 (stays ab pc.out) Ci.out);have lG:=((fa.later ab).ZO fG);have lC:=((lB.kp (Kp.of ab)).kp fG.SX)
 have gh:=e8.lt;refine uz 8 (Nr eZ) ?_;refine QX ?_ _;go_simp;have cj:=bx1 rS.out;have jg:=bx1 wY.out;obtain⟨hk,gn,gp,_,hm⟩:=cells3 B3.out;have D2:=lt_of_heap rS.out;have IC:=lt_of_heap wY.out;go_wp2_with fail;obtain⟨bB,eL⟩:=xE (ao.alloc (.cells #[Nr eZ,Nr eZ,NI pk,Qb] 73));obtain⟨bc,bU⟩:=xE ao.heap.size;have lj:bB.heap[bc]? = some (Og #[Nr eZ,Nr eZ,NI pk,Qb] 73):=by rw[eL,bU];exact NG _ _
 have du:NJ ao bB:=by rw[eL];exact OM
 rw[<-eL,<-bU];have f3:=(eF.later du);refine cm (Ns rJ bB J3 f3 (lC.kp (Kp.of du)) (lG.later du)) ?_;rintro e b' ⟨rfl,K3,lS,g9⟩;have fG:=g9.ZO (L:=none) f3;have hV:Ms w0 mb af aa b' ck:=⟨_,_,_,_,lS⟩;have gq:=((cV.trans (P9.of du (Oi gh))).trans g9);have B2:=hide (fG.keep (stays du rS.out) NH);have fM:=hide (fG.keep (stays du c8.out) NH);have i6:=hide (fG.keep lj NH);have B4:=hide (g9.box f3 (stays du B3.out) Ci.out);have ni:=((lC.kp (Kp.of du)).kp fG.SX)
 have FA:=(((Om.of (L:=none) du (Oi gh)).trans fG));have hM:=lS.lt;clear lj eL bU cj jg hk gn gp hm D2 IC;obtain⟨bV,cC,cap0,c3,fT,jb,_⟩:=ni.Xe (i:=1) (by rw[f2.out];omega)
 rw[f2.out] at c3;obtain⟨cT,dO,jG,hrow⟩:=jb.ar;obtain⟨gy,g1⟩:=xE ((Nz xm 1).2.kids.length);rw[<-g1] at jG hrow;have bA:=hide (fun X (aj:NJ b' X)=>Ns ah X _ bV (hV.later aj) (hrow.later aj) ((jb.kp (Kp.of aj)).ndl));obtain⟨kp,dd⟩:=xE bV.p;rw[<-dd] at fT jG;rw[<-bo.out] at c3;have eB:=hide c3;have lz:=hide fT;have Fo:=hide jG;have dx:=cell_lt fT;have dL:=cell_lt c3;have cJ:=cell_lt jG;have e1:=hide (bx1 B2.out);have hn:=hide (cells3 B4.out);have ga:=hide (cells4 i6.out);have LT:=lt_of_heap B2.out
 have LU:=lt_of_heap B4.out;have LY:=lt_of_heap i6.out;have w5:NY b' L (none:Option Va):=by show NY _ _ _;rw[s8.out];trivial
 rw[<-s8.out] at bA;clear c3 fT jG g1 dd;go_wp2_with fail;refine UC (H:=fun wz vb ev=>SB w0 mb af aa es L b' bG av b8 mG wz vb ev) (G:=?GG) (fun dI=>?ways) ?rest
 case ways=>
  refine Rj 12 fun ab=>?_;refine uk 0 e1.out ab ?_;refine up 1 b2 0 ab ?_;refine uk 2 (hn.out.1) ab ?_;refine up 3 q 0 ab ?_;refine up 4 q 3 ab ?_;refine uk 5 eB.out ab ?_;refine up 6 cC 1 ab ?_;refine uk 7 lz.out ab ?_;refine up 8 kp 0 ab ?_;refine up 9 kp 3 ab ?_;refine uk 10 (Ns Fo) ab ?_;refine uk4 11 ga.out ab ?_;refine uq2 12 16 (fun K A=>?_) fun K A=>?_
  ·go_simp;refine cm (Ns bA _ ab) ?_;rintro e aD ⟨⟨ev,rfl,aI⟩,aK,ak,gD⟩;refine ko A ?_;clear A K;refine uz 13 (.tuple #[(RX bG),ev]) ?_;refine uz 14 (RX bG) ?_;refine uz 15 ev ?_;refine O0 16 fun K A=>?_;go_simp;refine ko A ?_;clear A K;have z:=kk (∀{G}(h:G:=by
   have ch:=SB.late (o:=bG) aI aK ((Om.of ab (Oi hM)).trans ak) gD;exact auA),G);exact aug
  ·go_simp;refine A.out _ _ (fun _=>OM.drew) ?_;clear A K;refine O0 12 fun K A=>?_;go_simp;refine cm (Ns bA _ (OM.drew)) ?_;rintro e aD ⟨⟨ev,rfl,aI⟩,aK,ak,gD⟩;refine ko A ?_;clear A K;have fe:aD.heap[b'.heap.size]? = some (Og #[NI false,Nr 0,Nr 0,OG] 67):=ak.P7 (w5.later (OM.drew)) (NG _ _) NH NH;obtain⟨z0,mC,z2,z3,mD,mE,mF,sW,zl⟩:=PE (fe);refine uz 13 (.tuple #[(RX bG),ev]) ?_;refine uz 14 (RX bG) ?_;refine uz 15 ev ?_;have z:=kk (∀{G}(h:G:=by
   have ch:=SB.early (o:=bG) fe OH (Oi hM) aI aK ((Om.of (OM.drew) (Oi hM)).trans ak) gD
   generalize (((aD.setCell (Nv b'.heap.size 0) (NI bG.ret)).setCell (Nv b'.heap.size 1) (Nr bG.v.k)).setCell (Nv b'.heap.size 2) (Nr bG.v.n)).setCell (Nv b'.heap.size 3) (ND bG.v.s)=wz at ch ⊢
   generalize b'.heap.size=vb at ch ⊢
   exact dI wz vb ev ch),G);exact aug
 rintro wt lb ev cG;have uU:=cG.fr;rw[s8.out] at uU;have gb:=hide (uU.keep fM.out NH);have ig:=((FD.trans FA).trans uU);have ns:=cG.ms;have jy:=cG.er;have vR:lb≠aR:=fun e=>by
  have h1:=cG.ob;have O:=lt_of_heap fM.out;omega
 obtain⟨iu,v1⟩:=bG;obtain⟨cy,bQ,b5,dn,dp,dq,rl⟩:=Ot gb.out;obtain⟨hk,gn,gp,pR,ib,ic,id,pS,hm⟩:=PE (cG.o);go_wp2_with fail;obtain⟨b3,bz,bb,bx,bv,bi,aY,aX⟩:=rt3 gb.out cI.out bI ig ns (Nr v1.k) (Nr v1.n) (ND v1.s);rw[<-bz];refine bodyPost_ret (v:=.tuple #[vA v1,ev]) (by simp[results,results323,go_sem,bi,aY,aX]) rfl ?_;exact⟨⟨_,rfl,jy.O6 bb NH⟩,bv,bx⟩
theorem Sz.calls (h:Sz N σ)(c:Nat):Sz N { σ with calls:=c }:=⟨h.go,h.ow,h.fn,h.lg,h.se,h.oe⟩
theorem aqp (aZ:Bs w0 mb af aa es)(a':X5 w0)(ac:Mx w0 mb af aa aS aB az aL w σ)(aJ:Sz N σ)(hN:N+10000<1000000000)(dP:σ.calls<=40){f:Fu}{a:Ad}(hd:Oa aa w a f.d)(E:f.d.2.kids.length=2)(ai:f.d.2.count<=1500)(eY:(Nz f.d 0).2.kids.length<=8)(O:∀ k ∈ Sl (Nz f.d 1),k.2.kids.length=2)(iS:(σ.M.ro f.scope).isSome=true)(U:Sv w u vs)(hl:vs.length<=1500){g:St->(Oc × Er × Option Va) × St}
  (bZ:σ.calls≠40->(g { σ with calls:=σ.calls+1 }).2.calls=σ.calls+1)
  (bq:σ.calls≠40->∀ X fR (bV:Ad),Ms w0 mb af aa X (QZ f.d ⟨σ.top,σ.top,f.strict⟩ vs (St.opn { σ with calls:=σ.calls+1 } f.scope (-1) (own f.d)))->QT 0 X fR bV.ks->RV aa X bV.ks (O3 (Nz f.d 1))->NK 28 #[Nu mb,fR,OQ ⟨σ.top,σ.top,f.strict⟩ none] X (OY w0 mb af aa es none X (g { σ with calls:=σ.calls+1 }))) :
  NK 301 #[Nu mb,.agg #[Nu a.p,Nr f.scope,NI f.strict],u] w (Oh w0 mb af aa es w (within σ fun σ=>(((g σ).1.1.v,(g σ).1.2.1),(g σ).2))):=by
 have im:=V9;have bI:=ac.lt;obtain⟨cT,dO,aO⟩:=U.form;subst aO;obtain⟨q,ag⟩:=xE a.p;obtain⟨q6,tQ⟩:=xE f.scope;obtain⟨pk,tR⟩:=xE f.strict;obtain⟨w2,de⟩:=xE ((((w.alloc (.cells #[Nu mb] 62)).alloc (.cells #[Nu q,Nr q6,NI pk] 211)).alloc (.cells #[.slice cT vs.length dO] 311)).alloc (.cells #[Nr 0,Nr 0,OG] 65));have aE:NJ w w2:=by rw[de];exact((OM.alloc Oq _).alloc Qa _).alloc Qa _
 obtain⟨dl,b4⟩:=xE w.heap.size;obtain⟨c2,eH⟩:=xE (w.heap.size+1);have bP:=kk (∀{G}(h:G:=by
 have d4:w2.heap[c2]? = some (Og #[Nu q,Nr q6,NI pk] 211):=by
  rw[de,eH,show w.heap.size+1=(w.alloc (.cells #[Nu mb] 62)).heap.size by simp];exact alloc_old (alloc_old (NG _ _))
 have d1:w2.heap[em]? = some (Og #[.slice cT vs.length dO] 311):=by
  rw[de,bm,show w.heap.size+1+1=((w.alloc (.cells #[Nu mb] 62)).alloc (.cells #[Nu q,Nr q6,NI pk] 211)).heap.size by simp];exact alloc_old (NG _ _)
 have hr2:w2.heap[aR]? = some (Og #[Nr 0,Nr 0,OG] 65):=by
  rw[de,b1,show w.heap.size+1+1+1=(((w.alloc (.cells #[Nu mb] 62)).alloc (.cells #[Nu q,Nr q6,NI pk] 211)).alloc (.cells #[.slice cT vs.length dO] 311)).heap.size by simp];exact NG _ _
 have cH:w.heap.size<=aR:=Nw;have ci:aL.ownBlock≠some c2:=fun e=>by
  obtain⟨d0,_,hrow,_⟩:=ac.fu;have:=(hrow.lt c2 e).2;omega
 have eM:=ac.later aE;have cS:=hd.kp (Kp.of aE);have eT:=U.later aE;obtain⟨rs,eD⟩:=xE (within σ fun σ=>(((g σ).1.1.v,(g σ).1.2.1),(g σ).2));have a6:=aa7 (es:=es) eM dP azI (caps:=#[NM dl 0,NM c2 0,NM em 0]) (g:=fun σ=>(((g σ).1.1.v,(g σ).1.2.1),(g σ).2)) bZ (fun vr X aj bF c9=>by
  have Iy:Kp w2 X:=fun b c e D au=>bF b c e D (by rcases au with rfl|rfl <;> decide);refine am4 (f:=f) (a:=a) aZ a' aj (aJ.calls _) hN (cS.kp Iy) E ai eY O iS (bF _ _ _ b0 NH) (b2:=c2) ?_ ci (bF _ _ _ d1 NH) (eT.keep fun b c D=>bF b c 65 D NH) hl (bq vr);rw[<-ag,<-tQ,<-tR];exact bF _ _ _ d4 NH)
 rw[<-eD] at a6 ⊢;rw[<-ag,<-tQ,<-tR];have bj:=hide hr2;have da:=(Om.of (L:=none) aE (Oi bI));have bu:=hide de;have cI:=hide cH;have f0:=hide b4;have cf:=hide eH;have ef:=hide bm;have d8:=hide b1;clear E ai eY O iS bZ bq hr2 b0 d4 d1 ci de cH b4 eH bm b1 eD ag tQ tR a' dP;go_enter func301,ntmps301;go_wp2_with fail;rw[<-bu.out,<-d8.out,<-ef.out,<-cf.out,<-f0.out];refine cm a6 ?_;rintro e aD ⟨⟨ev,rfl,aI⟩,aK,ak⟩;have dG:=hide (ak.keep bj.out NH);have fc:=(da.trans ak)
 obtain⟨v9,qB⟩:=xE rs.1.1;have z:=kk (∀{G}(h:G:=by
 have z:=kk (∀{G}(h:G:=by
 refine bodyPost_ret (v:=.tuple #[vA v9,ev]) (by simp[results,results301,go_sem,bi,aY,aX]) rfl ?_;exact⟨⟨_,by rw[jn.out],aI.O6 bb NH⟩,bv,bx⟩),G);exact akj),G);exact ap6),G);exact ztz
structure Gl (w:Ny):Prop where
 li:Lists PI Pq w
 ta:Tabs w
theorem Gl.later (h:Gl w)(D:NJ w w'):Gl w':=⟨h.li.later D,h.ta.later D⟩
theorem Gl.ms (h:Gl w0)(aZ:Bs w0 mb af aa es)(aK:Ms w0 mb af aa w σ):Gl w:=h.later (by unfold NJ;rw[aZ.sz];exact aK.below)
def evT (s:NR)(st:Bool):Option Tr:=match QK PI Pq s with
 | .ok t=>match chk t st false false with
  | none=>some t
  | some _=>none
 | _=>none
def auP (es:NP)(w:Ny)(r:Option Tr)(e:Ending)(w':Ny):Prop:=NJ w w'/\match r with
 | some t=>∃ p,e=NU (.tuple #[Nu p,.nilIface])/\O7 (From w.heap.size) w' t p
 | none=>∃ ev,e=NU (.tuple #[.pointer none,ev])/\U4 es w' ev (bad SE)
theorem aht (s:NR)(st:Bool)(w:Ny)(hg:Gl w):NK 321 #[ND s,NI st] w (auP es w (evT s st)):=by
 have hP:=parse_any PI Pq s w hg.li Xr hg.ta;obtain⟨r,U⟩:=xE (evT s st);rw[<-U]
 cases al:QK PI Pq s with
 | ok t=>
  rw[al] at hP;have h4:=acg al;have hcnt:=(Vu al).2;have HP:=hP;have ah:=hide (fun p X (aA:SC X t p)=>acn t p st false X aA h4 Nw);obtain⟨c,ai⟩:=xE (chk t st false false);rw[<-ai] at ah
  cases c with
  | none=>
   have aH:r=some t:=by rw[U];unfold evT;rw[al];simp only;rw[<-ai]
   have z:=kk (∀{G}(h:G:=by
   have gw:e=NU Pe:=au;subst gw;have cf:=aE;clear au;go_wp2_with fail;refine bodyPost_ret (v:=.tuple #[Nu p,Pe]) (by simp[results,results321,go_sem]) rfl ?_;exact⟨bM.trans (cf.mono bM.size),p,rfl,O7.later (Below.stay cf) _ _ dE⟩),G);exact azK
  | some er=>
   have aH:r=none:=by rw[U];unfold evT;rw[al];simp only;rw[<-ai]
   have z:=kk (∀{G}(h:G:=by
   have gw:e=NU (.iface 34 (Nr er)):=au;subst gw;have cf:=(bM.trans (aE.mono bM.size));clear au;go_wp2_with fail;refine cm (VH SE w2) ?_;rintro e ao ⟨⟨tb,rfl,_,aI⟩,bm⟩;have ef:=(cf.trans (bm.mono cf.size));exact azL),G);exact azK
 | «at» er pl=>
  have z:=kk (∀{G}(h:G:=by
  rintro e w1 ⟨b,rfl,_,_,D⟩;exact azM),G);exact azN
 | bare=>
  have z:=kk (∀{G}(h:G:=by
  rintro e w1 ⟨rfl,D⟩;exact azM),G);exact azN
theorem am5 (ac:Mx w0 mb af aa aS aB az aL w σ)(aJ:Sz N σ)(hN:N<1000000000)(aq:Int)(nm:NR) :
  NK 354 #[Nu mb,Nr aq,ND nm] w fun e w'=>e=NU (.tuple #[])/\Mx w0 mb af aa aS aB az aL w' (loosen aq nm σ)/\OB Th mb w w':=by
 have bI:=ac.lt;have dr:=(aiI ac.hh aq);have iw:=(arR ac.hh aJ.go.sm (Oi hN) aq nm);obtain⟨o,aM⟩:=xE (σ.M.Ql aq);obtain⟨zv,tL⟩:=xE (σ.M.has aq nm);rw[<-aM] at dr;rw[<-tL] at iw;obtain⟨ck,f'⟩:=xE (loosen aq nm σ);rw[<-f'];unfold loosen at f';rw[<-aM,<-tL] at f';have HP:=hide (fun X (aj:Mx w0 mb af aa aS aB az aL X σ)=>XP aj aJ hN o nm vU false);have d3:=hide (fun X (aj:Mx w0 mb af aa aS aB az aL X σ)=>VJ aj aJ hN aq nm 4 vU);clear aM tL
 cases zv with
 | true=>
  rw[if_pos rfl] at f';rw[f'];have z:=kk (∀{G}(h:G:=by
  go_wp2_with fail
  go_end0
  exact⟨rfl,ac.later bM,OB.of bM (Oi bI)⟩),G);exact auQ
 | false=>
  rw[if_neg Oq] at f'
  by_cases h1:o = -1
  ·rw[if_neg (by simp[h1])] at f';have ba:=hide f';clear f';have z:=kk (∀{G}(h:G:=by
   have dc:=(ac.later D).lt;go_wp2_with fail;refine cm (Ns d3 _ (ac.later bM)) ?_;exact azO),G);exact auQ
  ·rw[if_pos h1] at f';have ba:=hide f';clear f';have z:=kk (∀{G}(h:G:=by
   have dc:=(ac.later D).lt;go_wp2_with fail;refine cm (Ns HP _ (ac.later bM)) ?_;exact azO),G);exact auQ
theorem aa9 {a:Ad}{d:Nd}(hd:Oa aa w a d)(ai:d.2.count<=1500):NK 352 #[Nu a.p] w fun e w'=>(∃ u,e=NU u/\Qu w.heap.size w' u (Ri d.2))/\NJ w w':=by
 obtain⟨i0,d2,dH,b6,cq⟩:=info_parts info9;have cJ:=Qg d.2;have aA:SC w d.2 a.p:=by rw[<-hd.tr];exact hd.at_.nat.nt
 have bA:=(Vx d.2 a.p w aA Nw);have hS:=hide (fun X (aj:NJ w X)=>VY a X (QD.kp (Kp.of aj) _ hd.at_) (by rw[hd.ks];omega))
 obtain⟨V,fV⟩:=xE (O1 d.2);have DG:V.length<=1500:=by
  have z:=kk (∀{G}(h:G:=by
  rw[fV];omega),G);exact aqr
 obtain⟨cW,e3⟩:=xE (a.ks.filter fun k=>RN k.tr);have Mk:cW.length<=1500:=by
  have h1:=List.length_filter_le (fun k:Ad=>RN k.tr) a.ks;rw[e3,<-hd.ks] at *;omega
 have aH:Ri d.2=V++cW.map (fun k=>k.tr.tx):=by
  rw[fV,e3];unfold Ri RS;have h1:d.2.kids=a.ks.map Ad.tr:=by rw[<-hd.tr];exact a.aif.2.2
  rw[h1,List.filter_map,List.map_map];rfl
 rw[aH];rw[<-fV] at bA;rw[<-e3] at hS;obtain⟨q,ag⟩:=xE a.p;rw[<-ag] at bA hS ⊢;clear cJ aH fV e3 ag;go_enter func352,ntmps352;go_wp2_with fail;refine cm bA ?_;rintro e w1 ⟨⟨g4,rfl,hr1⟩,b4⟩;obtain⟨va,dv,oX⟩:=N8 hr1;subst oX;go_wp2_with fail;refine cm (Ns hS w1 b4) ?_;rintro e w2 ⟨⟨gR,rfl,hr2⟩,aE⟩;obtain⟨d0,mf,wn⟩:=hr2.form;subst wn;have Gs:=(N9 hr1 aE);have cf:=(b4.trans (aE.mono b4.size));have hsz2:=cf.size;go_wp2_with fail
 go_loopw [3,11] (fun o i wr=>∃ k:Nat,k<=cW.length/\i=Nr k/\Qu w.heap.size wr o (V++(cW.take k).map (fun k=>k.tr.tx))/\NJ w wr/\Kp w2 wr) (fun _ i _=>cW.length - (intOf i).toNat)
 case atStart=>exact⟨0,Nat.zero_le _,rfl,by simpa using Gs,cf,fun _ _ _ h _=>h⟩
 case round=>
  obtain⟨k,E,rfl,hown,hbel,dd⟩:=hrel;have HOWN:=hown;obtain⟨aC,iK,rfl⟩:=N8 hown;have c9:=hbel.size
  by_cases aQ:k<cW.length
  ·obtain⟨g,cap,ap,hg,ai,aA⟩:=(hr2.kp dd).cell k aQ;simp only[Value.slice.injEq] at ap;obtain⟨rfl,_,rfl⟩:=ap;obtain⟨dL,_,c1,_⟩:=SC.cells aA.nat.nt;have hL:(k:Int)<(cW.length:Int):=Nw;obtain⟨x,dS⟩:=xH ((cW[k]).tr.tx);rw[<-dS.out] at c1;obtain⟨he,m'⟩:=xE ((cW[k]).p);rw[<-m'] at ai dL c1;obtain⟨q3,dV⟩:=xH (V++(cW.take k).map (fun k=>k.tr.tx));obtain⟨m,hU⟩:=xH q3.length;have dc:m<=3000:=by rw[hU.out,dV.out];simp;omega
   rw[<-dV.out] at HOWN ⊢;have nz:World.ownsRow wr w.heap.size 9 1 (.slice aC m iK) m (q3.map Value.string):=by
    show World.ownsRow _ _ _ _ _ _ _
    rw[hU.out];exact HOWN
   rw[<-hU.out];clear m';have z:=kk (∀{G}(h:G:=by
   have cn:NJ wr (wr.alloc (.cells #[ND x] 9)):=OM;have vI:OB [9] w.heap.size (wr.alloc (.cells #[ND x] 9)) ao:=OB.grown hgrow Qa fun b D=>by
    obtain⟨c,ai⟩:=OZ (nz.alloc _) D;exact⟨by have:=(O9 nz b D).2;omega,c,9,ai,by simp⟩
   have jz:Kp w2 ao:=fun b c e D au=>vI.rest b c e (Kp.of cn b c e (dd b c e D au) au) (by rcases au with rfl|rfl <;> decide);clear iD;go_wp2_with fail;refine⟨⟨k+1,by omega,by go_num,?_,ef,jz⟩,by simp[intOf];omega⟩
   rw[List.take_succ_eq_append_getElem aQ,List.map_append,<-List.append_assoc,<-dV.out]
   show World.ownsRow _ _ _ _ _ _ _
   rw[List.length_append,List.map_append,<-hU.out]
   show World.ownsRow _ _ _ _ _ _ (_++[Value.string (cW[k]).tr.tx])
   rw[<-dS.out];exact hown'),G);exact axE
  ·have cM:k=cW.length:=Nw;subst cM;have hL:¬ (cW.length:Int)<(cW.length:Int):=Nw;go_wp2_with fail;go_ret;refine⟨⟨_,rfl,?_⟩,hbel⟩;have h:=HOWN;rw[List.take_length,List.length_append,List.length_map] at h;exact h
theorem am6 {M:Mo}(ok:M.Ok){s:Int}(h0:0<=s):-1<=M.outOf s/\M.outOf s<s:=by
 unfold Mo.outOf
 rcases OX M s with ⟨h1,_⟩|⟨i,x,rfl,ac,h1⟩
 ·rw[h1];exact⟨by decide,by show (-1:Int)<s;omega⟩
 ·rw[h1];exact ok.out i x ac
theorem am7 (aK:Ms w0 mb af aa w σ)(aJ:Sz N σ)(hN:N<1000000000){a:Ad}{d:Nd}(hd:Oa aa w a d)(ai:d.2.count<=1500)(p:Pl)(aC:Option Addr)(al:0<=p.scope/\p.scope<σ.M.NQ.length) :
  NK 339 #[Nu mb,Nu a.p,OQ p aC] w fun e w'=>e=NU (NI (hidden σ.M d.2 p))/\NJ w w':=by
 have bI:=aK.lt;have z:=kk (∀{G}(h:G:=by
 have dF:=hide bK;have pU:=(aa9 (hd.kp (Kp.of aE)) ai);obtain⟨l,hl⟩:=xE (Ri d.2);rw[<-hl] at pU;have il:l.length<=3000:=by
  have z:=kk (∀{G}(h:G:=by
  have ax:=List.length_filter_le RN d.2.kids;have aU:=Qg d.2;rw[hl];unfold Ri;rw[List.length_append,List.length_map];show _+(d.2.kids.filter RN).length<=_;omega),G);exact aqr
 obtain⟨M,vu⟩:=xE σ.M;obtain⟨ap,B8⟩:=xH (fun nm=>aff M nm aF (M.NQ.length+1) aq:NR->Bool);obtain⟨R,dk⟩:=xH (l.any ap);have aH:hidden σ.M d.2 ⟨aq,aF,st⟩=R:=by rw[dk.out,B8.out,hl,vu];rfl
 rw[aH];have f2:=hide (fun X (aj:NJ w X) (s:Int) (nm:NR)=>by
  obtain⟨_,_,_,_,ac⟩:=aK.later aj;exact atL ac.hh aJ.go.sm (Oi hN) s nm)
 have dr:=hide (fun X (aj:NJ w X) (s:Int)=>by
  obtain⟨_,_,_,_,ac⟩:=aK.later aj;exact apG ac.hh s)
 rw[<-vu] at f2 dr al;have vY:M.Ok:=by rw[vu];exact aJ.go.ok
 have Mi:M.NQ.length<=1000000000:=by have:=aJ.go.sm.r;rw[vu];omega
 obtain⟨q,ag⟩:=xE a.p;rw[<-ag] at pU ⊢;have Mf:0<=aq:=al.1;have hsc1:aq<M.NQ.length:=al.2;clear bK hl vu aH ag al;go_enter func339,ntmps339;go_wp2_with fail;rw[<-bu.out,<-bU];clear bU;refine cm pU ?_;rintro e ao ⟨⟨j7,rfl,iI⟩,bm⟩;obtain⟨va,dv,wo⟩:=N8 iI;subst wo;have ef:=(aE.trans (bm.mono aE.size));have fi:=hide (stays bm dF.out);go_wp2_with fail
 go_loopw [14] (fun i wr=>∃ k:Nat,k<=l.length/\i=Nr k/\(l.take k).any ap=false/\NJ w wr/\NJ ao wr) (fun i _=>l.length - (intOf i).toNat)
 case atStart=>exact⟨0,Nat.zero_le _,rfl,rfl,ef,P8⟩
 case round=>
  obtain⟨k,E,rfl,hany,hbel,sx⟩:=hrel;have yl:=hide hany;have Mj:=hbel.size;clear hany
  by_cases aQ:k<l.length
  ·obtain⟨g,cap,eT,hg,_,eH⟩:=S9 (N9 iI sx) k aQ;simp only[Value.slice.injEq] at eT;obtain⟨rfl,_,rfl⟩:=eT;have hL:(k:Int)<(l.length:Int):=Nw;obtain⟨x,ac⟩:=xE (l[k]);rw[<-ac] at eH;have dS:=hide ac;obtain⟨aW,p1,cr,cL,_,dY⟩:=cells4 (stays sx fi.out);clear ac;go_wp2_with fail;clear eH aW p1 cr cL dY
   go_loopw [9] (fun i E1=>∃ (s:Int) (f:Nat),i=Nr s/\-1<=s/\s<M.NQ.length/\s<f/\aff M x aF f s=ap x/\NJ w E1/\NJ ao E1) (fun i _=>((intOf i)+1).toNat)
   case atStart=>exact⟨aq,M.NQ.length+1,rfl,by omega,hsc1,by omega,by rw[B8.out],hbel,sx⟩
   case round=>
    obtain⟨s,f,rfl,pJ,nc,Mh,EA,oE,Al⟩:=hrel;have xe:=hide EA;have I7:=oE.size;clear EA
    by_cases h1:s = -1
    ·subst h1;have Bh:ap x=false:=by
      rw[<-xe.out]
      cases f with
      | zero=>rfl
      | succ f=>rw[aff,if_pos rfl]
     have uW:=hide Bh;clear Bh;go_wp2_with fail;refine⟨⟨k+1,by omega,by go_num,?_,oE,Al⟩,by simp[intOf];omega⟩
     rw[List.take_succ_eq_append_getElem aQ,List.any_append,yl.out,<-dS.out];simp[uW.out]
    ·obtain⟨f,rfl⟩:∃ gV,f=gV+1:=⟨f - 1,by omega⟩;have I4:0<=s:=Nw;obtain⟨rA,AI⟩:=xE (M.kindOf s x);have eA:aff M x aF (f+1) s=if rA=1\/rA=2 then true else if s=aF then false else aff M x aF f (M.outOf s):=by rw[aff,if_neg h1,AI]
     have p0:=(Ns f2 wr oE s x);rw[<-AI] at p0;have vP:mb<wr.heap.size:=Nw;clear AI
     by_cases sP:rA=1\/rA=2
     ·have Ez:ap x=true:=by rw[<-xe.out,eA,if_pos sP]
      have zU:R=true:=by
       rw[dk.out];refine List.any_eq_true.2 ⟨l[k],List.getElem_mem _,?_⟩;rw[<-dS.out];exact Ez
      subst zU;clear eA Ez
      by_cases bV:rA=1
      ·subst bV;clear sP;exact azP
      ·have dB:rA=2:=Nw;subst dB;clear sP bV;exact azP
     ·rw[if_neg sP] at eA;have bV:(rA==1)=false:=beq_eq_false_iff_ne.2 fun e=>sP (.inl e);have dB:(rA==2)=false:=beq_eq_false_iff_ne.2 fun e=>sP (.inr e);clear sP
      by_cases A7:s=aF
      ·rw[if_pos A7] at eA;have uW:Hid (ap x=false):=xe.out.symm.trans eA;clear eA;subst A7;have z:=kk (∀{G}(h:G:=by
       obtain⟨aW,p1,cr,cL,_,dY⟩:=cells4 kH.out;go_wp2_with fail;refine⟨⟨k+1,by omega,by go_num,?_,jU,yp⟩,by simp[intOf];omega⟩
       rw[List.take_succ_eq_append_getElem aQ,List.any_append,yl.out,<-dS.out];simp[uW.out]),G);exact auR
      ·rw[if_neg A7] at eA;have hB:=hide eA;obtain⟨so,A9⟩:=xE (M.outOf s);have nN:=am6 vY I4;rw[<-A9] at hB nN;have Cn:=hide (fun X (aj:NJ w X)=>Ns dr X aj s);rw[<-A9] at Cn;clear eA A9;have z:=kk (∀{G}(h:G:=by
       obtain⟨aW,p1,cr,cL,_,dY⟩:=cells4 kH.out;go_wp2_with fail;refine cm (Ns Cn _ jU) ?_;rintro e b' ⟨rfl,rfl⟩;clear aW p1 cr cL dY;go_wp2_with fail;exact⟨⟨so,f,rfl,nN.1,by omega,by omega,hB.out.symm.trans xe.out,jU,yp⟩,by simp[intOf];omega⟩),G);exact auR
  ·have z:=kk (∀{G}(h:G:=by
   go_wp2_with fail;go_ret;refine⟨?_,hbel⟩;have h:=Ns yl;rw[List.take_length] at h;rw[dk.out,h];rfl),G);exact aqs),G);exact zsr
theorem aqt (ac:Mx w0 mb af aa aS aB az aL w σ)(aJ:Sz N σ)(hN:N<1000000000)(s:Int)(nm:NR)(v:Va) :
  NK 267 #[Nu mb,Nr s,ND nm,vA v] w fun e w'=>e=NU (RY (σ.M.write s nm v).1)/\Mx w0 mb af aa aS aB az aL w' { σ with M:=(σ.M.write s nm v).2 }/\OB Th mb w w':=by
 refine(adn ac.hh aJ.go.sm (Oi hN) s nm v).mono ?_;rintro e w' ⟨rfl,h1,O⟩;exact⟨rfl,ac.heap h1 O,O⟩
def loF (aF:Int)(l:List NR)(k:Nat)(σ:St):St:=(l.take k).foldl (fun σ nm=>loosen aF nm σ) σ
theorem afE (aF:Int)(l:List NR)(k:Nat)(σ:St)(hl:k<l.length):loF aF l (k+1) σ=loosen aF l[k] (loF aF l k σ):=by
 unfold loF;exact am3
theorem Sz.loosen (h:Sz N σ)(s:Int)(nm:NR):Sz (N+1) (loosen s nm σ):=by
 unfold Hp.loosen
 split
 ·exact h.up (Nat.le_succ _)
 ·split
  ·exact h.Qo _ _ _ _
  ·exact h.dec _ _ _ _
theorem adO (s:Int)(nm:NR)(σ:St):(loosen s nm σ).M.NQ.length=σ.M.NQ.length:=by
 unfold loosen
 split
 ·rfl
 ·split
  ·exact Zb _ _ _ _ _
  ·exact Ue _ _ _ _ _
theorem aky (aF:Int)(l:List NR)(k:Nat):∀ {σ:St},(loF aF l k σ).M.NQ.length=σ.M.NQ.length:=by
 intro σ;unfold loF
 generalize l.take k=jQ
 induction jQ generalizing σ with
 | nil=>rfl
 | cons a l bR=>exact bR.trans (adO _ _ _)
theorem Sz.loF (aF:Int)(l:List NR):∀ (k:Nat) {σ:St},Sz N σ->k<=l.length->Sz (N+k) (loF aF l k σ)
 | 0,_,h,_=>h
 | k+1,σ,h,E=>by
  rw[afE aF l k σ Nw];exact(Sz.loF aF l k h Nw).loosen _ _
def fwF (p:Pl)(k:Nd)(σ:St):St:={ (mkFun k p σ).2 with M:=((mkFun k p σ).2.M.write p.declares k.2.tx (mkFun k p σ).1).2 }
def evF (p:Pl)(a1:List Nd)(k:Nat)(σ:St):St:=(a1.take k).foldl (fun σ k=>fwF p k σ) σ
theorem afF (p:Pl)(a1:List Nd)(k:Nat)(σ:St)(hl:k<a1.length):evF p a1 (k+1) σ=fwF p a1[k] (evF p a1 k σ):=by
 unfold evF;exact am3
theorem Sz.fwF (h:Sz N σ)(p:Pl)(k:Nd):Sz (N+2) (fwF p k σ):=(h.mkFun k p).heap (Nat.le_succ _) ((h.mkFun k p).go.write _ _ _) (Xh _ _ _ _)
theorem Sz.evF (p:Pl)(a1:List Nd):∀ (k:Nat) {σ:St},Sz N σ->k<=a1.length->Sz (N+2 * k) (evF p a1 k σ)
 | 0,_,h,_=>h
 | k+1,σ,h,E=>by
  rw[afF p a1 k σ Nw];exact(Sz.evF p a1 k h Nw).fwF _ _
theorem ahv (d:Nd)(p:Pl)(σ:St):NW d p σ=if 0<(OC d.2).length then
   ({ p with scope:=(loF p.declares (Ri d.2) (Ri d.2).length σ).top },evF { p with scope:=(loF p.declares (Ri d.2) (Ri d.2).length σ).top } (Sl d) (Sl d).length (PK (OC d.2) (loF p.declares (Ri d.2) (Ri d.2).length σ).top ((loF p.declares (Ri d.2) (Ri d.2).length σ).opn p.scope (-1) (-3))))
  else (p,evF p (Sl d) (Sl d).length (loF p.declares (Ri d.2) (Ri d.2).length σ)):=by
 unfold NW evF loF;rw[List.take_length,List.take_length];simp only
 split <;> rfl
theorem afG (ac:Mx w0 mb af aa aS aB az aL w σ)(aJ:Sz N σ)(hN:N+9000<1000000000){a:Ad}{d:Nd}(hd:Oa aa w a d)(ai:d.2.count<=1500)(O:∀ k ∈ Sl d,k.2.kids.length=2)(p:Pl)(aC:Option Addr)(iS:0<=p.scope/\p.scope<σ.M.NQ.length) :
  NK 340 #[Nu mb,Nu a.p,OQ p aC] w fun e w'=>e=NU (OQ (NW d p σ).1 aC)/\∃ TW Vd,Mx w0 mb af aa aS aB TW Vd w' (NW d p σ).2/\P9 mb az aL TW Vd w w':=by
 have bI:=ac.lt;have qn:=ahv d p σ;obtain⟨aq,aF,st⟩:=p;obtain⟨w2,bu⟩:=xH ((w.alloc (.cells #[Nr aq,Nr aF,NI st,.pointer aC] 73)).alloc (.cells #[Nr 0,Nr 0,NI false,Qb] 73));have z:=kk (∀{G}(h:G:=by
 have hr2:w2.heap[aR]? = some (Og #[Nr 0,Nr 0,NI false,Qb] 73):=by
  exact amx
 have d5:bc≠aR:=Nw;have cH:w.heap.size<=aR:=Nw;have ds:w.heap.size<=bc:=Nw;have cJ:=Qg d.2;have cS:=hd.kp (Kp.of aE);have pU:=(aa9 cS ai);obtain⟨l,hl⟩:=xE (Ri d.2);obtain⟨a1,hds⟩:=xE (Sl d);obtain⟨ls,uK⟩:=xH (OC d.2);obtain⟨cW,e3⟩:=xE (a.ks.filter fun k=>RN k.tr);obtain⟨vk,js⟩:=xE (a.ks.filter fun k=>OI k.tr);have fm:RV aa w2 cW a1:=by rw[e3,hds];exact RV.filter RN _ _ cS.ndl
 have hell:cW.length=a1.length:=RV.len _ _ fm;have LF:vk.length=ls.length:=by
  rw[js,uK.out]
  show _=(d.2.kids.filter OI).length
  have h1:d.2.kids=a.ks.map Ad.tr:=by rw[<-hd.tr];exact a.aif.2.2
  rw[h1,List.filter_map,List.length_map];rfl
 have xD:a1.length<=1500:=by
  exact azQ
 have II:ls.length<=1500:=by
  have ax:=List.length_filter_le OI d.2.kids;rw[uK.out];show (d.2.kids.filter OI).length<=_;omega
 have il:l.length<=3000:=by
  have z:=kk (∀{G}(h:G:=by
  have ax:=List.length_filter_le RN d.2.kids;rw[hl];unfold Ri;rw[List.length_append,List.length_map];show _+(d.2.kids.filter RN).length<=_;omega),G);exact aqr
 rw[<-hl] at pU;rw[<-hl,<-hds,<-uK.out] at qn;rw[<-hds] at O;obtain⟨rs,eD⟩:=xE (NW d ⟨aq,aF,st⟩ σ);rw[<-eD] at qn ⊢;obtain⟨q,bo⟩:=xH a.p;have ej:=(ac.later aE);have da:=(P9.of (o:=az) (f:=aL) aE (Oi bI));have dF:=hide bK;have bj:=hide hr2;have bS:=hide (fun X (aj:QD (fun _=>True) X a)=>acv a X aj (by rw[hd.ks];omega))
 have nk:=hide (fun X (aj:QD (fun _=>True) X a)=>VY a X aj (by rw[hd.ks];omega))
 rw[<-js] at bS;rw[<-e3] at nk;have rP:=hide qn;have gT:=hide O;have cI:=hide cH;rw[<-bo.out] at pU bS nk ⊢;clear ac bK hr2 qn eD hl hds e3 js O cH;go_enter func340,ntmps340;go_wp2_with fail;rw[<-bu.out,<-b1,<-bU];clear bU b1;refine cm pU ?_;have z:=kk (∀{G}(h:G:=by
 have fi:=hide (stays bm dF.out);have zb:=hide (stays bm bj.out);have jz:Kp w2 ao:=Kp.of bm;go_wp2_with fail
 go_loopw [14] (fun i wr=>∃ k:Nat,k<=l.length/\i=Nr k/\Mx w0 mb af aa aS aB az aL wr (loF aF l k σ)/\P9 mb az aL az aL w wr/\wr.heap[bc]? = some (Og #[Nr aq,Nr aF,NI st,.pointer aC] 73)/\wr.heap[aR]? = some (Og #[Nr 0,Nr 0,NI false,Qb] 73)/\Qu w2.heap.size wr (.slice va l.length dv) l/\Kp w2 wr) (fun i _=>l.length - (intOf i).toNat)
 case atStart=>exact⟨0,Nat.zero_le _,rfl,eF,cV,fi.out,zb.out,iI,jz⟩
 case round=>
  obtain⟨k,E,rfl,ju,f8,pG,kU,kq,oL⟩:=hrel;have z:=kk (∀{G}(h:G:=by
  by_cases aQ:k<l.length
  ·obtain⟨g,cap,ap,hg,_,eH⟩:=S9 kq k aQ;have z:=kk (∀{G}(h:G:=by
   obtain⟨x,ac⟩:=xE (l[k]);rw[<-ac] at eH;have dS:=hide ac;obtain⟨dy,gO⟩:=xE (loF aF l k σ);rw[<-gO] at eP;have jP:Sz (N+k) dy:=by rw[gO];exact Sz.loF aF l k aJ Nw
   have ba:=(am5 eP jP Nw aF x);have nC:=hide gO;obtain⟨aW,p1,cr,cL,_,dY⟩:=cells4 fD.out;clear ac gO;go_wp2_with fail;refine cm ba ?_;rintro e b3 ⟨rfl,j5,bb⟩;have l8:=j5;have mK:=(kD.VL bb);have rZ:=hide (bb.rest _ _ _ fD.out NH);have og:=hide (bb.rest _ _ _ bY.out NH);have uV:=(N7 kq bb NH);have pY:Kp w2 b3:=fun b c e D au=>OB.kp bb b c e (jk b c e D au) au;clear aW p1 cr cL dY eH;go_wp2_with fail;refine⟨⟨k+1,by omega,by go_num,?_,mK,rZ.out,og.out,uV,pY⟩,by simp[intOf];omega⟩
   rw[afE aF l k σ aQ,<-dS.out,<-nC.out];exact l8),G);exact ajQ
  ·have z:=kk (∀{G}(h:G:=by
   obtain⟨rF,rv⟩:=xE (loF aF l l.length σ);rw[<-rv] at eP rP;have qC:Sz (N+3000) rF:=by rw[rv];exact(Sz.loF aF l l.length aJ OH).up Nw
   have dV:=(Ns bS wr (QD.kp jk _ cS.at_));have Gw:Hid ((rF.M.ro aq).isSome=true):=Po.some (p:=⟨aq,aF,st⟩) ⟨iS.1,by rw[rv,aky];exact iS.2⟩
   clear rv;go_wp2_with fail;refine cm dV ?_;rintro e bB ⟨⟨um,rfl,oS⟩,du⟩;obtain⟨la,hu,I'⟩:=oS.form;subst I';have f3:=(eP.later du);have fI:=(kD.trans (P9.of du (Oi h6)));have kH:=hide (stays du fD.out);have gA:=hide (stays du bY.out);have kE:Kp w2 bB:=fun b c e D au=>Kp.of du b c e (jk b c e D au) au;have gx:=f3.lt
   by_cases hpos:0<ls.length
   ·have js:(vk.length:Int) > 0:=Nw;obtain⟨dT,gL⟩:=xE (rF.top:Int);obtain⟨ur,xZ⟩:=xE (rF.opn aq (-1) (-3));obtain⟨fH,hb⟩:=xE (PK (OC d.2) dT ur);have BZ:Hid (rs=(⟨dT,aF,st⟩,evF ⟨dT,aF,st⟩ a1 a1.length fH)):=by
     show _=_
     rw[rP.out,if_pos hpos,hb,xZ,gL,<-uK.out]
    have cg:=(X4 f3 qC Nw aq (-1) (-3) Gw.out);rw[<-gL,<-xZ] at cg;have EG:Sz (N+3001) ur:=by rw[xZ];exact qC.opn _ _ _
    have nD:Sz (N+5000) fH:=by
     show Sz _ _
     rw[hb];refine(EG.lets (OC d.2) dT).up ?_;rw[<-uK.out];omega
    have s9:=hide (fun X gP gV (aj:Mx w0 mb af aa aS aB gP gV X ur) (qm:Oa aa X a d)=>adP aj EG qm Nw Nw dT);rw[<-hb,<-bo.out] at s9;obtain⟨aW,p1,cr,cL,gQ,dY⟩:=cells4 kH.out;clear gL xZ hb;go_wp2_with fail;refine cm cg ?_;rintro e b' ⟨rfl,Bx,lS,g9⟩;have DS:=g9.ZO (L:=none) f3;have gq:=(fI.trans g9);have i6:=hide (DS.keep kH.out NH);have fM:=hide (DS.keep gA.out NH);have lZ:Kp w2 b':=fun b c e D au=>g9.kp f3 b c e (kE b c e D au) au;clear aW p1 cr cL gQ dY
    obtain⟨aW,p1,cr,cL,gQ,dY⟩:=cells4 i6.out;have o6:=gQ 0;clear gQ;go_wp2_with fail;have lP:mb<=bc:=Nw;have Bb:=U6 (j:=0) i6.out lP (Nr dT);obtain⟨b9,g2⟩:=xE (b'.setCell (Nv bc 0) (Nr dT));have l7:=(lS.Xd Bb NH);have AV:=XE i6.out (Nr dT);have hA:Hid (b9.heap[aR]? = some (Og #[Nr 0,Nr 0,NI false,Qb] 73)):=by
     show _=_
     rw[g2,heap_setCell_other _ _ _ _ (Ne.symm d5)];exact Ns fM
    have j9:=(gq.new Bb (YF ds _));have nq:Kp w2 (b'.setCell (Nv bc 0) (Nr dT)):=fun b c e D au=>Bb.rest b c e (lZ b c e D au) (by rcases au with rfl|rfl <;> decide);rw[<-g2] at l7 AV j9 nq ⊢;have l1:=hide AV;clear g2 AV aW p1 cr cL o6 dY;have rk:=l7.lt;refine cm (Ns s9 b9 _ _ l7 (cS.kp nq)) ?_;rintro e jf ⟨rfl,t6,rc⟩;obtain⟨sQ,tW⟩:=xE Bx;rw[<-tW] at t6 j9;have k':=t6;have ig:=(j9.VL rc);have iM:=hide (rc.rest _ _ _ l1.out NH);have gb:=hide (rc.rest _ _ _ hA.out NH)
    have k5:Kp w2 jf:=fun b c e D au=>OB.kp rc b c e (nq b c e D au) au;have mn:=t6.lt;clear tW;exact azR
   ·have js:¬ (vk.length:Int) > 0:=Nw;obtain⟨dT,gL⟩:=xE (aq:Int);obtain⟨fH,hb⟩:=xE rF;obtain⟨jf,lp⟩:=xE bB;obtain⟨sQ,tW⟩:=xE az;have BZ:Hid (rs=(⟨dT,aF,st⟩,evF ⟨dT,aF,st⟩ a1 a1.length fH)):=by
     show _=_
     rw[rP.out,if_neg hpos,hb,gL]
    have nD:Sz (N+5000) fH:=by show Sz _ _;rw[hb];exact qC.up Nw
    have k':Mx w0 mb af aa aS aB sQ aL jf fH:=by show Mx _ _ _ _ _ _ _ _ _ _;rw[tW,lp,hb];exact f3
    have ig:P9 mb az aL sQ aL w jf:=by show P9 _ _ _ _ _ _ _;rw[tW,lp];exact fI
    have iM:Hid (jf.heap[bc]? = some (Og #[Nr dT,Nr aF,NI st,.pointer aC] 73)):=by show _=_;rw[lp,gL];exact Ns kH
    have gb:Hid (jf.heap[aR]? = some (Og #[Nr 0,Nr 0,NI false,Qb] 73)):=by show _=_;rw[lp];exact Ns gA
    have k5:Kp w2 jf:=by show Kp _ _;rw[lp];exact kE
    have mn:=k'.lt;rw[<-lp];clear gL hb lp tW;exact azR),G);exact aqs),G);exact auS),G);exact azS),G);exact zsd
def evR (e:Er)(l:Option Va)(σ:St):(Va × Er) × St:=match e with
 | .no=>((l.getD vU,.no),σ)
 | e=>((vU,e),σ)
section
variable {b:Nat} {x y bE v:NP} {t:TypeId} (h:w.heap[b]? = some (Og #[x,y,bE,v] t)) (v':NP)
include b x y bE v t h v'
theorem aqu:(w.setCell (Nv b 3) v').heap[b]? = some (Og #[x,y,bE,v'] t):=heap_setCell_same w b 3 _ t v' h
theorem aiP:(w.setCell (Nv b 2) v').heap[b]? = some (Og #[x,y,v',v] t):=heap_setCell_same w b 2 _ t v' h
theorem aqv:(w.setCell (Nv b 1) v').heap[b]? = some (Og #[x,v',bE,v] t):=heap_setCell_same w b 1 _ t v' h
end
section
variable (ae:Yh es) (ac:Mx w0 mb af aa aS aB az aL w σ) (aJ:Sz N σ) (hN:N+10000<1000000000) {a:Ad} {d:Nd} (hd:Oa aa w a d) (ai:d.2.count<=1500) (O:∀ k ∈ Sl d,k.2.kids.length=2) (aq aF:Int) (aC:Option Addr) (al:0<=aq/\aq<σ.M.NQ.length) {bL:(Va × Er) × St} (kB:Pl->St->Prop) (aI:kB ⟨σ.top,σ.top,true⟩ (σ.opn aq (-1) (-3))) (bq:∀ X u (lb:Nat) (cE:Pl) (bO:St),mb<=lb->kB cE bO->Ms w0 mb af aa X (NW d cE bO).2->QT 0 X u a.ks->RV aa X a.ks (O3 d)->NY X (some lb) (some vU)->NK 28 #[Nu mb,u,OQ (NW d cE bO).1 (LA (some lb))] X (OY w0 mb af aa es (some lb) X (QC F (NW d cE bO).1 (O3 d) (some vU) (NW d cE bO).2))) (br:bL=evR (QC F (NW d ⟨σ.top,σ.top,true⟩ (σ.opn aq (-1) (-3))).1 (O3 d) (some vU) (NW d ⟨σ.top,σ.top,true⟩ (σ.opn aq (-1) (-3))).2).1.2.1 (QC F (NW d ⟨σ.top,σ.top,true⟩ (σ.opn aq (-1) (-3))).1 (O3 d) (some vU) (NW d ⟨σ.top,σ.top,true⟩ (σ.opn aq (-1) (-3))).2).1.2.2 (QC F (NW d ⟨σ.top,σ.top,true⟩ (σ.opn aq (-1) (-3))).1 (O3 d) (some vU) (NW d ⟨σ.top,σ.top,true⟩ (σ.opn aq (-1) (-3))).2).2)
include ae ac aJ hN a d hd ai O aq aF aC al bL kB aI bq br
theorem am8 :
  NK 322 #[Nu mb,Nu a.p,OQ ⟨aq,aF,true⟩ aC] w (Oh w0 mb af aa es w bL):=by
 have bI:=ac.lt;obtain⟨w2,bu⟩:=xH ((w.alloc (.cells #[Nr aq,Nr aF,NI true,.pointer aC] 73)).alloc (.cells #[Nr 0,Nr 0,OG] 65));have z:=kk (∀{G}(h:G:=by
 have bK:w2.heap[bc]? = some (Og #[Nr aq,Nr aF,NI true,.pointer aC] 73):=by rw[bu.out,bU];exact alloc_old (NG _ _)
 have hr2:w2.heap[aR]? = some (Og #[Nr 0,Nr 0,OG] 65):=by
  rw[bu.out,b1,show w.heap.size+1=(w.alloc (.cells #[Nr aq,Nr aF,NI true,.pointer aC] 73)).heap.size by simp];exact NG _ _
 have z:=kk (∀{G}(h:G:=by
 have z:=kk (∀{G}(h:G:=by
 have ah:=hide bq;have cI:=hide cH;have dc:=ej.lt;have z:=kk (∀{G}(h:G:=by
 obtain⟨bf,gM⟩:=xE w2;have qb:Mx w0 mb af aa aS aB az aL bf σ:=by show Mx _ _ _ _ _ _ _ _ _ _;rw[gM];exact ej
 have p6:Hid (bf.heap[bc]? = some (Og #[Nr aq,Nr aF,NI true,.pointer aC] 73)):=by show _=_;rw[gM];exact Ns dF
 have fE:Hid (bf.heap[aR]? = some (Og #[Nr 0,Nr 0,OG] 65)):=by show _=_;rw[gM];exact Ns bj
 have wX:Om none mb w bf:=by show Om _ _ _ _;rw[gM];exact da
 have p0:Kp w2 bf:=fun b c e D _=>by rw[gM];exact D
 rw[<-gM];clear bU b1 gM;exact azU),G);exact azV),G);exact aqw),G);exact zsg),G);exact zse
theorem am9 (dA:Ou d.2=true) :
  NK 322 #[Nu mb,Nu a.p,OQ ⟨aq,aF,false⟩ aC] w (Oh w0 mb af aa es w bL):=by
 have z:=kk (∀{G}(h:G:=by
 have z:=kk (∀{G}(h:G:=by
 have z:=kk (∀{G}(h:G:=by
 have z:=kk (∀{G}(h:G:=by
 have z:=kk (∀{G}(h:G:=by
 have ah:=hide bq;have z:=kk (∀{G}(h:G:=by
 clear dA;have z:=kk (∀{G}(h:G:=by
 have bP:=kk (∀{G}(h:G:=by
 have kW:=U6 (j:=2) dF.out lP (NI true);have gi:=aiP dF.out (NI true);obtain⟨bf,gM⟩:=xE (w2.setCell (Nv bc 2) (NI true));rw[<-gM] at kW gi ⊢;have qb:=(ej.Xd kW NH);have p6:=hide gi;have bP:=kk (∀{G}(h:G:=by
 clear gM gi aW p1 cr cL wJ dY;exact azU),G);exact zth),G);exact azX),G);exact azV),G);exact auT),G);exact aqw),G);exact zsg),G);exact auU),G);exact zse),G);exact auV
end
theorem ana (ac:Mx w0 mb af aa aS aB az aL w σ)(aJ:Sz N σ)(hN:N+10000<1000000000){a:Ad}{d:Nd}(hd:Oa aa w a d)(ai:d.2.count<=1500)(aq aF:Int)(aC:Option Addr)(al:0<=aq/\aq<σ.M.NQ.length){bL:(Va × Er) × St}
   (br:bL=((vU,bad SE),σ)) (dA:Ou d.2=false) (fk:hidden σ.M d.2 ⟨aq,aF,false⟩=true) :
  NK 322 #[Nu mb,Nu a.p,OQ ⟨aq,aF,false⟩ aC] w (Oh w0 mb af aa es w bL):=by
 have z:=kk (∀{G}(h:G:=by
 have z:=kk (∀{G}(h:G:=by
 have z:=kk (∀{G}(h:G:=by
 have z:=kk (∀{G}(h:G:=by
 have z:=kk (∀{G}(h:G:=by
 have z:=kk (∀{G}(h:G:=by
 have z:=kk (∀{G}(h:G:=by
 rw[<-bo.out];clear bK hr2 br al dA fk;have z:=kk (∀{G}(h:G:=by
 have gb:=hide (stays rb fE.out);have ns:Ms w0 mb af aa jf σ:=⟨_,_,_,_,qb.later rb⟩;have ig:=(wX.trans (Om.of (L:=none) rb (Oi D9)));have mn:=ns.lt;clear gM gi aW p1 cr cL wJ dY;go_wp2_with fail;refine cm (TA (es:=es) mn SE) ?_;rintro e fq ⟨⟨ev,rfl,aI⟩,cp⟩;have d8:=hide (stays cp gb.out);have k6:=(ns.later cp);have jW:=(ig.trans (Om.of (L:=none) cp (Oi mn)));obtain⟨cy,bQ,b5,dn,dp,dq,rl⟩:=Ot d8.out;have z:=kk (∀{G}(h:G:=by
 refine bodyPost_ret (v:=.tuple #[vA vU,ev]) (by simp[results,results322,go_sem,bi,aY,aX,vU]) rfl ?_;rw[lD.out];exact⟨⟨_,rfl,aI.O6 bb NH⟩,bv,bx⟩),G);exact auW),G);exact azY),G);exact azZ),G);exact auT),G);exact aqw),G);exact zsg),G);exact auU),G);exact zse),G);exact auV
theorem anb (ae:Yh es)(ac:Mx w0 mb af aa aS aB az aL w σ)(aJ:Sz N σ)(hN:N+10000<1000000000){a:Ad}{d:Nd}(hd:Oa aa w a d)(ai:d.2.count<=1500)(O:∀ k ∈ Sl d,k.2.kids.length=2)(aq aF:Int)(aC:Option Addr)(al:0<=aq/\aq<σ.M.NQ.length){bL:(Va × Er) × St}
  (kB:Pl->St->Prop) (aI:kB ⟨aq,aF,false⟩ σ)
  (bq:∀ X u (lb:Nat) (cE:Pl) (bO:St),mb<=lb->kB cE bO->Ms w0 mb af aa X (NW d cE bO).2->QT 0 X u a.ks->RV aa X a.ks (O3 d)->NY X (some lb) (some vU)->NK 28 #[Nu mb,u,OQ (NW d cE bO).1 (LA (some lb))] X (OY w0 mb af aa es (some lb) X (QC F (NW d cE bO).1 (O3 d) (some vU) (NW d cE bO).2)))
  (br:bL=evR (QC F (NW d ⟨aq,aF,false⟩ (σ)).1 (O3 d) (some vU) (NW d ⟨aq,aF,false⟩ (σ)).2).1.2.1 (QC F (NW d ⟨aq,aF,false⟩ (σ)).1 (O3 d) (some vU) (NW d ⟨aq,aF,false⟩ (σ)).2).1.2.2 (QC F (NW d ⟨aq,aF,false⟩ (σ)).1 (O3 d) (some vU) (NW d ⟨aq,aF,false⟩ (σ)).2).2) (dA:Ou d.2=false) (fk:hidden σ.M d.2 ⟨aq,aF,false⟩=false) :
  NK 322 #[Nu mb,Nu a.p,OQ ⟨aq,aF,false⟩ aC] w (Oh w0 mb af aa es w bL):=by
 have z:=kk (∀{G}(h:G:=by
 have z:=kk (∀{G}(h:G:=by
 have z:=kk (∀{G}(h:G:=by
 have z:=kk (∀{G}(h:G:=by
 have z:=kk (∀{G}(h:G:=by
 have ah:=hide bq;have z:=kk (∀{G}(h:G:=by
 have z:=kk (∀{G}(h:G:=by
 have jy:=hide aI;obtain⟨fH,zi⟩:=xH σ;have nD:Sz (N+1) fH:=by show Sz _ _;rw[zi.out];exact aJ.up Nw
 rw[<-zi.out] at jy lD al;rw[<-bo.out];clear bK hr2 br dA fk bq aI;have z:=kk (∀{G}(h:G:=by
 have k':Mx w0 mb af aa aS aB az aL jf fH:=by show Mx _ _ _ _ _ _ _ _ _ _;rw[zi.out];exact qb.later rb
 have iM:=hide (stays rb p6.out);have gb:=hide (stays rb fE.out);have ig:=(wX.trans (Om.of (L:=none) rb (Oi D9)));have k5:Kp w2 jf:=fun b c e D au=>Kp.of rb b c e (p0 b c e D au) au;clear gM gi aW p1 cr cL wJ dY lP;obtain⟨aW,p1,cr,cL,gQ,dY⟩:=cells4 iM.out;have wK:=gQ 3;clear gQ;go_wp2_with fail;have z:=kk (∀{G}(h:G:=by
 clear ha g2 AK qw A3 hsz5 jt aW p1 cr cL wK dY;have ql:=lB.kp nq;obtain⟨cT,dO,c3,hrow⟩:=ql.ar;obtain⟨gy,g1⟩:=xE d.2.kids.length;rw[<-g1] at c3 hrow;rw[<-bo.out] at c3;obtain⟨zp,oZ⟩:=xE ((NW d ⟨aq,aF,false⟩ fH).1);obtain⟨sX,qF⟩:=xE ((NW d ⟨aq,aF,false⟩ fH).2);have om:=hide (fun X (aj:NJ b9 X)=>afG (l7.later aj) nD Nw (ql.kp (Kp.of aj)) ai O ⟨aq,aF,false⟩ (some (Nv lb 0)) al);rw[<-oZ,<-qF,<-bo.out] at om
 rcases eD:QC F zp (O3 d) (some vU) sX with ⟨⟨bG,av,b8⟩,mG⟩
 have fa:=hide (fun X (aK:Ms w0 mb af aa X sX) (E:Kp b9 X) (hl:NY X (some lb) (some vU))=>Ns ah X (.slice cT gy dO) lb ⟨aq,aF,false⟩ fH D8 jy.out (by rw[<-qF];exact aK) (hrow.kp E) (RV.kp E _ _ ql.ndl) hl)
 have z:=kk (∀{G}(h:G:=by
 have m9:∃ c,b9.heap[q]? = some (Og c 40):=by
  have h1:=ql.at_;rw[bo.out];exact auN
 have ix:=hide m9;clear c3 g1 eD m9 oZ qF;have cX:b9.drew.heap[bc]? = some (Og #[Nr aq,Nr aF,NI false,NM lb 0] 73)/\b9.drew.cell? (Nv q 3)=some (.slice cT gy dO):=⟨stays (Below.refl b9.heap.size b9).drew l1.out,Oj (Below.refl b9.heap.size b9).drew eB.out⟩;refine UC (H:=fun wz vb ev=>SB w0 mb af aa es (some lb) b9 bG av b8 mG wz vb ev) (G:=?GG) (fun dI=>?ways) ?rest
 case ways=>
  have ab:NJ b9 b9.drew:=P8.drew;refine PO 9 (fun X=>X.heap[bc]? = some (Og #[Nr aq,Nr aF,NI false,NM lb 0] 73)/\X.cell? (Nv q 3)=some (.slice cT gy dO)) OJ ?_;refine up 0 mb 0 cX ?_;refine up 1 q 0 cX ?_;refine up 2 q 0 cX ?_;refine up 3 q 3 cX ?_;refine uc 4 (.slice cT gy dO) rfl (Or.inl ⟨by kernel_rfl,fun X aj=>by have h0:=aj.2;go_simp⟩) (cX) ?_
  refine up 5 mb 0 cX ?_;refine up 6 q 0 cX ?_;refine uc 7 (.agg #[Nr aq,Nr aF,NI false,NM lb 0]) rfl (Or.inl ⟨by kernel_rfl,fun X aj=>by have h0:=(cells4 aj.1).1;have h1:=(cells4 aj.1).2.1;have O:=(cells4 aj.1).2.2.1;have ax:=(cells4 aj.1).2.2.2.1;go_simp⟩) (cX) ?_
  refine uq2 8 13 (fun K A=>?_) fun K A=>?_
  ·have z:=kk (∀{G}(h:G:=by
   have su:eh.heap[bc]? = some (Og #[Nr aq,Nr aF,NI false,NM lb 0] 73)/\eh.cell? (Nv q 3)=some (.slice cT gy dO):=⟨m2.keep (stays ab l1.out) NH,by
    obtain⟨c,D⟩:=Ns ix;exact(m3.kp g3).Wx (Oj ab eB.out) ⟨c,stays ab D⟩⟩
   have z:=kk (∀{G}(h:G:=by
   refine uq2 9 13 (fun K A=>?_) fun K A=>?_
   ·have z:=kk (∀{G}(h:G:=by
    have ch:=SB.late (w2:=b9) (o:=bG) aI gY (tH.trans gu) gD;exact auA),G);exact az0
   ·exact az1),G);exact az2),G);exact az3
  ·go_simp;have cn:NJ b9 (b9.drew.alloc (.cells #[NI false,Nr 0,Nr 0,OG] 67)):=P8.drew.alloc Oq _;have ke:(b9.drew.alloc (.cells #[NI false,Nr 0,Nr 0,OG] 67)).heap[bc]? = some (Og #[Nr aq,Nr aF,NI false,NM lb 0] 73)/\(b9.drew.alloc (.cells #[NI false,Nr 0,Nr 0,OG] 67)).cell? (Nv q 3)=some (.slice cT gy dO):=⟨stays cn l1.out,Oj cn eB.out⟩;have z:=kk (∀{G}(h:G:=by
   have su:eh.heap[bc]? = some (Og #[Nr aq,Nr aF,NI false,NM lb 0] 73)/\eh.cell? (Nv q 3)=some (.slice cT gy dO):=⟨m2.keep (stays cn l1.out) NH,by
    obtain⟨c,D⟩:=Ns ix;exact(m3.kp g3).Wx (Oj cn eB.out) ⟨c,stays cn D⟩⟩
   exact az4),G);exact az5
 rintro wt ob ev cG;have p7:=hide (cG.fr.rest aR _ _ hA.out NH (fun e=>D5 (by cases e;rfl)))
 have qQ:Om none mb w wt:=Om.down (j9.up.trans cG.fr) D4;have y1:=cG.ms;have uC:=cG.er;have yW:=cG.la;obtain⟨cy,bQ,b5,dn,dp,dq,rl⟩:=Ot p7.out;clear cX
 by_cases au:av=.no
 ·exact az6
 ·obtain⟨et,ex,br⟩:=uC.Vs au ae;subst br;have aH:bL=((vU,av),mG):=by
   rw[yG.out];exact XJ
  exact az7),G);exact az8),G);exact az9),G);exact azY),G);exact azZ),G);exact auT),G);exact aqw),G);exact zsg),G);exact auU),G);exact zse),G);exact auV
end
end Hp
end Go.Proofs.YticfnaiehdpbmaaGreatDoor
