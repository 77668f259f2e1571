import Derived.Test.YticfnaiehdpbmaaGreatDoorSt11
set_option maxRecDepth 100000
set_option maxHeartbeats 8000000
set_option linter.all false
namespace Go.Proofs.YticfnaiehdpbmaaGreatDoor
open Go.RowKit Go.Proofs.Tryz
namespace Hp
section
variable {w0:Og} {mb af:Nat} {O:List Nat} {es aT aB aA aK:Ot} {w w':Og} {σ:St} {N:Nat} {F:Fx} {u:Ot} {vs:List Va}
theorem aB8:VH 323:=fun _ _=>by kernel_rfl
theorem bx1 {b:Nat}{x:Ot}{t:TypeId}(h:w.heap[b]? = some (OM #[x] t)):w.cell? (N9 b 0)=some x:=by rw[cell_of h];rfl
theorem Q9.box {gT fv:Ot}{b:Nat}{c:Array Ot}(h:Q9 mb aA aK gT fv w w')(ac:Mx w0 mb af O aT aB aA aK w σ)(A:w.heap[b]? = some (OM c 211))(ax:aK.ownBlock≠some b):w'.heap[b]? = some (OM c 211):=
 h.rest b c 211 A Ol (fun e=>by
  have⟨eT,ai⟩:=PW ac.ow e;exact QA A ai Ol rfl) ax
theorem apm (a1:Bs w0 mb af O es)(aZ:Y1 w0)(ac:Mx w0 mb af O aT aB aA aK w σ)(aH:Sz N σ)(hN:N+10000<1000000000){f:Fu}{a:Ad}(hd:OJ O w a f.d)(E:f.d.2.kids.length=2)(ai:f.d.2.count<=1500)(eM:(Oa f.d 0).2.kids.length<=8)(U:∀ k ∈ SX (Oa f.d 1),k.2.kids.length=2)(iW:(σ.M.ro f.scope).isSome=true)
  {dn b2 em:Nat} (bK:w.heap[dn]? = some (OM #[N7 mb] 62)) (cX:w.heap[b2]? = some (OM #[N7 a.p,NY f.scope,Om f.strict] 211)) (cC:aK.ownBlock≠some b2) (dV:w.heap[em]? = some (OM #[u] 311)) (aa:Ue w u vs) (hl:vs.length<=1500) {rs:(Oc × Er × Option Va) × St}
  (br:∀ X fV (bP:Ad),Ms w0 mb af O X (QB f.d ⟨σ.top,σ.top,f.strict⟩ vs (σ.opn f.scope (-1) (own f.d)))->RZ 0 X fV bP.ks->Uc O X bP.ks (Px (Oa f.d 1))->Oq 28 #[N7 mb,fV,PD ⟨σ.top,σ.top,f.strict⟩ none] X (PL w0 mb af O es none X rs)) :
  Oq 323 #[Oy dn 0,Oy b2 0,Oy em 0] w (OQ w0 mb af O es w ((rs.1.1.v,rs.1.2.1),rs.2)):=by
 have bG:=ac.lt;obtain⟨xS,ri,fst⟩:=f;obtain⟨⟨bH,aw,bQ⟩,mP⟩:=rs
 dsimp only at hd E ai eM U iW cX br ⊢
 have⟨L,dA⟩:=xE (none:Option Nat);have⟨w2,cM⟩:=xE (w.alloc (.cells #[NY 0,NY 0,Pm] 65));have aE:Oo w w2:=by rw[cM];exact PE
 have⟨aV,b4⟩:=xE w.heap.size;have hr2:w2.heap[aV]? = some (OM #[NY 0,NY 0,Pm] 65):=by rw[cM,b4];exact Oi _ _
 have cE:w.heap.size<=aV:=Oe;have⟨ow,l0⟩:=xE (own xS);have⟨e2,lx⟩:=xE (σ.top:Int);rw[<-l0,<-lx] at br;have⟨σ1,h8⟩:=xE (σ.opn ri (-1) ow);rw[<-h8] at br;have⟨b6,ga⟩:=xE (QB xS ⟨e2,e2,fst⟩ vs σ1);rw[<-ga] at br;have el:=(ac.later aE);have k7:=(hd.kp (Kp.of aE));have bq:=hide hr2;have cq:=aE;have ib:=hide (stays aE bK);have ph:=hide (stays aE cX);have nB:=hide (stays aE dV);have fa:=(aa.later aE);have cG:=(Q9.of (o:=aA) (f:=aK) aE (OO bG))
 have lc:=hide (fun X (ak:Oo w2 X)=>Yt a1 (el.later ak) (k7.kp (Kp.of ak)));have ci:=hide (fun X (ak:Oo w2 X)=>YZ (el.later ak) aH Oe ri (-1) ow iW);rw[<-l0] at lc;rw[<-lx,<-h8] at ci;have b8:Sz (N+1) σ1:=by rw[h8];exact aH.opn _ _ _
 have r1:=hide (fun X Vr (ak:Mx w0 mb af O aT aB Vr aK X σ1) (qw:OJ O X a xS) (fF:Ue X u vs)=>aw5 a1 aZ ak b8 Oe qw E ai eM U ⟨e2,e2,fst⟩ none fF hl);rw[<-ga] at r1;have⟨q,ag⟩:=xE a.p;rw[<-ag] at lc r1 ph;have bj:=hide ag;have aj:=hide br;have f1:=hide E;have tD:=hide dA;have Cn:=hide cC;have bo:=hide cM;have cQ:=hide cE;have dk:=el.lt;have eV:=lt_of_heap ib.out;have f8:=lt_of_heap ph.out;have D':=lt_of_heap nB.out;have e9:=hide (bx1 ib.out);have hq:=hide (cells3 ph.out)
 clear E ai eM U iW bK cX cC dV br dA cM hr2 cE l0 lx h8 ga ag aZ;go_enter func323,ntmps323;go_wp2_with fail;rw[<-bo.out,<-b4];clear b4;refine S9 7 fun ae=>?_;refine uk 0 e9.out ae ?_;refine up 1 b2 1 ae ?_;refine uk 2 (hq.out.2.1) ae ?_;refine uk 3 e9.out ae ?_;refine up 4 b2 0 ae ?_;refine uk 5 (hq.out.1) ae ?_;refine PS 6 fun K D=>?_;go_simp;refine cm (NZ lc _ ae) ?_;rintro e k5 ⟨rfl,iX⟩;subst iX;refine D.out _ _ (fun _=>ae) ?_;clear D K;refine PS 7 fun K D=>?_;go_simp;refine cm (NZ ci _ ae) ?_
 rintro e aq ⟨rfl,Kl,fI,c7⟩;refine ko D ?_;clear D K;have g7:=el.later ae;have fO:=c7.frL (L:=none) g7;have eF:=fI;have cT:=((cG.trans (Q9.of ae (OO dk))).trans c7);have sa:=hide (fO.keep (stays ae ib.out) Ol);have xq:=hide (fO.keep (stays ae nB.out) Ol);have dg:=hide (fO.keep (stays ae bq.out) Ol);have FD:=((OV.of (L:=none) (cq.trans (ae.mono cq.size)) (OO bG)).trans fO);have B5:=hide (c7.box g7 (stays ae ph.out) Cn.out);have lP:=((fa.later ae).frL fO);have mX:=((k7.kp (Kp.of ae)).kp fO.Ul)
 have fQ:=fI.lt;refine uz 8 (NY e2) ?_;refine RY ?_ _;go_simp;have cy:=bx1 sa.out;have jl:=bx1 xq.out;have⟨hM,gW,gX,_,hO⟩:=cells3 B5.out;have D9:=lt_of_heap sa.out;have IK:=lt_of_heap xq.out;go_wp2_with fail;have⟨bD,fH⟩:=xE (aq.alloc (.cells #[NY e2,NY e2,Om fst,QS] 73));have⟨bc,bS⟩:=xE aq.heap.size;have ls:bD.heap[bc]? = some (OM #[NY e2,NY e2,Om fst,QS] 73):=by rw[fH,bS];exact Oi _ _
 have dc:Oo aq bD:=by rw[fH];exact PE
 rw[<-fH,<-bS];have f3:=(eF.later dc);refine cm (NZ r1 bD Kl f3 (mX.kp (Kp.of dc)) (lP.later dc)) ?_;rintro e ce ⟨rfl,LC,l4,hJ⟩;have fO:=hJ.frL (L:=none) f3;have jI:Ms w0 mb af O ce b6:=⟨_,_,_,_,l4⟩;have g':=((cT.trans (Q9.of dc (OO fQ))).trans hJ);have B4:=hide (fO.keep (stays dc sa.out) Ol);have gr:=hide (fO.keep (stays dc dg.out) Ol);have ja:=hide (fO.keep ls Ol);have B6:=hide (hJ.box f3 (stays dc B5.out) Cn.out);have nz:=((mX.kp (Kp.of dc)).kp fO.Ul)
 have FA:=(((OV.of (L:=none) dc (OO fQ)).trans fO));have jh:=l4.lt;clear ls fH bS cy jl hM gW gX hO D9 IK;obtain⟨bP,cz,cap0,c3,fW,jf,_⟩:=nz.Yb (i:=1) (by rw[f1.out];omega)
 rw[f1.out] at c3;obtain⟨cV,dM,jM,hrow⟩:=jf.ar;have⟨gB,gK⟩:=xE ((Oa xS 1).2.kids.length);rw[<-gK] at jM hrow;have bF:=hide (fun X (ak:Oo ce X)=>NZ aj X _ bP (jI.later ak) (hrow.later ak) ((jf.kp (Kp.of ak)).ndl));have⟨kp,c'⟩:=xE bP.p;rw[<-c'] at fW jM;rw[<-bj.out] at c3;have ez:=hide c3;have lK:=hide fW;have Fm:=hide jM;have dC:=cell_lt fW;have ds:=cell_lt c3;have cI:=cell_lt jM;have e9:=hide (bx1 B4.out);have hq:=hide (cells3 B6.out);have ei:=hide (cells4 ja.out);have Mr:=lt_of_heap B4.out
 have Mt:=lt_of_heap B6.out;have Mw:=lt_of_heap ja.out;have xw:OE ce L (none:Option Va):=by show OE _ _ _;rw[tD.out];trivial
 rw[<-tD.out] at bF;clear c3 fW jM gK c';go_wp2_with fail;refine VG (H:=fun wz vb ev=>SB w0 mb af O es L ce bH aw bQ mP wz vb ev) (G:=?GG) (fun dD=>?ways) ?rest
 case ways=>
  refine S9 12 fun ae=>?_;refine uk 0 e9.out ae ?_;refine up 1 b2 0 ae ?_;refine uk 2 (hq.out.1) ae ?_;refine up 3 q 0 ae ?_;refine up 4 q 3 ae ?_;refine uk 5 ez.out ae ?_;refine up 6 cz 1 ae ?_;refine uk 7 lK.out ae ?_;refine up 8 kp 0 ae ?_;refine up 9 kp 3 ae ?_;refine uk 10 (NZ Fm) ae ?_;refine uk4 11 ei.out ae ?_;refine uq2 12 16 (fun K D=>?_) fun K D=>?_
  ·go_simp;refine cm (NZ bF _ ae) ?_;rintro e aD ⟨⟨ev,rfl,aL⟩,aJ,ah,g3⟩;refine ko D ?_;clear D K;refine uz 13 (.tuple #[(UD bH),ev]) ?_;refine uz 14 (UD bH) ?_;refine uz 15 ev ?_;refine PS 16 fun K D=>?_;go_simp;refine ko D ?_;clear D K;refine PS 17 fun K D=>?_;go_simp;refine ko D ?_;clear D K;refine uz 18 ev ?_;refine RY ?_ _;go_simp;have cj:=SB.late (o:=bH) aL aJ ((OV.of ae (OO jh)).trans ah) g3;exact axQ
  ·go_simp;refine D.out _ _ (fun _=>PE.drew) ?_;clear D K;refine PS 12 fun K D=>?_;go_simp;refine cm (NZ bF _ (PE.drew)) ?_;rintro e aD ⟨⟨ev,rfl,aL⟩,aJ,ah,g3⟩;refine ko D ?_;clear D K;have fi:aD.heap[ce.heap.size]? = some (OM #[Om false,NY 0,NY 0,Pm] 67):=ah.RS (xw.later (PE.drew)) (Oi _ _) Ol Ol;have⟨z0,oc,z2,z3,od,og,oh,xi,zl⟩:=QK (fi);refine uz 13 (.tuple #[(UD bH),ev]) ?_;refine uz 14 (UD bH) ?_;refine uz 15 ev ?_;refine PS 17 fun K D=>?_;go_simp;refine ko D ?_;clear D K;refine uz 18 ev ?_
   refine RY ?_ _;go_simp;have cj:=SB.early (o:=bH) fi Pg (OO jh) aL aJ ((OV.of (PE.drew) (OO jh)).trans ah) g3
   generalize (((aD.setCell (N9 ce.heap.size 0) (Om bH.ret)).setCell (N9 ce.heap.size 1) (NY bH.v.k)).setCell (N9 ce.heap.size 2) (NY bH.v.n)).setCell (N9 ce.heap.size 3) (Oj bH.v.s)=wz at cj ⊢
   generalize ce.heap.size=vb at cj ⊢
   exact dD wz vb ev cj
 case rest=>
  rintro wt lb ev d5;have vu:=d5.fr;rw[tD.out] at vu;have hs:=hide (vu.keep gr.out Ol);have i':=((FD.trans FA).trans vu);have pk:=d5.ms;have lM:=d5.er;have AT:lb≠aV:=fun e=>by
   have h1:=d5.ob;have U:=lt_of_heap gr.out;omega
  obtain⟨i6,v1⟩:=bH;have⟨cS,bY,cg,dJ,dK,dL,rl⟩:=O3 hs.out;have⟨hM,gW,gX,rT,iK,iL,iM,rU,hO⟩:=QK (d5.o);go_wp2_with fail;have⟨b3,bz,bh,bI,bE,cK,b1,bU⟩:=rt3 hs.out cQ.out bG i' pk (NY v1.k) (NY v1.n) (Oj v1.s);rw[<-bz];refine WB (v:=.tuple #[vA v1,ev]) ?_;exact⟨⟨_,rfl,lM.Qn bh Ol⟩,bE,bI⟩
theorem Sz.calls (h:Sz N σ)(c:Nat):Sz N { σ with calls:=c }:=⟨h.go,h.ow,h.fn,h.lg,h.se,h.oe⟩
theorem as4 (a1:Bs w0 mb af O es)(aZ:Y1 w0)(ac:Mx w0 mb af O aT aB aA aK w σ)(aH:Sz N σ)(hN:N+10000<1000000000)(dE:σ.calls<=40){f:Fu}{a:Ad}(hd:OJ O w a f.d)(E:f.d.2.kids.length=2)(ai:f.d.2.count<=1500)(eM:(Oa f.d 0).2.kids.length<=8)(U:∀ k ∈ SX (Oa f.d 1),k.2.kids.length=2)(iW:(σ.M.ro f.scope).isSome=true)(aa:Ue w u vs)(hl:vs.length<=1500){g:St->(Oc × Er × Option Va) × St}
  (bX:σ.calls≠40->(g { σ with calls:=σ.calls+1 }).2.calls=σ.calls+1)
  (br:σ.calls≠40->∀ X fV (bP:Ad),Ms w0 mb af O X (QB f.d ⟨σ.top,σ.top,f.strict⟩ vs (St.opn { σ with calls:=σ.calls+1 } f.scope (-1) (own f.d)))->RZ 0 X fV bP.ks->Uc O X bP.ks (Px (Oa f.d 1))->Oq 28 #[N7 mb,fV,PD ⟨σ.top,σ.top,f.strict⟩ none] X (PL w0 mb af O es none X (g { σ with calls:=σ.calls+1 }))) :
  Oq 301 #[N7 mb,.agg #[N7 a.p,NY f.scope,Om f.strict],u] w (OQ w0 mb af O es w (within σ fun σ=>(((g σ).1.1.v,(g σ).1.2.1),(g σ).2))):=by
 have jx:=Yc;have bG:=ac.lt;obtain⟨cV,dM,aQ⟩:=aa.form;subst aQ;have⟨q,ag⟩:=xE a.p;have⟨ri,uq⟩:=xE f.scope;have⟨fst,ur⟩:=xE f.strict;have⟨w2,cM⟩:=xE ((((w.alloc (.cells #[N7 mb] 62)).alloc (.cells #[N7 q,NY ri,Om fst] 211)).alloc (.cells #[.slice cV vs.length dM] 311)).alloc (.cells #[NY 0,NY 0,Pm] 65));have aE:Oo w w2:=by rw[cM];exact((PE.alloc OW _).alloc QY _).alloc QY _
 have⟨dn,bZ⟩:=xE w.heap.size;have⟨c2,eI⟩:=xE (w.heap.size+1);have⟨em,bn⟩:=xE (w.heap.size+1+1);have⟨aV,b4⟩:=xE (w.heap.size+1+1+1);have bK:w2.heap[dn]? = some (OM #[N7 mb] 62):=by rw[cM,bZ];exact alloc_old (alloc_old (alloc_old (Oi _ _)))
 have cX:w2.heap[c2]? = some (OM #[N7 q,NY ri,Om fst] 211):=by
  rw[cM,eI,show w.heap.size+1=(w.alloc (.cells #[N7 mb] 62)).heap.size by simp];exact alloc_old (alloc_old (Oi _ _))
 have dV:w2.heap[em]? = some (OM #[.slice cV vs.length dM] 311):=by
  rw[cM,bn,show w.heap.size+1+1=((w.alloc (.cells #[N7 mb] 62)).alloc (.cells #[N7 q,NY ri,Om fst] 211)).heap.size by simp];exact alloc_old (Oi _ _)
 have hr2:w2.heap[aV]? = some (OM #[NY 0,NY 0,Pm] 65):=by
  rw[cM,b4,show w.heap.size+1+1+1=(((w.alloc (.cells #[N7 mb] 62)).alloc (.cells #[N7 q,NY ri,Om fst] 211)).alloc (.cells #[.slice cV vs.length dM] 311)).heap.size by simp];exact Oi _ _
 have cE:w.heap.size<=aV:=Oe;have cC:aK.ownBlock≠some c2:=fun e=>by
  obtain⟨d9,_,hrow,_⟩:=ac.fu;have:=(hrow.lt c2 e).2;omega
 have eC:=ac.later aE;have cR:=hd.kp (Kp.of aE);have eY:=aa.later aE;have⟨rs,eB⟩:=xE (within σ fun σ=>(((g σ).1.1.v,(g σ).1.2.1),(g σ).2));have a6:=ab3 (es:=es) eC dE aB8 (caps:=#[Oy dn 0,Oy c2 0,Oy em 0]) (g:=fun σ=>(((g σ).1.1.v,(g σ).1.2.1),(g σ).2)) bX (fun vV X ak bC da=>by
  have IG:Kp w2 X:=fun b c e A ao=>bC b c e A (by rcases ao with rfl|rfl <;> decide);refine apm (f:=f) (a:=a) a1 aZ ak (aH.calls _) hN (cR.kp IG) E ai eM U iW (bC _ _ _ bK Ol) (b2:=c2) ?_ cC (bC _ _ _ dV Ol) (eY.keep fun b c A=>bC b c 65 A Ol) hl (br vV);rw[<-ag,<-uq,<-ur];exact bC _ _ _ cX Ol)
 rw[<-eB] at a6 ⊢;rw[<-ag,<-uq,<-ur];have bq:=hide hr2;have cG:=(OV.of (L:=none) aE (OO bG));have bo:=hide cM;have cQ:=hide cE;have eE:=hide bZ;have cq:=hide eI;have dG:=hide bn;have dS:=hide b4;clear E ai eM U iW bX br hr2 bK cX dV cC cM cE bZ eI bn b4 eB ag uq ur aZ dE;go_enter func301,ntmps301;go_wp2_with fail;rw[<-bo.out,<-dS.out,<-dG.out,<-cq.out,<-eE.out];refine cm a6 ?_;rintro e aD ⟨⟨ev,rfl,aL⟩,aJ,ah⟩;have dz:=hide (ah.keep bq.out Ol);have fj:=(cG.trans ah)
 have⟨v9,l2⟩:=xE rs.1.1;rw[<-l2];have lh:=hide l2;clear l2;exact aB9
structure Gl (w:Og):Prop where
 li:Lists O4 O0 w
 ta:Tabs w
theorem Gl.later (h:Gl w)(A:Oo w w'):Gl w':=⟨h.li.later A,h.ta.later A⟩
theorem Gl.ms (h:Gl w0)(a1:Bs w0 mb af O es)(aJ:Ms w0 mb af O w σ):Gl w:=h.later (by unfold Oo;rw[a1.sz];exact aJ.below)
def evT (s:Ou)(st:Bool):Option Tr:=match Qu O4 O0 s with
 | .ok t=>match chk t st false false with
  | none=>some t
  | some _=>none
 | _=>none
def aw6 (es:Ot)(w:Og)(r:Option Tr)(e:Ending)(w':Og):Prop:=Oo w w'/\match r with
 | some t=>∃ p,e=OA (.tuple #[N7 p,.nilIface])/\PO (From w.heap.size) w' t p
 | none=>∃ ev,e=OA (.tuple #[.pointer none,ev])/\WZ es w' ev (bad Uk)
theorem ai8 (s:Ou)(st:Bool)(w:Og)(hg:Gl w):Oq 321 #[Oj s,Om st] w (aw6 es w (evT s st)):=by
 have hP:=parse_any O4 O0 s w hg.li U4 hg.ta;have⟨r,aa⟩:=xE (evT s st);rw[<-aa]
 cases al:Qu O4 O0 s with
 | ok t=>
  rw[al] at hP;have h3:=adr al;have hcnt:=(VQ al).2;have HP:=hP;have aj:=hide (fun p X (ax:Ug X t p)=>adx t p st false X ax h3 Oe);have⟨c,ai⟩:=xE (chk t st false false);rw[<-ai] at aj
  cases c with
  | none=>
   have aI:r=some t:=by rw[aa];unfold evT;rw[al];simp only;rw[<-ai]
   have z:=N8 (∀{G}(h:G:=by
   have gy:e=OA Qd:=ao;subst gy;have cq:=aE;clear ao;go_wp2_with fail;refine UC (v:=.tuple #[N7 p,Qd]) ?_;exact⟨bO.trans (cq.mono bO.size),p,rfl,PO.later (Below.stay cq) _ _ dP⟩),G);exact aCb
  | some er=>
   have aI:r=none:=by rw[aa];unfold evT;rw[al];simp only;rw[<-ai]
   have z:=N8 (∀{G}(h:G:=by
   have gy:e=OA (.iface 34 (NY er)):=ao;subst gy;have cq:=(bO.trans (aE.mono bO.size));clear ao;go_wp2_with fail;refine cm (WW Uk w2) ?_;rintro e aq ⟨⟨tb,rfl,_,aL⟩,bn⟩;have dG:=(cq.trans (bn.mono cq.size));exact aCc),G);exact aCb
 | «at» er pl=>
  have z:=N8 (∀{G}(h:G:=by
  rintro e w1 ⟨b,rfl,_,_,A⟩;exact aCd),G);exact aCe
 | bare=>
  have z:=N8 (∀{G}(h:G:=by
  rintro e w1 ⟨rfl,A⟩;exact aCd),G);exact aCe
theorem apn (ac:Mx w0 mb af O aT aB aA aK w σ)(aH:Sz N σ)(hN:N<1000000000)(au:Int)(nm:Ou) :
  Oq 354 #[N7 mb,NY au,Oj nm] w fun e w'=>e=OA (.tuple #[])/\Mx w0 mb af O aT aB aA aK w' (loosen au nm σ)/\O8 Th mb w w':=by
 have bG:=ac.lt;have dp:=(akn ac.hh au);have ic:=(auP ac.hh aH.go.sm (OO hN) au nm);have⟨o,aO⟩:=xE (σ.M.QX au);have⟨zI,ui⟩:=xE (σ.M.has au nm);rw[<-aO] at dp;rw[<-ui] at ic;have⟨b6,ga⟩:=xE (loosen au nm σ);rw[<-ga];unfold loosen at ga;rw[<-aO,<-ui] at ga;have HP:=hide (fun X (ak:Mx w0 mb af O aT aB aA aK X σ)=>YL ak aH hN o nm vU false);have d7:=hide (fun X (ak:Mx w0 mb af O aT aB aA aK X σ)=>WY ak aH hN au nm 4 vU);clear aO ui
 cases zI with
 | true=>
  rw[if_pos rfl] at ga;rw[ga];have z:=N8 (∀{G}(h:G:=by
  go_wp2
  go_end0
  exact⟨rfl,ac.later bO,O8.of bO (OO bG)⟩),G);exact aw7
 | false=>
  rw[if_neg OW] at ga
  by_cases h1:o = -1
  ·rw[if_neg (by simp[h1])] at ga;have a':=hide ga;clear ga;have z:=N8 (∀{G}(h:G:=by
   have dk:=(ac.later A).lt;go_wp2_with fail;refine cm (NZ d7 _ (ac.later bO)) ?_;exact aCf),G);exact aw7
  ·rw[if_pos h1] at ga;have a':=hide ga;clear ga;have z:=N8 (∀{G}(h:G:=by
   have dk:=(ac.later A).lt;go_wp2_with fail;refine cm (NZ HP _ (ac.later bO)) ?_;exact aCf),G);exact aw7
theorem ab5 {a:Ad}{d:Nd}(hd:OJ O w a d)(ai:d.2.count<=1500):Oq 352 #[N7 a.p] w fun e w'=>(∃ u,e=OA u/\Q5 w.heap.size w' u (SK d.2))/\Oo w w':=by
 have⟨i0,dW,dw,b8,cn⟩:=info_parts info9;have cI:=QO d.2;have ax:Ug w d.2 a.p:=by rw[<-hd.tr];exact hd.at_.nat.nt
 have bF:=(WJ d.2 a.p w ax Oe);have hS:=hide (fun X (ak:Oo w X)=>Xj a X (Ri.kp (Kp.of ak) _ hd.at_) (by rw[hd.ks];omega))
 have⟨V,fF⟩:=xE (Py d.2);have Dy:V.length<=1500:=by
  have z:=N8 (∀{G}(h:G:=by
  rw[fF];omega),G);exact as5
 have⟨cZ,fc⟩:=xE (a.ks.filter fun k=>TJ k.tr);have MU:cZ.length<=1500:=by
  have h1:=List.length_filter_le (fun k:Ad=>TJ k.tr) a.ks;rw[fc,<-hd.ks] at *;omega
 have aI:SK d.2=V++cZ.map (fun k=>k.tr.tx):=by
  rw[fF,fc];unfold SK TN;have h1:d.2.kids=a.ks.map Ad.tr:=by rw[<-hd.tr];exact a.ajY.2.2
  rw[h1,List.filter_map,List.map_map];rfl
 rw[aI];rw[<-fF] at bF;rw[<-fc] at hS;have⟨q,ag⟩:=xE a.p;rw[<-ag] at bF hS ⊢;clear cI aI fF fc ag;go_enter func352,ntmps352;go_wp2_with fail;refine cm bF ?_;rintro e w1 ⟨⟨gp,rfl,hr1⟩,bZ⟩;have⟨va,du,o2⟩:=OG hr1;subst o2;go_wp2_with fail;refine cm (NZ hS w1 bZ) ?_;rintro e w2 ⟨⟨gb,rfl,hr2⟩,aE⟩;obtain⟨d9,m7,wK⟩:=hr2.form;subst wK;have Gy:=(OI hr1 aE);have cq:=(bZ.trans (aE.mono bZ.size));have hsz2:=cq.size;go_wp2_with fail
 go_loopw [3,11] (fun o i wr=>∃ k:Nat,k<=cZ.length/\i=NY k/\Q5 w.heap.size wr o (V++(cZ.take k).map (fun k=>k.tr.tx))/\Oo w wr/\Kp w2 wr) (fun _ i _=>cZ.length - (intOf i).toNat)
 case atStart=>exact⟨0,Nat.zero_le _,rfl,by simpa using Gy,cq,fun _ _ _ h _=>h⟩
 case round=>
  obtain⟨k,E,rfl,hown,hbel,c'⟩:=hrel;have HOWN:=hown;obtain⟨aC,iJ,rfl⟩:=OG hown;have da:=hbel.size
  by_cases aM:k<cZ.length
  ·obtain⟨g,cap,am,hg,ai,ax⟩:=(hr2.kp c').cell k aM;simp only[Value.slice.injEq] at am;obtain⟨rfl,_,rfl⟩:=am;have⟨ds,_,c1,_⟩:=Ug.cells ax.nat.nt;have hK:(k:Int)<(cZ.length:Int):=Oe;have⟨x,dT⟩:=xH ((cZ[k]).tr.tx);rw[<-dT.out] at c1;have⟨ho,nr⟩:=xE ((cZ[k]).p);rw[<-nr] at ai ds c1;have⟨rg,dX⟩:=xH (V++(cZ.take k).map (fun k=>k.tr.tx));have⟨m,hT⟩:=xH rg.length;have dk:m<=3000:=by rw[hT.out,dX.out];simp;omega
   rw[<-dX.out] at HOWN ⊢;have nK:World.ownsRow wr w.heap.size 9 1 (.slice aC m iJ) m (rg.map Value.string):=by
    show World.ownsRow _ _ _ _ _ _ _
    rw[hT.out];exact HOWN
   rw[<-hT.out];clear nr;have z:=N8 (∀{G}(h:G:=by
   have cl:Oo wr (wr.alloc (.cells #[Oj x] 9)):=PE;have wf:O8 [9] w.heap.size (wr.alloc (.cells #[Oj x] 9)) aq:=O8.grown hgrow QY fun b A=>by
    obtain⟨c,ai⟩:=PW (nK.alloc _) A;exact⟨by have:=(P6 nK b A).2;omega,c,9,ai,by simp⟩
   have jF:Kp w2 aq:=fun b c e A ao=>wf.rest b c e (Kp.of cl b c e (c' b c e A ao) ao) (by rcases ao with rfl|rfl <;> decide);clear iD;go_wp2_with fail;refine⟨⟨k+1,by omega,by go_num,?_,dG,jF⟩,by simp[intOf];omega⟩
   rw[List.take_succ_eq_append_getElem aM,List.map_append,<-List.append_assoc,<-dX.out]
   show World.ownsRow _ _ _ _ _ _ _
   rw[List.length_append,List.map_append,<-hT.out]
   show World.ownsRow _ _ _ _ _ _ (_++[Value.string (cZ[k]).tr.tx])
   rw[<-dT.out];exact hown'),G);exact az2
  ·have cL:k=cZ.length:=Oe;subst cL;have hK:¬ (cZ.length:Int)<(cZ.length:Int):=Oe;go_wp2;go_ret;refine⟨⟨_,rfl,?_⟩,hbel⟩;have h:=HOWN;rw[List.take_length,List.length_append,List.length_map] at h;exact h
theorem apo {M:Mo}(ok:M.Ok){s:Int}(h0:0<=s):-1<=M.outOf s/\M.outOf s<s:=by
 unfold Mo.outOf
 rcases PK M s with ⟨h1,_⟩|⟨i,x,rfl,ac,h1⟩
 ·rw[h1];exact⟨by decide,by show (-1:Int)<s;omega⟩
 ·rw[h1];exact ok.out i x ac
theorem apq (aJ:Ms w0 mb af O w σ)(aH:Sz N σ)(hN:N<1000000000){a:Ad}{d:Nd}(hd:OJ O w a d)(ai:d.2.count<=1500)(p:Pl)(aC:Option Addr)(al:0<=p.scope/\p.scope<σ.M.Ov.length) :
  Oq 339 #[N7 mb,N7 a.p,PD p aC] w fun e w'=>e=OA (Om (hidden σ.M d.2 p))/\Oo w w':=by
 have bG:=aJ.lt;have z:=N8 (∀{G}(h:G:=by
 have b7:=hide bb;have p5:=(ab5 (hd.kp (Kp.of aE)) ai);have⟨l,hl⟩:=xE (SK d.2);rw[<-hl] at p5;have ij:l.length<=3000:=by
  have z:=N8 (∀{G}(h:G:=by
  have av:=List.length_filter_le TJ d.2.kids;have aN:=QO d.2;rw[hl];unfold SK;rw[List.length_append,List.length_map];show _+(d.2.kids.filter TJ).length<=_;omega),G);exact as5
 have⟨M,vX⟩:=xE σ.M;have⟨am,B9⟩:=xH (fun nm=>agF M nm aG (M.Ov.length+1) au:Ou->Bool);have⟨R,dy⟩:=xH (l.any am);have aI:hidden σ.M d.2 ⟨au,aG,st⟩=R:=by rw[dy.out,B9.out,hl,vX];rfl
 rw[aI];have f1:=hide (fun X (ak:Oo w X) (s:Int) (nm:Ou)=>by
  obtain⟨_,_,_,_,ac⟩:=aJ.later ak;exact av3 ac.hh aH.go.sm (OO hN) s nm)
 have dp:=hide (fun X (ak:Oo w X) (s:Int)=>by
  obtain⟨_,_,_,_,ac⟩:=aJ.later ak;exact asn ac.hh s)
 rw[<-vX] at f1 dp al;have ww:M.Ok:=by rw[vX];exact aH.go.ok
 have MS:M.Ov.length<=1000000000:=by have:=aH.go.sm.r;rw[vX];omega
 have⟨q,ag⟩:=xE a.p;rw[<-ag] at p5 ⊢;have MP:0<=au:=al.1;have hsc1:au<M.Ov.length:=al.2;clear bb hl vX aI ag al;go_enter func339,ntmps339;go_wp2_with fail;rw[<-bo.out,<-bS];clear bS;refine cm p5 ?_;rintro e aq ⟨⟨ka,rfl,iH⟩,bn⟩;have⟨va,du,wL⟩:=OG iH;subst wL;have dG:=(aE.trans (bn.mono aE.size));have fk:=hide (stays bn b7.out);go_wp2_with fail
 go_loopw [14] (fun i wr=>∃ k:Nat,k<=l.length/\i=NY k/\(l.take k).any am=false/\Oo w wr/\Oo aq wr) (fun i _=>l.length - (intOf i).toNat)
 case atStart=>exact⟨0,Nat.zero_le _,rfl,rfl,dG,QI⟩
 case round=>
  obtain⟨k,E,rfl,hany,hbel,sR⟩:=hrel;have yG:=hide hany;have MT:=hbel.size;clear hany
  by_cases aM:k<l.length
  ·have⟨g,cap,eY,hg,_,eI⟩:=Uy (OI iH sR) k aM;simp only[Value.slice.injEq] at eY;obtain⟨rfl,_,rfl⟩:=eY;have hK:(k:Int)<(l.length:Int):=Oe;have⟨x,ac⟩:=xE (l[k]);rw[<-ac] at eI;have dT:=hide ac;have⟨aU,p1,cp,cJ,_,d3⟩:=cells4 (stays sR fk.out);clear ac;go_wp2_with fail;clear eI aU p1 cp cJ d3
   go_loopw [9] (fun i E0=>∃ (s:Int) (f:Nat),i=NY s/\-1<=s/\s<M.Ov.length/\s<f/\agF M x aG f s=am x/\Oo w E0/\Oo aq E0) (fun i _=>((intOf i)+1).toNat)
   case atStart=>exact⟨au,M.Ov.length+1,rfl,by omega,hsc1,by omega,by rw[B9.out],hbel,sR⟩
   case round=>
    obtain⟨s,f,rfl,pU,gj,MR,ED,oO,Aq⟩:=hrel;have xG:=hide ED;have Jk:=oO.size;clear ED
    by_cases h1:s = -1
    ·subst h1;have Bm:am x=false:=by
      rw[<-xG.out]
      cases f with
      | zero=>rfl
      | succ f=>rw[agF,if_pos rfl]
     have vy:=hide Bm;clear Bm;go_wp2_with fail;refine⟨⟨k+1,by omega,by go_num,?_,oO,Aq⟩,by simp[intOf];omega⟩
     rw[List.take_succ_eq_append_getElem aM,List.any_append,yG.out,<-dT.out];simp[vy.out]
    ·obtain⟨f,rfl⟩:∃ fv,f=fv+1:=⟨f - 1,by omega⟩;have Jf:0<=s:=Oe;have⟨rP,AL⟩:=xE (M.kindOf s x);have ey:agF M x aG (f+1) s=if rP=1\/rP=2 then true else if s=aG then false else agF M x aG f (M.outOf s):=by rw[agF,if_neg h1,AL]
     have pi:=(NZ f1 wr oO s x);rw[<-AL] at pi;have wn:mb<wr.heap.size:=Oe;clear AL
     by_cases rK:rP=1\/rP=2
     ·have EC:am x=true:=by rw[<-xG.out,ey,if_pos rK]
      have Af:R=true:=by
       rw[dy.out];refine List.any_eq_true.2 ⟨l[k],List.getElem_mem _,?_⟩;rw[<-dT.out];exact EC
      subst Af;clear ey EC
      by_cases bP:rP=1
      ·subst bP;clear rK;exact aCg
      ·have de:rP=2:=Oe;subst de;clear rK bP;exact aCg
     ·rw[if_neg rK] at ey;have bP:(rP==1)=false:=beq_eq_false_iff_ne.2 fun e=>rK (.inl e);have de:(rP==2)=false:=beq_eq_false_iff_ne.2 fun e=>rK (.inr e);clear rK
      by_cases Bb:s=aG
      ·rw[if_pos Bb] at ey;have vy:Hid (am x=false):=xG.out.symm.trans ey;clear ey;subst Bb;have z:=N8 (∀{G}(h:G:=by
       have⟨aU,p1,cp,cJ,_,d3⟩:=cells4 kN.out;go_wp2_with fail;refine⟨⟨k+1,by omega,by go_num,?_,iN,yK⟩,by simp[intOf];omega⟩
       rw[List.take_succ_eq_append_getElem aM,List.any_append,yG.out,<-dT.out];simp[vy.out]),G);exact aw8
      ·rw[if_neg Bb] at ey;have ha:=hide ey;have⟨so,Bd⟩:=xE (M.outOf s);have n1:=apo ww Jf;rw[<-Bd] at ha n1;have Cr:=hide (fun X (ak:Oo w X)=>NZ dp X ak s);rw[<-Bd] at Cr;clear ey Bd;have z:=N8 (∀{G}(h:G:=by
       have⟨aU,p1,cp,cJ,_,d3⟩:=cells4 kN.out;go_wp2_with fail;refine cm (NZ Cr _ iN) ?_;rintro e ce ⟨rfl,rfl⟩;clear aU p1 cp cJ d3;go_wp2_with fail;exact⟨⟨so,f,rfl,n1.1,by omega,by omega,ha.out.symm.trans xG.out,iN,yK⟩,by simp[intOf];omega⟩),G);exact aw8
  ·have z:=N8 (∀{G}(h:G:=by
   go_wp2;go_ret;refine⟨?_,hbel⟩;have h:=NZ yG;rw[List.take_length] at h;rw[dy.out,h];rfl),G);exact as6),G);exact zss
theorem as7 (ac:Mx w0 mb af O aT aB aA aK w σ)(aH:Sz N σ)(hN:N<1000000000)(s:Int)(nm:Ou)(v:Va) :
  Oq 267 #[N7 mb,NY s,Oj nm,vA v] w fun e w'=>e=OA (TT (σ.M.write s nm v).1)/\Mx w0 mb af O aT aB aA aK w' { σ with M:=(σ.M.write s nm v).2 }/\O8 Th mb w w':=by
 refine(aey ac.hh aH.go.sm (OO hN) s nm v).mono ?_;rintro e w' ⟨rfl,h1,U⟩;exact⟨rfl,ac.heap h1 U,U⟩
def loF (aG:Int)(l:List Ou)(k:Nat)(σ:St):St:=(l.take k).foldl (fun σ nm=>loosen aG nm σ) σ
theorem ag2 (aG:Int)(l:List Ou)(k:Nat)(σ:St)(hl:k<l.length):loF aG l (k+1) σ=loosen aG l[k] (loF aG l k σ):=by
 unfold loF;exact apl
theorem Sz.loosen (h:Sz N σ)(s:Int)(nm:Ou):Sz (N+1) (loosen s nm σ):=by
 unfold Hp.loosen
 split
 ·exact h.up (Nat.le_succ _)
 ·split
  ·exact h.Qx _ _ _ _
  ·exact h.dec _ _ _ _
theorem ae0 (s:Int)(nm:Ou)(σ:St):(loosen s nm σ).M.Ov.length=σ.M.Ov.length:=by
 unfold loosen
 split
 ·rfl
 ·split
  ·exact aae _ _ _ _ _
  ·exact Vj _ _ _ _ _
theorem amx (aG:Int)(l:List Ou)(k:Nat):∀ {σ:St},(loF aG l k σ).M.Ov.length=σ.M.Ov.length:=by
 intro σ;unfold loF
 generalize l.take k=l'
 induction l' generalizing σ with
 | nil=>rfl
 | cons a l bv=>exact bv.trans (ae0 _ _ _)
theorem Sz.loF (aG:Int)(l:List Ou):∀ (k:Nat) {σ:St},Sz N σ->k<=l.length->Sz (N+k) (loF aG l k σ)
 | 0,_,h,_=>h
 | k+1,σ,h,E=>by
  rw[ag2 aG l k σ Oe];exact(Sz.loF aG l k h Oe).loosen _ _
def fwF (p:Pl)(k:Nd)(σ:St):St:={ (mkFun k p σ).2 with M:=((mkFun k p σ).2.M.write p.declares k.2.tx (mkFun k p σ).1).2 }
def evF (p:Pl)(aW:List Nd)(k:Nat)(σ:St):St:=(aW.take k).foldl (fun σ k=>fwF p k σ) σ
theorem ag3 (p:Pl)(aW:List Nd)(k:Nat)(σ:St)(hl:k<aW.length):evF p aW (k+1) σ=fwF p aW[k] (evF p aW k σ):=by
 unfold evF;exact apl
theorem Sz.fwF (h:Sz N σ)(p:Pl)(k:Nd):Sz (N+2) (fwF p k σ):=(h.mkFun k p).heap (Nat.le_succ _) ((h.mkFun k p).go.write _ _ _) (Yd _ _ _ _)
theorem Sz.evF (p:Pl)(aW:List Nd):∀ (k:Nat) {σ:St},Sz N σ->k<=aW.length->Sz (N+2 * k) (evF p aW k σ)
 | 0,_,h,_=>h
 | k+1,σ,h,E=>by
  rw[ag3 p aW k σ Oe];exact(Sz.evF p aW k h Oe).fwF _ _
theorem aja (d:Nd)(p:Pl)(σ:St):OB d p σ=if 0<(OZ d.2).length then
   ({ p with scope:=(loF p.declares (SK d.2) (SK d.2).length σ).top },evF { p with scope:=(loF p.declares (SK d.2) (SK d.2).length σ).top } (SX d) (SX d).length (PN (OZ d.2) (loF p.declares (SK d.2) (SK d.2).length σ).top ((loF p.declares (SK d.2) (SK d.2).length σ).opn p.scope (-1) (-3))))
  else (p,evF p (SX d) (SX d).length (loF p.declares (SK d.2) (SK d.2).length σ)):=by
 unfold OB evF loF;rw[List.take_length,List.take_length];simp only
 split <;> rfl
theorem ag4 (ac:Mx w0 mb af O aT aB aA aK w σ)(aH:Sz N σ)(hN:N+9000<1000000000){a:Ad}{d:Nd}(hd:OJ O w a d)(ai:d.2.count<=1500)(U:∀ k ∈ SX d,k.2.kids.length=2)(p:Pl)(aC:Option Addr)(iW:0<=p.scope/\p.scope<σ.M.Ov.length) :
  Oq 340 #[N7 mb,N7 a.p,PD p aC] w fun e w'=>e=OA (PD (OB d p σ).1 aC)/\∃ Vr WA,Mx w0 mb af O aT aB Vr WA w' (OB d p σ).2/\Q9 mb aA aK Vr WA w w':=by
 have bG:=ac.lt;have qx:=aja d p σ;obtain⟨au,aG,st⟩:=p;have⟨w2,bo⟩:=xH ((w.alloc (.cells #[NY au,NY aG,Om st,.pointer aC] 73)).alloc (.cells #[NY 0,NY 0,Om false,QS] 73));have z:=N8 (∀{G}(h:G:=by
 have hr2:w2.heap[aV]? = some (OM #[NY 0,NY 0,Om false,QS] 73):=asu
 have d2:bc≠aV:=Oe;have cE:w.heap.size<=aV:=Oe;have dq:w.heap.size<=bc:=Oe;have cI:=QO d.2;have cR:=hd.kp (Kp.of aE);have p5:=(ab5 cR ai);have⟨l,hl⟩:=xE (SK d.2);have⟨aW,hds⟩:=xE (SX d);have⟨te,vi⟩:=xH (OZ d.2);have⟨cZ,fc⟩:=xE (a.ks.filter fun k=>TJ k.tr);have⟨vN,jv⟩:=xE (a.ks.filter fun k=>Pj k.tr);have fw:Uc O w2 cZ aW:=by rw[fc,hds];exact Uc.filter TJ _ _ cR.ndl
 have hell:cZ.length=aW.length:=Uc.len _ _ fw;have Md:vN.length=te.length:=by
  rw[jv,vi.out]
  show _=(d.2.kids.filter Pj).length
  have h1:d.2.kids=a.ks.map Ad.tr:=by rw[<-hd.tr];exact a.ajY.2.2
  rw[h1,List.filter_map,List.length_map];rfl
 have x9:aW.length<=1500:=aCh
 have IS:te.length<=1500:=by
  have av:=List.length_filter_le Pj d.2.kids;rw[vi.out];show (d.2.kids.filter Pj).length<=_;omega
 have ij:l.length<=3000:=by
  have z:=N8 (∀{G}(h:G:=by
  have av:=List.length_filter_le TJ d.2.kids;rw[hl];unfold SK;rw[List.length_append,List.length_map];show _+(d.2.kids.filter TJ).length<=_;omega),G);exact as5
 rw[<-hl] at p5;rw[<-hl,<-hds,<-vi.out] at qx;rw[<-hds] at U;have⟨rs,eB⟩:=xE (OB d ⟨au,aG,st⟩ σ);rw[<-eB] at qx ⊢;have⟨q,bj⟩:=xH a.p;have el:=(ac.later aE);have cG:=(Q9.of (o:=aA) (f:=aK) aE (OO bG));have b7:=hide bb;have bq:=hide hr2;have bW:=hide (fun X (ak:Ri (fun _=>True) X a)=>adD a X ak (by rw[hd.ks];omega))
 have nA:=hide (fun X (ak:Ri (fun _=>True) X a)=>Xj a X ak (by rw[hd.ks];omega))
 rw[<-jv] at bW;rw[<-fc] at nA;have r7:=hide qx;have gY:=hide U;have cQ:=hide cE;rw[<-bj.out] at p5 bW nA ⊢;clear ac bb hr2 qx eB hl hds fc jv U cE;go_enter func340,ntmps340;go_wp2_with fail;rw[<-bo.out,<-b4,<-bS];clear bS b4;refine cm p5 ?_;have z:=N8 (∀{G}(h:G:=by
 have fk:=hide (stays bn b7.out);have zo:=hide (stays bn bq.out);have jF:Kp w2 aq:=Kp.of bn;go_wp2_with fail
 go_loopw [14] (fun i wr=>∃ k:Nat,k<=l.length/\i=NY k/\Mx w0 mb af O aT aB aA aK wr (loF aG l k σ)/\Q9 mb aA aK aA aK w wr/\wr.heap[bc]? = some (OM #[NY au,NY aG,Om st,.pointer aC] 73)/\wr.heap[aV]? = some (OM #[NY 0,NY 0,Om false,QS] 73)/\Q5 w2.heap.size wr (.slice va l.length du) l/\Kp w2 wr) (fun i _=>l.length - (intOf i).toNat)
 case atStart=>exact⟨0,Nat.zero_le _,rfl,eF,cT,fk.out,zo.out,iH,jF⟩
 case round=>
  obtain⟨k,E,rfl,jy,hZ,pQ,kY,kz,oT⟩:=hrel;have z:=N8 (∀{G}(h:G:=by
  by_cases aM:k<l.length
  ·have⟨g,cap,am,hg,_,eI⟩:=Uy kz k aM;have z:=N8 (∀{G}(h:G:=by
   have⟨x,ac⟩:=xE (l[k]);rw[<-ac] at eI;have dT:=hide ac;have⟨dx,gS⟩:=xE (loF aG l k σ);rw[<-gS] at eS;have jV:Sz (N+k) dx:=by rw[gS];exact Sz.loF aG l k aH Oe
   have a':=(apn eS jV Oe aG x);have nO:=hide gS;have⟨aU,p1,cp,cJ,_,d3⟩:=cells4 fL.out;clear ac gS;go_wp2_with fail;refine cm a' ?_;rintro e b3 ⟨rfl,j8,bh⟩;have mp:=j8;have mZ:=(kK.Xa bh);have sk:=hide (bh.rest _ _ _ fL.out Ol);have oz:=hide (bh.rest _ _ _ bV.out Ol);have vx:=(OH kz bh Ol);have p9:Kp w2 b3:=fun b c e A ao=>O8.kp bh b c e (jp b c e A ao) ao;clear aU p1 cp cJ d3 eI;go_wp2_with fail;refine⟨⟨k+1,by omega,by go_num,?_,mZ,sk.out,oz.out,vx,p9⟩,by simp[intOf];omega⟩
   rw[ag2 aG l k σ aM,<-dT.out,<-nO.out];exact mp),G);exact alS
  ·have z:=N8 (∀{G}(h:G:=by
   have⟨rW,rJ⟩:=xE (loF aG l l.length σ);rw[<-rJ] at eS r7;have qJ:Sz (N+3000) rW:=by rw[rJ];exact(Sz.loF aG l l.length aH Pg).up Oe
   have dX:=(NZ bW wr (Ri.kp jp _ cR.at_));have GB:Hid ((rW.M.ro au).isSome=true):=Po.some (p:=⟨au,aG,st⟩) ⟨iW.1,by rw[rJ,amx];exact iW.2⟩
   clear rJ;go_wp2_with fail;refine cm dX ?_;rintro e bD ⟨⟨uO,rfl,uB⟩,dc⟩;obtain⟨la,fy,Jn⟩:=uB.form;subst Jn;have f3:=(eS.later dc);have fD:=(kK.trans (Q9.of dc (OO h4)));have kN:=hide (stays dc fL.out);have gE:=hide (stays dc bV.out);have kL:Kp w2 bD:=fun b c e A ao=>Kp.of dc b c e (jp b c e A ao) ao;have gz:=f3.lt
   by_cases hpos:0<te.length
   ·have jv:(vN.length:Int) > 0:=Oe;have⟨dR,gP⟩:=xE (rW.top:Int);have⟨uS,yr⟩:=xE (rW.opn au (-1) (-3));have⟨fJ,hk⟩:=xE (PN (OZ d.2) dR uS);have B1:Hid (rs=(⟨dR,aG,st⟩,evF ⟨dR,aG,st⟩ aW aW.length fJ)):=by
     show _=_
     rw[r7.out,if_pos hpos,hk,yr,gP,<-vi.out]
    have ci:=(YZ f3 qJ Oe au (-1) (-3) GB.out);rw[<-gP,<-yr] at ci;have EJ:Sz (N+3001) uS:=by rw[yr];exact qJ.opn _ _ _
    have nP:Sz (N+5000) fJ:=by
     show Sz _ _
     rw[hk];refine(EJ.lets (OZ d.2) dR).up ?_;rw[<-vi.out];omega
    have tE:=hide (fun X gT fv (ak:Mx w0 mb af O aT aB gT fv X uS) (qw:OJ O X a d)=>ae1 ak EJ qw Oe Oe dR);rw[<-hk,<-bj.out] at tE;have⟨aU,p1,cp,cJ,gU,d3⟩:=cells4 kN.out;clear gP yr hk;go_wp2_with fail;refine cm ci ?_;rintro e ce ⟨rfl,Bz,l4,hJ⟩;have DZ:=hJ.frL (L:=none) f3;have g':=(fD.trans hJ);have ja:=hide (DZ.keep kN.out Ol);have gr:=hide (DZ.keep gE.out Ol);have mf:Kp w2 ce:=fun b c e A ao=>hJ.kp f3 b c e (kL b c e A ao) ao;clear aU p1 cp cJ gU d3
    have⟨aU,p1,cp,cJ,gU,d3⟩:=cells4 ja.out;have pa:=gU 0;clear gU;go_wp2_with fail;have lZ:mb<=bc:=Oe;have Bg:=V4 (j:=0) ja.out lZ (NY dR);have⟨ch,gn⟩:=xE (ce.setCell (N9 bc 0) (NY dR));have mo:=(l4.YC Bg Ol);have AZ:=Yu ja.out (NY dR);have ig:Hid (ch.heap[aV]? = some (OM #[NY 0,NY 0,Om false,QS] 73)):=by
     show _=_
     rw[gn,heap_setCell_other _ _ _ _ (Ne.symm d2)];exact NZ gr
    have lN:=(g'.new Bg (ZA dq _));have nD:Kp w2 (ce.setCell (N9 bc 0) (NY dR)):=fun b c e A ao=>Bg.rest b c e (mf b c e A ao) (by rcases ao with rfl|rfl <;> decide);rw[<-gn] at mo AZ lN nD ⊢;have mh:=hide AZ;clear gn AZ aU p1 cp cJ pa d3;have rA:=mo.lt;refine cm (NZ tE ch _ _ mo (cR.kp nD)) ?_;rintro e i7 ⟨rfl,uF,rq⟩;have⟨tg,ux⟩:=xE Bz;rw[<-ux] at uF lN;have lQ:=uF;have i':=(lN.Xa rq);have iP:=hide (rq.rest _ _ _ mh.out Ol);have hs:=hide (rq.rest _ _ _ ig.out Ol)
    have k8:Kp w2 i7:=fun b c e A ao=>O8.kp rq b c e (nD b c e A ao) ao;have nk:=uF.lt;clear ux;exact aCi
   ·have jv:¬ (vN.length:Int) > 0:=Oe;have⟨dR,gP⟩:=xE (au:Int);have⟨fJ,hk⟩:=xE rW;have⟨i7,lz⟩:=xE bD;have⟨tg,ux⟩:=xE aA;have B1:Hid (rs=(⟨dR,aG,st⟩,evF ⟨dR,aG,st⟩ aW aW.length fJ)):=by
     show _=_
     rw[r7.out,if_neg hpos,hk,gP]
    have nP:Sz (N+5000) fJ:=by show Sz _ _;rw[hk];exact qJ.up Oe
    have lQ:Mx w0 mb af O aT aB tg aK i7 fJ:=by show Mx _ _ _ _ _ _ _ _ _ _;rw[ux,lz,hk];exact f3
    have i':Q9 mb aA aK tg aK w i7:=by show Q9 _ _ _ _ _ _ _;rw[ux,lz];exact fD
    have iP:Hid (i7.heap[bc]? = some (OM #[NY dR,NY aG,Om st,.pointer aC] 73)):=by show _=_;rw[lz,gP];exact NZ kN
    have hs:Hid (i7.heap[aV]? = some (OM #[NY 0,NY 0,Om false,QS] 73)):=by show _=_;rw[lz];exact NZ gE
    have k8:Kp w2 i7:=by show Kp _ _;rw[lz];exact kL
    have nk:=lQ.lt;rw[<-lz];clear gP hk lz ux;exact aCi),G);exact as6),G);exact aw9),G);exact aCj),G);exact zsc
def evR (e:Er)(l:Option Va)(σ:St):(Va × Er) × St:=match e with
 | .no=>((l.getD vU,.no),σ)
 | e=>((vU,e),σ)
section
variable {b:Nat} {x y bB v:Ot} {t:TypeId} (h:w.heap[b]? = some (OM #[x,y,bB,v] t)) (v':Ot)
include b x y bB v t h v'
theorem as8:(w.setCell (N9 b 3) v').heap[b]? = some (OM #[x,y,bB,v'] t):=heap_setCell_same w b 3 _ t v' h
theorem aku:(w.setCell (N9 b 2) v').heap[b]? = some (OM #[x,y,v',v] t):=heap_setCell_same w b 2 _ t v' h
theorem as9:(w.setCell (N9 b 1) v').heap[b]? = some (OM #[x,v',bB,v] t):=heap_setCell_same w b 1 _ t v' h
end
section
variable (ab:Zf es) (ac:Mx w0 mb af O aT aB aA aK w σ) (aH:Sz N σ) (hN:N+10000<1000000000) {a:Ad} {d:Nd} (hd:OJ O w a d) (ai:d.2.count<=1500) (U:∀ k ∈ SX d,k.2.kids.length=2) (au aG:Int) (aC:Option Addr) (al:0<=au/\au<σ.M.Ov.length) {b5:(Va × Er) × St} (kI:Pl->St->Prop) (aL:kI ⟨σ.top,σ.top,true⟩ (σ.opn au (-1) (-3))) (br:∀ X u (lb:Nat) (cu:Pl) (bM:St),mb<=lb->kI cu bM->Ms w0 mb af O X (OB d cu bM).2->RZ 0 X u a.ks->Uc O X a.ks (Px d)->OE X (some lb) (some vU)->Oq 28 #[N7 mb,u,PD (OB d cu bM).1 (LA (some lb))] X (PL w0 mb af O es (some lb) X (Qm F (OB d cu bM).1 (Px d) (some vU) (OB d cu bM).2))) (bu:b5=evR (Qm F (OB d ⟨σ.top,σ.top,true⟩ (σ.opn au (-1) (-3))).1 (Px d) (some vU) (OB d ⟨σ.top,σ.top,true⟩ (σ.opn au (-1) (-3))).2).1.2.1 (Qm F (OB d ⟨σ.top,σ.top,true⟩ (σ.opn au (-1) (-3))).1 (Px d) (some vU) (OB d ⟨σ.top,σ.top,true⟩ (σ.opn au (-1) (-3))).2).1.2.2 (Qm F (OB d ⟨σ.top,σ.top,true⟩ (σ.opn au (-1) (-3))).1 (Px d) (some vU) (OB d ⟨σ.top,σ.top,true⟩ (σ.opn au (-1) (-3))).2).2)
include ab ac aH hN a d hd ai U au aG aC al b5 kI aL br bu
theorem apr :
  Oq 322 #[N7 mb,N7 a.p,PD ⟨au,aG,true⟩ aC] w (OQ w0 mb af O es w b5):=by
 have bG:=ac.lt;have⟨w2,bo⟩:=xH ((w.alloc (.cells #[NY au,NY aG,Om true,.pointer aC] 73)).alloc (.cells #[NY 0,NY 0,Pm] 65));have z:=N8 (∀{G}(h:G:=by
 have bb:w2.heap[bc]? = some (OM #[NY au,NY aG,Om true,.pointer aC] 73):=by rw[bo.out,bS];exact alloc_old (Oi _ _)
 have hr2:w2.heap[aV]? = some (OM #[NY 0,NY 0,Pm] 65):=by
  rw[bo.out,b4,show w.heap.size+1=(w.alloc (.cells #[NY au,NY aG,Om true,.pointer aC] 73)).heap.size by simp];exact Oi _ _
 have z:=N8 (∀{G}(h:G:=by
 have z:=N8 (∀{G}(h:G:=by
 have aj:=hide br;have cQ:=hide cE;have dk:=el.lt;have z:=N8 (∀{G}(h:G:=by
 have⟨aY,gQ⟩:=xE w2;have pu:Mx w0 mb af O aT aB aA aK aY σ:=by show Mx _ _ _ _ _ _ _ _ _ _;rw[gQ];exact el
 have qe:Hid (aY.heap[bc]? = some (OM #[NY au,NY aG,Om true,.pointer aC] 73)):=by show _=_;rw[gQ];exact NZ b7
 have fM:Hid (aY.heap[aV]? = some (OM #[NY 0,NY 0,Pm] 65)):=by show _=_;rw[gQ];exact NZ bq
 have xp:OV none mb w aY:=by show OV _ _ _ _;rw[gQ];exact cG
 have pi:Kp w2 aY:=fun b c e A _=>by rw[gQ];exact A
 rw[<-gQ];clear bS b4 gQ;exact aCl),G);exact aCm),G);exact ata),G);exact zsf),G);exact zse
theorem aps (dZ:OU d.2=true) :
  Oq 322 #[N7 mb,N7 a.p,PD ⟨au,aG,false⟩ aC] w (OQ w0 mb af O es w b5):=by
 have z:=N8 (∀{G}(h:G:=by
 have z:=N8 (∀{G}(h:G:=by
 have z:=N8 (∀{G}(h:G:=by
 have z:=N8 (∀{G}(h:G:=by
 have z:=N8 (∀{G}(h:G:=by
 have aj:=hide br;have z:=N8 (∀{G}(h:G:=by
 clear dZ;have z:=N8 (∀{G}(h:G:=by
 have bL:=N8 (∀{G}(h:G:=by
 have kZ:=V4 (j:=2) b7.out lZ (Om true);have gi:=aku b7.out (Om true);have⟨aY,gQ⟩:=xE (w2.setCell (N9 bc 2) (Om true));rw[<-gQ] at kZ gi ⊢;have pu:=(el.YC kZ Ol);have qe:=hide gi;have bL:=N8 (∀{G}(h:G:=by
 clear gQ gi aU p1 cp cJ w6 d3;exact aCl),G);exact zti),G);exact aCo),G);exact aCm),G);exact axa),G);exact ata),G);exact zsf),G);exact axb),G);exact zse),G);exact axc
end
theorem apt (ac:Mx w0 mb af O aT aB aA aK w σ)(aH:Sz N σ)(hN:N+10000<1000000000){a:Ad}{d:Nd}(hd:OJ O w a d)(ai:d.2.count<=1500)(au aG:Int)(aC:Option Addr)(al:0<=au/\au<σ.M.Ov.length){b5:(Va × Er) × St}
   (bu:b5=((vU,bad Uk),σ)) (dZ:OU d.2=false) (fl:hidden σ.M d.2 ⟨au,aG,false⟩=true) :
  Oq 322 #[N7 mb,N7 a.p,PD ⟨au,aG,false⟩ aC] w (OQ w0 mb af O es w b5):=by
 have z:=N8 (∀{G}(h:G:=by
 have z:=N8 (∀{G}(h:G:=by
 have z:=N8 (∀{G}(h:G:=by
 have z:=N8 (∀{G}(h:G:=by
 have z:=N8 (∀{G}(h:G:=by
 have z:=N8 (∀{G}(h:G:=by
 have z:=N8 (∀{G}(h:G:=by
 rw[<-bj.out];clear bb hr2 bu al dZ fl;have z:=N8 (∀{G}(h:G:=by
 refine cm (NZ y' aY ⟨_,_,_,_,pu⟩ (k7.kp pi)) ?_;rintro e i7 ⟨rfl,qt⟩;have hs:=hide (stays qt fM.out);have pk:Ms w0 mb af O i7 σ:=⟨_,_,_,_,pu.later qt⟩;have i':=(xp.trans (OV.of (L:=none) qt (OO Ed)));have nk:=pk.lt;clear gQ gi aU p1 cp cJ w6 d3;go_wp2_with fail;refine cm (UQ (es:=es) nk Uk) ?_;rintro e fs ⟨⟨ev,rfl,aL⟩,cA⟩;have dS:=hide (stays cA hs.out);have k9:=(pk.later cA);have jZ:=(i'.trans (OV.of (L:=none) cA (OO nk)));have⟨cS,bY,cg,dJ,dK,dL,rl⟩:=O3 dS.out
 have z:=N8 (∀{G}(h:G:=by
 refine Y2 (v:=.tuple #[vA vU,ev]) ?_;rw[mY.out];exact⟨⟨_,rfl,aL.Qn bh Ol⟩,bE,bI⟩),G);exact axd),G);exact aCp),G);exact aCq),G);exact axa),G);exact ata),G);exact zsf),G);exact axb),G);exact zse),G);exact axc
theorem apu (ab:Zf es)(ac:Mx w0 mb af O aT aB aA aK w σ)(aH:Sz N σ)(hN:N+10000<1000000000){a:Ad}{d:Nd}(hd:OJ O w a d)(ai:d.2.count<=1500)(U:∀ k ∈ SX d,k.2.kids.length=2)(au aG:Int)(aC:Option Addr)(al:0<=au/\au<σ.M.Ov.length){b5:(Va × Er) × St}
  (kI:Pl->St->Prop) (aL:kI ⟨au,aG,false⟩ σ)
  (br:∀ X u (lb:Nat) (cu:Pl) (bM:St),mb<=lb->kI cu bM->Ms w0 mb af O X (OB d cu bM).2->RZ 0 X u a.ks->Uc O X a.ks (Px d)->OE X (some lb) (some vU)->Oq 28 #[N7 mb,u,PD (OB d cu bM).1 (LA (some lb))] X (PL w0 mb af O es (some lb) X (Qm F (OB d cu bM).1 (Px d) (some vU) (OB d cu bM).2)))
  (bu:b5=evR (Qm F (OB d ⟨au,aG,false⟩ (σ)).1 (Px d) (some vU) (OB d ⟨au,aG,false⟩ (σ)).2).1.2.1 (Qm F (OB d ⟨au,aG,false⟩ (σ)).1 (Px d) (some vU) (OB d ⟨au,aG,false⟩ (σ)).2).1.2.2 (Qm F (OB d ⟨au,aG,false⟩ (σ)).1 (Px d) (some vU) (OB d ⟨au,aG,false⟩ (σ)).2).2) (dZ:OU d.2=false) (fl:hidden σ.M d.2 ⟨au,aG,false⟩=false) :
  Oq 322 #[N7 mb,N7 a.p,PD ⟨au,aG,false⟩ aC] w (OQ w0 mb af O es w b5):=by
 have z:=N8 (∀{G}(h:G:=by
 have z:=N8 (∀{G}(h:G:=by
 have z:=N8 (∀{G}(h:G:=by
 have z:=N8 (∀{G}(h:G:=by
 have z:=N8 (∀{G}(h:G:=by
 have aj:=hide br;have z:=N8 (∀{G}(h:G:=by
 have z:=N8 (∀{G}(h:G:=by
 have lM:=hide aL;have⟨fJ,zx⟩:=xH σ;have nP:Sz (N+1) fJ:=by show Sz _ _;rw[zx.out];exact aH.up Oe
 rw[<-zx.out] at lM mY al;rw[<-bj.out];clear bb hr2 bu dZ fl br aL;have z:=N8 (∀{G}(h:G:=by
 have qe:=hide gi;refine cm (NZ y' aY ⟨_,_,_,_,pu⟩ (k7.kp pi)) ?_;rintro e i7 ⟨rfl,qt⟩;have lQ:Mx w0 mb af O aT aB aA aK i7 fJ:=by show Mx _ _ _ _ _ _ _ _ _ _;rw[zx.out];exact pu.later qt
 have iP:=hide (stays qt qe.out);have hs:=hide (stays qt fM.out);have i':=(xp.trans (OV.of (L:=none) qt (OO Ed)));have k8:Kp w2 i7:=fun b c e A ao=>Kp.of qt b c e (pi b c e A ao) ao;clear gQ gi aU p1 cp cJ w6 d3 lZ;have⟨aU,p1,cp,cJ,gU,d3⟩:=cells4 iP.out;have w7:=gU 3;clear gU;go_wp2_with fail;have z:=N8 (∀{G}(h:G:=by
 clear h6 gn AN qF A8 hsz5 jw aU p1 cp cJ w7 d3;have qv:=k7.kp nD;obtain⟨cV,dM,c3,hrow⟩:=qv.ar;have⟨gB,gK⟩:=xE d.2.kids.length;rw[<-gK] at c3 hrow;rw[<-bj.out] at c3;have⟨zp,o4⟩:=xE ((OB d ⟨au,aG,false⟩ fJ).1);have⟨tm,qM⟩:=xE ((OB d ⟨au,aG,false⟩ fJ).2);have oC:=hide (fun X (ak:Oo ch X)=>ag4 (mo.later ak) nP Oe (qv.kp (Kp.of ak)) ai U ⟨au,aG,false⟩ (some (N9 lb 0)) al);rw[<-o4,<-qM,<-bj.out] at oC
 rcases eB:Qm F zp (Px d) (some vU) tm with ⟨⟨bH,aw,bQ⟩,mP⟩
 have fa:=hide (fun X (aJ:Ms w0 mb af O X tm) (E:Kp ch X) (hl:OE X (some lb) (some vU))=>NZ aj X (.slice cV gB dM) lb ⟨au,aG,false⟩ fJ Ec lM.out (by rw[<-qM];exact aJ) (hrow.kp E) (Uc.kp E _ _ qv.ndl) hl)
 have z:=N8 (∀{G}(h:G:=by
 have nq:∃ c,ch.heap[q]? = some (OM c 40):=by
  have h1:=qv.at_;rw[bj.out];exact aw4
 have ix:=hide nq;clear c3 gK eB nq o4 qM;have c8:ch.drew.heap[bc]? = some (OM #[NY au,NY aG,Om false,Oy lb 0] 73)/\ch.drew.cell? (N9 q 3)=some (.slice cV gB dM):=⟨stays (Below.refl ch.heap.size ch).drew mh.out,OT (Below.refl ch.heap.size ch).drew ez.out⟩;refine VG (H:=fun wz vb ev=>SB w0 mb af O es (some lb) ch bH aw bQ mP wz vb ev) (G:=?GG) (fun dD=>?ways) ?rest
 case ways=>
  have ae:Oo ch ch.drew:=QI.drew;refine Qs 9 (fun X=>X.heap[bc]? = some (OM #[NY au,NY aG,Om false,Oy lb 0] 73)/\X.cell? (N9 q 3)=some (.slice cV gB dM)) Pe ?_;refine up 0 mb 0 c8 ?_;refine up 1 q 0 c8 ?_;refine up 2 q 0 c8 ?_;refine up 3 q 3 c8 ?_;refine uc 4 (.slice cV gB dM) rfl (Or.inl ⟨by kernel_rfl,fun X ak=>by have h0:=ak.2;go_simp⟩) (c8) ?_
  refine up 5 mb 0 c8 ?_;refine up 6 q 0 c8 ?_;refine uc 7 (.agg #[NY au,NY aG,Om false,Oy lb 0]) rfl (Or.inl ⟨by kernel_rfl,fun X ak=>by have h0:=(cells4 ak.1).1;have h1:=(cells4 ak.1).2.1;have U:=(cells4 ak.1).2.2.1;have av:=(cells4 ak.1).2.2.2.1;go_simp⟩) (c8) ?_
  refine uq2 8 13 (fun K D=>?_) fun K D=>?_
  ·have z:=N8 (∀{G}(h:G:=by
   have sO:d6.heap[bc]? = some (OM #[NY au,NY aG,Om false,Oy lb 0] 73)/\d6.cell? (N9 q 3)=some (.slice cV gB dM):=⟨nf.keep (stays ae mh.out) Ol,by
    have⟨c,A⟩:=NZ ix;exact(ng.kp g7).XG (OT ae ez.out) ⟨c,stays ae A⟩⟩
   have z:=N8 (∀{G}(h:G:=by
   refine uq2 9 13 (fun K D=>?_) fun K D=>?_
   ·have z:=N8 (∀{G}(h:G:=by
    have cj:=SB.late (w2:=ch) (o:=bH) aL g4 (ud.trans gw) g3;exact axQ),G);exact aCr
   ·exact aCs),G);exact aCt),G);exact aCu
  ·go_simp;have cl:Oo ch (ch.drew.alloc (.cells #[Om false,NY 0,NY 0,Pm] 67)):=QI.drew.alloc OW _;have kl:(ch.drew.alloc (.cells #[Om false,NY 0,NY 0,Pm] 67)).heap[bc]? = some (OM #[NY au,NY aG,Om false,Oy lb 0] 73)/\(ch.drew.alloc (.cells #[Om false,NY 0,NY 0,Pm] 67)).cell? (N9 q 3)=some (.slice cV gB dM):=⟨stays cl mh.out,OT cl ez.out⟩;have z:=N8 (∀{G}(h:G:=by
   have sO:d6.heap[bc]? = some (OM #[NY au,NY aG,Om false,Oy lb 0] 73)/\d6.cell? (N9 q 3)=some (.slice cV gB dM):=⟨nf.keep (stays cl mh.out) Ol,by
    have⟨c,A⟩:=NZ ix;exact(ng.kp g7).XG (OT cl ez.out) ⟨c,stays cl A⟩⟩
   exact aCv),G);exact aCw
 case rest=>
  have z:=N8 (∀{G}(h:G:=by
  by_cases ao:aw=.no
  ·exact aCx
  ·have⟨et,ex,bu⟩:=xo.WC ao ab;subst bu;have aI:b5=((vU,aw),mP):=by
    rw[yZ.out];exact axO
   exact aCy),G);exact aCz),G);exact aCA),G);exact aCB),G);exact aCp),G);exact aCq),G);exact axa),G);exact ata),G);exact zsf),G);exact axb),G);exact zse),G);exact axc
def evQ (d:Nd)(p:Pl)(σ:St):Option (Pl × St):=
 if (!(p.strict||OU d.2)&&hidden σ.M d.2 { p with strict:=p.strict||OU d.2 })=true then none else
  some (if (p.strict||OU d.2)=true then (⟨σ.top,σ.top,true⟩,σ.opn p.scope (-1) (-3)) else ({ p with strict:=p.strict||OU d.2 },σ))
theorem amy (d:Nd)(p:Pl)(σ:St):X9 F d p σ=match evQ d p σ with
  | none=>((vU,bad Uk),σ)
  | some q=>evR (Qm F (OB d q.1 q.2).1 (Px d) (some vU) (OB d q.1 q.2).2).1.2.1 (Qm F (OB d q.1 q.2).1 (Px d) (some vU) (OB d q.1 q.2).2).1.2.2 (Qm F (OB d q.1 q.2).1 (Px d) (some vU) (OB d q.1 q.2).2).2:=by
 unfold X9 evQ;simp only
 split
 ·rfl
 ·simp only
  generalize Qm F _ (Px d) (some vU) _=r
  unfold evR
  rcases r with ⟨⟨o,e,l⟩,mP⟩
  cases e <;> rfl
theorem apv (ab:Zf es)(ac:Mx w0 mb af O aT aB aA aK w σ)(aH:Sz N σ)(hN:N+10000<1000000000){a:Ad}{d:Nd}(hd:OJ O w a d)(ai:d.2.count<=1500)(U:∀ k ∈ SX d,k.2.kids.length=2)(p:Pl)(aC:Option Addr)(al:0<=p.scope/\p.scope<σ.M.Ov.length)
  (br:∀ cu bM,evQ d p σ=some (cu,bM)->∀ X u (lb:Nat),mb<=lb->Ms w0 mb af O X (OB d cu bM).2->RZ 0 X u a.ks->Uc O X a.ks (Px d)->OE X (some lb) (some vU)->Oq 28 #[N7 mb,u,PD (OB d cu bM).1 (LA (some lb))] X (PL w0 mb af O es (some lb) X (Qm F (OB d cu bM).1 (Px d) (some vU) (OB d cu bM).2))) :
  Oq 322 #[N7 mb,N7 a.p,PD p aC] w (OQ w0 mb af O es w (X9 F d p σ)):=by
 have ao:=amy (F:=F) d p σ;have ub:∀ X u (lb:Nat) (cu:Pl) (bM:St),mb<=lb->evQ d p σ=some (cu,bM)->Ms w0 mb af O X (OB d cu bM).2->RZ 0 X u a.ks->Uc O X a.ks (Px d)->OE X (some lb) (some vU)->Oq 28 #[N7 mb,u,PD (OB d cu bM).1 (LA (some lb))] X (PL w0 mb af O es (some lb) X (Qm F (OB d cu bM).1 (Px d) (some vU) (OB d cu bM).2)):=fun X u lb cu bM aR h=>br cu bM h X u lb aR;obtain⟨au,aG,st⟩:=p
 cases st with
 | true=>
  have ag:evQ d ⟨au,aG,true⟩ σ=some (⟨σ.top,σ.top,true⟩,σ.opn au (-1) (-3)):=rfl;refine apr ab ac aH hN hd ai U au aG aC al (fun cu bM=>evQ d ⟨au,aG,true⟩ σ=some (cu,bM)) ag ub ?_;rw[ao,ag]
 | false=>
  cases dZ:OU d.2 with
  | true=>
   have ag:evQ d ⟨au,aG,false⟩ σ=some (⟨σ.top,σ.top,true⟩,σ.opn au (-1) (-3)):=by unfold evQ;rw[dZ];rfl
   refine aps ab ac aH hN hd ai U au aG aC al (fun cu bM=>evQ d ⟨au,aG,false⟩ σ=some (cu,bM)) ag ub ?_ dZ;rw[ao,ag]
  | false=>
   cases fl:hidden σ.M d.2 ⟨au,aG,false⟩ with
   | true=>
    have ag:evQ d ⟨au,aG,false⟩ σ=none:=by unfold evQ;rw[dZ];exact if_pos fl
    refine apt ac aH hN hd ai au aG aC al ?_ dZ fl;rw[ao,ag]
   | false=>
    have ag:evQ d ⟨au,aG,false⟩ σ=some (⟨au,aG,false⟩,σ):=by
     unfold evQ;rw[dZ];refine(if_neg (fun h=>?_)).trans rfl;have av:hidden σ.M d.2 ⟨au,aG,false⟩=true:=h;rw[fl] at av;cases av
    refine apu ab ac aH hN hd ai U au aG aC al (fun cu bM=>evQ d ⟨au,aG,false⟩ σ=some (cu,bM)) ag ub ?_ dZ fl;rw[ao,ag]
def evB (F:Fx)(s:Ou)(p:Pl)(σ:St):(Va × Er) × St:=match evT s p.strict with
 | some t=>X9 F (none,t) p σ
 | none=>((vU,bad Uk),σ)
theorem apw {t:Tr}{q:Nat}(a1:Bs w0 mb af O es)(aR:mb<=w.heap.size)(h:PO (From w.heap.size) w' t q):∃ a:Ad,a.p=q/\OJ O w' a (none,t):=by
 have⟨a,h1,U,av,_,bx⟩:=PO.ad t q h;refine⟨a,U,Ri.mono (fun _ _ _=>trivial) _ av,h1,fun b A be=>?_⟩;have cf:w.heap.size<=b:=bx b A;have⟨cs,qV,ai⟩:=a1.an b be;have g2:=lt_of_heap ai;rw[a1.sz] at g2;omega
theorem auW:VH 320:=fun _ _=>by kernel_rfl
theorem akv (ab:Zf es)(a1:Bs w0 mb af O es)(hg:Gl w0)(ac:Mx w0 mb af O aT aB aA aK w σ)(aH:Sz N σ)(hN:N+10000<1000000000)(au aG:Int)(st:Bool)(aC:Option Addr)(al:0<=au/\au<σ.M.Ov.length){v:Va}{vs:List Va}{dn bc em:Nat}(bK:w.heap[dn]? = some (OM #[N7 mb] 62))(sH:w.heap[bc]? = some (OM #[NY au,NY aG,Om st,.pointer aC] 73))(dV:w.heap[em]? = some (OM #[u] 311))(aa:Ue w u (v::vs))
  (br:∀ t,evT v.s st=some t->∀ (a:Ad) cu bM,evQ (none,t) ⟨au,aG,st⟩ σ=some (cu,bM)->∀ X u (lb:Nat),mb<=lb->Ms w0 mb af O X (OB (none,t) cu bM).2->RZ 0 X u a.ks->Uc O X a.ks (Px (none,t))->OE X (some lb) (some vU)->Oq 28 #[N7 mb,u,PD (OB (none,t) cu bM).1 (LA (some lb))] X (PL w0 mb af O es (some lb) X (Qm F (OB (none,t) cu bM).1 (Px (none,t)) (some vU) (OB (none,t) cu bM).2))) :
  Oq 320 #[Oy em 0,Oy bc 0,Oy dn 0] w (OQ w0 mb af O es w (evB F v.s ⟨au,aG,st⟩ σ)):=by
 have bG:=ac.lt;have H8:=hN;have z:=N8 (∀{G}(h:G:=by
 have⟨pc,Be⟩:=xE v.s;have eC:=ac.later aE;have bq:=hide hr2;have ib:=hide (stays aE bK);have ot:=hide (stays aE sH);have cG:=(OV.of (L:=none) aE (OO bG));have dz:=hide (fun X (ak:Oo w2 X)=>ai8 (es:=es) v.s st X (Gl.ms hg a1 ⟨_,_,_,_,eC.later ak⟩));obtain⟨g,iZ,cap,aQ,dC,gH,d8,gt⟩:=(aa.later aE).cells (i:=0) rfl;rw[Nat.zero_mul,Nat.add_zero] at gH d8 gt;subst aQ;rw[<-Be] at gt dz;have⟨et,lM⟩:=xH (evT pc st);rw[<-lM.out] at dz;have⟨b5,df⟩:=xH (evB F pc ⟨au,aG,st⟩ σ);rw[<-Be] at br ⊢
 rw[<-df.out];have aj:=hide br;have hq:=hide gt;have mU:=hide (bx1 (stays aE dV));have ei:=hide (cells4 ot.out);have cQ:=hide cE;have dk:=eC.lt;have D':=lt_of_heap (stays aE dV);have Mv:=lt_of_heap ot.out;have oy:=hide al;clear hr2 cE Be bK sH dV gH d8 gt br al;go_enter func320,ntmps320;go_wp2_with fail;rw[<-bo.out,<-b4];clear b4
 cases et with
 | none=>
  have aI:b5=((vU,bad Uk),σ):=by
   rw[df.out];unfold evB
   show (match evT pc st with|some t=>_|none=>_)=_
   rw[<-lM.out]
  have cD:=hide aI;clear aI;have z:=N8 (∀{G}(h:G:=by
  rintro e aD ⟨je,ev,rfl,aL⟩;refine ko D ?_;clear D K;have pD:=ae.trans (je.mono ae.size);have dS:=hide (stays pD bq.out);have k9:Ms w0 mb af O aD σ:=⟨_,_,_,_,eC.later pD⟩;have jZ:=(cG.trans (OV.of (L:=none) pD (OO dk)));have⟨qV,ex,bu⟩:=aL.WC OW ab;subst bu;have y2:=aL;refine uz 7 (.tuple #[QS,.iface qV ex]) ?_;refine uz 8 QS ?_;refine uz 9 (.iface qV ex) ?_;refine uz 10 QS ?_;refine uz 11 (.iface qV ex) ?_;refine RY ?_ _;go_simp;have⟨cS,bY,cg,dJ,dK,dL,rl⟩:=O3 dS.out;have z:=N8 (∀{G}(h:G:=by
  refine Y2 (v:=.tuple #[vA vU,.iface qV ex]) ?_;rw[cD.out];exact⟨⟨_,rfl,y2.Qn bh Ol⟩,bE,bI⟩),G);exact axd),G);exact aCC
 | some t=>
  have aI:b5=X9 F (none,t) ⟨au,aG,st⟩ σ:=by
   rw[df.out];unfold evB
   show (match evT pc st with|some t=>_|none=>_)=_
   rw[<-lM.out]
  have cD:=hide aI;have mF:Nk 9 t:=by
   have h:=NZ lM;unfold evT at h
   cases al:Qu O4 O0 pc with
   | ok t2=>
    rw[al] at h;simp only at h
    cases E:chk t2 st false false with
    | none=>rw[E] at h;cases h;exact XO al E
    | some e=>rw[E] at h;cases h
   | _=>rw[al] at h;cases h
  have hbk:=mF.bk Oe;have hcnt:t.count<=1500:=mF.ct;have U:∀ k ∈ SX ((none,t):Nd),k.2.kids.length=2:=fun k E=>by
   obtain⟨kd,kD,bT,p1,dn,av,_⟩:=(Y5 (d:=(none,t)) hbk k E).sh;rw[av];rfl
  have gY:=hide U;clear aI U;have z:=N8 (∀{G}(h:G:=by
  rintro e aD ⟨je,BF,rfl,hN⟩;refine ko D ?_;clear D K;have pD:=ae.trans (je.mono ae.size);have⟨a,ay,ji⟩:=apw a1 (OO ((eC.later ae).lt)) hN;have dS:=hide (stays pD bq.out);have vC:=(eC.later pD);have jZ:=(cG.trans (OV.of (L:=none) pD (OO dk)));have cy:=bx1 (stays pD ib.out);have eV:=lt_of_heap (stays pD ib.out);have⟨aU,p1,cp,cJ,_,d3⟩:=cells4 (stays pD ot.out);have mY:=(apv ab vC aH H8 ji hcnt gY.out ⟨au,aG,st⟩ aC oy.out (NZ aj t lM.out.symm a));rw[<-cD.out,ay] at mY;clear hN ay
  refine uz 7 (.tuple #[Oy BF 0,Qd]) ?_;refine uz 8 (Oy BF 0) ?_;refine uz 9 Qd ?_;refine uz 10 (Oy BF 0) ?_;refine uz 11 Qd ?_;refine RY ?_ _;go_simp;go_wp2_with fail;refine cm mY ?_;rintro e wd ⟨⟨ev,rfl,aL⟩,aJ,ah⟩;have hU:=hide (ah.keep dS.out Ol);have hr:=(jZ.trans ah);have⟨v9,lh⟩:=xH b5.1.1;rw[<-lh.out];clear cy aU p1 cp cJ d3 eV;have⟨hp,gp,gb,kb,kc,ke,kf⟩:=O3 hU.out;go_wp2_with fail;have⟨b3,bz,bh,bI,bE,cK,b1,bU⟩:=rt3 hU.out cQ.out bG hr aJ (NY v9.k) (NY v9.n) (Oj v9.s);exact awp),G);exact aCC),G);exact aB4
def evP (c:Tr)(p:Pl):Pl:=if c.kd≠23\/c.tx≠RH then ⟨1,0,false⟩ else p
theorem apy (c:Tr)(p:Pl)(a:Va)(more:List Va)(σ:St):Ya F c p (a::more) σ=if a.k≠4 then ((a,.no),σ) else within σ (evB F a.s (evP c p)):=by
 unfold Ya evP;simp only
 split
 ·rfl
 ·congr 1
  funext σ
  unfold evB evT
  cases Qu O4 O0 a.s with
  | ok t=>
   simp only
   cases chk t _ false false with
   | none=>rfl
   | some e=>rfl
  | _=>rfl
section
variable (ac:Mx w0 mb af O aT aB aA aK w σ) {c:Ad} (p:Pl) (aC:Option Addr)
include ac c p aC
theorem amz (aa:Ue w u []) :
  Oq 300 #[N7 mb,N7 c.p,PD p aC,u] w (OQ w0 mb af O es w ((vU,.no),σ)):=by
 have bL:=N8 (∀{G}(h:G:=by
 have⟨dN,rH⟩:=xE (List.length ([]:List Va));have z:=N8 (∀{G}(h:G:=by
 have bq:=hide hr2;have cG:=(OV.of (L:=none) aE (OO bG));have cU:Ms w0 mb af O w2 σ:=⟨_,_,_,_,eC⟩;have bo:=hide cM;have dG:=hide bn;have dS:=hide b4;have⟨q,ag⟩:=xE c.p;have qI:dN=0:=rH;subst qI;rw[<-ag];clear cM hr2 cE dq d2 bZ bS bn b4 bK sH dV ag rH;go_enter func300,ntmps300;go_wp2_with fail;rw[<-bo.out,<-dS.out];have⟨cK,b1,bU,_,_⟩:=cells3 bq.out;refine Y2 (v:=.tuple #[vA vU,Qd]) ?_;exact⟨⟨_,rfl,rfl⟩,cU,cG⟩),G);exact zsp),G);exact axe
theorem ajc {v:Va}{vs:List Va}(aa:Ue w u (v::vs))(E:v.k≠4) :
  Oq 300 #[N7 mb,N7 c.p,PD p aC,u] w (OQ w0 mb af O es w ((v,.no),σ)):=by
 have bL:=N8 (∀{G}(h:G:=by
 have⟨dN,rH⟩:=xE (List.length (v::vs));have z:=N8 (∀{G}(h:G:=by
 have cG:=(OV.of (L:=none) aE (OO bG));have cU:Ms w0 mb af O w2 σ:=⟨_,_,_,_,eC⟩;have bL:=N8 (∀{G}(h:G:=by
 have⟨g,iZ,cap,aQ,dC,gH,d8,gt⟩:=aa.cells (i:=0) rfl;rw[Nat.zero_mul,Nat.add_zero] at gH d8 gt;have bL:=N8 (∀{G}(h:G:=by
 rw[<-ag];have eK:(v.k==4)=false:=beq_eq_false_iff_ne.2 E;have⟨b3,bz⟩:=xE ((((w.alloc (.cells #[N7 mb] 62)).alloc (.cells #[NY au,NY aG,Om st,.pointer aC] 73)).alloc (.cells #[.slice (some (N9 g iZ)) dN dM] 311)).alloc (.cells #[NY v.k,NY v.n,Oj v.s] 65));have JB:=ac;clear cM hr2 cE dq d2 bZ bS bn bK sH dV ag rH;have ea:b3.heap[aV]? = some (Y0 v):=by
  rw[bz,b4,show w.heap.size+1+1+1=(((w.alloc (.cells #[N7 mb] 62)).alloc (.cells #[NY au,NY aG,Om st,.pointer aC] 73)).alloc (.cells #[.slice (some (N9 g iZ)) dN dM] 311)).heap.size by simp];exact Oi _ _
 have d0:Oo w b3:=by rw[bz];exact((PE.alloc OW _).alloc QY _).alloc QY _
 have oz:=hide ea;have ze:Ms w0 mb af O w σ:=⟨_,_,_,_,JB⟩;have qi:=hide bz;clear ea bz b4;go_enter func300,ntmps300;go_wp2_with fail;rw[<-qi.out,<-dS.out];have⟨cK,b1,bU,_,_⟩:=cells3 oz.out;refine WB (v:=.tuple #[vA v,Qd]) ?_;exact⟨⟨_,rfl,rfl⟩,ze.later d0,OV.of d0 (OO bG)⟩),G);exact aCJ),G);exact aCK),G);exact zsp),G);exact axe
end
theorem ag7 (ab:Zf es)(a1:Bs w0 mb af O es)(wi:Gl w0)(ac:Mx w0 mb af O aT aB aA aK w σ)(aH:Sz N σ)(hN:N+10000<1000000000)(dE:σ.calls<=40){c:Ad}{mr:Nd}(Av:OJ O w c mr)(bm:mr.2.kd=23)(cB:mr.2.tx=RH)(p:Pl)(aC:Option Addr)(al:0<=p.scope/\p.scope<σ.M.Ov.length)(yi:2<=σ.M.Ov.length){v:Va}{vs:List Va}(aa:Ue w u (v::vs))(E:v.k=4)
  (bX:σ.calls≠40->(evB F v.s p { σ with calls:=σ.calls+1 }).2.calls=σ.calls+1)
  (br:σ.calls≠40->∀ t,evT v.s p.strict=some t->∀ (a:Ad) cu bM,evQ (none,t) p { σ with calls:=σ.calls+1 }=some (cu,bM)->∀ X u (lb:Nat),mb<=lb->Ms w0 mb af O X (OB (none,t) cu bM).2->RZ 0 X u a.ks->Uc O X a.ks (Px (none,t))->OE X (some lb) (some vU)->Oq 28 #[N7 mb,u,PD (OB (none,t) cu bM).1 (LA (some lb))] X (PL w0 mb af O es (some lb) X (Qm F (OB (none,t) cu bM).1 (Px (none,t)) (some vU) (OB (none,t) cu bM).2))) :
  Oq 300 #[N7 mb,N7 c.p,PD p aC,u] w (OQ w0 mb af O es w (within σ (evB F v.s p))):=by
 have z:=N8 (∀{G}(h:G:=by
 rw[bm] at c0;have aw:=Vz (b:=RH) rfl cB;have⟨tx,wI⟩:=xE mr.2.tx;rw[<-wI] at c1 aw;clear wI cB bm;have⟨rs,eB⟩:=xE (within σ (evB F v.s ⟨au,aG,st⟩))
 have a6:=fun X (ak:Mx w0 mb af O aT aB aA aK X σ) (bP:X.heap[dn]? = some (OM #[N7 mb] 62)) (kp:X.heap[bc]? = some (OM #[NY au,NY aG,Om st,.pointer aC] 73)) (g8:X.heap[em]? = some (OM #[.slice (some (N9 g iZ)) dN dM] 311)) (Bx:Ue X (.slice (some (N9 g iZ)) dN dM) (v::vs))=>ab3 (es:=es) ak dE auW (caps:=#[Oy em 0,Oy bc 0,Oy dn 0]) (g:=evB F v.s ⟨au,aG,st⟩) bX (fun vV Y bJ bC da=>akv ab a1 wi bJ (aH.calls _) hN au aG st aC al (bC _ _ _ bP Ol) (bC _ _ _ kp Ol) (bC _ _ _ g8 Ol) (Bx.keep fun b c A=>bC b c 65 A Ol) (br vV))
 have z:=N8 (∀{G}(h:G:=by
 have⟨aq,mL⟩:=xE w2;have dg:=bq;have cT:=cG;rw[<-mL] at dg cT eC ib ot nB ml ⊢;clear mL;refine cm (NZ zE aq eC ib.out ot.out nB.out ml) ?_;exact aCL),G);exact aCM),G);exact zso
theorem atb (ab:Zf es)(a1:Bs w0 mb af O es)(wi:Gl w0)(ac:Mx w0 mb af O aT aB aA aK w σ)(aH:Sz N σ)(hN:N+10000<1000000000)(dE:σ.calls<=40){c:Ad}{mr:Nd}(Av:OJ O w c mr)(bm:mr.2.kd≠23)(p:Pl)(aC:Option Addr)(al:0<=p.scope/\p.scope<σ.M.Ov.length)(yi:2<=σ.M.Ov.length){v:Va}{vs:List Va}(aa:Ue w u (v::vs))(E:v.k=4)
  (bX:σ.calls≠40->(evB F v.s ⟨1,0,false⟩ { σ with calls:=σ.calls+1 }).2.calls=σ.calls+1)
  (br:σ.calls≠40->∀ t,evT v.s false=some t->∀ (a:Ad) cu bM,evQ (none,t) ⟨1,0,false⟩ { σ with calls:=σ.calls+1 }=some (cu,bM)->∀ X u (lb:Nat),mb<=lb->Ms w0 mb af O X (OB (none,t) cu bM).2->RZ 0 X u a.ks->Uc O X a.ks (Px (none,t))->OE X (some lb) (some vU)->Oq 28 #[N7 mb,u,PD (OB (none,t) cu bM).1 (LA (some lb))] X (PL w0 mb af O es (some lb) X (Qm F (OB (none,t) cu bM).1 (Px (none,t)) (some vU) (OB (none,t) cu bM).2))) :
  Oq 300 #[N7 mb,N7 c.p,PD p aC,u] w (OQ w0 mb af O es w (within σ (evB F v.s ⟨1,0,false⟩))):=by
 have z:=N8 (∀{G}(h:G:=by
 have e5:(mr.2.kd==23)=false:=beq_eq_false_iff_ne.2 bm;have⟨kd,cL⟩:=xE mr.2.kd;rw[<-cL] at c0 e5 bm;clear cL;exact aCN),G);exact zso
theorem atc (ab:Zf es)(a1:Bs w0 mb af O es)(wi:Gl w0)(ac:Mx w0 mb af O aT aB aA aK w σ)(aH:Sz N σ)(hN:N+10000<1000000000)(dE:σ.calls<=40){c:Ad}{mr:Nd}(Av:OJ O w c mr)(bm:mr.2.kd=23)(cB:mr.2.tx≠RH)(p:Pl)(aC:Option Addr)(al:0<=p.scope/\p.scope<σ.M.Ov.length)(yi:2<=σ.M.Ov.length){v:Va}{vs:List Va}(aa:Ue w u (v::vs))(E:v.k=4)
  (bX:σ.calls≠40->(evB F v.s ⟨1,0,false⟩ { σ with calls:=σ.calls+1 }).2.calls=σ.calls+1)
  (br:σ.calls≠40->∀ t,evT v.s false=some t->∀ (a:Ad) cu bM,evQ (none,t) ⟨1,0,false⟩ { σ with calls:=σ.calls+1 }=some (cu,bM)->∀ X u (lb:Nat),mb<=lb->Ms w0 mb af O X (OB (none,t) cu bM).2->RZ 0 X u a.ks->Uc O X a.ks (Px (none,t))->OE X (some lb) (some vU)->Oq 28 #[N7 mb,u,PD (OB (none,t) cu bM).1 (LA (some lb))] X (PL w0 mb af O es (some lb) X (Qm F (OB (none,t) cu bM).1 (Px (none,t)) (some vU) (OB (none,t) cu bM).2))) :
  Oq 300 #[N7 mb,N7 c.p,PD p aC,u] w (OQ w0 mb af O es w (within σ (evB F v.s ⟨1,0,false⟩))):=by
 have z:=N8 (∀{G}(h:G:=by
 rw[bm] at c0;have aw:=U6 (b:=RH) rfl cB;have⟨tx,wI⟩:=xE mr.2.tx;rw[<-wI] at c1 aw;clear wI cB bm;exact aCN),G);exact zso
def auX (F:Fx)(d:Nd)(p:Pl)(r:(List Va × Er) × St):(Va × Er) × St:=match r with
 | ((f::args,.no),σ1)=>
  if f.k≠5 then ((vU,bad tType),σ1) else
  let c:=σ1.M.codeOf f.n
  if c=0 then ((vU,bad tType),σ1)
  else if c=1 then ((vU,.no),{ σ1 with log:=σ1.log++[XE (args.map σ1.M.shw)] })
  else if c=2 then Ya F (Oa d 0).2 p args σ1
  else match σ1.Qg[(c - 3).toNat]? with
   | some fn=>VE F fn args σ1
   | none=>((vU,.no),σ1)
 | ((_,e),σ1)=>((vU,e),σ1)
theorem apz (d:Nd)(p:Pl)(σ:St):XF F d p σ=auX F d p (Tn F p (Px d) [] σ):=rfl
theorem abT.head {B g n cap:Nat}{v:Va}(h:abT B w (.slice (some (N9 g 0)) n cap) (v::vs)):n=vs.length+1/\n<=cap/\g<w.heap.size/\w.cell? (N9 g 0)=some (NY v.k)/\w.cell? (N9 g 1)=some (NY v.n)/\w.cell? (N9 g 2)=some (Oj v.s)/\∀ m c,m=vs.length->(vs≠[]->c=3)->∀ oH,Ue w (.slice (some (N9 g c)) m oH) vs:=by
 have h1:=h.2
 rcases h1 with ⟨h1,_⟩|⟨g1,cap',ck,h1,_,hg,ai,_,_,aZ⟩
 ·
  cases h1
 ·simp only[Value.slice.injEq,Option.some.injEq,Addr.mk.injEq,and_true] at h1;obtain⟨rfl,rfl,rfl⟩:=h1;have hcell:∀ j x,((v::vs).flatMap YE)[j]? = some x->ck[j]? = some x:=fun j x aS=>by
   rw[<-aZ,List.getElem?_take] at aS
   split at aS
   ·rw[<-aS,Array.getElem?_toList]
   ·
    cases aS
  refine⟨rfl,ai,lt_of_heap hg,?_,?_,?_,?_⟩
  ·simp[World.cell?,hg,hcell 0 _ rfl]
  ·simp[World.cell?,hg,hcell 1 _ rfl]
  ·simp[World.cell?,hg,hcell 2 _ rfl]
  ·intro m c aR lp oH;subst aR;refine⟨⟨_,_,rfl⟩,fun i x az=>?_⟩;have cC:vs≠[]:=fun e=>by rw[e] at az;cases az
   have Ie:=lp cC;subst Ie;have am:∀ j y,(YE x)[j]? = some y->j<3->ck[3+i * 3+j]? = some y:=fun j y aS wm=>by
    refine hcell _ _ ?_;have aw:(v::vs).flatMap YE=YE v++vs.flatMap YE:=rfl;rw[aw,List.getElem?_append_right (by show 3<=_;omega)]
    have bi:3+i * 3+j - (YE v).length=i * 3+j:=by show 3+i * 3+j - 3=_;omega
    rw[bi,Xk (s:=3) (fun _=>rfl) vs i j wm,az];exact aS
   exact⟨g,3,oH,ck,rfl,hg,am 0 _ rfl Oe,am 1 _ rfl Oe,am 2 _ rfl Oe⟩
theorem axf (ab:Zf es)(aJ:Ms w0 mb af O w σ){a:Ad}{d:Nd}(hd:OJ O w a d)(E:1<=d.2.kids.length)(D7:d.2.kids.length<=9)(p:Pl)(aC:Option Addr)
  (h1:∀ X u,Ms w0 mb af O X σ->RZ 0 X u a.ks->Uc O X a.ks (Px d)->Oq 293 #[N7 mb,u,PD p aC] X (auS w0 mb af O es X (Tn F p (Px d) [] σ)))
  (hP:∀ f args σ1,Tn F p (Px d) [] σ=((f::args,.no),σ1)->f.k=5->σ1.M.codeOf f.n=1->∀ X u,Ms w0 mb af O X σ1->Ue X u args->Oq 299 #[N7 mb,u] X fun e w'=>e=OA (.tuple #[])/\Ms w0 mb af O w' { σ1 with log:=σ1.log++[XE (args.map σ1.M.shw)] }/\OV none mb X w')
  (aL:∀ f args σ1,Tn F p (Px d) [] σ=((f::args,.no),σ1)->f.k=5->σ1.M.codeOf f.n=2->∀ X u (c:Ad),Ms w0 mb af O X σ1->Ue X u args->OJ O X c (Oa d 0)->Oq 300 #[N7 mb,N7 c.p,PD p aC,u] X (OQ w0 mb af O es X (Ya F (Oa d 0).2 p args σ1)))
  (ah:∀ f args σ1,Tn F p (Px d) [] σ=((f::args,.no),σ1)->f.k=5->σ1.M.codeOf f.n≠0->σ1.M.codeOf f.n≠1->σ1.M.codeOf f.n≠2->∃ fn,3<=σ1.M.codeOf f.n/\σ1.M.codeOf f.n<1000000000/\σ1.Qg[(σ1.M.codeOf f.n - 3).toNat]? = some fn/\∀ X u (c:Ad),Ms w0 mb af O X σ1->Ue X u args->OJ O X c fn.d->Oq 301 #[N7 mb,.agg #[N7 c.p,NY fn.scope,Om fn.strict],u] X (OQ w0 mb af O es X (VE F fn args σ1))) :
  Oq 263 #[N7 mb,N7 a.p,PD p aC] w (OQ w0 mb af O es w (XF F d p σ)):=by
 have⟨rs,eB⟩:=xE (XF F d p σ);rw[<-eB];have z:=N8 (∀{G}(h:G:=by
 have b7:=hide bb;have ei:=hide (cells4 bb);have z:=N8 (∀{G}(h:G:=by
 obtain⟨cV,dM,c3,hrow⟩:=cR.ar;have⟨gB,nG⟩:=xH d.2.kids.length;rw[<-nG.out] at c3 hrow E D7;have bF:=hide (fun X (ak:Oo w2 X)=>h1 X _ (cU.later ak) (hrow.later ak) ((cR.kp (Kp.of ak)).ndl))
 rcases aa:Tn F ⟨au,aG,st⟩ (Px d) [] σ with ⟨⟨vs,aw⟩,σ1⟩
 rw[aa] at bF hP aL ah;have kv:aw=.no->vs.length=gB:=fun e=>by
  subst e;have:=abW _ _ _ _ _ aa;rw[this,nG.out,RG];simp
 have tD:=hide kv;have fM:Hid (rs=auX F d ⟨au,aG,st⟩ ((vs,aw),σ1)):=by
  show _=_
  rw[eB,apz,aa]
 have⟨q,bj⟩:=xH a.p;rw[<-bj.out] at c3 ds ⊢;have ez:=hide c3;have FT:=hide hP;have FP:=hide aL;have FQ:=hide ah;clear bb hr2 aa h1 hP aL ah dq cE d2 c3 eB kv;go_enter func263,ntmps263;go_wp2_with fail;rw[<-bo.out,<-b4,<-bS];clear bS b4;refine S9 6 fun ae=>?_;have z:=N8 (∀{G}(h:G:=by
 refine uk 4 ez.out ae ?_;refine uk4 5 ei.out ae ?_;refine PS 6 fun K D=>?_;go_simp;refine cm (NZ bF _ ae) ?_;rintro e aq ⟨⟨ka,ev,rfl,kz,z'⟩,eu,f5⟩;refine ko D ?_;clear D K;have nf:=(OV.of (L:=none) ae (OO dk)).trans f5;have dg:=hide (nf.keep bq.out Ol);have fk:=hide (nf.keep b7.out Ol);have mX:=(cR.kp nf.Ul);have cT:=(cG.trans nf);have ml:=kz;have fQ:=eu.lt;have⟨va,du,wL⟩:=OG kz;subst wL;clear hpl2 ds;have⟨cS,bY,cg,dJ,dK,dL,rl⟩:=O3 dg.out
 refine uz 7 (.tuple #[.slice va vs.length du,ev]) ?_;refine uz 8 (.slice va vs.length du) ?_;refine uz 9 ev ?_;refine uz 10 (.slice va vs.length du) ?_;refine uz 11 ev ?_;refine RY ?_ _;go_simp
 by_cases ao:aw=.no
 ·subst ao;have bu:ev=Qd:=z';subst bu;obtain⟨f,args,rfl⟩:∃ f args,vs=f::args:=by
   cases vs with
   | nil=>have:=NZ tD rfl;simp at this;omega
   | cons f args=>exact⟨f,args,rfl⟩
  have oM:=NZ tD rfl;have⟨g,cap,am,qA,_⟩:=World.ownsRow.form ml OW;simp only[Value.slice.injEq] at am;obtain⟨rfl,hdrop,rfl⟩:=am;clear hdrop;have⟨m,aR⟩:=xE ((f::args).length);rw[<-aR] at ml oM ⊢;obtain⟨n2,hx,dC,gH,d8,gt,EA⟩:=ml.head;have wn:(1:Int)<=(m:Int):=Oe;have yX:=hide (show aq.cell? (N9 g 0)=some (NY f.k)/\aq.cell? (N9 g 1)=some (NY f.n)/\aq.cell? (N9 g 2)=some (Oj f.s) from ⟨gH,d8,gt⟩);have zB:=hide EA;have jH:=hide n2;have AR:m<=9:=Oe;clear EA gH d8 gt aR n2 oM
  have⟨bT,f9⟩:=xE args.length;obtain⟨qj,rfl⟩:∃ qj,du=qj+1:=⟨du - 1,by omega⟩;obtain rfl:m=bT+1:=by rw[f9];exact NZ jH
  obtain⟨iZ,p2,s6⟩:∃ iZ p2,(if qj=0 then iZ=0/\p2=0 else iZ=3/\p2=qj):=by
   by_cases h:qj=0
   ·exact⟨0,0,by rw[if_pos h];exact⟨rfl,rfl⟩⟩
   ·exact⟨3,qj,by rw[if_neg h];exact⟨rfl,rfl⟩⟩
  have Ju:Ue aq (.slice (some (N9 g iZ)) bT p2) args:=NZ zB bT iZ f9 (fun cC=>by
   rw[if_neg (fun h=>cC (List.eq_nil_of_length_eq_zero Oe))] at s6;exact s6.1) p2
  clear f9;go_wp2_with fail;refine S9 6 fun ae=>?_;refine uh 0 (.slice (some (N9 g 0)) (bT+1) (qj+1)) (ae) ?_;refine up 1 g 0 ae ?_;refine uc 2 (.agg #[NY f.k,NY f.n,Oj f.s]) rfl (Or.inl ⟨by kernel_rfl,fun X ak=>by have h0:=OT ak (yX.out.1);have h1:=OT ak (yX.out.2.1);have U:=OT ak (yX.out.2.2);go_simp⟩) (ae) ?_
  refine uh 3 (.slice (some (N9 g 0)) (bT+1) (qj+1)) (ae) ?_;refine uh 4 (.slice (some (N9 g iZ)) bT p2) (ae) ?_ (hy:=Or.inl ⟨by kernel_rfl,fun _ _=>by by_cases eJ:qj=0;· { rw[if_pos eJ] at s6;obtain⟨rfl,rfl⟩:=s6;subst eJ;obtain rfl:bT=0:=Oe;go_simp };· { rw[if_neg eJ] at s6;obtain⟨rfl,rfl⟩:=s6;go_simp;intro h;omega }⟩)
  refine PS 5 fun K D=>?_;go_simp;refine D.out _ _ (fun _=>PE.drew) ?_;clear D K;refine PS 6 fun K D=>?_;go_simp;refine ko D ?_;clear D K;refine uz 7 (.slice (some (N9 g iZ)) bT p2) ?_;refine RY ?_ _;go_simp;clear s6;have⟨vb,a7⟩:=xE aq.heap.size;have⟨ce,h6⟩:=xE ((aq.alloc (.cells #[NY f.k,NY f.n,Oj f.s] 65)).drew);have fm:Oo aq ce:=by rw[h6];exact PE.drew
  have Bj:ce.heap[vb]? = some (Y0 f):=by
   rw[h6,a7];exact stays ((Below.refl _ (aq.alloc (.cells #[NY f.k,NY f.n,Oj f.s] 65))).drew) (Oi _ _)
  rw[<-h6,<-a7];have jI:=(eu.later fm);have gr:=hide (stays fm dg.out);have ja:=hide (stays fm fk.out);have g':=(cT.trans (OV.of (L:=none) fm (OO fQ)));have nz:=(mX.kp (Kp.of fm));have mQ:=(Ju.later fm);have gd:=hide (cells3 Bj);have jh:=jI.lt;have h5:=lt_of_heap Bj;have Jv:vb≠aV:=fun e=>by
   have:=lt_of_heap dg.out;omega
  clear h6 a7 Bj cS bY cg dJ dK dL rl dC qA AR;have⟨fB,cy,dO,_,_⟩:=NZ gd
  by_cases pN:f.k=5
  ·rw[pN] at fB;have⟨c,uW⟩:=xH (σ1.M.codeOf f.n);have om:=hide (fun X (ak:Ms w0 mb af O X σ1)=>by
    obtain⟨_,_,_,_,ac⟩:=ak;exact aiK ac.hh f.n)
   rw[<-uW.out] at om;have mf:=hide pN;clear pN;go_wp2_with fail;clear fB cy dO;refine S9 5 fun ae=>?_;have z:=N8 (∀{G}(h:G:=by
   refine up 3 vb 1 ae ?_;refine uk 4 (gd.out.2.1) ae ?_;refine PS 5 fun K D=>?_;go_simp;refine cm (NZ om _ (jI.later ae)) ?_;rintro e ch ⟨rfl,gn⟩;rw[gn];refine ko D ?_;clear D K;clear gn;refine uz 6 (NY c) ?_;refine RY ?_ _;go_simp;have⟨ch,gn⟩:=xE ce.drew;have fh:Oo ce ch:=by rw[gn];exact QI.drew
   rw[<-gn];replace jI:=(jI.later fh);replace gr:=hide (stays fh gr.out);replace ja:=hide (stays fh ja.out);replace g':=(g'.trans (OV.of (L:=none) fh (OO jh)));replace nz:=(nz.kp (Kp.of fh));replace mQ:=(mQ.later fh);replace jh:=jI.lt;clear gn h5 Jv;have Eg:rs=if c=0 then ((vU,bad tType),σ1)
    else if c=1 then ((vU,.no),{ σ1 with log:=σ1.log++[XE (args.map σ1.M.shw)] })
    else if c=2 then Ya F (Oa d 0).2 ⟨au,aG,st⟩ args σ1
    else match σ1.Qg[(c - 3).toNat]? with
     | some fn=>VE F fn args σ1
     | none=>((vU,.no),σ1):=by
    rw[fM.out,uW.out]
    show (if f.k≠5 then _ else _)=_
    rw[if_neg (by rw[mf.out];simp)]
   have sn:=hide Eg;clear Eg;have⟨cS,bY,cg,dJ,dK,dL,rl⟩:=O3 gr.out
   by_cases h0:c=0
   ·have cD:Hid (rs=((vU,bad tType),σ1)):=by show _=_;rw[sn.out,if_pos h0]
    subst h0;go_wp2_with fail;exact aCO
   by_cases h1:c=1
   ·have cD:Hid (rs=((vU,.no),{ σ1 with log:=σ1.log++[XE (args.map σ1.M.shw)] })):=by show _=_;rw[sn.out,if_neg h0,if_pos h1]
    have fL:=(NZ FT f args σ1 rfl mf.out (uW.out.symm.trans h1) ch _ jI mQ);subst h1;clear h0;go_wp2_with fail;refine cm fL ?_;rintro e wd ⟨rfl,aJ,ah⟩;have hU:=hide (ah.keep gr.out Ol);have mg:=aJ;have hr:=(g'.trans ah);clear ah;have⟨hp,gp,gb,kb,kc,ke,kf⟩:=O3 hU.out;go_wp2_with fail;have⟨b3,bz,bh,bI,bE,cK,b1,bU⟩:=rt3 hU.out cQ.out bG hr mg (NY 0) (NY 0) (Pm);rw[<-bz];refine Y2 (v:=.tuple #[vA vU,Qd]) ?_;rw[cD.out];exact⟨⟨_,rfl,rfl⟩,bE,bI⟩
   have Dd:(c==0)=false:=beq_eq_false_iff_ne.2 h0;have HO:(c==1)=false:=beq_eq_false_iff_ne.2 h1
   by_cases U:c=2
   ·have cD:Hid (rs=Ya F (Oa d 0).2 ⟨au,aG,st⟩ args σ1):=by show _=_;rw[sn.out,if_neg h0,if_neg h1,if_pos U]
    obtain⟨b9,cz,cap0,d4,xR,fU,_⟩:=nz.Yb (i:=0) (by rw[<-nG.out];omega)
    have⟨b5,dt⟩:=xE (Ya F (Oa d 0).2 ⟨au,aG,st⟩ args σ1);have mY:=hide (fun X (ak:Oo ch X)=>NZ FP f args σ1 rfl mf.out (uW.out.symm.trans U) X (.slice (some (N9 g iZ)) bT p2) b9 (jI.later ak) (mQ.later ak) (fU.kp (Kp.of ak)));rw[<-dt] at mY cD;rw[<-nG.out,<-bj.out] at d4;have⟨kp,c'⟩:=xE b9.p;rw[<-c'] at xR mY;have Ff:=hide d4;have lK:=hide xR;have ei:=hide (cells4 ja.out);have ds:=cell_lt d4;have dC:=cell_lt xR;have I4:=lt_of_heap ja.out;subst U;clear h0 h1 Dd HO d4 xR c' dt;go_wp2_with fail
    refine S9 9 fun ae=>?_;have z:=N8 (∀{G}(h:G:=by
    refine uk 4 (NZ Ff) ae ?_;refine uh 5 (Oy cz 0) (ae) ?_ (hy:=Or.inl ⟨by kernel_rfl,fun _ _=>by go_simp;intro h;omega⟩)
    refine uk 6 lK.out ae ?_;refine uk4 7 ei.out ae ?_;refine uh 8 (.slice (some (N9 g iZ)) bT p2) (ae) ?_;refine PS 9 fun K D=>?_;go_simp;refine cm (NZ mY _ ae) ?_;rintro e wd ⟨⟨ev,rfl,aL⟩,aJ,ah⟩;refine ko D ?_;clear D K;replace ah:=(OV.of (L:=none) ae (OO jh)).trans ah;have z:=N8 (∀{G}(h:G:=by
    have⟨hp,gp,gb,kb,kc,ke,kf⟩:=O3 hU.out;refine uz 10 (vA v9) ?_;have bL:=N8 (∀{G}(h:G:=by
    refine uz 13 ev ?_;refine RY ?_ _;go_simp;exact aCP),G);exact ztk),G);exact aCQ),G);exact VZ
   have LP:(c==2)=false:=beq_eq_false_iff_ne.2 U;have kq:=NZ FQ f args σ1 rfl mf.out;rw[<-uW.out] at kq;have⟨fn,lp,If,hv,Dm⟩:=kq h0 h1 U;have cD:Hid (rs=VE F fn args σ1):=by show _=_;rw[sn.out,if_neg h0,if_neg h1,if_neg U,hv]
   have⟨aT,aB,aA,aK,o3⟩:=id jI;obtain⟨d9,fO,hZ,sX⟩:=o3.fu;have⟨i,az⟩:=xE ((c - 3).toNat);rw[<-az] at hv;have rt:i<σ1.Qg.length:=(List.getElem?_eq_some_iff.1 hv).1;obtain⟨p0,qB⟩:∃ p0,d9[i]? = some p0:=⟨_,List.getElem?_eq_getElem Oe⟩;have ji:=sX i p0 fn qB hv;have⟨fg,m7,Io,_,_⟩:=hZ.form Oe;subst Io;have Ig:c=(i:Int)+3:=Oe;have hcell:∀ j x,(fn3 (p0,fn))[j]? = some x->j<3->ch.cell? (N9 fg (i * 3+j))=some x:=fun j x aS wm=>by
    have aH:(d9.zip σ1.Qg)[i]? = some (p0,fn):=by rw[List.getElem?_zip_eq_some];exact⟨qB,hv⟩
    rw[hZ.cellAt _ Oe,Xk (s:=3) (fun _=>rfl) _ i j wm,aH];exact aS
   have b9:=hcell 0 _ rfl Oe;have bP:=hcell 1 _ rfl Oe;have de:=hcell 2 _ rfl Oe;rw[Nat.add_zero] at b9;have Mf:fg<ch.heap.size:=(hZ.lt fg rfl).2;obtain⟨rh,_⟩:=o3.hh.at_ 7 _ rfl;have⟨fp,Ee⟩:=xE σ1.Qg.length;rw[<-Ee] at rh rt;have Ml:(i:Int)<(fp:Int):=Oe;have⟨b5,dt⟩:=xE (VE F fn args σ1);have q1:=(Dm ch (.slice (some (N9 g iZ)) bT p2) p0 jI mQ ji);rw[<-dt] at q1 cD;have⟨M7,D8⟩:=xE p0.p;have⟨ri,uq⟩:=xE fn.scope;have⟨fst,ur⟩:=xE fn.strict;rw[<-D8] at q1 b9;rw[<-uq] at q1 bP
   rw[<-ur] at q1 de;subst Ig;have L8:(i:Int)<1000000000:=Oe;clear h0 h1 U hcell sX fO qB hv az Ee dt D8 uq ur Dm lp If rt;go_wp2_with fail;refine cm q1 ?_;rintro e wd ⟨⟨ev,rfl,aL⟩,aJ,ah⟩;clear b9 bP de rh;have z:=N8 (∀{G}(h:G:=by
   have⟨hp,gp,gb,kb,kc,ke,kf⟩:=O3 hU.out;exact aCP),G);exact aCQ),G);exact TI
  ·have Mn:(f.k==5)=false:=beq_eq_false_iff_ne.2 pN;have cD:Hid (rs=((vU,bad tType),σ1)):=by
    show _=_
    rw[fM.out]
    show (if f.k≠5 then _ else _)=_
    rw[if_pos pN]
   clear pN;go_wp2_with fail;clear fB cy dO;exact aCO
 ·have⟨et,ex,bu⟩:=z'.WC ao ab;subst bu;have aI:rs=((vU,aw),σ1):=by
   rw[fM.out]
   cases aw with
   | no=>exact absurd rfl ao
   | stop=>cases vs <;> rfl
   | mis=>cases vs <;> rfl
   | X8 x=>cases vs <;> rfl
  have cD:=hide aI;clear aI ao;have z:=N8 (∀{G}(h:G:=by
  rw[cD.out];exact⟨⟨_,rfl,z'.Qn bh Ol⟩,bE,bI⟩),G);exact aBF),G);exact VZ),G);exact UZ),G);exact Xd
