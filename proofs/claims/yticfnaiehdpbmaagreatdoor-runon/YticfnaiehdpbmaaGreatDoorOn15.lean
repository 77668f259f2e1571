import Derived.Test.YticfnaiehdpbmaaGreatDoorOn13
import Derived.Test.YticfnaiehdpbmaaGreatDoorOn14
set_option maxRecDepth 100000
set_option maxHeartbeats 8000000
set_option linter.all false
namespace Go.Proofs.YticfnaiehdpbmaaGreatDoor
open Go.RowKit Go.Proofs.Tryz
namespace Hp
section
variable {w0:Ov} {mb af:Nat} {O:List Nat} {es aW aC aA aM:OG} {w w':Ov} {σ:St} {N:Nat} {F:Fx} {u:OG} {vs:List Va}
def aB8:VR 323:=fun _ _=>by kernel_rfl
def bx1 {b:Nat}{x:OG}{t:TypeId}(h:w.heap[b]? = some (O1 #[x] t)):w.cell? (Ot b 0)=some x:=by rw[cell_of h];rfl
def Q9.box {gU eH:OG}{b:Nat}{c:Array OG}(h:Q9 mb aA aM gU eH w w')(ae:Mx w0 mb af O aW aC aA aM w σ)(D:w.heap[b]? = some (O1 c 211))(az:aM.ownBlock≠some b):w'.heap[b]? = some (O1 c 211):=
 h.rest b c 211 D Oz (fun e=>by
  obtain⟨en,aj⟩:=Qc ae.ow e;exact QK D aj Oz rfl) az
def apm (a8:Bs w0 mb af O es)(bc:Y8 w0)(ae:Mx w0 mb af O aW aC aA aM w σ)(aI:Sz N σ)(hN:N+10000<1000000000){f:Fu}{a:Ad}(hd:OY O w a f.d)(E:f.d.2.kids.length=2)(aj:f.d.2.count<=1500)(eP:(Oy f.d 0).2.kids.length<=8)(U:∀ k ∈ TY (Oy f.d 1),k.2.kids.length=2)(iZ:(σ.M.ro f.scope).isSome=true)
  {dq b2 em:Nat} (b5:w.heap[dq]? = some (O1 #[Oo mb] 62)) (ef:w.heap[b2]? = some (O1 #[Oo a.p,Ol f.scope,OC f.strict] 211)) (cl:aM.ownBlock≠some b2) (d7:w.heap[em]? = some (O1 #[u] 311)) (aa:Ux w u vs) (hl:vs.length<=1500) {rs:(Oc × Er × Option Va) × St}
  (bq:∀ X g8 (bQ:Ad),Ms w0 mb af O X (Tt f.d ⟨σ.top,σ.top,f.strict⟩ vs (σ.opn f.scope (-1) (own f.d)))->TA 0 X g8 bQ.ks->Uo O X bQ.ks (P9 (Oy f.d 1))->OE 28 #[Oo mb,g8,PU ⟨σ.top,σ.top,f.strict⟩ none] X (P8 w0 mb af O es none X rs)) :
  OE 323 #[OM dq 0,OM b2 0,OM em 0] w (O3 w0 mb af O es w ((rs.1.1.v,rs.1.2.1),rs.2)):=by
 have bG:=ae.lt;obtain⟨xJ,q9,fst⟩:=f;obtain⟨⟨bH,ay,b3⟩,mN⟩:=rs
 dsimp only at hd E aj eP U iZ ef bq ⊢
 obtain⟨L,dr⟩:=xE (none:Option Nat);obtain⟨w2,da⟩:=xE (w.alloc (.cells #[Ol 0,Ol 0,PN] 65));have aF:OD w w2:=by rw[da];exact PO
 obtain⟨aU,b0⟩:=xE w.heap.size;have hr2:w2.heap[aU]? = some (O1 #[Ol 0,Ol 0,PN] 65):=by rw[da,b0];exact OA _ _
 have cL:w.heap.size<=aU:=Ou;obtain⟨ow,lV⟩:=xE (own xJ);obtain⟨e6,lq⟩:=xE (σ.top:Int);rw[<-lV,<-lq] at bq;obtain⟨σ1,ic⟩:=xE (σ.opn q9 (-1) ow);rw[<-ic] at bq;obtain⟨cy,ge⟩:=xE (Tt xJ ⟨e6,e6,fst⟩ vs σ1);rw[<-ge] at bq;have el:=(ae.later aF);have k1:=(hd.kp (Kp.of aF));have bj:=hide hr2;have cq:=aF;have ik:=hide (stays aF b5);have pj:=hide (stays aF ef);have nA:=hide (stays aF d7);have fj:=(aa.later aF);have cu:=(Q9.of (o:=aA) (f:=aM) aF (O0 bG))
 have k5:=hide (fun X (ak:OD w2 X)=>YD a8 (el.later ak) (k1.kp (Kp.of ak)));have ck:=hide (fun X (ak:OD w2 X)=>Y6 (el.later ak) aI Ou q9 (-1) ow iZ);rw[<-lV] at k5;rw[<-lq,<-ic] at ck;have b9:Sz (N+1) σ1:=by rw[ic];exact aI.opn _ _ _
 have rP:=hide (fun X VA (ak:Mx w0 mb af O aW aC VA aM X σ1) (qr:OY O X a xJ) (fZ:Ux X u vs)=>axg a8 bc ak b9 Ou qr E aj eP U ⟨e6,e6,fst⟩ none fZ hl);rw[<-ge] at rP;obtain⟨q,ag⟩:=xE a.p;rw[<-ag] at k5 rP pj;have bm:=hide ag;have ai:=hide bq;have f5:=hide E;have tq:=hide dr;have Cw:=hide cl;have bu:=hide da;have cR:=hide cL;have di:=el.lt;have eZ:=lt_of_heap ik.out;have gn:=lt_of_heap pj.out;have Eh:=lt_of_heap nA.out;have fi:=hide (bx1 ik.out);have f4:=hide (cells3 pj.out)
 clear E aj eP U iZ b5 ef cl d7 bq dr da hr2 cL lV lq ic ge ag bc;go_enter func323,ntmps323;go_wp2_with fail;rw[<-bu.out,<-b0];clear b0;refine TI 7 fun ab=>?_;refine uk 0 fi.out ab ?_;refine up 1 b2 1 ab ?_;refine uk 2 (f4.out.2.1) ab ?_;refine uk 3 fi.out ab ?_;refine up 4 b2 0 ab ?_;refine uk 5 (f4.out.1) ab ?_;refine P5 6 fun K A=>?_;go_simp;refine cm (Om k5 _ ab) ?_;rintro e k0 ⟨rfl,i1⟩;subst i1;refine A.out _ _ (fun _=>ab) ?_;clear A K;refine P5 7 fun K A=>?_;go_simp;refine cm (Om ck _ ab) ?_
 rintro e ap ⟨rfl,KL,fc,cS⟩;refine ko A ?_;clear A K;have g7:=el.later ab;have fI:=cS.frL (L:=none) g7;have eN:=fc;have cQ:=((cu.trans (Q9.of ab (O0 di))).trans cS);have rY:=hide (fI.keep (stays ab ik.out) Oz);have xl:=hide (fI.keep (stays ab nA.out) Oz);have dp:=hide (fI.keep (stays ab bj.out) Oz);have F0:=((O5.of (L:=none) (cq.trans (ab.mono cq.size)) (O0 bG)).trans fI);have Ci:=hide (cS.box g7 (stays ab pj.out) Cw.out);have m0:=((fj.later ab).frL fI);have lI:=((k1.kp (Kp.of ab)).kp fI.UD)
 have fD:=fc.lt;refine uz 8 (Ol e6) ?_;refine Sl ?_ _;go_simp;have cp:=bx1 rY.out;have jk:=bx1 xl.out;obtain⟨hs,ht,hu,_,hv⟩:=cells3 Ci.out;have Eg:=lt_of_heap rY.out;have Jc:=lt_of_heap xl.out;go_wp2_with fail;obtain⟨bA,fJ⟩:=xE (ap.alloc (.cells #[Ol e6,Ol e6,OC fst,Ri] 73));obtain⟨bf,bV⟩:=xE ap.heap.size;have lk:bA.heap[bf]? = some (O1 #[Ol e6,Ol e6,OC fst,Ri] 73):=by rw[fJ,bV];exact OA _ _
 have dh:OD ap bA:=by rw[fJ];exact PO
 rw[<-fJ,<-bV];have f7:=(eN.later dh);refine cm (Om rP bA KL f7 (lI.kp (Kp.of dh)) (m0.later dh)) ?_;rintro e b7 ⟨rfl,L1,lZ,hc⟩;have fI:=hc.frL (L:=none) f7;have hX:Ms w0 mb af O b7 cy:=⟨_,_,_,_,lZ⟩;have gu:=((cQ.trans (Q9.of dh (O0 fD))).trans hc);have Ch:=hide (fI.keep (stays dh rY.out) Oz);have fm:=hide (fI.keep (stays dh dp.out) Oz);have jd:=hide (fI.keep lk Oz);have Cj:=hide (hc.box f7 (stays dh Ci.out) Cw.out);have nx:=((lI.kp (Kp.of dh)).kp fI.UD)
 have FY:=(((O5.of (L:=none) dh (O0 fD)).trans fI));have hR:=lZ.lt;clear lk fJ bV cp jk hs ht hu hv Eg Jc;obtain⟨bQ,cB,cap0,c3,fW,jh,_⟩:=nx.Yj (i:=1) (by rw[f5.out];omega)
 rw[f5.out] at c3;obtain⟨cV,dP,jJ,hrow⟩:=jh.ar;obtain⟨gt,he⟩:=xE ((Oy xJ 1).2.kids.length);rw[<-he] at jJ hrow;have bJ:=hide (fun X (ak:OD b7 X)=>Om ai X _ bQ (hX.later ak) (hrow.later ak) ((jh.kp (Kp.of ak)).ndl));obtain⟨kp,dc⟩:=xE bQ.p;rw[<-dc] at fW jJ;rw[<-bm.out] at c3;have eF:=hide c3;have lG:=hide fW;have FN:=hide jJ;have dI:=cell_lt fW;have dz:=cell_lt c3;have cM:=cell_lt jJ;have fi:=hide (bx1 Ch.out);have f4:=hide (cells3 Cj.out);have ei:=hide (cells4 jd.out);have MP:=lt_of_heap Ch.out
 have MQ:=lt_of_heap Cj.out;have MT:=lt_of_heap jd.out;have xq:OV b7 L (none:Option Va):=by show OV _ _ _;rw[tq.out];trivial
 rw[<-tq.out] at bJ;clear c3 fW jJ he dc;go_wp2_with fail;refine VN (H:=fun wz vb ev=>SB w0 mb af O es L b7 bH ay b3 mN wz vb ev) (G:=?GG) (fun dJ=>?ways) ?rest
 case ways=>
  refine TI 12 fun ab=>?_;refine uk 0 fi.out ab ?_;refine up 1 b2 0 ab ?_;refine uk 2 (f4.out.1) ab ?_;refine up 3 q 0 ab ?_;refine up 4 q 3 ab ?_;refine uk 5 eF.out ab ?_;refine up 6 cB 1 ab ?_;refine uk 7 lG.out ab ?_;refine up 8 kp 0 ab ?_;refine up 9 kp 3 ab ?_;refine uk 10 (Om FN) ab ?_;refine uk4 11 ei.out ab ?_;refine uq2 12 16 (fun K A=>?_) fun K A=>?_
  ·go_simp;refine cm (Om bJ _ ab) ?_;rintro e aE ⟨⟨ev,rfl,aD⟩,aJ,ah,g3⟩;refine ko A ?_;clear A K;refine uz 13 (.tuple #[(UY bH),ev]) ?_;refine uz 14 (UY bH) ?_;refine uz 15 ev ?_;refine P5 16 fun K A=>?_;go_simp;refine ko A ?_;clear A K;refine P5 17 fun K A=>?_;go_simp;refine ko A ?_;clear A K;refine uz 18 ev ?_;refine Sl ?_ _;go_simp;have ci:=SB.late (o:=bH) aD aJ ((O5.of ab (O0 hR)).trans ah) g3;exact axT
  ·go_simp;refine A.out _ _ (fun _=>PO.drew) ?_;clear A K;refine P5 12 fun K A=>?_;go_simp;refine cm (Om bJ _ (PO.drew)) ?_;rintro e aE ⟨⟨ev,rfl,aD⟩,aJ,ah,g3⟩;refine ko A ?_;clear A K;have fp:aE.heap[b7.heap.size]? = some (O1 #[OC false,Ol 0,Ol 0,PN] 67):=ah.Rt (xq.later (PO.drew)) (OA _ _) Oz Oz;obtain⟨z0,mJ,z2,z3,mK,mL,mM,s9,zl⟩:=Qx (fp);refine uz 13 (.tuple #[(UY bH),ev]) ?_;refine uz 14 (UY bH) ?_;refine uz 15 ev ?_;refine P5 17 fun K A=>?_;go_simp;refine ko A ?_;clear A K;refine uz 18 ev ?_
   refine Sl ?_ _;go_simp;have ci:=SB.early (o:=bH) fp O6 (O0 hR) aD aJ ((O5.of (PO.drew) (O0 hR)).trans ah) g3
   generalize (((aE.setCell (Ot b7.heap.size 0) (OC bH.ret)).setCell (Ot b7.heap.size 1) (Ol bH.v.k)).setCell (Ot b7.heap.size 2) (Ol bH.v.n)).setCell (Ot b7.heap.size 3) (OB bH.v.s)=wz at ci ⊢
   generalize b7.heap.size=vb at ci ⊢
   exact dJ wz vb ev ci
 rintro wt lb ev cJ;have vn:=cJ.fr;rw[tq.out] at vn;have gg:=hide (vn.keep fm.out Oz);have ij:=((F0.trans FY).trans vn);have nE:=cJ.ms;have jp:=cJ.er;have wm:lb≠aU:=fun e=>by
  have h1:=cJ.ob;have U:=lt_of_heap fm.out;omega
 obtain⟨iB,v1⟩:=bH;obtain⟨cH,bU,cg,dt,du,dv,rl⟩:=O7 gg.out;obtain⟨hs,ht,hu,pX,ig,ih,ii,pY,hv⟩:=Qx (cJ.o);go_wp2_with fail;obtain⟨b1,bx,bi,bF,bC,cG,b4,bT⟩:=rt3 gg.out cR.out bG ij nE (Ol v1.k) (Ol v1.n) (OB v1.s);rw[<-bx];refine WA (v:=.tuple #[vA v1,ev]) ?_;exact⟨⟨_,rfl,jp.Qw bi Oz⟩,bC,bF⟩
def Sz.calls (h:Sz N σ)(c:Nat):Sz N { σ with calls:=c }:=⟨h.go,h.ow,h.fn,h.lg,h.se,h.oe⟩
def asT (a8:Bs w0 mb af O es)(bc:Y8 w0)(ae:Mx w0 mb af O aW aC aA aM w σ)(aI:Sz N σ)(hN:N+10000<1000000000)(dK:σ.calls<=40){f:Fu}{a:Ad}(hd:OY O w a f.d)(E:f.d.2.kids.length=2)(aj:f.d.2.count<=1500)(eP:(Oy f.d 0).2.kids.length<=8)(U:∀ k ∈ TY (Oy f.d 1),k.2.kids.length=2)(iZ:(σ.M.ro f.scope).isSome=true)(aa:Ux w u vs)(hl:vs.length<=1500){g:St->(Oc × Er × Option Va) × St}
  (bY:σ.calls≠40->(g { σ with calls:=σ.calls+1 }).2.calls=σ.calls+1)
  (bq:σ.calls≠40->∀ X g8 (bQ:Ad),Ms w0 mb af O X (Tt f.d ⟨σ.top,σ.top,f.strict⟩ vs (St.opn { σ with calls:=σ.calls+1 } f.scope (-1) (own f.d)))->TA 0 X g8 bQ.ks->Uo O X bQ.ks (P9 (Oy f.d 1))->OE 28 #[Oo mb,g8,PU ⟨σ.top,σ.top,f.strict⟩ none] X (P8 w0 mb af O es none X (g { σ with calls:=σ.calls+1 }))) :
  OE 301 #[Oo mb,.agg #[Oo a.p,Ol f.scope,OC f.strict],u] w (O3 w0 mb af O es w (within σ fun σ=>(((g σ).1.1.v,(g σ).1.2.1),(g σ).2))):=by
 have jx:=Yk;have bG:=ae.lt;obtain⟨cV,dP,aT⟩:=aa.form;subst aT;obtain⟨q,ag⟩:=xE a.p;obtain⟨q9,t8⟩:=xE f.scope;obtain⟨fst,ua⟩:=xE f.strict;obtain⟨w2,da⟩:=xE ((((w.alloc (.cells #[Oo mb] 62)).alloc (.cells #[Oo q,Ol q9,OC fst] 211)).alloc (.cells #[.slice cV vs.length dP] 311)).alloc (.cells #[Ol 0,Ol 0,PN] 65));have aF:OD w w2:=by rw[da];exact((PO.alloc O8 _).alloc Rh _).alloc Rh _
 obtain⟨dq,b6⟩:=xE w.heap.size;obtain⟨c2,eS⟩:=xE (w.heap.size+1);obtain⟨em,br⟩:=xE (w.heap.size+1+1);obtain⟨aU,b0⟩:=xE (w.heap.size+1+1+1);have b5:w2.heap[dq]? = some (O1 #[Oo mb] 62):=by rw[da,b6];exact alloc_old (alloc_old (alloc_old (OA _ _)))
 have ef:w2.heap[c2]? = some (O1 #[Oo q,Ol q9,OC fst] 211):=by
  rw[da,eS,show w.heap.size+1=(w.alloc (.cells #[Oo mb] 62)).heap.size by simp];exact alloc_old (alloc_old (OA _ _))
 have d7:w2.heap[em]? = some (O1 #[.slice cV vs.length dP] 311):=by
  rw[da,br,show w.heap.size+1+1=((w.alloc (.cells #[Oo mb] 62)).alloc (.cells #[Oo q,Ol q9,OC fst] 211)).heap.size by simp];exact alloc_old (OA _ _)
 have hr2:w2.heap[aU]? = some (O1 #[Ol 0,Ol 0,PN] 65):=by
  rw[da,b0,show w.heap.size+1+1+1=(((w.alloc (.cells #[Oo mb] 62)).alloc (.cells #[Oo q,Ol q9,OC fst] 211)).alloc (.cells #[.slice cV vs.length dP] 311)).heap.size by simp];exact OA _ _
 have cL:w.heap.size<=aU:=Ou;have cl:aM.ownBlock≠some c2:=fun e=>by
  obtain⟨d6,_,hrow,_⟩:=ae.fu;have:=(hrow.lt c2 e).2;omega
 have eJ:=ae.later aF;have cU:=hd.kp (Kp.of aF);have e0:=aa.later aF;obtain⟨rs,eI⟩:=xE (within σ fun σ=>(((g σ).1.1.v,(g σ).1.2.1),(g σ).2));have a1:=acu (es:=es) eJ dK aB8 (caps:=#[OM dq 0,OM c2 0,OM em 0]) (g:=fun σ=>(((g σ).1.1.v,(g σ).1.2.1),(g σ).2)) bY (fun vN X ak bI dd=>by
  have I9:Kp w2 X:=fun b c e D aq=>bI b c e D (by rcases aq with rfl|rfl <;> decide);refine apm (f:=f) (a:=a) a8 bc ak (aI.calls _) hN (cU.kp I9) E aj eP U iZ (bI _ _ _ b5 Oz) (b2:=c2) ?_ cl (bI _ _ _ d7 Oz) (e0.keep fun b c D=>bI b c 65 D Oz) hl (bq vN);rw[<-ag,<-t8,<-ua];exact bI _ _ _ ef Oz)
 rw[<-eI] at a1 ⊢;rw[<-ag,<-t8,<-ua];have bj:=hide hr2;have cu:=(O5.of (L:=none) aF (O0 bG));have bu:=hide da;have cR:=hide cL;have f3:=hide b6;have cq:=hide eS;have d3:=hide br;have d9:=hide b0;clear E aj eP U iZ bY bq hr2 b5 ef d7 cl da cL b6 eS br b0 eI ag t8 ua bc dK;go_enter func301,ntmps301;go_wp2_with fail;rw[<-bu.out,<-d9.out,<-d3.out,<-cq.out,<-f3.out];refine cm a1 ?_;rintro e aE ⟨⟨ev,rfl,aD⟩,aJ,ah⟩;have dF:=hide (ah.keep bj.out Oz);have fl:=(cu.trans ah)
 obtain⟨v9,lX⟩:=xE rs.1.1;rw[<-lX];have k9:=hide lX;clear lX;exact aB9
structure Gl (w:Ov):Prop where
 li:Lists Pn Ph w
 ta:Tabs w
def Gl.later (h:Gl w)(D:OD w w'):Gl w':=⟨h.li.later D,h.ta.later D⟩
def Gl.ms (h:Gl w0)(a8:Bs w0 mb af O es)(aJ:Ms w0 mb af O w σ):Gl w:=h.later (by unfold OD;rw[a8.sz];exact aJ.below)
def evT (s:OH)(st:Bool):Option Tr:=match Qd Pn Ph s with
 | .ok t=>match chk t st false false with
  | none=>some t
  | some _=>none
 | _=>none
def axh (es:OG)(w:Ov)(r:Option Tr)(e:Ending)(w':Ov):Prop:=OD w w'/\match r with
 | some t=>∃ p,e=OQ (.tuple #[Oo p,.nilIface])/\Qb (From w.heap.size) w' t p
 | none=>∃ ev,e=OQ (.tuple #[.pointer none,ev])/\Xm es w' ev (bad UC)
def ajg (s:OH)(st:Bool)(w:Ov)(hg:Gl w):OE 321 #[OB s,OC st] w (axh es w (evT s st)):=by
 have hP:=parse_any Pn Ph s w hg.li V3 hg.ta;obtain⟨r,aa⟩:=xE (evT s st);rw[<-aa]
 cases al:Qd Pn Ph s with
 | ok t=>
  rw[al] at hP;have h7:=adC al;have hcnt:=(VZ al).2;have HP:=hP;have ai:=hide (fun p X (az:UA X t p)=>adG t p st false X az h7 Ou);obtain⟨c,aj⟩:=xE (chk t st false false);rw[<-aj] at ai
  cases c with
  | none=>
   have aK:r=some t:=by rw[aa];unfold evT;rw[al];simp only;rw[<-aj]
   have z:=Oq (∀{G}(h:G:=by
   have ga:e=OQ Qp:=aq;subst ga;have cq:=aF;clear aq;go_wp2_with fail;refine UU (v:=.tuple #[Oo p,Qp]) ?_;exact⟨bL.trans (cq.mono bL.size),p,rfl,Qb.later (Below.stay cq) _ _ dB⟩),G);exact aCb
  | some er=>
   have aK:r=none:=by rw[aa];unfold evT;rw[al];simp only;rw[<-aj]
   have z:=Oq (∀{G}(h:G:=by
   have ga:e=OQ (.iface 34 (Ol er)):=aq;subst ga;have cq:=(bL.trans (aF.mono bL.size));clear aq;go_wp2_with fail;refine cm (Xj UC w2) ?_;rintro e ap ⟨⟨tb,rfl,_,aD⟩,br⟩;have d3:=(cq.trans (br.mono cq.size));exact aCc),G);exact aCb
 | «at» er pl=>
  have z:=Oq (∀{G}(h:G:=by
  rintro e w1 ⟨b,rfl,_,_,D⟩;exact aCd),G);exact aCe
 | bare=>
  have z:=Oq (∀{G}(h:G:=by
  rintro e w1 ⟨rfl,D⟩;exact aCd),G);exact aCe
def apn (ae:Mx w0 mb af O aW aC aA aM w σ)(aI:Sz N σ)(hN:N<1000000000)(au:Int)(nm:OH) :
  OE 354 #[Oo mb,Ol au,OB nm] w fun e w'=>e=OQ (.tuple #[])/\Mx w0 mb af O aW aC aA aM w' (loosen au nm σ)/\Py Th mb w w':=by
 have bG:=ae.lt;have dw:=(akq ae.hh au);have il:=(auB ae.hh aI.go.sm (O0 hN) au nm);obtain⟨o,aR⟩:=xE (σ.M.RD au);obtain⟨zS,tY⟩:=xE (σ.M.has au nm);rw[<-aR] at dw;rw[<-tY] at il;obtain⟨cy,ge⟩:=xE (loosen au nm σ);rw[<-ge];unfold loosen at ge;rw[<-aR,<-tY] at ge;have HP:=hide (fun X (ak:Mx w0 mb af O aW aC aA aM X σ)=>YS ak aI hN o nm vU false);have d4:=hide (fun X (ak:Mx w0 mb af O aW aC aA aM X σ)=>Xl ak aI hN au nm 4 vU);clear aR tY
 cases zS with
 | true=>
  rw[if_pos rfl] at ge;rw[ge];have z:=Oq (∀{G}(h:G:=by
  go_wp2
  go_end0
  exact⟨rfl,ae.later bL,Py.of bL (O0 bG)⟩),G);exact axi
 | false=>
  rw[if_neg O8] at ge
  by_cases h1:o = -1
  ·rw[if_neg (by simp[h1])] at ge;have a':=hide ge;clear ge;have z:=Oq (∀{G}(h:G:=by
   have di:=(ae.later D).lt;go_wp2_with fail;refine cm (Om d4 _ (ae.later bL)) ?_;exact aCf),G);exact axi
  ·rw[if_pos h1] at ge;have a':=hide ge;clear ge;have z:=Oq (∀{G}(h:G:=by
   have di:=(ae.later D).lt;go_wp2_with fail;refine cm (Om HP _ (ae.later bL)) ?_;exact aCf),G);exact axi
def acw {a:Ad}{d:Nd}(hd:OY O w a d)(aj:d.2.count<=1500):OE 352 #[Oo a.p] w fun e w'=>(∃ u,e=OQ u/\Rx w.heap.size w' u (TP d.2))/\OD w w':=by
 obtain⟨i0,dR,dA,b9,cn⟩:=info_parts info9;have cM:=Rf d.2;have az:UA w d.2 a.p:=by rw[<-hd.tr];exact hd.at_.nat.nt
 have bJ:=(WZ d.2 a.p w az Ou);have hV:=hide (fun X (ak:OD w X)=>XA a X (RV.kp (Kp.of ak) _ hd.at_) (by rw[hd.ks];omega))
 obtain⟨V,fZ⟩:=xE (P6 d.2);have DH:V.length<=1500:=by
  have z:=Oq (∀{G}(h:G:=by
  rw[fZ];omega),G);exact asU
 obtain⟨c9,fk⟩:=xE (a.ks.filter fun k=>TM k.tr);have No:c9.length<=1500:=by
  have h1:=List.length_filter_le (fun k:Ad=>TM k.tr) a.ks;rw[fk,<-hd.ks] at *;omega
 have aK:TP d.2=V++c9.map (fun k=>k.tr.tx):=by
  rw[fZ,fk];unfold TP TV;have h1:d.2.kids=a.ks.map Ad.tr:=by rw[<-hd.tr];exact a.aj2.2.2
  rw[h1,List.filter_map,List.map_map];rfl
 rw[aK];rw[<-fZ] at bJ;rw[<-fk] at hV;obtain⟨q,ag⟩:=xE a.p;rw[<-ag] at bJ hV ⊢;clear cM aK fZ fk ag;go_enter func352,ntmps352;go_wp2_with fail;refine cm bJ ?_;rintro e w1 ⟨⟨gW,rfl,hr1⟩,b6⟩;obtain⟨va,dD,o4⟩:=OX hr1;subst o4;go_wp2_with fail;refine cm (Om hV w1 b6) ?_;rintro e w2 ⟨⟨gC,rfl,hr2⟩,aF⟩;obtain⟨d6,mo,wI⟩:=hr2.form;subst wI;have GS:=(Pe hr1 aF);have cq:=(b6.trans (aF.mono b6.size));have hsz2:=cq.size;go_wp2_with fail
 go_loopw [3,11] (fun o i wr=>∃ k:Nat,k<=c9.length/\i=Ol k/\Rx w.heap.size wr o (V++(c9.take k).map (fun k=>k.tr.tx))/\OD w wr/\Kp w2 wr) (fun _ i _=>c9.length - (intOf i).toNat)
 case atStart=>exact⟨0,Nat.zero_le _,rfl,by simpa using GS,cq,fun _ _ _ h _=>h⟩
 case round=>
  obtain⟨k,E,rfl,hown,hbel,dc⟩:=hrel;have HOWN:=hown;obtain⟨aB,iS,rfl⟩:=OX hown;have dd:=hbel.size
  by_cases aQ:k<c9.length
  ·obtain⟨g,cap,av,hg,aj,az⟩:=(hr2.kp dc).cell k aQ;simp only[Value.slice.injEq] at av;obtain⟨rfl,_,rfl⟩:=av;obtain⟨dz,_,c1,_⟩:=UA.cells az.nat.nt;have h8:(k:Int)<(c9.length:Int):=Ou;obtain⟨x,dQ⟩:=xH ((c9[k]).tr.tx);rw[<-dQ.out] at c1;obtain⟨hn,nk⟩:=xE ((c9[k]).p);rw[<-nk] at aj dz c1;obtain⟨q6,dU⟩:=xH (V++(c9.take k).map (fun k=>k.tr.tx));obtain⟨m,hW⟩:=xH q6.length;have di:m<=3000:=by rw[hW.out,dU.out];simp;omega
   rw[<-dU.out] at HOWN ⊢;have nK:World.ownsRow wr w.heap.size 9 1 (.slice aB m iS) m (q6.map Value.string):=by
    show World.ownsRow _ _ _ _ _ _ _
    rw[hW.out];exact HOWN
   rw[<-hW.out];clear nk;have z:=Oq (∀{G}(h:G:=by
   have cr:OD wr (wr.alloc (.cells #[OB x] 9)):=PO;have v8:Py [9] w.heap.size (wr.alloc (.cells #[OB x] 9)) ap:=Py.grown hgrow Rh fun b D=>by
    obtain⟨c,aj⟩:=Qc (nK.alloc _) D;exact⟨by have:=(Qj nK b D).2;omega,c,9,aj,by simp⟩
   have jE:Kp w2 ap:=fun b c e D aq=>v8.rest b c e (Kp.of cr b c e (dc b c e D aq) aq) (by rcases aq with rfl|rfl <;> decide);clear iM;go_wp2_with fail;refine⟨⟨k+1,by omega,by go_num,?_,d3,jE⟩,by simp[intOf];omega⟩
   rw[List.take_succ_eq_append_getElem aQ,List.map_append,<-List.append_assoc,<-dU.out]
   show World.ownsRow _ _ _ _ _ _ _
   rw[List.length_append,List.map_append,<-hW.out]
   show World.ownsRow _ _ _ _ _ _ (_++[Value.string (c9[k]).tr.tx])
   rw[<-dQ.out];exact hown'),G);exact az3
  ·have cT:k=c9.length:=Ou;subst cT;have h8:¬ (c9.length:Int)<(c9.length:Int):=Ou;go_wp2;go_ret;refine⟨⟨_,rfl,?_⟩,hbel⟩;have h:=HOWN;rw[List.take_length,List.length_append,List.length_map] at h;exact h
def apo {M:Mo}(ok:M.Ok){s:Int}(h0:0<=s):-1<=M.outOf s/\M.outOf s<s:=by
 unfold Mo.outOf
 rcases P7 M s with ⟨h1,_⟩|⟨i,x,rfl,ae,h1⟩
 ·rw[h1];exact⟨by decide,by show (-1:Int)<s;omega⟩
 ·rw[h1];exact ok.out i x ae
def apq (aJ:Ms w0 mb af O w σ)(aI:Sz N σ)(hN:N<1000000000){a:Ad}{d:Nd}(hd:OY O w a d)(aj:d.2.count<=1500)(p:Pl)(aB:Option Addr)(al:0<=p.scope/\p.scope<σ.M.OI.length) :
  OE 339 #[Oo mb,Oo a.p,PU p aB] w fun e w'=>e=OQ (OC (hidden σ.M d.2 p))/\OD w w':=by
 have bG:=aJ.lt;have z:=Oq (∀{G}(h:G:=by
 have b8:=hide be;have p3:=(acw (hd.kp (Kp.of aF)) aj);obtain⟨l,hl⟩:=xE (TP d.2);rw[<-hl] at p3;have iu:l.length<=3000:=by
  have z:=Oq (∀{G}(h:G:=by
  have aw:=List.length_filter_le TM d.2.kids;have aL:=Rf d.2;rw[hl];unfold TP;rw[List.length_append,List.length_map];show _+(d.2.kids.filter TM).length<=_;omega),G);exact asU
 obtain⟨M,vQ⟩:=xE σ.M;obtain⟨av,Cn⟩:=xH (fun nm=>agL M nm aG (M.OI.length+1) au:OH->Bool);obtain⟨R,dj⟩:=xH (l.any av);have aK:hidden σ.M d.2 ⟨au,aG,st⟩=R:=by rw[dj.out,Cn.out,hl,vQ];rfl
 rw[aK];have f5:=hide (fun X (ak:OD w X) (s:Int) (nm:OH)=>by
  obtain⟨_,_,_,_,ae⟩:=aJ.later ak;exact awh ae.hh aI.go.sm (O0 hN) s nm)
 have dw:=hide (fun X (ak:OD w X) (s:Int)=>by
  obtain⟨_,_,_,_,ae⟩:=aJ.later ak;exact asb ae.hh s)
 rw[<-vQ] at f5 dw al;have wu:M.Ok:=by rw[vQ];exact aI.go.ok
 have Nm:M.OI.length<=1000000000:=by have:=aI.go.sm.r;rw[vQ];omega
 obtain⟨q,ag⟩:=xE a.p;rw[<-ag] at p3 ⊢;have Ni:0<=au:=al.1;have hsc1:au<M.OI.length:=al.2;clear be hl vQ aK ag al;go_enter func339,ntmps339;go_wp2_with fail;rw[<-bu.out,<-bV];clear bV;refine cm p3 ?_;rintro e ap ⟨⟨kC,rfl,iR⟩,br⟩;obtain⟨va,dD,wJ⟩:=OX iR;subst wJ;have d3:=(aF.trans (br.mono aF.size));have fM:=hide (stays br b8.out);go_wp2_with fail
 go_loopw [14] (fun i wr=>∃ k:Nat,k<=l.length/\i=Ol k/\(l.take k).any av=false/\OD w wr/\OD ap wr) (fun i _=>l.length - (intOf i).toNat)
 case atStart=>exact⟨0,Nat.zero_le _,rfl,rfl,d3,QX⟩
 case round=>
  obtain⟨k,E,rfl,hany,hbel,sH⟩:=hrel;have yJ:=hide hany;have Nn:=hbel.size;clear hany
  by_cases aQ:k<l.length
  ·obtain⟨g,cap,e0,hg,_,eS⟩:=UR (Pe iR sH) k aQ;simp only[Value.slice.injEq] at e0;obtain⟨rfl,_,rfl⟩:=e0;have h8:(k:Int)<(l.length:Int):=Ou;obtain⟨x,ae⟩:=xE (l[k]);rw[<-ae] at eS;have dQ:=hide ae;obtain⟨aZ,p1,cK,cX,_,d2⟩:=cells4 (stays sH fM.out);clear ae;go_wp2_with fail;clear eS aZ p1 cK cX d2
   go_loopw [9] (fun i Fl=>∃ (s:Int) (f:Nat),i=Ol s/\-1<=s/\s<M.OI.length/\s<f/\agL M x aG f s=av x/\OD w Fl/\OD ap Fl) (fun i _=>((intOf i)+1).toNat)
   case atStart=>exact⟨au,M.OI.length+1,rfl,by omega,hsc1,by omega,by rw[Cn.out],hbel,sH⟩
   case round=>
    obtain⟨s,f,rfl,pR,np,Nl,EU,oO,Ax⟩:=hrel;have xy:=hide EU;have JI:=oO.size;clear EU
    by_cases h1:s = -1
    ·subst h1;have By:av x=false:=by
      rw[<-xy.out]
      cases f with
      | zero=>rfl
      | succ f=>rw[agL,if_pos rfl]
     have vq:=hide By;clear By;go_wp2_with fail;refine⟨⟨k+1,by omega,by go_num,?_,oO,Ax⟩,by simp[intOf];omega⟩
     rw[List.take_succ_eq_append_getElem aQ,List.any_append,yJ.out,<-dQ.out];simp[vq.out]
    ·obtain⟨f,rfl⟩:∃ eH,f=eH+1:=⟨f - 1,by omega⟩;have JF:0<=s:=Ou;obtain⟨rF,AX⟩:=xE (M.kindOf s x);have eD:agL M x aG (f+1) s=if rF=1\/rF=2 then true else if s=aG then false else agL M x aG f (M.outOf s):=by rw[agL,if_neg h1,AX]
     have pm:=(Om f5 wr oO s x);rw[<-AX] at pm;have wj:mb<wr.heap.size:=Ou;clear AX
     by_cases sZ:rF=1\/rF=2
     ·have ET:av x=true:=by rw[<-xy.out,eD,if_pos sZ]
      have An:R=true:=by
       rw[dj.out];refine List.any_eq_true.2 ⟨l[k],List.getElem_mem _,?_⟩;rw[<-dQ.out];exact ET
      subst An;clear eD ET
      by_cases bQ:rF=1
      ·subst bQ;clear sZ;exact aCg
      ·have ds:rF=2:=Ou;subst ds;clear sZ bQ;exact aCg
     ·rw[if_neg sZ] at eD;have bQ:(rF==1)=false:=beq_eq_false_iff_ne.2 fun e=>sZ (.inl e);have ds:(rF==2)=false:=beq_eq_false_iff_ne.2 fun e=>sZ (.inr e);clear sZ
      by_cases Bn:s=aG
      ·rw[if_pos Bn] at eD;have vq:Hid (av x=false):=xy.out.symm.trans eD;clear eD;subst Bn;have z:=Oq (∀{G}(h:G:=by
       obtain⟨aZ,p1,cK,cX,_,d2⟩:=cells4 kJ.out;go_wp2_with fail;refine⟨⟨k+1,by omega,by go_num,?_,iD,yN⟩,by simp[intOf];omega⟩
       rw[List.take_succ_eq_append_getElem aQ,List.any_append,yJ.out,<-dQ.out];simp[vq.out]),G);exact axj
      ·rw[if_neg Bn] at eD;have hZ:=hide eD;obtain⟨so,Bo⟩:=xE (M.outOf s);have n0:=apo wu JF;rw[<-Bo] at hZ n0;have CC:=hide (fun X (ak:OD w X)=>Om dw X ak s);rw[<-Bo] at CC;clear eD Bo;have z:=Oq (∀{G}(h:G:=by
       obtain⟨aZ,p1,cK,cX,_,d2⟩:=cells4 kJ.out;go_wp2_with fail;refine cm (Om CC _ iD) ?_;rintro e b7 ⟨rfl,rfl⟩;clear aZ p1 cK cX d2;go_wp2_with fail;exact⟨⟨so,f,rfl,n0.1,by omega,by omega,hZ.out.symm.trans xy.out,iD,yN⟩,by simp[intOf];omega⟩),G);exact axj
  ·have z:=Oq (∀{G}(h:G:=by
   go_wp2;go_ret;refine⟨?_,hbel⟩;have h:=Om yJ;rw[List.take_length] at h;rw[dj.out,h];rfl),G);exact asV),G);exact zss
def asW (ae:Mx w0 mb af O aW aC aA aM w σ)(aI:Sz N σ)(hN:N<1000000000)(s:Int)(nm:OH)(v:Va) :
  OE 267 #[Oo mb,Ol s,OB nm,vA v] w fun e w'=>e=OQ (Ur (σ.M.write s nm v).1)/\Mx w0 mb af O aW aC aA aM w' { σ with M:=(σ.M.write s nm v).2 }/\Py Th mb w w':=by
 refine(aeL ae.hh aI.go.sm (O0 hN) s nm v).mono ?_;rintro e w' ⟨rfl,h1,U⟩;exact⟨rfl,ae.heap h1 U,U⟩
def loF (aG:Int)(l:List OH)(k:Nat)(σ:St):St:=(l.take k).foldl (fun σ nm=>loosen aG nm σ) σ
def aha (aG:Int)(l:List OH)(k:Nat)(σ:St)(hl:k<l.length):loF aG l (k+1) σ=loosen aG l[k] (loF aG l k σ):=by
 unfold loF;exact apl
def Sz.loosen (h:Sz N σ)(s:Int)(nm:OH):Sz (N+1) (loosen s nm σ):=by
 unfold Hp.loosen
 split
 ·exact h.up (Nat.le_succ _)
 ·split
  ·exact h.RG _ _ _ _
  ·exact h.dec _ _ _ _
def afb (s:Int)(nm:OH)(σ:St):(loosen s nm σ).M.OI.length=σ.M.OI.length:=by
 unfold loosen
 split
 ·rfl
 ·split
  ·exact aap _ _ _ _ _
  ·exact Vu _ _ _ _ _
def amq (aG:Int)(l:List OH)(k:Nat):∀ {σ:St},(loF aG l k σ).M.OI.length=σ.M.OI.length:=by
 intro σ;unfold loF
 generalize l.take k=l'
 induction l' generalizing σ with
 | nil=>rfl
 | cons a l bn=>exact bn.trans (afb _ _ _)
def Sz.loF (aG:Int)(l:List OH):∀ (k:Nat) {σ:St},Sz N σ->k<=l.length->Sz (N+k) (loF aG l k σ)
 | 0,_,h,_=>h
 | k+1,σ,h,E=>by
  rw[aha aG l k σ Ou];exact(Sz.loF aG l k h Ou).loosen _ _
def fwF (p:Pl)(k:Nd)(σ:St):St:={ (mkFun k p σ).2 with M:=((mkFun k p σ).2.M.write p.declares k.2.tx (mkFun k p σ).1).2 }
def evF (p:Pl)(a6:List Nd)(k:Nat)(σ:St):St:=(a6.take k).foldl (fun σ k=>fwF p k σ) σ
def ahb (p:Pl)(a6:List Nd)(k:Nat)(σ:St)(hl:k<a6.length):evF p a6 (k+1) σ=fwF p a6[k] (evF p a6 k σ):=by
 unfold evF;exact apl
def Sz.fwF (h:Sz N σ)(p:Pl)(k:Nd):Sz (N+2) (fwF p k σ):=(h.mkFun k p).heap (Nat.le_succ _) ((h.mkFun k p).go.write _ _ _) (Yl _ _ _ _)
def Sz.evF (p:Pl)(a6:List Nd):∀ (k:Nat) {σ:St},Sz N σ->k<=a6.length->Sz (N+2 * k) (evF p a6 k σ)
 | 0,_,h,_=>h
 | k+1,σ,h,E=>by
  rw[ahb p a6 k σ Ou];exact(Sz.evF p a6 k h Ou).fwF _ _
def aji (d:Nd)(p:Pl)(σ:St):OO d p σ=if 0<(Pv d.2).length then
   ({ p with scope:=(loF p.declares (TP d.2) (TP d.2).length σ).top },evF { p with scope:=(loF p.declares (TP d.2) (TP d.2).length σ).top } (TY d) (TY d).length (Qz (Pv d.2) (loF p.declares (TP d.2) (TP d.2).length σ).top ((loF p.declares (TP d.2) (TP d.2).length σ).opn p.scope (-1) (-3))))
  else (p,evF p (TY d) (TY d).length (loF p.declares (TP d.2) (TP d.2).length σ)):=by
 unfold OO evF loF;rw[List.take_length,List.take_length];simp only
 split <;> rfl
def ahc (ae:Mx w0 mb af O aW aC aA aM w σ)(aI:Sz N σ)(hN:N+9000<1000000000){a:Ad}{d:Nd}(hd:OY O w a d)(aj:d.2.count<=1500)(U:∀ k ∈ TY d,k.2.kids.length=2)(p:Pl)(aB:Option Addr)(iZ:0<=p.scope/\p.scope<σ.M.OI.length) :
  OE 340 #[Oo mb,Oo a.p,PU p aB] w fun e w'=>e=OQ (PU (OO d p σ).1 aB)/\∃ VA WI,Mx w0 mb af O aW aC VA WI w' (OO d p σ).2/\Q9 mb aA aM VA WI w w':=by
 have bG:=ae.lt;have qs:=aji d p σ;obtain⟨au,aG,st⟩:=p;obtain⟨w2,bu⟩:=xH ((w.alloc (.cells #[Ol au,Ol aG,OC st,.pointer aB] 73)).alloc (.cells #[Ol 0,Ol 0,OC false,Ri] 73));have z:=Oq (∀{G}(h:G:=by
 have hr2:w2.heap[aU]? = some (O1 #[Ol 0,Ol 0,OC false,Ri] 73):=ash
 have d0:bf≠aU:=Ou;have cL:w.heap.size<=aU:=Ou;have dx:w.heap.size<=bf:=Ou;have cM:=Rf d.2;have cU:=hd.kp (Kp.of aF);have p3:=(acw cU aj);obtain⟨l,hl⟩:=xE (TP d.2);obtain⟨a6,hds⟩:=xE (TY d);obtain⟨s1,vc⟩:=xH (Pv d.2);obtain⟨c9,fk⟩:=xE (a.ks.filter fun k=>TM k.tr);obtain⟨vH,jv⟩:=xE (a.ks.filter fun k=>PE k.tr);have ft:Uo O w2 c9 a6:=by rw[fk,hds];exact Uo.filter TM _ _ cU.ndl
 have hell:c9.length=a6.length:=Uo.len _ _ ft;have MC:vH.length=s1.length:=by
  rw[jv,vc.out]
  show _=(d.2.kids.filter PE).length
  have h1:d.2.kids=a.ks.map Ad.tr:=by rw[<-hd.tr];exact a.aj2.2.2
  rw[h1,List.filter_map,List.length_map];rfl
 have x5:a6.length<=1500:=aCh
 have Jh:s1.length<=1500:=by
  have aw:=List.length_filter_le PE d.2.kids;rw[vc.out];show (d.2.kids.filter PE).length<=_;omega
 have iu:l.length<=3000:=by
  have z:=Oq (∀{G}(h:G:=by
  have aw:=List.length_filter_le TM d.2.kids;rw[hl];unfold TP;rw[List.length_append,List.length_map];show _+(d.2.kids.filter TM).length<=_;omega),G);exact asU
 rw[<-hl] at p3;rw[<-hl,<-hds,<-vc.out] at qs;rw[<-hds] at U;obtain⟨rs,eI⟩:=xE (OO d ⟨au,aG,st⟩ σ);rw[<-eI] at qs ⊢;obtain⟨q,bm⟩:=xH a.p;have el:=(ae.later aF);have cu:=(Q9.of (o:=aA) (f:=aM) aF (O0 bG));have b8:=hide be;have bj:=hide hr2;have bS:=hide (fun X (ak:RV (fun _=>True) X a)=>adO a X ak (by rw[hd.ks];omega))
 have nz:=hide (fun X (ak:RV (fun _=>True) X a)=>XA a X ak (by rw[hd.ks];omega))
 rw[<-jv] at bS;rw[<-fk] at nz;have rV:=hide qs;have gY:=hide U;have cR:=hide cL;rw[<-bm.out] at p3 bS nz ⊢;clear ae be hr2 qs eI hl hds fk jv U cL;go_enter func340,ntmps340;go_wp2_with fail;rw[<-bu.out,<-b0,<-bV];clear bV b0;refine cm p3 ?_;have z:=Oq (∀{G}(h:G:=by
 have fM:=hide (stays br b8.out);have zy:=hide (stays br bj.out);have jE:Kp w2 ap:=Kp.of br;go_wp2_with fail
 go_loopw [14] (fun i wr=>∃ k:Nat,k<=l.length/\i=Ol k/\Mx w0 mb af O aW aC aA aM wr (loF aG l k σ)/\Q9 mb aA aM aA aM w wr/\wr.heap[bf]? = some (O1 #[Ol au,Ol aG,OC st,.pointer aB] 73)/\wr.heap[aU]? = some (O1 #[Ol 0,Ol 0,OC false,Ri] 73)/\Rx w2.heap.size wr (.slice va l.length dD) l/\Kp w2 wr) (fun i _=>l.length - (intOf i).toNat)
 case atStart=>exact⟨0,Nat.zero_le _,rfl,eN,cQ,fM.out,zy.out,iR,jE⟩
 case round=>
  obtain⟨k,E,rfl,jy,gb,ng,kW,kx,oU⟩:=hrel;have z:=Oq (∀{G}(h:G:=by
  by_cases aQ:k<l.length
  ·obtain⟨g,cap,av,hg,_,eS⟩:=UR kx k aQ;have z:=Oq (∀{G}(h:G:=by
   obtain⟨x,ae⟩:=xE (l[k]);rw[<-ae] at eS;have dQ:=hide ae;obtain⟨dE,gT⟩:=xE (loF aG l k σ);rw[<-gT] at eX;have jT:Sz (N+k) dE:=by rw[gT];exact Sz.loF aG l k aI Ou
   have a':=(apn eX jT Ou aG x);have nM:=hide gT;obtain⟨aZ,p1,cK,cX,_,d2⟩:=cells4 fN.out;clear ae gT;go_wp2_with fail;refine cm a' ?_;rintro e b1 ⟨rfl,j6,bi⟩;have mh:=j6;have mU:=(kF.Xo bi);have r6:=hide (bi.rest _ _ _ fN.out Oz);have ou:=hide (bi.rest _ _ _ bW.out Oz);have vp:=(OW kx bi Oz);have p6:Kp w2 b1:=fun b c e D aq=>Py.kp bi b c e (jq b c e D aq) aq;clear aZ p1 cK cX d2 eS;go_wp2_with fail;refine⟨⟨k+1,by omega,by go_num,?_,mU,r6.out,ou.out,vp,p6⟩,by simp[intOf];omega⟩
   rw[aha aG l k σ aQ,<-dQ.out,<-nM.out];exact mh),G);exact alK
  ·have z:=Oq (∀{G}(h:G:=by
   obtain⟨rL,rB⟩:=xE (loF aG l l.length σ);rw[<-rB] at eX rV;have o6:Sz (N+3000) rL:=by rw[rB];exact(Sz.loF aG l l.length aI O6).up Ou
   have dU:=(Om bS wr (RV.kp jq _ cU.at_));have GV:Hid ((rL.M.ro au).isSome=true):=Po.some (p:=⟨au,aG,st⟩) ⟨iZ.1,by rw[rB,amq];exact iZ.2⟩
   clear rB;go_wp2_with fail;refine cm dU ?_;rintro e bA ⟨⟨uG,rfl,un⟩,dh⟩;obtain⟨la,gs,JM⟩:=un.form;subst JM;have f7:=(eX.later dh);have fF:=(kF.trans (Q9.of dh (O0 h')));have kJ:=hide (stays dh fN.out);have gw:=hide (stays dh bW.out);have kG:Kp w2 bA:=fun b c e D aq=>Kp.of dh b c e (jq b c e D aq) aq;have gp:=f7.lt
   by_cases hpos:0<s1.length
   ·have jv:(vH.length:Int) > 0:=Ou;obtain⟨dS,gQ⟩:=xE (rL.top:Int);obtain⟨uK,ym⟩:=xE (rL.opn au (-1) (-3));obtain⟨fK,hj⟩:=xE (Qz (Pv d.2) dS uK);have Cd:Hid (rs=(⟨dS,aG,st⟩,evF ⟨dS,aG,st⟩ a6 a6.length fK)):=by
     show _=_
     rw[rV.out,if_pos hpos,hj,ym,gQ,<-vc.out]
    have ck:=(Y6 f7 o6 Ou au (-1) (-3) GV.out);rw[<-gQ,<-ym] at ck;have E2:Sz (N+3001) uK:=by rw[ym];exact o6.opn _ _ _
    have nN:Sz (N+5000) fK:=by
     show Sz _ _
     rw[hj];refine(E2.lets (Pv d.2) dS).up ?_;rw[<-vc.out];omega
    have ts:=hide (fun X gU eH (ak:Mx w0 mb af O aW aC gU eH X uK) (qr:OY O X a d)=>afc ak E2 qr Ou Ou dS);rw[<-hj,<-bm.out] at ts;obtain⟨aZ,p1,cK,cX,gV,d2⟩:=cells4 kJ.out;clear gQ ym hj;go_wp2_with fail;refine cm ck ?_;rintro e b7 ⟨rfl,BN,lZ,hc⟩;have D7:=hc.frL (L:=none) f7;have gu:=(fF.trans hc);have jd:=hide (D7.keep kJ.out Oz);have fm:=hide (D7.keep gw.out Oz);have l7:Kp w2 b7:=fun b c e D aq=>hc.kp f7 b c e (kG b c e D aq) aq;clear aZ p1 cK cX gV d2
    obtain⟨aZ,p1,cK,cX,gV,d2⟩:=cells4 jd.out;have pd:=gV 0;clear gV;go_wp2_with fail;have lU:mb<=bf:=Ou;have Br:=Wu (j:=0) jd.out lU (Ol dS);obtain⟨ch,g6⟩:=xE (b7.setCell (Ot bf 0) (Ol dS));have mg:=(lZ.YC Br Oz);have Ba:=YE jd.out (Ol dS);have g':Hid (ch.heap[aU]? = some (O1 #[Ol 0,Ol 0,OC false,Ri] 73)):=by
     show _=_
     rw[g6,heap_setCell_other _ _ _ _ (Ne.symm d0)];exact Om fm
    have ke:=(gu.new Br (ZM dx _));have nC:Kp w2 (b7.setCell (Ot bf 0) (Ol dS)):=fun b c e D aq=>Br.rest b c e (l7 b c e D aq) (by rcases aq with rfl|rfl <;> decide);rw[<-g6] at mg Ba ke nC ⊢;have l9:=hide Ba;clear g6 Ba aZ p1 cK cX pd d2;have rr:=mg.lt;refine cm (Om ts ch _ _ mg (cU.kp nC)) ?_;rintro e i' ⟨rfl,us,rf⟩;obtain⟨s3,uj⟩:=xE BN;rw[<-uj] at us ke;have k':=us;have ij:=(ke.Xo rf);have iG:=hide (rf.rest _ _ _ l9.out Oz);have gg:=hide (rf.rest _ _ _ g'.out Oz)
    have kH:Kp w2 i':=fun b c e D aq=>Py.kp rf b c e (nC b c e D aq) aq;have mz:=us.lt;clear uj;exact aCi
   ·have jv:¬ (vH.length:Int) > 0:=Ou;obtain⟨dS,gQ⟩:=xE (au:Int);obtain⟨fK,hj⟩:=xE rL;obtain⟨i',lu⟩:=xE bA;obtain⟨s3,uj⟩:=xE aA;have Cd:Hid (rs=(⟨dS,aG,st⟩,evF ⟨dS,aG,st⟩ a6 a6.length fK)):=by
     show _=_
     rw[rV.out,if_neg hpos,hj,gQ]
    have nN:Sz (N+5000) fK:=by show Sz _ _;rw[hj];exact o6.up Ou
    have k':Mx w0 mb af O aW aC s3 aM i' fK:=by show Mx _ _ _ _ _ _ _ _ _ _;rw[uj,lu,hj];exact f7
    have ij:Q9 mb aA aM s3 aM w i':=by show Q9 _ _ _ _ _ _ _;rw[uj,lu];exact fF
    have iG:Hid (i'.heap[bf]? = some (O1 #[Ol dS,Ol aG,OC st,.pointer aB] 73)):=by show _=_;rw[lu,gQ];exact Om kJ
    have gg:Hid (i'.heap[aU]? = some (O1 #[Ol 0,Ol 0,OC false,Ri] 73)):=by show _=_;rw[lu];exact Om gw
    have kH:Kp w2 i':=by show Kp _ _;rw[lu];exact kG
    have mz:=k'.lt;rw[<-lu];clear gQ hj lu uj;exact aCi),G);exact asV),G);exact axk),G);exact aCj),G);exact zsc
def evR (e:Er)(l:Option Va)(σ:St):(Va × Er) × St:=match e with
 | .no=>((l.getD vU,.no),σ)
 | e=>((vU,e),σ)
section
variable {b:Nat} {x y bD v:OG} {t:TypeId} (h:w.heap[b]? = some (O1 #[x,y,bD,v] t)) (v':OG)
include b x y bD v t h v'
theorem asX:(w.setCell (Ot b 3) v').heap[b]? = some (O1 #[x,y,bD,v'] t):=heap_setCell_same w b 3 _ t v' h
theorem akx:(w.setCell (Ot b 2) v').heap[b]? = some (O1 #[x,y,v',v] t):=heap_setCell_same w b 2 _ t v' h
theorem asY:(w.setCell (Ot b 1) v').heap[b]? = some (O1 #[x,v',bD,v] t):=heap_setCell_same w b 1 _ t v' h
end
section
variable (ac:Zp es) (ae:Mx w0 mb af O aW aC aA aM w σ) (aI:Sz N σ) (hN:N+10000<1000000000) {a:Ad} {d:Nd} (hd:OY O w a d) (aj:d.2.count<=1500) (U:∀ k ∈ TY d,k.2.kids.length=2) (au aG:Int) (aB:Option Addr) (al:0<=au/\au<σ.M.OI.length) {bP:(Va × Er) × St} (kD:Pl->St->Prop) (aD:kD ⟨σ.top,σ.top,true⟩ (σ.opn au (-1) (-3))) (bq:∀ X u (lb:Nat) (cz:Pl) (bO:St),mb<=lb->kD cz bO->Ms w0 mb af O X (OO d cz bO).2->TA 0 X u a.ks->Uo O X a.ks (P9 d)->OV X (some lb) (some vU)->OE 28 #[Oo mb,u,PU (OO d cz bO).1 (LA (some lb))] X (P8 w0 mb af O es (some lb) X (Q8 F (OO d cz bO).1 (P9 d) (some vU) (OO d cz bO).2))) (bv:bP=evR (Q8 F (OO d ⟨σ.top,σ.top,true⟩ (σ.opn au (-1) (-3))).1 (P9 d) (some vU) (OO d ⟨σ.top,σ.top,true⟩ (σ.opn au (-1) (-3))).2).1.2.1 (Q8 F (OO d ⟨σ.top,σ.top,true⟩ (σ.opn au (-1) (-3))).1 (P9 d) (some vU) (OO d ⟨σ.top,σ.top,true⟩ (σ.opn au (-1) (-3))).2).1.2.2 (Q8 F (OO d ⟨σ.top,σ.top,true⟩ (σ.opn au (-1) (-3))).1 (P9 d) (some vU) (OO d ⟨σ.top,σ.top,true⟩ (σ.opn au (-1) (-3))).2).2)
include ac ae aI hN a d hd aj U au aG aB al bP kD aD bq bv
theorem apr :
  OE 322 #[Oo mb,Oo a.p,PU ⟨au,aG,true⟩ aB] w (O3 w0 mb af O es w bP):=by
 have bG:=ae.lt;obtain⟨w2,bu⟩:=xH ((w.alloc (.cells #[Ol au,Ol aG,OC true,.pointer aB] 73)).alloc (.cells #[Ol 0,Ol 0,PN] 65));have z:=Oq (∀{G}(h:G:=by
 have be:w2.heap[bf]? = some (O1 #[Ol au,Ol aG,OC true,.pointer aB] 73):=by rw[bu.out,bV];exact alloc_old (OA _ _)
 have hr2:w2.heap[aU]? = some (O1 #[Ol 0,Ol 0,PN] 65):=by
  rw[bu.out,b0,show w.heap.size+1=(w.alloc (.cells #[Ol au,Ol aG,OC true,.pointer aB] 73)).heap.size by simp];exact OA _ _
 have z:=Oq (∀{G}(h:G:=by
 have z:=Oq (∀{G}(h:G:=by
 have ai:=hide bq;have cR:=hide cL;have di:=el.lt;have z:=Oq (∀{G}(h:G:=by
 obtain⟨aY,gR⟩:=xE w2;have pu:Mx w0 mb af O aW aC aA aM aY σ:=by show Mx _ _ _ _ _ _ _ _ _ _;rw[gR];exact el
 have qb:Hid (aY.heap[bf]? = some (O1 #[Ol au,Ol aG,OC true,.pointer aB] 73)):=by show _=_;rw[gR];exact Om b8
 have fO:Hid (aY.heap[aU]? = some (O1 #[Ol 0,Ol 0,PN] 65)):=by show _=_;rw[gR];exact Om bj
 have xk:O5 none mb w aY:=by show O5 _ _ _ _;rw[gR];exact cu
 have pm:Kp w2 aY:=fun b c e D _=>by rw[gR];exact D
 rw[<-gR];clear bV b0 gR;exact aCl),G);exact aCm),G);exact asZ),G);exact zsf),G);exact zse
theorem aps (dY:Pg d.2=true) :
  OE 322 #[Oo mb,Oo a.p,PU ⟨au,aG,false⟩ aB] w (O3 w0 mb af O es w bP):=by
 have z:=Oq (∀{G}(h:G:=by
 have z:=Oq (∀{G}(h:G:=by
 have z:=Oq (∀{G}(h:G:=by
 have z:=Oq (∀{G}(h:G:=by
 have z:=Oq (∀{G}(h:G:=by
 have ai:=hide bq;have z:=Oq (∀{G}(h:G:=by
 clear dY;have z:=Oq (∀{G}(h:G:=by
 have bN:=Oq (∀{G}(h:G:=by
 have kX:=Wu (j:=2) b8.out lU (OC true);have gq:=akx b8.out (OC true);obtain⟨aY,gR⟩:=xE (w2.setCell (Ot bf 2) (OC true));rw[<-gR] at kX gq ⊢;have pu:=(el.YC kX Oz);have qb:=hide gq;have bN:=Oq (∀{G}(h:G:=by
 clear gR gq aZ p1 cK cX w6 d2;exact aCl),G);exact zti),G);exact aCn),G);exact aCm),G);exact axl),G);exact asZ),G);exact zsf),G);exact axm),G);exact zse),G);exact axn
end
def apt (ae:Mx w0 mb af O aW aC aA aM w σ)(aI:Sz N σ)(hN:N+10000<1000000000){a:Ad}{d:Nd}(hd:OY O w a d)(aj:d.2.count<=1500)(au aG:Int)(aB:Option Addr)(al:0<=au/\au<σ.M.OI.length){bP:(Va × Er) × St}
   (bv:bP=((vU,bad UC),σ)) (dY:Pg d.2=false) (fs:hidden σ.M d.2 ⟨au,aG,false⟩=true) :
  OE 322 #[Oo mb,Oo a.p,PU ⟨au,aG,false⟩ aB] w (O3 w0 mb af O es w bP):=by
 have z:=Oq (∀{G}(h:G:=by
 have z:=Oq (∀{G}(h:G:=by
 have z:=Oq (∀{G}(h:G:=by
 have z:=Oq (∀{G}(h:G:=by
 have z:=Oq (∀{G}(h:G:=by
 have z:=Oq (∀{G}(h:G:=by
 have z:=Oq (∀{G}(h:G:=by
 rw[<-bm.out];clear be hr2 bv al dY fs;have z:=Oq (∀{G}(h:G:=by
 refine cm (Om zd aY ⟨_,_,_,_,pu⟩ (k1.kp pm)) ?_;rintro e i' ⟨rfl,qo⟩;have gg:=hide (stays qo fO.out);have nE:Ms w0 mb af O i' σ:=⟨_,_,_,_,pu.later qo⟩;have ij:=(xk.trans (O5.of (L:=none) qo (O0 Et)));have mz:=nE.lt;clear gR gq aZ p1 cK cX w6 d2;go_wp2_with fail;refine cm (U5 (es:=es) mz UC) ?_;rintro e fy ⟨⟨ev,rfl,aD⟩,cC⟩;have d9:=hide (stays cC gg.out);have k2:=(nE.later cC);have jY:=(ij.trans (O5.of (L:=none) cC (O0 mz)));obtain⟨cH,bU,cg,dt,du,dv,rl⟩:=O7 d9.out
 have z:=Oq (∀{G}(h:G:=by
 refine Y9 (v:=.tuple #[vA vU,ev]) ?_;rw[lJ.out];exact⟨⟨_,rfl,aD.Qw bi Oz⟩,bC,bF⟩),G);exact axo),G);exact aCo),G);exact aCp),G);exact axl),G);exact asZ),G);exact zsf),G);exact axm),G);exact zse),G);exact axn
def apu (ac:Zp es)(ae:Mx w0 mb af O aW aC aA aM w σ)(aI:Sz N σ)(hN:N+10000<1000000000){a:Ad}{d:Nd}(hd:OY O w a d)(aj:d.2.count<=1500)(U:∀ k ∈ TY d,k.2.kids.length=2)(au aG:Int)(aB:Option Addr)(al:0<=au/\au<σ.M.OI.length){bP:(Va × Er) × St}
  (kD:Pl->St->Prop) (aD:kD ⟨au,aG,false⟩ σ)
  (bq:∀ X u (lb:Nat) (cz:Pl) (bO:St),mb<=lb->kD cz bO->Ms w0 mb af O X (OO d cz bO).2->TA 0 X u a.ks->Uo O X a.ks (P9 d)->OV X (some lb) (some vU)->OE 28 #[Oo mb,u,PU (OO d cz bO).1 (LA (some lb))] X (P8 w0 mb af O es (some lb) X (Q8 F (OO d cz bO).1 (P9 d) (some vU) (OO d cz bO).2)))
  (bv:bP=evR (Q8 F (OO d ⟨au,aG,false⟩ (σ)).1 (P9 d) (some vU) (OO d ⟨au,aG,false⟩ (σ)).2).1.2.1 (Q8 F (OO d ⟨au,aG,false⟩ (σ)).1 (P9 d) (some vU) (OO d ⟨au,aG,false⟩ (σ)).2).1.2.2 (Q8 F (OO d ⟨au,aG,false⟩ (σ)).1 (P9 d) (some vU) (OO d ⟨au,aG,false⟩ (σ)).2).2) (dY:Pg d.2=false) (fs:hidden σ.M d.2 ⟨au,aG,false⟩=false) :
  OE 322 #[Oo mb,Oo a.p,PU ⟨au,aG,false⟩ aB] w (O3 w0 mb af O es w bP):=by
 have z:=Oq (∀{G}(h:G:=by
 have z:=Oq (∀{G}(h:G:=by
 have z:=Oq (∀{G}(h:G:=by
 have z:=Oq (∀{G}(h:G:=by
 have z:=Oq (∀{G}(h:G:=by
 have ai:=hide bq;have z:=Oq (∀{G}(h:G:=by
 have z:=Oq (∀{G}(h:G:=by
 have jp:=hide aD;obtain⟨fK,zF⟩:=xH σ;have nN:Sz (N+1) fK:=by show Sz _ _;rw[zF.out];exact aI.up Ou
 rw[<-zF.out] at jp lJ al;rw[<-bm.out];clear be hr2 bv dY fs bq aD;have z:=Oq (∀{G}(h:G:=by
 have qb:=hide gq;refine cm (Om zd aY ⟨_,_,_,_,pu⟩ (k1.kp pm)) ?_;rintro e i' ⟨rfl,qo⟩;have k':Mx w0 mb af O aW aC aA aM i' fK:=by show Mx _ _ _ _ _ _ _ _ _ _;rw[zF.out];exact pu.later qo
 have iG:=hide (stays qo qb.out);have gg:=hide (stays qo fO.out);have ij:=(xk.trans (O5.of (L:=none) qo (O0 Et)));have kH:Kp w2 i':=fun b c e D aq=>Kp.of qo b c e (pm b c e D aq) aq;clear gR gq aZ p1 cK cX w6 d2 lU;obtain⟨aZ,p1,cK,cX,gV,d2⟩:=cells4 iG.out;have w7:=gV 3;clear gV;go_wp2_with fail;have z:=Oq (∀{G}(h:G:=by
 clear hi g6 AZ qy Bi hsz5 h9 aZ p1 cK cX w7 d2;have qq:=k1.kp nC;obtain⟨cV,dP,c3,hrow⟩:=qq.ar;obtain⟨gt,he⟩:=xE d.2.kids.length;rw[<-he] at c3 hrow;rw[<-bm.out] at c3;obtain⟨zp,o7⟩:=xE ((OO d ⟨au,aG,false⟩ fK).1);obtain⟨s',qF⟩:=xE ((OO d ⟨au,aG,false⟩ fK).2);have oy:=hide (fun X (ak:OD ch X)=>ahc (mg.later ak) nN Ou (qq.kp (Kp.of ak)) aj U ⟨au,aG,false⟩ (some (Ot lb 0)) al);rw[<-o7,<-qF,<-bm.out] at oy
 rcases eI:Q8 F zp (P9 d) (some vU) s' with ⟨⟨bH,ay,b3⟩,mN⟩
 have fj:=hide (fun X (aJ:Ms w0 mb af O X s') (E:Kp ch X) (hl:OV X (some lb) (some vU))=>Om ai X (.slice cV gt dP) lb ⟨au,aG,false⟩ fK Es jp.out (by rw[<-qF];exact aJ) (hrow.kp E) (Uo.kp E _ _ qq.ndl) hl)
 have z:=Oq (∀{G}(h:G:=by
 have nj:∃ c,ch.heap[q]? = some (O1 c 40):=by
  have h1:=qq.at_;rw[bm.out];exact axf
 have iH:=hide nj;clear c3 he eI nj o7 qF;have c':ch.drew.heap[bf]? = some (O1 #[Ol au,Ol aG,OC false,OM lb 0] 73)/\ch.drew.cell? (Ot q 3)=some (.slice cV gt dP):=⟨stays (Below.refl ch.heap.size ch).drew l9.out,O4 (Below.refl ch.heap.size ch).drew eF.out⟩;refine VN (H:=fun wz vb ev=>SB w0 mb af O es (some lb) ch bH ay b3 mN wz vb ev) (G:=?GG) (fun dJ=>?ways) ?rest
 case ways=>
  have ab:OD ch ch.drew:=QX.drew;refine QE 9 (fun X=>X.heap[bf]? = some (O1 #[Ol au,Ol aG,OC false,OM lb 0] 73)/\X.cell? (Ot q 3)=some (.slice cV gt dP)) PK ?_;refine up 0 mb 0 c' ?_;refine up 1 q 0 c' ?_;refine up 2 q 0 c' ?_;refine up 3 q 3 c' ?_;refine uc 4 (.slice cV gt dP) rfl (Or.inl ⟨by kernel_rfl,fun X ak=>by have h0:=ak.2;go_simp⟩) (c') ?_
  refine up 5 mb 0 c' ?_;refine up 6 q 0 c' ?_;refine uc 7 (.agg #[Ol au,Ol aG,OC false,OM lb 0]) rfl (Or.inl ⟨by kernel_rfl,fun X ak=>by have h0:=(cells4 ak.1).1;have h1:=(cells4 ak.1).2.1;have U:=(cells4 ak.1).2.2.1;have aw:=(cells4 ak.1).2.2.2.1;go_simp⟩) (c') ?_
  refine uq2 8 13 (fun K A=>?_) fun K A=>?_
  ·have z:=Oq (∀{G}(h:G:=by
   have sE:dT.heap[bf]? = some (O1 #[Ol au,Ol aG,OC false,OM lb 0] 73)/\dT.cell? (Ot q 3)=some (.slice cV gt dP):=⟨m9.keep (stays ab l9.out) Oz,by
    obtain⟨c,D⟩:=Om iH;exact(m'.kp g7).XQ (O4 ab eF.out) ⟨c,stays ab D⟩⟩
   have z:=Oq (∀{G}(h:G:=by
   refine uq2 9 13 (fun K A=>?_) fun K A=>?_
   ·have z:=Oq (∀{G}(h:G:=by
    have ci:=SB.late (w2:=ch) (o:=bH) aD g4 (tU.trans gz) g3;exact axT),G);exact aCq
   ·exact aCr),G);exact aCs),G);exact aCt
  ·go_simp;have cr:OD ch (ch.drew.alloc (.cells #[OC false,Ol 0,Ol 0,PN] 67)):=QX.drew.alloc O8 _;have ki:(ch.drew.alloc (.cells #[OC false,Ol 0,Ol 0,PN] 67)).heap[bf]? = some (O1 #[Ol au,Ol aG,OC false,OM lb 0] 73)/\(ch.drew.alloc (.cells #[OC false,Ol 0,Ol 0,PN] 67)).cell? (Ot q 3)=some (.slice cV gt dP):=⟨stays cr l9.out,O4 cr eF.out⟩;have z:=Oq (∀{G}(h:G:=by
   have sE:dT.heap[bf]? = some (O1 #[Ol au,Ol aG,OC false,OM lb 0] 73)/\dT.cell? (Ot q 3)=some (.slice cV gt dP):=⟨m9.keep (stays cr l9.out) Oz,by
    obtain⟨c,D⟩:=Om iH;exact(m'.kp g7).XQ (O4 cr eF.out) ⟨c,stays cr D⟩⟩
   exact aCu),G);exact aCv
 rintro wt ob ev cJ;have qc:=hide (cJ.fr.rest aU _ _ g'.out Oz (fun e=>Em (by cases e;rfl)))
 have qQ:O5 none mb w wt:=O5.down (ke.up.trans cJ.fr) Ej;have zn:=cJ.ms;have uU:=cJ.er;have zi:=cJ.la;obtain⟨cH,bU,cg,dt,du,dv,rl⟩:=O7 qc.out;clear c'
 by_cases aq:ay=.no
 ·exact aCw
 ·obtain⟨et,ex,bv⟩:=uU.WT aq ac;subst bv;have aK:bP=((vU,ay),mN):=by
   rw[y2.out];exact axR
  exact aCx),G);exact aCy),G);exact aCz),G);exact aCo),G);exact aCp),G);exact axl),G);exact asZ),G);exact zsf),G);exact axm),G);exact zse),G);exact axn
def evQ (d:Nd)(p:Pl)(σ:St):Option (Pl × St):=
 if (!(p.strict||Pg d.2)&&hidden σ.M d.2 { p with strict:=p.strict||Pg d.2 })=true then none else
  some (if (p.strict||Pg d.2)=true then (⟨σ.top,σ.top,true⟩,σ.opn p.scope (-1) (-3)) else ({ p with strict:=p.strict||Pg d.2 },σ))
def amr (d:Nd)(p:Pl)(σ:St):Yh F d p σ=match evQ d p σ with
  | none=>((vU,bad UC),σ)
  | some q=>evR (Q8 F (OO d q.1 q.2).1 (P9 d) (some vU) (OO d q.1 q.2).2).1.2.1 (Q8 F (OO d q.1 q.2).1 (P9 d) (some vU) (OO d q.1 q.2).2).1.2.2 (Q8 F (OO d q.1 q.2).1 (P9 d) (some vU) (OO d q.1 q.2).2).2:=by
 unfold Yh evQ;simp only
 split
 ·rfl
 ·simp only
  generalize Q8 F _ (P9 d) (some vU) _=r
  unfold evR
  rcases r with ⟨⟨o,e,l⟩,mN⟩
  cases e <;> rfl
def apv (ac:Zp es)(ae:Mx w0 mb af O aW aC aA aM w σ)(aI:Sz N σ)(hN:N+10000<1000000000){a:Ad}{d:Nd}(hd:OY O w a d)(aj:d.2.count<=1500)(U:∀ k ∈ TY d,k.2.kids.length=2)(p:Pl)(aB:Option Addr)(al:0<=p.scope/\p.scope<σ.M.OI.length)
  (bq:∀ cz bO,evQ d p σ=some (cz,bO)->∀ X u (lb:Nat),mb<=lb->Ms w0 mb af O X (OO d cz bO).2->TA 0 X u a.ks->Uo O X a.ks (P9 d)->OV X (some lb) (some vU)->OE 28 #[Oo mb,u,PU (OO d cz bO).1 (LA (some lb))] X (P8 w0 mb af O es (some lb) X (Q8 F (OO d cz bO).1 (P9 d) (some vU) (OO d cz bO).2))) :
  OE 322 #[Oo mb,Oo a.p,PU p aB] w (O3 w0 mb af O es w (Yh F d p σ)):=by
 have aq:=amr (F:=F) d p σ;have tT:∀ X u (lb:Nat) (cz:Pl) (bO:St),mb<=lb->evQ d p σ=some (cz,bO)->Ms w0 mb af O X (OO d cz bO).2->TA 0 X u a.ks->Uo O X a.ks (P9 d)->OV X (some lb) (some vU)->OE 28 #[Oo mb,u,PU (OO d cz bO).1 (LA (some lb))] X (P8 w0 mb af O es (some lb) X (Q8 F (OO d cz bO).1 (P9 d) (some vU) (OO d cz bO).2)):=fun X u lb cz bO aS h=>bq cz bO h X u lb aS;obtain⟨au,aG,st⟩:=p
 cases st with
 | true=>
  have ag:evQ d ⟨au,aG,true⟩ σ=some (⟨σ.top,σ.top,true⟩,σ.opn au (-1) (-3)):=rfl;refine apr ac ae aI hN hd aj U au aG aB al (fun cz bO=>evQ d ⟨au,aG,true⟩ σ=some (cz,bO)) ag tT ?_;rw[aq,ag]
 | false=>
  cases dY:Pg d.2 with
  | true=>
   have ag:evQ d ⟨au,aG,false⟩ σ=some (⟨σ.top,σ.top,true⟩,σ.opn au (-1) (-3)):=by unfold evQ;rw[dY];rfl
   refine aps ac ae aI hN hd aj U au aG aB al (fun cz bO=>evQ d ⟨au,aG,false⟩ σ=some (cz,bO)) ag tT ?_ dY;rw[aq,ag]
  | false=>
   cases fs:hidden σ.M d.2 ⟨au,aG,false⟩ with
   | true=>
    have ag:evQ d ⟨au,aG,false⟩ σ=none:=by unfold evQ;rw[dY];exact if_pos fs
    refine apt ae aI hN hd aj au aG aB al ?_ dY fs;rw[aq,ag]
   | false=>
    have ag:evQ d ⟨au,aG,false⟩ σ=some (⟨au,aG,false⟩,σ):=by
     unfold evQ;rw[dY];refine(if_neg (fun h=>?_)).trans rfl;have aw:hidden σ.M d.2 ⟨au,aG,false⟩=true:=h;rw[fs] at aw;cases aw
    refine apu ac ae aI hN hd aj U au aG aB al (fun cz bO=>evQ d ⟨au,aG,false⟩ σ=some (cz,bO)) ag tT ?_ dY fs;rw[aq,ag]
def evB (F:Fx)(s:OH)(p:Pl)(σ:St):(Va × Er) × St:=match evT s p.strict with
 | some t=>Yh F (none,t) p σ
 | none=>((vU,bad UC),σ)
def apw {t:Tr}{q:Nat}(a8:Bs w0 mb af O es)(aS:mb<=w.heap.size)(h:Qb (From w.heap.size) w' t q):∃ a:Ad,a.p=q/\OY O w' a (none,t):=by
 obtain⟨a,h1,U,aw,_,bE⟩:=Qb.ad t q h;refine⟨a,U,RV.mono (fun _ _ _=>trivial) _ aw,h1,fun b D aO=>?_⟩;have bX:w.heap.size<=b:=bE b D;obtain⟨cs,qK,aj⟩:=a8.an b aO;have fY:=lt_of_heap aj;rw[a8.sz] at fY;omega
def auH:VR 320:=fun _ _=>by kernel_rfl
def aky (ac:Zp es)(a8:Bs w0 mb af O es)(hg:Gl w0)(ae:Mx w0 mb af O aW aC aA aM w σ)(aI:Sz N σ)(hN:N+10000<1000000000)(au aG:Int)(st:Bool)(aB:Option Addr)(al:0<=au/\au<σ.M.OI.length){v:Va}{vs:List Va}{dq bf em:Nat}(b5:w.heap[dq]? = some (O1 #[Oo mb] 62))(sv:w.heap[bf]? = some (O1 #[Ol au,Ol aG,OC st,.pointer aB] 73))(d7:w.heap[em]? = some (O1 #[u] 311))(aa:Ux w u (v::vs))
  (bq:∀ t,evT v.s st=some t->∀ (a:Ad) cz bO,evQ (none,t) ⟨au,aG,st⟩ σ=some (cz,bO)->∀ X u (lb:Nat),mb<=lb->Ms w0 mb af O X (OO (none,t) cz bO).2->TA 0 X u a.ks->Uo O X a.ks (P9 (none,t))->OV X (some lb) (some vU)->OE 28 #[Oo mb,u,PU (OO (none,t) cz bO).1 (LA (some lb))] X (P8 w0 mb af O es (some lb) X (Q8 F (OO (none,t) cz bO).1 (P9 (none,t)) (some vU) (OO (none,t) cz bO).2))) :
  OE 320 #[OM em 0,OM bf 0,OM dq 0] w (O3 w0 mb af O es w (evB F v.s ⟨au,aG,st⟩ σ)):=by
 have bG:=ae.lt;have IC:=hN;have z:=Oq (∀{G}(h:G:=by
 obtain⟨pf,Bp⟩:=xE v.s;have eJ:=ae.later aF;have bj:=hide hr2;have ik:=hide (stays aF b5);have om:=hide (stays aF sv);have cu:=(O5.of (L:=none) aF (O0 bG));have dF:=hide (fun X (ak:OD w2 X)=>ajg (es:=es) v.s st X (Gl.ms hg a8 ⟨_,_,_,_,eJ.later ak⟩));obtain⟨g,i7,cap,aT,dI,gH,eq,hz⟩:=(aa.later aF).cells (i:=0) rfl;rw[Nat.zero_mul,Nat.add_zero] at gH eq hz;subst aT;rw[<-Bp] at hz dF;obtain⟨et,jp⟩:=xH (evT pf st);rw[<-jp.out] at dF;obtain⟨bP,de⟩:=xH (evB F pf ⟨au,aG,st⟩ σ);rw[<-Bp] at bq ⊢
 rw[<-de.out];have ai:=hide bq;have f4:=hide hz;have mP:=hide (bx1 (stays aF d7));have ei:=hide (cells4 om.out);have cR:=hide cL;have di:=eJ.lt;have Eh:=lt_of_heap (stays aF d7);have MS:=lt_of_heap om.out;have ot:=hide al;clear hr2 cL Bp b5 sv d7 gH eq hz bq al;go_enter func320,ntmps320;go_wp2_with fail;rw[<-bu.out,<-b0];clear b0
 cases et with
 | none=>
  have aK:bP=((vU,bad UC),σ):=by
   rw[de.out];unfold evB
   show (match evT pf st with|some t=>_|none=>_)=_
   rw[<-jp.out]
  have cI:=hide aK;clear aK;have z:=Oq (∀{G}(h:G:=by
  rintro e aE ⟨jg,ev,rfl,aD⟩;refine ko A ?_;clear A K;have pC:=ab.trans (jg.mono ab.size);have d9:=hide (stays pC bj.out);have k2:Ms w0 mb af O aE σ:=⟨_,_,_,_,eJ.later pC⟩;have jY:=(cu.trans (O5.of (L:=none) pC (O0 di)));obtain⟨qK,ex,bv⟩:=aD.WT O8 ac;subst bv;have y5:=aD;refine uz 7 (.tuple #[Ri,.iface qK ex]) ?_;refine uz 8 Ri ?_;refine uz 9 (.iface qK ex) ?_;refine uz 10 Ri ?_;refine uz 11 (.iface qK ex) ?_;refine Sl ?_ _;go_simp;obtain⟨cH,bU,cg,dt,du,dv,rl⟩:=O7 d9.out;have z:=Oq (∀{G}(h:G:=by
  refine Y9 (v:=.tuple #[vA vU,.iface qK ex]) ?_;rw[cI.out];exact⟨⟨_,rfl,y5.Qw bi Oz⟩,bC,bF⟩),G);exact axo),G);exact aCA
 | some t=>
  have aK:bP=Yh F (none,t) ⟨au,aG,st⟩ σ:=by
   rw[de.out];unfold evB
   show (match evT pf st with|some t=>_|none=>_)=_
   rw[<-jp.out]
  have cI:=hide aK;have mA:Nk 9 t:=by
   have h:=Om jp;unfold evT at h
   cases al:Qd Pn Ph pf with
   | ok t2=>
    rw[al] at h;simp only at h
    cases E:chk t2 st false false with
    | none=>rw[E] at h;cases h;exact WW al E
    | some e=>rw[E] at h;cases h
   | _=>rw[al] at h;cases h
  have hbk:=mA.bk Ou;have hcnt:t.count<=1500:=mA.ct;have U:∀ k ∈ TY ((none,t):Nd),k.2.kids.length=2:=fun k E=>by
   obtain⟨kd,kz,bR,p1,dq,aw,_⟩:=(Zc (d:=(none,t)) hbk k E).sh;rw[aw];rfl
  have gY:=hide U;clear aK U;have z:=Oq (∀{G}(h:G:=by
  rintro e aE ⟨jg,BS,rfl,hN⟩;refine ko A ?_;clear A K;have pC:=ab.trans (jg.mono ab.size);obtain⟨a,ax,jj⟩:=apw a8 (O0 ((eJ.later ab).lt)) hN;have d9:=hide (stays pC bj.out);have vu:=(eJ.later pC);have jY:=(cu.trans (O5.of (L:=none) pC (O0 di)));have cp:=bx1 (stays pC ik.out);have eZ:=lt_of_heap (stays pC ik.out);obtain⟨aZ,p1,cK,cX,_,d2⟩:=cells4 (stays pC om.out);have lJ:=(apv ac vu aI IC jj hcnt gY.out ⟨au,aG,st⟩ aB ot.out (Om ai t jp.out.symm a));rw[<-cI.out,ax] at lJ;clear hN ax
  refine uz 7 (.tuple #[OM BS 0,Qp]) ?_;refine uz 8 (OM BS 0) ?_;refine uz 9 Qp ?_;refine uz 10 (OM BS 0) ?_;refine uz 11 Qp ?_;refine Sl ?_ _;go_simp;go_wp2_with fail;refine cm lJ ?_;rintro e wd ⟨⟨ev,rfl,aD⟩,aJ,ah⟩;have hY:=hide (ah.keep d9.out Oz);have hx:=(jY.trans ah);obtain⟨v9,k9⟩:=xH bP.1.1;rw[<-k9.out];clear cp aZ p1 cK cX d2 eZ;obtain⟨ho,gW,gC,j8,j9,j',ka⟩:=O7 hY.out;go_wp2_with fail;obtain⟨b1,bx,bi,bF,bC,cG,b4,bT⟩:=rt3 hY.out cR.out bG hx aJ (Ol v9.k) (Ol v9.n) (OB v9.s);exact awD),G);exact aCA),G);exact aB4
def evP (c:Tr)(p:Pl):Pl:=if c.kd≠23\/c.tx≠Vx then ⟨1,0,false⟩ else p
def apy (c:Tr)(p:Pl)(a:Va)(more:List Va)(σ:St):Yi F c p (a::more) σ=if a.k≠4 then ((a,.no),σ) else within σ (evB F a.s (evP c p)):=by
 unfold Yi evP;simp only
 split
 ·rfl
 ·congr 1
  funext σ
  unfold evB evT
  cases Qd Pn Ph a.s with
  | ok t=>
   simp only
   cases chk t _ false false with
   | none=>rfl
   | some e=>rfl
  | _=>rfl
section
variable (ae:Mx w0 mb af O aW aC aA aM w σ) {c:Ad} (p:Pl) (aB:Option Addr)
include ae c p aB
theorem ams (aa:Ux w u []) :
  OE 300 #[Oo mb,Oo c.p,PU p aB,u] w (O3 w0 mb af O es w ((vU,.no),σ)):=by
 have bN:=Oq (∀{G}(h:G:=by
 obtain⟨dL,rz⟩:=xE (List.length ([]:List Va));have z:=Oq (∀{G}(h:G:=by
 have bj:=hide hr2;have cu:=(O5.of (L:=none) aF (O0 bG));have cZ:Ms w0 mb af O w2 σ:=⟨_,_,_,_,eJ⟩;have bu:=hide da;have d3:=hide br;have d9:=hide b0;obtain⟨q,ag⟩:=xE c.p;have qC:dL=0:=rz;subst qC;rw[<-ag];clear da hr2 cL dx d0 b6 bV br b0 b5 sv d7 ag rz;go_enter func300,ntmps300;go_wp2_with fail;rw[<-bu.out,<-d9.out];obtain⟨cG,b4,bT,_,_⟩:=cells3 bj.out;refine Y9 (v:=.tuple #[vA vU,Qp]) ?_;exact⟨⟨_,rfl,rfl⟩,cZ,cu⟩),G);exact zsp),G);exact axp
theorem ajk {v:Va}{vs:List Va}(aa:Ux w u (v::vs))(E:v.k≠4) :
  OE 300 #[Oo mb,Oo c.p,PU p aB,u] w (O3 w0 mb af O es w ((v,.no),σ)):=by
 have bN:=Oq (∀{G}(h:G:=by
 obtain⟨dL,rz⟩:=xE (List.length (v::vs));have z:=Oq (∀{G}(h:G:=by
 have cu:=(O5.of (L:=none) aF (O0 bG));have cZ:Ms w0 mb af O w2 σ:=⟨_,_,_,_,eJ⟩;have bN:=Oq (∀{G}(h:G:=by
 obtain⟨g,i7,cap,aT,dI,gH,eq,hz⟩:=aa.cells (i:=0) rfl;rw[Nat.zero_mul,Nat.add_zero] at gH eq hz;have bN:=Oq (∀{G}(h:G:=by
 rw[<-ag];have eO:(v.k==4)=false:=beq_eq_false_iff_ne.2 E;obtain⟨b1,bx⟩:=xE ((((w.alloc (.cells #[Oo mb] 62)).alloc (.cells #[Ol au,Ol aG,OC st,.pointer aB] 73)).alloc (.cells #[.slice (some (Ot g i7)) dL dP] 311)).alloc (.cells #[Ol v.k,Ol v.n,OB v.s] 65));have JY:=ae;clear da hr2 cL dx d0 b6 bV br b5 sv d7 ag rz;have d1:b1.heap[aU]? = some (Y7 v):=by
  rw[bx,b0,show w.heap.size+1+1+1=(((w.alloc (.cells #[Oo mb] 62)).alloc (.cells #[Ol au,Ol aG,OC st,.pointer aB] 73)).alloc (.cells #[.slice (some (Ot g i7)) dL dP] 311)).heap.size by simp];exact OA _ _
 have d8:OD w b1:=by rw[bx];exact((PO.alloc O8 _).alloc Rh _).alloc Rh _
 have ou:=hide d1;have zm:Ms w0 mb af O w σ:=⟨_,_,_,_,JY⟩;have sc:=hide bx;clear d1 bx b0;go_enter func300,ntmps300;go_wp2_with fail;rw[<-sc.out,<-d9.out];obtain⟨cG,b4,bT,_,_⟩:=cells3 ou.out;refine WA (v:=.tuple #[vA v,Qp]) ?_;exact⟨⟨_,rfl,rfl⟩,zm.later d8,O5.of d8 (O0 bG)⟩),G);exact aCH),G);exact aCI),G);exact zsp),G);exact axp
end
def ahf (ac:Zp es)(a8:Bs w0 mb af O es)(wa:Gl w0)(ae:Mx w0 mb af O aW aC aA aM w σ)(aI:Sz N σ)(hN:N+10000<1000000000)(dK:σ.calls<=40){c:Ad}{ml:Nd}(AD:OY O w c ml)(bo:ml.2.kd=23)(cD:ml.2.tx=Vx)(p:Pl)(aB:Option Addr)(al:0<=p.scope/\p.scope<σ.M.OI.length)(yd:2<=σ.M.OI.length){v:Va}{vs:List Va}(aa:Ux w u (v::vs))(E:v.k=4)
  (bY:σ.calls≠40->(evB F v.s p { σ with calls:=σ.calls+1 }).2.calls=σ.calls+1)
  (bq:σ.calls≠40->∀ t,evT v.s p.strict=some t->∀ (a:Ad) cz bO,evQ (none,t) p { σ with calls:=σ.calls+1 }=some (cz,bO)->∀ X u (lb:Nat),mb<=lb->Ms w0 mb af O X (OO (none,t) cz bO).2->TA 0 X u a.ks->Uo O X a.ks (P9 (none,t))->OV X (some lb) (some vU)->OE 28 #[Oo mb,u,PU (OO (none,t) cz bO).1 (LA (some lb))] X (P8 w0 mb af O es (some lb) X (Q8 F (OO (none,t) cz bO).1 (P9 (none,t)) (some vU) (OO (none,t) cz bO).2))) :
  OE 300 #[Oo mb,Oo c.p,PU p aB,u] w (O3 w0 mb af O es w (within σ (evB F v.s p))):=by
 have z:=Oq (∀{G}(h:G:=by
 rw[bo] at c0;have ay:=V8 (b:=Vx) rfl cD;obtain⟨tx,wG⟩:=xE ml.2.tx;rw[<-wG] at c1 ay;clear wG cD bo;obtain⟨rs,eI⟩:=xE (within σ (evB F v.s ⟨au,aG,st⟩))
 have a1:=fun X (ak:Mx w0 mb af O aW aC aA aM X σ) (bQ:X.heap[dq]? = some (O1 #[Oo mb] 62)) (kp:X.heap[bf]? = some (O1 #[Ol au,Ol aG,OC st,.pointer aB] 73)) (iA:X.heap[em]? = some (O1 #[.slice (some (Ot g i7)) dL dP] 311)) (BK:Ux X (.slice (some (Ot g i7)) dL dP) (v::vs))=>acu (es:=es) ak dK auH (caps:=#[OM em 0,OM bf 0,OM dq 0]) (g:=evB F v.s ⟨au,aG,st⟩) bY (fun vN Y cw bI dd=>aky ac a8 wa cw (aI.calls _) hN au aG st aB al (bI _ _ _ bQ Oz) (bI _ _ _ kp Oz) (bI _ _ _ iA Oz) (BK.keep fun b c D=>bI b c 65 D Oz) (bq vN))
 have z:=Oq (∀{G}(h:G:=by
 obtain⟨ap,ix⟩:=xE w2;have dp:=bj;have cQ:=cu;rw[<-ix] at dp cQ eJ ik om nA md ⊢;clear ix;refine cm (Om zN ap eJ ik.out om.out nA.out md) ?_;exact aCJ),G);exact aCK),G);exact zso
def as1 (ac:Zp es)(a8:Bs w0 mb af O es)(wa:Gl w0)(ae:Mx w0 mb af O aW aC aA aM w σ)(aI:Sz N σ)(hN:N+10000<1000000000)(dK:σ.calls<=40){c:Ad}{ml:Nd}(AD:OY O w c ml)(bo:ml.2.kd≠23)(p:Pl)(aB:Option Addr)(al:0<=p.scope/\p.scope<σ.M.OI.length)(yd:2<=σ.M.OI.length){v:Va}{vs:List Va}(aa:Ux w u (v::vs))(E:v.k=4)
  (bY:σ.calls≠40->(evB F v.s ⟨1,0,false⟩ { σ with calls:=σ.calls+1 }).2.calls=σ.calls+1)
  (bq:σ.calls≠40->∀ t,evT v.s false=some t->∀ (a:Ad) cz bO,evQ (none,t) ⟨1,0,false⟩ { σ with calls:=σ.calls+1 }=some (cz,bO)->∀ X u (lb:Nat),mb<=lb->Ms w0 mb af O X (OO (none,t) cz bO).2->TA 0 X u a.ks->Uo O X a.ks (P9 (none,t))->OV X (some lb) (some vU)->OE 28 #[Oo mb,u,PU (OO (none,t) cz bO).1 (LA (some lb))] X (P8 w0 mb af O es (some lb) X (Q8 F (OO (none,t) cz bO).1 (P9 (none,t)) (some vU) (OO (none,t) cz bO).2))) :
  OE 300 #[Oo mb,Oo c.p,PU p aB,u] w (O3 w0 mb af O es w (within σ (evB F v.s ⟨1,0,false⟩))):=by
 have z:=Oq (∀{G}(h:G:=by
 have e9:(ml.2.kd==23)=false:=beq_eq_false_iff_ne.2 bo;obtain⟨kd,cT⟩:=xE ml.2.kd;rw[<-cT] at c0 e9 bo;clear cT;exact aCL),G);exact zso
def as2 (ac:Zp es)(a8:Bs w0 mb af O es)(wa:Gl w0)(ae:Mx w0 mb af O aW aC aA aM w σ)(aI:Sz N σ)(hN:N+10000<1000000000)(dK:σ.calls<=40){c:Ad}{ml:Nd}(AD:OY O w c ml)(bo:ml.2.kd=23)(cD:ml.2.tx≠Vx)(p:Pl)(aB:Option Addr)(al:0<=p.scope/\p.scope<σ.M.OI.length)(yd:2<=σ.M.OI.length){v:Va}{vs:List Va}(aa:Ux w u (v::vs))(E:v.k=4)
  (bY:σ.calls≠40->(evB F v.s ⟨1,0,false⟩ { σ with calls:=σ.calls+1 }).2.calls=σ.calls+1)
  (bq:σ.calls≠40->∀ t,evT v.s false=some t->∀ (a:Ad) cz bO,evQ (none,t) ⟨1,0,false⟩ { σ with calls:=σ.calls+1 }=some (cz,bO)->∀ X u (lb:Nat),mb<=lb->Ms w0 mb af O X (OO (none,t) cz bO).2->TA 0 X u a.ks->Uo O X a.ks (P9 (none,t))->OV X (some lb) (some vU)->OE 28 #[Oo mb,u,PU (OO (none,t) cz bO).1 (LA (some lb))] X (P8 w0 mb af O es (some lb) X (Q8 F (OO (none,t) cz bO).1 (P9 (none,t)) (some vU) (OO (none,t) cz bO).2))) :
  OE 300 #[Oo mb,Oo c.p,PU p aB,u] w (O3 w0 mb af O es w (within σ (evB F v.s ⟨1,0,false⟩))):=by
 have z:=Oq (∀{G}(h:G:=by
 rw[bo] at c0;have ay:=VJ (b:=Vx) rfl cD;obtain⟨tx,wG⟩:=xE ml.2.tx;rw[<-wG] at c1 ay;clear wG cD bo;exact aCL),G);exact zso
