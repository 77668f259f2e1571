import Derived.Test.YticfnaiehdpbmaaGreatDoorOn15
import Derived.Test.YticfnaiehdpbmaaGreatDoorOn17
import Derived.LaidHandle
import Derived.Stop.LaidErr
set_option maxRecDepth 100000
set_option maxHeartbeats 8000000
set_option linter.all false
namespace Go.Proofs.YticfnaiehdpbmaaGreatDoor
open Go.RowKit Go.Proofs.Tryz
namespace Hp
section
variable {w0:Ov} {mb af:Nat} {O:List Nat} {es aW aC aA aM:OG} {w w':Ov} {σ:St} {N:Nat} {F:Fx} {u:OG} {vs:List Va}
def auI (F:Fx)(d:Nd)(p:Pl)(r:(List Va × Er) × St):(Va × Er) × St:=match r with
 | ((f::args,.no),σ1)=>
  if f.k≠5 then ((vU,bad tType),σ1) else
  let c:=σ1.M.codeOf f.n
  if c=0 then ((vU,bad tType),σ1)
  else if c=1 then ((vU,.no),{ σ1 with log:=σ1.log++[XP (args.map σ1.M.shw)] })
  else if c=2 then Yi F (Oy d 0).2 p args σ1
  else match σ1.Rq[(c - 3).toNat]? with
   | some fn=>XF F fn args σ1
   | none=>((vU,.no),σ1)
 | ((_,e),σ1)=>((vU,e),σ1)
theorem apz (d:Nd)(p:Pl)(σ:St):ZF F d p σ=auI F d p (Vk F p (P9 d) [] σ):=rfl
theorem ace.head {B g n cap:Nat}{v:Va}(h:ace B w (.slice (some (Ot g 0)) n cap) (v::vs)):n=vs.length+1/\n<=cap/\g<w.heap.size/\w.cell? (Ot g 0)=some (Ol v.k)/\w.cell? (Ot g 1)=some (Ol v.n)/\w.cell? (Ot g 2)=some (OB v.s)/\∀ m c,m=vs.length->(vs≠[]->c=3)->∀ oE,Ux w (.slice (some (Ot g c)) m oE) vs:=by
 have h1:=h.2
 rcases h1 with ⟨h1,_⟩|⟨g2,cap',cj,h1,_,hg,aj,_,_,bc⟩
 ·
  cases h1
 ·simp only[Value.slice.injEq,Option.some.injEq,Addr.mk.injEq,and_true] at h1;obtain⟨rfl,rfl,rfl⟩:=h1;have hcell:∀ j x,((v::vs).flatMap YN)[j]? = some x->cj[j]? = some x:=fun j x aN=>by
   rw[<-bc,List.getElem?_take] at aN
   split at aN
   ·rw[<-aN,Array.getElem?_toList]
   ·
    cases aN
  refine⟨rfl,aj,lt_of_heap hg,?_,?_,?_,?_⟩
  ·simp[World.cell?,hg,hcell 0 _ rfl]
  ·simp[World.cell?,hg,hcell 1 _ rfl]
  ·simp[World.cell?,hg,hcell 2 _ rfl]
  ·intro m c aS kj oE;subst aS;refine⟨⟨_,_,rfl⟩,fun i x am=>?_⟩;have cl:vs≠[]:=fun e=>by rw[e] at am;cases am
   have Az:=kj cl;subst Az;have av:∀ j y,(YN x)[j]? = some y->j<3->cj[3+i * 3+j]? = some y:=fun j y aN wf=>by
    refine hcell _ _ ?_;have ay:(v::vs).flatMap YN=YN v++vs.flatMap YN:=rfl;rw[ay,List.getElem?_append_right (by show 3<=_;omega)]
    have bz:3+i * 3+j - (YN v).length=i * 3+j:=by show 3+i * 3+j - 3=_;omega
    rw[bz,XB (s:=3) (fun _=>rfl) vs i j wf,am];exact aN
   exact⟨g,3,oE,cj,rfl,hg,av 0 _ rfl Ou,av 1 _ rfl Ou,av 2 _ rfl Ou⟩
theorem axq (ac:Zp es)(aJ:Ms w0 mb af O w σ){a:Ad}{d:Nd}(hd:OY O w a d)(E:1<=d.2.kids.length)(Ee:d.2.kids.length<=9)(p:Pl)(aB:Option Addr)
  (h1:∀ X u,Ms w0 mb af O X σ->TA 0 X u a.ks->Uo O X a.ks (P9 d)->OE 293 #[Oo mb,u,PU p aB] X (auE w0 mb af O es X (Vk F p (P9 d) [] σ)))
  (hP:∀ f args σ1,Vk F p (P9 d) [] σ=((f::args,.no),σ1)->f.k=5->σ1.M.codeOf f.n=1->∀ X u,Ms w0 mb af O X σ1->Ux X u args->OE 299 #[Oo mb,u] X fun e w'=>e=OQ (.tuple #[])/\Ms w0 mb af O w' { σ1 with log:=σ1.log++[XP (args.map σ1.M.shw)] }/\O5 none mb X w')
  (aD:∀ f args σ1,Vk F p (P9 d) [] σ=((f::args,.no),σ1)->f.k=5->σ1.M.codeOf f.n=2->∀ X u (c:Ad),Ms w0 mb af O X σ1->Ux X u args->OY O X c (Oy d 0)->OE 300 #[Oo mb,Oo c.p,PU p aB,u] X (O3 w0 mb af O es X (Yi F (Oy d 0).2 p args σ1)))
  (ah:∀ f args σ1,Vk F p (P9 d) [] σ=((f::args,.no),σ1)->f.k=5->σ1.M.codeOf f.n≠0->σ1.M.codeOf f.n≠1->σ1.M.codeOf f.n≠2->∃ fn,3<=σ1.M.codeOf f.n/\σ1.M.codeOf f.n<1000000000/\σ1.Rq[(σ1.M.codeOf f.n - 3).toNat]? = some fn/\∀ X u (c:Ad),Ms w0 mb af O X σ1->Ux X u args->OY O X c fn.d->OE 301 #[Oo mb,.agg #[Oo c.p,Ol fn.scope,OC fn.strict],u] X (O3 w0 mb af O es X (XF F fn args σ1))) :
  OE 263 #[Oo mb,Oo a.p,PU p aB] w (O3 w0 mb af O es w (ZF F d p σ)):=by
 obtain⟨rs,eI⟩:=xE (ZF F d p σ);rw[<-eI];have z:=Oq (∀{G}(h:G:=by
 have b8:=hide be;have ei:=hide (cells4 be);have z:=Oq (∀{G}(h:G:=by
 obtain⟨cV,dP,c3,hrow⟩:=cU.ar;obtain⟨gt,nG⟩:=xH d.2.kids.length;rw[<-nG.out] at c3 hrow E Ee;have bJ:=hide (fun X (ak:OD w2 X)=>h1 X _ (cZ.later ak) (hrow.later ak) ((cU.kp (Kp.of ak)).ndl))
 rcases aa:Vk F ⟨au,aG,st⟩ (P9 d) [] σ with ⟨⟨vs,ay⟩,σ1⟩
 rw[aa] at bJ hP aD ah;have kq:ay=.no->vs.length=gt:=fun e=>by
  subst e;have:=ach _ _ _ _ _ aa;rw[this,nG.out,Si];simp
 have tq:=hide kq;have fO:Hid (rs=auI F d ⟨au,aG,st⟩ ((vs,ay),σ1)):=by
  show _=_
  rw[eI,apz,aa]
 obtain⟨q,bm⟩:=xH a.p;rw[<-bm.out] at c3 dz ⊢;have eF:=hide c3;have Gd:=hide hP;have Ga:=hide aD;have Gb:=hide ah;clear be hr2 aa h1 hP aD ah dx cL d0 c3 eI kq;go_enter func263,ntmps263;go_wp2_with fail;rw[<-bu.out,<-b0,<-bV];clear bV b0;refine TI 6 fun ab=>?_;have z:=Oq (∀{G}(h:G:=by
 refine uk 4 eF.out ab ?_;refine uk4 5 ei.out ab ?_;refine P5 6 fun K A=>?_;go_simp;refine cm (Om bJ _ ab) ?_;rintro e ap ⟨⟨kC,ev,rfl,kx,Aj⟩,eA,f8⟩;refine ko A ?_;clear A K;have m9:=(O5.of (L:=none) ab (O0 di)).trans f8;have dp:=hide (m9.keep bj.out Oz);have fM:=hide (m9.keep b8.out Oz);have lI:=(cU.kp m9.UD);have cQ:=(cu.trans m9);have md:=kx;have fD:=eA.lt;obtain⟨va,dD,wJ⟩:=OX kx;subst wJ;clear hpl2 dz;obtain⟨cH,bU,cg,dt,du,dv,rl⟩:=O7 dp.out
 refine uz 7 (.tuple #[.slice va vs.length dD,ev]) ?_;refine uz 8 (.slice va vs.length dD) ?_;refine uz 9 ev ?_;refine uz 10 (.slice va vs.length dD) ?_;refine uz 11 ev ?_;refine Sl ?_ _;go_simp
 by_cases aq:ay=.no
 ·subst aq;have bv:ev=Qp:=Aj;subst bv;obtain⟨f,args,rfl⟩:∃ f args,vs=f::args:=by
   cases vs with
   | nil=>have:=Om tq rfl;simp at this;omega
   | cons f args=>exact⟨f,args,rfl⟩
  have oM:=Om tq rfl;obtain⟨g,cap,av,qu,_⟩:=World.ownsRow.form md O8;simp only[Value.slice.injEq] at av;obtain⟨rfl,hdrop,rfl⟩:=av;clear hdrop;obtain⟨m,aS⟩:=xE ((f::args).length);rw[<-aS] at md oM ⊢;obtain⟨n1,hB,dI,gH,eq,hz,ER⟩:=md.head;have wj:(1:Int)<=(m:Int):=Ou;have y0:=hide (show ap.cell? (Ot g 0)=some (Ol f.k)/\ap.cell? (Ot g 1)=some (Ol f.n)/\ap.cell? (Ot g 2)=some (OB f.s) from ⟨gH,eq,hz⟩);have zL:=hide ER;have jF:=hide n1;have A3:m<=9:=Ou;clear ER gH eq hz aS n1 oM
  obtain⟨bR,gL⟩:=xE args.length;obtain⟨nO,rfl⟩:∃ nO,dD=nO+1:=⟨dD - 1,by omega⟩;obtain rfl:m=bR+1:=by rw[gL];exact Om jF
  obtain⟨i7,pV,sU⟩:∃ i7 pV,(if nO=0 then i7=0/\pV=0 else i7=3/\pV=nO):=by
   by_cases h:nO=0
   ·exact⟨0,0,by rw[if_pos h];exact⟨rfl,rfl⟩⟩
   ·exact⟨3,nO,by rw[if_neg h];exact⟨rfl,rfl⟩⟩
  have JS:Ux ap (.slice (some (Ot g i7)) bR pV) args:=Om zL bR i7 gL (fun cl=>by
   rw[if_neg (fun h=>cl (List.eq_nil_of_length_eq_zero Ou))] at sU;exact sU.1) pV
  clear gL;go_wp2_with fail;refine TI 6 fun ab=>?_;refine uh 0 (.slice (some (Ot g 0)) (bR+1) (nO+1)) (ab) ?_;refine up 1 g 0 ab ?_;refine uc 2 (.agg #[Ol f.k,Ol f.n,OB f.s]) rfl (Or.inl ⟨by kernel_rfl,fun X ak=>by have h0:=O4 ak (y0.out.1);have h1:=O4 ak (y0.out.2.1);have U:=O4 ak (y0.out.2.2);go_simp⟩) (ab) ?_
  refine uh 3 (.slice (some (Ot g 0)) (bR+1) (nO+1)) (ab) ?_;refine uh 4 (.slice (some (Ot g i7)) bR pV) (ab) ?_ (hy:=Or.inl ⟨by kernel_rfl,fun _ _=>by by_cases ej:nO=0;· { rw[if_pos ej] at sU;obtain⟨rfl,rfl⟩:=sU;subst ej;obtain rfl:bR=0:=Ou;go_simp };· { rw[if_neg ej] at sU;obtain⟨rfl,rfl⟩:=sU;go_simp;intro h;omega }⟩)
  refine P5 5 fun K A=>?_;go_simp;refine A.out _ _ (fun _=>PO.drew) ?_;clear A K;refine P5 6 fun K A=>?_;go_simp;refine ko A ?_;clear A K;refine uz 7 (.slice (some (Ot g i7)) bR pV) ?_;refine Sl ?_ _;go_simp;clear sU;obtain⟨vb,aV⟩:=xE ap.heap.size;obtain⟨b7,hi⟩:=xE ((ap.alloc (.cells #[Ol f.k,Ol f.n,OB f.s] 65)).drew);have e3:OD ap b7:=by rw[hi];exact PO.drew
  have Bw:b7.heap[vb]? = some (Y7 f):=by
   rw[hi,aV];exact stays ((Below.refl _ (ap.alloc (.cells #[Ol f.k,Ol f.n,OB f.s] 65))).drew) (OA _ _)
  rw[<-hi,<-aV];have hX:=(eA.later e3);have fm:=hide (stays e3 dp.out);have jd:=hide (stays e3 fM.out);have gu:=(cQ.trans (O5.of (L:=none) e3 (O0 fD)));have nx:=(lI.kp (Kp.of e3));have mO:=(JS.later e3);have gh:=hide (cells3 Bw);have hR:=hX.lt;have ia:=lt_of_heap Bw;have JT:vb≠aU:=fun e=>by
   have:=lt_of_heap dp.out;omega
  clear hi aV Bw cH bU cg dt du dv rl dI qu A3;obtain⟨fh,cp,dG,_,_⟩:=Om gh
  by_cases pM:f.k=5
  ·rw[pM] at fh;obtain⟨c,uP⟩:=xH (σ1.M.codeOf f.n);have og:=hide (fun X (ak:Ms w0 mb af O X σ1)=>by
    obtain⟨_,_,_,_,ae⟩:=ak;exact aiV ae.hh f.n)
   rw[<-uP.out] at og;have l7:=hide pM;clear pM;go_wp2_with fail;clear fh cp dG;refine TI 5 fun ab=>?_;have z:=Oq (∀{G}(h:G:=by
   refine up 3 vb 1 ab ?_;refine uk 4 (gh.out.2.1) ab ?_;refine P5 5 fun K A=>?_;go_simp;refine cm (Om og _ (hX.later ab)) ?_;rintro e ch ⟨rfl,g6⟩;rw[g6];refine ko A ?_;clear A K;clear g6;refine uz 6 (Ol c) ?_;refine Sl ?_ _;go_simp;obtain⟨ch,g6⟩:=xE b7.drew;have e4:OD b7 ch:=by rw[g6];exact QX.drew
   rw[<-g6];replace hX:=(hX.later e4);replace fm:=hide (stays e4 fm.out);replace jd:=hide (stays e4 jd.out);replace gu:=(gu.trans (O5.of (L:=none) e4 (O0 hR)));replace nx:=(nx.kp (Kp.of e4));replace mO:=(mO.later e4);replace hR:=hX.lt;clear g6 ia JT;have EB:rs=if c=0 then ((vU,bad tType),σ1)
    else if c=1 then ((vU,.no),{ σ1 with log:=σ1.log++[XP (args.map σ1.M.shw)] })
    else if c=2 then Yi F (Oy d 0).2 ⟨au,aG,st⟩ args σ1
    else match σ1.Rq[(c - 3).toNat]? with
     | some fn=>XF F fn args σ1
     | none=>((vU,.no),σ1):=by
    rw[fO.out,uP.out]
    show (if f.k≠5 then _ else _)=_
    rw[if_neg (by rw[l7.out];simp)]
   have r8:=hide EB;clear EB;obtain⟨cH,bU,cg,dt,du,dv,rl⟩:=O7 fm.out
   by_cases h0:c=0
   ·have cI:Hid (rs=((vU,bad tType),σ1)):=by show _=_;rw[r8.out,if_pos h0]
    subst h0;go_wp2_with fail;exact aCM
   by_cases h1:c=1
   ·have cI:Hid (rs=((vU,.no),{ σ1 with log:=σ1.log++[XP (args.map σ1.M.shw)] })):=by show _=_;rw[r8.out,if_neg h0,if_pos h1]
    have fN:=(Om Gd f args σ1 rfl l7.out (uP.out.symm.trans h1) ch _ hX mO);subst h1;clear h0;go_wp2_with fail;refine cm fN ?_;rintro e wd ⟨rfl,aJ,ah⟩;have hY:=hide (ah.keep fm.out Oz);have l8:=aJ;have hx:=(gu.trans ah);clear ah;obtain⟨ho,gW,gC,j8,j9,j',ka⟩:=O7 hY.out;go_wp2_with fail;obtain⟨b1,bx,bi,bF,bC,cG,b4,bT⟩:=rt3 hY.out cR.out bG hx l8 (Ol 0) (Ol 0) (PN);rw[<-bx];refine Y9 (v:=.tuple #[vA vU,Qp]) ?_;rw[cI.out];exact⟨⟨_,rfl,rfl⟩,bC,bF⟩
   have xL:(c==0)=false:=beq_eq_false_iff_ne.2 h0;have Ih:(c==1)=false:=beq_eq_false_iff_ne.2 h1
   by_cases U:c=2
   ·have cI:Hid (rs=Yi F (Oy d 0).2 ⟨au,aG,st⟩ args σ1):=by show _=_;rw[r8.out,if_neg h0,if_neg h1,if_pos U]
    obtain⟨ce,cB,cap0,ez,xI,fV,_⟩:=nx.Yj (i:=0) (by rw[<-nG.out];omega)
    obtain⟨bP,dm⟩:=xE (Yi F (Oy d 0).2 ⟨au,aG,st⟩ args σ1);have lJ:=hide (fun X (ak:OD ch X)=>Om Ga f args σ1 rfl l7.out (uP.out.symm.trans U) X (.slice (some (Ot g i7)) bR pV) ce (hX.later ak) (mO.later ak) (fV.kp (Kp.of ak)));rw[<-dm] at lJ cI;rw[<-nG.out,<-bm.out] at ez;obtain⟨kp,dc⟩:=xE ce.p;rw[<-dc] at xI lJ;have FG:=hide ez;have lG:=hide xI;have ei:=hide (cells4 jd.out);have dz:=cell_lt ez;have dI:=cell_lt xI;have Jt:=lt_of_heap jd.out;subst U;clear h0 h1 xL Ih ez xI dc dm;go_wp2_with fail
    refine TI 9 fun ab=>?_;have z:=Oq (∀{G}(h:G:=by
    refine uk 4 (Om FG) ab ?_;refine uh 5 (OM cB 0) (ab) ?_ (hy:=Or.inl ⟨by kernel_rfl,fun _ _=>by go_simp;intro h;omega⟩)
    refine uk 6 lG.out ab ?_;refine uk4 7 ei.out ab ?_;refine uh 8 (.slice (some (Ot g i7)) bR pV) (ab) ?_;refine P5 9 fun K A=>?_;go_simp;refine cm (Om lJ _ ab) ?_;rintro e wd ⟨⟨ev,rfl,aD⟩,aJ,ah⟩;refine ko A ?_;clear A K;replace ah:=(O5.of (L:=none) ab (O0 hR)).trans ah;have z:=Oq (∀{G}(h:G:=by
    obtain⟨ho,gW,gC,j8,j9,j',ka⟩:=O7 hY.out;refine uz 10 (vA v9) ?_;have bN:=Oq (∀{G}(h:G:=by
    refine uz 13 ev ?_;refine Sl ?_ _;go_simp;exact aCN),G);exact ztk),G);exact aCO),G);exact Ws
   have Ma:(c==2)=false:=beq_eq_false_iff_ne.2 U;have kl:=Om Gb f args σ1 rfl l7.out;rw[<-uP.out] at kl;obtain⟨fn,kj,IK,hA,Ds⟩:=kl h0 h1 U;have cI:Hid (rs=XF F fn args σ1):=by show _=_;rw[r8.out,if_neg h0,if_neg h1,if_neg U,hA]
   obtain⟨aW,aC,aA,aM,o5⟩:=id hX;obtain⟨d6,fI,gb,pK⟩:=o5.fu;obtain⟨i,am⟩:=xE ((c - 3).toNat);rw[<-am] at hA;have ri:i<σ1.Rq.length:=(List.getElem?_eq_some_iff.1 hA).1;obtain⟨pU,qv⟩:∃ pU,d6[i]? = some pU:=⟨_,List.getElem?_eq_getElem Ou⟩;have jj:=pK i pU fn qv hA;obtain⟨fg,mo,IR,_,_⟩:=gb.form Ou;subst IR;have IL:c=(i:Int)+3:=Ou;have hcell:∀ j x,(fn3 (pU,fn))[j]? = some x->j<3->ch.cell? (Ot fg (i * 3+j))=some x:=fun j x aN wf=>by
    have aI:(d6.zip σ1.Rq)[i]? = some (pU,fn):=by rw[List.getElem?_zip_eq_some];exact⟨qv,hA⟩
    rw[gb.cellAt _ Ou,XB (s:=3) (fun _=>rfl) _ i j wf,aI];exact aN
   have ce:=hcell 0 _ rfl Ou;have bQ:=hcell 1 _ rfl Ou;have ds:=hcell 2 _ rfl Ou;rw[Nat.add_zero] at ce;have ME:fg<ch.heap.size:=(gb.lt fg rfl).2;obtain⟨mj,_⟩:=o5.hh.at_ 7 _ rfl;obtain⟨fw,Ev⟩:=xE σ1.Rq.length;rw[<-Ev] at mj ri;have MK:(i:Int)<(fw:Int):=Ou;obtain⟨bP,dm⟩:=xE (XF F fn args σ1);have qP:=(Ds ch (.slice (some (Ot g i7)) bR pV) pU hX mO jj);rw[<-dm] at qP cI;obtain⟨Ny,Ef⟩:=xE pU.p;obtain⟨q9,t8⟩:=xE fn.scope;obtain⟨fst,ua⟩:=xE fn.strict;rw[<-Ef] at qP ce;rw[<-t8] at qP bQ
   rw[<-ua] at qP ds;subst IL;have Mu:(i:Int)<1000000000:=Ou;clear h0 h1 U hcell pK fI qv hA am Ev dm Ef t8 ua Ds kj IK ri;go_wp2_with fail;refine cm qP ?_;rintro e wd ⟨⟨ev,rfl,aD⟩,aJ,ah⟩;clear ce bQ ds mj;have z:=Oq (∀{G}(h:G:=by
   obtain⟨ho,gW,gC,j8,j9,j',ka⟩:=O7 hY.out;exact aCN),G);exact aCO),G);exact Un
  ·have MM:(f.k==5)=false:=beq_eq_false_iff_ne.2 pM;have cI:Hid (rs=((vU,bad tType),σ1)):=by
    show _=_
    rw[fO.out]
    show (if f.k≠5 then _ else _)=_
    rw[if_pos pM]
   clear pM;go_wp2_with fail;clear fh cp dG;exact aCM
 ·obtain⟨et,ex,bv⟩:=Aj.WT aq ac;subst bv;have aK:rs=((vU,ay),σ1):=by
   rw[fO.out]
   cases ay with
   | no=>exact absurd rfl aq
   | stop=>cases vs <;> rfl
   | mis=>cases vs <;> rfl
   | XU x=>cases vs <;> rfl
  have cI:=hide aK;clear aK aq;have z:=Oq (∀{G}(h:G:=by
  rw[cI.out];exact⟨⟨_,rfl,Aj.Qw bi Oz⟩,bC,bF⟩),G);exact aBF),G);exact Ws),G);exact Vd),G);exact Xu
structure Cx (w0:Ov)(mb af:Nat)(O:List Nat)(es:OG)(eb:Addr):Prop where
 b:Bs w0 mb af O es
 st:Stp w0 mb es eb
 tb:Y8 w0
 gl:Gl w0
structure QQ (f:Nat)(N:Int)(p:Pl)(σ:St):Prop where
 q:Q f N p σ
 bd:N<=99000000+10 * σ.steps
structure FC (w0:Ov)(mb af:Nat)(O:List Nat)(es:OG)(F:Fx)(f:Nat):Prop where
 v:∀ {N d p σ},QQ f N p σ->Nk 0 d.2->Ub w0 mb af O es σ d p (F.v d p σ)
 s:∀ {N d p l σ L},QQ f N p σ->Nk 1 d.2->(PE d.2=true->K4 σ.M p.scope d.2.tx)->Lg σ l->(∀ b,L=some b->mb<=b)->XG w0 mb af O es σ d p L l (F.s d p l σ)
end
section
variable {w0:Ov} {mb af:Nat} {O:List Nat} {es:OG} {eb:Addr} {w:Ov} {σ σ1:St} {N N':Int} {F:Fx} {f:Nat} {p:Pl} {d:Nd} {l:Option Va} {L:Option Nat} {v:Va} {e:Er} {o:Oc}
section
variable (h:QQ f N p σ)
include h
theorem QQ.next (k:VO N σ ((v,.no),σ1)):QQ f N p σ1:=⟨h.q.next k,by have:=h.bd;have:=k.ex.st;dsimp only at this;omega⟩
theorem QQ.nexts (k:SO N σ ((o,.no,l),σ1)):QQ f N p σ1:=⟨h.q.nexts k,by have:=h.bd;have:=k.ex.st;dsimp only at this;omega⟩
theorem QQ.nx (k:Nx N' σ σ1)(D:N'<=99000000+10 * σ.steps):QQ f N' p σ1:=⟨h.q.nx k,by rw[k.st];exact D⟩
end
theorem QQ.step (h:QQ (f+1) N p σ)(ac:¬ 20000<σ.step.steps):QQ f (N - 10000) p σ.step:=⟨h.q.step ac,by have:=h.bd;show N - 10000<=99000000+10 * ((σ.steps+1:Nat):Int);omega⟩
theorem Iv.sz (h:Iv N σ)(hN:N<=99000000+10 * σ.steps)(ac:σ.steps<=20001):Sz 400000000 σ:=by
 obtain⟨n,aI,az⟩:=h.pz;exact aI.up Ou
theorem Eo.le (h:Eo σ e):σ.steps<=20001:=by
 cases e with
 | no=>exact Nat.le_succ_of_le h
 | stop=>exact Nat.le_of_eq h
 | XU v=>exact Nat.le_succ_of_le h.1
 | mis=>exact h.elim
theorem QQ.sz (h:QQ f N p σ):Sz 400000000 σ:=h.q.iv.sz h.bd (by have:=h.q.st;omega)
theorem VO.sz {r:(Va × Er) × St}(h:VO N σ r)(hN:N<=99000000+10 * σ.steps):Sz 400000000 r.2:=h.iv.sz (by have:=h.ex.st;omega) h.er.le
theorem aff {lO:Nat}{M:Mo}{v:Va}(h:Gv lO v)(aH:lO<=400000000):(M.shw v).size<=3000/\(-1000000000<=v.n/\v.n<=1000000000):=by
 have az:-1000000000<=v.n/\v.n<=1000000000:=by
  by_cases bE:v.k=5
  ·have:=h.r bE;omega
  ·exact h.n bE
 refine⟨?_,az⟩;unfold Mo.shw
 split
 ·decide
 split
 ·decide
 split
 ·split <;> decide
 split
 ·have:=Lib.itoa_length_le v.n Ou Ou
  show (List.toArray _).size<=3000
  rw[List.size_toArray];omega
 split
 ·exact h.s
 split
 ·split <;> decide
 ·decide
theorem axr (ak:Cx w0 mb af O es eb)(ah:FI F f)(bq:FC w0 mb af O es F f)(h:QQ (f+1) N p σ)(hd:Nk 0 d.2)
  (Af:d.2.kd=35->∀ Y a aB,Ms w0 mb af O Y σ.step->OY O Y a d->QQ f (N - 10000) p σ.step->OE 263 #[Oo mb,Oo a.p,PU p aB] Y (O3 w0 mb af O es Y (ZF F d p σ.step))):Ub w0 mb af O es σ d p (Zo F d p σ):=by
 intro X a aB aJ az;have ac:=ak.st.WT;have h0:=h.q.st
 by_cases h1:σ.steps<20000
 ·have ag:=h.step (show ¬ 20000<σ.steps+1 by omega);have aI:=ag.sz;have dZ:=ag.bd
  by_cases wV:d.2.kd=17
  ·rw[auJ h1 wV];exact value_num ak.st aJ az wV h0 h1 p aB
  by_cases wW:d.2.kd=18
  ·rw[auK h1 wW];exact amm ak.st aJ az wW h0 h1 p aB
  by_cases yo:d.2.kd=19
  ·rw[auL h1 yo];exact ajd ak.st aJ az yo h0 h1 p aB
  by_cases yp:d.2.kd=20
  ·rw[auM h1 yp];exact ag0 ak.st aJ az yp h0 h1 p aB
  by_cases yq:d.2.kd=21
  ·rw[auN h1 yq];exact aje ak.st aJ az yq h0 h1 p aB
  by_cases n8:d.2.kd=23
  ·rw[auO h1 n8];exact ai9 ak.st aJ az n8 h0 h1 p aB fun Y cw ec=>aws ak.b cw aI Ou ec p aB
  by_cases o8:d.2.kd=24
  ·have cB:=(hd.Xq Ou).1;have b5:=hd.ajl Ou;rw[auP h1 o8];refine ae3 ak.st aJ az o8 h0 h1 p aB fun Y cw ec=>?_
   by_cases qG:(Oy d 0).2.kd=36
   ·have ay:al2 F d p σ.step=aeU F (Oy d 0) (Oy d 1) p σ.step:=if_pos qG;rw[ay];have Df:=(cB.Xq Ou).1;have av:=(ah.v ag.q Df).1;refine aa1 ac cw ec b5.2 p aB qG (cB.one1 Ou) (bq.v ag Df) (fun v1 σ1 aa=>?_) (fun v1 σ1 v2 cy aa hr2=>?_) (N:=400000000) Ou
    ·rw[aa] at av;exact bq.v (ag.next av) b5.1
    ·rw[aa] at av;have hw:=(ah.v (ag.next av).q b5.1).1;rw[hr2] at hw;exact hw.sz (ag.next av).bd
   ·have ay:al2 F d p σ.step=asv F (Oy d 0) (Oy d 1) p σ.step:=if_neg qG;rw[ay];have hl:=ag.q.iv.look (Oy d 0) p;have dz:=ag.nx hl (by have:=h.bd;show N - 10000+1<=99000000+10 * ((σ.steps+1:Nat):Int);omega)
    refine aa2 ac ak.b ak.st.et cw ec b5.2 p aB qG (bq.v dz b5.1) aI (fun v1 σ1 aa=>?_) Ou;have hw:=(ah.v dz.q b5.1).1;rw[aa] at hw;exact hw.sz dz.bd
  by_cases wX:d.2.kd=25
  ·have cB:=(hd.Xq Ou).1;have b5:=hd.ajl Ou;rw[auQ h1 wX];refine aph ak.st aJ az wX h0 h1 p aB fun Y cw ec=>al6 ac cw ec b5.2 wX p aB (bq.v ag cB) fun v1 σ1 aa=>?_;have av:=(ah.v ag.q cB).1;rw[aa] at av;exact bq.v (ag.next av) b5.1
  by_cases BI:d.2.kd=26
  ·have cB:=(hd.Xq Ou).1;have b5:=hd.ajl Ou;rw[auR h1 BI];refine amh ak.st aJ az BI h0 h1 p aB fun Y cw ec=>al7 ac cw ec b5.2 BI p aB (bq.v ag cB) fun v1 σ1 aa=>?_;have av:=(ah.v ag.q cB).1;rw[aa] at av;exact bq.v (ag.next av) b5.1
  by_cases n9:27<=d.2.kd/\d.2.kd<=31
  ·have b5:=hd.ajl Ou;have bb:=hd.adX n9;have key:∀ Y,Ms w0 mb af O Y σ.step->OY O Y a d->OE 259 #[Oo mb,Oo a.p,PU p aB] Y (O3 w0 mb af O es Y (aas F d p σ.step)):=fun Y cw ec=>by
    refine awO ac ak.b ak.tb cw ec b5.2 p aB (fun bO=>QQ f (N - 10000) p bO) ag (fun oF sK bO nh=>⟨bq.v nh (bb oF sK),fun v σ1 aa=>?_⟩) (fun v1 v2 σ1 aa=>?_)
    ·have av:=(ah.v nh.q (bb oF sK)).1;rw[aa] at av;exact nh.next av
    ·have hl:=acz ah (P9 d) [] ag.q bb (fun _ h=>by cases h);rw[aa] at hl;have E3:=(hl.iv.sz (by have:=hl.ex.st;dsimp only at this ⊢;omega) hl.er.le).go.sm.o
     have j2:=aff (M:=σ1.M) (hl.va v1 List.mem_cons_self) E3;have a2:=aff (M:=σ1.M) (hl.va v2 (List.mem_cons_of_mem _ List.mem_cons_self)) E3;exact⟨j2.2,a2.2,by omega,by omega⟩
   obtain k|k|k|k|k:d.2.kd=27\/d.2.kd=28\/d.2.kd=29\/d.2.kd=30\/d.2.kd=31:=Ou
   ·rw[auS h1 k];exact aja ak.st aJ az k h0 h1 p aB key
   ·rw[auT h1 k];exact ajb ak.st aJ az k h0 h1 p aB key
   ·rw[auU h1 k];exact ami ak.st aJ az k h0 h1 p aB key
   ·rw[auV h1 k];exact amj ak.st aJ az k h0 h1 p aB key
   ·rw[auW h1 k];exact amk ak.st aJ az k h0 h1 p aB key
  by_cases ys:d.2.kd=32
  ·rw[auX h1 ys];exact aml ak.st aJ az ys h0 h1 p aB fun Y cw ec=>aBa ac cw ec (hd.one1 Ou) p aB (bq.v ag (hd.Xq Ou).1)
  by_cases yt:d.2.kd=33
  ·rw[auY h1 yt];exact ae4 ak.st aJ az yt h0 h1 p aB fun Y cw ec=>ao2 ac cw ec (hd.one1 Ou) p aB (bq.v ag (hd.Xq Ou).1) aI Ou
  by_cases o9:d.2.kd=34
  ·have cB:=(hd.Xq Ou).1;rw[auZ h1 o9];refine ae5 ak.st aJ az o9 h0 h1 p aB fun Y cw ec=>ao1 ac cw ec (hd.one1 Ou) p aB (bq.v ag cB) (fun k=>cB.one1 Ou) (fun k=>bq.v ag (cB.Xq Ou).1) aI ?_ Ou;intro k o σ1 aa;obtain⟨b5,ef,d7,_⟩:=aaw ah ag.q (d:=Oy (Oy d 0) 0) (cB.Xq Ou).1;rw[aa] at b5 ef d7;exact b5.sz (by have:=ef.st;dsimp only at this ⊢;omega) d7.le
  by_cases ux:d.2.kd=35
  ·rw[au0 h1 ux];exact ajc ak.st aJ az ux h0 h1 p aB fun Y cw ec=>Af ux Y a aB cw ec ag
  by_cases qG:d.2.kd=36
  ·rw[au1 h1 qG];refine ae6 ak.st aJ az qG h0 h1 p aB fun Y cw ec=>aoX ac cw ec (hd.one1 Ou) p aB (bq.v ag (hd.Xq Ou).1) (fun o σ1 aa=>?_) (N:=400000000) Ou;obtain⟨b5,ef,d7,_⟩:=aaw ah ag.q (d:=Oy d 0) (hd.Xq Ou).1;rw[aa] at b5 ef d7;exact b5.sz (by have:=ef.st;dsimp only at this ⊢;omega) d7.le
  by_cases uy:d.2.kd=37
  ·rw[au2 h1 uy];refine ae8 ak.st aJ az uy h0 h1 p aB fun Y cw ec=>?_;obtain⟨aW,aC,aA,aM,ae⟩:=cw;obtain⟨_,_,_,_,_,zV,_,_⟩:=(hd.lam uy).sh;refine(aoM ak.b ae aI ec (by rw[zV];rfl) Ou p aB ag.q.po.some).mono ?_
   rintro e w' ⟨rfl,VA,WI,sV,AF⟩;exact⟨rfl,⟨_,_,_,_,sV⟩,AF.frL ae⟩
  by_cases uA:d.2.kd=38
  ·obtain⟨b5,ef⟩:=hd.obj uA;rw[au3 h1 uA];refine ae7 ak.st aJ az uA h0 h1 p aB fun Y cw ec=>?_;have aw:=ag.q.iv.Pz (c:=0) Ou;refine amc ac cw aI Ou ec Ou (fun k E=>(b5 k E).2) p aB (fun bO=>QQ f (N - 9999+(bO.steps - σ.step.steps)) p bO/\σ.step.steps<=bO.steps) ⟨ag.nx (aw.up (by show _<=N - 9999+((σ.step.steps:Int) - σ.step.steps);omega)) (by have:=h.bd;show N - 9999+((σ.step.steps:Int) - σ.step.steps)<=99000000+10 * ((σ.steps+1:Nat):Int);omega),O6⟩ (fun k E bO nh=>⟨bq.v nh.1 (b5 k E).1,fun v σ1 aa=>?_⟩)
   obtain⟨av,e0⟩:=ah.v nh.1.q (b5 k E).1;rw[aa] at av e0
   dsimp only at e0
   have be:=av.iv.put av.va σ.step.M.objs.length k.2.tx false;have gc:=nh.2;have D:=h.bd;have es:(σ1.RG σ.step.M.objs.length k.2.tx v false).steps=σ1.steps:=rfl;have HZ:σ.step.steps=σ.steps+1:=rfl;refine⟨av.sz nh.1.bd,⟨(nh.1.next av).q.nx (be.up ?_),?_⟩,by rw[es];omega⟩
   all_goals
    rw[es];omega
  rw[akA h1 Ou];exact ag1 ak.st aJ az Ou h0 h1 p aB
 ·rw[akB h1];exact ai8 ak.st aJ az h0 Ou p aB
theorem EPost.x {n:Nat}{xs:Array OG}{r:Er × St}(hl:OV w L l)(h:OE n xs w (EPost w0 mb af O es w r)):OE n xs w (ZK w0 mb af O es L w ((r.1,l),r.2)):=by
 refine h.mono ?_;rintro e w' ⟨h1,U,aw⟩;exact⟨h1,U,aw.up,hl.keep aw⟩
theorem ajm {t:Tr}(h:Fg t):t.kids.length=2:=by
 obtain⟨_,_,_,_,_,rfl,_,_⟩:=h.sh;rfl
theorem Z.cq (h:Z f N p σ o (.XU v) l):Nx (N+2) σ ((σ.opn p.scope (-1) (own d)).dec σ.top d.2.tx 0 v)/\Q f (N+2) { p with scope:=σ.top } ((σ.opn p.scope (-1) (own d)).dec σ.top d.2.tx 0 v):=by
 have z:=Oq (∀{G}(h:G:=by
 exact⟨hK.up Ou,by rw[hK.st];exact ag.fu,by rw[hK.st];exact ag.st,hK.iv.up Ou,kv⟩),G);exact aCP
theorem apA (ah:FI F f)(h:Z f N p σ o e l)(h0:Nk 1 (Oy d 0).2)(dn:PE (Oy d 0).2=false):U7 F d p o e l σ=((o,e,l),σ)\/σ.steps<(U7 F d p o e l σ).2.steps:=by
 unfold U7
 split
 ·unfold XV
  cases e with
  | XU v=>
   obtain⟨h1,U⟩:=h.cq (d:=d);exact .inr (ah.s U h0 (fun e=>by rw[dn] at e;cases e) (h.la.up h1.ex)).2
  | _=>exact .inl rfl
 ·by_cases aq:e=.stop
  ·subst aq;exact .inl rfl
  ·right;have hw:=(ah.s (h.q aq) h0 (fun e=>by rw[dn] at e;cases e) h.la).2
   have z:=Oq (∀{G}(h:G:=by
   cases ay with
   | no=>
    simp only
    split <;> exact hw
   | _=>exact hw),G);exact aCQ
theorem axt (ak:Cx w0 mb af O es eb)(ah:FI F f)(bq:FC w0 mb af O es F f)(h:QQ (f+1) N p σ)(hd:Nk 1 d.2)(yb:Lg σ l)(dr:∀ b,L=some b->mb<=b):XG w0 mb af O es σ d p L l (stF F f d p l σ):=by
 intro X a aJ az hl;have ac:=ak.st.WT;have h0:=h.q.st
 by_cases h1:σ.steps<20000
 ·have ag:=h.step (show ¬ 20000<σ.steps+1 by omega);have aI:=ag.sz;have dZ:=ag.bd;have D:=h.bd;have eZ:Lg σ.step l:=yb;have HZ:σ.step.steps=σ.steps+1:=rfl
  cases hd.sk with
  | decl E cM eT=>
   by_cases ds:d.2.kd=2
   ·rw[aCR h1 ds]
    by_cases ce:d.2.kids.length=0
    ·rw[if_pos ce];exact YT ak.st aJ az ds h0 h1 p hl fun Y cw ec ir=>EPost.x ir (aeY cw ec ce p (LA L))
    ·rw[if_neg ce];have aS:(Oy d 0) ∈ P9 d:=aCS
     have av:=(ah.v ag.q (eT _ aS)).1;refine YT ak.st aJ az ds h0 h1 p hl fun Y cw ec ir=>EPost.x ir (adl ac cw ec Ou p (LA L) (bq.v ag (eT _ aS)) ak.b ak.st.et aI (fun v1 σ1 aa=>?_) Ou);rw[aa] at av;exact av.sz ag.bd
   ·have key:∀ Y,Ms w0 mb af O Y σ.step->OY O Y a d->OV Y L l->OE 109 #[Oo mb,Oo a.p,PU p (LA L)] Y (ZK w0 mb af O es L Y (((aci d p (Vl F (P9 d) p σ.step)).1,l),(aci d p (Vl F (P9 d) p σ.step)).2)):=fun Y cw ec ir=>by
     have av:=ajn ah ag.q eT;refine EPost.x ir (asE ac cw ec cM p (LA L) (fun fX E=>bq.v ag (eT fX E)) (fun v1 σ1 aa=>?_) (N:=400000000) Ou);rw[aa] at av;exact av.sz ag.bd
    rcases E with k|k|k
    ·exact absurd k ds
    ·rw[aCT h1 k];exact ado ak.st aJ az k h0 h1 p hl key
    ·rw[aCU h1 k];exact aa7 ak.st aJ az k h0 h1 p hl key
  | func E=>rw[ad3 h1 Ou];exact YU ak.st aJ az Ou h0 h1 p hl
  | empty E=>rw[ad3 h1 Ou];exact YU ak.st aJ az Ou h0 h1 p hl
  | blk E e4=>
   rw[aCV h1 E];obtain⟨dq,b2,em⟩:=ag.q.iv.block e4 ag.q.po;have eU:QQ f (N - 10000+5000) (Qg d p σ.step).1 (Qg d p σ.step).2:=⟨⟨by rw[dq.st];exact ag.q.fu,by rw[dq.st];exact ag.q.st,dq.iv,b2⟩,by rw[dq.st];omega⟩
   refine aa9 ak.st aJ az E h0 h1 p hl (fun Y cw ec=>?_) (fun Y u cw Bh ec ir=>?_) (p1:=(Qg d p σ.step).1) (σ1:=(Qg d p σ.step).2)
   ·obtain⟨aW,aC,aA,aM,ae⟩:=cw;refine(as3 ak.b ae aI ec e4.ct Ou (fun k E=>(ajm (Zc e4 k E))) p (LA L) ag.q.po.some).mono ?_;rintro e w' ⟨rfl,VA,WI,sV,AF⟩;exact⟨rfl,⟨_,_,_,_,sV⟩,AF.frL ae⟩
   ·refine ZL ac cw Bh ec ?_ _ ir (fun bO l'=>QQ f (N - 10000+5000) (Qg d p σ.step).1 bO/\Lg bO l'/\∀ k ∈ P9 d,PE k.2=true->K4 bO.M (Qg d p σ.step).1.scope k.2.tx) ⟨eU,eZ.up dq.ex,em⟩ (fun k E bO l' hP=>?_)
    ·have:=e4.ct;have:=Rf d.2;rw[Si];omega
    ·obtain⟨b5,ef,d7⟩:=hP;have gk:=e4.ks _ (Qq E);refine⟨bq.s b5 gk (d7 k E) ef dr,fun o b3 σ1 aa=>?_⟩;have hw:=(ah.s b5.q gk (d7 k E) ef).1;rw[aa] at hw;exact⟨b5.nexts hw,hw.la,fun k E am=>hw.ex.k4 _ _ (d7 k E am)⟩
  | sif E cM cB b5 bR ef=>
   rw[aCW h1 E];have av:=(ah.v ag.q cB).1;refine ae2 ak.st aJ az E h0 h1 p hl fun Y cw ec ir=>?_
   rcases cM with k|k
   ·refine ao8 ac cw ec k p ir (bq.v ag cB) fun v1 σ1 aa=>?_;rw[aa] at av;exact bq.s (ag.next av) b5 (fun e=>by rw[bR] at e;cases e) (eZ.up av.ex) dr
   ·obtain⟨d7,hD⟩:=ef k;refine apa ac cw ec k p ir (bq.v ag cB) fun v1 σ1 aa=>?_;rw[aa] at av;exact⟨bq.s (ag.next av) b5 (fun e=>by rw[bR] at e;cases e) (eZ.up av.ex) dr,bq.s (ag.next av) d7 (fun e=>by rw[hD] at e;cases e) (eZ.up av.ex) dr⟩
  | loop E cM cB b5 bR=>
   rcases E with E|E
   ·rw[aCX h1 E];refine aa6 ak.st aJ az E h0 h1 p hl fun Y cw ec ir=>?_;refine apd ac cw ec cM p ir f (fun k bO l'=>QQ f (N - 10000) p bO/\20001<bO.steps+k/\Lg bO l') ⟨ag,ag.q.fu,eZ⟩ (fun bO l' hP=>by have:=hP.1.q.st;have:=hP.2.1;omega) (fun k bO l' hP=>?_)
    obtain⟨bK,b',gr⟩:=hP;obtain⟨av,e0⟩:=ah.v bK.q cB;refine⟨bq.v bK cB,fun v σ1 aa _=>?_⟩;rw[aa] at av e0;have ni:=bK.next av;obtain⟨hw,da⟩:=ah.s ni.q b5 (fun e=>by rw[bR] at e;cases e) (gr.up av.ex)
    refine⟨bq.s ni b5 (fun e=>by rw[bR] at e;cases e) (gr.up av.ex) dr,fun o b3 cy hr2=>?_⟩
    rw[hr2] at hw da;exact⟨ni.nexts hw,by dsimp only at e0 da;omega,hw.la⟩
   ·rw[aCY h1 E];obtain⟨bK,b',gr,_⟩:=aaw ah ag.q (d:=Oy d 0) cB;refine acp ak.st aJ az E h0 h1 p hl fun Y cw ec ir=>awW ac cw ec cM p ir (bq.v ag cB) (fun o σ1 aa=>?_) (N:=400000000) Ou;rw[aa] at bK b' gr;have Kc:=b'.st
    dsimp only at Kc
    have dq:=bK.opn p.scope o (-2);have z:=Oq (∀{G}(h:G:=by
    have eU:QQ f (N - 10000+1) { p with scope:=σ1.top } (σ1.opn p.scope o (-2)):=⟨⟨by have:=ag.q.fu;show 20001<σ1.steps+f;omega,by rw[dq.st];exact gr,dq.iv,kv⟩,by rw[dq.st];dsimp only;omega⟩
    exact⟨bq.s eU b5 (fun e=>by rw[bR] at e;cases e) ((eZ.up b').up dq.ex) dr,bK.sz (by dsimp only;omega) gr.le,(ag.q.po.up b').some⟩),G);exact aCZ
  | give E cM eT=>
   rw[au4 h1 E];exact aav ak.st aJ az E h0 h1 p hl fun Y u cw ec Bh=>adY cw ec cM Bh p (LA L) (fun fX E=>bq.v ag (eT fX E))
  | one E cM cB=>
   rcases E with E|E
   ·rw[au5 h1 E];exact aa8 ak.st aJ az E h0 h1 p hl fun Y cw ec ir=>EPost.x ir (aeX ac cw ec cM p (LA L) (bq.v ag cB))
   ·rw[au6 h1 E];refine acr ak.st aJ az E h0 h1 p hl fun Y cw ec ir=>?_
    cases L with
    | none=>
     cases l with
     | none=>exact aa3 ac cw ec cM p (bq.v ag cB)
     | some v=>exact ir.elim
    | some b=>
     cases l with
     | none=>exact ir.elim
     | some v=>exact aa4 ac cw ec cM p ir (dr b rfl) (bq.v ag cB)
  | atm E cM cB dn eT=>
   rw[au7 h1 E];have hw:=(ah.s ag.q cB (fun e=>by rw[dn] at e;cases e) eZ).1
   obtain⟨m,aS⟩:∃ m,d.2.kids.length=m+1:=⟨d.2.kids.length - 1,by omega⟩;refine adn ak.st aJ az E h0 h1 p hl fun Y cw ec ir=>aBU ac cw ec aS Ou Ou p ir (bq.s ag cB (fun e=>by rw[dn] at e;cases e) eZ dr) (fun o e l σ=>∃ N':Int,Z f N' p σ o e l/\N'+2<=99000000+10 * σ.steps) (fun o e b3 σ1 aa=>?_) (fun k E o e l σ hP=>?_)
   ·rw[aa] at hw;have bI:=hw.ex.st
    dsimp only at bI
    exact⟨N - 10000,⟨by have:=ag.q.fu;omega,hw.iv,ag.q.po.up hw.ex,hw.er,hw.va,hw.la⟩,by omega⟩
   ·obtain⟨N',ip,IB⟩:=hP;obtain⟨j7,uC,gk,wZ⟩:=eT k E;refine⟨fun Y LB ev cw ec ir bv=>⟨fun _=>?_,fun _=>?_⟩,fun bH ay b3 σ1 aa=>?_⟩
    ·refine asL ak.st ak.b cw ec uC p o bv ir (N:=400000000) Ou fun x ae=>?_;subst ae;obtain⟨c1,c2⟩:=ip.cq (d:=k);have c3:=(ip.q O8).iv.opn p.scope (-1) (own k);have c4:=(ip.q O8).st;refine⟨ip.iv.sz Ou Ou,ip.po.some,c3.iv.sz (by rw[c3.st];omega) (by rw[c3.st];omega),bq.s ⟨c2,by rw[c1.st];omega⟩ gk (fun e=>by rw[wZ] at e;cases e) (ip.la.up c1.ex) dr⟩
    ·refine amd ak.st cw ec uC p o bv ir fun aq=>?_;exact bq.s ⟨ip.q aq,by omega⟩ gk (fun e=>by rw[wZ] at e;cases e) ip.la dr
    ·have hg:=apA ah ip gk wZ;have U:SO (N'+2) σ (U7 F k p o e l σ):=by
      unfold U7
      split
      ·exact apB ah ip gk wZ
      ·exact apC ah ip gk wZ
     rw[aa] at hg U
     rcases hg with hg|hg
     ·
      cases hg;exact⟨N',ip,IB⟩
     ·have bI:=U.ex.st
      dsimp only at bI hg
      exact⟨N'+2,⟨by have:=ip.fu;omega,U.iv,ip.po.up U.ex,U.er,U.va,U.la⟩,by omega⟩
 ·rw[akC h1];exact acn ak.st aJ az h0 Ou p hl
variable {bO:St}{cz:Pl}{u:OG}{c9:List Ad}{a6:List Nd}{vs:List Va}
theorem afg (ak:Cx w0 mb af O es eb)(ah:FI F f)(bq:FC w0 mb af O es F f)(h:QQ f N p σ)(eT:∀ k ∈ a6,Nk 1 k.2)(nf:∀ k ∈ a6,PE k.2=true->K4 σ.M p.scope k.2.tx)(yb:Lg σ l)(dr:∀ b,L=some b->mb<=b)(hlen:a6.length<=1000000)(aJ:Ms w0 mb af O w σ)(aa:TA 0 w u c9)(ft:Uo O w c9 a6)(hl:OV w L l) :
  OE 28 #[Oo mb,u,PU p (LA L)] w (P8 w0 mb af O es L w (Q8 F p a6 l σ)):=by
 refine ZL ak.st.WT aJ aa ft hlen p hl (fun bO l'=>QQ f N p bO/\Lg bO l'/\∀ k ∈ a6,PE k.2=true->K4 bO.M p.scope k.2.tx) ⟨h,yb,nf⟩ (fun k E bO l' hP=>?_);obtain⟨b5,ef,d7⟩:=hP;refine⟨bq.s b5 (eT k E) (d7 k E) ef dr,fun o b3 σ1 aa=>?_⟩;have hw:=(ah.s b5.q (eT k E) (d7 k E) ef).1;rw[aa] at hw;exact⟨b5.nexts hw,hw.la,fun k E am=>hw.ex.k4 _ _ (d7 k E am)⟩
theorem ajo (h:Bk d.2):(P9 d).length<=1000000:=by
 have:=h.ct;have:=Rf d.2;rw[Si];omega
theorem akD (h:Q f N p σ){fn:Fu}(hA:Fg fn.d.2)(hl:vs.length<=1500)(ax:∀ v ∈ vs,Gv σ.M.objs.length v)(aj:σ.calls≠40) :
  Nx (N+9000) { σ with calls:=σ.calls+1 } (Tt fn.d ⟨σ.top,σ.top,fn.strict⟩ vs (St.opn { σ with calls:=σ.calls+1 } fn.scope (-1) (own fn.d)))/\Bk (Oy fn.d 1).2 /\
  (∀ k ∈ P9 (Oy fn.d 1),PE k.2=true->K4 (Tt fn.d ⟨σ.top,σ.top,fn.strict⟩ vs (St.opn { σ with calls:=σ.calls+1 } fn.scope (-1) (own fn.d))).M σ.top k.2.tx) /\
  Q f (N+9000) ⟨σ.top,σ.top,fn.strict⟩ (Tt fn.d ⟨σ.top,σ.top,fn.strict⟩ vs (St.opn { σ with calls:=σ.calls+1 } fn.scope (-1) (own fn.d))):=by
 have h1:=h.call aj;have U:=h1.iv.opn fn.scope (-1) (own fn.d);have ha1:∀ v ∈ vs,Gv (St.opn { σ with calls:=σ.calls+1 } fn.scope (-1) (own fn.d)).M.objs.length v:=ax;have bR:=afh { σ with calls:=σ.calls+1 } fn.scope (own fn.d);have kv:Po ⟨σ.top,σ.top,fn.strict⟩ (St.opn { σ with calls:=σ.calls+1 } fn.scope (-1) (own fn.d)):=
  ⟨by show (0:Int)<=(σ.M.OI.length:Int);omega,by show (σ.M.OI.length:Int)<_;simp[St.opn,Mo.scope];omega⟩
 obtain⟨aw,hbk,E⟩:=U.iv.body (d:=fn.d) (p:=⟨σ.top,σ.top,fn.strict⟩) hA kv bR hl ha1;have io:=(U.trans aw).up (N':=N+9000) Ou;exact⟨io,hbk,E,by rw[io.st];exact h.fu,by rw[io.st];exact h.st,io.iv,kv.up aw.ex⟩
theorem amu (ak:Cx w0 mb af O es eb)(ah:FI F f)(bq:FC w0 mb af O es F f)(h:QQ f N p σ)(hN:N+9000<=99000000+10 * σ.steps){fn:Fu}(hA:Fg fn.d.2)(iZ:0<=fn.scope/\fn.scope<σ.M.OI.length)(hl:vs.length<=1500)(ax:∀ v ∈ vs,Gv σ.M.objs.length v)(aJ:Ms w0 mb af O w σ)(aa:Ux w u vs){c:Ad}(az:OY O w c fn.d) :
  OE 301 #[Oo mb,.agg #[Oo c.p,Ol fn.scope,OC fn.strict],u] w (O3 w0 mb af O es w (XF F fn vs σ)):=by
 obtain⟨aW,aC,aA,aM,ae⟩:=aJ;have hbk:Bk (Oy fn.d 1).2/\(Oy fn.d 0).2.kids.length<=8:=by
  obtain⟨kd,s,n,BP,b,m8,sP,D⟩:=hA.sh;have aK:(Oy fn.d 0).2=BP:=by rw[Xp,m8];rfl
  have ay:(Oy fn.d 1).2=b:=by rw[Xp,m8];rfl
  have aS:b ∈ fn.d.2.kids:=by rw[m8];exact List.mem_cons_of_mem _ List.mem_cons_self
  have mA:Nk 4 b:=⟨D,by have:=YF aS;have:=hA.ct;omega,(ZN hA.nb).1 b aS⟩
  rw[aK,ay];refine⟨mA.bk Ou,?_⟩
  cases sP with
  | ali _ hl=>exact hl
 refine asT ak.b ak.tb ae h.sz Ou h.q.iv.ca az (ajm hA) hA.ct hbk.2 (fun k E=>ajm (Zc hbk.1 k E)) (Po.some (p:=⟨fn.scope,0,false⟩) iZ) aa hl (g:=fun σ=>Q8 F ⟨σ.top,σ.top,fn.strict⟩ (P9 (Oy fn.d 1)) none (Tt fn.d ⟨σ.top,σ.top,fn.strict⟩ vs (σ.opn fn.scope (-1) (own fn.d)))) (fun aj=>?_) (fun aj X g8 bQ oL o2 qx=>?_)
 ·obtain⟨h1,_,aw,aL⟩:=akD h.q hA hl ax aj;have bE:=Ym ah (P9 (Oy fn.d 1)) (l:=none) aL (fun d hd=>hbk.1.ks _ (Qq hd)) aw (fun _ e=>by cases e);exact(h1.ex.trans bE.ex).ca
 ·obtain⟨h1,_,aw,aL⟩:=akD h.q hA hl ax aj;exact afg ak ah bq ⟨aL,by rw[h1.st];exact hN⟩ (fun d hd=>hbk.1.ks _ (Qq hd)) aw (fun _ e=>by cases e) (fun _ e=>by cases e) (ajo hbk.1) oL o2 qx trivial (L:=none)
theorem apD {s:OH}{st:Bool}{t:Tr}(h:evT s st=some t):Bk t:=by
 unfold evT at h
 split at h
 ·rename_i t' aa
  split at h
  ·rename_i E
   cases h;exact(WW aa E).bk Ou
  ·
   cases h
 ·
  cases h
theorem axu (h:Q f N p σ){t:Tr}(bc:Bk t)(ag:evQ (none,t) p σ=some (cz,bO)):Nx (N+9000) σ (OO (none,t) cz bO).2/\Q f (N+9000) (OO (none,t) cz bO).1 (OO (none,t) cz bO).2/\∀ k ∈ P9 (none,t),PE k.2=true->K4 (OO (none,t) cz bO).2.M (OO (none,t) cz bO).1.scope k.2.tx:=by
 have h1:Nx (N+1) σ bO/\Po cz bO:=by
  unfold evQ at ag
  split at ag
  ·
   cases ag
  ·simp only[Option.some.injEq] at ag
   split at ag
   ·
    cases ag;exact⟨h.iv.opn _ _ _,by show (0:Int)<=(σ.M.OI.length:Int);omega,by show (σ.M.OI.length:Int)<_;simp[St.opn,Mo.scope];omega⟩
   ·
    cases ag;exact⟨(Nx.refl h.iv).up Ou,h.po⟩
 obtain⟨h1,o0⟩:=h1;obtain⟨U,be,E⟩:=h1.iv.au8 (d:=(none,t)) bc o0;have hK:=(h1.trans U).up (N':=N+9000) Ou;exact⟨hK,⟨by rw[hK.st];exact h.fu,by rw[hK.st];exact h.st,hK.iv,be⟩,E⟩
theorem axv (ah:FI F f)(h:Q f N p σ)(s:OH):VO (N+9000) σ (evB F s p σ):=by
 unfold evB
 split
 ·rename_i t bc
  exact ad4 ah h (apD bc)
 ·exact .bad ((Nx.refl h.iv).up Ou) h.st smS
section
variable (ak:Cx w0 mb af O es eb) (ah:FI F f) (bq:FC w0 mb af O es F f) (h:QQ f N p σ) (hN:N+9000<=99000000+10 * σ.steps)
include ak ah bq h hN
theorem apE (aJ:Ms w0 mb af O w σ)(aa:Ux w u vs){c:Ad}(az:OY O w c d)(aB:Option Addr) :
  OE 300 #[Oo mb,Oo c.p,PU p aB,u] w (O3 w0 mb af O es w (Yi F d.2 p vs σ)):=by
 obtain⟨aW,aC,aA,aM,ae⟩:=aJ
 cases vs with
 | nil=>exact ams ae p aB aa
 | cons v vs=>
  rw[apy]
  by_cases E:v.k≠4
  ·rw[if_pos E];exact ajk ae p aB aa E
  rw[if_neg E];have E:v.k=4:=Ou
  have key:∀ q:Pl,Po q σ->(σ.calls≠40->(evB F v.s q { σ with calls:=σ.calls+1 }).2.calls=σ.calls+1)/\(σ.calls≠40->∀ t,evT v.s q.strict=some t->∀ (a:Ad) cz bO,evQ (none,t) q { σ with calls:=σ.calls+1 }=some (cz,bO)->∀ X u (lb:Nat),mb<=lb->Ms w0 mb af O X (OO (none,t) cz bO).2->TA 0 X u a.ks->Uo O X a.ks (P9 (none,t))->OV X (some lb) (some vU)->OE 28 #[Oo mb,u,PU (OO (none,t) cz bO).1 (LA (some lb))] X (P8 w0 mb af O es (some lb) X (Q8 F (OO (none,t) cz bO).1 (P9 (none,t)) (some vU) (OO (none,t) cz bO).2))):=fun q ag=>by
   have ni:σ.calls≠40->Q f N q { σ with calls:=σ.calls+1 }:=fun aj=>⟨h.q.fu,h.q.st,(h.q.call aj).iv,ag⟩;refine⟨fun aj=>(axv ah (ni aj) v.s).ex.ca,fun aj t bc a cz bO aq X u lb h9 oL o2 qx Jd=>?_⟩;have D:=apD bc;obtain⟨h1,U,aw⟩:=axu (ni aj) D aq;exact afg ak ah bq ⟨U,by rw[h1.st];exact hN⟩ (fun d hd=>D.ks _ (Qq hd)) aw (fun _ e=>by cases e;exact VD _) (fun b e=>by cases e;exact h9) (ajo (d:=(none,t)) D) oL o2 qx Jd
  have o0:Po ⟨1,0,false⟩ σ:=⟨by show (0:Int)<=1;omega,by show (1:Int)<_;have:=h.q.iv.lr;omega⟩
  by_cases n8:d.2.kd=23
  ·by_cases yu:d.2.tx=Vx
   ·have ay:evP d.2 p=p:=if_neg (by simp[n8,yu]);rw[ay];exact ahf ak.st.WT ak.b ak.gl ae h.sz Ou h.q.iv.ca az n8 yu p aB h.q.po h.q.iv.lr aa E (key p h.q.po).1 (key p h.q.po).2
   ·have ay:evP d.2 p=⟨1,0,false⟩:=if_pos (.inr yu);rw[ay];exact as2 ak.st.WT ak.b ak.gl ae h.sz Ou h.q.iv.ca az n8 yu p aB h.q.po h.q.iv.lr aa E (key _ o0).1 (key _ o0).2
  ·have ay:evP d.2 p=⟨1,0,false⟩:=if_pos (.inl n8);rw[ay];exact as1 ak.st.WT ak.b ak.gl ae h.sz Ou h.q.iv.ca az n8 p aB h.q.po h.q.iv.lr aa E (key _ o0).1 (key _ o0).2
theorem apF (hd:Nk 0 d.2)(E:d.2.kd=35)(aJ:Ms w0 mb af O w σ){a:Ad}(az:OY O w a d)(aB:Option Addr) :
  OE 263 #[Oo mb,Oo a.p,PU p aB] w (O3 w0 mb af O es w (ZF F d p σ)):=by
 obtain⟨eT,cM⟩:=hd.au9 E;have AV:∀ x ∈ P9 d,Nk 0 x.2:=fun x ae=>eT _ (Qq ae);have h1:=acz ah (P9 d) [] h.q AV (fun _ h=>by cases h);have key:∀ aM args σ1,Vk F p (P9 d) [] σ=((aM::args,.no),σ1)->QQ f N p σ1/\N+9000<=99000000+10 * σ1.steps/\Gv σ1.M.objs.length aM/\(∀ v ∈ args,Gv σ1.M.objs.length v)/\args.length<=9:=fun aM args σ1 aa=>by
  rw[aa] at h1;have bI:=h1.ex.st;have kq:=h1.ln;have:=Si d;have:=h.bd
  dsimp only at bI kq
  refine⟨⟨⟨by have:=h.q.fu;omega,h1.er,h1.iv,h.q.po.up h1.ex⟩,by omega⟩,by omega,h1.va aM List.mem_cons_self,fun v av=>h1.va v (List.mem_cons_of_mem _ av),?_⟩
  simp at kq;omega
 refine axq ak.st.WT aJ az ?_ cM p aB (fun X u oL o2 qx=>?_) (fun aM args σ1 aa pM aj X u oL o2=>?_) (fun aM args σ1 aa pM aj X u c oL o2 qx=>?_) (fun aM args σ1 aa pM c0 c1 c2=>?_)
 ·have wC:=hd.sh
  cases m8:d.2 with
  | mk kd s n ks=>
   rw[m8] at wC E
   cases wC with
   | call _ _ _=>simp[Tr.kids]
   | lit h1=>simp only[Tr.kd] at E;omega
   | one h1=>simp only[Tr.kd] at E;omega
   | two h1=>simp only[Tr.kd] at E;omega
   | _=>cases E
 ·refine agS ak.st.WT oL o2 qx (by rw[Si];omega) p aB (fun bO=>QQ f N p bO) h (fun oF sK bO nh=>⟨bq.v nh (AV oF sK),fun v σ1 aa=>?_⟩)
  have av:=(ah.v nh.q (AV oF sK)).1;rw[aa] at av;exact nh.next av
 ·obtain⟨b5,ef,d7,m4,xK⟩:=key _ _ _ aa;have aI:=b5.sz;refine asR ak.b ak.tb oL o2 Ou (fun v av=>?_) (by have:=aI.lg;omega)
  have:=aff (M:=σ1.M) (m4 v av) aI.go.sm.o;exact⟨⟨by omega,by omega⟩,this.1⟩
 ·obtain⟨b5,ef,d7,m4,xK⟩:=key _ _ _ aa;exact apE ak ah bq b5 ef oL o2 qx aB
 ·obtain⟨b5,ef,d7,m4,xK⟩:=key _ _ _ aa;have aI:=b5.sz;have pJ:0<=σ1.M.codeOf aM.n/\σ1.M.codeOf aM.n<3+σ1.Rq.length:=by
   unfold Mo.codeOf
   rcases Rn σ1.M aM.n with ⟨aK,_⟩|⟨i,x,_,ay,bz⟩
   ·rw[aK];exact⟨by decide,by show (0:Int)<_;omega⟩
   ·rw[bz];exact b5.q.iv.gm.co x (List.mem_of_getElem? ay)
  have fI:=aI.fn;obtain⟨fn,hA⟩:∃ fn,σ1.Rq[(σ1.M.codeOf aM.n - 3).toNat]? = some fn:=⟨_,List.getElem?_eq_getElem Ou⟩;have Dg:=b5.q.iv.fn fn (List.mem_of_getElem? hA);exact⟨fn,by omega,by omega,hA,fun X u c oL o2 qx=>amu ak ah bq b5 ef Dg.1 Dg.2 Ou m4 oL o2 qx⟩
end
theorem afi (ak:Cx w0 mb af O es eb):∀ f,FC w0 mb af O es (fx f) f
 | 0=>⟨fun h _=>by have:=h.q.fu;have:=h.q.st;omega,fun h _ _ _ _=>by have:=h.q.fu;have:=h.q.st;omega⟩
 | f+1=>⟨fun h hd=>axr ak (ZO f) (afi ak f) h hd (fun E _ _ aB cw ec ag=>apF ak (ZO f) (afi ak f) ag (by have:=h.bd;have:=ag.q.fu;show _ - 10000+9000<=99000000+10 * ((_+1:Nat):Int);omega) hd E cw ec aB),fun h hd _ hl dr=>axt ak (ZO f) (afi ak f) h hd hl dr⟩
theorem axw {a:Ad}{d:Nd}(hd:OY O w a d)(E:d.2.kd=1) :
  OE 29 #[Oo a.p] w fun e w'=>w'=w/\∃ u,e=OQ u/\TA 0 w u a.ks:=by
 obtain⟨cV,dP,c3,aa⟩:=hd.ar;obtain⟨nn,c0,_⟩:=hd.cells;rw[E] at c0;obtain⟨q,ag⟩:=xE a.p;rw[<-ag] at c3 c0 nn ⊢;obtain⟨n,az⟩:=xE d.2.kids.length;rw[<-az] at c3 aa;clear ag az;go_enter func29,ntmps29;go_wp2_with fail;exact UU (v:=.slice cV n dP) ⟨rfl,_,rfl,aa⟩
end
section
variable {w0:Ov} {mb af:Nat} {O:List Nat} {es aW aC aA aM:OG} {w w':Ov} {σ:St} {N:Nat}
theorem apG (ae:Mx w0 mb af O aW aC aA aM w σ)(aI:Sz N σ)(hN:N+1<1000000000)(nm:OH)(c:Int) :
  OE 52 #[Oo mb,OB nm,Ol c] w fun e w'=>e=OQ (.tuple #[])/\Mx w0 mb af O aW aC aA aM w' (({ σ with M:=σ.M.Pz c }:St).RG 0 nm (Um σ.M.objs.length) false)/\Py Th mb w w':=by
 have bG:=ae.lt;have hd:=(Below.refl w.heap.size w).drew;have g7:=ae.later hd;have c':w.drew.cell? (Ot mb 11)=some (Ol 0):=(g7.hh.at_ 9 _ rfl).1;have pK:Py Th mb w w.drew:=Py.of hd (O0 bG);have b9:Sz (N+1) ({ σ with M:=σ.M.Pz c }:St):=aI.heap (Nat.le_succ _) (aI.go.Pz c) rfl;have dB:=(aaq g7 aI Ou c)
 have pt:Hid (∀ X,Mx w0 mb af O aW aC aA aM X { σ with M:=σ.M.Pz c }->OE 56 #[Oo mb,Ol 0,OB nm,vA (Um σ.M.objs.length),OC false] X fun e w'=>e=OQ (Ur (({ σ with M:=σ.M.Pz c }:St).M.put 0 nm (Um σ.M.objs.length) false).1)/\Mx w0 mb af O aW aC aA aM w' (({ σ with M:=σ.M.Pz c }:St).RG 0 nm (Um σ.M.objs.length) false)/\Py Th mb X w'):=fun X h=>YS h b9 hN 0 nm (Um σ.M.objs.length) false
 generalize Ur (({ σ with M:=σ.M.Pz c }:St).M.put 0 nm (Um σ.M.objs.length) false).1=ev at pt
 generalize (({ σ with M:=σ.M.Pz c }:St).RG 0 nm (Um σ.M.objs.length) false)=cy at pt ⊢
 generalize ({ σ with M:=σ.M.Pz c }:St)=σ1 at dB pt
 obtain⟨o,aR⟩:=xE (σ.M.objs.length:Int);rw[<-aR] at dB pt;clear hN aR;go_enter func52,ntmps52;have ab:OD w w.drew:=QX.drew;refine QE 14 (fun X=>X.cell? (Ot mb 11)=some (Ol 0)) PK ?_;refine up 0 mb 0 c' ?_;refine up 1 mb 0 c' ?_;refine up 2 mb 0 c' ?_;refine up 3 mb 0 c' ?_;refine up 4 mb 0 c' ?_;refine up 5 mb 11 c' ?_;refine uc 6 (Ol 0) rfl (Or.inl ⟨by kernel_rfl,fun X ak=>by have h0:=ak;go_simp⟩) (c') ?_
 refine uh 7 (OB nm) (c') ?_;refine up 8 mb 0 c' ?_;refine up 9 mb 0 c' ?_;refine up 10 mb 0 c' ?_;refine uh 11 (Ol c) (c') ?_;refine P5 12 fun K A=>?_;go_simp;refine cm dB ?_;rintro e b1 ⟨rfl,j6,bi⟩;have qn:b1.cell? (Ot mb 11)=some (Ol 0):=(j6.hh.at_ 9 _ rfl).1;refine A.out _ _ (fun _=>qn) ?_;clear A K;have mU:=(pK.trans bi);refine P5 13 fun K A=>?_;go_simp;refine cm (ZG o b1) ?_;rintro e jU ⟨rfl,j4⟩;have pS:=j6.later j4;have DC:jU.cell? (Ot mb 11)=some (Ol 0):=(pS.hh.at_ 9 _ rfl).1
 refine A.out _ _ (fun _=>DC) ?_;clear A K;have rX:=(mU.trans (Py.of j4 (O0 j6.lt)));refine P5 14 fun K A=>?_;go_simp;refine cm (Om pt _ pS) ?_;rintro e Fk ⟨rfl,BB,D5⟩;refine ko A ?_;clear A K;have FZ:=(rX.trans D5);clear c' qn DC;refine Sl ?_ _;go_simp;go_wp2
 go_end0
 exact⟨rfl,BB,FZ⟩
variable {eb:Addr}
def aC0 (w0:Ov)(mb af:Nat)(O:List Nat)(aW aC aA aM:OG)(w:Ov)(σ:St)(c:Int)(e:Ending)(w':Ov):Prop:=
 e=OQ (.tuple #[])/\∃ X,Mx w0 mb af O aW aC aA aM X σ/\OD w X/\w'=X.setCell (Ot mb 3) (Ol c)
theorem axx (ae:Mx w0 mb af O aW aC aA aM w σ):OE 31 #[Oo mb,Qp] w (aC0 w0 mb af O aW aC aA aM w σ 1):=by
 have z:=Oq (∀{G}(h:G:=by
 obtain⟨tb,lp⟩:=xE w.heap.size;have el:=(ae.later aF);have kE:=(anm tb w2 123);go_enter func31,ntmps31;go_wp2_with fail;rw[<-bu.out,<-lp];clear lp;refine cm kE ?_;rintro e wz ⟨rfl,rfl⟩;have bG:=el.lt;obtain⟨c3,fU⟩:=el.hh.at_ 1 _ rfl;go_wp2
 go_end0
 exact⟨rfl,_,el,aF,rfl⟩),G);exact axy
theorem apH (bI:Stp w0 mb es eb)(ae:Mx w0 mb af O aW aC aA aM w σ):OE 31 #[Oo mb,es] w (aC0 w0 mb af O aW aC aA aM w σ 3):=by
 have z:=Oq (∀{G}(h:G:=by
 obtain⟨tb,lp⟩:=xE w.heap.size;have eV:w2.heap[tb]? = some (O1 #[Ri] 122):=by rw[bu.out,lp];exact OA _ _
 have eJ:=ae.later aF;obtain⟨t0,tf,n'⟩:=aau eV;have km:=bI.ety ⟨_,_,_,_,eJ⟩;have kE:=(afX eb tb w2 t0 (tf 0) n' km);rw[bI.is];clear eV t0 tf n' km;go_enter func31,ntmps31;go_wp2_with fail;rw[<-bu.out,<-lp];clear lp;refine cm kE ?_;rintro e wz ⟨rfl,iL⟩;have oz:=(eJ.later iL);have yS:=(aF.trans (iL.mono (by have:=aF.size;omega)))
 have bG:=oz.lt;obtain⟨c3,fU⟩:=oz.hh.at_ 1 _ rfl;go_wp2
 go_end0
 exact⟨rfl,_,oz,yS,rfl⟩),G);exact axy
theorem as4 (a8:Bs w0 mb af O es)(bc:Y8 w0)(bI:Stp w0 mb es eb)(ae:Mx w0 mb af O aW aC aA aM w σ){v:Va}{lC:Nat}(EX:w.heap[lC]? = some (O1 #[Ol v.k,Ol v.n,OB v.s] 126))(az:-9223372036854775808<=v.n/\v.n<=9223372036854775807) :
  OE 31 #[Oo mb,.iface 122 (OM lC 0)] w fun e w'=>e=OQ (.tuple #[])/\∃ X,Mx w0 mb af O aW aC aA aM X σ/\OD w X/\w'=(X.setCell (Ot mb 3) (Ol 2)).setCell (Ot mb 4) (OB (σ.M.shw v)):=by
 have z:=Oq (∀{G}(h:G:=by
 obtain⟨tb,tC⟩:=xH w.heap.size;have eV:w2.heap[tb]? = some (O1 #[Ri] 122):=by rw[bu.out,tC.out];exact OA _ _
 have eJ:=ae.later aF;have vu:=hide EX;obtain⟨t0,tf,n'⟩:=aau eV;have km:=bI.ety ⟨_,_,_,_,eJ⟩;have kE:=(aj9 lC tb w2 eV t0 (tf 0) n' km);have CN:Hid (∀ X,Mx w0 mb af O aW aC aA aM X σ->OE 61 #[Oo mb,vA v] X fun e w'=>e=OQ (OB (σ.M.shw v))/\OD X w'):=fun X h=>aeW a8 bc ⟨_,_,_,_,h⟩ v az;obtain⟨sh,wC⟩:=xE (σ.M.shw v);rw[<-wC] at CN ⊢;clear eV t0 tf n' km bc az EX wC;obtain⟨ey,dL,eK⟩:=v;go_enter func31,ntmps31;go_wp2_with fail;rw[<-bu.out,<-tC.out];refine cm kE ?_;rintro e wz ⟨rfl,wH,iL⟩
 have pD:OD w wz:=aF.trans (iL.mono (Nat.le_of_eq tC.out.symm));have oz:=(ae.later pD);have Hn:=hide (cells3 (stays pD vu.out));have qe:=hide (aau wH);have bG:=oz.lt;clear wH;go_wp2_with fail;refine TI 13 fun ab=>?_;have z:=Oq (∀{G}(h:G:=by
 refine up 3 mb 0 ab ?_;refine up 4 mb 0 ab ?_;refine uk 5 (qe.out.1) ab ?_;refine up 6 lC 0 ab ?_;refine up 7 lC 0 ab ?_;refine uk3 8 Hn.out ab ?_;refine P5 9 fun K A=>?_;go_simp;refine cm (Om CN _ (oz.later ab)) ?_;rintro e b1 ⟨rfl,d8⟩;have qn:OD wz b1:=ab.trans (d8.mono ab.size);refine A.out _ _ (fun _=>qn) ?_;clear A K;have mh:=(oz.later qn);have A2:=mh.lt;have nw:=(pD.trans (qn.mono pD.size));obtain⟨c3,fU⟩:=mh.hh.at_ 1 _ rfl;obtain⟨c4,H1⟩:=mh.hh.at_ 2 _ rfl;refine up 10 mb 0 qn ?_;refine up 11 mb 2 qn ?_
 refine up 12 mb 3 qn ?_;refine P5 13 fun K A=>?_;go_simp;refine ko A ?_;clear A K;refine uz 14 (OM mb 0) ?_;refine uz 15 (OM mb 2) ?_;refine uz 16 (OM mb 4) ?_;refine P5 17 fun K A=>?_;go_simp;refine ko A ?_;clear A K;refine Sl ?_ _;go_simp;clear c3 c4 fU H1;go_wp2
 go_end0
 exact⟨rfl,_,mh,nw,rfl⟩),G);exact Un),G);exact axy
abbrev mRt (t:Int)(σ:St)(aW aC aA aM:OG)(af:Nat):List OG:=(mR σ aW aC aA aM af).set 11 (Ol t)
structure My (t:Int)(w0:Ov)(mb af:Nat)(O:List Nat)(aW aC aA aM:OG)(w:Ov)(σ:St):Prop where
 bw:Below mb w0 w
 hh:PS mb (mRt t σ aW aC aA aM af) w σ.M
 lg:w.ownsRow mb 9 1 aW σ.log.length (σ.log.map Value.string)
 se:w.ownsRow mb 54 2 aC σ.seen.length (σ.seen.flatMap sn2)
 ow:w.ownsRow mb 3 1 aA σ.QF.length (σ.QF.map (Value.int .i64))
 fu:∃ d6:List Ad,d6.length=σ.Rq.length/\w.ownsRow mb 211 3 aM σ.Rq.length ((d6.zip σ.Rq).flatMap fn3)/\∀ (i:Nat) a f,d6[i]? = some a->σ.Rq[i]? = some f->OY O w a f.d
variable {t:Int}
section
variable (h:My t w0 mb af O aW aC aA aM w σ)
include h
theorem My.lt:mb<w.heap.size:=h.hh.lt
theorem My.later (D:OD w w'):My t w0 mb af O aW aC aA aM w' σ:=aB1
theorem My.heap {M:Mo}(hh:PS mb (mRt t σ aW aC aA aM af) w' M)(aH:Py Th mb w w'):My t w0 mb af O aW aC aA aM w' { σ with M:=M }:=aB2
end
theorem as5 (a8:Bs w0 mb af O es)(ae:My t w0 mb af O aW aC aA aM w σ){a:Ad}{d:Nd}(hd:OY O w a d) :
  OE 51 #[Oo mb,Oo a.p] w fun e w'=>e=OQ (Ol (own d))/\w'=w:=by
 have hl:=afe a8 ae.bw hd;obtain⟨xG,z7⟩:=ae.hh.at_ 5 _ rfl;have bG:=ae.lt;obtain⟨p,al⟩:=xE a.p;rw[<-al] at hl ⊢;obtain⟨no,tr⟩:=d;clear al
 cases no with
 | none=>
  have ay:own (none,tr) = -3:=rfl;exact aCB
 | some k=>
  have ay:own (some k,tr)=(k:Int):=rfl;exact aCC
theorem My.akl (h:My t w0 mb af O aW aC aA aM w σ)(x:Int){ap:Ov}{VA:OG}(hg:w.grownBy ap aA.ownBlock)(aR:ap.ownsRow mb 3 1 VA (σ.QF.length+1) (σ.QF.map (Value.int .i64)++[Ol x]))
  (ag:∀ q,VA.ownBlock=some q->aA.ownBlock=some q\/w.heap.size<=q) :
  My t w0 mb af O aW aC VA aM (ap.setCell (Ot mb 8) VA) { σ with QF:=σ.QF++[x] }/\Q9 mb aA aM VA aM w (ap.setCell (Ot mb 8) VA):=aCD
theorem apI (ae:My t w0 mb af O aW aC aA aM w σ)(u o x:Int)(hl:σ.QF.length<=1000000000)
  (iZ:∀ X R,PS mb R X σ.M->OE 105 #[Oo mb,Ol u,Ol o] X fun e w'=>e=OQ (Ol (σ.M.OI.length:Int))/\PS mb R w' (σ.M.scope u o)/\Py Th mb X w') :
  OE 50 #[Oo mb,Ol u,Ol o,Ol x] w fun e w'=>e=OQ (Ol σ.top)/\∃ VA,My t w0 mb af O aW aC VA aM w' (σ.opn u o x)/\Q9 mb aA aM VA aM w w':=by
 have z:=Oq (∀{G}(h:G:=by
 show OE 50 #[Oo mb,Ol u,Ol o,Ol x] w fun e w'=>e=OQ (Ol (σ.M.OI.length:Int))/\∃ VA,My t w0 mb af O aW aC VA aM w' (σ.opn u o x)/\Q9 mb (.slice aB n iS) aM VA aM w w'
 exact aCE),G);exact aCF
theorem My.made (h:My t w0 mb af O aW aC aA aM w σ):Mx w0 mb af O aW aC aA aM (w.setCell (Ot mb 13) (Ol 1)) σ/\Py [84] mb w (w.setCell (Ot mb 13) (Ol 1)):=by
 obtain⟨h1,f⟩:=h.hh.cell 11 (Ol 1);obtain⟨d6,bQ,ds,iA⟩:=h.fu;exact⟨⟨h.bw.trans f.below,h1,OW h.lg f Oz,OW h.se f Oz,OW h.ow f Oz,d6,bQ,OW ds f Oz,fun i a g ax hg=>(iA i a g ax hg).kp (fun b c e D aq=>f.rest b c e D (by rcases aq with rfl|rfl <;> decide))⟩,f⟩
def bare:St:=⟨⟨[],[]⟩,[],0,[],[],[],0⟩
theorem apK (hw:Below mb w0 w)(D:w.heap[mb]? = some (O1 #[QD,QD,QD,Ol 0,PN,Ol 0,QD,.map (some af),QD,QD,Ol 0,Ol 0,Ol 0,Ol 0] 84)) :
  My 0 w0 mb af O QD QD QD QD w bare:=
 ⟨hw,⟨_,_,_,_,D,Tb.nil Oz,Tb.nil Oz⟩,World.ownsRow_nil _ _ _ _,World.ownsRow_nil _ _ _ _,World.ownsRow_nil _ _ _ _,[],rfl,World.ownsRow_nil _ _ _ _,fun i a f h=>by simp at h⟩
theorem My.zero (h:My t w0 mb af O aW aC aA aM w σ):My t w0 mb af O aW aC aA aM (w.setCell (Ot mb 11) (Ol 0)) σ/\My t w0 mb af O aW aC aA aM (w.setCell (Ot mb 12) (Ol 0)) σ:=by
 obtain⟨d6,bQ,ds,iA⟩:=h.fu;obtain⟨h1,f⟩:=h.hh.cell 9 (Ol 0);obtain⟨U,g⟩:=h.hh.cell 10 (Ol 0);exact⟨⟨h.bw.trans f.below,h1,OW h.lg f Oz,OW h.se f Oz,OW h.ow f Oz,d6,bQ,OW ds f Oz,fun i a q ax ag=>(iA i a q ax ag).kp (fun b c e D aq=>f.rest b c e D (by rcases aq with rfl|rfl <;> decide))⟩,
  ⟨h.bw.trans g.below,U,OW h.lg g Oz,OW h.se g Oz,OW h.ow g Oz,d6,bQ,OW ds g Oz,fun i a q ax ag=>(iA i a q ax ag).kp (fun b c e D aq=>g.rest b c e D (by rcases aq with rfl|rfl <;> decide))⟩⟩
mutual
theorem RV.cls {I:Nat->Prop}{w:Ov}:∀ a:Ad,RV I w a->∀ q ∈ a.Vb,Cl w q
 | .mk p kd tx n ks,h,q,ag=>by
  rw[RV] at h;obtain⟨_,_,⟨v,D,_⟩,E⟩:=h;rw[Ad.Vb] at ag
  rcases List.mem_cons.1 ag with rfl|ag
  ·exact⟨_,_,D⟩
  ·exact Q5.cls ks E q ag
theorem Q5.cls {I:Nat->Prop}{w:Ov}:∀ es:List Ad,Q5 I w es->∀ q ∈ Ad.TQ es,Cl w q
 | [],_,q,ag=>by rw[Ad.TQ] at ag;cases ag
 | a::es,h,q,ag=>by
  rw[Q5] at h;rw[Ad.TQ] at ag
  rcases List.mem_append.1 ag with ag|ag
  ·exact RV.cls a h.1 q ag
  ·exact Q5.cls es h.2 q ag
end
variable {a:Ad}
theorem akE (h:RV (fun _=>True) w a):OY a.Vb w a (some 0,a.tr):=⟨h,rfl,[],[],by simp,rfl⟩
theorem axA (h:RV (fun _=>True) w a)(hd:a.Vb.Nodup)(aq:w.cell? (Ot 1 0)=some es)(D:OD w w')(aS:w'.heap[af]? = some (.map (Xn (WC a.Vb)) a.Vb.length)):Bs w' w'.heap.size af a.Vb es/\OY a.Vb w' a (some 0,a.tr):=
 ⟨⟨rfl,aS,fun q ag=>by
  obtain⟨cs,t,aj⟩:=RV.cls a h q ag;exact⟨cs,t,stays D aj⟩,hd,O4 D aq⟩,(akE h).kp (Kp.of D)⟩
def st1:St:={ bare with M:=bare.M.Pz 0 }
def st2:St:=st1.opn (-1) 0 (-1)
def st3:St:=st2.opn 0 (-1) 0
def st4:St:=({ st3 with M:=st3.M.Pz 1 }:St).RG 0 SL (Um st3.M.objs.length) false
theorem Kp.of' {w0 w:Ov}{mb af:Nat}{O:List Nat}{es:OG}(a8:Bs w0 mb af O es)(h:Below mb w0 w):Kp w0 w:=Kp.of (h.mono (Nat.le_of_eq a8.sz))
theorem acA:bare.M.Small 9/\st1.M.Small 9/\st2.M.Small 9:=by
 refine⟨⟨by decide,by decide,by decide,by decide⟩,⟨by decide,by decide,by decide,by decide⟩,⟨by decide,by decide,by decide,by decide⟩⟩
theorem afj (h:RV (fun _=>True) w a)(hd:a.Vb.Nodup)(aj:a.cnt<=90000)(aq:w.cell? (Ot 1 0)=some es)
  (db:∀ w1 mb af aW aC aA aM X,Mx w1 mb af a.Vb aW aC aA aM X st3->OE 52 #[Oo mb,OB SL,Ol 1] X fun e w'=>e=OQ (.tuple #[])/\Mx w1 mb af a.Vb aW aC aA aM w' st4/\Py Th mb X w')
  (na:∀ w1 mb af aW aC aA aM X,Mx w1 mb af a.Vb aW aC aA aM X st4->OE 52 #[Oo mb,OB Vx,Ol 2] X fun e w'=>e=OQ (.tuple #[])/\Mx w1 mb af a.Vb aW aC aA aM w' QA/\Py Th mb X w') :
  OE 27 #[Oo a.p] w fun e w'=>∃ w1 mb af aA,e=OQ (Oo mb)/\OD w w1/\Bs w1 mb af a.Vb es/\Mx w1 mb af a.Vb QD QD aA QD w' QA:=by
 have dB:=(ajq a w h hd aj);have yR:Hid (∀ w' af,OD w w'->w'.heap[af]? = some (.map (Xn (WC a.Vb)) a.Vb.length)->Bs w' w'.heap.size af a.Vb es/\OY a.Vb w' a (some 0,a.tr)):=fun _ _ D aS=>axA h hd aq D aS;have nA:=hide db;have y':=hide na;obtain⟨q,bm⟩:=xH a.p;rw[<-bm.out] at dB ⊢;clear h hd aj aq db na;go_enter func27,ntmps27;go_wp2_with fail;refine cm dB ?_;rintro e w1 ⟨⟨af,rfl,_,aS⟩,D⟩;obtain⟨a8,az⟩:=Om yR w1 af D aS
 obtain⟨w2,bu⟩:=xH (w1.alloc (.cells #[QD,QD,QD,Ol 0,PN,Ol 0,QD,.map (some af),QD,QD,Ol 0,Ol 0,Ol 0,Ol 0] 84));obtain⟨mb,rt⟩:=xE w1.heap.size;rw[<-rt] at a8;have E0:My 0 w1 mb af a.Vb QD QD QD QD w2 bare:=apK (by rw[bu.out,rt];exact PO) (by rw[bu.out,rt];exact OA _ _)
 have dw:OE 49 #[Oo mb,Ol 0] w2 fun e w'=>e=OQ (Ol 0)/\My 0 w1 mb af a.Vb QD QD QD QD w' st1/\Py Th mb w2 w':=(ZE E0.hh acA.1 Oz 0).mono (by
  rintro e w' ⟨rfl,h1,U⟩;exact⟨rfl,E0.heap h1 U,U⟩)
 clear aS;go_wp2_with fail;rw[<-bu.out,<-rt];clear rt;refine cm dw ?_;rintro e ap ⟨rfl,BC,cS⟩;have fD:=BC.lt;obtain⟨C8,H0⟩:=BC.hh.at_ 9 _ rfl;obtain⟨bA,m1⟩:=xH (ap.setCell (Ot mb 11) (Ol 0));have yl:=BC.zero.1;rw[<-m1.out] at yl;have gp:=yl.lt;have HR:=(yl.hh.at_ 9 _ rfl).1;have ck:OE 50 #[Oo mb,Ol (-1),Ol 0,Ol (-1)] bA fun e w'=>e=OQ (Ol 0)/\∃ VA,My 0 w1 mb af a.Vb QD QD VA QD w' st2:=(apI yl (-1) 0 (-1) Oz fun X R ak=>aeM ak acA.2.1 Oz (-1) 0 (.inl rfl) (.inr rfl)).mono (by
  rintro e w' ⟨rfl,VA,h1,_⟩;exact⟨rfl,VA,h1⟩)
 go_wp2_with (rw[<-m1.out])
 refine cm ck ?_;rintro e b7 ⟨rfl,NW,BD⟩;have hR:=BD.lt;obtain⟨zT,g1⟩:=BD.hh.at_ 10 _ rfl;obtain⟨ch,q5⟩:=xH (b7.setCell (Ot mb 12) (Ol 0));have wQ:=BD.zero.2;rw[<-q5.out] at wQ;have rr:=wQ.lt;have rR:=hide (wQ.hh.at_ 10 _ rfl).1;have k5:Hid (∀ X,OD ch X->OE 51 #[Oo mb,Oo q] X fun e w'=>e=OQ (Ol 0)/\w'=X):=fun X ak=>by
  have E1:=wQ.later ak;have qr:OY a.Vb X a (some 0,a.tr):=az.kp (Kp.of' a8 E1.bw);have:=as5 a8 E1 qr;rw[bm.out];exact this
 have GD:Hid (∀ X,OD ch X->OE 50 #[Oo mb,Ol 0,Ol (-1),Ol 0] X fun e w'=>e=OQ (Ol 1)/\∃ VA,My 0 w1 mb af a.Vb QD QD VA QD w' st3):=fun X ak=>(apI (wQ.later ak) 0 (-1) 0 Oz fun X R ak=>aeM ak acA.2.2 Oz 0 (-1) (.inr rfl) (.inl rfl)).mono (by
  rintro e w' ⟨rfl,VA,h1,_⟩;exact⟨rfl,VA,h1⟩)
 clear C8 H0 HR fD gp
 go_wp2_with (rw[<-q5.out])
 refine TI 9 fun ab=>?_;have z:=Oq (∀{G}(h:G:=by
 refine up 3 mb 0 ab ?_;refine up 4 mb 12 ab ?_;refine uk 5 rR.out ab ?_;refine up 6 mb 0 ab ?_;refine up 7 q 0 ab ?_;refine P5 8 fun K A=>?_;go_simp;refine cm (Om k5 _ ab) ?_;rintro e dT ⟨rfl,rfl⟩;refine A.out _ _ (fun _=>ab) ?_;clear A K;refine P5 9 fun K A=>?_;go_simp;refine cm (Om GD _ ab) ?_;rintro e b1 ⟨rfl,NX,BE⟩;refine ko A ?_;clear A K;have A2:=BE.lt;obtain⟨tN,Dd⟩:=BE.hh.at_ 11 _ rfl;have zk:=BE.made.1;refine uz 10 (OM mb 0) ?_;refine uz 11 (OM mb 13) ?_;refine P5 12 fun K A=>?_;go_simp;refine ko A ?_
 clear A K;refine Sl ?_ _;go_simp;obtain⟨jU,wO⟩:=xE (b1.setCell (Ot mb 13) (Ol 1));rw[<-wO] at zk ⊢;clear wO tN Dd;have A3:=zk.lt;go_wp2_with fail;refine cm (Om nA _ _ _ _ _ _ _ _ zk) ?_;rintro e Fk ⟨rfl,BB,D5⟩;go_wp2_with fail;refine cm (Om y' _ _ _ _ _ _ _ _ BB) ?_;rintro e Oe ⟨rfl,JZ,MD⟩;go_wp2_with fail;exact UU (v:=Oo mb) ⟨_,_,_,_,rfl,D,a8,JZ⟩),G);exact Un
theorem ajr:Sz 10 st3:=by
 obtain⟨n,aI,az⟩:=akF.pz;have e:st3=base0:=rfl;rw[e];exact aI.up (by have:base0.steps=0:=rfl;omega)
theorem axB:Sz 12 st4:=by
 have h1:Sz 11 ({ st3 with M:=st3.M.Pz 1 }:St):=ajr.heap (Nat.le_succ _) (ajr.go.Pz 1) rfl;exact h1.RG 0 SL (Um st3.M.objs.length) false
theorem acB (h:RV (fun _=>True) w a)(hd:a.Vb.Nodup)(aj:a.cnt<=90000)(aq:w.cell? (Ot 1 0)=some es) :
  OE 27 #[Oo a.p] w fun e w'=>∃ w1 mb af aA,e=OQ (Oo mb)/\OD w w1/\Bs w1 mb af a.Vb es/\Mx w1 mb af a.Vb QD QD aA QD w' QA:=
 afj h hd aj aq (fun _ _ _ _ _ _ _ _ ae=>apG ae ajr Oz SL 1) (fun _ _ _ _ _ _ _ _ ae=>apG ae axB Oz Vx 2)
variable {u:OG}{c9:List Ad}
theorem as8 (ak:Cx w0 mb af O es eb){t:Tr}(bc:Bk t)(aJ:Ms w0 mb af O w (PZ (some 0,t) QA).2)(aa:TA 0 w u c9)(ft:Uo O w c9 (P9 (some 0,t))) :
  OE 28 #[Oo mb,u,PU (PZ (some 0,t) QA).1 none] w (P8 w0 mb af O es none w (Q8 (fx 20002) (PZ (some 0,t) QA).1 (P9 (some 0,t)) none (PZ (some 0,t) QA).2)):=by
 obtain⟨h1,U,aw⟩:=Wv.1.prog (d:=(some 0,t)) bc Wv.2;have ag:QQ 20002 9000 (PZ (some 0,t) QA).1 (PZ (some 0,t) QA).2:=⟨⟨by omega,by rw[h1.st];decide,h1.iv.up Ou,U⟩,by omega⟩
 exact afg ak (ZO 20002) (afi ak 20002) ag (fun k E=>bc.ks _ (Qq E)) aw (fun _ e=>by cases e) (fun _ e=>by cases e) (ajo (d:=(some 0,t)) bc) aJ aa ft (L:=none) (l:=none) trivial
def pvF (l:List OH)(k:Nat)(σ:St):St:=(l.take k).foldl (fun σ nm=>if σ.M.has 0 nm then σ else σ.RG 0 nm vU true) σ
theorem ahh (l:List OH)(k:Nat)(σ:St)(hl:k<l.length):pvF l (k+1) σ=if (pvF l k σ).M.has 0 l[k] then pvF l k σ else (pvF l k σ).RG 0 l[k] vU true:=by
 unfold pvF;exact apl
theorem Sz.pvF (l:List OH):∀ (k:Nat) {σ:St},Sz N σ->k<=l.length->Sz (N+k) (pvF l k σ)
 | 0,_,h,_=>h
 | k+1,σ,h,E=>by
  rw[ahh l k σ Ou]
  split
  ·exact(Sz.pvF l k h Ou).up Ou
  ·exact(Sz.pvF l k h Ou).RG _ _ _ _
def pfP (p:Pl)(k:Nd)(σ:St):St:=(mkFun k p σ).2.RG 0 k.2.tx (mkFun k p σ).1 true
def pfF (p:Pl)(a6:List Nd)(k:Nat)(σ:St):St:=(a6.take k).foldl (fun σ k=>pfP p k σ) σ
theorem ahi (p:Pl)(a6:List Nd)(k:Nat)(σ:St)(hl:k<a6.length):pfF p a6 (k+1) σ=pfP p a6[k] (pfF p a6 k σ):=by
 unfold pfF;exact apl
theorem Sz.pfF (p:Pl)(a6:List Nd):∀ (k:Nat) {σ:St},Sz N σ->k<=a6.length->Sz (N+2 * k) (pfF p a6 k σ)
 | 0,_,h,_=>h
 | k+1,σ,h,E=>by
  rw[ahi p a6 k σ Ou];exact((Sz.pfF p a6 k h Ou).mkFun _ _).RG _ _ _ _
theorem ajs (d:Nd)(σ:St):PZ d σ=(⟨1,0,Pg d.2⟩,pfF ⟨1,0,Pg d.2⟩ (TY d) (TY d).length (Qz (Pv d.2) 1 (pvF (P6 d.2) (P6 d.2).length σ))):=by
 unfold PZ pfF pvF;rw[List.take_length,List.take_length];rfl
theorem amw (ae:Mx w0 mb af O aW aC aA aM w σ)(aI:Sz N σ)(hN:N+9000<1000000000){a:Ad}{d:Nd}(hd:OY O w a d)(aj:d.2.count<=1500)(U:∀ k ∈ TY d,k.2.kids.length=2) :
  OE 30 #[Oo mb,Oo a.p] w fun e w'=>e=OQ (PU (PZ d σ).1 none)/\∃ WI,Mx w0 mb af O aW aC aA WI w' (PZ d σ).2/\Q9 mb aA aM aA WI w w':=by
 have bG:=ae.lt;have qs:=ajs d σ;obtain⟨w2,bu⟩:=xH (w.alloc (.cells #[Ol 0,Ol 0,OC false,Ri] 73));have aF:OD w w2:=by rw[bu.out];exact PO
 obtain⟨aU,b0⟩:=xE w.heap.size;have hr2:w2.heap[aU]? = some (O1 #[Ol 0,Ol 0,OC false,Ri] 73):=by rw[bu.out,b0];exact OA _ _
 have cL:w.heap.size<=aU:=Ou;have cM:=Rf d.2;have cU:=hd.kp (Kp.of aF);have kr:UA w2 d.2 a.p:=by rw[<-cU.tr];exact cU.at_.nat.nt
 have bJ:=(WZ d.2 a.p w2 kr Ou);have hZ:=hide (fun X (ak:Kp w2 X)=>TU d.2 a.p X (by rw[<-cU.tr];exact(RV.kp ak _ cU.at_).nat.nt))
 obtain⟨l,hl⟩:=xE (P6 d.2);obtain⟨a6,hds⟩:=xE (TY d);obtain⟨s1,ye⟩:=xE (Pv d.2);obtain⟨st,bI⟩:=xE (Pg d.2);obtain⟨c9,fk⟩:=xE (a.ks.filter fun k=>TM k.tr);have ft:Uo O w2 c9 a6:=by rw[fk,hds];exact Uo.filter TM _ _ cU.ndl
 have hell:c9.length=a6.length:=Uo.len _ _ ft;have x5:a6.length<=1500:=aCh
 have Jh:s1.length<=1500:=by
  have aw:=List.length_filter_le PE d.2.kids;rw[ye];show (d.2.kids.filter PE).length<=_;omega
 have iu:l.length<=1500:=by
  have z:=Oq (∀{G}(h:G:=by
  rw[hl];omega),G);exact asU
 rw[<-hl] at bJ;rw[<-bI] at hZ;rw[<-hl,<-hds,<-ye,<-bI] at qs;rw[<-hds] at U;obtain⟨rs,eI⟩:=xE (PZ d σ);rw[<-eI] at qs ⊢;obtain⟨q,bm⟩:=xH a.p;have el:=(ae.later aF);have cu:=(Q9.of (o:=aA) (f:=aM) aF (O0 bG));have bj:=hide hr2;have nz:=hide (fun X (ak:RV (fun _=>True) X a)=>XA a X ak (by rw[hd.ks];omega))
 rw[<-fk] at nz;have ts:=hide (fun X σ1 (ak:Mx w0 mb af O aW aC aA aM X σ1) (A:Kp w2 X) (b9:Sz (N+1500) σ1)=>afc ak b9 (cU.kp A) Ou Ou 1);rw[<-ye] at ts;have rV:=hide qs;have gY:=hide U;have cR:=hide cL;rw[<-bm.out] at bJ hZ nz ts ⊢;clear ae hr2 qs eI hl hds ye bI fk U cL cM;go_enter func30,ntmps30;go_wp2_with fail;rw[<-bu.out,<-b0];clear b0;refine cm bJ ?_;have z:=Oq (∀{G}(h:G:=by
 have zy:=hide (stays br bj.out);have jE:Kp w2 ap:=Kp.of br;go_wp2_with fail
 go_loopw [13] (fun i wr=>∃ k:Nat,k<=l.length/\i=Ol k/\Mx w0 mb af O aW aC aA aM wr (pvF l k σ)/\Q9 mb aA aM aA aM w wr/\wr.heap[aU]? = some (O1 #[Ol 0,Ol 0,OC false,Ri] 73)/\Rx w2.heap.size wr (.slice va l.length dD) l/\Kp w2 wr) (fun i _=>l.length - (intOf i).toNat)
 case atStart=>exact⟨0,Nat.zero_le _,rfl,eN,cQ,zy.out,iR,jE⟩
 case round=>
  obtain⟨k,E,rfl,jy,gb,kW,kx,oU⟩:=hrel;have eX:=jy;have kF:=gb;have bW:=hide kW;have jq:=oU;have h':=jy.lt;clear kW
  by_cases aQ:k<l.length
  ·obtain⟨g,cap,av,hg,_,eS⟩:=UR kx k aQ;have z:=Oq (∀{G}(h:G:=by
   have hstep:=ahh l k σ aQ;obtain⟨x,ae⟩:=xE (l[k]);rw[<-ae] at eS hstep;obtain⟨dE,gT⟩:=xE (pvF l k σ);rw[<-gT] at eX hstep;have jT:Sz (N+k) dE:=by rw[gT];exact Sz.pvF l k aI Ou
   have Ck:=hide (fun X (ak:OD wr X)=>auB (eX.later ak).hh jT.go.sm Ou 0 x);have pp:=hide (fun X (ak:Mx w0 mb af O aW aC aA aM X dE)=>YS ak jT Ou 0 x vU true);have rR:=hide (eX.hh.at_ 10 _ rfl).1;obtain⟨zS,tY⟩:=xE (dE.M.has 0 x);rw[<-tY] at Ck hstep;have nM:=hide hstep;clear ae gT tY hstep;go_wp2_with fail;clear eS hg
   cases zS with
   | true=>
    refine TI 8 fun ab=>?_;have z:=Oq (∀{G}(h:G:=by
    have z:=Oq (∀{G}(h:G:=by
    refine uz 9 (OC false) ?_;refine Sl ?_ _;go_simp;go_wp2_with fail;refine⟨⟨k+1,by omega,by go_num,?_,fF,gw.out,q3,kG⟩,by simp[intOf];omega⟩
    rw[nM.out,if_pos rfl];exact f7),G);exact aC4),G);exact Un
   | false=>
    refine TI 8 fun ab=>?_;have z:=Oq (∀{G}(h:G:=by
    have z:=Oq (∀{G}(h:G:=by
    refine uz 9 (OC true) ?_;refine Sl ?_ _;go_simp;have yT:=hide (f7.hh.at_ 9 _ rfl).1;go_wp2_with fail;refine TI 9 fun ab=>?_;have z:=Oq (∀{G}(h:G:=by
    refine up 3 mb 0 ab ?_;refine up 4 mb 0 ab ?_;refine up 5 mb 11 ab ?_;refine uk 6 yT.out ab ?_;refine uh 7 (OB x) (ab) ?_;refine uh 8 (.agg #[Ol 0,Ol 0,PN]) (ab) ?_;refine P5 9 fun K A=>?_;go_simp;refine cm (Om pp _ (f7.later ab)) ?_;rintro e b1 ⟨rfl,j6,bi⟩;refine ko A ?_;clear A K;have mh:=j6;have mU:=((fF.trans (Q9.of ab (O0 gp))).Xo bi);have ou:=hide (bi.rest _ _ _ (stays ab gw.out) Oz);have vp:=(OW (Pe q3 ab) bi Oz)
    have p6:Kp w2 b1:=fun b c e D aq=>Py.kp bi b c e (Kp.of ab b c e (kG b c e D aq) aq) aq;refine Sl ?_ _;go_simp;go_wp2_with fail;refine⟨⟨k+1,by omega,by go_num,?_,mU,ou.out,vp,p6⟩,by simp[intOf];omega⟩
    rw[nM.out,if_neg O8];exact mh),G);exact Un),G);exact aC4),G);exact Un),G);exact alK
  ·have z:=Oq (∀{G}(h:G:=by
   obtain⟨uL,sX⟩:=xE (pvF l l.length σ);rw[<-sX] at eX rV;have fp:Sz (N+1500) uL:=by rw[sX];exact(Sz.pvF l l.length aI O6).up Ou
   have dU:=(Om ts wr uL eX jq fp);obtain⟨fK,hj⟩:=xE (Qz s1 1 uL);rw[<-hj] at dU rV;have nN:Sz (N+3000) fK:=by show Sz _ _;rw[hj];exact(fp.lets s1 1).up Ou
   have tN:=(eX.hh.at_ 11 _ rfl).1;clear sX hj;go_wp2_with fail;refine cm dU ?_;rintro e bA ⟨rfl,gS,h4⟩;have f7:=gS;have fF:=(kF.Xo h4);have gw:=hide (h4.rest _ _ _ bW.out Oz);have kG:Kp w2 bA:=fun b c e D aq=>Py.kp h4 b c e (jq b c e D aq) aq;have gp:=gS.lt;have yU:=hide (gS.hh.at_ 11 _ rfl).1;have rR:=hide (gS.hh.at_ 10 _ rfl).1;clear tN;go_wp2_with fail;refine acC (H:=fun wz bf=>OD bA wz/\wz.heap[bf]? = some (O1 #[Ol 1,Ol 0,OC st,Ri] 73)/\bA.heap.size<=bf) (G:=?GG) (fun dJ=>?ways) ?rest
   case ways=>
    refine TI 12 fun ab=>?_;refine up 0 mb 0 ab ?_;refine up 1 mb 0 ab ?_;refine up 2 mb 13 ab ?_;refine uk 3 yU.out ab ?_;refine up 4 mb 0 ab ?_;refine up 5 mb 0 ab ?_;refine up 6 mb 12 ab ?_;refine uk 7 rR.out ab ?_;refine up 8 q 0 ab ?_;refine uq2 9 11 (fun K A=>?_) fun K A=>?_
    ·go_simp;refine cm (Om hZ _ (fun b c e D aq=>Kp.of ab b c e (kG b c e D aq) aq)) ?_;rintro e b7 ⟨rfl,rfl⟩;refine A.out _ _ (fun _=>ab) ?_;clear A K;refine uh 10 (.agg #[Ol 1,Ol 0,OC st,Ri]) (ab) ?_;refine P5 11 fun K A=>?_;go_simp;refine A.out _ _ (fun _=>PO.drew) ?_;clear A K;exact aC5
    ·go_simp;refine A.out _ _ (fun _=>PO.drew) ?_;clear A K;refine P5 9 fun K A=>?_;go_simp;refine cm (Om hZ _ (fun b c e D aq=>Kp.of (PO.drew) b c e (kG b c e D aq) aq)) ?_;rintro e b7 ⟨rfl,rfl⟩;refine A.out _ _ (fun _=>PO.drew) ?_;clear A K;refine uh 10 (.agg #[Ol 1,Ol 0,OC st,Ri]) (PO.drew) ?_;exact aC5
   rintro wz bf ⟨iL,iX,Jq⟩;have k':=(f7.later iL);have ij:=(fF.trans (Q9.of iL (O0 gp)));have iG:=hide iX;have gg:=hide (stays iL gw.out);have kH:Kp w2 wz:=fun b c e D aq=>Kp.of iL b c e (kG b c e D aq) aq;have mz:=k'.lt;have cl:bf≠aU:=fun e=>by have:=lt_of_heap gw.out;omega
   have fl:=(Om nz wz (RV.kp kH _ cU.at_));clear iX Jq;go_wp2_with fail;refine cm fl ?_;rintro e dT ⟨⟨Fi,rfl,wA⟩,fR⟩;obtain⟨d6,mo,Bv⟩:=wA.form;subst Bv;have qg:=(k'.later fR);have ny:=(ij.trans (Q9.of fR (O0 mz)));have tt:=hide (stays fR iG.out);have k7:=hide (stays fR gg.out);have Cz:=(Uo.kp (fun b c e D aq=>Kp.of fR b c e (kH b c e D aq) aq) _ _ ft);go_wp2_with fail
   go_loopw [59] (fun i wr=>∃ (k:Nat) (qh:OG),k<=c9.length/\i=Ol k/\Mx w0 mb af O aW aC aA qh wr (pfF ⟨1,0,st⟩ a6 k fK)/\Q9 mb aA aM aA qh w wr/\wr.heap[bf]? = some (O1 #[Ol 1,Ol 0,OC st,Ri] 73)/\wr.heap[aU]? = some (O1 #[Ol 0,Ol 0,OC false,Ri] 73)/\Kp dT wr) (fun i _=>c9.length - (intOf i).toNat)
   case atStart=>exact⟨0,_,Nat.zero_le _,rfl,qg,ny,tt.out,k7.out,fun _ _ _ h _=>h⟩
   case round=>
    obtain⟨k,qh,E,rfl,jy,gb,ng,kW,oU⟩:=hrel;have z:=Oq (∀{G}(h:G:=by
    by_cases aQ:k<c9.length
    ·obtain⟨g,cap,av,hg,eS,az⟩:=(wA.kp jq).cell k aQ;have z:=Oq (∀{G}(h:G:=by
     obtain⟨dE,gT⟩:=xE (pfF ⟨1,0,st⟩ a6 k fK);rw[<-gT] at eX;have jT:Sz (N+3000+2 * k) dE:=by rw[gT];exact Sz.pfF _ a6 k nN Ou
     have eO:=Om gY a6[k] (List.getElem_mem _);have hV:=hide (fun X (ak:OD wr X)=>ZI (eX.later ak) (oP.kp (Kp.of ak)) eO jT Ou ⟨1,0,st⟩ none);obtain⟨bP,dm⟩:=xE ((mkFun a6[k] ⟨1,0,st⟩ dE).1);obtain⟨rK,qE⟩:=xE ((mkFun a6[k] ⟨1,0,st⟩ dE).2);rw[<-dm,<-qE] at hV;have wR:Sz (N+3000+2 * k+1) rK:=by rw[qE];exact jT.mkFun _ _
     have vt:=hide (fun X eH (ak:Mx w0 mb af O aW aC aA eH X rK)=>YS ak wR Ou 0 x bP true);have kg:rK.RG 0 x bP true=pfF ⟨1,0,st⟩ a6 (k+1) fK:=by
      rw[ahi _ a6 k fK bo,<-gT];unfold pfP;rw[<-qE,<-dm,<-ae]
     rw[kg] at vt;obtain⟨hn,nk⟩:=xE ((c9[k]).p);have jK:=oP.blk;rw[<-nk] at eS dz c1 hV jK;have yQ:=hide jK;have fi:=hide c1;have yT:=hide (eX.hh.at_ 9 _ rfl).1;clear ae gT eO dm qE kg nk jK c1;go_wp2_with fail;clear eS hg;have ab:OD wr wr.drew:=QX.drew;have c':wr.drew.heap[bf]? = some (O1 #[Ol 1,Ol 0,OC st,Ri] 73)/\wr.drew.cell? (Ot hn 1)=some (OB x)/\wr.drew.cell? (Ot mb 11)=some (Ol 0):=⟨stays ab fN.out,O4 ab fi.out,O4 ab yT.out⟩
     refine QE 15 (fun X=>X.heap[bf]? = some (O1 #[Ol 1,Ol 0,OC st,Ri] 73)/\X.cell? (Ot hn 1)=some (OB x)/\X.cell? (Ot mb 11)=some (Ol 0)) PK ?_;refine up 0 mb 0 c' ?_;refine up 1 mb 0 c' ?_;refine up 2 mb 0 c' ?_;refine up 3 mb 0 c' ?_;refine up 4 mb 0 c' ?_;refine up 5 mb 11 c' ?_;refine uc 6 (Ol 0) rfl (Or.inl ⟨by kernel_rfl,fun X ak=>by have h0:=ak.2.2;go_simp⟩) (c') ?_
     refine up 7 hn 0 c' ?_;refine up 8 hn 0 c' ?_;refine up 9 hn 1 c' ?_;refine uc 10 (OB x) rfl (Or.inl ⟨by kernel_rfl,fun X ak=>by have h0:=ak.2.1;go_simp⟩) (c') ?_
     refine up 11 mb 0 c' ?_;refine up 12 hn 0 c' ?_;refine uc 13 (.agg #[Ol 1,Ol 0,OC st,Ri]) rfl (Or.inl ⟨by kernel_rfl,fun X ak=>by have h0:=(cells4 ak.1).1;have h1:=(cells4 ak.1).2.1;have U:=(cells4 ak.1).2.2.1;have aw:=(cells4 ak.1).2.2.2.1;go_simp⟩) (c') ?_
     refine P5 14 fun K A=>?_;go_simp;refine cm (Om hV _ ab) ?_;rintro e b1 ⟨rfl,vJ,j6,bi⟩;have g7:=eX.later ab;have pO:=(bi.frL (L:=none) g7).keep c'.1 Oz;have sJ:b1.cell? (Ot hn 1)=some (OB x):=by
      obtain⟨c,D⟩:=Om yQ;exact(bi.kp g7).XQ c'.2.1 ⟨c,stays ab D⟩
     refine A.out _ _ (fun _=>⟨pO,sJ,(j6.hh.at_ 9 _ rfl).1⟩) ?_;clear A K;have A2:=j6.lt;have mh:=j6;have mU:=((kF.trans (Q9.of ab (O0 h'))).trans bi);have r6:=hide pO;have ou:=hide ((bi.frL (L:=none) g7).keep (stays ab bW.out) Oz);have p6:Kp dT b1:=fun b c e D aq=>bi.kp g7 b c e (Kp.of ab b c e (jq b c e D aq) aq) aq;clear pO sJ;refine P5 15 fun K A=>?_;go_simp;refine cm (Om vt _ _ mh) ?_;rintro e jU ⟨rfl,pS,kk⟩;refine ko A ?_;clear A K;have rX:=(mU.Xo kk)
     have vh:=hide (kk.rest _ _ _ r6.out Oz);have r':=hide (kk.rest _ _ _ ou.out Oz);have zf:Kp dT jU:=fun b c e D aq=>Py.kp kk b c e (p6 b c e D aq) aq;clear c';refine Sl ?_ _;go_simp;go_wp2_with fail;exact⟨⟨k+1,vJ,by omega,by go_num,pS,rX,vh.out,r'.out,zf⟩,by simp[intOf];omega⟩),G);exact aC6
    ·have z:=Oq (∀{G}(h:G:=by
     obtain⟨b1,bx⟩:=xE ((((wr.setCell (Ot aU 0) (Ol 1)).setCell (Ot aU 1) (Ol 0)).setCell (Ot aU 2) (OC st)).setCell (Ot aU 3) Ri);rw[<-bx];have d1:=aat bW.out (Ol 1) (Ol 0) (OC st) Ri;have gK:mb<=aU:=by have:=Om cR;omega
     have bi:=Uw bW.out gK (Ol 1) (Ol 0) (OC st) Ri;have bF:=kF.new bi (U6 cR.out _ _ _ _);have bC:=eX.YC bi Oz;rw[<-bx] at d1 bF bC;obtain⟨cG,b4,bT,eg,_,_⟩:=cells4 d1;refine Vm (v:=PU ⟨1,0,st⟩ none) ?_;rw[rV.out];rw[hell] at bC;exact⟨rfl,_,bC,bF⟩),G);exact aC7),G);exact axk),G);exact asV),G);exact aCj
structure Rw (w:Ov)(es:OG)(eb:Addr):Prop where
 is:es=.iface 359 (.pointer (some eb))
 at1:w.cell? (Ot 1 0)=some es
 et:RP w
 tb:Y8 w
 gl:Gl w
 lt:1<w.heap.size
theorem Rw.later (h:Rw w es eb)(D:OD w w'):Rw w' es eb:=
 ⟨h.is,O4 D h.at1,Vr h.et D (by have:=h.lt;omega),Lib.tabBelow_of_tabIs h.tb w' D,h.gl.later D,by have:=D.size;have:=h.lt;omega⟩
theorem Rw.cx (h:Rw w es eb)(a8:Bs w mb af O es):Cx w mb af O es eb:=
 ⟨a8,⟨h.is,h.at1,h.et,by rw[<-a8.sz];exact h.lt⟩,h.tb,h.gl⟩
def aej:Er->Int
 | .no=>1
 | .XU _=>2
 | _=>3
def afU (M:Mo):Er->OH
 | .XU v=>M.shw v
 | _=>Ox
structure Fin (w0:Ov)(mb:Nat)(aW aC:OG)(c:Int)(x:OH)(σ:St)(w:Ov):Prop where
 bw:Below mb w0 w
 lt:mb<w.heap.size
 c2:w.cell? (Ot mb 2)=some aW
 c3:w.cell? (Ot mb 3)=some (Ol c)
 c4:w.cell? (Ot mb 4)=some (OB x)
 c5:w.cell? (Ot mb 5)=some (Ol (σ.steps:Int))
 c6:w.cell? (Ot mb 6)=some aC
 lg:w.ownsRow mb 9 1 aW σ.log.length (σ.log.map Value.string)
 se:w.ownsRow mb 54 2 aC σ.seen.length (σ.seen.flatMap sn2)
section
variable (ae:Mx w0 mb af O aW aC aA aM w σ) (c:Int)
include ae c
theorem fin1:Fin w0 mb aW aC c Ox σ (w.setCell (Ot mb 3) (Ol c)):=by
 obtain⟨h,f⟩:=ae.hh.cell 1 (Ol c);exact aC8
theorem fin2 (x:OH):Fin w0 mb aW aC c x σ ((w.setCell (Ot mb 3) (Ol c)).setCell (Ot mb 4) (OB x)):=by
 obtain⟨h1,d5⟩:=ae.hh.cell 1 (Ol c);obtain⟨h,dX⟩:=h1.cell 2 (OB x);have f:=d5.trans dX;exact aC8
end
theorem Eo.va {e:Er}{v:Va}(h:Eo σ e)(aq:e=.XU v)(aI:Sz 400000000 σ):-9223372036854775808<=v.n/\v.n<=9223372036854775807:=by
 subst aq;have:=(aff (M:=σ.M) h.2 aI.go.sm.o).2;omega
theorem as9 (ak:Cx w0 mb af O es eb)(aJ:Ms w0 mb af O w σ){e:Er}(aq:Eo σ e)(aI:Sz 400000000 σ){ev:OG}(aD:Xm es w ev e) :
  OE 31 #[Oo mb,ev] w fun r w'=>r=OQ (.tuple #[])/\∃ aW aC,Fin w0 mb aW aC (aej e) (afU σ.M e) σ w':=by
 obtain⟨aW,aC,aA,aM,ae⟩:=aJ
 cases e with
 | no=>
  have aK:ev=Qp:=aD;subst aK;refine(axx ae).mono ?_;rintro r w' ⟨rfl,X,h1,_,rfl⟩;exact⟨rfl,aW,aC,fin1 h1 1⟩
 | stop=>
  have aK:ev=es:=aD;subst aK;refine(apH ak.st ae).mono ?_;rintro r w' ⟨rfl,X,h1,_,rfl⟩;exact⟨rfl,aW,aC,fin1 h1 3⟩
 | XU v=>
  obtain⟨b,rfl,D⟩:=aD;refine(as4 ak.b ak.tb ak.st ae D (aq.va rfl aI)).mono ?_;rintro r w' ⟨rfl,X,h1,_,rfl⟩;exact⟨rfl,aW,aC,fin2 h1 2 _⟩
 | mis=>exact aq.elim
def Uz (w:Ov)(t:Tr)(e:Ending)(w':Ov):Prop:=OD w w'/\match chk t false false false with
 | some er=>e=OQ (.tuple #[ac7 (.slice none 0 0) (.slice none 0 0) 0 0 ⟨#[]⟩,.iface 34 (Ol er)])
 | none=>∃ aW aC,e=OQ (.tuple #[ac7 aW aC (aej (QI t).1) (QI t).2.steps (afU (QI t).2.M (QI t).1),.nilIface])/\w'.ownsRow w.heap.size 9 1 aW (QI t).2.log.length ((QI t).2.log.map Value.string)/\w'.ownsRow w.heap.size 54 2 aC (QI t).2.seen.length ((QI t).2.seen.flatMap sn2)
theorem ahj {t:Tr}(bc:Bk t):Eo (QI t).2 (QI t).1/\Sz 400000000 (QI t).2:=by
 have h:=axC bc;exact⟨h.er,h.iv.sz (by have:=h.ex.st;have e:QA.steps=0:=rfl;show (9000:Int)<=_;omega) h.er.le⟩
theorem apL:Sz 100 QA:=by
 obtain⟨n,aI,az⟩:=Wv.1.pz;exact aI.up (by have:QA.steps=0:=rfl;omega)
abbrev acD (w:Ov)(b:Nat)(x y bD u v:OG):Ov:=((((w.setCell (Ot b 0) x).setCell (Ot b 1) y).setCell (Ot b 2) bD).setCell (Ot b 3) u).setCell (Ot b 4) v
theorem aC9 {b:Nat}{x y bD u v:OG}{t:TypeId}(h:w.heap[b]? = some (O1 #[x,y,bD,u,v] t))(x' jB jl g8 v':OG):(acD w b x' jB jl g8 v').heap[b]? = some (O1 #[x',jB,jl,g8,v'] t):=by
 have z:=Oq (∀{G}(h:G:=by
 have aL:=heap_setCell_same _ b 3 _ t g8 aw;have bE:=heap_setCell_same _ b 4 _ t v' aL;exact bE),G);exact as6
theorem apM {B b:Nat}{a:Ov}(h:Below B a w)(D:B<=b)(x y bD u v:OG):Below B a (acD w b x y bD u v):=
 ((((h.setCell D x).setCell D y).setCell D bD).setCell D u).setCell D v
theorem abo {B C e s n:Nat}{v:OG}{xs:List OG}(h:w.ownsRow B e s v n xs)(bq:C<=B):w.ownsRow C e s v n xs:=⟨h.1,by
 rcases h.2 with h|⟨g,cap,cj,h1,U,aw⟩
 ·exact .inl h
 ·exact .inr ⟨g,cap,cj,h1,Nat.le_trans bq U,aw⟩⟩
theorem ZP {B b j e s n:Nat}{v:OG}{xs:List OG}{t:TypeId}{c:Array OG}(h:w.ownsRow B e s v n xs)(D:w.heap[b]? = some (O1 c t))(bc:t≠e)(x:OG):(w.setCell (Ot b j) x).ownsRow B e s v n xs:=
 ownsRow_setCell_other h (fun q=>by
  obtain⟨en,aj⟩:=Qc h q;exact QK D aj bc rfl) x
theorem ahk {B b e s n:Nat}{v:OG}{xs:List OG}{t:TypeId}{x y bD u q:OG}(h:w.ownsRow B e s v n xs)(D:w.heap[b]? = some (O1 #[x,y,bD,u,q] t))(bc:t≠e)(x' jB jl g8 q':OG):(acD w b x' jB jl g8 q').ownsRow B e s v n xs:=by
 have h1:=heap_setCell_same w b 0 _ t x' D;have U:=heap_setCell_same _ b 1 _ t jB h1;have aw:=heap_setCell_same _ b 2 _ t jl U;have aL:=heap_setCell_same _ b 3 _ t g8 aw;exact ZP (ZP (ZP (ZP (ZP h D bc _) h1 bc _) U bc _) aw bc _) aL bc _
theorem ay8 (hg:Rw w es eb){a:Ad}(aO:RV (fun _=>True) w a)(jj:a.Vb.Nodup)(hbk:chk a.tr false false false=none->Bk a.tr)(bo:a.tr.kd=1)(h7:a.tr.ill=0)(AC:a.tr.count<=1500) :
  OE 11 #[Oo a.p] w (Uz w a.tr):=by
 obtain⟨w2,bu⟩:=xH (w.alloc (.cells #[QD,Ol 0,PN,Ol 0,QD] 29));have aF:OD w w2:=by rw[bu.out];exact PO
 obtain⟨aU,b0⟩:=xE w.heap.size;have hr2:w2.heap[aU]? = some (O1 #[QD,Ol 0,PN,Ol 0,QD] 29):=by rw[bu.out,b0];exact OA _ _
 have cL:w.heap.size<=aU:=Ou;have vP:=RV.kp (Kp.of aF) _ aO;have ai:=(adG a.tr a.p false false w2 vP.nat.nt h7 Ou);have bj:=hide hr2;have cR:=hide cL;have qA:=lt_of_heap hr2
 cases aj:chk a.tr false false false with
 | some er=>
  rw[aj] at ai;have aK:Uz w a.tr=fun e w'=>OD w w'/\e=OQ (.tuple #[ac7 QD QD 0 0 ⟨#[]⟩,.iface 34 (Ol er)]):=by
   unfold Uz;rw[aj]
  rw[aK];clear jj hbk bo h7 AC hr2 cL vP aj aK qA;obtain⟨q,ag⟩:=xE a.p;rw[<-ag] at ai ⊢;clear ag;go_enter func11,ntmps11;go_wp2_with fail;rw[<-bu.out,<-b0];refine cm ai ?_;rintro e ap ⟨aq,br⟩;have ga:e=OQ (.iface 34 (Ol er)):=aq;subst ga;have d3:=(aF.trans (br.mono aF.size));have dp:=hide (stays br bj.out);obtain⟨cH,bU,cg,eE,lA,eu,rl⟩:=cells5 (stays br bj.out);have dt:=eu 0;have du:=eu 1;have dv:=eu 2;have iT:=eu 3;have KS:=eu 4;clear aq eu b0;go_wp2_with fail
  obtain⟨b1,bx⟩:=xE (acD ap aU QD (Ol 0) (PN) (Ol 0) QD);have fQ:=aC9 dp.out QD (Ol 0) (PN) (Ol 0) QD;have d8:=apM d3 cR.out QD (Ol 0) (PN) (Ol 0) QD;unfold acD at bx fQ d8;rw[<-bx] at fQ d8;obtain⟨cG,b4,bT,eg,lz,_,_⟩:=cells5 fQ;rw[<-bx];refine bodyPost_ret (v:=.tuple #[ac7 QD QD 0 0 ⟨#[]⟩,.iface 34 (Ol er)]) (by simp[results,results11,go_sem,cG,b4,bT,eg,lz]) rfl ?_;exact⟨d8,rfl⟩
 | none=>
  rw[aj] at ai;have a8:=hbk aj;obtain⟨t,bc⟩:=xE a.tr;have aK:Uz w a.tr=fun e w'=>OD w w'/\∃ aW aC,e=OQ (.tuple #[ac7 aW aC (aej (QI a.tr).1) (QI a.tr).2.steps (afU (QI a.tr).2.M (QI a.tr).1),Qp])/\w'.ownsRow w.heap.size 9 1 aW (QI a.tr).2.log.length ((QI a.tr).2.log.map Value.string)/\w'.ownsRow w.heap.size 54 2 aC (QI a.tr).2.seen.length ((QI a.tr).2.seen.flatMap sn2):=by
   unfold Uz;rw[aj]
  rw[aK];have U:∀ k ∈ TY ((some 0,a.tr):Nd),k.2.kids.length=2:=fun k E=>by
   obtain⟨kd,kz,bR,p1,dq,aw,_⟩:=(Zc (d:=(some 0,a.tr)) a8 k E).sh;rw[aw];rfl
  have hcnt:a.cnt<=90000:=by rw[<-a.ah8];omega
  have k3:=hide (fun X (ak:OD w2 X)=>acB (RV.kp (Kp.of ak) _ vP) jj hcnt ((hg.later aF).later ak).at1);have tl:=hide (fun X (ak:OD w X) mb af (a8:Bs X mb af a.Vb es)=>(hg.later ak).cx a8);have zo:=hide (fun X (ak:Kp w2 X)=>akE (RV.kp ak _ vP));obtain⟨qB,dd⟩:Eo (QI a.tr).2 (QI a.tr).1/\Sz 400000000 (QI a.tr).2:=ahj a8;obtain⟨iB,Bj⟩:=xE (QI a.tr);have og:=hide (fun X (hd:OY a.Vb X a (some 0,a.tr))=>axw hd bo)
  have fN:=hide (fun X w1 mb af aA (ae:Mx w1 mb af a.Vb QD QD aA QD X QA) (hd:OY a.Vb X a (some 0,a.tr))=>amw ae apL Oz hd AC U);have dF:=hide (fun X w1 mb af u (ak:Cx w1 mb af a.Vb es eb) (aJ:Ms w1 mb af a.Vb X (PZ (some 0,a.tr) QA).2) (aa:TA 0 X u a.ks) (hd:OY a.Vb X a (some 0,a.tr))=>as8 ak a8 aJ aa hd.ndl);obtain⟨zU,AE⟩:=xE (PZ (some 0,a.tr) QA);obtain⟨BT,kW⟩:=xE (Q8 (fx 20002) zU.1 (P9 (some 0,a.tr)) none zU.2);have JE:iB=(BT.1.2.1,BT.2):=by rw[Bj,kW,AE];rfl
  rw[<-Bj] at qB dd ⊢;rw[<-AE] at fN dF;rw[<-kW] at dF;subst JE;obtain⟨q,ag⟩:=xE a.p;rw[<-ag] at ai k3 og fN ⊢;clear jj hbk bo h7 AC hr2 cL vP aj aK qA ag U hcnt Bj AE kW bc;go_enter func11,ntmps11;go_wp2_with fail;rw[<-bu.out,<-b0];refine cm ai ?_;rintro e ap ⟨aq,br⟩;have ga:e=OQ Qp:=aq;subst ga;have d3:=(aF.trans (br.mono aF.size));have dp:=hide (stays br bj.out);have GA:=(Om k3 ap br);have jE:Kp w2 ap:=Kp.of br;clear aq b0;go_wp2_with fail;refine cm GA ?_
  rintro e bA ⟨w1,mb,af,aA,rfl,b6,kh,gS⟩;have JW:OD w1 bA:=by unfold OD;rw[kh.sz];exact gS.bw
  have IF:OD ap bA:=b6.trans (JW.mono b6.size);have uS:=(Om tl w1 (d3.trans (b6.mono d3.size)) mb af kh);have kG:Kp w2 bA:=fun b c e D aq=>Kp.of IF b c e (jE b c e D aq) aq;have zq:=(Om zo bA kG);have k2:Hid (w.heap.size<mb):=by show _<_;rw[<-kh.sz];have:=lt_of_heap dp.out;have:=b6.size;have:=Om cR;omega
  have gw:Hid (OD w w1/\w1.heap[aU]? = some (O1 #[QD,Ol 0,PN,Ol 0,QD] 29)/\w1.heap.size=mb):=⟨d3.trans (b6.mono d3.size),stays b6 dp.out,kh.sz⟩;have FL:=(Om og bA zq);go_wp2_with fail;refine cm FL ?_;rintro e b7 ⟨rfl,u,rfl,aT⟩;obtain⟨cV,uc,JN⟩:=aT.form;subst JN;have GL:=(Om fN _ w1 mb af aA gS zq);go_wp2_with fail;refine cm GL ?_;rintro e ch ⟨rfl,L2,o5,ji⟩;have dc:=ji.kp gS;have Gy:=(zq.kp dc);have Hi:=(aT.kp dc);have GU:=(Om dF ch w1 mb af _ uS ⟨_,_,_,_,o5⟩ Hi Gy)
  obtain⟨⟨au,aG,st⟩,Oj⟩:=zU;go_wp2_with fail;refine cm GU ?_;rintro e dT ⟨⟨ev,rfl,aD⟩,aJ,_,_⟩;obtain⟨⟨iS,er,NA⟩,mN⟩:=BT;obtain⟨KJ,⟨ok,on,os⟩⟩:=iS;obtain⟨b1,bx⟩:=xE (dT.alloc (.cells #[OC KJ,Ol ok,Ol on,OB os] 67));have d8:OD dT b1:=by rw[bx];exact PO
  have qP:=(as9 uS (aJ.later d8) qB dd (aD.later d8));have sc:=hide bx;clear bx;go_wp2_with fail;rw[<-sc.out];refine cm qP ?_;rintro e jU ⟨rfl,aW,aC,ah⟩;obtain⟨la,gs,qw⟩:=OX ah.lg;obtain⟨jA,uF,jP⟩:=OX ah.se;obtain⟨ln,kq⟩:=xE mN.log.length;obtain⟨qH,wD⟩:=xE mN.seen.length;rw[<-kq] at qw;rw[<-wD] at jP;subst qw jP;clear kq wD;obtain⟨b6,hr1,np⟩:=Om gw;have EF:aU<mb:=by rw[<-np];exact lt_of_heap hr1
  have wB:=(ah.bw.block aU EF).trans hr1;have j4:OD w jU:=b6.trans (ah.bw.mono (by have:=Om k2;omega))
  obtain⟨cH,bU,cg,eE,lA,eu,rl⟩:=cells5 wB;have dt:=eu 0;have du:=eu 1;have dv:=eu 2;have iT:=eu 3;have KS:=eu 4;have c2:=ah.c2;have c3:=ah.c3;have c4:=ah.c4;have c5:=ah.c5;have c6:=ah.c6;have bG:=ah.lt;have cl:aU≠mb:=Ou;have r':=hide wB;have Gq:=(abo ah.lg (show w.heap.size<=mb by have:=Om k2;omega))
  have Hc:=(abo ah.se (show w.heap.size<=mb by have:=Om k2;omega))
  obtain⟨cc,gf⟩:=xH (aej er);obtain⟨cv,Ca⟩:=xH (afU mN.M er);obtain⟨tO,xj⟩:=xH ((mN.steps:Int):Int);rw[<-gf.out] at c3;rw[<-Ca.out] at c4;rw[<-xj.out] at c5;clear hr1 np wB eu EF;go_wp2_with fail;obtain⟨k0,i1⟩:=xE (acD jU aU (.slice la ln gs) (Ol cc) (OB cv) (Ol tO) (.slice jA qH uF));have fQ:=aC9 r'.out (.slice la ln gs) (Ol cc) (OB cv) (Ol tO) (.slice jA qH uF);have d8:=apM j4 cR.out (.slice la ln gs) (Ol cc) (OB cv) (Ol tO) (.slice jA qH uF)
  have A0:=ahk Gq r'.out Oz (.slice la ln gs) (Ol cc) (OB cv) (Ol tO) (.slice jA qH uF);have Bm:=ahk Hc r'.out Oz (.slice la ln gs) (Ol cc) (OB cv) (Ol tO) (.slice jA qH uF);unfold acD at i1 fQ d8 A0 Bm;rw[<-i1] at fQ d8 A0 Bm;rw[<-i1];obtain⟨cG,b4,bT,eg,lz,_,_⟩:=cells5 fQ;refine bodyPost_ret (v:=.tuple #[ac7 (.slice la ln gs) (.slice jA qH uF) cc tO cv,Qp]) (by simp[results,results11,go_sem,cG,b4,bT,eg,lz]) rfl ?_;exact⟨d8,_,_,by rw[gf.out,Ca.out,xj.out],A0,Bm⟩
end
end Hp
section
open Go.ChangeShapes Go.WideShapes Go.ChangeAt Go.WideMaps Go.WideElems Go.RowKit
theorem aGK : Tryz.prog.globalNamed "errors.errorType" = some 0 := by kernel_rfl
theorem avb : Tryz.prog.globalNamed "sloppyscope/run.errStopped" = some 1 := by kernel_rfl
theorem aGL : Tryz.prog.globalNamed "internal/strconv.uint64pow10" = some 8 := by kernel_rfl
theorem aDg:(Tryz.prog.globals[1]?).map (·.type)=some 31:=by kernel_rfl
theorem aGM:(Tryz.prog.globals[8]?).map (·.type)=some 341:=by kernel_rfl
theorem aDh : (Tryz.prog.cutTypes.find? (·.1 == "internal/reflectlite.rtype")).map (·.2) = some 215 := by kernel_rfl
theorem oneRow:((List.range 393).filter fun t=>Tryz.prog.rowNamed t [101,114,114,111,114])=[31]:=by kernel_rfl
theorem axG:Tryz.prog.types.size=393:=by kernel_rfl
theorem apS:Tryz.prog.cellsOf 320=1:=by kernel_rfl
theorem apT:Tryz.prog.cellsOf 341=20:=by kernel_rfl
theorem apU:Tryz.prog.cellsOf 361=1:=by kernel_rfl
theorem avc : "*" ++ "errors.errorString" = "*errors.errorString" := by decide
theorem axH (u : TypeId) (h : Tryz.prog.typeName? 3 u = some "*errors.errorString") : u = 359 :=
 typeName_ptr_named (nm := "errors.errorString") (by rw [avc]; kernel_rfl) (by kernel_rfl) (by decide) u (by rw [avc]; exact h)
theorem ata:(Rows.laid_internal_strconv_uint64pow10:DataW Unit)=Lib.tabData .u64 Lib.pow10Tab:=rfl
theorem ajy:∀ i,i<19->(Ph.getD i ByteArray.empty).size<=3:=by decide +kernel
theorem amz {W : World} (h : handlesMet Tryz.prog [("errors.errorType", Rows.laid_errors_errorType)] W) : Hp.RP W := by
 obtain⟨name,u,qK,ay,bz,ez,hH,kg⟩:=h _ (List.mem_singleton.2 rfl);have vH:name=[101,114,114,111,114]:=(Option.some.inj ay).symm;subst vH;obtain rfl:=Option.some.inj (aDh.symm.trans bz);have aS:qK ∈ (List.range 393).filter fun t=>Tryz.prog.rowNamed t [101,114,114,111,114]:=List.mem_filter.2 ⟨List.mem_range.2 (by rw[<-axG];exact ez),hH⟩
 rw[oneRow] at aS;obtain rfl:=List.mem_singleton.1 aS;have hh:typeHandle Tryz.prog 31=.pointer (some ⟨13,31,none⟩):=by kernel_rfl
 rw[hh] at kg;simpa using World.var?_cell aGK kg 0
theorem ZQ {n:String}{d:DataW Unit}{r:List (String × DataW Unit)}{W:World}(h:laidMet Tryz.prog ((n,d)::r) W):∃ g t cs f p,Tryz.prog.globalNamed n=some g/\(Tryz.prog.globals[g]?).map (·.type)=some t/\W.var? Tryz.prog n=some cs/\DataW.trod (fun _=>()) Tryz.prog W 0 (fun _=>true) false f t cs.toList=some (d,p):=by
 obtain⟨ps,⟨g,t,cs,f,p,q,hg,bc,av,hd,_⟩,_⟩:=h;exact⟨g,t,cs,f,p,hg,bc,av,hd⟩
theorem afl {cs:Array Value}{l:List Value}(h:cs.toList=l):cs=l.toArray:=by
 obtain⟨m⟩:=cs;exact congrArg List.toArray h
abbrev aDi : List (String × DataW Unit) -> List (String × DataW Unit) := fun r => ("sloppyscope/lex.words", Rows.laid_sloppyscope_lex_words) :: ("sloppyscope/lex.signs", Rows.laid_sloppyscope_lex_signs) :: ("sloppyscope/tree.signs", Rows.laid_sloppyscope_tree_signs) :: ("sloppyscope/tree.heads", Rows.laid_sloppyscope_tree_heads) :: r
section
variable {W:World} {r:List (String × DataW Unit)}
include W r
theorem atb (h:laidMet Tryz.prog (aDi r) W):Hp.Gl W:=by
 obtain⟨cB,t0,LI,q7,aZ,qu,jQ,qC,m7⟩:=ZQ h;obtain⟨b5,nu,LJ,d5,p1,jw,wE,uq,x3⟩:=ZQ h.tail;obtain⟨ef,t2,HN,dX,cK,mw,eV,e0,cU⟩:=ZQ h.tail.tail;obtain⟨d7,t3,LK,fU,cX,db,kX,EP,x4⟩:=ZQ h.tail.tail.tail;obtain rfl:=Option.some.inj (apQ.symm.trans qu);obtain rfl:=Option.some.inj (apR.symm.trans jw);obtain rfl:=Option.some.inj (akH.symm.trans mw);obtain rfl:=Option.some.inj (akI.symm.trans db);obtain rfl:=Option.some.inj (axE.symm.trans jQ)
 obtain rfl:=Option.some.inj (axF.symm.trans wE);obtain rfl:=Option.some.inj (atc.symm.trans eV);obtain rfl:=Option.some.inj (atd.symm.trans kX);have aK:=afl (YV apV rfl m7);have ay:=afl (YV apW rfl x3);have bz:=afl (amA cU);have ez:=afl (amB x4);obtain⟨ho,H4,I0⟩:=WL apQ qC;obtain⟨gW,H5,I1⟩:=WL apR uq;obtain⟨gC,vK,AN⟩:=WL akH e0;obtain⟨kC,Ab,kU⟩:=WL akI EP
 exact⟨⟨ajz,ajA,ajy,⟨ho,H4,by rw[I0,aK];rfl⟩,⟨gW,H5,by rw[I1,ay];rfl⟩⟩,⟨⟨kC,Ab,by rw[kU,ez]⟩,⟨gC,vK,by rw[AN,bz]⟩⟩⟩
theorem axI (h : laidMet Tryz.prog (("internal/strconv.uint64pow10", Rows.laid_internal_strconv_uint64pow10) :: r) W) : Hp.Y8 W := by
 obtain⟨ef,t2,HN,dX,cK,mw,eV,e0,cU⟩:=ZQ h;obtain rfl:=Option.some.inj (aGL.symm.trans mw);obtain rfl:=Option.some.inj (aGM.symm.trans eV);rw[ata] at cU;unfold Hp.Y8 Lib.TabIs;rw[e0,<-Lib.cells_of_tab Tryz.underlying341 Tryz.underlying320 apS apT cU]
theorem ate (h : laidMet Tryz.prog (("sloppyscope/run.errStopped", Rows.laid_sloppyscope_run_errStopped) :: r) W) : ∃ eb : Addr, W.cell? ⟨1, 0, none⟩ = some (.iface 359 (.pointer (some eb))) := by
 obtain⟨a,s,av,_⟩:=laid_sentinel h avb aDg Tryz.underlying31 axH Tryz.underlying359 Tryz.underlying361 rfl rfl Tryz.underlying9 apU cells9;exact⟨a,by simpa using World.var?_cell avb av 0⟩
end
theorem aDj {W:World}(h1:Hp.Y8 W)(U:Hp.RP W)(aw:Hp.Gl W)(aL:∃ eb:Addr,W.cell? ⟨1,0,none⟩=some (.iface 359 (.pointer (some eb)))):∃ es eb,Hp.Rw W es eb:=by
 obtain⟨eb,aL⟩:=aL;exact⟨_,eb,rfl,aL,U,h1,aw,by have:=aw.li.lt;omega⟩
end
namespace Hp
section
variable {es:OG} {w w':Ov} {eb:Addr}
theorem anj (hg:Rw w es eb){s:OH}{t:Tr}{p:Nat}{I:Nat->Prop}(al:Qd Pn Ph s=.ok t)(az:Qb I w t p):OE 11 #[Oo p] w (Uz w t):=by
 obtain⟨a,rfl,rfl,aw,aL,_⟩:=Qb.ad t p az;exact ay8 hg (RV.mono (fun _ _ _=>trivial) _ aw) aL (fun aj=>(WW al aj).bk Ou) (VZ al).1 (adC al) (VZ al).2
theorem avm:(QI ac6).1=.no/\(QI ac6).2.log=[⟨#[54]⟩]:=by
 have h:=avn;unfold auq at h
 split at h
 ·rename_i aa
  exact⟨aa,of_decide_eq_true h⟩
 ·
  cases h
section
variable {t:Tr} {e:Ending}
theorem Xv (h:Uz w t e w')(aj:chk t false false false=none):OD w w'/\∃ aW aC,e=OQ (.tuple #[ac7 aW aC (aej (QI t).1) (QI t).2.steps (afU (QI t).2.M (QI t).1),Qp])/\w'.ownsRow w.heap.size 9 1 aW (QI t).2.log.length ((QI t).2.log.map Value.string)/\w'.ownsRow w.heap.size 54 2 aC (QI t).2.seen.length ((QI t).2.seen.flatMap sn2):=by
 unfold Uz at h;rw[aj] at h;exact h
theorem Zq {er:Int}(h:Uz w t e w')(aj:chk t false false false=some er):OD w w'/\e=OQ (.tuple #[ac7 QD QD 0 0 ⟨#[]⟩,.iface 34 (Ol er)]):=by
 unfold Uz at h;rw[aj] at h;exact h
end
theorem ay9 (hg:Rw w es eb):OE 10 #[] w fun e w'=>e=OQ (OC true)/\OD w w':=by
 have cE:=abw Pn Ph Zm w hg.gl.li V3 hg.gl.ta;rw[afV] at cE;have HP:=hide (fun X p (ak:OD w X) (az:Qb (From w.heap.size) X ac6 p)=>anj (hg.later ak) afV az);obtain⟨ay,bz⟩:=avm;obtain⟨iB,gg⟩:=xH (QI ac6);rw[<-gg.out] at ay bz;have y3:=hide ay;have jX:=hide bz;clear ay bz;go_enter func10,ntmps10;go_wp2_with fail;refine cm cE ?_;rintro e w1 ⟨p,rfl,az,D⟩;have gE:=(Om HP w1 p D az);clear az;go_wp2_with fail;refine cm gE ?_;intro e w2 U;obtain⟨aF,aW,aC,rfl,hl,ac⟩:=Xv U avo
 rw[<-gg.out] at hl ⊢;obtain⟨qH,wD⟩:=xE ((QI ac6).2.seen.length);obtain⟨n,az⟩:=xE (iB.2.steps:Int);rw[y3.out,<-az];rw[jX.out] at hl;obtain⟨jA,au,jP⟩:=OX ac;rw[<-wD] at jP;obtain⟨la,gs,qw⟩:=OX hl;subst jP qw;obtain⟨LP,IP⟩:=xE (aej .no);obtain⟨ev,bv⟩:=xE (afU iB.2.M .no);rw[<-bv];have ay:aej .no=1:=rfl;rw[ay];obtain⟨ap,qf⟩:=xH (w2.alloc (.cells #[.slice la 1 gs,Ol 1,OB ev,Ol n,.slice jA qH au] 29))
 have iR:ap.heap[w2.heap.size]? = some (O1 #[.slice la 1 gs,Ol 1,OB ev,Ol n,.slice jA qH au] 29):=by rw[qf.out];exact OA _ _
 have br:OD w2 ap:=by rw[qf.out];exact PO
 obtain⟨bA,m1⟩:=xH (ap.alloc (.cells #[OB ⟨#[54]⟩] 9));have dh:OD ap bA:=by rw[m1.out];exact PO
 have D0:=br.trans (dh.mono br.size);have hT:=(D.trans ((aF.trans (D0.mono aF.size)).mono D.size));have tB:=(aj8 [⟨#[54]⟩] (.slice la 1 gs) (.slice (some (Ot ap.heap.size 0)) 1 1) bA (Pe hl D0) (by rw[m1.out];exact World.ownsRow_lit ap #[OB ⟨#[54]⟩] 1 O6 (by unfold maxLen;omega) rfl) Oz)
 obtain⟨cH,bU,cg,eE,lA,_,rl⟩:=cells5 iR;clear wD az IP bv ay iR
 go_wp2_with (first|rw[<-qf.out] | rw[<-m1.out])
 refine cm tB ?_;rintro e b7 ⟨rfl,e3⟩;have iE:=(hT.trans (e3.mono hT.size));go_wp2;go_ret;exact⟨rfl,iE⟩
end
section
variable {es:OG} {w w':Ov} {eb:Addr}
theorem aqP {B n c:Nat}{a:Option Addr}{l l':List OH}(h:Rx B w (.slice a n c) l')(al:l <+: l'):l.length<=c/\Rx B w (.slice a l.length c) l:=by
 obtain⟨r,rfl⟩:=al;obtain⟨_,⟨h1,U⟩|⟨g,cap,cj,h1,U,aw,aL,bE,bX,fY⟩⟩:=h
 ·have h0:l=[]:=List.length_eq_zero_iff.1 (by simp at U;simp[U.1])
  subst h0;cases h1;exact⟨Nat.le_refl _,rfl,.inl ⟨rfl,rfl⟩⟩
 ·
  cases h1;have hl:l.length<=c:=by simp at aL;omega
  refine⟨hl,by simp,.inr ⟨g,c,cj,rfl,U,aw,hl,bE,bX,?_⟩⟩;have fQ:=congrArg (List.take l.length) fY;rw[List.take_take] at fQ;simp at fQ;simpa using fQ
theorem aFP (W:Ov)(k:Nat)(E:k<10)(b:Nat)(D:W.heap[b]? = some (O1 #[.int .u8 (48+(k:Int))] 5)):(convert 42 9 (.slice (some (Ot b 0)) 1 1)).run prog W=.ok (OB (dPd k)) W:=by
 refine run_convert_bytes_back W 42 9 5 (Ot b 0) 1 [UInt8.ofNat (48+k)] underlying42 underlying5 underlying9 fun j aN=>?_;have I4:j=0:=by simp at aN;exact aN
 subst I4;have e:((UInt8.ofNat (48+k)).toNat:Int)=48+(k:Int):=by
  have:(UInt8.ofNat (48+k)).toNat=48+k:=by rw[UInt8.toNat_ofNat'];omega
  rw[this];push_cast;rfl
 show W.cell? (Ot b 0)=some (.int .u8 ((UInt8.ofNat (48+k)).toNat:Int))
 rw[e,cell_of D];rfl
theorem aqQ {G:Prop}(h:G:=by
 go_wp2_with fail;refine cm (pick_any a0 10 Oz Oz _) ?_;rintro e fA ⟨⟨k,E,rfl⟩,rfl⟩;have hk10:k<10:=Ou;obtain⟨ap,ix⟩:=xE ((w2.alloc (.cells #[.int .u8 (48+(k:Int))] 5)).drew);have kj:ap.heap[w2.heap.size]? = some (O1 #[.int .u8 (48+(k:Int))] 5):=by rw[ix];exact OA _ _
 have ci:=aFP ap k hk10 w2.heap.size kj;have qf:=hide ix;have hds:(dPd k).size=1:=rfl;have f0:¬ 9223372036854775807<7+(dPd k).size:=Ou;have eS:¬ 9223372036854775807<7+(dPd k).size+3:=Ou;have Az:¬ 9223372036854775807<s.size+1:=by have:¬ 2000<s.size:=Om CQ;omega
 have IJ:¬ 9223372036854775807<s.size+1+(7+(dPd k).size+3):=by have:¬ 2000<s.size:=Om CQ;omega
 have d3:OD w ap:=by rw[ix];exact(cq.alloc cq.size _).drew
 have qV:Qb (From w.heap.size) ap t p:=by rw[ix];exact Qb.later (Below.stay (PO.drew)) _ _ jc
 clear ix kj hds
 go_wp2_with (rw[<-qf.out])
 rw[ayP,ayO];refine cm (Om p' (jn s (sPd k)) ap d3) ?_;have aN:=Om mX k hk10;clear ci f0 eS Az IJ;intro e bA aL
 rcases aN with aN|⟨T,xs,rfl,aN⟩
 ·rw[aN] at aL;obtain⟨rfl,dh⟩:=aL;have iD:=(d3.trans (dh.mono d3.size));have eM:=(Zt 4 bA (Om jp _ iD));clear dh aN;go_wp2_with fail;refine cm eM ?_;rintro e b7 ⟨rfl,e3⟩;have iE:=(iD.trans (e3.mono iD.size));clear e3;go_wp2;go_ret;exact⟨rfl,iE⟩
 ·rw[aN] at aL;obtain⟨q,rfl,oX,dh⟩:=aL;have Eu:Qb (From w.heap.size) bA (.mk 1 T 0 (xs++[YZ (dPd k)])) q:=Qb.mono (fun b D _=>Nat.le_trans d3.size D) _ _ oX;have qW:=Qb.later (Below.stay dh) _ _ qV;have iD:=(d3.trans (dh.mono d3.size));have gw:=(Om G0 bA bA p iD QX qW);have fm:=hide (fun Y cw=>Om G6 bA Y _ _ q iD cw aN Eu);have ej:=ayL T xs (dPd k);clear oX Eu dh
  cases aj:chk (.mk 1 T 0 xs) false false false with
  | some er=>
   have ai:=hide aj;have f4:=hide (ej.trans aj);clear aj ej aN
   generalize Tr.mk 1 T 0 xs=qI at gw ai
   generalize Tr.mk 1 T 0 (xs++[YZ (dPd k)])=rJ at fm f4
   go_wp2_with fail;refine cm gw ?_;intro e b7 bE;obtain⟨e3,rfl⟩:=Zq bE ai.out;obtain⟨ch,g6⟩:=xE (b7.alloc (.cells #[QD,Ol 0,PN,Ol 0,QD] 29));have e4:OD b7 ch:=by rw[g6];exact PO
   have sG:=e3.trans (e4.mono e3.size);have oc:=(iD.trans (sG.mono iD.size));have g':=(Om fm ch sG);have q5:=hide g6;clear bE e3 g6 e4 sG;go_wp2_with fail;rw[<-q5.out];refine cm g' ?_;intro e dT fY;obtain⟨fR,rfl⟩:=Zq fY f4.out;obtain⟨b1,bx⟩:=xE (dT.alloc (.cells #[QD,Ol 0,PN,Ol 0,QD] 29));have d8:OD dT b1:=by rw[bx];exact PO
   have te:=(oc.trans (fR.mono oc.size));have nw:=(te.trans (d8.mono te.size));have Hd:=(Zt er b1 (Om jp _ nw));have zH:=hide (fun X (ak:OD b1 X)=>Zt er X (Om jp _ (nw.trans (ak.mono nw.size))));have sc:=hide bx;clear fY fR bx d8;go_wp2_with fail;rw[<-sc.out];refine cm Hd ?_;rintro e jU ⟨rfl,j4⟩;have zI:=(Om zH jU j4);have uN:=(nw.trans (j4.mono nw.size));clear j4;go_wp2_with fail;refine cm zI ?_;rintro e Fk ⟨rfl,DZ⟩;have FE:=(uN.trans (DZ.mono uN.size));clear DZ;go_wp2;go_ret
   exact⟨rfl,FE⟩
  | none=>
   obtain⟨hpre,halt⟩:=ayN T xs (dPd k) ((WW aN (ej.trans aj)).bk Ou);have ip:=(ahj ((WW aN (ej.trans aj)).bk Ou)).2;have ai:=hide aj;have f4:=hide (ej.trans aj);clear aj ej aN
   generalize Tr.mk 1 T 0 xs=qI at gw ai hpre halt
   generalize Tr.mk 1 T 0 (xs++[YZ (dPd k)])=rJ at fm f4 hpre halt ip
   obtain⟨c,bY⟩:=xE (aej (QI qI).1);obtain⟨x,ae⟩:=xE (afU (QI qI).2.M (QI qI).1);obtain⟨n,he⟩:=xE ((QI qI).2.steps:Int);obtain⟨l,hl⟩:=xE ((QI qI).2.log);obtain⟨s2,ac⟩:=xE ((QI qI).2.seen);obtain⟨en,AA⟩:=xE (aej (QI rJ).1);obtain⟨x',sV⟩:=xE (afU (QI rJ).2.M (QI rJ).1);obtain⟨mH,Ew⟩:=xE ((QI rJ).2.steps:Int);obtain⟨l',rp⟩:=xE ((QI rJ).2.log);obtain⟨BU,EG⟩:=xE ((QI rJ).2.seen);have iu:l'.length<=1000000000:=by have:=ip.lg;rw[rp];omega
   rw[<-hl,<-rp] at hpre;have hend:c=1\/((c==1)=false/\en=c/\x'=x/\l'=l):=by
    cases aq:(QI qI).1 with
    | no=>exact .inl (by rw[bY,aq];rfl)
    | _=>
     rcases halt with h|h
     ·rw[aq] at h;cases h
     ·exact .inr ⟨by rw[bY,aq];rfl,by rw[bY,AA,h],by rw[ae,sV,h],by rw[hl,rp,h]⟩
   have GO:Hid (∀ X e w',Uz X qI e w'->OD X w'/\∃ la gs jA au,e=OQ (.tuple #[ac7 (.slice la l.length gs) (.slice jA s2.length au) c n x,Qp])/\Rx X.heap.size w' (.slice la l.length gs) l):=fun X e w' h=>by
    obtain⟨h1,aW,aC,U,aw,aL⟩:=Xv h ai.out;rw[<-bY,<-ae,<-he] at U;rw[<-hl] at aw;rw[<-ac] at aL;obtain⟨la,gs,rfl⟩:=OX aw;obtain⟨jA,au,rfl⟩:=OX aL;exact⟨h1,la,gs,jA,au,U,aw⟩
   have GP:Hid (∀ X e w',Uz X rJ e w'->OD X w'/\∃ la gs jA au,e=OQ (.tuple #[ac7 (.slice la l'.length gs) (.slice jA BU.length au) en mH x',Qp])/\Rx X.heap.size w' (.slice la l'.length gs) l'):=fun X e w' h=>by
    obtain⟨h1,aW,aC,U,aw,aL⟩:=Xv h f4.out;rw[<-AA,<-sV,<-Ew] at U;rw[<-rp] at aw;rw[<-EG] at aL;obtain⟨la,gs,rfl⟩:=OX aw;obtain⟨jA,au,rfl⟩:=OX aL;exact⟨h1,la,gs,jA,au,U,aw⟩
   have FW:=hide hend;clear ip halt bY ae he hl ac AA sV Ew rp EG hend;go_wp2_with fail;refine cm gw ?_;intro e b7 bE;obtain⟨e3,la,gs,jA,au,rfl,Ei⟩:=Om GO _ _ _ bE;obtain⟨ch,g6⟩:=xE (b7.alloc (.cells #[.slice la l.length gs,Ol c,OB x,Ol n,.slice jA s2.length au] 29));have ry:ch.heap[b7.heap.size]? = some (O1 #[.slice la l.length gs,Ol c,OB x,Ol n,.slice jA s2.length au] 29):=by rw[g6];exact OA _ _
   have e4:OD b7 ch:=by rw[g6];exact PO
   have sG:=e3.trans (e4.mono e3.size);have oc:=(iD.trans (sG.mono iD.size));have g':=(Om fm ch sG);have xr:=(abo (Pe Ei e4) (Nat.zero_le _));have bW:=hide ry;have q5:=hide g6;clear bE e3 g6 e4 sG Ei ry;go_wp2_with fail;rw[<-q5.out];refine cm g' ?_;intro e dT fY;obtain⟨fR,BL,yv,Fe,Ff,rfl,wi⟩:=Om GP _ _ _ fY;obtain⟨b1,bx⟩:=xE (dT.alloc (.cells #[.slice BL l'.length yv,Ol en,OB x',Ol mH,.slice Fe BU.length Ff] 29))
   have d1:b1.heap[dT.heap.size]? = some (O1 #[.slice BL l'.length yv,Ol en,OB x',Ol mH,.slice Fe BU.length Ff] 29):=by rw[bx];exact OA _ _
   have d8:OD dT b1:=by rw[bx];exact PO
   have xZ:=fR.trans (d8.mono fR.size);have CH:=hide (stays xZ bW.out);have lL:=hide d1;have nw:=(oc.trans (xZ.mono oc.size));have hlow:=abo (Pe wi d8) (Nat.zero_le _);obtain⟨hcap,ng⟩:=aqP hlow hpre;have gc:=hpre.length_le;have tB:=hide (fun X (ak:OD b1 X)=>aj8 l (.slice BL l.length yv) (.slice la l.length gs) X (Pe ng ak) (Pe (Pe xr xZ) ak) Ou);have I2:¬ (l'.length:Int)<(l.length:Int):=Ou;have jM:(l.length:Int)<=(yv:Int):=Ou;have sc:=hide bx
   obtain⟨cH,bU,cg,eE,lA,_,rl⟩:=cells5 CH.out;obtain⟨cG,b4,bT,eg,lz,_,Fb⟩:=cells5 lL.out;clear fY fR bx d8 xZ d1 wi hlow ng hpre
   go_wp2_with (rw[<-sc.out])
   refine TI 16 fun ab=>?_;refine up 0 dT.heap.size 0 ab ?_;refine uk 1 cG ab ?_;refine uh 2 (Ol l'.length) ab ?_;refine up 3 b7.heap.size 0 ab ?_;refine uk 4 cH ab ?_;refine uh 5 (Ol l.length) ab ?_;refine uh 6 (OC false) ab ?_;refine uh 7 (OC false) ab ?_;refine up 8 dT.heap.size 0 ab ?_;refine uk 9 cG ab ?_;refine up 10 b7.heap.size 0 ab ?_;refine uk 11 cH ab ?_;refine uh 12 (Ol l.length) ab ?_;refine up 14 b7.heap.size 0 ab ?_;refine uk 15 cH ab ?_;refine P5 13 fun K A=>?_;go_simp;refine A.out _ _ (fun _=>ab) ?_;clear A K
   refine P5 16 fun K A=>?_;go_simp;refine cm (Om tB _ ab) ?_;rintro e jU ⟨rfl,j4⟩;refine ko A ?_;clear A K;refine uz 17 (OC false) ?_;refine uz 18 (OC false) ?_;refine Sl ?_ _;go_simp;have x0:=ab.trans (j4.mono ab.size);have uN:=(nw.trans (x0.mono nw.size));clear cH bU cg eE lA rl cG b4 bT eg lz Fb;obtain⟨cH,bU,cg,eE,lA,_,rl⟩:=cells5 (stays x0 CH.out);obtain⟨cG,b4,bT,eg,lz,_,Fb⟩:=cells5 (stays x0 lL.out);have hend:=Om FW;clear j4 x0 ab I2 jM hcap gc iu
   rcases hend with rfl|⟨f0,rfl,rfl,rfl⟩
   ·go_wp2;go_ret;exact⟨rfl,uN⟩
   ·go_wp2;go_ret;exact⟨rfl,uN⟩):G:=h
theorem aHv (s:OH)(a0:Int)(hg:Rw w es eb):OE 4 #[OB s,Ol a0] w fun e w'=>e=OQ (OC true)/\OD w w':=by
 have dj:=abw Pn Ph s w hg.gl.li V3 hg.gl.ta;have zx:=hide (fun X (ak:OD w X)=>ay9 (hg.later ak));have jp:=hide (fun X (ak:OD w X)=>(hg.later ak).et)
 cases al:Qd Pn Ph s with
 | ok t=>
  rw[al] at dj
  by_cases aI:2000<s.size
  ·have J4:(2000:Int)<(s.size:Int):=Ou;clear hg al aI;go_enter func4,ntmps4;go_wp2_with fail;refine cm dj ?_;rintro e w1 ⟨p,rfl,az,D⟩;have bL:=D;clear az D;exact aDR
  ·have J4:¬ (2000:Int)<(s.size:Int):=Ou;have p':=hide (fun X W (a1:OD w W)=>parse_any Pn Ph X W (hg.later a1).gl.li V3 (hg.later a1).gl.ta);have mX:Hid (∀ k,k<10->Qd Pn Ph (jn s (sPd k))=.bare\/∃ T xs,t=.mk 1 T 0 xs/\Qd Pn Ph (jn s (sPd k))=.ok (.mk 1 T 0 (xs++[YZ (dPd k)]))):=fun k E=>aum Ou al k E;have G0:=hide (fun X Y p (ak:OD w X) (cw:OD X Y) (az:Qb (From w.heap.size) X t p)=>anj (hg.later (ak.trans (cw.mono ak.size))) al (Qb.later (Below.stay cw) _ _ az))
   have G6:=hide (fun X Y fd t' p (ak:OD w X) (cw:OD X Y) (Jo:Qd Pn Ph fd=.ok t') (az:Qb (From w.heap.size) X t' p)=>anj (hg.later (ak.trans (cw.mono ak.size))) Jo (Qb.later (Below.stay cw) _ _ az));have CQ:=hide aI;have Dv:t.kids.length<=1500:=by
    have h1:=S9 t.kids;have U:t.count=1+Tr.counts t.kids:=by cases t with|mk kd tx gt ks=>exact count_mk _ _ _ _
    have aw:=(VZ al).2;omega
   have jb:=hide Dv;clear hg al aI Dv;go_enter func4,ntmps4;go_wp2_with fail;refine cm dj ?_;rintro e w1 ⟨p,rfl,az,D⟩;have bL:=D;have dB:=az;clear az D;go_wp2_with fail;refine cm (Om zx w1 bL) ?_;rintro e w2 ⟨rfl,aF⟩;have cq:=(bL.trans (aF.mono bL.size));have jc:=Qb.later (Below.stay aF) _ _ dB;clear aF;obtain⟨eP,c0,_,u,c3,aa⟩:=(Qb.nt jc).cells;obtain⟨va,dD,rfl⟩:=aa.form
   by_cases h0:t.kids.length=0
   ·have H8:¬ (0:Int)<(t.kids.length:Int):=Ou;go_wp2_with fail
    go_region
    clear h0 H8 c0 c3 eP aa;exact aqQ
   ·obtain⟨g,cap,bD,aT,_,gB,Ey⟩:=aa.cell (t.kids.length - 1) Ou;obtain⟨o6,nO,_,_⟩:=Ey.cells;simp only[Value.slice.injEq] at aT;obtain⟨rfl,_,rfl⟩:=aT
    generalize t.kids[t.kids.length - 1].kd=uC at nO
    obtain⟨L,dr⟩:=xE t.kids.length;have Dx:=Om jb;rw[<-dr] at c3 gB h0 Dx;have Ib:0<L:=Ou;have Ia:((L:Int) - 1).toNat=L - 1:=Ou;have Id:IntKind.i64.wrap ((L:Int) - 1)=(L:Int) - 1:=IntWalk.i64_in ((L:Int) - 1) ⟨by omega,by omega⟩;have Ic:wrap64 ((L:Int) - 1)=(L:Int) - 1:=by unfold wrap64;omega
    have H9:(0:Int)<=(L:Int) - 1:=Ou;have H':(L:Int) - 1<(L:Int):=Ou;clear aa Ey dr c0
    by_cases fY:uC=7
    ·subst fY;go_wp2_with fail
     go_region
     go_wp2;go_ret;exact⟨rfl,cq.drew⟩
    ·have ue:(uC==7)=false:=by simpa using fY
     have I8:decide (uC=7)=false:=by simpa using fY
     go_wp2_with fail
     go_region
     clear h0 Ib Ia H9 H' Id Ic Dx gB nO ue I8 fY o6 c3 eP;exact aqQ
 | _=>
  rw[al] at dj;clear hg al;go_enter func4,ntmps4;go_wp2_with fail;refine cm dj ?_;rintro e w1 ⟨rfl,D⟩;have bL:=D;clear D;exact aDR
