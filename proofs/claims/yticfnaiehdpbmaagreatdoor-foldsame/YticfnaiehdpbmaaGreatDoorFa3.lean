import Derived.Test.YticfnaiehdpbmaaGreatDoorFa2
import Derived.Test.YticfnaiehdpbmaaGreatDoorProg
import Derived.WalkSpells
import Derived.WalkLawsBesides
import Derived.Lib.Bytealg
import Derived.Laws.Rows
import Derived.ProofKit
import Derived.OpenShut
import Derived.Stop.Joined
import Derived.Laws.IdiomStrings
set_option maxRecDepth 100000
set_option maxHeartbeats 8000000
set_option linter.all false
namespace Go.Proofs.YticfnaiehdpbmaaGreatDoor
open Go.RowKit Go.Proofs.Tryz
section
variable {G L:Prop}
def Cj (h:G:=by
  have d6:=O4 cY aG (Tf.kp bU _ bL.at_);have b{G}(h:G:=by
  have eW:=dp;go_wp2_with fail
  go_loopw [41] (λn wr=>∃ (j:Nat) (da:Px),j<=ah.length/\n=O3 j/\Mx M k I z bc a6 be da wr (kU ⟨a,q,r⟩ s j D)/\SL k a1 aQ be da w wr/\wr.heap[W]? = some (PZ #[O3 a,O3 q,Pv r,.pointer o] 73)/\wr.heap[H]? = some (PZ #[O3 0,O3 0,Pv false,Ry] 73)/\Kp bB wr) (λn _=>ah.length - (intOf n).toNat)
  case atStart=>exact⟨0,_,f3 _,rfl,d9,d8,ea.out,d7.out,λ_ _ _ h _=>h⟩
  case round=>
   obtain⟨j,da,eL,rfl,aZ,bT,cn,a7,bV⟩:=hrel;have b{G}(h:G:=by
   by_cases ax:j<ah.length
   ·obtain⟨eP,eN,B,dU,bO,fm⟩:=(eW.kp aj).cell j ax;have b{G}(h:G:=by
    have b{G}(h:G:=by
    obtain⟨bM,aD⟩:=xE (kU ⟨a,q,r⟩ s j D);rw[<-aD] at ac;have b7:Sz (am+5000+2 * j) bM:=by rw[aD];exact Sz.kU _ s j dN O9
    have dT:=O4 eQ s[j] (gT _);have cU:=Y (λL (i:Pn wr L)=>q5 (ac.fH i) (bQ.kp (Kp.of i)) dT b7 O9 ⟨a,q,r⟩ o);obtain⟨dS,cS⟩:=xE ((f5 s[j] ⟨a,q,r⟩ bM).1);obtain⟨ch,cg⟩:=xE ((f5 s[j] ⟨a,q,r⟩ bM).2);rw[<-cS,<-cg] at cU;have e1:Sz (am+5000+2 * j+1) ch:=by rw[cg];exact b7.f5 _ _
    have dY:=Y (λL cT (i:Mx M k I z bc a6 be cT L ch)=>aw6 i e1 O9 q x dS);have dV:({ ch with M:=(ch.M.write q x dS).2 }:St)=kU ⟨a,q,r⟩ s (j+1) D:=by
     rw[GA _ s j D dh,<-aD];unfold ql;rw[<-cg,<-cS,<-E]
    rw[dV] at dY;obtain⟨aF,cZ⟩:=xE ((ah[j]).p);rw[<-cZ] at bO d5 aY cU;have dX:∃ e,wr.heap[aF]? = some (PZ e 40):=by
     have ad:=bQ.at_;rw[cZ]
     cases p:ah[j] with
     | mk aI fo fq bz fp=>
      rw[p,Tf] at ad;obtain⟨_,_,⟨v,O,_⟩,_⟩:=ad;exact⟨_,O⟩
    have e2:=Y dX;have eO:=Y aY;clear E aD dT cS cg dV cZ dX aY;go_wp2_with fail;clear bO dU;have dQ:wr.drew.heap[W]? = some (PZ #[O3 a,O3 q,Pv r,.pointer o] 73):=fQ (f2 wr.heap.size wr).drew bC.out;have A:wr.drew.heap[W]? = some (PZ #[O3 a,O3 q,Pv r,.pointer o] 73)/\wr.drew.cell? (O7 aF 1)=some (Pj x):=⟨dQ,PN (f2 wr.heap.size wr).drew eO.out⟩;have ba:Pn wr wr.drew:=RP.drew
    refine Qq 13 (λL=>L.heap[W]? = some (PZ #[O3 a,O3 q,Pv r,.pointer o] 73)/\L.cell? (O7 aF 1)=some (Pj x)) Qs ?_;refine up 0 k 0 A ?_;refine up 1 k 0 A ?_;refine up 2 k 0 A ?_;refine up 3 W 1 A ?_;refine uc 4 (O3 q) rfl (fM ⟨by kernel_rfl,λL i=>by have aO:=(fN i.1).2.1;go_simp⟩) (A) ?_
    refine up 5 aF 0 A ?_;refine up 6 aF 0 A ?_;refine up 7 aF 1 A ?_;refine uc 8 (Pj x) rfl (fM ⟨by kernel_rfl,λL i=>by have aO:=i.2;go_simp⟩) (A) ?_
    refine up 9 k 0 A ?_;refine up 10 aF 0 A ?_;refine uc 11 (.agg #[O3 a,O3 q,Pv r,.pointer o]) rfl (fM ⟨by kernel_rfl,λL i=>by have aO:=(fN i.1).1;have ad:=(fN i.1).2.1;have ak:=(fN i.1).2.2.1;have dR:=(fN i.1).2.2.2.1;go_simp⟩) (A) ?_
    refine Rl 12 λK c=>?_;go_simp;refine cm (O4 cU _ ba) ?_;rintro m bK ⟨rfl,e0,cf,t⟩;have b6:=ac.fH ba;have db:=(t.jn (o:=none) b6).fR A.1 Pm;have dO:bK.cell? (O7 aF 1)=some (Pj x):=by
     obtain⟨e,O⟩:=O4 e2;exact(t.kp b6).YJ A.2 ⟨e,fQ ba O⟩
    refine c.out _ _ (λ_=>⟨db,dO⟩) ?_;clear c K;have fl:=cf.lt;have cV:=cf;have c8:=(aK.trans (SL.of ba (P6 bY))).trans t;have dd:=Y db;have c9:=Y ((t.jn (o:=none) b6).fR (fQ ba au.out) Pm);have dc:Kp bB bK:=λN e m O p=>t.kp b6 N e m (Kp.of ba N e m (aj N e m O p) p) p;clear db dO;refine Rl 13 λK c=>?_;go_simp;refine cm (O4 dY _ _ cV) ?_;rintro m eT ⟨rfl,eU,b9⟩;refine ko c ?_;clear c K;have eM:=eU;have eX:=c8.Ya b9;have eZ:=Y (b9.rest _ _ _ dd.out Pm)
    have eV:=Y (b9.rest _ _ _ c9.out Pm);have eY:Kp bB eT:=λN e m O p=>Ql.kp b9 N e m (dc N e m O p) p;clear A dQ;refine TQ ?_ _;go_simp;go_wp2_with fail;exact⟨⟨j+1,e0,by omega,by go_num,eM,eX,eZ.out,eV.out,eY⟩,by simp[intOf];omega⟩):=O6 h;exact II):=O6 h;exact UM
   ·have b{G}(h:G:=by
    obtain⟨bK,ck⟩:=xE ((((wr.setCell (O7 H 0) (O3 a)).setCell (O7 H 1) (O3 q)).setCell (O7 H 2) (Pv r)).setCell (O7 H 3) (.pointer o));rw[<-ck];have dn:=lR au.out (O3 a) (O3 q) (Pv r) (.pointer o);have eS:k<=H:=by have:=O4 cl;omega
    have t:=UY au.out eS (O3 a) (O3 q) (Pv r) (.pointer o);have b{G}(h:G:=by
    refine Xp (v:=Qy ⟨a,q,r⟩ o) ?_;rw[dP.out];rw[eR] at bS;exact⟨rfl,_,_,bS,dm⟩):=O6 h;exact Dm):=O6 h;exact Lu):=O6 h;exact Ao):=O6 h;exact AV):G:=h
def L1 (h:G:=by
  obtain⟨u0,u1,u2,dS,dT,dU,dV⟩:=Qb bL.out;exact rF):G:=h
def rh (h:G:=by
  have d{G}(h:G:=by
  intro m M z;obtain⟨v,rfl,z⟩:=Y4 z;have W:=Y ((z.out (B:=g) (f9 k a.size)).trans a);refine pI ?_;clear p K;refine uz 17 v ?_;exact qg):=O6 h;exact J6):G:=h
def sw (h:G:=by
  refine UC 8 λa=>?_;refine kI ?_;refine vg ?_;refine jS 8 12 (λK c=>?_) λK c=>?_
  ·go_simp;refine l9 ?_;have b{G}(h:G:=by
   refine t6 ?_;refine uaZ 12 ?_;refine n6 ?_;have ac:=SB.late (o:=A) aG ah ((P8.of a (P6 bO)).trans ax) bM;exact rd):=O6 h;exact mI
  ·go_simp;refine kG ?_;clear c K;refine Rl 8 λK c=>?_;go_simp;refine ov ?_;have b{G}(h:G:=by
   have f:aI.heap[w2.heap.size]? = some (PZ #[Pv false,O3 0,O3 0,Qn] 67):=ax.TL (bc.fH (QJ.drew)) (Ph _ _) Pm Pm;obtain⟨dc,cK,dg,dh,cM,cP,cR,cT,di⟩:=RN (f);refine t6 ?_;refine n6 ?_;have ac:=SB.early (o:=A) f Qp (P6 bO) aG ah ((P8.of (QJ.drew) (P6 bO)).trans ax) bM
   generalize (((aI.setCell (O7 w2.heap.size 0) (Pv A.ret)).setCell (O7 w2.heap.size 1) (O3 A.v.k)).setCell (O7 w2.heap.size 2) (O3 A.v.n)).setCell (O7 w2.heap.size 3) (Pj A.v.s)=wz at ac ⊢
   generalize w2.heap.size=D at ac ⊢
   exact aN wz D s ac):=O6 h;exact mI):G:=h
def A8 (h:G:=by
  obtain⟨B,aQ⟩:=xE ((o.alloc (.cells #[O5 s,O3 d,Pv p] 211)).drew);rw[<-aQ];have aF:B.heap[o.heap.size]? = some (PZ #[O5 s,O3 d,Pv p] 211):=by
   rw[aQ];exact Ph o _
  have aD:Pn o B:=by
   rw[aQ];exact QJ.drew
  obtain⟨cR,b7⟩:=xE o.heap.size;rw[<-b7] at aF ⊢;have bc:Pn w B:=aC.trans (aD.mono aC.size);have aI:=di.fH bc;obtain⟨ax,aY⟩:=aI.hh.at_ 7 _ rfl;obtain⟨cp,cr,ac,cu⟩:=aI.fu;obtain⟨cY,dq,b3⟩:=PW ac;have cA:=Y (fX aF);have cC:=Y (fQ aD bF.out);have cO:=dj.kp (Kp.of bc);rw[<-aV.out] at b3;subst b3;have bq:=Y ax;have cJ:k<B.heap.size:=by have:=aD.size;omega
  have dC:cR<B.heap.size:=fI aF;clear aF aD ax aY ac aQ b7 aC cq cr cu cp cZ cV c8;go_wp2_with fail;refine UC 7 λa=>?_;refine iy ?_;refine up 3 k 9 a ?_;refine uk 4 bq.out a ?_;refine jN 5 cA.out a ?_;refine Rl 6 λK c=>?_;go_simp;refine kG ?_;clear c K;refine Rl 7 λK c=>?_;have bo:=aI.fH (w':=B.drew.alloc (.cells #[O5 s,O3 d,Pv p] 211)) (RP.drew.alloc P7 _);obtain⟨dB,bM,bU,b6⟩:=bo.fu;have ac:=bU;rw[<-aV.out] at ac
  refine step_append_lies _ rfl _ _ 82 rfl k 211 dk _ 3 24 underlying82 dg dh da de rfl Pm _ _ _ rfl ac (O7 B.heap.size 0) 1 1 [O5 s,O3 d,Pv p] rfl rfl (W6 B.drew _ rfl s d p) (Mt s d p) Pm (by unfold maxLen;omega) O9 RQ (B.heap.size+1) P7 ?_
  intro bW bV a1 hown4 bn b1 cS;refine ko c ?_;clear c K;obtain⟨aN,cK⟩:=bo.aHG (d:=u) (a:=⟨ah,d,p⟩) (cO.kp (Kp.of (RP.drew.alloc P7 _))) (b:=.slice (some (O7 bW 0)) (bz+1) bV) bn bM bU b6 (by rw[<-aV.out];rw[dd.out] at hown4;exact hown4) (λs T=>by
   simp only[Value.ownBlock,hc] at T;subst T
   rcases b1 with h|h
   ·exact .inl h
   ·right;simp;omega)
  obtain⟨dp,dn⟩:=(bo.hh.fR (a:=[211]) (j:=k) (w':=a1) (Ql.grown bn RQ λj ai=>by
   obtain⟨e,cy⟩:=QM ac ai;exact⟨(ac.lt j ai).1,e,211,cy,by simp⟩) Pm Pm Pm Pm Pm).at_ 7 _ rfl
  have au:=aN;have bL:=(SL.of ((f2 _ B).drew.alloc P7 _) (P6 cJ)).trans cK;have a7:=Y ((bL.jn (o:=none) aI).rest H _ 65 cC.out Pm P7);have bI:=(SL.of bc (P6 dc)).trans bL;have dD:k<a1.heap.size:=by have:=bn.size;simp at this;omega
  clear aN b1 cS b6 bM;refine uz 8 (PL k 0) ?_;refine uz 9 (PL k 9) ?_;refine uaZ 10 ?_;refine TQ ?_ _;go_simp;obtain⟨bO,bY⟩:=xE (a1.setCell (O7 k 9) (.slice (some (O7 bW 0)) (bz+1) bV));rw[<-bY] at au bI a7 ⊢;clear bY;obtain⟨ax,aY⟩:=au.hh.at_ 7 _ rfl;have aN:=au.lt;have bq:=Y ax;have cP:=Y (λL (i:Pn bO L)=>v7 (au.fH i).hh c9 dl.out (3+((bz:Int)+1) - 1));clear ax aY;have dE:H<bO.heap.size:=fI a7.out;go_wp2_with fail;refine UC 10 λa=>?_;refine up 0 k 0 a ?_
  refine up 1 k 0 a ?_;refine up 2 k 0 a ?_;refine up 3 k 0 a ?_;refine up 4 k 0 a ?_;refine up 5 k 9 a ?_;refine uk 6 bq.out a ?_;refine uh 7 (O3 ((bz:Int)+1)) (a) ?_;refine uh 8 (O3 (3+((bz:Int)+1))) (a) ?_ (bi:=fM ⟨by kernel_rfl,λ_ _=>by go_simp;exact m1 _ O9⟩)
  refine uh 9 (O3 (3+((bz:Int)+1) - 1)) (a) ?_ (bi:=fM ⟨by kernel_rfl,λ_ _=>by go_simp;exact m1 _ O9⟩)
  refine Rl 10 λK c=>?_;go_simp;refine cm (O4 cP _ a) ?_;rintro m cB ⟨rfl,cw,bf⟩;rw[<-dm.out];refine ko c ?_;clear c K;have bK:=(au.fH a).heap cw bf;have cM:=bI.trans ((SL.of a (P6 aN)).trans (SL.jR bf));have bZ:=Y (bf.rest H _ 65 (fQ a a7.out) Pm);refine Rl 11 λK c=>?_;go_simp;obtain⟨C,a6⟩:=xE (UH cf);have b4:=th cf cB;rw[<-a6] at b4;have cD:=Y a6;clear a6;refine cm b4 ?_;rintro m cG ⟨rfl,aK⟩;refine ko c ?_;clear c K;have cn:=bK.fH aK
  have cQ:=cM.trans (SL.of aK (P6 bK.lt));obtain⟨dt,ds,dx,aG,dF⟩:=fX (fQ aK bZ.out);have dy:=aG 0;have dz:=aG 1;have dA:=aG 2;have b0:=Y (fQ aK bZ.out);clear aG;refine uaZ 12 ?_;refine TQ ?_ _;go_simp;go_wp2_with fail;obtain⟨dr,bQ⟩:=xE (((cG.setCell (O7 H 0) (O3 C.k)).setCell (O7 H 1) (O3 C.n)).setCell (O7 H 2) (Pj C.s));rw[<-bQ];have bT:=lq b0.out (O3 C.k) (O3 C.n) (Pj C.s);have cL:k<=H:=by have:=O4 b9;omega
  have bS:=Tn b0.out cL (O3 C.k) (O3 C.n) (Pj C.s);have bR:=cQ.new bS (UU b9.out _ _ _);have aZ:=cn.ie bS Pm;rw[<-bQ] at bT bR aZ;obtain⟨bm,be,bj,_,_⟩:=fX bT;rw[<-cD.out];refine XW (v:=vA C) ⟨rfl,_,?_,bR⟩;have cz:3+((bz:Int)+1) - 1=3+(g.Ri.length:Int):=by rw[<-aV.out];omega
  rw[cz] at aZ;exact aZ):G:=h
def qM (h:G:=by
  clear F aW b3 aY b6 f c;go_enter func53,jC;have b{G}(h:G:=by
  have aI:=Y (am.fR s.out Pm);have b{G}(h:G:=by
  have E:=O4 a8 wz T aC a1;rw[<-ac.out] at be A E;rw[<-b1.out] at E;have b{G}(h:G:=by
  rintro m bD ⟨⟨bA,rfl,aX⟩,ah,ax,bC⟩;have aV:=Y (ax.TL a1 aN.out Pm Pm);have bB:=bv.up.trans ax;clear ai aO aj aD aF A be;obtain⟨u0,u1,u2,u3,bF,bL,bM,bS,bR⟩:=RN aV.out;go_wp2_with fail;obtain⟨a6,bq,aQ,bx,ba,bn,bm,bj,bo⟩:=kH aV.out a7.out aS bB ah (Pv false) (O3 0) (O3 0) (Qn);rw[<-bq];refine pQ (v:=.tuple #[Xo RS,bA]) ?_;exact⟨⟨_,rfl,aX.Rf aQ Pm⟩,ba,bx,bC.Uy aQ⟩):=O6 h;exact sv):=O6 h;exact rp):=O6 h;exact mx):G:=h
def Le (h:G:=by
  have ee:=cD;have eY:=cB.lt;clear dC;go_wp2_with fail
  go_loopw [70] (λn wr=>∃ j:Nat,j<=f.length/\n=O3 j/\Mx M k aG ac aQ aN D I wr (kL l f j am)/\SL k D I D I w wr/\wr.heap[W]? = some (PZ #[O3 l,O3 q,Pv r,.pointer o] 73)/\SQ cu.heap.size wr (.slice eH f.length eG) f/\Kp E wr) (λn _=>f.length - (intOf n).toNat)
  case atStart=>exact⟨0,f3 _,rfl,cB,dy,dB.out,ee,dz⟩
  case round=>
   obtain⟨j,e0,rfl,ba,cq,bc,cx,cz⟩:=hrel;have ax:=ba;have bm:=cq;have ah:=Y bc;have aZ:=cx;have aF:=cz;have bM:=ba.lt;clear bc
   by_cases bh:j<f.length
   ·obtain⟨ek,ec,B,dD,_,bj⟩:=Vg aZ j bh;have b{G}(h:G:=by
    have aW:(j:Int)<(f.length:Int):=O9;obtain⟨x,H⟩:=xE (f[j]);rw[<-H] at bj;have cI:=Y H;obtain⟨a7,au⟩:=xE (kL l f j am);rw[<-au] at ax;have cr:Sz (C+1600+j) a7:=by rw[au];exact Sz.kL l f j cg O9
    have cG:=Y (λL (i:Mx M k aG ac aQ aN D I L a7)=>X7 i cr O9 l x 0 vU);have cJ:=Y au;have br:=Y (fN ah.out);have eZ:W<wr.heap.size:=fI ah.out;clear H au;go_wp2_with fail;clear bj;refine UC 7 λa=>?_;refine iy ?_;refine up 3 W 0 a ?_;refine uk 4 (br.out.1) a ?_;refine uh 5 (Pj x) (a) ?_;refine uh 6 (.agg #[O3 0,O3 0,Qn]) (a) ?_;refine Rl 7 λK c=>?_;go_simp;refine cm (O4 cG _ (ax.fH a)) ?_;rintro m ea ⟨rfl,en,bL⟩;refine ko c ?_;clear c K;have eo:=en
    have eq:=(bm.trans (SL.of a (P6 bM))).Ya bL;have eC:=Y (bL.rest _ _ _ (fQ a ah.out) Pm);have eF:=PV (Qg aZ a) bL Pm;have eB:Kp E ea:=λN e m O d=>Ql.kp bL N e m (Kp.of a N e m (aF N e m O d) d) d;refine TQ ?_ _;go_simp;go_wp2_with fail;refine⟨⟨j+1,by omega,by go_num,?_,eq,eC.out,eF,eB⟩,by simp[intOf];omega⟩
    rw[GI l f j am bh,<-cI.out,<-cJ.out];exact eo):=O6 h;exact UM
   ·have b{G}(h:G:=by
    obtain⟨dA,cC⟩:=xE (kL l f f.length am);rw[<-cC] at ax bf;have ds:Sz (C+3200) dA:=by rw[cC];exact(Sz.kL l f f.length cg Qp).up O9
    have dx:=aK.kp aF;have cp:=uI ax ds dx O9 O9 l;obtain⟨dr,cA⟩:=xE (QS (Qd s.2) l dA);rw[<-cA] at cp bf;have ew:Sz (C+5000) dr:=by
     rw[cA];refine(ds.lets (Qd s.2) l).up ?_;have ad:=hp Qk s.2.fJ
     show C+3200+(s.2.fJ.filter Qk).length<=_
     omega
    have dt:=Y (λL (i:Mx M k aG ac aQ aN D I L dr) (ey:PX ac L ci s)=>Kr i ew ey O9 O9 em.out ⟨l,q,r⟩ o);rw[<-bf.out,<-aY.out] at dt;rw[<-aY.out] at cp;have ep:=dx;obtain⟨ch,cy,ck,cl,_,cn⟩:=fN ah.out;clear cC cA;go_wp2_with fail;refine cm cp ?_;rintro m e1 ⟨rfl,ez,cw⟩;have d7:=ez;have eD:=bm.Ya cw;have eE:=Y (cw.rest _ _ _ ah.out Pm);have d8:=ep.kp (Ql.kp cw);clear ch cy ck cl cn;obtain⟨ch,cy,ck,cl,_,cn⟩:=fN eE.out;go_wp2_with fail
    refine cm (O4 dt _ d7 d8) ?_;rintro m wz ⟨rfl,ej,d9,d6⟩;have eu:=d9;have ed:=eD.trans d6;clear ch cy ck cl cn;go_wp2
    go_end0
    exact⟨rfl,ej,eu,ed⟩):=O6 h;exact tB):G:=h
def rq (h:G:=by
  refine cm (Vz (es:=bS) dg gB) ?_;rintro m eY ⟨⟨s,rfl,bG⟩,ds⟩;have eu:=bG;have b9:=Y (fQ ds de.out);have dd:=cn.fH ds;have dc:=dt.trans (P8.of (L:=none) ds (P6 dg));obtain⟨eF,eD,eE,eG,eH,eI,eJ⟩:=Qb b9.out;clear bq a6 bv bx bB bD bF;have b{G}(h:G:=by
  have p:E=((vU,f0 gB),A):=O4 C;rw[p];exact⟨⟨_,rfl,eu.Rf aQ Pm⟩,aC,aD⟩):=O6 h;exact vi):G:=h
def uV (h:G:=by
  clear F aW b3 aY b6 f D;go_enter func53,jC;have b{G}(h:G:=by
  have aI:=Y (am.fR O.out Pm);have b{G}(h:G:=by
  have E:=O4 a8 wz T aC a1;rw[<-ac.out] at be A E;rw[<-b1.out] at E;have b{G}(h:G:=by
  rintro m aX ⟨⟨s,rfl,aG⟩,ah,ax,bM⟩;have bR:=Y (ax.TL a1 aN.out Pm Pm);have cp:=bv.up.trans ax;obtain⟨bL,cl⟩:=xH c.1.1;rw[<-cl.out];clear ai aO aj aD aF A be;obtain⟨u0,u1,u2,u3,ba,bq,bx,bB,bA⟩:=RN bR.out;exact wE):=O6 h;exact sv):=O6 h;exact rp):=O6 h;exact mx):G:=h
def DT (h:G:=by
  go_wp2_with fail;refine um ?_;rintro m bB ⟨rfl,rfl⟩;go_wp2_with fail;obtain⟨C,p⟩:=xE (w.alloc (.cells #[Pv true,Pv true,Pv N] 112));have A:Pn w C:=by rw[p];exact QJ
  have aJ:jm w.heap.size true true N C:=by rw[p];exact Ph _ _
  have b{G}(h:G:=by
  have I:jm w.heap.size true true N aS:=(ai.block w.heap.size (fI aJ)).trans aJ;have W:=A.trans (ai.mono A.size);clear p
  cases bn with
  | some m=>
   unfold VZ;go_wp2;go_ret;exact⟨rfl,W⟩
  | none=>
   have b{G}(h:G:=by
   obtain⟨T,t⟩:=xE (ax.setCell (O7 w.heap.size 2) (Pv true));have bj:jm w.heap.size true true true T:=by rw[t,jm,gi I];rfl
   have au:Pn w T:=zr
   have b{G}(h:G:=by
   go_loopw [41] (λa8 wr=>∃ j:Nat,j<=a.fJ.length/\a8=O3 j/\Uk (a.fJ.take j) true true true=none/\Pn T wr) (λa8 _=>a.fJ.length - (intOf a8).toNat)
   case atStart=>exact⟨0,f3 _,rfl,by rw[jk,Uk],RP⟩
   case round=>
    have b{G}(h:G:=by
    by_cases o:j<a.fJ.length
    ·obtain⟨bS,bQ,f,B,bT,aN,aX⟩:=(ba.fH O).cell j o;have b{G}(h:G:=by
     have bR:(j:Int)<(a.fJ.length:Int):=O9;have aF:jm w.heap.size true true true wr:=(O.block w.heap.size (fI bj)).trans bj;have b{G}(h:G:=by
     have aj:=Y (λm=>Y1 a.fJ true true true j o m D.out);have ah:=Y (XU a.fJ true true true j o D.out)
     generalize g5 a.fJ[j] true true true=aY at U aj ah
     exact vd):=O6 h;exact s4):=O6 h;exact UM
    ·exact sx):=O6 h;exact qq):=O6 h;exact Ge):=O6 h;exact vf):=O6 h;exact ud):G:=h
def Tc (h:G:=by
  rw[X] at i;simp only[zd] at i;exact absurd i.out.symm B.out):G:=h
def vQ (h:G:=by
  have m{G}(h:G:=by
  have B:=Y (λe=>V3 b n c a.tx e);have A:=Y (PN o D);have F:=fV A.out
  generalize a.tx=r at B A D
  generalize iR b r=H at B
  clear h g z M k R D;have m{G}(h:G:=by
  refine wh 0 (O5 d) q ?_;refine wh 1 (O5 d) q ?_;refine wh 2 (PL d 1) q ?_;have m{G}(h:G:=by
  cases H <;>
  ·unfold VZ;go_wp2;go_ret;exact⟨rfl,o.trans (i.mono o.size)⟩):=O6 h;exact HF):=O6 h;exact K9):=O6 h;exact nX):G:=h
def IG (h:G:=by
  have b9:=bf.fH s;have cK:=Y (fQ s bQ.out);have cD:=bE.trans (P8.of (L:=none) s (P6 bO));have dj:=b9.lt;obtain⟨cr,cP,cu,cw,_,cz⟩:=fN (fQ s bY.out);have cp:=O4 bS a6 b9 (P8.of (L:=none) s (P6 bO));go_wp2_with fail;refine cm cp ?_;rintro m aI ⟨⟨cA,rfl,ak⟩,b7,b4⟩;have bF:=Y (b4.fR cK.out Pm);have cG:=cD.trans b4;have c8:=b7.lt;clear cr cP cu cw cz
  by_cases B:E=.no
  ·subst B;have a8:cA=QW:=ak;subst a8;go_wp2_with fail;obtain⟨bv,ac⟩:=xE (aI.alloc (.cells #[O3 f.k,O3 f.n,Pj f.s] 65));have b{G}(h:G:=by
   rw[<-ac];obtain⟨cg,cf⟩:=xH (UO C.M f);have bZ:=SJ b3 f;rw[<-cf.out] at bZ;clear ac;refine cm bZ ?_;rintro m wf ⟨rfl,bB⟩;have bL:=b3.fH bB;have cO:=Y (fQ bB cL.out);have cJ:=cM.trans (P8.of (L:=none) bB (P6 cy));have cC:=bL.lt;go_wp2_with fail;obtain⟨W,b1⟩:=xH (Vk cg);have b6:=qG cg wf;rw[<-b1.out] at b6;refine cm b6 ?_;rintro m wb ⟨rfl,bx⟩;have bc:=Y (fQ bx cO.out);have bR:=bL.fH bx;have bM:=cJ.trans (P8.of (L:=none) bx (P6 cC))
   obtain⟨dd,c9,dc,de,dg,dh,di⟩:=Qb bc.out;have b{G}(h:G:=by
   have aj:ci=((W,.no),C):=by rw[bI.out,b1.out,cf.out];rfl
   rw[aj];exact⟨⟨_,rfl,rfl⟩,aC,aD⟩):=O6 h;exact ox):=O6 h;exact z6
  ·obtain⟨bL,bM,a8⟩:=ak.XO B ay;subst a8;have aj:ci=((vU,E),C):=by
    rw[bI.out];unfold ou;exact jZ
   have b{G}(h:G:=by
   have bc:=(ak.Rf aQ Pm).fH ac;exact zs):=O6 h;exact H9):G:=h
def xr (h:G:=by
  rw[<-ck] at c9;refine cm c9 ?_;rintro m wb ⟨rfl,cl⟩;have bc:=Y (fQ cl de.out);have bR:=cn.fH cl;have bM:=dt.trans (P8.of (L:=none) cl (P6 dg));have ew:=Y ck;obtain⟨eF,eD,eE,eG,eH,eI,eJ⟩:=Qb bc.out;clear ck bq a6 bv bx bB bD bF;have b{G}(h:G:=by
  have p:E=((W,.no),A):=by rw[C.out,ew.out]
  rw[p];exact⟨⟨_,rfl,rfl⟩,aC,aD⟩):=O6 h;exact ox):G:=h
def vK (h:G:=by
  refine c _ _ ?_;clear c K;refine hJ 4 9 (λK c=>?_) λK c=>?_
  ·go_simp;refine c _ _ ?_;clear c K;refine wbZ 9 ?_;exact ys
  ·go_simp;refine c _ _ ?_;clear c K;refine wbZ 4 ?_;exact ys):G:=h
def uQ (h:G:=by
  clear F aW bo aY bC c;go_enter jE,jA;have b{G}(h:G:=by
  have b{G}(h:G:=by
  obtain⟨ac,t,A,s,_⟩:=B.cells;rw[<-D.out] at ac t A s;rw[<-i.out] at A;rw[<-p.out] at s;rw[f] at t;clear f;go_wp2_with fail;refine cm (O4 e wz) ?_;rintro m aG ⟨rfl,E⟩;have S:=Y (fQ E aN.out);have aC:=T.fH E;have ay:=bF.trans (P8.of (L:=none) E (P6 ba));clear t ac A s;obtain⟨u0,u1,u2,aK,aL,aO,aQ⟩:=Qb S.out;go_wp2_with fail;obtain⟨bn,aV,aI,aj,ai,bm,be,bj⟩:=iT S.out a7.out aS ay aC (O3 W.k) (O3 W.n) (Pj W.s);refine wm ?_
  exact⟨⟨_,rfl,rfl⟩,ai,aj⟩):=O6 h;exact sf):=O6 h;exact mx):G:=h
def zx (h:G:=by
  refine UC 9 λa=>?_;refine iy ?_;refine jN 3 dQ.out a ?_;refine up 5 k 0 a ?_;refine up 6 k 0 a ?_;refine up 7 k 0 a ?_;refine jN 8 dR.out a ?_;refine Rl 4 λK c=>?_;go_simp;refine cm (O4 cZ _ a) ?_;rintro m dV ⟨rfl,ds⟩;have b3:Pn wz dV:=a.trans (ds.mono a.size);refine c.out _ _ (λ_=>b3) ?_;clear c K;refine Rl 9 λK c=>?_;go_simp;refine cm (O4 dc _ b3) ?_;rintro m wb ⟨rfl,cl⟩;refine ko c ?_;clear c K;have cV:Pn wz wb:=b3.trans (cl.mono b3.size);refine Rl 10 λK c=>?_;go_simp
  refine cm (O4 b9 _) ?_;rintro m eq ⟨⟨s,rfl,bG⟩,dq⟩;refine ko c ?_;clear c K;have da:=cV.trans (dq.mono cV.size);have b{G}(h:G:=by
  refine uz 11 (vA b7) ?_;refine uz 12 s ?_;refine uaZ 13 ?_;refine uz 14 s ?_;exact JQ):=O6 h;exact F8):G:=h
def EC (h:G:=by
  by_cases ak:C=[]
  ·obtain rfl:=a6.2.1 ak;subst ak;obtain⟨bY,cL,rfl⟩:=M.cap (by rw[bv.out];decide)
   have bE:=Y (UT M bB a1 br.out);refine WL 11 λK c=>?_;go_simp;refine c _ _ ?_;clear c K bY;have b{G}(h:G:=by
   go_roundw
   case rel=>exact⟨j,.mk 35 O8 0 [z],aI,ap,rfl,i.out,I,aK,by have O:=aJ;rw[show Tr.mk t.kd t.tx t.n (t.fJ++[])=Tr.mk 35 O8 0 [z] by rw[T];rfl] at O;exact O⟩
   case measure=>rw[VD I,VD aX];omega):=O6 h;exact Jx
  ·obtain⟨b0,b2,aV,rfl,bo,bW,bx⟩:=a6.zv ak;have cP:=a6.2.2;have ck:0<C.length:=List.length_pos_iff.2 ak;have b9:=Open.apart s U.size cx o.out (show PE (gp ac.heap.size) H C aV from bW);have aW:=PE.length _ _ M.fJ;have b1:=O4 bv;have b4:=a1.size;have bu:=M.row;rw[aW] at bu;have bV:=bu;have cn:=Y bo;have bU:=Y aW;clear ak aW;refine WL 11 λK c=>?_
   refine step_append_lies _ rfl _ _ 38 rfl w.heap.size 22 cl Ry 1 8 hH b6 b7 bZ b3 rfl Pm _ _ _ rfl bV (O7 b0 0) C.length b2 (aV.map O5) rfl (by simp[bo]) bx (Uq aV) ck (by unfold maxLen;omega) O9 b4 H.heap.size rfl ?_
   intro cO cM aO ci bq bm _;refine c _ _ ?_;clear c K;have bE:=Y (aIl (c:=t.fJ.length+C.length) M b9 bB a1 br.out ci (by rw[bU.out,cn.out]) bq bm);have cf:aO.cell? (O7 a 3)=H.cell? (O7 a 3)/\aO.frozen? (O7 a 3)=H.frozen? (O7 a 3):=by
    have bn:aO.heap[a]? = H.heap[a]?:=bq.block a cw (λm=>M.own m.symm);exact⟨gs (w:=H) bn,g6 (w:=H) bn⟩
   obtain⟨cg,ch⟩:=cf;rw[bC] at cg;rw[bD 3] at ch;clear bm bC bD bx b1;have b{G}(h:G:=by
   go_roundw
   case rel=>exact⟨j,.mk 35 O8 0 (z::C),aI,ap,rfl,i.out,I,aK,by have O:=aJ;rw[show Tr.mk t.kd t.tx t.n (t.fJ++C)=Tr.mk 35 O8 0 (z::C) by rw[T];rfl] at O;exact O⟩
   case measure=>rw[VD I,VD aX];omega):=O6 h;exact Jx):G:=h
def FZ (h:G:=by
  have cg:=c.lt;clear f;obtain⟨ci,aI,bR,bH⟩:=O4 bv;have aG:=PE.length _ _ bR;have bx:=QD aI;rw[aG] at aI;have bL:=aI;have bK:=Y aG;have bS:=bH;have bi:=aO.size;have aJ:=O4 bO;have bu:=Y bx;clear bx aG
  go_wp2_with (at_builtin;refine wpList_append_lies _ rfl _ _ 38 rfl w.heap.size 22 aZ Ry 1 8 hH aX aY aV aW rfl Pm _ _ _ rfl (bL.alloc _) (O7 I.heap.size 0) 1 1 [O5 M] rfl rfl (SK I M _ rfl) (gZ M) Pm (by unfold maxLen;omega) O9 RQ (I.heap.size+1) P7 ?_)
  intro bN bM au hown' aF bn _;have bo:KV w.heap.size au (n++[u]) (.slice (some (O7 bN 0)) (n.length+1) bM):=FB bS (by rw[gM];exact hown') (by simp[bK.out]) aF bn
  have br:=(aO.alloc bi (.cells #[O5 M] 22)).grown aF RQ (λj ap=>(O4 bu j ap).2);have aD:=bm.ap (((f2 w.heap.size I).alloc bi (.cells #[O5 M] 22)).grown aF RQ (λj ap=>(O4 bu j ap).2)) aN.out;clear bn
  by_cases l:fx e.l q=shut
  ·have d:=Y (TM e shut au q a aD l bj.out);rw[fL l] at k;clear l;go_wp2_with fail;refine YL ?_;rintro m ax ⟨rfl,bU,bf⟩;have T:=br.next bf;have S:=bU;have aK:=KV.fH bo bf o.out;go_wp2;go_ret;exact Uz k.out.symm ⟨aK,λF=>absurd F P7,by simp;omega⟩ S T
  ·have d:=Y (UA e shut au q a aD l);rw[fK l] at k;clear l;go_wp2_with fail;refine YL ?_;rintro m ax ⟨rfl,aC⟩;have T:=br.next (Ap.of aC);have S:=aD.fH aC;have aK:=KV.fH bo (Ap.of aC) o.out
   cases X:Qm e.l XK q with
   | out=>
    exact z8
   | f0 ay aL=>
    have d:=Y (Qh e XK ax q a S Pm);have b{G}(h:G:=by
    exact⟨rfl,QV k.out.symm (T.next f)⟩):=O6 h;exact yU
   | ok b9 bh=>
    have d:=Y (Qh e XK ax q a S Pm);have ch:q<bh:=by
     unfold Qm at X
     split at X
     ·
      cases X;omega
     ·
      cases X
    rw[X] at d k;simp only[gb] at k;clear X;go_wp2_with fail;refine YL ?_;intro m cf p;obtain⟨⟨b7,rfl,rfl⟩,c,f⟩:=p;have bI:=T.next f;have bq:=c;have bT:=KV.fH aK f o.out;have b8:=c.lt;clear f;go_wp2
    go_roundw
    case rel=>exact⟨j,n++[u],bh,k.out,bq,bI,bT,by simp;omega⟩
    case measure=>rw[VD bq,VD bQ];omega):G:=h
def Eg (h:G:=by
  go_enter func105,ntmps105;go_wp2_with fail;refine cm ak ?_;rintro d g ⟨rfl,o⟩;rw[o];clear o;go_wp2_with fail;refine cm aj ?_;have f{G}(h:G:=by
  obtain⟨b,t⟩:=xE (w.alloc (.cells #[O3 (n:Int),O3 (-1),Q8] 198));have f{G}(h:G:=by
  refine hJ 4 5 (λK a=>?ca) λK a=>?cb
  case' ca=>
   go_simp;refine a _ _ ?_;clear a K;refine wbZ 5 ?_;refine wbZ 6 ?_
  case' cb=>
   go_simp;refine a _ _ ?_;clear a K;refine hJ 4 6 (λK a=>?cc) λK a=>?cd
  case' cc=>
   go_simp;refine a _ _ ?_;clear a K;refine wbZ 6 ?_
  case' cd=>
   go_simp;refine a _ _ ?_;clear a K;refine wbZ 4 ?_
  all_goals
   refine WL 7 λK a=>?_;refine step_append_lies _ rfl _ _ 77 rfl H 198 T _ 3 40 ly O S M N rfl Pm _ _ _ rfl (E.drew.alloc _) (O7 b.heap.size 0) 1 1 [O3 (n:Int),O3 (-1),Q8] rfl rfl (Yw _ _ rfl _ _ _) (tG _ _) Pm (by have:=q.out;unfold maxLen;omega) (by have:=q.out;omega) RQ (b.heap.size+1) P7 ?_
   intro aG aF U aD aC ax _;refine a _ _ ?_;clear a K;have ad:b.grownBy U k.ownBlock:=PD (PD (a:=b.drew) ⟨rfl,rfl,rfl,Qp,λ_ _ _=>rfl⟩ (hG _ _ _)) aC;have ah:=Y (i.sD (n:Int) (-1) (a:=.slice (some (O7 aG 0)) (c.Pz.length+1) aF) ad aD);have aI:U.cell? (O7 H 1)=some k/\U.frozen? (O7 H 1)=false:=by
    have au:some H≠k.ownBlock:=λd=>by
     obtain⟨e,ap⟩:=QM i.ro.row d.symm;exact RG ap i.gw Pm rfl
    have ai:=ad.block H I au;exact⟨(gs (w:=b) (a:=(O7 H 1)) ai).trans r,(g6 (w:=b) (a:=(O7 H 1)) ai).trans s⟩
   obtain⟨aW,aX⟩:=aI;clear ax r s C A B D;have aV:=q.out;refine wt 8 (PL H 0) ?_;refine wt 9 (PL H 1) ?_;refine wbZ 10 ?_;refine ha Qs ?_ _;go_simp;go_wp2;go_ret;exact⟨rfl,⟨_,_,_,_,ah.out.1⟩,(Ql.of z (P6 F.out)).trans ah.out.2⟩):=O6 h;exact tN):=O6 h;exact s1):G:=h
def Dv (h:G:=by
  go_wp2_with fail;refine cm i ?_;rintro e be ⟨⟨u2,rfl,ai⟩,s⟩;obtain⟨bA,bG,rfl⟩:=ai.form;have U:=F.trans (s.mono F.size);have aU:=o.fH s;have aS:=SQ.fH aD s;have w:=HE (Uj a) _ be ai O9;go_wp2_with fail;refine cm w ?_;rintro e bE ⟨⟨u3,rfl,A⟩,u⟩;rw[<-H.out] at A;obtain⟨bB,bH,rfl⟩:=PW A;have v:=U.trans (u.mono U.size);have bQ:=aU.fH u;have ak:=SQ.fH aS u;have aQ:=A
  go_wp2_with (at_builtin;refine Zd rfl _ _ 26 rfl c.heap.size _ 9 aC (Pj ByteArray.empty) 16 ju ax ay ap au rfl _ _ _ rfl ak _ _ _ rfl aQ (Lr l) (by unfold maxLen;omega) O9 v.size ?_)
  intro ba t hown4 aW;have S:SQ c.heap.size t ba M:=by
   refine mD ?_;rw[bi.out,gj,gM];exact hown4
  have k:=λj q=>(QD ak j q).2;have B:=v.grown aW v.size k;have a1:TV t a d:=TV.fH h B;obtain⟨bC,bI,rfl⟩:=PW S;have a8:=S;clear k;have i:=xm a d t a1 O9;go_wp2_with fail;refine cm i ?_;rintro e aN ⟨⟨u5,rfl,aj⟩,ac⟩;obtain⟨bD,bK,rfl⟩:=aj.form;have ah:=B.trans (ac.mono B.size);have aJ:=SQ.fH a8 ac;have w:=HE (Qd a) _ aN aj O9;go_wp2_with fail;refine cm w ?_;rintro e bN ⟨⟨u6,rfl,E⟩,ad⟩;rw[<-I.out] at E;obtain⟨bv,bL,rfl⟩:=PW E
  have D:=ah.trans (ad.mono ah.size);have am:=SQ.fH aJ ad;have aV:=E
  go_wp2_with (at_builtin;refine Zd rfl _ _ 26 rfl c.heap.size _ 9 aC (Pj ByteArray.empty) 16 ju ax ay ap au rfl _ _ _ rfl am _ _ _ rfl aV (Lr G) (by unfold maxLen;omega) O9 D.size ?_)
  intro aI W aK aL;have T:SQ c.heap.size W aI N:=by
   refine mD ?_;rw[bh.out,gj,gM];exact aK
  have k:=λj q=>(QD am j q).2;have C:=D.grown aL D.size k;obtain⟨bx,bS,rfl⟩:=PW T;have i:=GE N _ W T O9;clear k;go_wp2_with fail;refine cm i ?_;rintro e bF ⟨⟨u8,rfl,X⟩,aO⟩;obtain⟨bz,bR,rfl⟩:=PW X;have aY:=As X C.size;have aZ:=C.trans (aO.mono C.size);go_wp2;go_ret;exact⟨⟨_,rfl,aY⟩,aZ⟩):G:=h
def Cp (h:G:=by
  refine TQ ?_ _;go_simp;have ac:=VB.late (v:=f) aG ah ((P8.of a (P6 bO)).trans ax);exact qY):G:=h
def zQ (h:G:=by
  by_cases aK:a1=.no
  ·subst aK;have c:f=QW:=a.er;subst c;have T:bx=((⟨true,⟨am,aC,aD⟩⟩,.no,bh),bq):=by rw[bE.out];unfold VG;rw[bK.out];rfl
   have bv:=Y T;clear T;have b{G}(h:G:=by
   refine Xp (v:=.tuple #[Xo ⟨true,⟨am,aC,aD⟩⟩,QW]) ?_;exact qi):=O6 h;exact uZ
  ·obtain⟨bU,bV,c⟩:=a.er.XO aK ay;subst c;have T:bx=((⟨true,⟨am,aC,aD⟩⟩,a1,bh),bq):=ES
   have bv:=Y T;clear T aK;have b{G}(h:G:=by
   refine xS ?_;exact qi):=O6 h;exact uZ):G:=h
def mi (h:G:=by
  have b{G}(h:G:=by
  refine cm d ?_;exact zw):=O6 h;exact oA):G:=h
def q4 (h:G:=by
  go_wp2_with fail;refine(zT _ _ _).mono ?_;rintro a1 aO ⟨W,rfl,aC,aS,aL⟩;have aU:=M.trans (aL.mono ac);have F:Below (w.alloc mL).heap.size (w.alloc mL) aO:=by simpa using aU
  obtain⟨z,aN⟩:=ot F;have aQ:=Y aC;have ad:=F;have aV:(w.alloc mL).heap.size<=W:=by simp;omega
  clear aC aS;go_wp2_with fail;exact od (v:=.tuple #[ZV,O3 0,.iface 150 (PL W 0)]) ⟨W,rfl,vo ad aV aQ.out _ _ _ _⟩):G:=h
def Wy (h:G:=by
  subst c;refine nK ?_;rfl):G:=h
def qL (h:G:=by
  clear h g z M k;rw[p] at q t i f o;clear p;go_enter func104,j5;go_wp2_with fail;refine cm f ?_;rintro e C ⟨rfl,A⟩;have B:=o.trans (A.mono o.size)
  cases j <;>
  ·unfold VZ;go_wp2;go_ret;exact⟨rfl,B⟩):G:=h
def Gn (h:G:=by
  obtain⟨W,R,rfl⟩:=h.form;have C:=h;have F:=Y f;clear h f;go_enter func183,ntmps183;go_wp2_with fail
  go_loopw [8] (λs wr=>∃ j:Nat,j<=a.length/\s=O3 j/\(a.take j).any e=false/\Pn c wr) (λs _=>a.length - (intOf s).toNat)
  case atStart=>exact⟨0,f3 _,rfl,rfl,RP⟩
  case round=>
   have b{G}(h:G:=by
   by_cases t:j<a.length
   ·obtain⟨T,P,I,B,U,N,E⟩:=(C.fH O).cell j t;have b{G}(h:G:=by
    have S:(j:Int)<(a.length:Int):=O9;have l:=O4 F a[j] (gT _) I wr O E;have H:=Y (g3 t)
    cases g:e a[j] with
    | true=>
     rw[g] at l;have r:=Y g;clear g;have b{G}(h:G:=by
     go_ret;refine⟨⟨j,rfl,?_⟩,p⟩;rw[g4 O9,eq_comm,j8];exact⟨a[j],gT _,r.out⟩):=O6 h;exact sP
    | false=>
     rw[g] at l;have r:=Y g;clear g;have b{G}(h:G:=by
     go_roundw
     case rel=>
      refine⟨j+1,by omega,by go_num,?_,p⟩;rw[H.out,kj,D.out];simp[r.out]
     case measure=>simp[intOf];omega):=O6 h;exact sP):=O6 h;exact UM
   ·have g:j=a.length:=O9;subst g;go_wp2;go_ret;refine⟨⟨-1,rfl,?_⟩,O⟩;have h:=O4 D;rw[gO] at h;rw[h];rfl):=O6 h;exact qq):G:=h
def xX (h:G:=by
  have z{G}(h:G:=by
  clear am bi d f;go_enter func101,ntmps101;have i{G}(h:G:=by
  have z{G}(h:G:=by
  go_wp2_with fail;rw[<-C.out];go_ret;exact⟨rfl,l⟩):=O6 h;exact EU):=O6 h;exact uu):=O6 h;exact Ir):G:=h
def Ak (h:G:=by
  rw[<-f];have D:=Y f;have ax:=ad;have e{G}(h:G:=by
  clear f;have e{G}(h:G:=by
  refine XW (v:=.tuple #[vA b,ah]) ?_;rw[i.out];exact⟨⟨_,by rw[D.out],ax.Rf N Pm⟩,t⟩):=O6 h;exact K3):=O6 h;exact xq):G:=h
def Q0 (h:G:=by
  have bc:=Y aK;clear B aK;have bM:=bc;go_wp2_with fail;refine UC 11 λa=>?_;refine uh 0 (.iface ac aC) (a) ?_;refine uh 1 (Pv true) (a) ?_;refine uh 2 (Pv true) (a) ?_;refine uh 3 undef (a) ?_ (bi:=fU ⟨by kernel_rfl,rfl⟩);refine uh 4 undef (a) ?_ (bi:=fU ⟨by kernel_rfl,rfl⟩);refine uh 5 undef (a) ?_ (bi:=fU ⟨by kernel_rfl,rfl⟩);refine zf ?_;refine uaZ 11 ?_;refine TQ ?_ _;obtain⟨b7,W⟩:=xE wz.drew;have p:Pn wz b7:=by rw[W];exact RP.drew
  have aD:=Y (fQ p b1.out);have bL:=A.ms.fH p;have cf:=A.er.fH p;have bF:=b4.trans (P8.of (L:=none) p (P6 cD));obtain⟨dB,dC,dD,dE,dF,dG,dA⟩:=Qb aD.out;obtain⟨dl,dg,dp,di,dj,dk,dq⟩:=Qb (fQ p A.v);go_simp;rw[<-W];clear W b6 ch ci ck cl cn cp bI bG bT bY bU bV bW;go_wp2_with fail;obtain⟨bn,aV,b3,bR,bv,bm,be,bj⟩:=iT aD.out a7.out aS bF bL (O3 f.k) (O3 f.n) (Pj f.s);rw[<-aV];refine XW (v:=.tuple #[vA f,.iface ac aC]) ?_;rw[bM.out]
  exact⟨⟨_,rfl,cf.Rf b3 Pm⟩,bv,bR⟩):G:=h
def CF (h:G:=by
  have b1:=Y (fX bf);have aj:Pn wr T:=by rw[am];exact QJ
  have br:=Y (fN (fQ aj ah.out));have bQ:=Y (PN aj bZ.out);have aI:=aj;have cB:k<T.heap.size:=by have:=aj.size;omega
  have cD:aS<T.heap.size:=by have:=aj.size;omega
  have cL:=fI bf;have cC:W<T.heap.size:=fI (fQ aj ah.out);rw[<-am,<-aC];clear am aC bf dD bj;refine UC 8 λa=>?_;refine Ln ?_;refine up 3 aS 0 a ?_;refine up 4 aS 0 a ?_;refine up 5 aS 1 a ?_;refine uk 6 bQ.out a ?_;refine jN 7 b1.out a ?_;refine Rl 8 λK c=>?_;go_simp;refine cm (O4 cG _ (ax.fH (aI.trans (a.mono aI.size)))) ?_;rintro m bR ⟨rfl,ch,a6⟩;refine ko c ?_;clear c K;have bu:Pn wr T.drew:=aI.trans (a.mono aI.size);have cg:=ch
  have b4:=(bm.trans (SL.of bu (P6 bM))).Ya a6;have b9:=Y (a6.rest _ _ _ (fQ bu ah.out) Pm);have ck:=(aZ.fH bu).fR λN e O=>a6.rest N e 65 O Pm;have b7:Kp E bR:=λN e m O d=>Ql.kp a6 N e m (Kp.of bu N e m (aF N e m O d) d) d;refine TQ ?_ _;go_simp;go_wp2_with fail;refine⟨⟨j+1,by omega,by go_num,?_,b4,b9.out,ck,b7⟩,by simp[intOf];omega⟩
  rw[Fa l p vs j g bh,<-cI.out,<-be.out,<-cJ.out];exact cg):G:=h
def CQ (h:G:=by
  obtain⟨aO,N⟩:=xE ((g.M.Pz.length:Int):Int);rw[<-N] at O ⊢;clear N;go_enter func50,ntmps50
  go_wp2_with (at_builtin;refine wpList_append_lies _ rfl _ _ 81 rfl k 3 aF (O3 0) 1 8 underlying81 aC aD au ay rfl Pm _ _ _ rfl (S.alloc _) (O7 w.heap.size 0) 1 1 [O3 x] rfl rfl (alO w x _ rfl) (Pb x) Pm (by unfold maxLen;omega) O9 RQ (w.heap.size+1) P7 ?_)
  intro ah U C hown' j H _;have f:Pn w (w.alloc (.cells #[O3 x] 3)):=QJ;obtain⟨B,aj⟩:=(b.fH f).uq x (a:=.slice (some (O7 ah 0)) (m+1) U) j (by rw[<-P.out];exact hown') (λW v=>by
   simp only[Value.ownBlock,hc] at v;subst v
   rcases H with h|h
   ·exact .inl h
   ·right;simp;omega)
  have aN:k<C.heap.size:=by have:=j.size;simp at this;omega
  obtain⟨aJ,aK⟩:=((b.fH f).hh.fR (a:=[3]) (j:=k) (w':=C) (Ql.grown j RQ λak v=>by
   obtain⟨X,W⟩:=QM (b.fH f).ow v;exact⟨((b.fH f).ow.lt ak v).1,X,3,W,by simp⟩) Pm Pm Pm Pm Pm).at_ 6 _ rfl
  have ai:=(SL.of f (P6 ax)).trans aj;have ac:=O4 O _ _ B.hh;clear H aI aG;go_wp2_with fail;refine cm ac ?_;rintro a aL ⟨rfl,ap,E⟩;have am:=B.heap ap E;have ad:=ai.trans (SL.jR E);go_wp2;go_ret;exact⟨rfl,_,am,ad⟩):G:=h
def JZ (h:G:=by
  have d{G}(h:G:=by
  rintro m R ⟨rfl,I⟩;have M:=a.trans (I.mono a.size);refine pI ?_;clear p K;refine uz 17 v ?_;refine ul Qs ?_ _;go_simp;go_wp2;go_ret;exact O4 HP _ M):=O6 h;exact J6):G:=h
def yI (h:G:=by
  obtain⟨bU,bV,c⟩:=a.er.XO aK ay;subst c;have T:bx=((⟨false,⟨am,aC,aD⟩⟩,a1,bh),bq):=ES
  have b{G}(h:G:=by
  refine xi ?_;exact qi):=O6 h;exact ED):G:=h
def Ar (h:G:=by
  refine c _ _ ?_;clear c K;refine wbZ 9 ?_;refine Uw (listed':=tf 10 4) Qs rfl ?_;exact ax a l ap.out):G:=h
def xf (h:G:=by
  go_wp2_with fail;refine(zT _ _ _).mono ?_;rintro am ak ⟨B,rfl,p,C,T⟩;have e:=f.trans (T.mono f.size);have W:=f9 f.size C;clear z l;obtain⟨z,l⟩:=ot e;have U:=Y p;clear p C;go_wp2_with fail;exact od (v:=.tuple #[ZV,O3 0,.iface 150 (PL B 0)]) ⟨B,rfl,vo e W U.out _ _ _ _⟩):G:=h
def Gc (h:G:=by
  have e{G}(h:G:=by
  refine XW (v:=.tuple #[vA b,QW]) ?_;rw[i.out,<-D.out];exact⟨⟨_,rfl,rfl⟩,t⟩):=O6 h;exact K3):G:=h
def Iq (h:G:=by
  have z{G}(h:G:=by
  refine wg 6 (.tuple #[.func (.func f) #[PL e.R 0] #[],Pv true]) rfl (fM ⟨by kernel_rfl,λa g=>by have B:=s.out a g;go_simp⟩) l ?_
  refine wh 7 (.tuple #[.func (.func f) #[PL e.R 0] #[],Pv true]) l ?_;refine wh 8 (.func (.func f) #[PL e.R 0] #[]) l ?_;refine wh 9 (Pv true) l ?_;refine wh 10 (.func (.func f) #[PL e.R 0] #[]) l ?_;refine wh 11 (Pv true) l ?_;refine YN ?_;have d:Hid _:=O4 HP U l;go_wp2_with fail;refine YL ?_;intro m N i
  cases o with
  | out=>exact absurd rfl t.out
  | f0 D E=>
   obtain⟨rfl,p⟩:=i;exact⟨rfl,QV rfl (C.next p)⟩
  | ok x M=>
   obtain⟨⟨v,rfl,D⟩,F,p⟩:=i;have E:=NV.mono D C.size;have H:=C.next p;go_wp2;go_ret;exact Uz rfl E F H):=O6 h;exact yy):G:=h
def Ep (h:G:=by
  have q{G}(h:G:=by
  clear hv n;go_wp2_with fail;exact od (v:=.tuple #[.agg #[O3 3,Qn,O3 d,O3 (a:Int)],O3 (b:Int),QW]) ⟨rfl,Zl f _ _ _ _⟩):=O6 h;exact Jc):G:=h
def Fm (h:G:=by
  refine uh 19 (.bool false) (a) ?_;refine uh 20 (.bool false) (a) ?_;refine uh 21 undef (a) ?_ (bi:=fU ⟨by kernel_rfl,rfl⟩);refine uh 22 undef (a) ?_ (bi:=fU ⟨by kernel_rfl,rfl⟩);refine uh 23 undef (a) ?_ (bi:=fU ⟨by kernel_rfl,rfl⟩);refine uh 24 undef (a) ?_ (bi:=fU ⟨by kernel_rfl,rfl⟩);refine uh 25 undef (a) ?_ (bi:=fU ⟨by kernel_rfl,rfl⟩);refine uh 26 undef (a) ?_ (bi:=fU ⟨by kernel_rfl,rfl⟩);refine uh 27 undef (a) ?_ (bi:=fU ⟨by kernel_rfl,rfl⟩);refine uh 28 undef (a) ?_ (bi:=fU ⟨by kernel_rfl,rfl⟩)
  refine uh 29 undef (a) ?_ (bi:=fU ⟨by kernel_rfl,rfl⟩);refine uh 30 (.bool false) (a) ?_;refine Rl 31 λK p=>?_;go_simp;refine cm (VR false _) ?_;have b{G}(h:G:=by
  refine pI ?_;clear p K;refine uz 32 v ?_;exact qg):=O6 h;exact us):G:=h
def Lk (h:G:=by
  have v:Ql [3] k w b:=Ql.grown p (P6 h.lt) λU s=>by
   obtain⟨d,C⟩:=QM h.ow s;exact⟨(h.ow.lt U s).1,d,3,C,by simp⟩
  have W:=h.hh.fR v Pm Pm Pm Pm Pm;obtain⟨ac,n⟩:=W.cell 6 a;have f:Ql [3,84] k w (b.setCell (O7 k 8) a):=(v.mono Pm Qp).trans (n.mono Pm Qp);obtain⟨N,R,B,E⟩:=h.fu;refine⟨⟨h.bw.trans f.below,ac,PV h.lg f Pm,PV h.se f Pm,?_,N,R,PV B f Pm,λS C O H P=>(E S C O H P).kp (λi d e j m=>f.rest i d e j (by rcases m with rfl|rfl <;> decide))⟩,⟨f.below,λi d e j m X _=>?_,u,λ_ h=>.inl h⟩⟩
  ·have C:=PV t n Pm
   show World.ownsRow _ _ _ _ _ (g.Rx++[x]).length ((g.Rx++[x]).map _)
   rw[gj,gM];exact C
  ·have C:b.heap[i]? = some (PZ d e):=(p.block i (gz j) (λe=>X e.symm)).trans j;exact n.rest i d e C (λc=>m (by rw[gc.1 c];decide))):G:=h
def Is (h:G:=by
  rw[<-ck,dZ.out] at cn;clear a6 ck bq;go_wp2_with fail;refine cm cn ?_;rintro m aI ⟨⟨d3,rfl,aG⟩,di,cl,bM⟩;have aG:X8 C aI d3 ch:=aG;have br:=cl.TL dj cK.out Pm Pm;have dT:k<=cH:=by have:=O4 dd;omega
  have a1:=UY br dT (Pv ac.ret) (O3 ac.v.k) (O3 ac.v.n) (Pj ac.v.s);have dS:=Y (lR br (Pv ac.ret) (O3 ac.v.k) (O3 ac.v.n) (Pj ac.v.s));have dR:=di.ie a1 Pm;have dP:=aG.Rf a1 Pm;have dQ:=PU.Uy bM a1;have d1:=(ax.trans cl).hX a1 (Ws dd.out _ _ _ _);clear dU d2 dV dX dY cu cy cz cM cB cC cG cJ cp ci dg;obtain⟨cu,cy,cz,cM,cB,cC,cG,cJ,cp⟩:=RN (br);clear aG di cl bM a1 br;go_wp2
  go_roundw
  case rel=>
   exact⟨j+1,ac,ch,dh,de,by omega,by go_num,dR,d0.out,d1,dQ,dS.out,dP,dL.out⟩
  case measure=>simp[intOf];omega):G:=h
def Bq (h:G:=by
  have b{G}(h:G:=by
  have b{G}(h:G:=by
  have cp:=(P8.of (L:=au) a (P6 dr)).trans ax;have cl:=Y (cp.TL ch b9.out Pm Pm);have dB:=ah;have dC:=aG;have dl:=bM;have dz:=ck.up.trans cp;obtain⟨bL,bR⟩:=xE aK.1.1;rw[<-bR];have dA:=Y bR;clear bR;obtain⟨u0,u1,u2,u3,dD,dE,dF,dI,dG⟩:=RN cl.out;refine uz 9 (Xo bL) ?_;refine uz 10 s ?_;refine q1 ?_;go_wp2_with fail;obtain⟨a6,aV,aQ,bD,bC,bn,bm,bj,bo⟩:=kH cl.out a7.out aS dz dB (Pv bL.ret) (O3 bL.v.k) (O3 bL.v.n) (Pj bL.v.s);rw[<-aV];refine Xp (v:=.tuple #[Xo bL,s]) ?_
  exact⟨⟨_,by rw[dA.out],dC.Rf aQ Pm⟩,bC,bD,dl.Uy aQ⟩):=O6 h;exact mI):=O6 h;exact w5):G:=h
def Hn (h:G:=by
  have b{G}(h:G:=by
  refine uh 10 (Pv true) (p) ?_;have b{G}(h:G:=by
  obtain⟨dB,dC,dD,dE,dF,dG,dA⟩:=Qb cT.out;obtain⟨dl,dg,dp,di,dj,dk,dq⟩:=Qb (fQ p A.v);clear b6 ch ci ck cl cn cp bI bG bT bY bU bV bW;go_simp;go_wp2_with fail;obtain⟨bn,aV,b3,bR,bv,bm,be,bj⟩:=iT cT.out a7.out aS c8 cS (O3 f.k) (O3 f.n) (Pj f.s);rw[<-aV];refine XW (v:=.tuple #[vA f,QW]) ?_;have aK:a6=((f,.no),T):=by rw[bM.out];unfold ZJ;rw[cg.out];simp[c9.out,cU.out]
  rw[aK];exact⟨⟨_,rfl,rfl⟩,bv,bR⟩):=O6 h;exact LE):=O6 h;exact LN):G:=h
def uo (h:G:=by
  have b{G}(h:G:=by
  rw[X] at d i;simp only[QK] at i;clear X;have b{G}(h:G:=by
  exact⟨rfl,QV i.out.symm (a7.next f)⟩):=O6 h;exact YT):=O6 h;exact vV):G:=h
def aLZ (h:G:=by
  rw[B,aI,show w.heap.size+1+1+1=(((w.alloc (.cells #[O5 k] 62)).alloc (.cells #[O3 t,O3 r,Pv A,.pointer d] 73)).alloc (.cells #[.slice ua f E] 311)).heap.size by simp];exact Ph _ _):G:=h
def r4 (h:G:=by
  have cS:E.heap[g]? = r.heap[g]?:=(aC.block g RQ (λm=>B.own m.symm)).trans (gd r _ g aD);exact⟨gs (w:=r) cS,g6 (w:=r) cS⟩):G:=h
def rc (h:G:=by
  have cg:F.heap[g]? = a.heap[g]?:=(ai.block g RQ (λm=>t.own m.symm)).trans (gd a _ g H);exact⟨gs (w:=a) cg,g6 (w:=a) cg⟩):G:=h
def aL0 (h:G:=by
  refine kG ?_;clear c K;refine Rl 8 λK c=>?_;go_simp;refine ov ?_;have b{G}(h:G:=by
  have B:aI.heap[T.heap.size]? = some (PZ #[O3 0,O3 0,Qn] 65):=ax.fR (Ph _ _) Pm;obtain⟨cI,bL,cK,bW,cl,cx,cP⟩:=Qb B;refine pN ?_;refine n6 ?_;have ac:=VB.early (v:=f) B Qp (P6 bV) aG ah ((P8.of (QJ.drew) (P6 bV)).trans ax);have b{G}(h:G:=by
  generalize T.heap.size=D at ac ⊢
  exact aN wz D s ac):=O6 h;exact Ds):=O6 h;exact kP):G:=h
def Cd (h:G:=by
  clear c o
  by_cases E:e=i
  ·subst E;rw[show (j.name.toList==g.toList)=true by
    have:=I.out;rw[ga t] at k;rw[gQ k] at this;exact this] at l
   clear k;have b{G}(h:G:=by
   go_ret;exact⟨rfl,p⟩):=O6 h;exact sP
  ·rw[show (j.name.toList==g.toList)=false by
    have:=F.out e O9;rw[ga t] at k;rw[gQ k] at this;simpa[iw] using this] at l
   clear k;have b{G}(h:G:=by
   go_roundw
   case rel=>exact⟨e+1,by omega,by go_num,p⟩
   case measure=>simp[intOf];omega):=O6 h;exact sP):G:=h
def Hw (h:G:=by
  have d:=WA bY s.drew q (A+1) aG.drew (by rw[X];nofun)
  have b{G}(h:G:=by
  refine l3 ?_;refine pW ?_;refine hJ 4 8 (λK c=>?_) λK c=>?_
  ·go_simp;refine c _ _ ?_;clear c K;refine WL 8 λK c=>?_;go_simp;exact Bu
  ·go_simp;exact Bu):=O6 h;exact oA):G:=h
def vt (h:G:=by
  go_wp2_with fail;obtain⟨bn,aV,aQ,aD,aC,bm,be,bj⟩:=iT b1.out a7.out aS b4 (A.ms) (O3 0) (O3 0) (Qn);refine qV ?_;rw[a6.out];exact⟨⟨_,rfl,A.er.Rf aQ Pm⟩,aC,aD⟩):G:=h
def ry (h:G:=by
  rw[X] at d i;simp only[QK] at i;clear X;have b{G}(h:G:=by
  exact⟨rfl,QV i.out.symm (q.next f)⟩):=O6 h;exact YT):G:=h
def rN (h:G:=by
  rw[X] at d i;simp only[QK] at i;clear X;have b{G}(h:G:=by
  exact⟨rfl,QV i.out.symm (t.next f)⟩):=O6 h;exact YT):G:=h
def aL1 (h:G:=by
  rw[B,aW,show w.heap.size+1+1=((w.alloc (.cells #[O5 k] 62)).alloc (.cells #[O3 t,O3 r,Pv A,.pointer d] 73)).heap.size by simp];exact fY (Ph _ _)):G:=h
def Mw (h:G:=by
  rw[aW,cK,show w.heap.size+3=(((w.alloc (.cells #[O3 r,O3 E,Pv ap,.pointer be] 73)).alloc (.cells #[Pv o,O3 p,O3 on,Pj l] 67)).alloc (.cells #[Pv false,O3 0,O3 0,Qn] 67)).heap.size by simp];exact Ph _ _):G:=h
def aL3 (h:G:=by
  have d:=WA N ah j (a+1) ad (by rw[X];nofun)
  have b{G}(h:G:=by
  intro m H p;obtain⟨⟨be,rfl,W,rfl,aQ⟩,g,f⟩:=p;have aO:=M.next f;have aJ:=g;replace c:=yz c f o.out M.size aQ;have d:=QA 24 O8 (.slice (some (O7 H.heap.size 0)) 2 2) (H.alloc (.cells #[O5 r,O5 W] 22)) ⟨_,_,_,rfl⟩;have b{G}(h:G:=by
  obtain⟨aK,aL,aN⟩:=made aJ aO c (by simp[maxLen]) #[O5 r,O5 W] rfl 2 rfl 24 O8 (H.heap.size+1) rfl;exact Uz i.out.symm aK.nv aL aN):=O6 h;exact lS):=O6 h;exact YU):G:=h
def zR (h:G:=by
  rintro au ap ⟨A,rfl,f,e,T⟩;have B:=o.trans (T.mono o.size);have F:=f9 o.size e;exact Lo):G:=h
def FM (h:G:=by
  rw[<-bv] at b4;refine cm b4 ?_;rintro m wb ⟨rfl,b7⟩;have bc:=Y (fQ b7 b6.out);have bR:=b2.fH b7;have bM:=cy.trans (P8.of (L:=none) b7 (P6 b3));have dt:=Y bv;obtain⟨dn,dl,dm,dp,dq,dr,ds⟩:=Qb bc.out;clear bv cC cD cG cL cM cO cz cl cP cp cr cu;have b{G}(h:G:=by
  have f:bG=((W,.no),C):=by rw[cn.out,dt.out];rfl
  rw[f];exact⟨⟨_,rfl,rfl⟩,aC,aD⟩):=O6 h;exact ox):G:=h
def aL4 (h:G:=by
  refine JW ?_;exact fY (Ph _ _)):G:=h
def Pc (h:G:=by
  refine JW ?_;exact Ph _ _):G:=h
def pX (h:G:=by
  have b{G}(h:G:=by
  go_ret;exact⟨rfl,rfl⟩):=O6 h;exact qR):G:=h
def GF (h:G:=by
  refine cm (Vz (es:=T) cf gB) ?_;rintro m wb ⟨⟨s,rfl,aK⟩,dm⟩;have bG:=Y (fQ dm bV.out);have dq:=aI.fH dm;have ci:=cg.trans (P8.of (L:=none) dm (P6 cf));have eX:=aK;clear aK;obtain⟨u0,u1,u2,di,dj,dk,dl⟩:=Qb bG.out;have b{G}(h:G:=by
  refine zJ ?_;rw[ac.out];exact⟨⟨_,rfl,eX.Rf b3 Pm⟩,bv,bR⟩):=O6 h;exact zz):G:=h
def Kl (h:G:=by
  obtain⟨z,am⟩:=ot A;go_wp2_with fail;exact od (v:=.tuple #[.agg #[O3 d,Pj f,O3 e,O3 (a:Int)],O3 (c:Int),QW]) ⟨rfl,Zl A _ _ _ _⟩):G:=h
def aL6 (h:G:=by
  rw[B,bB,show w.heap.size+1=(w.alloc (.cells #[O5 k] 62)).heap.size by simp];exact fY (fY (Ph _ _))):G:=h
def BW (h:G:=by
  refine uaZ 12 ?_;refine TQ ?_ _;go_simp;have F:Pn I (I.alloc (.cells #[O3 1,O3 0,Pv C,Ry] 73)).drew/\(I.alloc (.cells #[O3 1,O3 0,Pv C,Ry] 73)).drew.heap[I.heap.size]? = some (PZ #[O3 1,O3 0,Pv C,Ry] 73):=⟨QJ.drew,Ph _ _⟩
  generalize (I.alloc (.cells #[O3 1,O3 0,Pv C,Ry] 73)).drew=wz at F ⊢
  have aG:I.heap.size<=I.heap.size:=Qp
  generalize bf:I.heap.size=am at F aG ⊢
  exact dJ wz am (by rw[bf];exact⟨F.1,F.2,aG⟩)):G:=h
def tq (h:G:=by
  go_wp2_with fail;refine cm f ?_;rintro m k ⟨⟨a,rfl,X⟩,O⟩;obtain⟨ua,uc,rfl⟩:=X.form;go_wp2;go_ret;exact⟨⟨_,rfl,X⟩,O⟩):G:=h
def Ac (h:G:=by
  clear a;go_enter func348,ntmps348;have d:=Ti e w n c h;unfold ke at d;have m:=ty (Qe e.l n);go_wp2_with fail;refine cm d ?_;rintro b wt ⟨rfl,f⟩;have o:=h.fH f;go_wp2;go_ret;exact⟨rfl,f⟩):G:=h
def aL7 (h:G:=by
  unfold QU at b8;unfold hr;rw[fL (by
   have aO:a.kd=5\/a.kd=37:=by simpa using b8
   exact aO.imp id fM)]):G:=h
def BP (h:G:=by
  have l{G}(h:G:=by
  refine cm (Vz (es:=am) t gB) ?_;exact Dr):=O6 h;exact xa):G:=h
def HD (h:G:=by
  have:=DH e (fx e.l n) a s.base.rP;rw[i] at this;exact this):G:=h
def Ns (h:G:=by
  rw[aW,b0,show w.heap.size+1=(w.alloc (.cells #[O3 r,O3 E,Pv ap,.pointer be] 73)).heap.size by simp];exact fY (fY (Ph _ _))):G:=h
def Em (h:G:=by
  refine YN ?_;go_wp2_with fail;exact Xp (v:=.tuple #[.agg #[Qn,O3 0,O3 0,O3 0],Pv false]) ⟨rfl,Ht ak Qp _ _ _ _⟩):G:=h
def LJ (h:G:=by
  refine uh 9 (.agg #[O3 0,O3 0,Qn]) (a) ?_;refine Rl 10 λK c=>?_;go_simp;refine cm (O4 F _ a) ?_;rintro m bB ⟨rfl,ba,a6⟩;refine ko c ?_;clear c K;have a1:=ba;have a7:=b8.trans ((Ql.of a (P6 aZ)).trans a6);refine TQ ?_ _;go_simp;go_wp2
  go_roundw
  case rel=>
   refine⟨j+1,by omega,by go_num,?_,a7⟩;have h:=a1;rw[bc.out] at h;rw[p.out];exact h
  case measure=>simp[intOf];omega):G:=h
def uG (h:G:=by
  have b{G}(h:G:=by
  obtain⟨am,ap,au⟩:=O4 o;exact Uz rfl am ap au):=O6 h;exact lS):G:=h
def JE (h:G:=by
  have cB:=z;replace bu:=EV.fH bu f o.out;have aC:=O4 ck;subst aC;go_wp2;go_ret;exact Uz i.out.symm bu.nv cB ch):G:=h
def A6 (h:G:=by
  have b{G}(h:G:=by
  have b{G}(h:G:=by
  intro m b3 p;obtain⟨⟨bY,rfl,rfl⟩,z,f⟩:=p;have bR:=a7.next f;exact CR):=O6 h;exact YU):=O6 h;exact vV):G:=h
def ws (h:G:=by
  cases u with
  | mk ax r aI bz au=>
   rw[Tf] at ad;obtain⟨_,_,⟨v,O,_⟩,_⟩:=ad;exact⟨_,O⟩):G:=h
def KR (h:G:=by
  clear r;go_enter func55,ntmps55;have b{G}(h:G:=by
  have a:=d;go_wp2_with fail;refine cm (T.out g a) ?_;rintro f N ⟨rfl,rfl⟩;go_wp2_with fail;refine cm (F.out N a) ?_;rintro f ax ⟨rfl,M⟩;have v:=a.trans (M.mono a.size);go_wp2;go_ret;exact⟨rfl,v.alloc v.size _⟩):=O6 h;exact o7):G:=h
def aL9 (h:G:=by
  rw[aW,b1,show w.heap.size+1=(w.alloc (.cells #[O3 r,O3 E,Pv ap,.pointer be] 73)).heap.size by simp];exact fY (Ph _ _)):G:=h
def B9 (h:G:=by
  refine uh 4 (Pj b) (a) ?_;refine jN 5 W.out a ?_;refine Rl 6 λK c=>?_;go_simp;refine cm (O4 B _ a) ?_;rintro m aS ⟨rfl,aC,au⟩;refine ko c ?_;clear c K;have ax:=aJ.trans ((P8.of (L:=none) a (P6 aK)).trans (P8.jR au));refine uz 7 (U4 ac) ?_;refine TQ ?_ _;go_simp;go_wp2;go_ret;exact⟨⟨_,rfl,xC A.out⟩,⟨_,_,_,_,aC⟩,ax⟩):G:=h
def KB (h:G:=by
  rw[o] at i;have D:=Y o;clear o;have b{G}(h:G:=by
  go_wp2
  go_roundw
  case rel=>
   refine⟨a+1,by omega,by go_num,?_,q.drew⟩;intro e ai k N
   rcases hT e a with h|h
   ·exact A.out e ai h N
   ·have:e=a:=O9;subst this;rw[O.out] at N
    cases N
    exact D.out
  case measure=>simp[intOf];omega):=O6 h;exact mj):G:=h
def vr (h:G:=by
  refine lC ?_;intro m bF p;obtain⟨rfl,f⟩:=p;exact⟨rfl,QV i.out.symm (U.drew.next f)⟩):G:=h
def yh (h:G:=by
  refine cm (SC.CK _ j) ?_;rintro e P ⟨rfl,O⟩;have i:Pn c P:=j.trans (O.mono j.size);go_wp2;go_ret;exact⟨rfl,f.trans (i.mono f.size)⟩):G:=h
def xp (h:G:=by
  rw[X] at d i;simp only[QK] at i;clear X;have b{G}(h:G:=by
  exact⟨rfl,QV i.out.symm (C.next f)⟩):=O6 h;exact YT):G:=h
def Hk (h:G:=by
  simp only[hM,gR,s,Sem.run_pure,r,q]
  cases k with
  | none=>
   cases i:b.find? (λd=>decide (c=d.1)) with
   | none=>simp[p]
   | some x=>rw[i] at e;simp at e
  | some y=>
   cases i:b.find? (λd=>decide (c=d.1)) with
   | none=>rw[i] at e;simp at e
   | some x=>rw[i] at e;simp at e;simp[e]):G:=h
def Di (h:G:=by
  have o:=l c F E;have B:=(ku.1 e).1;rw[q] at o
  cases A:listed[b]? with
  | none=>simp[A] at o
  | some x=>simp[A] at B o;rw[B] at o;cases o):G:=h
def rT (h:G:=by
  rw[b];clear b;go_enter func296,ntmps296;go_wp2;go_ret;exact⟨rfl,R⟩):G:=h
def wH (h:G:=by
  rcases(j.v (p:=a) (f.gK 0) e).ca with ⟨x,l,g⟩|⟨x,m,l,v,g,s,i⟩
  ·rw[g];exact .inl rfl
  ·rw[g,s];cases m <;> exact .mk i):G:=h
def HK (h:G:=by
  rcases hT 0 a.heap.size with h|h
  ·exact h
  ·simp[World.cell?,jB h] at n):G:=h
def Wq (h:G:=by
  have bc:=Y ac;clear B ac;go_wp2_with fail;obtain⟨a6,aV,aQ,bD,bC,bn,bm,bj,bo⟩:=kH dj.out a7.out aS b4 (A.ms) (Pv false) (O3 0) (O3 0) (Qn);rw[<-aV];refine pQ (v:=.tuple #[Xo RS,.iface aC aD]) ?_;rw[bc.out];exact⟨⟨_,rfl,A.er.Rf aQ Pm⟩,bC,bD.up,dk.Uy aQ⟩):G:=h
def LB (h:G:=by
  have l{G}(h:G:=by
  go_ret;exact⟨⟨_,rfl,rfl⟩,U,aK⟩):=O6 h;exact xa):G:=h
def Ix (h:G:=by
  have b{G}(h:G:=by
  refine wh 12 (Pv true) C ?_;refine YN ?_;go_wp2_with fail;exact Xp (v:=.tuple #[.agg #[Pj x.tx,O3 x.kd,O3 x.parts,O3 x.str],Pv true]) ⟨rfl,Ht ak Qp _ _ _ _⟩):=O6 h;exact zl):G:=h
def KF (h:G:=by
  have b:=o;go_wp2_with fail;refine cm (X5 U1 q) ?_;rintro c W ⟨⟨C,rfl,_,B⟩,t⟩;have T:=b.trans (t.mono b.size);exact CE):G:=h
def Cf (h:G:=by
  have b{G}(h:G:=by
  go_wp2;go_ret;exact⟨rfl,E⟩):=O6 h;exact wT):G:=h
def Du (h:G:=by
  have C:=Y f;clear B f;go_simp;have b{G}(h:G:=by
  refine qV ?_;rw[C.out];exact⟨⟨_,rfl,dj.Rf aQ Pm⟩,aC,aD⟩):=O6 h;exact wl):G:=h
def zY (h:G:=by
  have:Tr.f1 a.fJ=Tr.f1 (a.fJ.take (j+1))+Tr.f1 (a.fJ.drop (j+1)):=by rw[<-U9,j3]
  omega):G:=h
def tK (h:G:=by
  go_enter func161,ntmps161;go_wp2;go_ret;exact⟨rfl,by rw[n.out];exact U,RP⟩):G:=h
def aMb (h:G:=by
  rw[cq.out,bh,show w.heap.size+1=(w.alloc (.cells #[O3 f,O3 o,Pv false,.pointer aK] 73)).heap.size by simp];exact Ph _ _):G:=h
def aMc (h:G:=by
  have aI:=Y H;clear B H;go_wp2_with fail;refine Vm (v:=.iface bF bL) ?_;rw[aI.out];exact⟨⟨_,rfl,d.er⟩,d.ms,ac⟩):G:=h
def qW (h:G:=by
  go_enter func47,ntmps47;go_wp2;go_ret;exact⟨rfl,rfl⟩):G:=h
def HX (h:G:=by
  exact⟨by show (0:Int)<=(σ.M.Pz.length:Int);omega,by show (σ.M.Pz.length:Int)<_;simp[St.gq,Mo.scope];omega⟩):G:=h
def Gy (h:G:=by
  rintro i g ⟨rfl,d⟩;have b{G}(h:G:=by
  go_wp2;go_ret;exact⟨rfl,r⟩):=O6 h;exact oj):G:=h
def zE (h:G:=by
  refine cm f ?_;intro r q b;obtain⟨s,rfl,b⟩:=Y4 b;have g:=Y b;go_wp2;go_ret;exact O4 g):G:=h
def LX (h:G:=by
  go_wp2_with fail;obtain⟨bn,aV,b3,bR,bv,bm,be,bj⟩:=iT bW.out a7.out aS dn dp (O3 ch.k) (O3 ch.n) (Pj ch.s);rw[<-aV];refine XW (v:=.tuple #[vA ch,s]) ?_;rw[ac.out];exact⟨⟨_,by rw[eY.out],eZ.Rf b3 Pm⟩,bv,bR⟩):G:=h
def AD (h:G:=by
  rcases WX (λd=>iw c d.name) x.cs with ⟨k,n⟩|⟨O,ak,k,n,D,_⟩
  ·rw[show fC c x.cs=none from k] at e;cases e
  ·rw[show fC c x.cs=some O from k] at e;cases e;rw[l] at n;cases n;simp[Mo.ic,LS j,D]):G:=h
def L5 (h:G:=by
  have h:a=0\/a=1\/a=2\/a=3\/a=4\/a=5\/a=6\/a=7\/a=8\/a=9\/a=10\/a=11\/a=12\/a=13:=O9
  rcases h with rfl|rfl|rfl|rfl|rfl|rfl|rfl|rfl|rfl|rfl|rfl|rfl|rfl|rfl <;> rfl):G:=h
def vk (h:G:=by
  rw[b];clear b;go_enter func61,ntmps61;go_wp2;go_ret;exact⟨rfl,i⟩):G:=h
def ss (h:G:=by
  go_wp2
  all_goals first|omega|skip
  all_goals go_ret
  all_goals exact⟨rfl,rfl⟩):G:=h
def IR (h:G:=by
  have:=Dt (b.extract a (P9 Rk b a)) (λn w=>by
   rw[w8 b a _ n c w];exact xV Rk b (b.size - a) a O9 (a+n) O9 O9 O9) (P9 Rk b a - a)
  rw[iB (by rw[EW];omega)] at this
  exact this):G:=h
def rm (h:G:=by
  rw[g3 c,iM];rfl):G:=h
def wY (h:G:=by
  have:=ZD a i d (cH d k);rw[l] at this;exact this):G:=h
def JP (h:G:=by
  have d:=RV M N O a I _ rfl (by rw[X];nofun) ad
  rw[X] at d i;simp only[QK] at i;clear X;have b{G}(h:G:=by
  exact⟨rfl,QV i.out.symm (ah.next f)⟩):=O6 h;exact YT):G:=h
def tO (h:G:=by
  show _=_
  rw[bq,gV _ _ _ _ (h6 bU.out)];exact O4 am):G:=h
def AC (h:G:=by
  rw[e,hb _ _ _ P7,ip _ _ _ _ rfl];rfl):G:=h
def IF (h:G:=by
  rw[hb _ _ _ P7,hb _ _ _ B];exact n):G:=h
def aMd (h:G:=by
  have d:=WA N ah j (a+1) ad (by rw[X];nofun)
  rw[X] at d i;simp only[QK] at i;clear X;have b{G}(h:G:=by
  exact⟨rfl,QV i.out.symm (M.next f)⟩):=O6 h;exact YT):G:=h
def KU (h:G:=by
  clear p
  cases z <;>
  ·go_enter func194,ntmps194;go_wp2_with fail;rw[<-e];refine cm j ?_;rintro o F ⟨rfl,r⟩;have s:=d.trans (r.mono d.size);clear e;go_wp2;go_ret;exact⟨rfl,s⟩):G:=h
def Bn (h:G:=by
  obtain⟨r,p,rfl⟩:=h.form;clear h f;go_enter func248,ntmps248;go_wp2_with fail;refine cm g ?_;rintro d s ⟨⟨q,rfl,b⟩,j⟩;have l:=Y b;clear b;go_wp2;go_ret;exact⟨UR l.out,j⟩):G:=h
def F2 (h:G:=by
  clear b;go_enter func51,ntmps51;go_wp2;go_ret;exact⟨rfl,rfl⟩):G:=h
def aMe (h:G:=by
  have d:=Qh e Q9 s A q aG Pm;rw[X] at d i;simp only[QK] at i;clear X;have b{G}(h:G:=by
  exact⟨rfl,QV i.out.symm (am.next f)⟩):=O6 h;exact YT):G:=h
def Jj (h:G:=by
  have A:=Y r;have B:=Y (s.out.trans j);clear j;go_wp2
  go_roundw
  case rel=>exact⟨b+1,by omega,by go_num,by rw[t.out,HP.out];exact A.out,B.out⟩
  case measure=>simp[intOf];omega):G:=h
def Fr (h:G:=by
  obtain⟨t,v,b,f⟩:=h.fu;exact⟨h.bw.trans (a.mono (P6 h.lt)),h.hh.fH a,Qg h.lg a,Qg h.se a,Qg h.ow a,t,v,Qg b a,λB c u s e=>(f B c u s e).kp (Kp.of a)⟩):G:=h
def Ck (h:G:=by
  intro b aN d
  match b,d with
  | 0,d=>simp at d;subst d;simp[Addr.add]
  | 1,d=>simp at d;subst d;simp[Addr.add]
  | 2,d=>simp at d;subst d;simp[Addr.add]
  | 3,d=>simp at d;subst d;simp[Addr.add]):G:=h
def Hv (h:G:=by
  go_wp2_with fail;refine YL ?_;intro c bh M;obtain⟨rfl,N,O⟩:=M;have aZ:=Y N;have aY:=Y (r.out.trans O);clear i p q l;go_wp2
  go_end0
  exact⟨rfl,aZ.out,aY.out⟩):G:=h
def HZ (h:G:=by
  refine⟨m,?_,?_⟩
  ·have:=O.out;rw[ga m] at this;rw[gQ this];exact D.out
  ·intro e k;have:=A.out e c[e] k (ga O9);simpa using this):G:=h
def BR (h:G:=by
  obtain⟨u,C,e,s⟩:=h.fu;exact⟨h.bw.trans a.below,c,PV h.lg a Pm,PV h.se a Pm,PV h.ow a Pm,u,C,PV e a Pm,λE f v t B=>(s E f v t B).kp (Ql.kp a)⟩):G:=h
def aMf (h:G:=by
  rcases F.2 with ⟨c,_⟩|⟨aO,aN,j,c,_,_,i,_⟩
  ·simp at c
  ·simp only[g7,hc,iL,js,kC] at c;obtain⟨rfl,rfl⟩:=c;exact i):G:=h
def Dq (h:G:=by
  generalize ((aI.setCell (O7 wr.heap.size 0) (O3 f.k)).setCell (O7 wr.heap.size 1) (O3 f.n)).setCell (O7 wr.heap.size 2) (Pj f.s)=wz at ac ⊢
  generalize wr.heap.size=D at ac ⊢
  exact aN wz D s ac):G:=h
def F9 (h:G:=by
  rw[e] at d l;clear u g m i e c;go_enter func32,ntmps32;go_wp2_with fail;refine YL ?_;rintro p z ⟨rfl,w⟩;go_wp2;go_ret;exact⟨rfl,l.trans (w.mono l.size)⟩):G:=h
def CZ (h:G:=by
  go_enter func32,ntmps32;go_wp2_with fail;refine YL ?_;rintro p N ⟨rfl,A,C⟩;have D:=Y A;clear A;go_wp2;go_ret;exact⟨rfl,D.out,(l.mono (P6 k)).trans C⟩):G:=h
def sr (h:G:=by
  go_enter func186,ntmps186;go_wp2;go_ret;exact⟨rfl,rfl⟩):G:=h
def tl (h:G:=by
  intro a g
  cases a with
  | mk a7 r a6 bc=>rw[fW] at g;omega):G:=h
def sG (h:G:=by
  go_enter func192,ntmps192;go_wp2;go_ret;exact⟨rfl,l⟩):G:=h
def Ll (h:G:=by
  go_wp2_with fail
  go_loopw [8] (λn wr=>n=O3 0/\Pn w wr) (λn _=>0)
  case atStart=>exact⟨rfl,RP⟩
  case round=>
   obtain⟨rfl,f⟩:=hrel;go_wp2;go_ret;exact⟨rfl,f⟩):G:=h
def GH (h:G:=by
  rw[e];have s:=Y m;clear k j l c g f m;go_enter func217,ntmps217
  go_wp2
  go_ret2
  refine⟨?_,rfl⟩
  show Ending.returned (.tuple #[.int .u8 (b[a].toNat:Int),Pv true])=_
  rw[s.out];rfl):G:=h
def uJ (h:G:=by
  rw[d];go_enter func132,ntmps132
  go_wp2
  go_ret;exact⟨rfl,QJ⟩):G:=h
def BX (h:G:=by
  cases b with
  | mk i k j d=>
   obtain⟨c,f,e⟩:=kz h;have:=TF d c f;rw[Tr.count];change (d[c]).count<=_ at this;change d[c]=a at e;rw[e] at this;omega):G:=h
def ze (h:G:=by
  clear d;go_enter Tryz.func283,Tryz.ntmps283;go_wp2;go_ret;exact⟨rfl,f2 _ _⟩):G:=h
def JK (h:G:=by
  refine⟨λh=>(by rw[h] at e;cases e),λa m=>?_⟩
  by_cases f:a=b
  ·subst f;exact j.wpOp t n ⟨λ_=>n,H⟩
  ·have u:=kv m f;rw[H.1] at u;cases u):G:=h
def CA (h:G:=by
  split at h
  ·
   cases h;omega
  ·obtain⟨o,l,n,h⟩:=fS h;have p:=Vx (a:=a) (c.st _ _) o l n;have m:=j _ _ _ _ h;rw[U9,PS,PY] at m;omega):G:=h
def FN (h:G:=by
  rcases m with ⟨rfl,r⟩|⟨v,s,rfl⟩
  all_goals
   go_wp2_with fail;refine cm k ?_;rintro d w' ⟨rfl,o⟩;go_wp2;go_ret;refine⟨rfl,QJ.trans (o.mono P7)⟩):G:=h
def tL (h:G:=by
  intro f;rw[Instr.checkKey,gR,ho j a];rfl):G:=h
def Ip (h:G:=by
  obtain⟨g,i,e,h⟩:=fS h;obtain⟨_,i2,b,h⟩:=fS h;cases h;have o:=Vx (a:=a) (c.vl _ _) g _ e;have j:=TA b;rw[fW,PS,PY];omega):G:=h
def wM (h:G:=by
  have a{G}(h:G:=by
  cases h;exact q8):=O6 h;exact pa):G:=h
def Kq (h:G:=by
  have b{G}(h:G:=by
  have a:=d;go_wp2;go_ret;exact⟨rfl,a⟩):=O6 h;exact o7):G:=h
def Fo (h:G:=by
  clear l;go_enter Tryz.func283,Tryz.ntmps283;go_wp2_with fail
  go_region
  all_goals
   go_wp2;go_ret;exact⟨by rw[m.out];rfl,(f2 _ _).drew.alloc (g9 _) _⟩):G:=h
def x4 (h:G:=by
  by_cases X:a=v
  ·subst X;exact I
  ·rw[hQ true X] at C;exact C):G:=h
def J2 (h:G:=by
  have b{G}(h:G:=by
  go_ret;exact⟨rfl,f.trans (w.mono f.size)⟩):=O6 h;exact xw):G:=h
def HM (h:G:=by
  refine cm (SC.W5 _ l) ?_;rintro e a1 ⟨rfl,ba⟩;have a8:Pn c a1:=l.trans (ba.mono l.size);go_wp2;go_ret;exact⟨rfl,f.trans (a8.mono f.size)⟩):G:=h
def KZ (h:G:=by
  have b{G}(h:G:=by
  go_ret;exact⟨rfl,f.trans (j.mono f.size)⟩):=O6 h;exact y5):G:=h
def KO (h:G:=by
  rw[b9.out];have bx:Pn a6 a6.drew:=RP.drew;exact⟨⟨_,rfl,(cn.Rf bL Pm).fH bx⟩,bG.fH bx,b7.trans (P8.of bx (P6 bG.lt)),(cp.Uy bL).fH bx⟩):G:=h
def EP (h:G:=by
  rw[X] at d i;simp only[QK] at i;clear X;have b{G}(h:G:=by
  exact⟨rfl,QV i.out.symm (ba.next f)⟩):=O6 h;exact YT):G:=h
def aMg (h:G:=by
  have aX:(u * a).natAbs<=1000000000000000000:=by
   rw[Int.natAbs_mul];exact Nat.mul_le_mul (show u.natAbs<=1000000000 by omega) (show a.natAbs<=1000000000 by omega)
  omega):G:=h
def DC (h:G:=by
  exact⟨b.bw.trans c.below,h.lt,(h.at_ 0 _ rfl).1,(h.at_ 1 _ rfl).1,(h.at_ 2 _ rfl).1,(h.at_ 3 _ rfl).1,(h.at_ 4 _ rfl).1,PV b.lg c Pm,PV b.se c Pm⟩):G:=h
def yw (h:G:=by
  rintro v r ⟨rfl,⟨F,D⟩,I⟩;exact⟨rfl,⟨l,k,p,F,D⟩,I⟩):G:=h
def yL (h:G:=by
  cases bR with
  | no=>exact absurd rfl aK
  | stop=>rfl
  | ir=>rfl
  | Yq x=>rfl):G:=h
def Lv (h:G:=by
  refine k.out _ _ D (λ_=>?_);clear k K;refine wh 12 (Pv true) D ?_;refine YN ?_;go_wp2;go_ret;exact⟨UR P7,O⟩):G:=h
def wu (h:G:=by
  cases a with
  | no=>exact absurd rfl j
  | stop=>rfl
  | ir=>rfl
  | Yq x=>rfl):G:=h
def vJ (h:G:=by
  rw[bv.out];exact⟨⟨_,rfl,ac.Rf aQ Pm⟩,bC,bD,cG.Uy aQ⟩):G:=h
def HB (h:G:=by
  refine k.out _ _ D (λ_=>?_);clear k K;refine wh 12 (Pv false) D ?_;refine YN ?_;go_wp2;go_ret;exact⟨rfl,M⟩):G:=h
def yO (h:G:=by
  intro a ah H
  match a,H with
  | 0,H=>simp at H;subst H;simp[Addr.add]):G:=h
def QP (h:G:=by
  have ad:=(cg.kp (Kp.of (ap.trans (i.mono ap.size)))).at_.nat.nt;rw[cg.tr] at ad;have ak:=Uo _ _ L ad;rw[<-bD] at ak;rw[bC];exact ak):G:=h
def Db (h:G:=by
  have:=ajL (z b e) ⟨KK,zN (by rw[e];exact i) KK⟩ (xn b.l KK) q _ rfl (by rw[e,j];nofun) r
  rw[e,j] at this;exact this):G:=h
def JH (h:G:=by
  rintro f O ⟨rfl,N,E⟩;have H:=N;have F:=E;go_wp2
  go_end0
  rw[A.out];exact⟨rfl,H,(Ql.of e (P6 v)).trans F⟩):G:=h
def B2 (h:G:=by
  have:0<(QB b).length:=by rw[RU];omega
  unfold Pg;rw[g8,ga this];exact gT this):G:=h
def I5 (h:G:=by
  rw[q.out] at d;have b{G}(h:G:=by
  exact⟨rfl,QV a.out.symm (F.next f)⟩):=O6 h;exact YT):G:=h
def aMi (h:G:=by
  have N:Pn a (RW a):=QJ.alloc P7 _;have p:Pn a i:=N.trans (o.mono O9);exact p.trans ((n.mono (B':=a.heap.size) O9).below O9)):G:=h
def Hc (h:G:=by
  have b:=O4 f;have e:=O4 l;have t:=O4 u;exact(b.trans (e.mono b.size)).trans (t.mono (f9 b.size e.size))):G:=h
def L4 (h:G:=by
  go_wp2_with fail;refine cm o ?_;rintro m R ⟨rfl,F⟩;have r:=F;go_wp2;go_ret;exact⟨rfl,r.alloc r.size _⟩):G:=h
def x7 (h:G:=by
  rw[X] at a;simp only[zd] at a;exact absurd a.out.symm B.out):G:=h
def LK (h:G:=by
  obtain⟨am,aO⟩:=aD;clear C F I aG;go_wp2;go_ret;exact⟨rfl,⟨_,W.out.1⟩,(Ql.of bc (P6 ba)).trans W.out.2⟩):G:=h
def Fc (h:G:=by
  intro c ac A;obtain⟨rfl,r,k⟩:=A;have O:=Y r;have N:=Y k;go_wp2
  go_end0
  exact⟨rfl,O.out,N.out⟩):G:=h
def xy (h:G:=by
  rintro b l ⟨rfl,rfl⟩;go_wp2;go_ret;exact⟨rfl,rfl⟩):G:=h
def zK (h:G:=by
  go_enter func104,j5;go_wp2;go_ret;exact⟨rfl,o⟩):G:=h
def LU (h:G:=by
  subst b;go_wp2;go_ret;refine⟨⟨_,rfl,?_⟩,c⟩;have h:=l;rw[gO] at h;rw[gO];exact h):G:=h
def Lw (h:G:=by
  have ad:=hp (λj:Nd=>SH j.2) (QB d);rw[RU] at ad;rw[hv];show ((QB d).filter _).length<=_;omega):G:=h
def xQ (h:G:=by
  generalize b0:U4 p=s
  exact bZ wz D s ⟨ac,b0.symm⟩):G:=h
def Gr (h:G:=by
  split at h
  ·
   cases h;exact j
  ·obtain⟨o,m,n,h⟩:=fS h;exact k _ _ _ _ (H4 j (U3 (c.st _ _) o m n)) h):G:=h
def AG (h:G:=by
  clear c
  cases o:(e==1) <;> cases n:(e==6) <;>
  ·go_enter func58,ntmps58;go_wp2;go_ret;exact⟨rfl,rfl⟩):G:=h
def H6 (h:G:=by
  obtain⟨k,m,j,l,i⟩:=h;exact⟨k,m,by simp[World.setCell,Array.getElem?_modify,j],GP l i,i⟩):G:=h
def EJ (h:G:=by
  have b{G}(h:G:=by
  exact M):=O6 h;exact oJ):G:=h
def Hh (h:G:=by
  rcases a.2 with n|⟨q,p,o,m,f,rest⟩
  ·exact fM n
  ·exact fU ⟨q,p,o,m,by omega,rest⟩):G:=h
def GQ (h:G:=by
  refine lC ?_;intro m bF p;obtain⟨rfl,f⟩:=p;exact⟨rfl,QV i.out.symm (aI.drew.next f)⟩):G:=h
def DS (h:G:=by
  refine lC ?_;intro m bF p;obtain⟨rfl,f⟩:=p;exact⟨rfl,QV i.out.symm (E.drew.next f)⟩):G:=h
def Dl (h:G:=by
  intro m t g;obtain⟨u,rfl,g⟩:=Y4 g;have q:=Y (Y3 r g);go_wp2;go_ret;exact O4 q):G:=h
def Z0 (h:G:=by
  rw[n.block _ O9 O9,o.block _ O9];have:=Ph (a.alloc (.cells #[Ry] 22)) (.cells #[QW] 31);simpa using this):G:=h
def IA (h:G:=by
  refine cm ac ?_;intro m T p;obtain⟨rfl,f⟩:=p;exact⟨rfl,QV rfl (aC.drew.next f)⟩):G:=h
abbrev O3 (a:Int):Value:=.int .i64 a
abbrev PL (a b:Nat):Value:=.pointer (some ⟨a,b,none⟩)
abbrev O7 (a b:Nat):Addr:=⟨a,b,none⟩
abbrev Pq:=Calls prog
abbrev Pn (a x:World):Prop:=Below a.heap.size a x
abbrev Qn:Value:=.string ⟨#[]⟩
abbrev Pj (a:ByteArray):Value:=.string a
abbrev PZ (a:Array Value)(b:TypeId):Obj:=.cells a b (0,0)
abbrev PK (a:Value):Ending:=.returned a
abbrev Pv (a:Bool):Value:=.bool a
abbrev Pe:=World
abbrev Py:=ByteArray
abbrev Px:=Value
def O9 {G:Prop}(h:G:=by omega):G:=h
def Pm {G:Prop}(h:G:=by decide):G:=h
def Qs {G:Prop}(h:G:=by kernel_rfl):G:=h
def P7 {G:Prop}(h:G:=by simp):G:=h
def RQ {G:Prop}(h:G:=by simp;omega):G:=h

abbrev Q8:Value:=.slice none 0 0
abbrev Ry:Value:=.pointer none
abbrev QW:Value:=.nilIface
abbrev lVZ (b c a:Nat):Value:=.slice (some ⟨b,0,none⟩) c a
abbrev WM (c:Nat):Prop:=∀ b a,(callFunc c b).run prog a=.ok (.enter c b) a
def P6 {a b:Nat}(h:a<b):a<=b:=Nat.le_of_lt h
def Qp {a:Nat}:a<=a:=g9 a
def QJ {a:World}{b:Obj}:Below a.heap.size a (a.alloc b):=(f2 _ _).alloc (g9 _) _
def RP {b:Nat}{a:World}:Below b a a:=f2 _ _
def oy (c b a:Int):Bool:=decide (c<=a)&&decide (a<=b)
def mg (a:Int):Bool:=oy 97 122 a||a==95
def Rk (a:Int):Bool:=oy 48 57 a
def Xx (a:Int):Bool:=mg a||Rk a
def o2 (b:List UInt8)(a:Int):Bool:=decide (0<=Lib.indexByte b a.toNat.toUInt8)
def Y {a:Prop}(h:a):Hid a:=h
def O4 {a:Prop}(h:Hid a):a:=h
def xH {α:Sort _}(a:α):∃ x,Hid (x=a):=⟨a,rfl⟩
def xE {α:Sort _}(a:α):∃ x,x=a:=⟨a,rfl⟩
def UR {a b:Bool}(h:a=b):Ending.returned (Pv a)=PK (Pv b):=by rw[h]
def RT (c d b:Int)(e f:Addr)(a:Pe)(k:a.cell? e=some (.int .u8 d))(j:a.cell? f=some (.int .u8 b)) :
  Pq 274 #[.int .u8 c,.pointer (some e),.pointer (some f)] a λi g=>i=PK (Pv (oy d b c))/\g=a:=by
 go_enter func274,ntmps274
 go_wp2
 all_goals go_ret
 all_goals refine⟨UR ?_,rfl⟩
 all_goals (simp[oy, *];try omega)
def aBV (b:Py)(a:Int)(c:Pe):(callFunc 272 #[Pj b,.int .u8 a]).run prog c=.ok (.value (O3 (Lib.indexByte b.data.toList a.toNat.toUInt8))) c:=by
 rw[run_callFunc_extern func272 Qs Qs Qs (e:=Extern.BytealgIndexByte.indexByte) Qs,Lib.run_indexByteString];rfl
def al6 (a:Int)(d:Addr)(b:Py)(c:Pe)(g:c.cell? d=some (Pj b)) :
  Pq 138 #[.int .u8 a,.pointer (some d)] c λf e=>f=PK (Pv (o2 b.data.toList a))/\e=c:=by
 have i:=aBV b a;go_enter func138,ntmps138
 go_wp2
 go_ret;exact⟨UR (by simp[o2]),rfl⟩
def UP:WM 138:=λ_ _=>by kernel_rfl
def aLU:WM 273:=λ_ _=>by kernel_rfl
def aLV:WM 274:=λ_ _=>by kernel_rfl
/-- A value is a aBU of p: in every fH world it is a function that answers so and leaves the world as it was. -/
def Xr (k:Pe)(j:Px)(i:Int->Bool):Prop:=
 ∃ b e,j=.func (.func b) #[] e/\(∀ c a,(callFunc b c).run prog a=.ok (.enter b c) a)/\∀ a,Pn k a->∀ d:UInt8,Pq b (#[.int .u8 (d.toNat:Int)]++e) a λg f=>g=PK (Pv (i (d.toNat:Int)))/\f=a
def Xr.fH {w w':Pe}{c:Px}{b:Int->Bool}(h:Xr w c b)(a:Pn w w'):Xr w' c b:=by
 obtain⟨j,i,rfl,f,h⟩:=h;exact⟨j,i,rfl,f,λd e g=>h d (a.trans (e.mono a.size)) g⟩
def Wx {c d:Pe}{a b:Nat}{e:Px}(f:Pn c d)(h:c.cell? (O7 a b)=some e)(g:a<c.heap.size):d.cell? (O7 a b)=some e:=by
 rw[f.cell (p:=(O7 a b)) g];exact h
def Zg:∀ (b:Fn) (first a:Array Px) (c:Pe),(Instr.makeFunc b first a).run prog c=.ok (.func b first a) c:=λ_ _ _ _=>rfl
def Iz (b a:Int)(f:Pe) :
  Pq 212 #[.int .u8 b,.int .u8 a] f λi c=>∃ e,i=PK e/\Xr c e (oy b a)/\Pn f c:=by
 have k:=Zg;go_enter func212,ntmps212
 go_wp2
 go_ret;refine⟨_,rfl,⟨274,_,rfl,aLV,λg d j=>?_⟩,QJ.alloc P7 _⟩;refine RT _ b a _ _ g ?_ ?_
 ·exact Wx d (by simp[hb,ip]) RQ
 ·exact Wx d (by simp[ip]) P7
def Cg (a:Py)(d:Pe) :
  Pq 66 #[Pj a] d λg b=>∃ c,g=PK c/\Xr b c (o2 a.data.toList)/\Pn d b:=by
 have j:=Zg;go_enter func66,ntmps66
 go_wp2
 go_ret;refine⟨_,rfl,⟨138,_,rfl,UP,λe f i=>?_⟩,QJ⟩;refine al6 _ _ a e ?_;exact Wx f (by simp[ip]) P7
def MQ (b:Int)(j k:Addr)(e f:Nat)(g i:Array Px)(P Q:Int->Bool)(d:Pe)(s:WM e)(p:WM f)(r:d.cell? j=some (.func (.func e) #[] g))(q:d.cell? k=some (.func (.func f) #[] i))
  (m:Pq e (#[.int .u8 b]++g) d λc a=>c=PK (Pv (P b))/\a=d)
  (n:Pq f (#[.int .u8 b]++i) d λc a=>c=PK (Pv (Q b))/\a=d) :
  Pq 273 #[.int .u8 b,.pointer (some j),.pointer (some k)] d λc a=>c=PK (Pv (P b||Q b))/\a=d:=by
 have l:Hid _:=m;have o:Hid _:=n
 cases hP:P b
 ·go_enter func273,ntmps273;go_wp2_with fail;refine kx l.out ?_;rw[hP];rintro c a ⟨rfl,rfl⟩;go_wp2_with fail;refine kx o.out ?_;rintro c a ⟨rfl,rfl⟩;go_wp2;go_ret;exact⟨UR P7,rfl⟩
 ·go_enter func273,ntmps273;go_wp2_with fail;refine kx l.out ?_;rw[hP];rintro c a ⟨rfl,rfl⟩;go_wp2;go_ret;exact⟨UR P7,rfl⟩
def Ym (o p:Px)(P Q:Int->Bool)(a:Pe)(r:Xr a o P)(s:Xr a p Q) :
  Pq 211 #[o,p] a λt f=>∃ x,t=PK x/\Xr f x (λb=>P b||Q b)/\Pn a f:=by
 have z:=Zg;obtain⟨j,m,rfl,u,i⟩:=r;obtain⟨k,n,rfl,q,l⟩:=s;have v:=Y i;have w:=Y l;clear i l;go_enter func211,ntmps211
 go_wp2
 go_ret;have c:Pn a ((a.alloc (.cells #[.func (.func j) #[] m] 140)).alloc (.cells #[.func (.func k) #[] n] 140)):=QJ.alloc P7 _;refine⟨_,rfl,⟨273,_,rfl,aLU,λd e b=>?_⟩,c⟩;have g:=c.trans (e.mono c.size);refine MQ _ _ _ j k m n P Q d u q ?_ ?_ (O4 v d g b) (O4 w d g b)
 ·exact Wx e (by simp[hb,ip]) RQ
 ·exact Wx e (by simp[ip]) P7
def wq (c:Pe):Pq 142 #[] c λb a=>∃ x,b=PK x/\Xr a x Rk/\Pn c a:=by
 go_enter func142,ntmps142;go_wp2_with fail;refine(Iz 48 57 _).mono ?_;rintro b a ⟨x,rfl,e,d⟩;have g:=Y e;have f:=Y d;go_wp2;go_ret;exact⟨x,rfl,g.out,f.out⟩
def Xr.congr {e:Pe}{d:Px}{b c:Int->Bool}(h:Xr e d b)(k:∀ a:UInt8,b (a.toNat:Int)=c (a.toNat:Int)):Xr e d c:=by
 obtain⟨l,j,rfl,i,h⟩:=h;exact⟨l,j,rfl,i,λf g a=>by rw[<-k a];exact h f g a⟩
def apv (a:UInt8):o2 [95] (a.toNat:Int)=((a.toNat:Int)==95):=by
 have c:∀ b:Fin 256,o2 [95] ((b.val:Nat):Int)=(((b.val:Nat):Int)==95):=by decide +kernel
 exact c ⟨a.toNat,a.toNat_lt⟩
def TU (a:Int):Bool:=a==32||a==10
def axq (a:UInt8):o2 [32,10] (a.toNat:Int)=TU (a.toNat:Int):=by
 have c:∀ b:Fin 256,o2 [32,10] ((b.val:Nat):Int)=TU ((b.val:Nat):Int):=by decide +kernel
 exact c ⟨a.toNat,a.toNat_lt⟩
def Hj (d:Pe):Pq 140 #[] d λa c=>∃ x,a=PK x/\Xr c x mg/\Pn d c:=by
 go_enter func140,ntmps140;go_wp2_with fail;refine(Iz 97 122 _).mono ?_;rintro a v ⟨x,rfl,n,m⟩;have j:=Y n;have f:=Y m;go_wp2_with fail;refine(Cg _ _).mono ?_;have k{G}(h:G:=by
 refine⟨g,rfl,i.out.congr (λb=>by show (_||o2 [95] _)=_;rw[apv];rfl),?_⟩
 exact Hc):=O6 h;exact J9
def axr (d:Pe):Pq 213 #[] d λa c=>∃ x,a=PK x/\Xr c x Xx/\Pn d c:=by
 go_enter func213,ntmps213;go_wp2_with fail;refine(Hj _).mono ?_;rintro a v ⟨x,rfl,n,m⟩;have j:=Y n;have f:=Y m;go_wp2_with fail;refine(wq _).mono ?_;have k{G}(h:G:=by
 refine⟨g,rfl,i.out.congr (λb=>rfl),?_⟩;exact Hc):=O6 h;exact J9
/-- The first place from k on whose byte is of another kind, or the end. -/
def P9 (c:Int->Bool)(d:Py)(a:Nat):Nat:=a+((d.data.toList.drop a).takeWhile (λb=>c (b.toNat:Int))).length
section
variable (c:Int->Bool) (b:Py) (a:Nat)
include c b a
def UL (h:a<=b.size):P9 c b a<=b.size:=by
 unfold P9;have f:=(List.takeWhile_prefix (l:=b.data.toList.drop a) (λd=>c (d.toNat:Int))).length_le;have e:(b.data.toList.drop a).length=b.size - a:=by simp
 omega
def Zk (h:a<b.size)(f:c (b[a].toNat:Int)=true):P9 c b (a+1)=P9 c b a:=by
 have e{G}(h:G:=by
 rw[d,List.takeWhile_cons,fL f,gL];omega):=O6 h;exact Ga
def He (h:a<b.size)(f:c (b[a].toNat:Int)=false):P9 c b a=a:=by
 have e{G}(h:G:=by
 rw[d,List.takeWhile_cons,fK (by rw[f];simp)];rfl):=O6 h;exact Ga
def Mz (h:b.size<=a):P9 c b a=a:=by
 unfold P9;rw[List.drop_of_length_le (by simpa using h)];rfl
end
def tJ {c:IntKind}{a b:Int}(h:a=b):Ending.returned (.int c a)=PK (.int c b):=by rw[h]
def tS (a:Py)(e:Nat)(q:Px)(c:Int->Bool)(g:Pe)(r:a.size<=maxLen)(t:e<=a.size)(s:Xr g q c) :
  Pq 67 #[Pj a,O3 (e:Int),q] g λl j=>l=PK (O3 (P9 c a e:Nat))/\j=g:=by
 unfold maxLen at r;obtain⟨w,v,rfl,z,i⟩:=s;have i:=i g RP;have p:=Y i;clear i;go_enter func67,ntmps67
 go_wp2
 go_loopw [1] (λm wr=>∃ b:Nat,b<=a.size/\m=O3 b/\P9 c a b=P9 c a e/\wr=g) (λm _=>a.size - (intOf m).toNat)
 case atStart=>exact⟨e,t,rfl,rfl,rfl⟩
 case round=>
  obtain⟨b,u,rfl,o,rfl⟩:=hrel;have k:=Y o;clear o
  by_cases n:b<a.size
  ·
   cases d:c (a[b].toNat:Int)
   ·have f:=Y (He c a b n d);have HP:=Y d;clear d;go_wp2_with fail;refine kx (O4 p _) ?_;rw[HP.out];rintro l j ⟨rfl,rfl⟩;go_wp2;go_ret;exact⟨tJ (by rw[<-k.out,f.out]),rfl⟩
   ·have f:=Y (Zk c a b n d);have HP:=Y d;clear d;go_wp2_with fail;refine kx (O4 p _) ?_;rw[HP.out];rintro l j ⟨rfl,rfl⟩;go_wp2
    go_roundw
    case rel=>exact⟨b+1,by omega,by go_num,by rw[f.out,k.out],by trivial⟩
    case measure=>simp[intOf];omega
  ·have f:=Y (Mz c a b O9);go_wp2;go_ret;exact⟨tJ (by rw[<-k.out,f.out]),rfl⟩
def iO (a:List Py)(b:Py):Bool:=a.any (λx=>x.toList==b.toList)
section
variable (a:List Py) (c:Py) (b:Nat) (h:b<a.length)
include a c b h
def Ts (d:iO (a.take b) c=false)(e:(a[b].toList==c.toList)=false):iO (a.take (b+1)) c=false:=by
 unfold iO at *;rw[g3 h,kj,d];simpa using e
def PM (d:(a[b].toList==c.toList)=true):iO a c=true:=by
 unfold iO;exact j8.2 ⟨a[b],gT h,d⟩
end
def Ke (b:Array Px)(a:Nat)(d:a<19)(x:Py)(e:b[a]? = some (Pj x))(c:Pe) :
  (Instr.index 272 (.agg b) (O3 (a:Int))).run prog c=.ok (Pj x) c:=by
 simp[Instr.index,ho mU,asIntOf,go_sem,d,e]
def OR (b:List Py)(c:Py)(k:Pe)(m:b.length=19)(r:TypeId)(p:Nat × Nat)
  (g:k.heap[6]? = some (.cells (b.map Value.string).toArray r p)) :
  Pq 214 #[Pj c] k λu s=>u=PK (Pv (iO b c))/\s=k:=by
 obtain⟨e,j⟩:=xH ((b.map Value.string).toArray);rw[<-j.out] at g;have n:e.size=19:=by rw[j.out];simpa using m
 have q:∀ a:Nat,a<19->∀ d,(Instr.index 272 (.agg e) (O3 (a:Int))).run prog d=.ok (Pj (b.getD a ByteArray.empty)) d:=λa f d=>
  Ke e a f _ (by rw[j.out];simp[m,f]) d
 have w:=Y q;have v:=Y n;have z:=Y g;clear q n g;go_enter func214,ntmps214
 go_wp2_with (refine jJ rfl 272 _ rfl 6 rfl r e p _ z.out mU rfl (by rw[v.out];kernel_rfl) ?_)
 go_loop [4,6] (λ_ i=>∃ a:Nat,a<=19/\i=O3 a/\iO (b.take a) c=false) (λ_ i=>19 - (intOf i).toNat)
 case atStart=>exact⟨0,f3 _,rfl,rfl⟩
 case round=>
  obtain⟨a,f,rfl,l⟩:=hrel;have o:=Y l;clear l
  by_cases t:a<19
  ·have A:=O4 w a t
   go_wp2
   ·go_ret;exact⟨UR (PM b c a O9 (by rw[BEq.comm];assumption)).symm,rfl⟩
   ·exact⟨⟨a+1,by omega,by go_num,Ts b c a O9 o.out (by rw[BEq.comm];assumption)⟩,by simp[intOf];omega⟩
  ·go_wp2
   go_ret;exact⟨UR (by have:=O4 o;rw[iB O9] at this;exact this.symm),rfl⟩
section
open Go.ChangeShapes Go.WideShapes Go.ChangeAt Go.WideMaps Go.WideElems Go.RowKit
def ofBytes (a:List UInt8):Py:=⟨a.toArray⟩
def DX:List (List UInt8):=[[118,97,114],[108,101,116],[99,111,110,115,116],[102,117,110,99,116,105,111,110],[105,102],[101,108,115,101],[119,104,105,108,101],[119,105,116,104],[114,101,116,117,114,110],[116,104,114,111,119],[116,114,121],[99,97,116,99,104],[102,105,110,97,108,108,121],[116,121,112,101,111,102],[100,101,108,101,116,101],[116,114,117,101],[102,97,108,115,101],[110,117,108,108],[117,110,100,101,102,105,110,101,100]]
def RH:List Py:=DX.map ofBytes
def FY:List (List UInt8):=[[61,61,61],[38,38],[124,124],[40],[41],[123],[125],[91],[93],[59],[58],[44],[46],[61],[43],[45],[42],[60],[33]]
def Ru:List Py:=FY.map ofBytes
def al4:RH.length=19:=rfl
def To:Ru.length=19:=rfl
def C9 {b:Py}{a:List UInt8}(h:b.data.toList=a):b=ofBytes a:=bytes_inj (by rw[h];rfl)
def oP (a:Py)(b:Nat)(h:b<a.size):a.data.toList.getD b 0=a[b]:=by
 have c:b<a.data.toList.length:=by (have d:a.data.toList.length=a.size:=by simp);omega
 rw[g8,ga c];rfl
end
def ot {c d:Pe}(e:Pn c d):(∀ a b,a<c.heap.size->d.cell? (O7 a b)=c.cell? (O7 a b))/\(∀ a b,a<c.heap.size->d.frozen? (O7 a b)=c.frozen? (O7 a b)):=
 ⟨λa b h=>e.cell (p:=(O7 a b)) h,λa b h=>e.frozen (p:=(O7 a b)) h⟩
inductive Rd where
 | tok (kd:Int) (tx:Py) (n:Int) (e:Nat)
 | f0 (er:Int) (p:Nat)
abbrev ZV:Px:=.agg #[O3 0,Qn,O3 0,O3 0]
def U0 (f:Nat)(i:Rd)(c:Pe)(d:Ending)(a:Pe):Prop:=
 match i with
 | .tok e j g b=>d=PK (.tuple #[.agg #[O3 e,Pj j,O3 g,O3 (f:Int)],O3 (b:Int),.nilIface])/\Pn c a
 | .f0 e g=>∃ b,d=PK (.tuple #[ZV,O3 0,.iface 150 (PL b 0)])/\a.heap[b]? = some (PZ #[O3 e,O3 (g:Int)] 152)/\c.heap.size<=b/\Pn c a
def vo {a d:Pe}{b:Nat}{c L:Obj}(m:Below (a.alloc c).heap.size (a.alloc c) d)(p:(a.alloc c).heap.size<=b)(k:d.heap[b]? = some L)(f g i j:Px) :
  ((((d.setCell (O7 a.heap.size 0) f).setCell (O7 a.heap.size 1) g).setCell (O7 a.heap.size 2) i).setCell (O7 a.heap.size 3) j).heap[b]? = some L/\a.heap.size<=b /\
   Pn a ((((d.setCell (O7 a.heap.size 0) f).setCell (O7 a.heap.size 1) g).setCell (O7 a.heap.size 2) i).setCell (O7 a.heap.size 3) j):=by
 have o:(a.alloc c).heap.size=a.heap.size+1:=by simp
 have e:b≠a.heap.size:=O9;have n:Pn a (a.alloc c):=QJ;have l:Pn a d:=n.trans (m.mono O9);refine⟨?_,by omega,(((l.setCell Qp _).setCell Qp _).setCell Qp _).setCell Qp _⟩;rw[g1 _ _ _ _ e,g1 _ _ _ _ e,g1 _ _ _ _ e,g1 _ _ _ _ e];exact k
def zT (b c:Int)(w:Pe):Pq 215 #[O3 b,O3 c] w λe d=>
  ∃ a,e=PK (.tuple #[ZV,O3 0,.iface 150 (PL a 0)])/\d.heap[a]? = some (PZ #[O3 b,O3 c] 152)/\w.heap.size<=a/\Pn w d:=by
 go_enter func215,ntmps215
 go_wp2
 refine Vm (v:=.tuple #[ZV,O3 0,.iface 150 (PL (w.heap.size+1) 0)]) ⟨_,rfl,?_,by omega,QJ.alloc P7 _⟩;simpa using hD (w.alloc (.cells #[O3 0,Qn,O3 0,O3 0] 144)) (.cells #[O3 b,O3 c] 152)
def oX (x a:Py):Bool:=decide (a.size<=x.size)&&((x.extract 0 a.size).toList==a.toList)
def afa (x a:Py)(b:Pe)(_hx:x.size<=maxLen)(d:a.size<=maxLen) :
  Pq 218 #[Pj x,Pj a] b λe c=>e=PK (Pv (oX x a))/\c=b:=by
 unfold maxLen at _hx d
 by_cases h:a.size<=x.size
 all_goals
  go_enter func218,ntmps218
  go_wp2
  go_ret;exact⟨UR (by simp[oX,h]),rfl⟩
def WE (d:List Py)(c:Py)(b:Nat):Rd:=
 match d.find? (λa=>oX (c.extract b c.size) a) with
 | some a=>.tok 5 a 0 (b+a.size)
 | none=>.f0 3 b
section
variable {a:List Py} {c:Py->Bool}
include a c
def aui {b:Nat}(f:b<a.length)(g:∀ d,(e:d<b)->c (a[d]'O9)=false)(h:c a[b]=true):a.find? c=some a[b]:=by
 rw[o1];exact⟨h,b,f,rfl,λd e=>by rw[g d e];rfl⟩
def yN (f:∀ b,(d:b<a.length)->c a[b]=false):a.find? c=none:=by
 rw[lz];intro x e;obtain⟨b,d,rfl⟩:=kz e;rw[f b d];simp
end
def extract_size (c:Py)(b a:Nat)(e:b<=a)(d:a<=c.size):(c.extract b a).size=a - b:=by
 simp;omega
def ND (c:List Py)(e:Py)(a:Nat)(w:Pe)(ac:e.size<=3000)(p:a<e.size)(o:c.length=19)(C:∀ k,k<19->(c.getD k ByteArray.empty).size<=3)(t:TypeId)(r:Nat × Nat)
  (f:w.heap[2]? = some (.cells (c.map Value.string).toArray t r)) :
  Pq 145 #[Pj e,O3 (a:Int)] w (U0 a (WE c e a) w):=by
 obtain⟨l,s⟩:=xH ((c.map Value.string).toArray);rw[<-s.out] at f;have E:l.size=19:=by rw[s.out];simpa using o
 have F:∀ a:Nat,a<19->∀ n,(Instr.index 272 (.agg l) (O3 (a:Int))).run prog n=.ok (Pj (c.getD a ByteArray.empty)) n:=λa p n=>
  Ke l a p _ (by rw[s.out];simp[o,p]) n
 have O:=Y F;have N:=Y C;have I:=Y E;have m:=Y o;have T:Hid ((w.alloc (.cells #[O3 0,Qn,O3 0,O3 0] 144)).heap[2]? = some (.cells l t r)):=by
  have g:2<w.heap.size:=(h8.1 f).1
  show _=_
  rw[gd w _ 2 g];exact f
 clear F C f o E;go_enter func145,ntmps145
 go_wp2_with (refine jJ rfl 272 _ rfl 2 rfl t l r _ T.out mU rfl (by rw[I.out];kernel_rfl) ?_)
 go_loopw [8,10] (λ_ k wr=>∃ b:Nat,b<=19/\k=O3 b/\(∀ d,d<b->oX (e.extract a e.size) (c.getD d ByteArray.empty)=false)/\wr=w.alloc (.cells #[O3 0,Qn,O3 0,O3 0] 144)) (λ_ k _=>19 - (intOf k).toNat)
 case atStart=>exact⟨0,f3 _,rfl,λd i=>absurd i (lf _),rfl⟩
 case round=>
  obtain⟨b,W,rfl,A,rfl⟩:=hrel;have q:=Y A;clear A
  by_cases g:b<19
  ·have M:=O4 O b g;have S:=O4 N b g;obtain⟨j,f⟩:=xE (c.getD b ByteArray.empty);rw[<-f] at M S;have B:=Y f;clear f
   cases D:oX (e.extract a e.size) j
   ·have H{G}(h:G:=by
    go_roundw
    case rel=>exact⟨b+1,by omega,by go_num,λd i=>by (by_cases z:d=b);(rw[z,<-B.out];exact HP.out);exact O4 q d O9,by trivial⟩
    case measure=>simp[intOf];omega):=O6 h;exact Dw
   ·have H{G}(h:G:=by
    have X:WE c e a=.tok 5 j 0 (a+j.size):=by
     unfold WE;have z:j=c[b]'(by rw[m.out];exact g):=by rw[B.out,g8,ga (by rw[m.out];exact g)];rfl
     rw[aui (b:=b) (by rw[m.out];exact g) (λd i=>by
      have:=O4 q d i;rw[g8,ga (by rw[m.out];omega)] at this
      exact this) (by rw[<-z];exact HP.out),<-z]
    rw[X];exact Vm (v:=.tuple #[.agg #[O3 5,Pj j,O3 0,O3 (a:Int)],O3 ((a:Int)+(j.size:Int)),QW]) ⟨by simp,QJ⟩):=O6 h;exact Dw
  ·go_wp2_with fail;refine(zT _ _ _).mono ?_;rintro U ad ⟨B,rfl,j,M,D⟩;obtain⟨z,S⟩:=ot D;have H:=Y j;clear j;go_wp2_with fail;have X:WE c e a=.f0 3 a:=by
    unfold WE;rw[yN (λd i=>by
     have:=O4 q d (by rw[m.out] at i;omega)
     rw[g8,ga i] at this;exact this)]
   rw[X];exact od (v:=.tuple #[ZV,O3 0,.iface 150 (PL B 0)]) ⟨B,rfl,vo D M H.out _ _ _ _⟩
def V9 (b:Int->Bool)(c:Py)(a:Nat):a<=P9 b c a:=by unfold P9;omega
def Zl {a c:Pe}{b:Obj}(e:Below (a.alloc b).heap.size (a.alloc b) c)(g i j k:Px) :
   Pn a ((((c.setCell (O7 a.heap.size 0) g).setCell (O7 a.heap.size 1) i).setCell (O7 a.heap.size 2) j).setCell (O7 a.heap.size 3) k):=by
 have l:(a.alloc b).heap.size=a.heap.size+1:=by simp
 have f:Pn a (a.alloc b):=QJ;have d:Pn a c:=f.trans (e.mono O9);exact(((d.setCell Qp _).setCell Qp _).setCell Qp _).setCell Qp _
def Vr (c:List Py)(b:Py)(a:Nat):Rd:=
 if iO c (b.extract a (P9 Xx b a))=true then .tok 2 (b.extract a (P9 Xx b a)) 0 (P9 Xx b a)
 else if 20<P9 Xx b a - a then .f0 4 a
 else .tok 1 (b.extract a (P9 Xx b a)) 0 (P9 Xx b a)
abbrev mL:Obj:=.cells #[O3 0,Qn,O3 0,O3 0] 144
section
variable (d:List Py) (c:Py) (a b:Nat) (w:Pe) (E:c.size<=3000) (D:a<c.size) (q:P9 Xx c a=b) (H:a<=b) (F:b<=c.size)
include d c a b w E D q H F
def afe (n:iO d (c.extract a b)=true)(m:d.length=19)(i:TypeId)(g:Nat × Nat)(j:w.heap[6]? = some (.cells (d.map Value.string).toArray i g)) :
  Pq 141 #[Pj c,O3 (a:Int)] w (U0 a (.tok 2 (c.extract a b) 0 b) w):=by
 have f{G}(h:G:=by
 exact od (v:=.tuple #[.agg #[O3 2,Pj (c.extract a b),O3 0,O3 (a:Int)],O3 (b:Int),QW]) ⟨rfl,Zl e _ _ _ _⟩):=O6 h;exact IV
def aff (n:iO d (c.extract a b)=false)(B:¬ 20<b - a)(m:d.length=19)(i:TypeId)(g:Nat × Nat)(j:w.heap[6]? = some (.cells (d.map Value.string).toArray i g)) :
  Pq 141 #[Pj c,O3 (a:Int)] w (U0 a (.tok 1 (c.extract a b) 0 b) w):=by
 have f{G}(h:G:=by
 exact od (v:=.tuple #[.agg #[O3 1,Pj (c.extract a b),O3 0,O3 (a:Int)],O3 (b:Int),QW]) ⟨rfl,Zl e _ _ _ _⟩):=O6 h;exact IV
def Mh (n:iO d (c.extract a b)=false)(ah:20<b - a)(m:d.length=19)(i:TypeId)(g:Nat × Nat)(j:w.heap[6]? = some (.cells (d.map Value.string).toArray i g)) :
  Pq 141 #[Pj c,O3 (a:Int)] w (U0 a (.f0 4 a) w):=by
 have k{G}(h:G:=by
 have f:=e;have k{G}(h:G:=by
 have A:Hid (o.heap[6]? = some (.cells (d.map Value.string).toArray i g)):=by
  show _=_
  rw[f.block 6 RQ,gd w _ 6 s];exact O4 t
 go_wp2_with fail;refine BA ?_;rintro ad ac ⟨rfl,rfl⟩;exact xf):=O6 h;exact GT):=O6 h;exact KE
end
def Te (c:List Py)(b:Py)(a:Nat)(e:Pe)(l:b.size<=3000)(k:a<b.size)(m:c.length=19)(j:TypeId)(g:Nat × Nat)
  (o:e.heap[6]? = some (.cells (c.map Value.string).toArray j g)) :
  Pq 141 #[Pj b,O3 (a:Int)] e (U0 a (Vr c b a) e):=by
 have p:=V9 Xx b a;have n:=UL Xx b a O9
 cases d:iO c (b.extract a (P9 Xx b a))
 ·by_cases i:20<P9 Xx b a - a
  ·have f:Vr c b a=.f0 4 a:=by unfold Vr;rw[d];simp[i]
   rw[f];exact Mh c b a _ e l k rfl p n d i m j g o
  ·have f:Vr c b a=.tok 1 (b.extract a (P9 Xx b a)) 0 (P9 Xx b a):=by unfold Vr;rw[d];simp[i]
   rw[f];exact aff c b a _ e l k rfl p n d i m j g o
 ·have f:Vr c b a=.tok 2 (b.extract a (P9 Xx b a)) 0 (P9 Xx b a):=by unfold Vr;rw[d];simp
  rw[f];exact afe c b a _ e l k rfl p n d m j g o
def YM (b:List UInt8):Int:=b.foldl (λc a=>c * 10+((a.toNat:Int) - 48)) 0
section
variable (a:List UInt8)
include a
def Q2 (b:UInt8):YM (a++[b])=YM a * 10+((b.toNat:Int) - 48):=by simp[YM,iM]
def Nr:∀ (b:Int),0<=b->(∀ c ∈ a,Rk (c.toNat:Int)=true) ->
  0<=a.foldl (λb c=>b * 10+((c.toNat:Int) - 48)) b/\a.foldl (λb c=>b * 10+((c.toNat:Int) - 48)) b<(b+1) * 10 ^ a.length:=by
 induction a with
 | nil=>intro b j _;simp;omega
 | cons c a g=>
  intro b j h;have e:=h c P7;simp[Rk,oy] at e;have d:=g (b * 10+((c.toNat:Int) - 48)) O9 (λi f=>h i (by simp[f]));refine⟨d.1,m2 d.2 ?_⟩;rw[gL,Int.pow_succ,Int.mul_comm ((10:Int) ^ a.length) 10,<-Int.mul_assoc];exact Int.mul_le_mul_of_nonneg_right O9 (Int.pow_nonneg O9)
def Z5 (h:∀ b ∈ a,Rk (b.toNat:Int)=true):0<=YM a/\YM a<10 ^ a.length:=by
 have c:=Nr a 0 (Int.le_refl _) h;refine⟨c.1,?_⟩;have b:=c.2;rw[Int.zero_add,Int.one_mul] at b;exact b
end
def Dt (x:Py)(f:∀ a,(b:a<x.size)->Rk (x[a].toNat:Int)=true)(g:Nat):∀ c ∈ x.data.toList.take g,Rk (c.toNat:Int)=true:=by
 intro c d;obtain⟨a,b,rfl⟩:=kz d;have j:a<x.data.toList.length:=by simp at b;simp;omega
 have e:a<x.size:=by
  have i:x.data.toList.length=x.size:=by simp
  omega
 rw[List.getElem_take];exact f a e
def lX (b:Py)(a:Nat)(h:a<b.size):b.data.toList.take (a+1)=b.data.toList.take a++[b[a]]:=by
 rw[g3 (by simpa using h)];rfl
def M2 (x:Py)(a:Pe):∃ i c,(convert 9 42 (Pj x)).run prog a=.ok (.slice (some (O7 a.heap.size 0)) x.size i) c/\Pn a c /\
  ∀ b,(e:b<x.size)->c.cell? (O7 a.heap.size b)=some (.int .u8 (x[b].toNat:Int)):=by
 refine⟨_,_,run_bytes_of_string a 9 42 5 x j2 j4 underlying5,(RP.drew.alloc Qp _),?_⟩;intro b e;have j:=hD a.drew (.cells (bytesRow x (grownCap a x.size 0 5)) 5 ((bytesRow x (grownCap a x.size 0 5)).size,(bytesRow x (grownCap a x.size 0 5)).size+1))
 have f:(a.drew.alloc (.cells (bytesRow x (grownCap a x.size 0 5)) 5 ((bytesRow x (grownCap a x.size 0 5)).size,(bytesRow x (grownCap a x.size 0 5)).size+1))).heap[a.heap.size]? = some (.cells (bytesRow x (grownCap a x.size 0 5)) 5 ((bytesRow x (grownCap a x.size 0 5)).size,(bytesRow x (grownCap a x.size 0 5)).size+1)):=j;have d:b<x.data.size:=e;simp only[World.cell?,f];have g:(bytesRow x (grownCap a x.size 0 5))[b]? = some (.int .u8 (x[b].toNat:Int)):=by
  unfold bytesRow;rw[Array.getElem?_append_left (by simpa using d),Array.getElem?_map,Array.getElem?_eq_getElem d];rfl
 simpa using g
def aqn {a:Nat}(h:a<=10):(10:Int) ^ a<=10000000000:=by
 have:∀ b:Fin 11,(10:Int) ^ b.val<=10000000000:=by decide
 exact this ⟨a,by omega⟩
def S2 (x:Py)(f:Pe)(t:1<=x.size)(D:x.size<=10)(e:∀ b,(a:b<x.size)->Rk (x[b].toNat:Int)=true) :
  Pq 275 #[Pj x] f λr o=>r=PK (.tuple #[O3 (YM x.data.toList),QW])/\Pn f o:=by
 obtain⟨N,R,O,u,k⟩:=M2 x f;have j:=e 0 t;simp[Rk,oy] at j;obtain⟨E,C⟩:=j;have H:(((x[0].toNat:Nat):Int)==45)=false:=gG.2 O9;have F:(((x[0].toNat:Nat):Int)==43)=false:=gG.2 O9;have z:=Y k;have i:=Y e;clear k e;go_enter func275,ntmps275
 go_wp2
 go_loop [6,8,49] (λc _ b=>∃ a:Nat,a<=x.size/\b=O3 a/\c=O3 (YM (x.data.toList.take a))) (λ_ _ b=>x.size - (intOf b).toNat)
 case atStart=>exact⟨0,f3 _,rfl,rfl⟩
 case round=>
  obtain⟨a,A,rfl,rfl⟩:=hrel
  by_cases c:a<x.size
  ·have P:=O4 z a c;have m:=O4 i a c;simp[Rk,oy] at m;obtain⟨M,B⟩:=m;have s:=Z5 _ (Dt x i.out a);have l:(x.data.toList.take a).length<=10:=by simp;omega
   have p:=aqn l;obtain⟨w,n⟩:=s;have v:YM (x.data.toList.take a)<10000000000:=O9;have q:=Y (Q2 (x.data.toList.take a) x[a]);have d:=Y (lX x a c);obtain⟨I,g⟩:=xH (YM (x.data.toList.take a));rw[<-g.out] at w v ⊢;clear n p l
   go_wp2
   exact⟨⟨a+1,by omega,by go_num,by rw[d.out,q.out,<-g.out]⟩,by simp[intOf];omega⟩
  ·have d:Hid (x.data.toList.take a=x.data.toList):=iB RQ
   go_wp2
   go_ret2
   refine⟨?_,u⟩;rw[d.out];rfl
