import Derived.Test.YtoimgcjbcbhclaaGreatDoorAz2
import Derived.Test.YtoimgcjbcbhclaaGreatDoorProg
import Derived.WalkSpells
import Derived.WalkLawsBesides
import Derived.Lib.Bytealg
import Derived.Laws.Rows
import Derived.ProofKit
import Derived.OpenShut
import Derived.Stop.Joined
import Derived.Laws.IdiomStrings
set_option maxRecDepth 100000
set_option maxHeartbeats 0
set_option linter.all false
namespace Go.Proofs.YtoimgcjbcbhclaaGreatDoor
open Go.RowKit Go.Proofs.Tryz
section
variable {G X:Prop}
def aCO (h:G:=by
  have A{G}(h:G:=by
  rw[<-ae] at ac h8 pj nt ⊢;have dP:(binOp .neq 22 (LC p) (Zb bp)).run prog w2=.ok (L9 true) w2:=ac;clear ac gw aW b5 o3 ae;go_wp2;go_ret;refine⟨rfl,?_,dw.out.trans (Sk.map _ _ _ _)⟩;rw[AJ.out];unfold osF;simp only;rw[rh.out];refine gE.out.next bN.out (Sk.map _ _ _ _) ⟨_,?_,nt.out.sk bN.out (Sk.map _ _ _ _)⟩ ?_ ?_
  ·rw[TY (lt_of_heap jt.out),zalab];rfl
  ·rw[OH (zalfi mz)];exact gE.out.ab2
  ·intro e he;rw[zalak rfl] at he
   rcases zalat.1 he with he|he
   ·exact zalew (gE.out.lt e he)
   ·rw[zalaf.1 he];exact Nat.lt_succ_self _):=LG h;exact auD):G:=h
def aCx (h:G:=by
  go_wp2;go_ret;refine⟨rfl,?_,dw.out⟩;rw[AJ.out];unfold osF;simp only;rw[rh.out];obtain⟨al,aW,a4⟩:=gE.out.fmap;exact gE.out.next bN.out (Sk.refl _ _ _) ⟨al,aW,a4⟩ gE.out.ab2 (λe he=>zalew (gE.out.lt e he))):G:=h
def aCP (h:G:=by
  clear bG n'
  generalize MJ c.l j=ws at *
  have A{G}(h:G:=by
  go_region
  go_wp2_with fail
  go_region
  go_wp2_with fail;refine WB ?_;rintro e aq ⟨⟨v,rfl,mA,rfl,hn⟩,df,da⟩;have e':=hide df;have dd:=hide (b1.out.next da);have h0:=hide (Yz gU.out da a1.out b1.out.size hn);clear dH aW a4 bO ew fA hb qf Bu aJ E f1 k0 a9 bD b8 t6;go_wp2
  go_roundg k
  case measure=>omega
  case rel=>exact zalad ⟨_,a8,gH.out,(Vp h0.out dd.out.size (by simp[maxLen]) #[LC q,LC mA] rfl 2 rfl _ LH 0 _ rfl).nv,(e'.out.alloc _).alloc _,(dd.out.alloc dd.out.size _).alloc (by have:=dd.out.size;simp;omega) _⟩):=LG h;exact Yx):G:=h
def aCQ (h:G:=by
  have cK:=hide (gW.out _ _ _ bG.symm (by nofun) dr.out em.out);rw[bG] at aG;have gH:Hid (r=.bad er pl):=aG.out.symm;clear bG n'
  generalize MJ c.l j=ws at *
  have A{G}(h:G:=by
  go_region
  go_wp2_with fail
  go_region
  go_wp2_with fail;refine WB ?_;rintro e aq ⟨⟨v,rfl,mA,rfl⟩,⟨eI,df⟩,he,da⟩;have e':=hide df;have dd:=hide (b1.out.next da);clear dH aW a4 bO ew fA hb qf Bu aJ E f1 k0 a9 bD b8 t6;go_wp2
  go_roundg k
  case measure=>omega
  case rel=>exact zalal ⟨er,pl,gH.out,he,⟨eI,(e'.out.alloc _).alloc _⟩,(dd.out.alloc dd.out.size _).alloc (by have:=dd.out.size;simp;omega) _,_,rfl⟩):=LG h;exact Yx):G:=h
def aCR (h:G:=by
  have A{G}(h:G:=by
  clear zv c0 c1 c2 c3 dx lx h4 ey dg pE;go_wp2_with fail;refine Ul ?_;rintro e cs ⟨⟨v,rfl,dM,rfl⟩,⟨a8,bE⟩,_,cI⟩;exact aCS):=LG h;exact aAF):G:=h
def aCD (h:G:=by
  refine Qd ?_;clear U K;exact Pz (listed':=tf 13 4) Nw Nw (ez ax bu cC.out)):G:=h
def aCE (h:G:=by
  refine Qd ?_;clear U K;exact Pz (listed':=tf 12 4) Nw Nw (ez ax bu cC.out)):G:=h
def aCT (h:G:=by
  have lX:(((s[q].toNat:Nat):Int) != 92)=true:=by rw[bne,show (92:Int)=(((92:UInt8).toNat:Nat):Int) from rfl,cV];simp[c3]
  rw[X4 s q said ef (by rw[dL];exact c1) (by rw[dL];exact c2) (by rw[dL];exact c3),dL] at cX
  have A{G}(h:G:=by
  clear cX m7 bT a' cV c1 c2 c3 dL;go_wp2_with fail
  go_round
  case rel=>exact⟨q+1,said++[s[q]],by omega,by omega,by simp;omega,by go_num,by rw[aCU s q said ef],aG.out⟩
  case measure=>simp[intOf];omega):=LG h;exact alM):G:=h
def au2 (h:G:=by
  refine Qd ?_;clear U K;exact Pz (listed':=tf 11 4) Nw Nw (ez ax bu fb.out)):G:=h
def aoc (h:G:=by
  have dT:aq.heap[bq]? = ax.heap[bq]?:=(dD.block bq OM (λe=>b'.out.own e.symm)).trans (zalaa ax _ bq d3);exact au4):G:=h
def aCW (h:G:=by
  have A{G}(h:G:=by
  go_wp2_with (at_builtin;refine zalcr _ rfl _ _ 161 rfl (w.heap.size+1) 167 a6 TB 4 40 zalem ak bL bM bP rfl MK _ _ _ rfl (eE.out.own.alloc _) (LD aq.heap.size 0) 1 1 [LJ 2,LQ (s.extract j e),LJ 0,LJ (j:Int)] rfl rfl ?c1 ?c2 ?c3 ?c4 ?c5 ?_)
  case c1=>
   exact aDc
  case c2=>
   exact alV
  case c3=>unfold maxLen;omega
  case c4=>omega
  case c5=>have:=eE.out.size;simp;omega
  exact aFI):=LG h;exact atH):G:=h
def aCX (h:G:=by
  have A{G}(h:G:=by
  go_wp2_with (at_builtin;refine zalcr _ rfl _ _ 161 rfl (w.heap.size+1) 167 a6 TB 4 40 zalem ak bL bM bP rfl MK _ _ _ rfl (eE.out.own.alloc _) (LD aq.heap.size 0) 1 1 [LJ 1,LQ (s.extract j e),LJ 0,LJ (j:Int)] rfl rfl ?c1 ?c2 ?c3 ?c4 ?c5 ?_)
  case c1=>
   exact aDc
  case c2=>
   exact alV
  case c3=>unfold maxLen;omega
  case c4=>omega
  case c5=>have:=eE.out.size;simp;omega
  exact aFJ):=LG h;exact atH):G:=h
def axD (h:G:=by
  have vO:∀ b,(Value.slice (some (LD fn 0)) 1 1).ownBlock=some b->b<w2.heap.size/\b≠w.heap.size+1:=by
   intro b D;have E:fn=b:=by simpa[Value.ownBlock] using D
   subst E;exact⟨Ec.out,l5.out⟩
  exact zalal ⟨by decide,a',.slice (some (LD fn 0)) 1 1,rfl,wG.out,by have:=Lu zU;omega,(Lu mf a' zU.out DQ.out).trans oL.out,L8 (I:=λb=>b<w2.heap.size/\b≠w.heap.size+1) (λb D _=>Lu mf b D.1 D.2) vO j8.out⟩):G:=h
def aCY (h:G:=by
  refine Qh 5 λK U=>?_;refine step_append_lies _ rfl _ _ 114 rfl w0.heap.size 116 a6 (.agg #[LJ 0,QJ,L9 false]) 3 40 zalfq b4 bL bM bP rfl MK _ _ _ rfl hrow1 (LD ga 0) 1 1 [LJ o,.slice dF nl dG,L9 b] rfl rfl (World.news_of_block BW) (aa7 o dF nl dG b) MK (by unfold maxLen;omega) LM fe.size _ rfl ?_
  intro xz c5 s9 CZ hgr5 r1 _;have dK:LX w0 s9:=fe.trans ((zalbd w0.heap.size _).grown hgr5 fe.size (λk N=>(Me hrow1 k N).2));exact aCZ):G:=h
def aC0 (h:G:=by
  have u1:(((s[q+1].toNat:Nat):Int)==110)=true:=by rw[a9];rfl
  rw[Xd s q said 10 ef (by rw[dL];exact c3) qJ (by rw[mY,a9];rfl)] at cX
  have A{G}(h:G:=by
  clear cX m7 bT a' cV c1 c2 c3 dL mY d1 d2 fy a9;go_wp2_with fail
  go_round
  case rel=>exact⟨q+2,said++[10],by omega,by omega,by simp;omega,by go_num,by rw[aGD],aG.out⟩
  case measure=>simp[intOf];omega):=LG h;exact alM):G:=h
def aC1 (h:G:=by
  have A{G}(h:G:=by
  refine O7 7 λK U=>?_;go_simp;refine Qd ?_;clear U K;refine O7 8 λK U=>?_;go_simp;refine auV ?_;rintro e up ⟨rfl,rfl⟩;exact au8):=LG h;exact aqN):G:=h
def aC2 (h:G:=by
  have fL:=hide (Open.later bI.out (Ap.of mZ) a1.out).ev
  cases T:MG c.l Nb bH with
  | out=>
   exact Qe
  | bad er p=>
   exact aFH
  | ok gA a8=>
   have ag:=hide (NR c Nb gn bH d oO.out MK);have A{G}(h:G:=by
   intro e w2 ae;obtain⟨⟨v2,rfl,rfl⟩,aY,aa⟩:=ae;have bR:=hide (mF.out.next aa);exact aC3):=LG h;exact WC):G:=h
def aC4 (h:G:=by
  have ag:=hide (NR c Xr cT bH d AH.out MK);rw[Ez.out] at ag;go_wp2_with fail;refine NJ ?_;intro e gQ ae;obtain⟨⟨Lm,rfl,rfl⟩,aY,aa⟩:=ae;have AE:=hide aY;have wE:=hide (wF.out.next aa);replace dO:=hide (QE dO.out aa a1.out);clear By
  cases T:MO c.l F.vl d (bH+1) with
  | out=>
   exact Qe
  | bad er p=>
   exact aFG
  | ok gA a8=>
   exact aGE):G:=h
def au9 (h:G:=by
  go_wp2_with fail
  go_round
  case rel=>exact⟨q+2,said++[s[q+1]],by omega,by omega,by simp;omega,by go_num,by rw[aCU s (q+1) said qJ],aG.out⟩
  case measure=>simp[intOf];omega):G:=h
def aGz (h:G:=by
  have A{G}(h:G:=by
  have dT:aq.heap[w.heap.size]? = ax.heap[w.heap.size]?:=(dD.block w.heap.size OM (λe=>cC.out.op.own e.symm)).trans (rO.block w.heap.size d3);exact au4):=LG h;exact auj):G:=h
def aC5 (h:G:=by
  have br{G}(h:G:=by
  rintro a4 w2 ⟨rfl,rfl⟩;exact ava):=LG h;exact ztq):G:=h
def avb (h:G:=by
  refine Qd ?_;clear U K;exact Pz (listed':=tf 10 4) Nw Nw (ez ax bu fb.out)):G:=h
def aC6 (h:G:=by
  simp only[zalcm,zalbu,hg,Sem.run_pure,dU,ao]
  cases o with
  | none=>
   cases an:l.find? (λe=>decide (s=e.1)) with
   | none=>simp[b5]
   | some x=>rw[an] at O;simp at O
  | some y=>
   cases an:l.find? (λe=>decide (s=e.1)) with
   | none=>rw[an] at O;simp at O
   | some x=>rw[an] at O;simp at O;simp[O]):G:=h
def aCC (h:G:=by
  rintro e gm ⟨rfl,mu⟩;refine zlm ?_;clear U K;refine UW Nw ?_ _;have pY:=hide mu;clear mu;go_simp
  go_end0
  exact⟨rfl,pY.out⟩):G:=h
def azQ (h:G:=by
  show Below _ _ _
  rw[d7];exact((bj.out.trans (mU.mono bj.out.size)).setCell (p:=(LD (w.heap.size+1) 0)) MP _).setCell (p:=(LD (w.heap.size+1) 1)) MP _):G:=h
def aC7 (h:G:=by
  refine O7 8 λfk io=>?_;go_simp;refine io _ _ ?_;clear io fk;refine aad ?_
  go_wp2
  refine zalcs (v:=.tuple #[.slice (some (LD g 0)) (au.length+1) cap,.agg #[LJ 0,LJ (-1)]]) (by simp[results,zalgf,go_sem,bq,ep]) rfl ⟨_,rfl,?_,j7.out.out _ _⟩;exact arf j7.out MP _ _):G:=h
def aC8 (h:G:=by
  have A{G}(h:G:=by
  have A{G}(h:G:=by
  intro e w2 ae;obtain⟨⟨v2,rfl,rfl⟩,aY,aa⟩:=ae;have bR:=hide (hL.out.next aa);exact aC3):=LG h;exact WC):=LG h;exact auH):G:=h
def avc (h:G:=by
  obtain⟨dW,dX,d3⟩:=(Open.later bI.out cW a1.out).cell;exact au8):G:=h
def avd (h:G:=by
  obtain⟨dW,dX,d3⟩:=(Open.later bI.out cW a1.out).cell;exact au7):G:=h
def aGl (h:G:=by
  refine aac ?_;rw[bN.out,zalab,zalam];exact yT):G:=h
def aC9 (h:G:=by
  have A{G}(h:G:=by
  have ac:r=.bad er pl:=Lu bY;subst ac;clear T;go_wp2_with fail;refine Ul ?_;rintro e cs ⟨⟨v,rfl,dM,rfl⟩,⟨a8,bE⟩,he,cI⟩;exact aCS):=LG h;exact an6):G:=h
def aDa (h:G:=by
  go_enter func193,ntmps193;have A{G}(h:G:=by
  refine Ul ?_;rintro e w2 ⟨⟨v,rfl,q,rfl⟩,ae,he,aa⟩;have cU:=hide ae;have bR:=hide aa;clear ae;exact ave):=LG h;exact Xw):G:=h
def au4 (h:G:=by
  exact⟨zalar (w:=ax) dT,zalef (w:=ax) dT⟩):G:=h
def aGc (h:G:=by
  refine aac ?_;rw[uP.out,hZ.out,zalam];exact hown4):G:=h
def aqa (h:G:=by
  have h:=Lu HOWN;rw[zalaq] at h;rw[zalaq];exact h):G:=h
def avf (h:G:=by
  rintro e w2 ⟨rfl,rfl⟩;go_wp2;go_ret;exact⟨⟨_,rfl,_,rfl⟩,⟨j,cD.out⟩,he,b7.out⟩):G:=h
def aDb (h:G:=by
  obtain⟨am,an⟩:=XC lG;have wH:=hide lG;have q4:=hide D;clear D kj;go_wp2_with fail;exact adY (v:=.tuple #[TB,LJ 0,.iface 144 (Mc b 0)]) ⟨b,rfl,aas wH.out o' q4.out _ _ _ _⟩):G:=h
def aDc (h:G:=by
  intro j u aT
  match j,aT with
  | 0,aT=>simp at aT;subst aT;simp[Addr.add]
  | 1,aT=>simp at aT;subst aT;simp[Addr.add]
  | 2,aT=>simp at aT;subst aT;simp[Addr.add]
  | 3,aT=>simp at aT;subst aT;simp[Addr.add]):G:=h
def arh (h:G:=by
  refine wp_seq_k λK U=>?_;have dN:=hide U;clear U;exact avg):G:=h
def axQ (h:G:=by
  split at h
  ·exact ap5
  ·obtain⟨u,az,E,h⟩:=binds h;have O:=SI (l:=l) (ai.st _ _) u az E;have aM:=aU _ _ _ _ h;rw[WW,Ns,NQ] at aM;exact afA):G:=h
def avh (h:G:=by
  rintro fA bn ⟨rfl,ec⟩;have lG:=q6.out.trans (ec.mono q6.out.size);exact aDd):G:=h
def aDe (h:G:=by
  go_wp2
  go_roundw
  case rel=>exact⟨k+1,by omega,by go_num,by first|trivial | (rw[co.out];rfl)|rfl,by first|rfl|trivial⟩
  case measure=>simp[intOf];omega):G:=h
def aDf (h:G:=by
  rw[UZ s j e i c8 ak];have n8:i<e - j:=by rw[extract_size s j e LM c8] at ak;exact ak
  exact YA Nl s (s.size - j) j LM (j+i) LM (by rw[hY.out];omega) LM):G:=h
def aGu (h:G:=by
  rw[UZ s k e i c8 ak];have n8:i<e - k:=by rw[extract_size s k e LM c8] at ak;exact ak
  exact YA Nl s (s.size - k) k LM (k+i) LM (by rw[cG.out];omega) LM):G:=h
def avi (h:G:=by
  clear bE;go_wp2;go_ret;exact⟨⟨_,rfl,q,rfl,nk.out⟩,ib.out,iG.out⟩):G:=h
def avj (h:G:=by
  clear cv;go_wp2;go_ret;exact⟨⟨_,rfl,q,rfl,b3.out⟩,bk.out,bS.out⟩):G:=h
def aDg (h:G:=by
  go_wp2_with fail;refine NJ ?_;rintro e w1 ⟨⟨u,rfl,T⟩,D⟩;have bo:=hide (QM T aV.out.size);obtain⟨eq,uc,rfl⟩:=LZ T;exact aDh):G:=h
def aDi (h:G:=by
  have cd:=hide aY;replace fL:=hide (EV.later fL.out aa a1.out);have gg:=Lu ht;subst gg;go_wp2;go_ret;exact RF aF.out.symm fL.out.nv cd.out b7.out):G:=h
def aDj (h:G:=by
  refine Ul ?_;rintro e bh ⟨rfl,an⟩;have bN:=hide an;refine alE ?_;clear U K;refine abY ?_;exact avk):G:=h
def aDk (h:G:=by
  refine Qd ?_;clear U K;exact Pz (listed':=tf 8 4) Nw Nw (ez ax bu cC.out)):G:=h
def avl (h:G:=by
  clear bE;go_wp2;go_ret;exact⟨⟨_,rfl,q,rfl⟩,ib.out,he,iG.out⟩):G:=h
def avm (h:G:=by
  clear cv;go_wp2;go_ret;exact⟨⟨_,rfl,_,rfl⟩,bk.out,he,bS.out⟩):G:=h
def aDl (h:G:=by
  go_wp2_with fail;refine NJ ?_;rintro e w1 ⟨⟨u,rfl,T⟩,D⟩;obtain⟨eq,uc,rfl⟩:=T.form;have bo:=hide (T.low aV.out.size);exact aDh):G:=h
def aDm (h:G:=by
  have A{G}(h:G:=by
  refine wh 12 (L9 false) bX.out ?_;exact aDn):=LG h;exact auP):G:=h
def aDo (h:G:=by
  have A{G}(h:G:=by
  refine wh 12 (L9 true) bX.out ?_;exact aDn):=LG h;exact auP):G:=h
def aDp (h:G:=by
  rintro a4 w2 ⟨rfl,rfl⟩;go_wp2_with fail
  go_round
  case rel=>exact⟨q+1,by omega,by omega,by go_num,rv.out⟩
  case measure=>simp[intOf];omega):G:=h
def aDq (h:G:=by
  go_wp2_with fail;have hds:∀ i,(ak:i<(s.extract j e).size)->Nl ((s.extract j e)[i].toNat:Int)=true:=λi ak=>aDf
  exact aGF):G:=h
def aGp (h:G:=by
  show Below _ _ _
  rw[bW];exact((q7.out.trans (fe.mono q7.out.size)).setCell (p:=(LD w.heap.size 0)) Nh _).setCell (p:=(LD w.heap.size 1)) Nh _):G:=h
def aDr (h:G:=by
  go_wp2
  go_roundw
  case rel=>exact⟨k+1,by omega,by go_num,by rw[co.out];exact kM.out,jq.out⟩
  case measure=>simp[intOf];omega):G:=h
def awY (h:G:=by
  exact L8 (I:=λk=>k≠b) (λk N _=>zalap _ _ _ _ (λe=>N e)) (λg hg=>by simp[Value.ownBlock] at hg;omega) bw):G:=h
def aGA (h:G:=by
  refine⟨da.os,da.tape,da.output,by have:=da.size;simp at this;omega,λk N=>?_⟩
  rw[da.block k LM LM,zalaa w _ k N]):G:=h
def avn (h:G:=by
  rw[T] at bY;simp only[aaY] at bY;exact absurd bY.out.symm bb.out):G:=h
def aDs (h:G:=by
  clear T;have A{G}(h:G:=by
  exact⟨rfl,O3 aF.out.symm (fG.out.next aa)⟩):=LG h;exact U8):G:=h
def aDt (h:G:=by
  have ag:=hide (P5 c _ t5 _ _ he OX bk.out);go_wp2_with fail;refine NJ ?_;rintro e gQ ⟨rfl,rfl⟩;exact aDu):G:=h
def aDv (h:G:=by
  refine NJ ?_;intro e w' ae;obtain⟨rfl,aa⟩:=ae;exact⟨rfl,O3 aF.out.symm (mF.out.drew.next aa)⟩):G:=h
def aDw (h:G:=by
  go_wp2
  go_roundw
  case rel=>exact⟨k+1,by omega,by go_num,z4.out,i0.out⟩
  case measure=>simp[intOf];omega):G:=h
def aDx (h:G:=by
  refine Qh 6 λK U=>?_;go_simp;refine cm (Lu gY _ (E'.out.later dK) (wP.out.trans (Fm.of dK))) ?_;exact aCC):G:=h
def aDA (h:G:=by
  go_wp2_with fail;exact⟨aaX e (au++[Tk.mk 3 ⟨#[]⟩ n j]) b0 c8 OM dm.out j7.out Nw,by simp[mu6,intOf];omega⟩):G:=h
def aDB (h:G:=by
  refine Qh 6 λK U=>?_;go_simp;refine cm (Lu gY _ (bj.out.trans (O4.drew.mono bj.out.size))) ?_;exact aCC):G:=h
def axC (h:G:=by
  go_wp2_with fail;obtain⟨fQ,bW⟩:∃ fQ,fQ=w1.setCell (LD w.heap.size 1) (L9 true):=⟨_,rfl⟩;have A{G}(h:G:=by
  have bE:fQ.heap[w.heap.size]? = some (NK #[.pointer aQ,L9 true] 112):=by rw[bW,heap_set cD.out];rfl
  have A{G}(h:G:=by
  have ea:Hid (fQ.cell? (LD w.heap.size 1)=some (L9 true)):=by show _=_;rw[cell_of sO.out];rfl
  have A{G}(h:G:=by
  have A{G}(h:G:=by
  have A{G}(h:G:=by
  refine cm (Ur aQ true no (some (LD fn 0)) 1 1 false none aq) ?_;have A{G}(h:G:=by
  have cJ:bh.heap[w.heap.size]? = some (NK #[.pointer aQ,L9 true] 112):=by rw[fe.block _ LM];exact Lu sO
  have gM:bh.heap[w.heap.size+1]? = some (NK #[Pe,L9 false] 112):=by rw[fe.block _ LM];exact Lu AD
  have A{G}(h:G:=by
  refine Qh 14 λK U=>?_;go_simp;refine zlm ?_;clear U K;refine abY ?_;obtain⟨w2,bW⟩:∃ w2,w2=(bh.setCell (LD w.heap.size 0) (MX a')).setCell (LD w.heap.size 1) (L9 true):=⟨_,rfl⟩;have A{G}(h:G:=by
  have cU:Hid (w2.heap[w.heap.size]? = some (NK #[MX a',L9 true] 112)):=by show _=_;rw[bW,heap_set (heap_set cJ _)];rfl
  have A{G}(h:G:=by
  have A{G}(h:G:=by
  have A{G}(h:G:=by
  refine ug 0 (Pv (MX a') true) rfl (zalad ⟨by kernel_rfl,λX aB=>by have aJ:=Md aB fj.out;have E:=Md aB ea.out;go_simp⟩) aE ?_
  have A{G}(h:G:=by
  have A{G}(h:G:=by
  have A{G}(h:G:=by
  clear U K gM;have A{G}(h:G:=by
  refine aCv ?_;exact axD):=LG h;exact azP):=LG h;exact apT):=LG h;exact aCf):=LG h;exact abX):=LG h;exact zsj):=LG h;exact aud):=LG h;exact axE):=LG h;exact axF):=LG h;exact aqG):=LG h;exact axG):=LG h;exact axH):=LG h;exact an4):=LG h;exact axI):=LG h;exact axJ):=LG h;exact axK):G:=h
def avo (h:G:=by
  intro m
  induction m with
  | zero=>intro t aH;have:=Ud t;omega
  | succ m aU=>
   intro t aH aA ts a w ee ak hT;obtain⟨lE,bF,_,_,v,dR,hrow,hG⟩:=hT.cells;have hlen:(t.ks.map Ad.p).length=t.ks.length:=zalag _;obtain⟨eq,uc,aS⟩:=NH hrow;subst aS;rw[hlen] at dR;have ag:=hide (bB a t ts w ee ak hT);have kL:=hide (fT a t ts ee);have eu:=hide (aDC f a t);have kH:=hide hT.parts;have fa:=hide hrow;have pZ:=hide hG;have i4:=hide (aU);have re:=hide aH;have Eg:=hide aA;have ju:=hide dR;have sN:=hide bF;have rg:=hide lE;have HLEN:=hide hlen;have mK:=hide tW
   have AL:=hide sb;have gw:t.ks.length<=90000:=by have E:=P8 t.ks;have O:=OA t;omega
   clear bB fT ak hG aU aH aA dR bF lE hlen tW sb ee;obtain⟨p,ae⟩:∃ p,p=t.p:=⟨_,rfl⟩;rw[<-ae] at ag ju sN rg ⊢;clear ae
   cases af:(f a t).2 with
   | false=>
    rw[af] at ag kL eu;clear af;have A{G}(h:G:=by
    have nw:=hide gd;have b7:=hide fo;clear gd fo;go_wp2_with fail;exact Ug (v:=.tuple #[]) ⟨rfl,by rw[eu.out];exact nw.out,by rw[eu.out];exact kL.out,b7.out⟩):=LG h;exact aqd
   | true=>
    rw[af] at ag kL eu;clear af;obtain⟨fM,fo⟩:∃ fM,fM=(f a t).1:=⟨_,rfl⟩;rw[<-fo] at ag kL eu;clear fo;have A{G}(h:G:=by
    obtain⟨eB,bM⟩:=Lu AL _ _ fo;have hv:w1.cell? (LD p 3)=some (.slice eq t.ks.length uc):=by rw[zalar (w:=w) (eB p rg.out sN.out)];exact Lu ju
    have vX:p<w1.heap.size:=zalau sN.out bM;have nw:=hide gd;have b7:=hide fo;clear gd fo bM;go_wp2_with fail
    go_loopw [23] (λi wr=>∃ k:Nat,k<=t.ks.length/\i=LJ k/\jQ (VP f fM (t.ks.take k)) wr/\P (VP f fM (t.ks.take k)) (t.ks.drop k++ts)/\hM w wr) (λi _=>t.ks.length - (intOf i).toNat)
    case atStart=>exact⟨0,zalae _,rfl,by rw[List.take_zero,VP];exact nw.out,by rw[List.take_zero,VP];exact kL.out,b7.out⟩
    case round=>
     obtain⟨k,N,rfl,hg,qH,dq⟩:=hrel;have ic:=hide hg;have At:=hide qH;have eP:=hide dq;clear hg dq qH
     by_cases aC:k<t.ks.length
     ·obtain⟨g,cap,a0,hcell⟩:=OB fa.out (by rw[HLEN.out];omega)
      have A{G}(h:G:=by
      have iu:k<(t.ks.map Ad.p).length:=by rw[HLEN.out];exact aC
      have g2:=Lu pZ g rfl;have de:=(Me fa.out g rfl).1;obtain⟨dV,bP⟩:=Lu AL _ _ eP.out;obtain⟨q,ac⟩:∃ q,q=(t.ks[k]).p:=⟨_,rfl⟩;have dU:wr.cell? (LD g k)=some (LC q):=by
       rw[zalar (w:=w) (a:=(LD g k)) (dV g g2 de),hcell k iu,zalcx,ac]
      have mq:MZ I wr t.ks[k]:=MZ.later dV _ (Lu kH _ (zalao aC));have n7:g<wr.heap.size:=zalau de bP;have gc:(t.ks[k]).cnt<=m:=by
       have E:=UJ t.ks _ (zalao aC);have O:=OA t;have ao:=Lu re;omega
      have qH:=Lu At;rw[zalbs aC,zalcq] at qH;have ag:=hide (i4.out t.ks[k] gc (by have:=Lu Eg;omega) (t.ks.drop (k+1)++ts) _ wr qH ic.out mq)
      have nY:=hide (aod f t.ks fM k aC);rw[<-ac] at ag;have eY:(k:Int)<(t.ks.length:Int):=LM;clear hcell gc qH bP ac;go_wp2_with fail;refine NJ ?_;rintro e w2 ⟨rfl,db,bE,cI⟩;have b9:=hide db;have cU:=hide bE;have bR:=hide (Lu mK _ _ _ eP.out cI);clear db cI bE dU;go_wp2
      go_roundw
      case rel=>exact⟨k+1,by omega,by go_num,by rw[nY.out];exact b9.out,by rw[nY.out];exact cU.out,bR.out⟩
      case measure=>simp[intOf];omega):=LG h;exact Tf
     ·have cq:k=t.ks.length:=LM;subst cq;go_wp2
      go_end0
      have E:=Lu ic;have O:=Lu At;rw[zalaq] at E O;rw[List.drop_length,zalbq] at O;rw[eu.out];exact⟨rfl,E,O,eP.out⟩):=LG h;exact aqd):G:=h
def avp (h:G:=by
  refine zlb ?_;refine wt 5 (LQ s) ?_;refine wt 6 (Nz c) ?_;refine wr2 4 7 (λK U=>?_) λK U=>?_
  ·go_simp;refine Qd ?_;clear U K;refine O7 7 λK U=>?_;go_simp;refine cm q8.out ?_;have A{G}(h:G:=by
   have A{G}(h:G:=by
   have A{G}(h:G:=by
   refine O7 8 λK U=>?_;go_simp;refine Qd ?_;clear U K;refine O7 9 λK U=>?_;go_simp;refine auW ?_;rintro e up ⟨rfl,rfl⟩;refine U _ _ ?_;clear U K;refine O7 10 λK U=>?_;go_simp;refine Qd ?_;clear U K;refine Pz (listed':=tf 11 4) Nw rfl ?_;exact ez ax bu fb.out):=LG h;exact aqN):=LG h;exact aBP):=LG h;exact alL
  ·go_simp;refine cm q8.out ?_;have A{G}(h:G:=by
   have A{G}(h:G:=by
   have A{G}(h:G:=by
   refine wr2 4 8 (λK U=>?_) λK U=>?_
   ·go_simp;refine Qd ?_;clear U K;refine O7 8 λK U=>?_;go_simp;exact aCz
   ·go_simp;refine Qd ?_;clear U K;refine wr2 4 9 (λK U=>?_) λK U=>?_
    ·go_simp;exact aCz
    ·go_simp;refine auW ?_;rintro e up ⟨rfl,rfl⟩;refine U _ _ ?_;clear U K;refine wr2 4 10 (λK U=>?_) λK U=>?_
     ·go_simp;refine Qd ?_;clear U K;refine O7 10 λK U=>?_;go_simp;exact au2
     ·go_simp;refine Qd ?_;clear U K;refine O7 4 λK U=>?_;go_simp;exact au2):=LG h;exact aqN):=LG h;exact aBP):=LG h;exact alL):G:=h
def axn (h:G:=by
  go_wp2_with fail;obtain⟨w2,bW⟩:∃ w2,w2=w1.setCell (LD w.heap.size 1) (L9 true):=⟨_,rfl⟩;have A{G}(h:G:=by
  have bE:w2.heap[w.heap.size]? = some (NK #[.pointer aQ,L9 true] 112):=by rw[bW,heap_set cD.out];rfl
  have A{G}(h:G:=by
  have A{G}(h:G:=by
  have A{G}(h:G:=by
  have A{G}(h:G:=by
  have A{G}(h:G:=by
  have A{G}(h:G:=by
  have A{G}(h:G:=by
  have A{G}(h:G:=by
  clear U K;have A{G}(h:G:=by
  refine aCv ?_;exact zalad ⟨by decide,rfl⟩):=LG h;exact azP):=LG h;exact apT):=LG h;exact aCf):=LG h;exact abX):=LG h;exact an4):=LG h;exact zsj):=LG h;exact aud):=LG h;exact apU):=LG h;exact axz):=LG h;exact axA):G:=h
def avq (h:G:=by
  have A{G}(h:G:=by
  cases bG:PX c.l F d rest (j+1) with
  | out=>rw[bG] at aG;exact absurd aG.out.symm bb.out
  | bad er pl=>
   exact aCQ
  | ok u a8=>
   have cK:=hide (gW.out _ _ _ bG.symm (by nofun) dr.out em.out);rw[bG] at aG;have gH:Hid (P6 c.l (PX c.l F d rest) s k (.mk (opK (MJ c.l j).tx) LH 0 [t,u]) a8=r):=Lu aG;exact aCP):=LG h;exact azZ):G:=h
def avr (h:G:=by
  have A{G}(h:G:=by
  cases bG:PX c.l F d [] (j+1) with
  | out=>rw[bG] at aG;exact absurd aG.out.symm bb.out
  | bad er pl=>
   exact aCQ
  | ok u a8=>
   have cK:=hide (gW.out _ _ _ bG.symm (by nofun) dr.out em.out);rw[bG] at aG;have gH:Hid (P6 c.l (PX c.l F d []) s k (.mk (opK (MJ c.l j).tx) LH 0 [t,u]) a8=r):=Lu aG;exact aCP):=LG h;exact azZ):G:=h
def ari (h:G:=by
  have A{G}(h:G:=by
  refine wr2 4 8 (λK U=>?_) λK U=>?_
  ·go_simp;refine Qd ?_;clear U K;refine O7 8 λK U=>?_;go_simp;refine Qd ?_;clear U K;refine auX ?_;refine O7 10 λK U=>?_;go_simp;exact au6
  ·go_simp;refine Qd ?_;clear U K;refine auX ?_;refine wr2 4 10 (λK U=>?_) λK U=>?_
   ·go_simp;refine Qd ?_;clear U K;refine O7 10 λK U=>?_;go_simp;exact au6
   ·go_simp;refine Qd ?_;clear U K;refine wr2 4 11 (λK U=>?_) λK U=>?_
    ·go_simp;exact au6
    ·go_simp;refine Qd ?_;clear U K;refine O7 4 λK U=>?_;go_simp;exact aCE):=LG h;exact aqI):G:=h
def aDD (h:G:=by
  have A{G}(h:G:=by
  cases gw:(OE b a==some a.p) with
  | true=>
   exact aCw
  | false=>
   rw[gw] at ac
   by_cases b5:0<(Nk a).length
   ·have rh:Hid (keepA (OE b a) a=true):=by show _=_;unfold keepA;rw[gw,YB];simp[b5]
    have A{G}(h:G:=by
    have pj:=ZG 121 119 fm al (i:Int) (.agg #[LC a.p,.slice aQ (Nk a).length cc]) w2 zalgx aW (a4.new i a1.out);have jt:=hide aW;have wN:=hide a4;have pn:(0:Int)<((Nk a).length:Int):=LM;have fG:Hid (∀ X,TN I B X (ah++[(i,a)]) (al++[((i:Int),.agg #[LC a.p,.slice aQ (Nk a).length cc])])->TN I B X (ah++[(i,a)]) (al++[((i:Int),.agg #[LC a.p,.slice aQ (Nk a).length cc])])):=λ_ h=>h
    have nt:Hid (TN I B w2 (ah++[(i,a)]) (al++[((i:Int),.agg #[LC a.p,.slice aQ (Nk a).length cc])])):=a4.snoc i a _ bX.out
    generalize (Nk a).length=F1 at pj pn nt ⊢
    exact aCO):=LG h;exact aAJ
   ·have rh:Hid (keepA (OE b a) a=false):=by show _=_;unfold keepA;rw[gw,YB];simp[b5]
    have bL:(Nk a).length=0:=LM;exact aCA):=LG h;exact aAu):G:=h
def aDE (h:G:=by
  have A{G}(h:G:=by
  cases gw:(OE b a==some a.p) with
  | true=>
   exact aCw
  | false=>
   rw[gw] at ac
   by_cases b5:0<(declT a.tr).length
   ·have rh:Hid (keepA (OE b a) a=true):=by show _=_;unfold keepA;rw[gw];simp[b5]
    have A{G}(h:G:=by
    have pj:=ZG 121 119 fm al (i:Int) (.agg #[LC a.p,.slice aQ (declT a.tr).length cc]) w2 zalgx aW (a4.new i a1.out);have jt:=hide aW;have wN:=hide a4;have pn:(0:Int)<((declT a.tr).length:Int):=LM;have fG:Hid (∀ X,WE I B X (ah++[(i,a)]) (al++[((i:Int),.agg #[LC a.p,.slice aQ (declT a.tr).length cc])])->WE I B X (ah++[(i,a)]) (al++[((i:Int),.agg #[LC a.p,.slice aQ (declT a.tr).length cc])])):=λ_ h=>h
    have nt:Hid (WE I B w2 (ah++[(i,a)]) (al++[((i:Int),.agg #[LC a.p,.slice aQ (declT a.tr).length cc])])):=a4.snoc i a _ bX.out
    generalize (declT a.tr).length=F1 at pj pn nt ⊢
    exact aCO):=LG h;exact aAJ
   ·have rh:Hid (keepA (OE b a) a=false):=by show _=_;unfold keepA;rw[gw];simp[b5]
    have bL:(declT a.tr).length=0:=LM;exact aCA):=LG h;exact aAu):G:=h
def aDF (h:G:=by
  have ky:(((s[q].toNat:Nat):Int)==39)=false:=by rw[show (39:Int)=(((39:UInt8).toNat:Nat):Int) from rfl,bT];simp[c1]
  by_cases c2:s[q]=10
  ·have gl:(((s[q].toNat:Nat):Int)==10)=true:=by rw[c2];rfl
   rw[aat s q said ef (by rw[dL];exact c2)] at cX
   cases cX
  ·have gl:(((s[q].toNat:Nat):Int)==10)=false:=by rw[show (10:Int)=(((10:UInt8).toNat:Nat):Int) from rfl,a'];simp[c2]
   by_cases c3:s[q]=92
   ·have lX:(((s[q].toNat:Nat):Int) != 92)=false:=by rw[c3];rfl
    by_cases qJ:q+1<s.size
    ·have A{G}(h:G:=by
     by_cases a9:s[q+1]=110
     ·exact aC0
     ·have u1:(((s[q+1].toNat:Nat):Int)==110)=false:=by rw[show (110:Int)=(((110:UInt8).toNat:Nat):Int) from rfl,d1];simp[a9]
      by_cases bD:s[q+1]=39
      ·have A{G}(h:G:=by
       have A{G}(h:G:=by
       clear cX m7 bT a' cV c1 c2 c3 dL mY d1 d2 fy a9 bD;exact au9):=LG h;exact alM):=LG h;exact aB6
      ·have u2:(((s[q+1].toNat:Nat):Int)==39)=false:=by rw[show (39:Int)=(((39:UInt8).toNat:Nat):Int) from rfl,d2];simp[bD]
       by_cases b8:s[q+1]=92
       ·have A{G}(h:G:=by
        have A{G}(h:G:=by
        clear cX m7 bT a' cV c1 c2 c3 dL mY d1 d2 fy a9 bD b8;exact au9):=LG h;exact alM):=LG h;exact aB5
       ·have A{G}(h:G:=by
        cases cX):=LG h;exact aA2):=LG h;exact aBu
    ·have A{G}(h:G:=by
     cases cX):=LG h;exact aCp
   ·exact aCT):G:=h
def au7 (h:G:=by
  refine U _ _ ?_;clear U K;refine wr2 4 9 (λK U=>?_) λK U=>?_
  ·go_simp;refine Qd ?_;clear U K;refine O7 9 λK U=>?_;go_simp;exact avb
  ·go_simp;refine Qd ?_;clear U K;refine O7 4 λK U=>?_;go_simp;exact avb):G:=h
def aDG (h:G:=by
  refine aiv ?_;have A{G}(h:G:=by
  have A{G}(h:G:=by
  have tF:s.size<=e:=LM;clear g1;have A{G}(h:G:=by
  go_loop [5] (λv=>∃ q:Nat,j<=q/\q<=e/\v=LJ q/\MH Nl s q=e) (λv=>s.size - (intOf v).toNat)
  case atStart=>exact⟨j,Nh,by omega,rfl,hY.out⟩
  case round=>
   obtain⟨q,jf,dP,rfl,cX⟩:=hrel
   by_cases ef:q<s.size
   ·
    cases aD:Nl (s[q].toNat:Int)
    ·have bB:=Qa Nl s q ef aD;exfalso;omega
    ·have A{G}(h:G:=by
     rw[js.out];exact aDp):=LG h;exact aBR
   ·have d4:e=q:=by have:=RS Nl s q LM;omega
    subst d4;clear cX;go_wp2_with fail;have hds:∀ i,(ak:i<(s.extract j e).size)->Nl ((s.extract j e)[i].toNat:Int)=true:=λi ak=>aDf
    have A{G}(h:G:=by
    clear hds bK
    go_wp2_with (at_builtin;refine zalcr _ rfl _ _ 161 rfl (w.heap.size+1) 167 a6 TB 4 40 zalem ak bL bM bP rfl MK _ _ _ rfl (l6.out.own.alloc _) (LD aq.heap.size 0) 1 1 [LJ 3,U7,LJ n,LJ (j:Int)] rfl rfl ?c1 ?c2 ?c3 ?c4 ?c5 ?_)
    case c1=>
     exact aDc
    case c2=>
     intro u aS;simp only[zalas,zalcw,zalfb] at aS
     rcases aS with rfl|rfl|rfl|rfl <;> rfl
    case c3=>unfold maxLen;omega
    case c4=>omega
    case c5=>have:=l6.out.size;simp;omega
    intro b0 bn hown' hgrow _;have j7:=hide (l6.out.app (t:=Tk.mk 3 ⟨#[]⟩ n j) _ hown' hgrow);exact aDA):=LG h;exact aqL):=LG h;exact aaf):=LG h;exact aui):=LG h;exact zsf):G:=h
def Qe (h:G:=by
  rw[T] at aF;simp only[aaY] at aF;exact absurd aF.out.symm bb.out):G:=h
def aDH (h:G:=by
  refine U _ _ ?_;clear U K
  by_cases jj:ci=[]
  ·obtain rfl:=sH.out.2.1 jj;subst jj;obtain⟨HT,lB,rfl⟩:=b'.out.cap (by rw[fv.out];decide)
   have cD:=hide (aDI b'.out fi.out dh.out dl.out);refine O7 11 λK U=>?_;go_simp;refine Qd ?_;clear U K HT;have A{G}(h:G:=by
   go_roundw
   case rel=>exact⟨k,.mk 35 LH 0 [t],a8,qU,rfl,aF.out,f4.out,hL.out,by have dt:=Lu fL;rw[show Tr.mk cg.kd cg.tx cg.n (cg.kids++[])=Tr.mk 35 LH 0 [t] by rw[gg];rfl] at dt;exact dt⟩
   case measure=>rw[TG f4.out,TG nK.out];omega):=LG h;exact aAR
  ·obtain⟨dn,cap2,bf,rfl,eZ,r8,CQ⟩:=sH.out.many jj;have za:=sH.out.2.2;have hpos:0<ci.length:=List.length_pos_iff.2 jj;have cy:=hide (Open.apart bI.out jp.out.size w8.out a1.out (show LU (From d0.heap.size) ax ci bf from r8));have hlen:=LU.length _ _ b'.out.kids;have ex:=Lu fv;have bK:=dh.out.size;have hown:=b'.out.row;rw[hlen] at hown;have HOWN:=hide hown;have uZ:=hide eZ;have HLEN:=hide hlen;clear jj hlen;refine O7 11 λK U=>?_
   refine step_append_lies _ rfl _ _ 46 rfl w.heap.size 22 a6 Pe 1 8 zalbk b4 bL bM bP rfl MK _ _ _ rfl HOWN.out (LD dn 0) ci.length cap2 (bf.map LC) rfl (by simp[eZ]) CQ (arj bf) hpos (by unfold maxLen;omega) LM bK ax.heap.size rfl ?_
   intro g cap aq hown3 dD dc _;refine U _ _ ?_;clear U K;have cD:=hide (aDJ (m:=cg.kids.length+ci.length) b'.out cy.out fi.out dh.out dl.out hown3 (by rw[HLEN.out,uZ.out]) dD dc);have df:aq.cell? (LD gz 3)=ax.cell? (LD gz 3)/\aq.frozen? (LD gz 3)=ax.frozen? (LD gz 3):=by
    have dT:aq.heap[gz]? = ax.heap[gz]?:=dD.block gz d3 (λe=>b'.out.own e.symm);exact au4
   obtain⟨ek,el⟩:=df;rw[dW] at ek;rw[dX 3] at el;clear dc dW dX CQ ex;have A{G}(h:G:=by
   go_roundw
   case rel=>exact⟨k,.mk 35 LH 0 (t::ci),a8,qU,rfl,aF.out,f4.out,hL.out,by have dt:=Lu fL;rw[show Tr.mk cg.kd cg.tx cg.n (cg.kids++ci)=Tr.mk 35 LH 0 (t::ci) by rw[gg];rfl] at dt;exact dt⟩
   case measure=>rw[TG f4.out,TG nK.out];omega):=LG h;exact aAR):G:=h
def avs (h:G:=by
  have A{G}(h:G:=by
  have i3:=hide (Open.acU b'.out g7.out rfl hown3 dD dc);have A{G}(h:G:=by
  exact⟨⟨_,rfl,i3.out.nv⟩,Aw.out.ap (Lu (cB _)) dl.out,dh.out.trans (Ap.of (Lu (cB _)))⟩):=LG h;exact aAr):=LG h;go_simp;exact aBB):G:=h
def aDK (h:G:=by
  have hlt2:=aY.lt;clear aa;have A{G}(h:G:=by
  have dE:=Lu ny;have A{G}(h:G:=by
  have A{G}(h:G:=by
  by_cases af:fx c.l a8=shut
  ·have ag:=hide (RD c shut bn a8 d gX.out af h1.out);rw[zalak af] at bY;clear af;go_wp2_with fail;refine NJ ?_;rintro e cM ⟨rfl,jg,gJ⟩;have i0:=hide (eg.out.next gJ);have kM:=hide jg;have lk:=hide (KV.later hJ.out gJ a1.out);go_wp2;go_ret;exact RF bY.out.symm ⟨lk.out,λa2=>absurd a2 MP,by simp;omega⟩ kM.out i0.out
  ·have ag:=hide (Sr c shut bn a8 d gX.out af);rw[zalah af] at bY;clear af;go_wp2_with fail;refine NJ ?_;rintro e cM ⟨rfl,eT⟩;have i0:=hide (eg.out.next (Ap.of eT));have kM:=hide (gX.out.later eT);have lk:=hide (KV.later hJ.out (Ap.of eT) a1.out)
   cases T:MG c.l Uw a8 with
   | out=>
    exact avn
   | bad er p=>
    have ag:=hide (NR c Uw cM a8 d kM.out MK);rw[T] at ag bY;simp only[Oc] at bY;clear T;have A{G}(h:G:=by
    exact⟨rfl,O3 bY.out.symm (i0.out.next aa)⟩):=LG h;exact U8
   | ok Lq sj=>
    have ag:=hide (NR c Uw cM a8 d kM.out MK);have h7:a8<sj:=by
     unfold MG at T
     split at T
     ·
      cases T;omega
     ·
      cases T
    rw[T] at ag bY;simp only[bind_ok] at bY;clear T;go_wp2_with fail;refine NJ ?_;intro e jo ae;obtain⟨⟨sr,rfl,rfl⟩,aY,aa⟩:=ae;have uv:=hide (i0.out.next aa);have Ax:=hide aY;have uO:=hide (KV.later lk.out aa a1.out);have Km:=aY.lt;clear aa;go_wp2
    go_roundw
    case rel=>exact⟨k,au++[t],sj,bY.out,Ax.out,uv.out,uO.out,by simp;omega⟩
    case measure=>rw[TG Ax.out,TG nK.out];omega):=LG h;exact aub):=LG h;exact ais):=LG h;exact an3):G:=h
def avt (h:G:=by
  have A{G}(h:G:=by
  have A{G}(h:G:=by
  exact⟨⟨_,rfl,_,rfl⟩,⟨ol,Aw.out.ap (Lu (cB _)) dl.out⟩,he,dh.out.trans (Ap.of (Lu (cB _)))⟩):=LG h;exact aAr):=LG h;go_simp;exact aBB):G:=h
def ayb (h:G:=by
  go_wp2_with fail;refine NJ ?_;rintro e w2 ⟨⟨u2,rfl,bG⟩,a5⟩;obtain⟨fS,c2,rfl⟩:=bG.form;have bj:=hide (ba.out.trans (a5.mono ba.out.size));have fw:=hide (dO.out.later a5);have p4:=hide (Na.later nU.out a5);have b9:=hide (acK (Tj t) _ w2 bG LM);go_wp2_with fail;refine Ul ?_;rintro e aq ⟨⟨u3,rfl,d6⟩,bx⟩;rw[<-rc.out] at d6;obtain⟨en,c3,rfl⟩:=LZ d6;have bV:=hide (bj.out.trans (bx.mono bj.out.size));have gU:=hide (fw.out.later bx);have nW:=hide (Na.later p4.out bx);have f5:=hide d6
  go_wp2_with (at_builtin;refine Rx rfl _ _ 38 rfl w.heap.size _ 9 a6 (LQ ByteArray.empty) 16 zalde b4 bL bM bP rfl _ _ _ rfl nW.out _ _ _ rfl f5.out (SY F) (by unfold maxLen;omega) LM bV.out.size ?_)
  intro pC bh hown4 jY;have C5:Na w.heap.size bh pC s1:=by
   refine aac ?_;rw[Fg.out,zalab,zalam];exact hown4
  have fp:=λk N=>(Me nW.out k N).2;have fK:=hide (bV.out.grown jY bV.out.size fp);have h0:Hid (VA bh t p):=VA.later l9.out fK.out;obtain⟨mg,c4,rfl⟩:=LZ C5;have kQ:=hide C5;clear fp;have ag:=hide (afF t p bh h0.out LM);go_wp2_with fail;refine NJ ?_;rintro e bn ⟨⟨u5,rfl,gN⟩,ec⟩;obtain⟨oS,c5,rfl⟩:=gN.form;have d5:=hide (fK.out.trans (ec.mono fK.out.size));have Fe:=hide (Na.later kQ.out ec);have b9:=hide (acK (O0 t) _ bn gN LM);go_wp2_with fail;refine Ul ?_
  rintro e cM ⟨⟨u6,rfl,jg⟩,eT⟩;rw[<-D'.out] at jg;obtain⟨Ba,eF,rfl⟩:=LZ jg;have jq:=hide (d5.out.trans (eT.mono d5.out.size));have AQ:=hide (Na.later Fe.out eT);have kM:=hide jg
  go_wp2_with (at_builtin;refine Rx rfl _ _ 38 rfl w.heap.size _ 9 a6 (LQ ByteArray.empty) 16 zalde b4 bL bM bP rfl _ _ _ rfl AQ.out _ _ _ rfl kM.out (SY G) (by unfold maxLen;omega) LM jq.out.size ?_)
  intro sr jo yT yx;have C6:Na w.heap.size jo sr s2:=by
   refine aac ?_;rw[Fh.out,zalab,zalam];exact yT
  have fp:=λk N=>(Me AQ.out k N).2;have sx:=hide (jq.out.grown yx jq.out.size fp);obtain⟨qa,ds,rfl⟩:=LZ C6;have ag:=hide (afE s2 _ jo C6 LM);clear fp;go_wp2_with fail;refine NJ ?_;rintro e fs ⟨⟨u8,rfl,tS⟩,rT⟩;obtain⟨IX,I0,rfl⟩:=LZ tS;have ES:=hide (Ob tS sx.out.size);have DR:=hide (sx.out.trans (rT.mono sx.out.size));go_wp2;go_ret;exact⟨⟨_,rfl,ES.out⟩,DR.out⟩):G:=h
def aDL (h:G:=by
  have A{G}(h:G:=by
  have b9:=hide (Lu eE aq (b3.out.later p5.out));go_wp2_with fail;refine Ul ?_;rintro e bh ⟨⟨u4,rfl,gM⟩,hP⟩;obtain⟨R,a7⟩:∃ R,R=RV x:=⟨_,rfl⟩;rw[<-a7] at gM Db;obtain⟨mg,c4,rfl⟩:=LZ gM;have mH:=hide gM;have EM:=hide (Na.later ll.out hP);have fK:=hide (ba.out.trans (hP.mono ba.out.size));have wQ:Hid ((vw x).foldl OD ah=R.foldl OD iK):=by
   show _=_
   rw[mL.out,pW.out,a7,RV,Zd,zalby,nA.out];rfl
  clear a7 gv cn bC;go_wp2_with fail
  go_loopw [3,36] (λo j wr2=>∃ i:Nat,i<=R.length/\j=LJ i/\Na w.heap.size wr2 o ((R.take i).foldl OD iK)/\LX bh wr2) (λ_ j _=>R.length - (intOf j).toNat)
  case atStart=>exact⟨0,zalae _,rfl,EM.out,O4⟩
  case round=>
   obtain⟨i,ak,rfl,hown,hbel⟩:=hrel;have oM:=hide hown;have d5:=hide hbel;obtain⟨be,Iq,rfl⟩:=LZ hown;have cB:=hide (fK.out.trans (d5.out.mono fK.out.size))
   by_cases n9:i<R.length
   ·obtain⟨iM,I5,a0,r0,_,jW⟩:=VI (Na.later mH.out d5.out) i n9;have A{G}(h:G:=by
    have ir:(i:Int)<(R.length:Int):=LM;have fC:((R.take i).foldl OD iK).length<=60000:=by
     have E:=Xf (R.take i) iK;rw[zalbe] at E;omega
    have co:Hid ((R.take (i+1)).foldl OD iK=OD ((R.take i).foldl OD iK) R[i]):=by
     show _=_
     rw[zalac n9,zalby];rfl
    have ag:=hide (VN ((R.take i).foldl OD iK) R[i] _ _ oM.out LM cB.out.size)
    generalize R[i]=y at jW ag co
    generalize (R.take i).foldl OD iK=M at ag co oM fC
    have A{G}(h:G:=by
    have jq:=hide (d5.out.trans (eT.mono d5.out.size));go_wp2
    go_roundw
    case rel=>exact⟨i+1,by omega,by go_num,by rw[co.out];exact kM.out,jq.out⟩
    case measure=>simp[intOf];omega):=LG h;exact auG):=LG h;exact Tf
   ·have ir:i=R.length:=LM;subst ir;go_wp2
    go_roundw
    case rel=>
     refine⟨k+1,by omega,by go_num,?_,cB.out⟩;rw[dm.out,wQ.out];have h:=Lu oM;rw[zalaq] at h;rw[zalaq];exact h
    case measure=>simp[intOf];omega):=LG h;exact auQ):G:=h
def aCL (h:G:=by
  have A{G}(h:G:=by
  have ea:Hid (wz.cell? (LD w.heap.size 1)=some (L9 true)):=by show _=_;rw[cell_of uW.out];rfl
  have A{G}(h:G:=by
  have A{G}(h:G:=by
  refine ug 5 (Pv (MX a') true) rfl (zalad ⟨by kernel_rfl,λX aB=>by have aJ:=Md aB fj.out;have E:=Md aB ea.out;go_simp⟩) aE ?_
  exact aCB):=LG h;exact aqU):=LG h;exact aB2):=LG h;exact aBh):G:=h
def aCN (h:G:=by
  have A{G}(h:G:=by
  have ea:Hid (wz.cell? (LD w.heap.size 1)=some (L9 dk)):=by show _=_;rw[cell_of uW.out];rfl
  have A{G}(h:G:=by
  have A{G}(h:G:=by
  refine ug 5 (Pv (MX a') dk) rfl (zalad ⟨by kernel_rfl,λX aB=>by have aJ:=Md aB fj.out;have E:=Md aB ea.out;go_simp⟩) aE ?_
  exact aCB):=LG h;exact aqU):=LG h;exact aB2):=LG h;exact aBh):G:=h
def axV (h:G:=by
  go_wp2_with fail
  go_loopw [3,8] (λo i wr=>∃ k:Nat,k<=ts.length/\i=LJ k/\Na w.heap.size wr o ((ts.take k).map Tr.tx)/\LX w wr) (λ_ i _=>ts.length - (intOf i).toNat)
  case atStart=>exact⟨0,zalae _,rfl,Ql _ _,O4⟩
  case round=>
   obtain⟨k,N,rfl,hown,hbel⟩:=hrel;have HOWN:=hide hown;have cZ:=hide hbel;obtain⟨aQ,cc,rfl⟩:=LZ hown
   by_cases aC:k<ts.length
   ·obtain⟨g,cap,q,a0,hg,am,av⟩:=(bo.out.later cZ.out).cell k aC;have A{G}(h:G:=by
    obtain⟨eZ,_,c1,_⟩:=av.cells;have eY:(k:Int)<(ts.length:Int):=LM;obtain⟨x,af⟩:∃ x,x=(ts[k]).tx:=⟨_,rfl⟩;rw[<-af] at c1;have cy:=hide af;have bK:=cZ.out.size;obtain⟨ah,bm⟩:∃ ah,ah=(ts.take k).map Tr.tx:=⟨_,rfl⟩;have rP:ah.length=k:=by rw[bm];simp;omega
    have cQ:=hide bm;rw[<-bm] at HOWN ⊢;have l':Hid (World.ownsRow wr w.heap.size 9 1 (.slice aQ k cc) k (ah.map Value.string)):=by
     have h:World.ownsRow wr w.heap.size 9 1 (.slice aQ ah.length cc) ah.length (ah.map Value.string):=Lu HOWN;rw[rP] at h;exact h
    rw[rP];have nA:=hide rP;clear af bm rP
    go_wp2_with (at_builtin;refine wpList_append_lies _ rfl _ _ 38 rfl w.heap.size 9 a6 (LQ ByteArray.empty) 1 16 zalde b4 bL bM bP rfl MK _ _ _ rfl (l'.out.alloc _) (LD wr.heap.size 0) 1 1 [LQ x] rfl rfl (Vy wr x _ rfl) (YS x) MK (by unfold maxLen;omega) LM OM (wr.heap.size+1) MP ?_)
    have A{G}(h:G:=by
    go_roundw
    case rel=>
     refine⟨k+1,by omega,by go_num,?_,bV.out⟩;rw[zalac aC,zalam,<-cQ.out];refine aac ?_;rw[zalab,zalam,nA.out]
     show World.ownsRow _ _ _ _ _ _ (_++[Value.string (ts[k]).tx])
     rw[<-cy.out];exact Lu h2
    case measure=>simp[intOf];omega):=LG h;exact axR):=LG h;exact Tf
   ·have cA:k=ts.length:=LM;subst cA;go_wp2;go_ret;refine⟨⟨_,rfl,?_⟩,cZ.out⟩;exact aqa):G:=h
def Ze (h:G:=by
  rw[T] at ag aF;simp only[Oc] at aF;exact aDs):G:=h
def ark (h:G:=by
  have A{G}(h:G:=by
  refine O7 8 λK U=>?_;go_simp;refine Qd ?_;clear U K;refine auX ?_;refine O7 10 λK U=>?_;go_simp;refine Qd ?_;clear U K;refine O7 11 λK U=>?_;go_simp;refine Qd ?_;clear U K;refine Pz (listed':=tf 12 4) Nw rfl ?_;exact ez ax bu cC.out):=LG h;exact aqI):G:=h
def aoe (h:G:=by
  go_wp2_with fail;refine(aa8 _ _ _).mono ?_;rintro ew bh ⟨b,rfl,D,kj,yg⟩;have lG:=aV.out.trans (yg.mono bK);have tz:Below (w.alloc O35).heap.size (w.alloc O35) bh:=by simpa using lG
  obtain⟨am,an⟩:=XC tz;have q4:=hide D;have sy:=hide tz;have o':(w.alloc O35).heap.size<=b:=by simp;omega
  clear D kj;go_wp2_with fail;exact adY (v:=.tuple #[TB,LJ 0,.iface 144 (Mc b 0)]) ⟨b,rfl,aas sy.out o' q4.out _ _ _ _⟩):G:=h
def aDM (h:G:=by
  have A{G}(h:G:=by
  refine wr2 4 9 (λK U=>?_) λK U=>?_
  ·go_simp;refine Qd ?_;clear U K;refine O7 9 λK U=>?_;go_simp;refine Qd ?_;clear U K;refine auY ?_;refine O7 11 λK U=>?_;go_simp;exact au5
  ·go_simp;refine Qd ?_;clear U K;refine auY ?_;refine wr2 4 11 (λK U=>?_) λK U=>?_
   ·go_simp;refine Qd ?_;clear U K;refine O7 11 λK U=>?_;go_simp;exact au5
   ·go_simp;refine Qd ?_;clear U K;refine wr2 4 12 (λK U=>?_) λK U=>?_
    ·go_simp;exact au5
    ·go_simp;refine Qd ?_;clear U K;refine O7 4 λK U=>?_;go_simp;exact aCD):=LG h;exact aqI):G:=h
def aCS (h:G:=by
  have A{G}(h:G:=by
  clear aI;go_wp2;go_ret;exact⟨⟨_,rfl,_,rfl⟩,⟨a8,bk.out⟩,he,bS.out⟩):=LG h;exact an2):G:=h
def axX (h:G:=by
  have b3:=hide hm;have co:=hide (zalac aC);have cS:g<wr.heap.size:=LM;have rP:bf.length<=k:=by rw[eZ];have:=zalci f (ts.take k);rw[zalbe] at this;omega
  have pU:=hide (Me bb.out);clear dZ eZ
  cases a2:f ts[k] with
  | true=>
   have A{G}(h:G:=by
   go_wp2_with (at_builtin;refine wpList_append_lies _ rfl _ _ 46 rfl w1.heap.size 22 a6 Pe 1 8 zalbk b4 bL bM bP rfl MK _ _ _ rfl (bb.out.alloc _) (LD w2.heap.size 0) 1 1 [LC q] rfl rfl (VR w2 q _ rfl) (Yk q) MK (by unfold maxLen;omega) LM OM (w2.heap.size+1) MP ?_)
   intro dJ cap' aq hown' hgrow fX _;have bV:=hide (cZ.out.trans (((zalbd w1.heap.size w2).alloc bK (.cells #[LC q] 22)).grown hgrow OM (λb D=>(Lu pU b D).2)));have h2:=hide hown';clear fX;go_wp2
   go_roundw
   case rel=>
    refine⟨k+1,bf++[q],by omega,by go_num,?_,?_,bV.out⟩
    ·refine adC ?_;exact Lu h2
    ·rw[co.out,zalcg];simp only[zalbg,fh.out,zalcu,zaleh];exact QK.append (QK.cons b3.out QK.nil) _ _ h1.out
   case measure=>simp[intOf];omega):=LG h;exact ap9
  | false=>
   have A{G}(h:G:=by
   go_wp2
   go_roundw
   case rel=>
    refine⟨k+1,bf,by omega,by go_num,bb.out,?_,cZ.out⟩;rw[co.out,zalcg];simp only[zalbg,fh.out,zalcu,zalct,zalfg,zalba];exact Lu h1
   case measure=>simp[intOf];omega):=LG h;exact ap9):G:=h
def aDN (h:G:=by
  obtain⟨k,N,rfl,hown,hbel⟩:=hrel;have HOWN:=hide hown;have d5:=hide hbel;obtain⟨aQ,cc,rfl⟩:=LZ hown;have cB:=hide (fK.out.trans (d5.out.mono fK.out.size))
  by_cases aC:k<g'.length
  ·obtain⟨g,cap,q,a0,hg,gv,av⟩:=((i5.out.later d5.out).row cB.out).cell k aC;have A{G}(h:G:=by
   obtain⟨eZ,_,bC,_⟩:=av.cells;have eY:(k:Int)<(g'.length:Int):=LM;have qy:(((g'.take k).map Tr.tx).foldl OD V).length<=70000:=by
    have E:=Xf ((g'.take k).map Tr.tx) V;rw[zalag,zalbe] at E;omega
   have co:Hid (((g'.take (k+1)).map Tr.tx).foldl OD V=OD (((g'.take k).map Tr.tx).foldl OD V) (g'[k]).tx):=by
    show _=_
    rw[zalac aC,zalam,zalby];rfl
   have ag:=hide (VN (((g'.take k).map Tr.tx).foldl OD V) (g'[k]).tx _ wr HOWN.out LM cB.out.size)
   generalize (g'[k]).tx=y at bC ag co
   generalize ((g'.take k).map Tr.tx).foldl OD V=M at ag co HOWN qy
   have A{G}(h:G:=by
   have jq:=hide (d5.out.trans (eT.mono d5.out.size));exact aDr):=LG h;exact auG):=LG h;exact Tf
  ·have ir:k=g'.length:=LM;subst ir;go_wp2;go_ret;refine⟨⟨_,rfl,?_⟩,cB.out⟩;exact aqa):G:=h
def au8 (h:G:=by
  refine U _ _ ?_;clear U K;refine O7 9 λK U=>?_;go_simp;refine Qd ?_;clear U K;refine Pz (listed':=tf 10 4) Nw rfl ?_;exact ez ax bu fb.out):G:=h
def aDO (h:G:=by
  have A{G}(h:G:=by
  have A{G}(h:G:=by
  have d5:=hide (((zalbd w.heap.size bh).alloc bK (.cells #[LC iD] 22)).grown hgrow OM (λk N=>(Lu g8 k N).2));have A{G}(h:G:=by
  have ie:Hid (∃ j,Ps c bn j er (pl:Int)):=by
   obtain⟨a8,ae⟩:=Lu e';exact⟨a8,ae.ap d5.out dl.out⟩
  have FA:Hid (agb w.heap.size bn (.slice (some (LD g 0)) (au.length+1) cap)):=⟨ps++[iD],by have:=Lu HLEN;simp;omega,by have ab:=Lu HLEN;rw[zalab,zalbm,ab,zalam];exact hown'⟩
  clear hg;go_wp2
  go_roundg k
  case measure=>omega
  case rel=>exact zalal ⟨er,pl,gH.out,he,ie.out,eg.out,FA.out⟩):=LG h;exact aqJ):=LG h;exact ais):=LG h;exact aBq):G:=h
def aDP (h:G:=by
  clear cJ;have A{G}(h:G:=by
  have A{G}(h:G:=by
  have d5:=hide (((zalbd w.heap.size bh).alloc bK (.cells #[LC iD] 22)).grown hgrow OM (λk N=>(Lu g8 k N).2));have A{G}(h:G:=by
  have A{G}(h:G:=by
  have ie:=hide (e'.out.ap d5.out dl.out);have El:=hide (gW.out.kept _ _ _ Ac.out d5.out oL.out);clear hg;go_wp2
  go_roundg k
  case measure=>omega
  case rel=>exact zalad ⟨au++[t],a8,gH.out,hJ.out,ie.out,eg.out,by have a2:=Lu Ag;simp;omega,El.out⟩):=LG h;exact aAe):=LG h;exact aqJ):=LG h;exact ais):=LG h;exact an3):G:=h
def ava (h:G:=by
  go_wp2_with fail;refine(aa8 _ _ _).mono ?_;rintro ew bh ⟨b,rfl,D,kj,yg⟩;have hbel:=cZ.out.trans (yg.mono cZ.out.size);have o':=zalan cZ.out.size kj;clear am an;obtain⟨am,an⟩:=XC hbel;have aV:=hide D;have sy:=hide hbel;clear D kj;go_wp2_with fail;exact adY (v:=.tuple #[TB,LJ 0,.iface 144 (Mc b 0)]) ⟨b,rfl,aas sy.out o' aV.out _ _ _ _⟩):G:=h
def aF6 (h:G:=by
  obtain⟨g,cap,hg,hcell⟩:=OB hrow.1 (by rw[zalag];omega)
  simp only[zalcb] at hg;refine⟨g,hg.1,(Me hrow.1 g (by rw[hg.1];rfl)).1,?_⟩
  have h:=hcell k (by rw[zalag];exact N)
  simpa using h):G:=h
def aDQ (h:G:=by
  refine io _ _ ?_;clear io fk;refine zalff (rs:=[5]) Nw MP ?_;refine zaldq rfl (λfk io=>?_) zalfa;have A{G}(h:G:=by
  refine wt 7 (.slice (some (LD g 0)) (au.length+1) cap) ?_;exact aC7):=LG h;exact aAh):G:=h
def aDR (h:G:=by
  have br{G}(h:G:=by
  refine wg 6 (.tuple #[.func (.func f) #[Mc c.R 0] #[],L9 true]) rfl (zalad ⟨by kernel_rfl,λL aO=>by have a2:=cQ.out L aO;go_simp⟩) et.out ?_
  refine wh 7 (.tuple #[.func (.func f) #[Mc c.R 0] #[],L9 true]) et.out ?_;refine wh 8 (.func (.func f) #[Mc c.R 0] #[]) et.out ?_;refine wh 9 (L9 true) et.out ?_;refine wh 10 (.func (.func f) #[Mc c.R 0] #[]) et.out ?_;refine wh 11 (L9 true) et.out ?_;refine XY ?_;have ag:Hid _:=Lu bk fY et.out;go_wp2_with fail;refine NJ ?_;intro e w2 ae
  cases r with
  | out=>exact absurd rfl bb.out
  | bad er p=>
   obtain⟨rfl,aa⟩:=ae;exact⟨rfl,O3 rfl (kD.out.next aa)⟩
  | ok x j=>
   obtain⟨⟨v,rfl,a0⟩,aY,aa⟩:=ae;have eh:=hide (NV.mono a0 kD.out.size);have bX:=hide aY;have bR:=hide (kD.out.next aa);go_wp2;go_ret;exact RF rfl eh.out bX.out bR.out):=LG h;exact ztk):G:=h
def avg (h:G:=by
  go_wp2_with fail
  show Leaves prog Tryz.f36 _ _ [] .returning _
  refine⟨.tuple #[Pe,LJ 5],by simp[results,zalho,go_sem],?_⟩;exact Lu bk 5 _ MK (by rw[gD.out];simp) (gC.out.trans (ba.out.mono gC.out.size))):G:=h
def aDS (h:G:=by
  have A{G}(h:G:=by
  clear hds bK;go_wp2_with fail;exact adY (v:=.tuple #[.agg #[LJ 3,U7,LJ n,LJ (k:Int)],LJ (e:Int),nIZ]) ⟨rfl,Xg cZ.out _ _ _ _⟩):=LG h;exact aAb):G:=h
def aCZ (h:G:=by
  refine an0 ?_;clear U K;refine Qh 6 λK U=>?_;go_simp;refine zlm ?_;clear U K;refine UW Nw ?_ _;have gX:Hid (s9.ownsRow w.heap.size 116 3 (.slice (some (LD xz 0)) (n+1) c5) (n+1) (bQ++[LJ o,.slice dF nl dG,L9 b])):=Qj CZ (by have:=Lu kN;omega)
  have d5:Hid (LX w s9):=hI.out.trans (dK.mono hI.out.size);clear r1;go_simp;go_wp2;go_ret;exact⟨⟨_,rfl,by first|exact Lu gX | (simpa using gX.out)⟩,d5.out⟩):G:=h
def alV (h:G:=by
  intro u aS;simp only[zalas,zalcw,zalfb] at aS
  rcases aS with rfl|rfl|rfl|rfl <;> rfl):G:=h
def aDT (h:G:=by
  have eY:(k:Int)<(al.length:Int):=LM;obtain⟨gk,dI,de,dU⟩:=Lu wW k aC;subst dI;have GS:=Md hq.out dU;have Kb:=cell_lt GS;have ag:=hide (Lu i3 cN hq.out k aC);have co:Hid (((al.take (k+1)).any λx=>Yo x.tr)=(eK||Yo (al[k]).tr)):=by
   show _=_
   rw[zalac aC,zaleq,kE.out];simp
  clear dU de
  generalize (al[k]).p=q at *
  generalize Yo (al[k]).tr=b at *
  cases eK with
  | true=>
   exact aDe
  | false=>
   go_wp2_with fail;refine NJ ?_;rintro e aq ⟨rfl,h'⟩;obtain rfl:cN=aq:=h'.symm;clear h';exact aDe):G:=h
def aF4 (h:G:=by
  have hmem:=zalao N;have E:=Ua hmem;exact aiw (I:=I) _ _ Nh LM X (MZ.later (λb _ ab=>aB.block b ab) _ (hy.parts _ hmem)) (Ot (Ot ak y k') _ hmem)):G:=h
def arl (h:G:=by
  have A{G}(h:G:=by
  rw[T] at ag aF;simp only[Oc] at aF;clear T;have A{G}(h:G:=by
  exact⟨rfl,O3 aF.out.symm (hL.out.next aa)⟩):=LG h;exact U8):=LG h;exact auH):G:=h
def akZ (h:G:=by
  by_cases E:s=Oo
  ·subst E;decide +kernel
  by_cases O:s=Ov
  ·subst O;decide +kernel
  by_cases ao:s=MS
  ·subst ao;decide +kernel
  simp[Np,dcs,E,O,ao]):G:=h
def aDV (h:G:=by
  obtain⟨o,E,O⟩:=Zf s l 0 0;have dt:=zalgo;have ao:(Instr.findKey 9 (LQ s) (mapOf l).toList).run prog L=.ok o L:=by
   refine aq9 ?_;simp only[zalcm,mapOf];rw[E];rfl
  unfold Instr.lookup;rw[zalbu,zalcl ce L];have dU:∀ b,(Instr.checkKey b 10000 9 (LQ s)).run prog L=.ok () L:=by
   intro b;rw[Instr.checkKey,zalbu,zalcl dt L];rfl
  have hg:(getObj m).run prog L=.ok (.map (mapOf l) k) L:=by simp[getObj,Sem.run,aA]
  exact aC6):G:=h
def aF8 (h:G:=by
  refine⟨?_,Y0 y.tr true LM,by omega⟩;have E:=Qs (x.tr.kids.map Tr.tx);rw[zalag] at E;have O:=NG x.tr.kids;have ao:=Ou x.tr;omega):G:=h
def alW (h:G:=by
  go_enter func185,ntmps185;go_wp2_with fail
  go_region
  go_wp2_with fail;refine cm (ag.out _) ?_;rintro e w1 ⟨rfl,rfl⟩;go_wp2;go_ret;exact⟨rfl,Qn.drew⟩):G:=h
def alX (h:G:=by
  go_wp2;go_ret;exact⟨⟨_,rfl,_,rfl⟩,⟨eI,(dr.out.alloc _).alloc _⟩,he,(b1.out.alloc b1.out.size _).alloc (by have:=b1.out.size;simp;omega) _⟩):G:=h
def agc (h:G:=by
  rw[N] at aG;clear N;go_wp2_with fail;refine aaW Q .normal _ rfl rfl rfl rfl rfl ?_;exact Lu aG _ rfl rfl rfl rfl rfl):G:=h
def aDW (h:G:=by
  have A{G}(h:G:=by
  clear aI;have cK:=hide (UF c _ a8 er pl he VE bk.out);go_wp2_with fail;refine WB ?_;rintro e wz ⟨rfl,D⟩;have np:=hide (bS.out.next (Ap.of D));have nF:=hide (bk.out.later D);clear c0 c1 c2 c3 dx h4 ey;go_wp2;go_ret;exact⟨⟨_,rfl,_,rfl⟩,⟨a8,nF.out⟩,he,np.out⟩):=LG h;exact an2):G:=h
def aof (h:G:=by
  have dT:aq.heap[bq]? = wd.heap[bq]?:=(dD.block bq OM (λe=>gF.out.own e.symm)).trans (zalaa wd _ bq mO);exact⟨zalar (w:=wd) dT,zalef (w:=wd) dT⟩):G:=h
def aDX (h:G:=by
  have ag:=hide (Uk ai gn.drew d (bH+1) oO.out.drew (by rw[T];nofun))
  have A{G}(h:G:=by
  refine zlb ?_;refine zlx ?_;refine wr2 4 8 (λK U=>?_) λK U=>?_
  ·go_simp;refine Qd ?_;clear U K;refine O7 8 λK U=>?_;go_simp;exact aDv
  ·go_simp;exact aDv):=LG h;exact alF):G:=h
def arn (h:G:=by
  rw[bG] at ae bY;have ac:r=.bad er pl:=Lu bY;subst ac;obtain⟨⟨v,rfl,rfl⟩,bE,he,cI⟩:=ae;have cU:=hide bE;have bR:=hide (bS.out.next cI);clear bE bG;go_wp2;go_ret;exact⟨⟨_,rfl,_,rfl⟩,cU.out,he,bR.out⟩):G:=h
def aAC (h:G:=by
  show Below _ _ _
  rw[d7];exact((bj.out.trans (fe.mono bj.out.size)).setCell (p:=(LD w.heap.size 0)) Nh _).setCell (p:=(LD w.heap.size 1)) Nh _):G:=h
def aGE (h:G:=by
  have ag:=hide (Uk ai gQ d (bH+1) AE.out (by rw[T];nofun))
  have A{G}(h:G:=by
  intro e w2 ae;obtain⟨⟨v2,rfl,iC,rfl,gy⟩,aY,aa⟩:=ae;have bR:=hide (wE.out.next aa);have bX:=hide aY;replace dO:=hide (Zg dO.out aa a1.out wE.out.size gy);have ag:=hide (Oi 24 LH (.slice (some (LD w2.heap.size 0)) 2 2) (w2.alloc (.cells #[LC ep,LC iC] 22)) ⟨_,_,_,rfl⟩);have A{G}(h:G:=by
  obtain⟨bZ,cf,cx⟩:=made bX.out bR.out dO.out (by simp[maxLen]) #[LC ep,LC iC] rfl 2 rfl 24 LH (w2.heap.size+1) rfl;exact RF aF.out.symm bZ.nv cf cx):=LG h;exact Y8):=LG h;exact WC):G:=h
def aog (h:G:=by
  rw[T] at ag aF;simp only[Oc] at aF;clear T;have A{G}(h:G:=by
  exact⟨rfl,O3 aF.out.symm (bR.out.next aa)⟩):=LG h;exact U8):G:=h
def aoh (h:G:=by
  rw[T] at ag aF;simp only[Oc] at aF;clear T;have A{G}(h:G:=by
  exact⟨rfl,O3 aF.out.symm (b7.out.next aa)⟩):=LG h;exact U8):G:=h
def aro (h:G:=by
  subst ac;obtain⟨⟨v,rfl,rfl⟩,bE,cI⟩:=ae;have cU:=hide bE;have bR:=hide (bS.out.next cI);have fw:=hide (NV.later b3.out cI a1.out);clear bE bG;go_wp2;go_ret;exact⟨⟨_,rfl,fw.out⟩,cU.out,bR.out⟩):G:=h
def avu (h:G:=by
  rintro fA bn ⟨b,rfl,D,kj,yh⟩;have lG:=q6.out.trans (yh.mono q6.out.size);have o':=zalan q6.out.size kj;exact aDb):G:=h
def aF5 (h:G:=by
  have h:=ZH a.tr a.p X (hlat a X aa aB) (by rw[qq];simp) LM
  have e:Xh a.tr=x.tr:=by unfold Xh;rw[qq]
  rw[e] at h;exact h):G:=h
def aDY (h:G:=by
  have rc:=hide (Zh s (MJ c.l j).tx);rw[zalah (λh=>bw h.1)] at aG;have oT:((MJ c.l j).kd != 5)=true:=zaleg.2 bw
  rcases Lu rc with ⟨_,bT⟩|⟨_,bT,a',cV⟩|⟨_,bT,a',cV,il⟩|⟨_,bT,a'⟩|⟨_,bT,a',cV,il⟩
  all_goals
   have ac:r=.ok t j:=aG.out.symm;subst ac;clear bw
   generalize MJ c.l j=ws at *
   go_wp2_with fail;refine cm es.out ?_;rintro e w2 ⟨rfl,rfl⟩;go_wp2_with fail
   go_region
   go_wp2_with fail
   go_region
   go_wp2;go_ret;exact⟨⟨_,rfl,q,rfl,YC (NV.later ⟨q,rfl,b3.out⟩ (((Ap.refl c.P w2.heap.size w2).alloc Nh _).drew.drew) a1.out)⟩,(nI.out.alloc _).drew.drew,(i1.out.alloc i1.out.size _).drew.drew⟩):G:=h
def avv (h:G:=by
  have A{G}(h:G:=by
  have jq:=hide (aV.out.trans (eT.mono aV.out.size));exact aDr):=LG h;exact auG):G:=h
def aDZ (h:G:=by
  go_wp2_with fail;refine NJ ?_;rintro e aq ⟨rfl,og,_,da⟩;obtain⟨wa,⟨v,bx,hown3⟩,CA⟩:=og;have A{G}(h:G:=by
  generalize av:ah.length=n at c3
  clear bx;go_wp2;go_ret;refine⟨⟨_,rfl,?_,OU.mono (λ_ D _=>D.1) _ cQ.out⟩,oB.out⟩;have h:=QM (B':=w.heap.size) bb.out LM;rw[av] at h;rw[av];exact h):=LG h;exact aw0):G:=h
def aD0 (h:G:=by
  have A{G}(h:G:=by
  refine wr2 4 7 (λK U=>?_) λK U=>?_
  ·go_simp;refine Qd ?_;clear U K;refine O7 7 λK U=>?_;go_simp;exact aDk
  ·go_simp;refine Qd ?_;clear U K;refine O7 4 λK U=>?_;go_simp;exact aDk):=LG h;exact aCb):G:=h
def aD1 (h:G:=by
  have dN:=hide key
  generalize Q5 t=ah at dN ⊢
  generalize t.p=p at b3 dN ⊢
  have r5:=mkMap 121;clear aD ak am key;go_enter func75,ntmps75;have A{G}(h:G:=by
  rintro e aq ⟨rfl,rZ,⟨al,aW,a4⟩,bx⟩;have c3:aq.cell? (LD (w1.heap.size+2) 0)=some (.map (some (w1.heap.size+1))):=by rw[Lib.cell_of_heap rZ];rfl
  have k3:=lt_of_heap rZ;have jt:=hide aW;have wN:=hide a4;have bV:=hide bx;clear rZ aW;go_wp2;go_ret;exact⟨⟨_,al,rfl,jt.out,wN.out⟩,bV.out⟩):=LG h;exact aBO):G:=h
def aGd (h:G:=by
  show RR _ _ _ _
  rw[hps1];refine dv.out.push (λb D ab=>hq.out.block b ab) (λb D=>zalad D) ?_ ?_ ?_ ?_ MP
  ·exact L8 (I:=λb=>dA.heap.size<=b) (λb D _=>hset b (by have O:dA.heap.size<=b:=D;omega)) (λb D=>(Me gX.out b D).2) (Qj gX.out (zalae _))
  ·intro b D;have E:=Me gX.out b D;exact zalal ⟨by omega,by omega⟩
  ·exact Ob (L8 (I:=λb=>w1.heap.size<=b) (λb D _=>hset b (by have O:w1.heap.size<=b:=D;omega)) (λb D=>(Me nx.out b D).2) nx.out) (zalae _)
  ·intro b D;have E:=Me nx.out b D;exact zalal ⟨by omega,by omega⟩):G:=h
def aD2 (h:G:=by
  have A{G}(h:G:=by
  refine O7 9 λK U=>?_;go_simp;refine Qd ?_;clear U K;refine auY ?_;refine O7 11 λK U=>?_;go_simp;refine Qd ?_;clear U K;refine O7 12 λK U=>?_;go_simp;refine Qd ?_;clear U K;refine Pz (listed':=tf 13 4) Nw rfl ?_;exact ez ax bu cC.out):=LG h;exact aqI):G:=h
def avw (h:G:=by
  refine⟨⟨_,k+1,(Wy _ rfl rfl rfl rfl rfl).trans (zaldg (fR _ _ _ _ _) e),by omega,by first|exact oU|rfl,by first|exact vo|rfl,by first|exact Gd|rfl,by first|exact Ge|rfl,?_,hX.out⟩,?_⟩
  ·show Value.int _ _=_
   go_num
  ·show e5.length - (intOf (Value.int _ _)).toNat<_
   simp[intOf];omega):G:=h
def aqc (h:G:=by
  go_wp2_with fail;refine NJ ?_;rintro e w1 ⟨⟨u,rfl,T⟩,D⟩;obtain⟨eq,uc,rfl⟩:=T.form;have bo:=hide T;have aV:=hide D;go_wp2;go_ret;exact⟨⟨_,rfl,bo.out⟩,aV.out⟩):G:=h
def aD3 (h:G:=by
  go_wp2_with fail;refine cm gS.out ?_;intro e bh ae
  cases r with
  | out=>exact absurd rfl bb.out
  | bad er pl=>
   obtain⟨⟨v,rfl,q,rfl⟩,bE,he,aa⟩:=ae;have ib:=hide bE;have iG:=hide (b1.out.next aa);exact avl
  | ok t j=>
   obtain⟨⟨v,rfl,q,rfl,av⟩,bE,aa⟩:=ae;have nk:Hid (Nj (λb=>w.heap.size<=b) bh t q):=Nj.mono (λb D _=>zalan b1.out.size D) _ _ av;have ib:=hide bE;have iG:=hide (b1.out.next aa);exact avi):G:=h
def aGx (h:G:=by
  have E:=Lu aG;rw[d9,bind_ok] at E;unfold QX at E;rw[zalak dZ] at E;rw[E]
  cases MG c.l NZ (j+1) with
  | out=>rfl
  | bad er pl=>rfl
  | ok dg a9=>
   simp only[bind_ok]
   cases nameP c.l a9 with
   | out=>rfl
   | bad er pl=>rfl
   | ok gA bD=>
    simp only[bind_ok]
    cases MG c.l OX bD with
    | out=>rfl
    | bad er pl=>rfl
    | ok x3 b8=>
     simp only[bind_ok]
     cases MV c.l F d b8 with
     | out=>rfl
     | bad er pl=>rfl
     | ok IJ e0=>
      simp only[bind_ok]
      cases Oh c.l F d e0 with
      | out=>rfl
      | bad er pl=>rfl
      | ok Lo KD=>
       simp only[bind_ok];rw[zalah MP];rfl):G:=h
def aF9 (h:G:=by
  have dt:=LP (w.alloc (.cells #[.pointer aQ,L9 false] 112)) (.cells #[Pe,L9 false] 112);rw[show (w.alloc (.cells #[.pointer aQ,L9 false] 112)).heap.size=w.heap.size+1 by simp] at dt;rw[fO];exact dt):G:=h
def afA (h:G:=by
  first|omega | (simp[ar,need] <;> omega) | (simp[ar,need] at * <;> omega)):G:=h
def aD4 (h:G:=by
  obtain⟨aW,v,a4,bO⟩:=aJ
  by_cases N:k=(x.1:Int)
  ·refine zalal ⟨x,y,v,?_,?_,a4,bO⟩
   ·rw[zalck];simp[N]
   ·rw[zalck,aW];simp[N]
  ·rcases aU aH with ⟨fM,fS⟩|⟨DA,DE,b0,fM,fS,en⟩
   ·refine zalad ⟨?_,?_⟩
    ·rw[zalck];simp only[N,zalhh];exact fM
    ·rw[zalck,aW];simp only[N,zalhh];exact fS
   ·refine zalal ⟨DA,DE,b0,?_,?_,en⟩
    ·rw[zalck];simp only[N,zalhh];exact fM
    ·rw[zalck,aW];simp only[N,zalhh];exact fS):G:=h
def aDd (h:G:=by
  obtain⟨am,an⟩:=XC lG;have wH:=hide lG;go_wp2_with fail;exact adY (v:=.tuple #[.agg #[LJ kd,LQ tx,LJ n,LJ (k:Int)],LJ (e:Int),nIZ]) ⟨rfl,Xg wH.out _ _ _ _⟩):G:=h
def aGr (h:G:=by
  refine⟨by have:=oV.size;omega,⟨.slice (some (LD dJ 0)) (n+1) cap',?_,?_⟩,OU.snoc (OU.later bB _ hK.out) (MZ.later bB _ dQ.out)⟩
  ·simp[World.setCell,zalfc,bx]
  ·have bw:aq.ownsRow (b+1) 22 1 (.slice (some (LD dJ 0)) (n+1) cap') (l++[t]).length ((l++[t]).map aP):=by
    rw[zalab,zalam,zalbm,<-pR.out];have h6:=hown';rw[bk.out] at h6;exact h6
   exact awY):G:=h
def avx (h:G:=by
  have bS:=hide (bv.trans (Ap.of aV.out));have bk:=hide (cv.ap aV.out dl.out);have b9:=hide (P5 c _ j er pl he Nb bk.out);clear aI;go_wp2_with fail;refine Ul ?_;rintro e wz ⟨rfl,rfl⟩;go_wp2;go_ret;exact⟨⟨_,rfl,_,rfl⟩,⟨j,bk.out⟩,he,bS.out⟩):G:=h
def aD5 (h:G:=by
  have uC:=hide (ag.out _ T.symm (by nofun));rw[T] at aF;have ac:r=.bad er pl:=Lu aF;subst ac;clear T;go_enter func254,ntmps254;go_wp2_with fail;refine cm uC.out ?_;rintro e w1 ⟨⟨v,rfl,q,rfl⟩,⟨j,cv⟩,he,fo⟩;have es:=hide (Qq he cv);have cD:=hide cv;have b7:=hide fo;go_wp2_with fail;refine ahU ?_;go_wp2_with fail;refine zlw ?_;exact avf):G:=h
def ave (h:G:=by
  go_wp2;go_ret;exact⟨⟨_,rfl,_,rfl⟩,cU.out,he,bR.out⟩):G:=h
def avy (h:G:=by
  clear N;have br{G}(h:G:=by
  have uB:=hide dL;go_wp2;go_ret;exact⟨rfl,uB.out⟩):=LG h;exact azB):G:=h
def aD6 (h:G:=by
  refine⟨by simp[h.1],λj E O=>?_⟩;rw[zalab,zalbm] at E O
  by_cases aT:j<ah.length
  ·have hi:j<al.length:=by rw[h.1];exact aT
   rw[zalic aT,zalic hi];exact h.2 j aT hi
  ·have e:j=ah.length:=LM;subst e;have a4:al.length=ah.length:=h.1;rw[zalhz Nh,zalhz LM];simp only[a4,Nat.sub_self,zaldn];refine⟨?_,v,?_,a0⟩
   all_goals
    first|rfl|trivial):G:=h
def aC3 (h:G:=by
  have bX:=hide aY;replace fL:=hide (EV.later fL.out aa a1.out);have gg:=Lu ht;subst gg;go_wp2;go_ret;exact RF aF.out.symm fL.out.nv bX.out bR.out):G:=h
def aD7 (h:G:=by
  go_wp2_with fail;refine NJ ?_;intro e w1 ae
  cases r with
  | out=>exact absurd rfl bb.out
  | bad er pl=>
   obtain⟨⟨v,rfl,q,rfl⟩,cv,he,aa⟩:=ae;have bk:=hide cv;have bS:=hide aa;exact avm
  | ok t j=>
   obtain⟨⟨v,rfl,q,rfl,av⟩,cv,aa⟩:=ae;have bk:=hide cv;have bS:=hide aa;have b3:=hide av;exact avj):G:=h
def aD8 (h:G:=by
  clear aH;go_wp2_with fail;refine Yi ?_;rintro e bh ⟨⟨b0,rfl,oq,rfl,ho⟩,cJ,dS⟩;have ie:=hide cJ;have eg:=hide (dd.out.next dS);have kJ:=hide (Yz h0.out dS a1.out dd.out.size ho);clear cJ jl E f1;go_wp2;go_ret;exact⟨⟨_,rfl,(Vp kJ.out eg.out.size (by simp[maxLen]) #[LC q,LC oq] rfl 2 rfl 24 LH 0 _ rfl).nv⟩,(ie.out.alloc _).alloc _,(eg.out.alloc eg.out.size _).alloc (by have:=eg.out.size;simp;omega) _⟩):G:=h
def az1 (h:G:=by
  have:=acX c (fx c.l i) L aO.base.vals;rw[ac] at this;exact this):G:=h
def aD9 (h:G:=by
  have A{G}(h:G:=by
  have A{G}(h:G:=by
  intro e w1 ae;obtain⟨⟨v1,rfl,rfl⟩,aY,aa⟩:=ae;have b7:=hide (hL.out.next aa);exact aDi):=LG h;exact WC):=LG h;exact auH):G:=h
def aDn (h:G:=by
  refine XY ?_;go_wp2_with fail;exact ayh (v:=.tuple #[.agg #[U7,LJ 0,LJ 0,LJ 0],L9 false]) ⟨rfl,aoi f6.out Nh _ _ _ _⟩):G:=h
def aEa (h:G:=by
  go_wp2_with fail;refine zlw ?_;exact avf):G:=h
def aEb (h:G:=by
  obtain⟨e1,e2,fE,jI,iz,kr,mz⟩:=ai.nes;refine⟨?_,?_,λp ae=>?_,?_,m2,dT,zalan h.sz W.size,aC⟩
  ·rw[W.block aI (lt_of_heap h.word) e1 e2];exact h.word
  ·rw[W.block aw (lt_of_heap h.nums) fE jI];exact h.nums
  ·obtain⟨bl,eD,am⟩:=h.cls p ae;have bE:=ai.own p (ai.all p ae);exact⟨bl,eD,by rw[W.block p (lt_of_heap am) bE.2.1 bE.2.2];exact am⟩
  ·rw[W.block aZ (lt_of_heap h.aiu) iz kr];exact h.aiu):G:=h
def aEc (h:G:=by
  rintro e cM ⟨⟨rfl,lI⟩,eT⟩;have gb:LX bn cM:=dK.trans (eT.mono dK.size);have dI:=dK.size;refine U.out _ _ (λ_=>gb) ?_;clear U K;refine Qh 10 λK U=>?_;go_simp;refine cm (Lu gY bn cM _ ER.out gb LM lI) ?_;rintro e gm ⟨rfl,mu⟩;refine zlm ?_;clear U K;refine UW Nw ?_ _;have pY:=hide mu;clear mu lI dI;go_simp;go_wp2_with fail;exact Ug (v:=.tuple #[]) ⟨rfl,pY.out⟩):G:=h
def arp (h:G:=by
  have A{G}(h:G:=by
  obtain⟨bZ,cf,cx⟩:=Lu cy;exact RF rfl bZ cf cx):=LG h;exact Y8):G:=h
def aCG (h:G:=by
  go_wp2_with fail;exact zalcs (v:=.tuple #[QJ,.agg #[LJ 3,LJ (j:Int)]]) (by simp[results,go_sem,kw,kx]) rfl ⟨rfl,eE.out.out _ _⟩):G:=h
def aGy (h:G:=by
  have:Tr.counts t.kids=Tr.counts (t.kids.take (k+1))+Tr.counts (t.kids.drop (k+1)):=by rw[<-Rw,zalcd]
  omega):G:=h
def aw5 (h:G:=by
  refine alE ?_;clear U K ek el;refine abY ?_;go_wp2
  go_roundw
  case rel=>
   obtain⟨ep,u1,It,GV,Hy⟩:=i3.out.opens;obtain rfl:w.heap.size=ep:=by simpa[LC] using GV
   refine⟨k+1,u1,It,by omega,by go_num,?_,aV.out.trans ((q5.out.mono bK).trans (Lu (cB _)))⟩;rw[co.out];exact Hy
  case measure=>simp[intOf];omega):G:=h
def aGF (h:G:=by
  have A{G}(h:G:=by
  clear hds bK;go_wp2_with fail;exact zalcs (v:=.tuple #[QJ,.agg #[LJ 2,LJ (j:Int)]]) (by simp[results,go_sem,kw,kx]) rfl ⟨rfl,l6.out.out _ _⟩):=LG h;exact aqL):G:=h
def avz (h:G:=by
  go_wp2_with fail;refine cm (Lu dm cN hq.out) ?_;rintro e w2 ⟨rfl,bW⟩;obtain rfl:cN=w2:=bW.symm;clear bW;have dw:Hid (iF=(false||iF)):=rfl;go_wp2_with fail;exact arq):G:=h
def aEd (h:G:=by
  refine wt 13 (LC w.heap.size) ?_;refine wt 14 (Mc w.heap.size 3) ?_;refine O7 15 λK U=>?_;go_simp;refine Qd ?_;clear U K dW dX d3;refine aad ?_;obtain⟨ol,fq⟩:=cC.out.ps;have gW:=hide fq;clear fq;go_wp2;go_ret;exact⟨⟨_,rfl,_,rfl⟩,⟨ol,gW.out.ap (Lu (cB _)) dl.out⟩,cC.out.he,cC.out.ap.trans (Ap.of (Lu (cB _)))⟩):G:=h
def ars (h:G:=by
  refine NJ ?_;intro e w' ae;obtain⟨rfl,aa⟩:=ae;exact⟨rfl,O3 aF.out.symm (jp.out.drew.next aa)⟩):G:=h
def avA (h:G:=by
  have A{G}(h:G:=by
  go_ret;exact⟨⟨_,rfl,_,rfl⟩,⟨i,bk.out.alloc _⟩,he,(Ap.refl c.P w1.heap.size w1).alloc Nh _⟩):=LG h;exact Xw):G:=h
def avC (h:G:=by
  rw[T] at ag aF;simp only[Oc] at aF;clear T;have A{G}(h:G:=by
  exact⟨rfl,O3 aF.out.symm (kD.out.next aa)⟩):=LG h;exact U8):G:=h
def aEf (h:G:=by
  have A{G}(h:G:=by
  refine O7 7 λK U=>?_;go_simp;refine Qd ?_;clear U K;refine Pz (listed':=tf 8 4) Nw rfl ?_;exact ez ax bu cC.out):=LG h;exact aCb):G:=h
def avD (h:G:=by
  exact((((((Ap.refl c.P w.heap.size w).setCell (p:=(LD c.P 1)) (zalal rfl) _).alloc MP _).alloc (by simp <;> omega) _).alloc (by simp <;> omega) _).alloc (by simp <;> omega) _).drew):G:=h
def aEg (h:G:=by
  clear aH;go_wp2_with fail;refine Yi ?_;rintro e bh ⟨⟨v,rfl,oq,rfl⟩,⟨lQ,cJ⟩,he,dS⟩;have ie:=hide cJ;have eg:=hide (dd.out.next dS);clear cJ jl E f1;go_wp2;go_ret;exact⟨⟨_,rfl,_,rfl⟩,⟨lQ,(ie.out.alloc _).alloc _⟩,he,(eg.out.alloc eg.out.size _).alloc (by have:=eg.out.size;simp;omega) _⟩):G:=h
def aEh (h:G:=by
  refine⟨ps,L8 (I:=λb=>B<=b) (Pq.Tq aa a7 λ_ h=>h) (λg hg=>(Me T g hg).2) T,LU.mono (λb D _=>D.1) _ _ E,LU.append (M:=w.heap.size) _ _ (LU.cons ?_ LU.nil) E⟩;exact Nj.mono (λb D _=>⟨⟨zalan bA D,λe=>by have:=(hown b e).1;have:w.heap.size<=b:=D;omega⟩,D⟩) _ _ av):G:=h
def awH (h:G:=by
  have bV:=hide (bj.out.trans (bx.mono bj.out.size));rw[<-cy.out] at ft;go_wp2_with fail;refine Yi ?_;rintro e bh ⟨⟨u,rfl,T⟩,D⟩;have mH:=hide (T.low bV.out.size);have fK:=hide (bV.out.trans (D.mono bV.out.size));obtain⟨KX,KY,rfl⟩:=T.form;go_wp2;go_ret;exact⟨⟨_,rfl,mH.out⟩,fK.out⟩):G:=h
def aF3 (h:G:=by
  have h:=QL a.tr a.p X (hlat a X aa aB);rw[hfun] at h;exact h):G:=h
def aDh (h:G:=by
  have ba:=hide (aV.out.trans (D.mono aV.out.size));go_wp2;go_ret;exact⟨⟨_,rfl,bo.out⟩,ba.out⟩):G:=h
def aA0 (h:G:=by
  have E:=hall e he D;have aJ:=(zalhp.1 T).1;rw[k1] at E
  cases af:listed[i]? with
  | none=>simp[af] at E
  | some x=>simp[af] at aJ E;rw[aJ] at E;cases E):G:=h
def aEi (h:G:=by
  refine Qh 7 λK U=>?_;go_simp;refine cm oE.out ?_;rintro e cM ⟨rfl,h6,h7⟩;refine zlm ?_;clear U K;refine UW Nw ?_ _;have z4:=hide h6;have i0:=hide h7;go_simp;exact aDw):G:=h
def ap5 (h:G:=by
  cases h;first|omega | (simp[ar,need] <;> omega) | (simp[ar,need] at * <;> omega)):G:=h
def aDu (h:G:=by
  have ag:=hide (Vf c gQ.drew t5 _ _ (d:Int) false he bk.out.drew);clear he;go_wp2_with fail;exact zN gQ s ⟨er,pl,sP.out,ag.out,bI.out,bS.out⟩):G:=h
def aEj (h:G:=by
  have A{G}(h:G:=by
  refine wh 12 (L9 true) bX.out ?_;refine XY ?_;go_wp2_with fail;exact ayh (v:=.tuple #[.agg #[LQ x.tx,LJ x.kd,LJ x.parts,LJ x.str],L9 true]) ⟨rfl,aoi f6.out Nh _ _ _ _⟩):=LG h;exact auP):G:=h
def aqF (h:G:=by
  cases gk with
  | zero=>exact absurd ac.symm bb.out
  | succ k=>exact⟨k,rfl⟩):G:=h
def aGs (h:G:=by
  show RR _ _ _ _
  rw[hps1];exact(dv.out.later (λb _ ab=>ba.out.block b ab)).mono λb D=>zalad D):G:=h
def aEk (h:G:=by
  refine wt 13 (LC w.heap.size) ?_;refine wt 14 (Mc w.heap.size 3) ?_;refine O7 15 λK U=>?_;go_simp;refine Qd ?_;clear U K dW dX d3;refine aad ?_;go_wp2;go_ret;exact⟨⟨_,rfl,i3.out.nv⟩,cC.out.ps.ap (Lu (cB _)) dl.out,cC.out.ap.trans (Ap.of (Lu (cB _)))⟩):G:=h
def aEl (h:G:=by
  refine zlq ?_;have dm:=hide ((zaldg (λp=>Pn aj ML s p au) (Qz O8 s j aC f8)).trans he);have eE:=hide hinv;clear he f8
  conv=>arg 2;whnf
  unfold fr Q6;go_wp2_with fail;exact⟨aaX (j+1) au v LM LM dm.out eE.out Nw,by simp[mu6,intOf];omega⟩):G:=h
def ak9 (h:G:=by
  rename_i h;exact Nx.ok Nh (Q8 a3 ak (by rw[h];decide))):G:=h
def aFY (h:G:=by
  have E:Ap b (b+1) w (w.alloc (.cells #[LC p] 22)):=Ap.alloc (Ap.refl _ _ _) bK _;exact Ap.grown E hgrow OM (λk N=>(Lu g8 k N).2)):G:=h
def aru (h:G:=by
  go_enter func177,ntmps177;go_wp2;go_ret;exact⟨rfl,by rw[ag.out];exact cG.out,O4⟩):G:=h
def awG (h:G:=by
  generalize a.p=p at bF c0 ag ⊢
  clear N ex am;go_enter zalht,zalhi;go_wp2_with fail;refine NJ ?_;rintro e w1 ⟨⟨u,rfl,T⟩,D⟩;have bo:=hide T;have aV:=hide D;obtain⟨aQ,cc,rfl⟩:=T.form;go_wp2;go_ret;exact⟨⟨_,rfl,bo.out⟩,aV.out⟩):G:=h
def avk (h:G:=by
  go_wp2_with fail;refine aaW (NoP Q) .normal _ rfl rfl rfl rfl rfl ?_;exact Lu aG _ _ rfl bN.out):G:=h
def anP (h:G:=by
  intro t aH
  cases t with
  | mk kd tx kt ks=>rw[count_mk] at aH;omega):G:=h
def ayt (h:G:=by
  intro w2 v T a5;have dV:Sk fm cw w1 w2:=Sk.of a5;obtain⟨al,aW,a4⟩:=tu.fmap;exact⟨tu.next ai dV ⟨al,by rw[a5.block fm (lt_of_heap aW)];exact aW,a4.sk ai dV⟩ (by rw[a5.block cw (lt_of_heap bz)];exact bz) tu.lt,T.low tu.sz,qM.trans dV⟩):G:=h
def ayu (h:G:=by
  subst cA;clear eA;unfold fR;go_wp2_with fail;refine aaW Q .normal _ rfl rfl rfl rfl rfl ?_;refine Lu aG ?_ _ _ (ba.out.trans (aV.out.mono ba.out.size));rw[List.any_eq_false];intro x af;obtain⟨j,aT,rfl⟩:=zalcf.1 af;rw[Lu jx j aT aT]
  decide):G:=h
def ayv (h:G:=by
  have bR:=hide (bS.out.next cI);have dr:=hide df;have cK:=hide (P5 c w2 a8 er pl he OX df);go_wp2_with fail;refine WB ?_;rintro e aq ⟨rfl,rfl⟩;go_wp2;go_ret;exact⟨⟨_,rfl,q,rfl⟩,⟨_,dr.out⟩,he,bR.out⟩):G:=h
def atE (h:G:=by
  go_wp2_with fail
  go_region
  go_wp2_with fail;refine aaW (NoP Q) .normal _ rfl rfl rfl rfl rfl ?_;exact Lu bY _ _ rfl rfl rfl aV.out):G:=h
def ayw (h:G:=by
  have ag:=hide (QA ai aN aq d eI _ rfl (by rw[T];nofun) f5.out)
  rw[T] at ag aF;simp only[Oc] at aF;clear T;have A{G}(h:G:=by
  exact⟨rfl,O3 aF.out.symm (b1.out.next aa)⟩):=LG h;exact U8):G:=h
def ayx (h:G:=by
  rw[aM] at ft
  generalize y.p=us at ft tc
  go_wp2_with fail;refine Yi ?_;rintro e jo ⟨rfl,qr⟩;have sx:=hide (jq.out.trans (qr.mono jq.out.size));go_wp2;go_ret;exact⟨by rw[bo.out,a2,E,O,ao];simp[erW,aM],sx.out⟩):G:=h
def atG (h:G:=by
  intro b;rw[Instr.checkKey,zalbu,zalcl dt L];rfl):G:=h
def aqp (h:G:=by
  go_enter func112,ntmps112;go_wp2;go_ret;exact⟨by rw[dm.out];rfl,rfl⟩):G:=h
def aFF (h:G:=by
  intro b D
  rcases D with D|D
  ·obtain⟨zG,a9,_,b8,_⟩:=vx.blk;have HY:zG=.slice va ah.length ck:=by rw[k7] at a9;simpa using a9.symm
   rw[HY] at b8;exact⟨(vx.ne b D).1,b8 b D⟩
  ·rw[D];exact⟨lt_of_heap k7,Fj.out⟩):G:=h
def ayy (h:G:=by
  obtain⟨g,cap,hg,hcell⟩:=OB fa.out.1 (by rw[zalag];omega)
  simp only[zalcb] at hg;refine⟨g,hg.1,(Me fa.out.1 g (by rw[hg.1];rfl)).1,?_⟩
  have h:=hcell k (by rw[zalag];exact N)
  simpa using h):G:=h
def aFG (h:G:=by
  have ag:=hide (Uk ai gQ d (bH+1) AE.out (by rw[T];nofun))
  rw[T] at ag aF;simp only[Oc] at aF;clear T;have A{G}(h:G:=by
  exact⟨rfl,O3 aF.out.symm (wE.out.next aa)⟩):=LG h;exact U8):G:=h
def ayz (h:G:=by
  rw[a2] at oQ;go_wp2
  go_roundw
  case rel=>
   refine⟨i+1,rs,by omega,by go_num,by omega,gE.out,?_,bj.out⟩;rw[oQ.out];simp only[zalct,zalfg,zalba];exact Lu sJ
  case measure=>simp[intOf];omega):G:=h
def ayA (h:G:=by
  have A{G}(h:G:=by
  go_wp2_with fail;exact zalcs (v:=.tuple #[QJ,.agg #[LJ 4,LJ (j:Int)]]) (by simp[results,go_sem,kw,kx]) rfl ⟨rfl,eE.out.out _ _⟩):=LG h;exact atH):G:=h
def ayB (h:G:=by
  rw[zalet];intro x af;obtain⟨j,aT,rfl⟩:=zalcf.1 af;have hi:j<ah.length:=by rw[<-h.1];exact aT
  have E:=(h.2 j hi aT).1;have O:=ak _ (zalao hi);simp only[zaldx];rw[E];omega):G:=h
def aqr (h:G:=by
  refine aac ?_;refine adC ?_;exact aS):G:=h
def ayC (h:G:=by
  rintro e w1 ⟨rfl,D⟩;have aV:=hide D;have bN:=hide (UE c 3 w1 i d (bo.out.later D));go_wp2_with fail;refine Y5 ?_;rintro e w2 ⟨rfl,a5⟩;exact⟨rfl,O3 rfl (Ap.of (aV.out.trans (a5.mono aV.out.size)))⟩):G:=h
def att (h:G:=by
  intro t j h;cases h;rw[O6,NQ];first|omega | (simp[ar,need] <;> omega) | (simp[ar,need] at * <;> omega)):G:=h
def aFH (h:G:=by
  have ag:=hide (NR c Nb gn bH d oO.out MK);rw[T] at ag aF;simp only[Oc] at aF;clear T;have A{G}(h:G:=by
  exact⟨rfl,O3 aF.out.symm (mF.out.next aa)⟩):=LG h;exact U8):G:=h
def ayD (h:G:=by
  exact(ba.out.trans (hJ.out.mono eB)).setCell (p:=(LD w.heap.size 0)) Nh _):G:=h
def ayE (h:G:=by
  rintro e w' ⟨rfl,rfl⟩;go_wp2
  go_roundw
  case rel=>exact⟨k+1,by omega,by go_num,λj aT=>by (by_cases vP:j=k);(rw[vP];exact aV.out);exact Lu cG j LM,by trivial⟩
  case measure=>simp[intOf];omega):G:=h
def aFI (h:G:=by
  intro b0 bn hown' hgrow _;have j7:=hide (eE.out.app (t:=Tk.mk 2 (s.extract j e) 0 j) _ hown' hgrow);go_wp2_with fail;exact⟨aaX e (au++[Tk.mk 2 (s.extract j e) 0 j]) b0 c8 OM dm.out j7.out Nw,by simp[mu6,intOf];omega⟩):G:=h
def aFJ (h:G:=by
  intro b0 bn hown' hgrow _;have j7:=hide (eE.out.app (t:=Tk.mk 1 (s.extract j e) 0 j) _ hown' hgrow);go_wp2_with fail;exact⟨aaX e (au++[Tk.mk 1 (s.extract j e) 0 j]) b0 c8 OM dm.out j7.out Nw,by simp[mu6,intOf];omega⟩):G:=h
def ayF (h:G:=by
  intro j u aT;have ab:j<n * 1:=by
   rw[<-h.1];exact(zalcy.1 aT).1
  have ao:=h.cellAt j ab;rw[aT] at ao;have aM:((LD g 0):Addr).add j=(LD g j):=by simp[Addr.add];exact Eq.symm
  rw[aM];exact ao):G:=h
def ax7 (h:G:=by
  cases ad <;> rcases hown.2 with ⟨rfl,rfl⟩|⟨g,cap,cj,rfl,_,_,fd,_⟩ <;>
   simp[Builtin.append_,zalcl aH,sizeOf,typeInfo,Builtin.lenOf,Builtin.firstCells,loadCells,loadCellsFrom,storeCells, *]):G:=h
def axd (h:G:=by
  have hneg:¬ ((S:Int)+(m:Int)<0):=LM;clear aS;go_wp2
  go_roundw
  case rel=>exact⟨k+1,by omega,by go_num,by rw[dQ.out];go_num,by first|rfl|trivial⟩
  case measure=>simp[intOf];omega):G:=h
def ayG (h:G:=by
  have E:Ad.Nv al=Ad.Nv (al.take k)++((al[k]).N9++Ad.Nv (al.drop (k+1))):=by
   rw[<-Ad.Nv,<-zalbs aC,<-Vu,zalcd]
  rw[E];simp only[zalax]):G:=h
def ayH (h:G:=by
  go_wp2_with fail;refine cm f3.out ?_;rintro e IG ⟨rfl,rfl⟩;go_wp2
  go_roundw
  case rel=>exact⟨k+1,by omega,by go_num,mJ.out,by first|rfl|trivial⟩
  case measure=>simp[intOf];omega):G:=h
def axT (h:G:=by
  obtain⟨ps,E,O⟩:=h;have ab:=QK.length _ _ O;obtain⟨g,cap,rfl,am⟩:=OB E LM;obtain⟨ae,av⟩:=QK.get _ _ O k N;exact⟨g,cap,ps[k],by rw[ab],(Me E g rfl).1,am k ae,av⟩):G:=h
def aFK (h:G:=by
  have dt:=LP (w.alloc (.cells #[.pointer aQ,L9 true] 112)) (.cells #[Pe,L9 false] 112);rw[show (w.alloc (.cells #[.pointer aQ,L9 true] 112)).heap.size=w.heap.size+1 by simp] at dt;rw[fO];exact dt):G:=h
def ayI (h:G:=by
  obtain⟨ab,aJ|⟨g,cap,cj,a0,dI,a2,T⟩⟩:=h
  ·exact⟨ab,zalad aJ⟩
  ·exact⟨ab,zalal ⟨g,cap,cj,a0,dI,by rw[D.block g (zalbv.1 a2).1];exact a2,T⟩⟩):G:=h
def ayJ (h:G:=by
  clear eA cq;go_wp2_with fail;refine Yi ?_;intro e bh ae;obtain⟨⟨v,rfl,q,rfl⟩,cJ,he,dS⟩:=id ae;have fh:=hide (f2.out _ _ ae);clear cJ;go_wp2;go_ret;exact Lu fh):G:=h
def ayK (h:G:=by
  have E:((aL++y::a.all)++z::(Ad.PN z.ks++post))[(aL++y::a.all).length]? = some z:=by
   rw[zalds Nh];simp
  rw[<-dV] at E;exact(zalcy.1 E).2):G:=h
def awZ (h:G:=by
  have bN:=hide (ra.out _ qZ.out);have dd:=hide oV;clear fX bx oV g2;go_wp2_with fail;refine Y5 ?_;rintro e bn ⟨rfl,rfl⟩;go_wp2;go_ret;exact⟨rfl,kQ.out,dd.out⟩):G:=h
def ayL (h:G:=by
  rw[e];have eh:=hide a0;clear bT a' cV D E O a0;go_enter func237,ntmps237
  go_wp2
  go_ret2
  refine⟨?_,rfl⟩
  show Ending.returned (.tuple #[.int .u8 (s[i].toNat:Int),L9 true])=_
  rw[eh.out];rfl):G:=h
def apQ (h:G:=by
  go_enter func73,ntmps73;go_wp2;go_ret;exact⟨rfl,rfl⟩):G:=h
def aya (h:G:=by
  have ab:j<m * 1:=by
   rw[<-hown2.1];exact(zalcy.1 aT).1
  have aM:((LD g 0):Addr).add j=(LD g j):=by simp[Addr.add];exact Eq.symm
  rw[aM,hown2.cellAt j ab];exact aT):G:=h
def awX (h:G:=by
  rw[hgrow.block b OM (λe=>Lu kK b e.symm rfl),zalaa w _ b LM];exact Lu aV):G:=h
def ayM (h:G:=by
  refine⟨λh=>(by rw[h] at T;cases T),λj aT=>?_⟩
  by_cases hC:j=i
  ·subst hC;exact hy.wpOp ak eb ⟨λ_=>eb,H⟩
  ·have aA:=zalgg aT hC;rw[H.1] at aA;cases aA):G:=h
def axL (h:G:=by
  split at h
  ·
   cases h;omega
  ·obtain⟨u,az,E,h⟩:=binds h;have O:=TA (l:=l) (ai.st _ _) u az E;have aM:=aU _ _ _ _ h;rw[Rw,L6,MQ] at aM;omega):G:=h
def axZ (h:G:=by
  have A{G}(h:G:=by
  exact⟨⟨_,rfl,bf,bb.out,QK.later (Below.stay cZ.out) _ _ h⟩,cZ.out⟩):=LG h;exact aqh):G:=h
def aFL (h:G:=by
  have vR:=ai.nd;rw[bv] at vR ⊢;rw[zaldy] at vR;have av:a.p ∉ aL:=λaA=>vR.2.2 _ aA _ MP rfl;rw[List.idxOf_append,zalah av,List.idxOf_cons_self,zalda,ak]):G:=h
def axa (h:G:=by
  have cA:k=ks.length:=LM;subst cA;go_wp2;go_ret;obtain⟨q,aW,a4⟩:=bb.out.ev.nv;rw[zalaq] at a4;rw[dQ.out];exact⟨⟨q,by rw[<-aW];rfl,a4⟩,aV.out⟩):G:=h
def axM (h:G:=by
  have A{G}(h:G:=by
  cases h;have aW:=TA (l:=l) (ai.vl _ _) v _ E;have a4:=N8 O;rw[count_mk,L6,MQ];omega):=LG h;exact anM):G:=h
def atI (h:G:=by
  have dw:Hid (true=(true||decide (y.tr.tx=Nq))):=rfl;go_wp2_with fail;exact aqt):G:=h
def ayN (h:G:=by
  rw[zaldf]
  cases aD:s.data.toList with
  | nil=>
   have O:s.data.toList.length=0:=by rw[aD];rfl
   have ao:s.size=s.data.toList.length:=by simp
   omega
  | cons a l=>rfl):G:=h
def atJ (h:G:=by
  have A{G}(h:G:=by
  cases h;exact afW):=LG h;exact aio):G:=h
def ayO (h:G:=by
  rw[T] at ag aF;simp only[Oc] at aF;clear T;have A{G}(h:G:=by
  exact⟨rfl,O3 aF.out.symm (q2.out.next aa)⟩):=LG h;exact U8):G:=h
def ayq (h:G:=by
  clear ab;go_enter func10,ntmps10;go_wp2_with fail;refine NJ ?_;rintro e w1 ⟨p,q,rfl,ae,ac,bz⟩;have ba:=hide bz;go_wp2;go_ret;exact⟨rfl,ba.out⟩):G:=h
def atK (h:G:=by
  by_cases tK:j=m
  ·subst tK;exact hjun
  ·rw[zaldr true tK] at v5;exact v5):G:=h
def aFM (h:G:=by
  obtain⟨a,c,e⟩:=ay.shape;refine⟨a,c,e.trans ?_⟩;have:(Tr.mk kd tx n (ks.take k)).kids.length=k:=by show (ks.take k).length=k;rw[zalbe];omega
  rw[this]):G:=h
def atL (h:G:=by
  split at h
  ·
   cases h
  ·
   cases h;exact⟨λh=>absurd h MK,λh=>absurd h MK⟩):G:=h
def atM (h:G:=by
  rintro e w1 ⟨rfl,D⟩;have aV:=hide D;go_wp2;go_ret;exact⟨rfl,aV.out⟩):G:=h
def atN (h:G:=by
  split
  ·exact OO.bind (QB (h.vl _ _)) λ_ _=>OO.refl _
  ·exact OO.refl _):G:=h
def ayP (h:G:=by
  obtain⟨al,aW,a4⟩:=eS.fmap;refine eS.next ai qM ⟨al,?_,a4.sk ai qM⟩ bz eS.lt;rw[c9]
  split
  ·rw[zalap w (LD cw 0) _ fm mz];exact aW
  ·exact aW):G:=h
def ayQ (h:G:=by
  go_wp2_with fail;exact zalcs (v:=.tuple #[QJ,.agg #[LJ 3,LJ (((q+1:Nat):Int))]]) (by simp[results,zalgf,go_sem,kw,kx]) rfl ⟨rfl,eE.out.out _ _⟩):G:=h
def ayR (h:G:=by
  refine U.out _ _ bX.out (λ_=>?_);clear U K;refine wh 12 (L9 true) bX.out ?_;refine XY ?_;go_wp2;go_ret;exact⟨Oy MP,f6.out⟩):G:=h
def ayS (h:G:=by
  intro al
  induction al with
  | nil=>intro a2;cases a2
  | cons e al aU=>
   intro a2;rw[Ad.cnts]
   rcases zalas.1 a2 with rfl|a2
   ·omega
   ·have:=aU a2;omega):G:=h
def aye (h:G:=by
  go_wp2_with fail;refine cm ag ?_;rintro e w1 ⟨⟨u,rfl,T⟩,D⟩;obtain⟨eq,uc,rfl⟩:=T.form;go_wp2;go_ret;exact⟨⟨_,rfl,T⟩,D⟩):G:=h
def aw4 (h:G:=by
  refine⟨0,QJ,[],zalae _,rfl,?_,?_⟩
  ·first
   | exact eu.out.drew
   | exact eu.out
  ·first
   | exact Qn.drew
   | exact Qn
   | exact(O4.drew.alloc Nh _)):G:=h
def ayT (h:G:=by
  refine U.out _ _ bX.out (λ_=>?_);clear U K;refine wh 12 (L9 false) bX.out ?_;refine XY ?_;go_wp2;go_ret;exact⟨rfl,f6.out⟩):G:=h
def aFN (h:G:=by
  have bB:=Qa OL s q ef (by unfold OL;rw[ab,aD];rfl)
  exfalso;omega):G:=h
def aFO (h:G:=by
  rw[c9]
  split
  ·simp[World.setCell,zalfc,eS.ab2]
  ·rename_i h
   have:OE b a=b:=by unfold OE;rw[zalah h]
   rw[this];exact eS.ab2):G:=h
def awF (h:G:=by
  have E:=NG a.tr.kids;have O:=a.ND;have ao:a.tr.count=1+Tr.counts a.tr.kids:=by cases a.tr with|mk kd tx n ks=>exact count_mk _ _ _ _
  omega):G:=h
def ayU (h:G:=by
  rw[zalab];exact L8 (I:=λb=>b=g) (λb D _=>hset b (by rw[D];exact hR)) (λb D=>by simpa[Value.ownBlock] using D.symm) hown):G:=h
def ayV (h:G:=by
  have ao:i<s.data.toList.length:=by (have aM:s.data.toList.length=s.size:=by simp);omega
  rw[zalay,zalai ao];rfl):G:=h
def aFP (h:G:=by
  show _=_
  rw[cZ.out.block 6 OM,zalaa w _ 6 aC];exact Lu f3):G:=h
def ayW (h:G:=by
  rw[a.NC.2.2] at e
  match bd:a.ks,e with
  | [x,y],_=>exact⟨x,y,rfl⟩
  | [],e=>simp at e
  | [_],e=>simp at e
  | _::_::_::_,e=>simp at e):G:=h
def axU (h:G:=by
  obtain⟨u,ps,D,T,_,N⟩:=Nj.WT h;obtain⟨c0,c1,_,c3,_⟩:=node_cells D;exact⟨lt_of_heap D,c0,c1,u,c3,ps,T,LU.nl _ _ N⟩):G:=h
def awW (h:G:=by
  go_enter func274,ntmps274;go_wp2_with fail;refine Y5 ?_;rintro e w1 ⟨rfl,rfl⟩;go_wp2;go_ret;exact⟨rfl,eh.out,Ap.refl _ _ _⟩):G:=h
def ayX (h:G:=by
  rw[dv.out] at ag;have A{G}(h:G:=by
  exact⟨rfl,O3 aG.out.symm (b1.out.next aa)⟩):=LG h;exact U8):G:=h
def ayY (h:G:=by
  have:=afX (ai c am) ⟨KK,aij (by rw[am];exact a3) KK⟩ (aip c.l KK) L _ rfl (by rw[am,T];nofun) aY
  rw[am,T] at this;exact this):G:=h
def ayZ (h:G:=by
  obtain⟨cj,D,E,O,ao,aM⟩:=h.tokens;rw[cell_of D,<-ajN c.l i j ak aT,<-aM,zalfo LM,Array.getElem?_toList]):G:=h
def aFQ (h:G:=by
  have E:LX w (RW w):=Qn.alloc MP _;have O:LX w w2:=E.trans (bj.out.mono LM);exact O.trans ((aa.mono (B':=w.heap.size) LM).below LM)):G:=h
def axW (h:G:=by
  obtain⟨eq,uc,rfl⟩:=T.form;have bo:=hide T;clear h;go_enter func257,ntmps257;go_wp2;go_ret;exact⟨⟨_,rfl,bo.out⟩,rfl⟩):G:=h
def ay0 (h:G:=by
  obtain⟨ab,aJ|⟨g,cap,cj,a0,dI,T⟩⟩:=h
  ·exact⟨ab,zalad aJ⟩
  ·exact⟨ab,zalal ⟨g,cap,cj,a0,by omega,T⟩⟩):G:=h
def aw3 (h:G:=by
  rw[zalac N,zalam,zalhs];simp only[zalbb,List.map_nil,zalie,List.sum_nil];omega):G:=h
def axj (h:G:=by
  rcases zalgd b w.heap.size with E|E
  ·exact E
  ·have O:w.heap[b]? = none:=zaldo E;simp[World.cell?,O] at h):G:=h
def axS (h:G:=by
  obtain⟨ps,E,O⟩:=h;exact⟨ps,L8 (I:=λ_=>True) (Below.stay D) (λ_ _=>trivial) E,QK.later (Below.stay D) _ _ O⟩):G:=h
def ax3 (h:G:=by
  refine⟨h.1,?_⟩
  rcases h.2 with av|⟨g,cap,cj,a0,D,rest⟩
  ·exact zalad av
  ·exact zalal ⟨g,cap,cj,a0,by omega,rest⟩):G:=h
def aym (h:G:=by
  have bT:=Lu aV;have a':=Lu bj;have cV:=Lu bV;exact(bT.trans (a'.mono bT.size)).trans (cV.mono (zalan bT.size a'.size))):G:=h
def atO (h:G:=by
  rw[T] at aG;simp only[aaY] at aG;exact absurd aG.out.symm bb.out):G:=h
def atP (h:G:=by
  go_wp2
  go_ret2
  exact⟨⟨_,rfl,Ql _ _⟩,ba.out⟩):G:=h
def axN (h:G:=by
  have aJ:=Sj a3 ak ‹_› MK;exact Nx.bind (Sl a3 aJ) λs j E O=>((aU d _ j LM O).le LM).imp λh=>⟨h.1,by omega⟩):G:=h
def ay1 (h:G:=by
  go_wp2_with fail
  go_round
  case rel=>exact⟨q+1,by omega,by go_num,zalal ⟨by omega,rfl⟩⟩
  case measure=>simp[intOf];omega):G:=h
def ay2 (h:G:=by
  clear dc fp vV zy;go_wp2_with fail;refine Ug (v:=.tuple #[]) ⟨rfl,?_⟩;rw[rd.out];exact⟨bk.out.1,rc.out.trans bk.out.2⟩):G:=h
def ay3 (h:G:=by
  rw[zalac ak,zalcg,zalam];simp only[zalbg,zalcu]
  split <;> simp):G:=h
def atQ (h:G:=by
  exact((((Av.out.step ab).alloc _).alloc _).alloc _ |>.alloc _).drew):G:=h
def ay4 (h:G:=by
  intro j aT hj
  rcases Nat.lt_succ_iff_lt_or_eq.1 aT with h|h
  ·exact Lu jx j h hj
  ·subst h;rw[<-fb.out];exact Lu bN):G:=h
def axk (h:G:=by
  clear O
  cases E:(kd==1) <;> cases h6:(kd==6) <;>
  ·go_enter func118,ntmps118;go_wp2;go_ret;exact⟨rfl,rfl⟩):G:=h
def ay5 (h:G:=by
  split at h
  ·
   cases h;exact aa
  ·obtain⟨u,az,E,h⟩:=binds h;exact aU _ _ _ _ (ajO aa (SK (ai.st _ _) u az E)) h):G:=h
def axm (h:G:=by
  rw[acS aA] at E;have O:=h.nd;rw[bv,P9] at O;have ao:=apR O;rw[<-P9,<-bv] at ao;rw[ao] at E;exact E):G:=h
def ay6 (h:G:=by
  have a4:g=b:=by simpa[Value.ownBlock] using e
  subst a4
  rcases hg with hg|hg
  ·exact ao g D hg
  ·have:=(h7 g D).1;omega):G:=h
def axO (h:G:=by
  rename_i s W
  have aJ:=Y2 a3 ak W;exact Nx.bind (Pm ((ai.sg _ _ aJ).imp λh=>by omega)) λt j E O=>Nx.ok LM O):G:=h
def ay7 (h:G:=by
  refine NJ ?_;intro e w' ae;obtain⟨rfl,aa⟩:=ae;exact⟨rfl,O3 aF.out.symm (iH.out.drew.next aa)⟩):G:=h
def ay8 (h:G:=by
  refine NJ ?_;intro e w' ae;obtain⟨rfl,aa⟩:=ae;exact⟨rfl,O3 aF.out.symm (bR.out.drew.next aa)⟩):G:=h
def ays (h:G:=by
  split
  ·simp only[zaldm,zaled,zalam,zalba];rw[av,ab]
  ·split
   all_goals
    rfl):G:=h
def ay9 (h:G:=by
  refine⟨by rw[bW];simp,⟨QJ,by rw[bW];exact LP _ _,⟨rfl,zalad ⟨rfl,rfl⟩⟩⟩,by rw[OU];trivial⟩):G:=h
def aza (h:G:=by
  unfold VG at cH;obtain⟨v,_,_,cH⟩:=PU cH;obtain⟨_,_,_,cH⟩:=PU cH
  cases cH
  exact⟨v,[],rfl⟩):G:=h
def ax2 (h:G:=by
  refine Qd ?_;clear U K;exact Pz (listed':=tf 6 2) Nw Nw ez):G:=h
def azb (h:G:=by
  go_wp2_with fail
  go_region
  go_wp2_with fail;refine aaW (NoP Q) .ret _ rfl rfl rfl rfl rfl ?_;exact Lu bX _ _ rfl rfl aV.out):G:=h
def awS (h:G:=by
  rcases T.2 with av|⟨g,cap,cj,a0,D,rest⟩
  ·exact zalad av
  ·exact zalal ⟨g,cap,cj,a0,by omega,rest⟩):G:=h
def aFR (h:G:=by
  have E:=b'.out.row.1;have O:=LU.length _ _ b'.out.kids;rw[O]
  show (ks.take k).length=k
  rw[zalbe];omega):G:=h
def azc (h:G:=by
  refine cm q8.out ?_;intro e ax ae;obtain⟨rfl,aa⟩:=ae;exact⟨rfl,O3 rfl (pF.out.drew.next aa)⟩):G:=h
def azd (h:G:=by
  refine cm fZ.out ?_;intro e ax ae;obtain⟨rfl,aa⟩:=ae;exact⟨rfl,O3 rfl (q3.out.drew.next aa)⟩):G:=h
def aze (h:G:=by
  refine cm fZ.out ?_;intro e ax ae;obtain⟨rfl,aa⟩:=ae;exact⟨rfl,O3 rfl (iH.out.drew.next aa)⟩):G:=h
def aFS (h:G:=by
  rw[aa.block _ LM LM,bj.out.block _ LM];have:=LP (w.alloc (.cells #[Pe] 22)) (.cells #[nIZ] 28);simpa using this):G:=h
def azf (h:G:=by
  intro k N
  rcases zalas.1 N with rfl|N
  ·exact⟨_,a0⟩
  ·rw[zalaf.1 N];exact⟨_,W⟩):G:=h
def azg (h:G:=by
  intro k N
  rcases zalas.1 N with rfl|N
  ·exact⟨_,ae⟩
  ·rw[zalaf.1 N];exact⟨_,D⟩):G:=h
def azh (h:G:=by
  intro k N
  rcases zalas.1 N with rfl|N
  ·exact⟨_,aa⟩
  ·rw[zalaf.1 N];exact⟨_,D⟩):G:=h
def azi (h:G:=by
  obtain⟨p,ae,av⟩:=h;have:q=p:=by injection ae with E;injection E with O;injection O
  rw[this];exact av):G:=h
def azj (h:G:=by
  have h:=RY (b:=LH) (l:=[]) rfl eC
  cases ab:tx.toList with
  | nil=>rw[ab] at h;cases h
  | cons _ _=>rfl):G:=h
def azk (h:G:=by
  refine anX nq.out ?_;have E:=Lu dv;unfold MO at E
  split at E
  ·
   cases E
  ·exact oK.out _ _ _ _ E):G:=h
def azl (h:G:=by
  rcases zalas.1 N with rfl|N
  ·exact⟨_,v0,aa⟩
  ·rw[zalaf.1 N];exact⟨_,v0,D⟩):G:=h
abbrev LJ (n:Int):Value:=.int .i64 n
abbrev Mc (b o:Nat):Value:=.pointer (some ⟨b,o,none⟩)
abbrev LD (b o:Nat):Addr:=⟨b,o,none⟩
abbrev MC:=Calls prog
abbrev LX (w x:World):Prop:=Below w.heap.size w x
abbrev U7:Value:=.string ⟨#[]⟩
abbrev LQ (s:ByteArray):Value:=.string s
abbrev NK (bl:Array Value)(t:TypeId):Obj:=.cells bl t (0,0)
abbrev MN (v:Value):Ending:=.returned v
abbrev L9 (b:Bool):Value:=.bool b
abbrev LK:=World
abbrev LW:=ByteArray
abbrev LY:=Value
def LM {G:Prop}(h:G:=by omega):G:=h
def MK {G:Prop}(h:G:=by decide):G:=h
def Nw {G:Prop}(h:G:=by kernel_rfl):G:=h
def MP {G:Prop}(h:G:=by simp):G:=h
def OM {G:Prop}(h:G:=by simp;omega):G:=h

abbrev QJ:Value:=.slice none 0 0
abbrev Pe:Value:=.pointer none
abbrev nIZ:Value:=.nilIface
abbrev lVZ (g n c:Nat):Value:=.slice (some ⟨g,0,none⟩) n c
abbrev TM (f:Nat):Prop:=∀ args L,(callFunc f args).run prog L=.ok (.enter f args) L
def nLz {a b:Nat}(h:a<b):a<=b:=Nat.le_of_lt h
def Nh {a:Nat}:a<=a:=Nat.le_refl a
def Qn {w:World}{o:Obj}:Below w.heap.size w (w.alloc o):=(zalbd _ _).alloc (Nat.le_refl _) _
def O4 {n:Nat}{w:World}:Below n w w:=zalbd _ _
def abU (lo ak c:Int):Bool:=decide (lo<=c)&&decide (c<=ak)
def Sm (c:Int):Bool:=abU 97 122 c||c==95
def Nl (c:Int):Bool:=abU 48 57 c
def OL (c:Int):Bool:=Sm c||Nl c
def inB (s:List UInt8)(c:Int):Bool:=decide (0<=Lib.indexByte s c.toNat.toUInt8)
def hide {p:Prop}(h:p):Hid p:=h
def Lu {p:Prop}(h:Hid p):p:=h
def Oy {a b:Bool}(h:a=b):Ending.returned (L9 a)=MN (L9 b):=by rw[h]
def Yu (c:Int)(w:LK) :
  MC 133 #[.int .u8 c] w λe w'=>e=MN (L9 (Sm c))/\w'=w:=by
 go_enter func133,ntmps133
 go_wp2
 all_goals go_ret
 all_goals refine⟨Oy ?_,rfl⟩
 all_goals simp[Sm,abU, *]
 all_goals omega
def afK (c:Int)(w:LK) :
  MC 134 #[.int .u8 c] w λe w'=>e=MN (L9 (Nl c))/\w'=w:=by
 go_enter func134,ntmps134
 go_wp2
 all_goals go_ret
 all_goals refine⟨Oy ?_,rfl⟩
 all_goals (simp[Nl,abU, *];try omega)
def ad1 (c lo ak:Int)(p q:Addr)(w:LK)(E:w.cell? p=some (.int .u8 lo))(O:w.cell? q=some (.int .u8 ak)) :
  MC 278 #[.int .u8 c,.pointer (some p),.pointer (some q)] w λe w'=>e=MN (L9 (abU lo ak c))/\w'=w:=by
 go_enter func278,ntmps278
 go_wp2
 all_goals go_ret
 all_goals refine⟨Oy ?_,rfl⟩
 all_goals (simp[abU, *];try omega)
def atC (s:LW)(c:Int)(w:LK):(callFunc 276 #[LQ s,.int .u8 c]).run prog w=.ok (.value (LJ (Lib.indexByte s.data.toList c.toNat.toUInt8))) w:=by
 rw[zalce func276 Nw Nw Nw (e:=Extern.BytealgIndexByte.indexByte) Nw,Lib.run_indexByteString];rfl
def aik (c:Int)(p:Addr)(s:LW)(w:LK)(E:w.cell? p=some (LQ s)) :
  MC 154 #[.int .u8 c,.pointer (some p)] w λe w'=>e=MN (L9 (inB s.data.toList c))/\w'=w:=by
 have jF:=atC s c;go_enter func154,ntmps154
 go_wp2
 go_ret;exact⟨Oy (by simp[inB]),rfl⟩
def aFC:TM 154:=λ_ _=>by kernel_rfl
def aFD:TM 277:=λ_ _=>by kernel_rfl
def aFE:TM 278:=λ_ _=>by kernel_rfl
/-- A value is a atB of p: in every later world it is a function that answers so and leaves the world as it was. -/
def UQ (w:LK)(v:LY)(p:Int->Bool):Prop:=
 ∃ f caps,v=.func (.func f) #[] caps/\(∀ args L,(callFunc f args).run prog L=.ok (.enter f args) L)/\∀ L,LX w L->∀ b:UInt8,MC f (#[.int .u8 (b.toNat:Int)]++caps) L λe bJ=>e=MN (L9 (p (b.toNat:Int)))/\bJ=L
def UQ.later {w w':LK}{v:LY}{p:Int->Bool}(h:UQ w v p)(D:LX w w'):UQ w' v p:=by
 obtain⟨f,caps,rfl,he,h⟩:=h;exact⟨f,caps,rfl,he,λL aO c=>h L (D.trans (aO.mono D.size)) c⟩
def Uj {w L:LK}{b o:Nat}{v:LY}(D:LX w L)(h:w.cell? (LD b o)=some v)(aC:b<w.heap.size):L.cell? (LD b o)=some v:=by
 rw[D.cell (p:=(LD b o)) aC];exact h
def aaS:∀ (gq:Fn) (first cap:Array LY) (w:LK),(Instr.makeFunc gq first cap).run prog w=.ok (.func gq first cap) w:=λ_ _ _ _=>rfl
def ZE (lo ak:Int)(w:LK) :
  MC 233 #[.int .u8 lo,.int .u8 ak] w λe w'=>∃ v,e=MN v/\UQ w' v (abU lo ak)/\LX w w':=by
 have iv:=aaS;go_enter func233,ntmps233
 go_wp2
 go_ret;refine⟨_,rfl,⟨278,_,rfl,aFE,λL aO c=>?_⟩,Qn.alloc MP _⟩;refine ad1 _ lo ak _ _ L ?_ ?_
 ·exact Uj aO (by simp[zalbi,zaldb]) OM
 ·exact Uj aO (by simp[zaldb]) MP
def acM (s:LW)(w:LK) :
  MC 98 #[LQ s] w λe w'=>∃ v,e=MN v/\UQ w' v (inB s.data.toList)/\LX w w':=by
 have iv:=aaS;go_enter func98,ntmps98
 go_wp2
 go_ret;refine⟨_,rfl,⟨154,_,rfl,aFC,λL aO c=>?_⟩,Qn⟩;refine aik _ _ s L ?_;exact Uj aO (by simp[zaldb]) MP
def afL (c:Int)(p q:Addr)(f g:Nat)(dx td:Array LY)(P Q:Int->Bool)(w:LK)(kW:TM f)(Bv:TM g)(E:w.cell? p=some (.func (.func f) #[] dx))(O:w.cell? q=some (.func (.func g) #[] td))
  (an:MC f (#[.int .u8 c]++dx) w λe w'=>e=MN (L9 (P c))/\w'=w)
  (hg:MC g (#[.int .u8 c]++td) w λe w'=>e=MN (L9 (Q c))/\w'=w) :
  MC 277 #[.int .u8 c,.pointer (some p),.pointer (some q)] w λe w'=>e=MN (L9 (P c||Q c))/\w'=w:=by
 have p7:Hid _:=an;have p8:Hid _:=hg
 cases fT:P c
 ·go_enter func277,ntmps277;go_wp2_with fail;refine zalhb p7.out ?_;rw[fT];rintro e w' ⟨rfl,rfl⟩;go_wp2_with fail;refine zalhb p8.out ?_;rintro e w' ⟨rfl,rfl⟩;go_wp2;go_ret;exact⟨Oy MP,rfl⟩
 ·go_enter func277,ntmps277;go_wp2_with fail;refine zalhb p7.out ?_;rw[fT];rintro e w' ⟨rfl,rfl⟩;go_wp2;go_ret;exact⟨Oy MP,rfl⟩
def ail (u v:LY)(P Q:Int->Bool)(w:LK)(aS:UQ w u P)(a0:UQ w v Q) :
  MC 232 #[u,v] w λe w'=>∃ x,e=MN x/\UQ w' x (λc=>P c||Q c)/\LX w w':=by
 have iv:=aaS;obtain⟨f,dx,rfl,kW,an⟩:=aS;obtain⟨g,td,rfl,Bv,hg⟩:=a0;have p7:=hide an;have p8:=hide hg;clear an hg;go_enter func232,ntmps232
 go_wp2
 go_ret;have D:LX w ((w.alloc (.cells #[.func (.func f) #[] dx] 134)).alloc (.cells #[.func (.func g) #[] td] 134)):=Qn.alloc MP _;refine⟨_,rfl,⟨277,_,rfl,aFD,λL aO c=>?_⟩,D⟩;have B8:=D.trans (aO.mono D.size);refine afL _ _ _ f g dx td P Q L kW Bv ?_ ?_ (Lu p7 L B8 c) (Lu p8 L B8 c)
 ·exact Uj aO (by simp[zalbi,zaldb]) OM
 ·exact Uj aO (by simp[zaldb]) MP
def Y7 (w:LK):MC 158 #[] w λe w'=>∃ x,e=MN x/\UQ w' x Nl/\LX w w':=by
 go_enter func158,ntmps158;go_wp2_with fail;refine(ZE 48 57 _).mono ?_;rintro e w' ⟨x,rfl,af,D⟩;have cy:=hide af;have aV:=hide D;go_wp2;go_ret;exact⟨x,rfl,cy.out,aV.out⟩
def UQ.congr {w:LK}{v:LY}{p q:Int->Bool}(h:UQ w v p)(e:∀ b:UInt8,p (b.toNat:Int)=q (b.toNat:Int)):UQ w v q:=by
 obtain⟨f,caps,rfl,he,h⟩:=h;exact⟨f,caps,rfl,he,λL aO b=>by rw[<-e b];exact h L aO b⟩
def alr (b:UInt8):inB [95] (b.toNat:Int)=((b.toNat:Int)==95):=by
 have key:∀ m:Fin 256,inB [95] ((m.val:Nat):Int)=(((m.val:Nat):Int)==95):=by decide +kernel
 exact key ⟨b.toNat,b.toNat_lt⟩
def O8 (c:Int):Bool:=c==32||c==10
def aqj (b:UInt8):inB [32,10] (b.toNat:Int)=O8 (b.toNat:Int):=by
 have key:∀ m:Fin 256,inB [32,10] ((m.val:Nat):Int)=O8 ((m.val:Nat):Int):=by decide +kernel
 exact key ⟨b.toNat,b.toNat_lt⟩
def ain (w:LK):MC 156 #[] w λe w'=>∃ x,e=MN x/\UQ w' x Sm/\LX w w':=by
 go_enter func156,ntmps156;go_wp2_with fail;refine(ZE 97 122 _).mono ?_;rintro e w1 ⟨x,rfl,af,D⟩;have cy:=hide af;have aV:=hide D;go_wp2_with fail;refine(acM _ _).mono ?_;have A{G}(h:G:=by
 refine⟨z,rfl,fH.out.congr (λb=>by show (_||inB [95] _)=_;rw[alr];rfl),?_⟩
 exact aym):=LG h;exact ayn
def ajI (w:LK):MC 234 #[] w λe w'=>∃ x,e=MN x/\UQ w' x OL/\LX w w':=by
 go_enter func234,ntmps234;go_wp2_with fail;refine atD ?_;rintro e w1 ⟨x,rfl,af,D⟩;have cy:=hide af;have aV:=hide D;go_wp2_with fail;refine(Y7 _).mono ?_;have A{G}(h:G:=by
 refine⟨z,rfl,fH.out.congr (λb=>rfl),?_⟩;exact aym):=LG h;exact ayn
/-- The first place from k on whose byte is of another kind, or the end. -/
def MH (p:Int->Bool)(s:LW)(k:Nat):Nat:=k+((s.data.toList.drop k).takeWhile (λb=>p (b.toNat:Int))).length
section
variable (p:Int->Bool) (s:LW) (k:Nat)
include p s k
def QV (h:k<=s.size):MH p s k<=s.size:=by
 unfold MH;have E:=(List.takeWhile_prefix (l:=s.data.toList.drop k) (λb=>p (b.toNat:Int))).length_le;have O:(s.data.toList.drop k).length=s.size - k:=by simp
 omega
def Qz (h:k<s.size)(ae:p (s[k].toNat:Int)=true):MH p s (k+1)=MH p s k:=by
 have A{G}(h:G:=by
 rw[e,zalgq,zalak ae,zalbf];omega):=LG h;exact ayo
def Qa (h:k<s.size)(ae:p (s[k].toNat:Int)=false):MH p s k=k:=by
 have A{G}(h:G:=by
 rw[e,zalgq,zalah (by rw[ae];simp)];rfl):=LG h;exact ayo
def RS (h:s.size<=k):MH p s k=k:=by
 unfold MH;rw[List.drop_of_length_le (by simpa using h)];rfl
end
def aaq {k:IntKind}{a b:Int}(h:a=b):Ending.returned (.int k a)=MN (.int k b):=by rw[h]
def WZ (s:LW)(k0:Nat)(v:LY)(p:Int->Bool)(w:LK)(W:s.size<=maxLen)(hk:k0<=s.size)(a0:UQ w v p) :
  MC 99 #[LQ s,LJ (k0:Int),v] w λe w'=>e=MN (LJ (MH p s k0:Nat))/\w'=w:=by
 unfold maxLen at W;obtain⟨f,caps,rfl,kW,an⟩:=a0;have an:=an w O4;have p7:=hide an;clear an;go_enter func99,ntmps99
 go_wp2
 go_loopw [1] (λi wr=>∃ k:Nat,k<=s.size/\i=LJ k/\MH p s k=MH p s k0/\wr=w) (λi _=>s.size - (intOf i).toNat)
 case atStart=>exact⟨k0,hk,rfl,rfl,rfl⟩
 case round=>
  obtain⟨k,N,rfl,he,rfl⟩:=hrel;have cG:=hide he;clear he
  by_cases aC:k<s.size
  ·
   cases ae:p (s[k].toNat:Int)
   ·have bB:=hide (Qa p s k aC ae);have bk:=hide ae;clear ae;go_wp2_with fail;refine zalhb (Lu p7 _) ?_;rw[bk.out];rintro e w' ⟨rfl,rfl⟩;go_wp2;go_ret;exact⟨aaq (by rw[<-cG.out,bB.out]),rfl⟩
   ·have bB:=hide (Qz p s k aC ae);have bk:=hide ae;clear ae;go_wp2_with fail;refine zalhb (Lu p7 _) ?_;rw[bk.out];rintro e w' ⟨rfl,rfl⟩;go_wp2
    go_roundw
    case rel=>exact⟨k+1,by omega,by go_num,by rw[bB.out,cG.out],by trivial⟩
    case measure=>simp[intOf];omega
  ·have bB:=hide (RS p s k LM);go_wp2;go_ret;exact⟨aaq (by rw[<-cG.out,bB.out]),rfl⟩
def isIn (aj:List LW)(s:LW):Bool:=aj.any (λx=>x.toList==s.toList)
section
variable (aj:List LW) (s:LW) (k:Nat) (h:k<aj.length)
include aj s k h
def Xo (aJ:isIn (aj.take k) s=false)(E:(aj[k].toList==s.toList)=false):isIn (aj.take (k+1)) s=false:=by
 unfold isIn at *;rw[zalac h,zaleq,aJ];simpa using E
def ahK (E:(aj[k].toList==s.toList)=true):isIn aj s=true:=by
 unfold isIn;exact zaldd.2 ⟨aj[k],zalao h,E⟩
end
def asi (a:Addr)(cap:Nat)(aj:List LW)(s:LW)(w:LK)(av:aj.length<=1000)
  (am:∀ i,i<aj.length->w.cell? (a.add i)=some (LQ (aj.getD i ByteArray.empty))) :
  MC 53 #[.slice (some a) aj.length cap,LQ s] w λe w'=>e=MN (L9 (isIn aj s))/\w'=w:=by
 go_enter func53,ntmps53
 go_wp2
 go_loop [6,9] (λ_ i=>∃ k:Nat,k<=aj.length/\i=LJ k/\isIn (aj.take k) s=false) (λ_ i=>aj.length - (intOf i).toNat)
 case atStart=>exact⟨0,zalae _,rfl,rfl⟩
 case round=>
  obtain⟨k,N,rfl,he⟩:=hrel;have cG:=hide he;clear he
  by_cases aC:k<aj.length
  ·have dU:=am k aC;clear am
   go_wp2
   ·go_ret;exact⟨Oy (ahK aj s k aC ‹_›).symm,rfl⟩
   ·exact⟨⟨k+1,by omega,by go_num,Xo aj s k aC cG.out ‹_›⟩,by simp[intOf];omega⟩
  ·clear am
   go_wp2
   go_ret;exact⟨Oy (by have:=Lu cG;rw[zalcv LM] at this;exact this.symm),rfl⟩
def asG (bl:Array LY)(k:Nat)(N:k<19)(x:LW)(af:bl[k]? = some (LQ x))(w:LK) :
  (Instr.index 257 (.agg bl) (LJ (k:Int))).run prog w=.ok (LQ x) w:=by
 simp[Instr.index,zalcl zalid,asIntOf,go_sem,N,af]
def aa6 (aj:List LW)(s:LW)(w:LK)(av:aj.length=19)(t:TypeId)(fr:Nat × Nat)
  (hg:w.heap[6]? = some (.cells (aj.map Value.string).toArray t fr)) :
  MC 235 #[LQ s] w λe w'=>e=MN (L9 (isIn aj s))/\w'=w:=by
 obtain⟨bl,f7⟩:∃ bl,bl=(aj.map Value.string).toArray:=⟨_,rfl⟩;rw[<-f7] at hg;have bK:bl.size=19:=by rw[f7];simpa using av
 have ki:∀ k:Nat,k<19->∀ L,(Instr.index 257 (.agg bl) (LJ (k:Int))).run prog L=.ok (LQ (aj.getD k ByteArray.empty)) L:=λk N L=>
  asG bl k N _ (by rw[f7];simp[av,N]) L
 have l7:=hide ki;have p9:=hide bK;have p8:=hide hg;clear ki f7 bK hg;go_enter func235,ntmps235
 go_wp2_with (refine zalgh rfl 257 _ rfl 6 rfl t bl fr _ p8.out zalid rfl (by rw[p9.out];kernel_rfl) ?_)
 go_loop [4,6] (λ_ i=>∃ k:Nat,k<=19/\i=LJ k/\isIn (aj.take k) s=false) (λ_ i=>19 - (intOf i).toNat)
 case atStart=>exact⟨0,zalae _,rfl,rfl⟩
 case round=>
  obtain⟨k,N,rfl,he⟩:=hrel;have cG:=hide he;clear he
  by_cases aC:k<19
  ·have dU:=Lu l7 k aC
   go_wp2
   ·go_ret;exact⟨Oy (ahK aj s k LM (by rw[BEq.comm];assumption)).symm,rfl⟩
   ·exact⟨⟨k+1,by omega,by go_num,Xo aj s k LM cG.out (by rw[BEq.comm];assumption)⟩,by simp[intOf];omega⟩
  ·go_wp2
   go_ret;exact⟨Oy (by have:=Lu cG;rw[zalcv LM] at this;exact this.symm),rfl⟩
def XG (a:Addr)(cap:Nat)(aj:List LW)(s:LW)(w:LK)(av:aj.length=19)
  (hg:w.cell? (LD 4 0)=some (.slice (some a) 19 cap))
  (am:∀ i,i<aj.length->w.cell? (a.add i)=some (LQ (aj.getD i ByteArray.empty))) :
  MC 135 #[LQ s] w λe w'=>e=MN (L9 (isIn aj s))/\w'=w:=by
 have ag:=hide am;have b3:=hide av;clear am av;go_enter func135,ntmps135;go_wp2_with fail;have a2:=asi a cap aj s w (by rw[b3.out];omega) ag.out
 rw[b3.out] at a2;refine a2.mono ?_;rintro e w' ⟨rfl,rfl⟩;go_wp2;go_ret;exact⟨rfl,rfl⟩
section
open Go.ChangeShapes Go.WideShapes Go.ChangeAt Go.WideMaps Go.WideElems Go.RowKit
def ofBytes (l:List UInt8):LW:=⟨l.toArray⟩
def ahT:List (List UInt8):=[[118,97,114],[108,101,116],[99,111,110,115,116],[102,117,110,99,116,105,111,110],[105,102],[101,108,115,101],[119,104,105,108,101],[119,105,116,104],[114,101,116,117,114,110],[116,104,114,111,119],[116,114,121],[99,97,116,99,104],[102,105,110,97,108,108,121],[116,121,112,101,111,102],[100,101,108,101,116,101],[116,114,117,101],[102,97,108,115,101],[110,117,108,108],[117,110,100,101,102,105,110,101,100]]
def YT:List LW:=ahT.map ofBytes
def ana:List (List UInt8):=[[61,61,61],[38,38],[124,124],[40],[41],[123],[125],[91],[93],[59],[58],[44],[46],[61],[43],[45],[42],[60],[33]]
def ML:List LW:=ana.map ofBytes
def aaA:YT.length=19:=rfl
def XJ:ML.length=19:=rfl
def XV {s:LW}{l:List UInt8}(h:s.data.toList=l):s=ofBytes l:=bytes_inj (by rw[h];rfl)
def at_eq (s:LW)(i:Nat)(h:i<s.size):s.data.toList.getD i 0=s[i]:=ayV
end
def XC {L w1:LK}(D:LX L w1):(∀ b o,b<L.heap.size->w1.cell? (LD b o)=L.cell? (LD b o))/\(∀ b o,b<L.heap.size->w1.frozen? (LD b o)=L.frozen? (LD b o)):=
 ⟨λb o h=>D.cell (p:=(LD b o)) h,λb o h=>D.frozen (p:=(LD b o)) h⟩
inductive Rd where
 | tok (kd:Int) (tx:LW) (n:Int) (e:Nat)
 | bad (er:Int) (p:Nat)
abbrev TB:LY:=.agg #[LJ 0,U7,LJ 0,LJ 0]
def Sv (k:Nat)(r:Rd)(w:LK)(e:Ending)(w':LK):Prop:=
 match r with
 | .tok kd tx n ha=>e=MN (.tuple #[.agg #[LJ kd,LQ tx,LJ n,LJ (k:Int)],LJ (ha:Int),.nilIface])/\LX w w'
 | .bad er p=>∃ b,e=MN (.tuple #[TB,LJ 0,.iface 144 (Mc b 0)])/\w'.heap[b]? = some (NK #[LJ er,LJ (p:Int)] 145)/\w.heap.size<=b/\LX w w'
def aas {w w1:LK}{b:Nat}{o X:Obj}(hbel:Below (w.alloc o).heap.size (w.alloc o) w1)(kj:(w.alloc o).heap.size<=b)(D:w1.heap[b]? = some X)(v0 v1 v2 v3:LY) :
  ((((w1.setCell (LD w.heap.size 0) v0).setCell (LD w.heap.size 1) v1).setCell (LD w.heap.size 2) v2).setCell (LD w.heap.size 3) v3).heap[b]? = some X/\w.heap.size<=b /\
   LX w ((((w1.setCell (LD w.heap.size 0) v0).setCell (LD w.heap.size 1) v1).setCell (LD w.heap.size 2) v2).setCell (LD w.heap.size 3) v3):=by
 have b5:(w.alloc o).heap.size=w.heap.size+1:=by simp
 have d':b≠w.heap.size:=LM;have jA:LX w (w.alloc o):=Qn;have bT:LX w w1:=jA.trans (hbel.mono LM);refine⟨?_,by omega,(((bT.setCell Nh _).setCell Nh _).setCell Nh _).setCell Nh _⟩;rw[zalap _ _ _ _ d',zalap _ _ _ _ d',zalap _ _ _ _ d',zalap _ _ _ _ d'];exact D
def aa8 (er p:Int)(w:LK):MC 236 #[LJ er,LJ p] w λe w'=>
  ∃ b,e=MN (.tuple #[TB,LJ 0,.iface 144 (Mc b 0)])/\w'.heap[b]? = some (NK #[LJ er,LJ p] 145)/\w.heap.size<=b/\LX w w':=by
 go_enter func236,ntmps236
 go_wp2
 refine Ug (v:=.tuple #[TB,LJ 0,.iface 144 (Mc (w.heap.size+1) 0)]) ⟨_,rfl,?_,by omega,Qn.alloc MP _⟩;simpa using zalgm (w.alloc (.cells #[LJ 0,U7,LJ 0,LJ 0] 138)) (.cells #[LJ er,LJ p] 145)
def Xj (x p:LW):Bool:=decide (p.size<=x.size)&&((x.extract 0 p.size).toList==p.toList)
def ab8 (x p:LW)(w:LK)(_hx:x.size<=maxLen)(FJ:p.size<=maxLen) :
  MC 183 #[LQ x,LQ p] w λe w'=>e=MN (L9 (Xj x p))/\w'=w:=by
 unfold maxLen at _hx FJ
 by_cases h:p.size<=x.size
 all_goals
  go_enter func183,ntmps183
  go_wp2
  go_ret;exact⟨Oy (by simp[Xj,h]),rfl⟩
def RG (bi:List LW)(s:LW)(k:Nat):Rd:=
 match bi.find? (λg=>Xj (s.extract k s.size) g) with
 | some g=>.tok 5 g 0 (k+g.size)
 | none=>.bad 3 k
section
variable {bi:List LW} {f:LW->Bool}
include bi f
def aoO {i:Nat}(ak:i<bi.length)(aJ:∀ j,(aT:j<i)->f (bi[j]'LM)=false)(h:f bi[i]=true):bi.find? f=some bi[i]:=by
 rw[zalfd];exact⟨h,i,ak,rfl,λj aT=>by rw[aJ j aT];rfl⟩
def amq (aJ:∀ j,(aT:j<bi.length)->f bi[j]=false):bi.find? f=none:=by
 rw[zalet];intro x af;obtain⟨j,aT,rfl⟩:=zalgs af;rw[aJ j aT];simp
end
def extract_size (s:LW)(a b:Nat)(E:a<=b)(O:b<=s.size):(s.extract a b).size=b - a:=by
 simp;omega
def ad8 (bi:List LW)(s:LW)(k:Nat)(w:LK)(W:s.size<=3000)(N:k<s.size)(av:bi.length=19)(bK:∀ i,i<19->(bi.getD i ByteArray.empty).size<=3)(t:TypeId)(fr:Nat × Nat)
  (hg:w.heap[5]? = some (.cells (bi.map Value.string).toArray t fr)) :
  MC 161 #[LQ s,LJ (k:Int)] w (Sv k (RG bi s k) w):=by
 obtain⟨bl,f7⟩:∃ bl,bl=(bi.map Value.string).toArray:=⟨_,rfl⟩;rw[<-f7] at hg;have hsz1:bl.size=19:=by rw[f7];simpa using av
 have ki:∀ k:Nat,k<19->∀ L,(Instr.index 257 (.agg bl) (LJ (k:Int))).run prog L=.ok (LQ (bi.getD k ByteArray.empty)) L:=λk N L=>
  asG bl k N _ (by rw[f7];simp[av,N]) L
 have l7:=hide ki;have p9:=hide bK;have FG:=hide hsz1;have s0:=hide av;have p8:Hid ((w.alloc (.cells #[LJ 0,U7,LJ 0,LJ 0] 138)).heap[5]? = some (.cells bl t fr)):=by
  have aC:5<w.heap.size:=(zalbv.1 hg).1
  show _=_
  rw[zalaa w _ 5 aC];exact hg
 clear ki f7 bK hg av hsz1;go_enter func161,ntmps161
 go_wp2_with (refine zalgh rfl 257 _ rfl 5 rfl t bl fr _ p8.out zalid rfl (by rw[FG.out];kernel_rfl) ?_)
 go_loopw [8,10] (λ_ i wr=>∃ j:Nat,j<=19/\i=LJ j/\(∀ q,q<j->Xj (s.extract k s.size) (bi.getD q ByteArray.empty)=false)/\wr=w.alloc (.cells #[LJ 0,U7,LJ 0,LJ 0] 138)) (λ_ i _=>19 - (intOf i).toNat)
 case atStart=>exact⟨0,zalae _,rfl,λq ac=>absurd ac (zalep _),rfl⟩
 case round=>
  obtain⟨j,aT,rfl,he,rfl⟩:=hrel;have cG:=hide he;clear he
  by_cases aC:j<19
  ·have dU:=Lu l7 j aC;have o6:=Lu p9 j aC;obtain⟨g,hg⟩:∃ g,g=bi.getD j ByteArray.empty:=⟨_,rfl⟩;rw[<-hg] at dU o6;have sE:=hide hg;clear hg
   cases ae:Xj (s.extract k s.size) g
   ·have bk:=hide ae;clear ae;have A{G}(h:G:=by
    rw[bk.out];rintro e w' ⟨rfl,rfl⟩;go_wp2
    go_roundw
    case rel=>exact⟨j+1,by omega,by go_num,λq ac=>by (by_cases yY:q=j);(rw[yY,<-sE.out];exact bk.out);exact Lu cG q LM,by trivial⟩
    case measure=>simp[intOf];omega):=LG h;exact an5
   ·have bk:=hide ae;clear ae;have A{G}(h:G:=by
    rw[bk.out];rintro e w' ⟨rfl,rfl⟩;go_wp2_with fail;have T:RG bi s k=.tok 5 g 0 (k+g.size):=by
     unfold RG;have Cp:g=bi[j]'(by rw[s0.out];exact aC):=by rw[sE.out,zalay,zalai (by rw[s0.out];exact aC)];rfl
     rw[aoO (i:=j) (by rw[s0.out];exact aC) (λq ac=>by
      have:=Lu cG q ac;rw[zalay,zalai (by rw[s0.out];omega)] at this
      exact this) (by rw[<-Cp];exact bk.out),<-Cp]
    rw[T];exact Ug (v:=.tuple #[.agg #[LJ 5,LQ g,LJ 0,LJ (k:Int)],LJ ((k:Int)+(g.size:Int)),nIZ]) ⟨by simp,Qn⟩):=LG h;exact an5
  ·go_wp2_with fail;refine(aa8 _ _ _).mono ?_;rintro e w1 ⟨b,rfl,D,kj,hbel⟩;obtain⟨am,an⟩:=XC hbel;have aV:=hide D;have cZ:=hide hbel;clear D;go_wp2_with fail;have T:RG bi s k=.bad 3 k:=by
    unfold RG;rw[amq (λq ac=>by
     have:=Lu cG q (by rw[s0.out] at ac;omega)
     rw[zalay,zalai ac] at this;exact this)]
   rw[T];exact adY (v:=.tuple #[TB,LJ 0,.iface 144 (Mc b 0)]) ⟨b,rfl,aas cZ.out kj aV.out _ _ _ _⟩
def QF (p:Int->Bool)(s:LW)(k:Nat):k<=MH p s k:=by unfold MH;omega
def Xg {w w1:LK}{o:Obj}(hbel:Below (w.alloc o).heap.size (w.alloc o) w1)(v0 v1 v2 v3:LY) :
   LX w ((((w1.setCell (LD w.heap.size 0) v0).setCell (LD w.heap.size 1) v1).setCell (LD w.heap.size 2) v2).setCell (LD w.heap.size 3) v3):=by
 have b5:(w.alloc o).heap.size=w.heap.size+1:=by simp
 have jA:LX w (w.alloc o):=Qn;have bT:LX w w1:=jA.trans (hbel.mono LM);exact(((bT.setCell Nh _).setCell Nh _).setCell Nh _).setCell Nh _
def QG (aj:List LW)(s:LW)(k:Nat):Rd:=
 if isIn aj (s.extract k (MH OL s k))=true then .tok 2 (s.extract k (MH OL s k)) 0 (MH OL s k)
 else if 20<MH OL s k - k then .bad 4 k
 else .tok 1 (s.extract k (MH OL s k)) 0 (MH OL s k)
abbrev O35:Obj:=.cells #[LJ 0,U7,LJ 0,LJ 0] 138
section
variable (aj:List LW) (s:LW) (k e:Nat) (w:LK) (W:s.size<=3000) (N:k<s.size) (he:MH OL s k=e) (k2:k<=e) (c8:e<=s.size)
include aj s k e w W N he k2 c8
def acj (hw:isIn aj (s.extract k e)=true)(av:aj.length=19)(t:TypeId)(fr:Nat × Nat)(hg:w.heap[6]? = some (.cells (aj.map Value.string).toArray t fr)) :
  MC 157 #[LQ s,LJ (k:Int)] w (Sv k (.tok 2 (s.extract k e) 0 e) w):=by
 have A{G}(h:G:=by
 rintro bO aq ⟨rfl,rfl⟩;go_wp2_with fail;exact adY (v:=.tuple #[.agg #[LJ 2,LQ (s.extract k e),LJ 0,LJ (k:Int)],LJ (e:Int),nIZ]) ⟨rfl,Xg cZ.out _ _ _ _⟩):=LG h;exact at7
def acn (hw:isIn aj (s.extract k e)=false)(gr:¬ 20<e - k)(av:aj.length=19)(t:TypeId)(fr:Nat × Nat)(hg:w.heap[6]? = some (.cells (aj.map Value.string).toArray t fr)) :
  MC 157 #[LQ s,LJ (k:Int)] w (Sv k (.tok 1 (s.extract k e) 0 e) w):=by
 have A{G}(h:G:=by
 rintro bO aq ⟨rfl,rfl⟩;go_wp2_with fail;exact adY (v:=.tuple #[.agg #[LJ 1,LQ (s.extract k e),LJ 0,LJ (k:Int)],LJ (e:Int),nIZ]) ⟨rfl,Xg cZ.out _ _ _ _⟩):=LG h;exact at7
def aco (hw:isIn aj (s.extract k e)=false)(gr:20<e - k)(av:aj.length=19)(t:TypeId)(fr:Nat × Nat)(hg:w.heap[6]? = some (.cells (aj.map Value.string).toArray t fr)) :
  MC 157 #[LQ s,LJ (k:Int)] w (Sv k (.bad 4 k) w):=by
 have A{G}(h:G:=by
 rintro bO aq ⟨rfl,rfl⟩;exact ava):=LG h;exact at7
end
def ad7 (aj:List LW)(s:LW)(k:Nat)(w:LK)(W:s.size<=3000)(N:k<s.size)(av:aj.length=19)(t:TypeId)(fr:Nat × Nat)
  (hg:w.heap[6]? = some (.cells (aj.map Value.string).toArray t fr)) :
  MC 157 #[LQ s,LJ (k:Int)] w (Sv k (QG aj s k) w):=by
 have k2:=QF OL s k;have c8:=QV OL s k LM
 cases hw:isIn aj (s.extract k (MH OL s k))
 ·by_cases gr:20<MH OL s k - k
  ·have T:QG aj s k=.bad 4 k:=by unfold QG;rw[hw];simp[gr]
   rw[T];exact aco aj s k _ w W N rfl k2 c8 hw gr av t fr hg
  ·have T:QG aj s k=.tok 1 (s.extract k (MH OL s k)) 0 (MH OL s k):=by unfold QG;rw[hw];simp[gr]
   rw[T];exact acn aj s k _ w W N rfl k2 c8 hw gr av t fr hg
 ·have T:QG aj s k=.tok 2 (s.extract k (MH OL s k)) 0 (MH OL s k):=by unfold QG;rw[hw];simp
  rw[T];exact acj aj s k _ w W N rfl k2 c8 hw av t fr hg
def TS (l:List UInt8):Int:=l.foldl (λn b=>n * 10+((b.toNat:Int) - 48)) 0
section
variable (l:List UInt8)
include l
def akL (b:UInt8):TS (l++[b])=TS l * 10+((b.toNat:Int) - 48):=by simp[TS,zalby]
def ang:∀ (n:Int),0<=n->(∀ b ∈ l,Nl (b.toNat:Int)=true) ->
  0<=l.foldl (λn b=>n * 10+((b.toNat:Int) - 48)) n/\l.foldl (λn b=>n * 10+((b.toNat:Int) - 48)) n<(n+1) * 10 ^ l.length:=by
 induction l with
 | nil=>intro n aJ _;simp;omega
 | cons b l aU=>
  intro n aJ h;have D:=h b MP;simp[Nl,abU] at D;have E:=aU (n * 10+((b.toNat:Int) - 48)) LM (λc am=>h c (by simp[am]));refine⟨E.1,Int.lt_of_lt_of_le E.2 ?_⟩;rw[zalbf,Int.pow_succ,Int.mul_comm ((10:Int) ^ l.length) 10,<-Int.mul_assoc];exact Int.mul_le_mul_of_nonneg_right LM (Int.pow_nonneg LM)
def XK (h:∀ b ∈ l,Nl (b.toNat:Int)=true):0<=TS l/\TS l<10 ^ l.length:=by
 have E:=ang l 0 (Int.le_refl _) h;refine⟨E.1,?_⟩;have O:=E.2;rw[Int.zero_add,Int.one_mul] at O;exact O
end
def XL (x:LW)(aD:∀ i,(ak:i<x.size)->Nl (x[i].toNat:Int)=true)(k:Nat):∀ b ∈ x.data.toList.take k,Nl (b.toNat:Int)=true:=by
 intro b D;obtain⟨i,ak,rfl⟩:=zalgs D;have yC:i<x.data.toList.length:=by simp at ak;simp;omega
 have W:i<x.size:=by
  have aM:x.data.toList.length=x.size:=by simp
  omega
 rw[zalhf];exact aD i W
def take_snoc (s:LW)(k:Nat)(h:k<s.size):s.data.toList.take (k+1)=s.data.toList.take k++[s[k]]:=by
 rw[zalac (by simpa using h)];rfl
def ahV (x:LW)(w:LK):∃ cap dB,(convert 9 71 (LQ x)).run prog w=.ok (.slice (some (LD w.heap.size 0)) x.size cap) dB/\LX w dB /\
  ∀ i,(ak:i<x.size)->dB.cell? (LD w.heap.size i)=some (.int .u8 (x[i].toNat:Int)):=by
 refine⟨_,_,run_bytes_of_string w 9 71 5 x zalgo zalgb underlying5,(O4.drew.alloc Nh _),?_⟩;intro i ak;have a2:=zalgm w.drew (.cells (bytesRow x (grownCap w x.size 0 5)) 5 ((bytesRow x (grownCap w x.size 0 5)).size,(bytesRow x (grownCap w x.size 0 5)).size+1))
 have yA:(w.drew.alloc (.cells (bytesRow x (grownCap w x.size 0 5)) 5 ((bytesRow x (grownCap w x.size 0 5)).size,(bytesRow x (grownCap w x.size 0 5)).size+1))).heap[w.heap.size]? = some (.cells (bytesRow x (grownCap w x.size 0 5)) 5 ((bytesRow x (grownCap w x.size 0 5)).size,(bytesRow x (grownCap w x.size 0 5)).size+1)):=a2;have n8:i<x.data.size:=ak;simp only[World.cell?,yA];have ao:(bytesRow x (grownCap w x.size 0 5))[i]? = some (.int .u8 (x[i].toNat:Int)):=by
  unfold bytesRow;rw[Array.getElem?_append_left (by simpa using n8),Array.getElem?_map,Array.getElem?_eq_getElem n8];rfl
 simpa using ao
def anh {n:Nat}(h:n<=10):(10:Int) ^ n<=10000000000:=by
 have:∀ m:Fin 11,(10:Int) ^ m.val<=10000000000:=by decide
 exact this ⟨n,by omega⟩
def akM (x:LW)(w:LK)(E:1<=x.size)(O:x.size<=10)(aD:∀ i,(ak:i<x.size)->Nl (x[i].toNat:Int)=true) :
  MC 249 #[LQ x] w λe w'=>e=MN (.tuple #[LJ (TS x.data.toList),nIZ])/\LX w w':=by
 obtain⟨cap,dB,qv,hbel,hcell⟩:=ahV x w;have aJ:=aD 0 E;simp[Nl,abU] at aJ;obtain⟨JL,JM⟩:=aJ;have Jh:(((x[0].toNat:Nat):Int)==45)=false:=zalaj.2 LM;have Jg:(((x[0].toNat:Nat):Int)==43)=false:=zalaj.2 LM;have cZ:=hide hbel;have uD:=hide hcell;have f2:=hide aD;clear hcell aD;go_enter func249,ntmps249
 go_wp2
 go_loop [6,8,49] (λn _ i=>∃ k:Nat,k<=x.size/\i=LJ k/\n=LJ (TS (x.data.toList.take k))) (λ_ _ i=>x.size - (intOf i).toNat)
 case atStart=>exact⟨0,zalae _,rfl,rfl⟩
 case round=>
  obtain⟨k,N,rfl,rfl⟩:=hrel
  by_cases aC:k<x.size
  ·have dU:=Lu uD k aC;have Cj:=Lu f2 k aC;simp[Nl,abU] at Cj;obtain⟨aa,D⟩:=Cj;have ge:=XK _ (XL x f2.out k);have ab:(x.data.toList.take k).length<=10:=by simp;omega
   have ae:=anh ab;obtain⟨hm,eH⟩:=ge;have gy:TS (x.data.toList.take k)<10000000000:=LM;have aF:=hide (akL (x.data.toList.take k) x[k]);have dQ:=hide (take_snoc x k aC);obtain⟨aR,aN⟩:∃ aR,aR=TS (x.data.toList.take k):=⟨_,rfl⟩;rw[<-aN] at hm gy ⊢;have b3:=hide aN;clear aN eH ae ab
   go_wp2
   exact⟨⟨k+1,by omega,by go_num,by rw[dQ.out,aF.out,<-b3.out]⟩,by simp[intOf];omega⟩
  ·have dQ:Hid (x.data.toList.take k=x.data.toList):=zalcv OM
   go_wp2
   go_ret2
   refine⟨?_,cZ.out⟩;rw[dQ.out];rfl
