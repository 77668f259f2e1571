import Derived.Test.YtoimgcjbcbhclaaGreatDoorAz8
import Derived.Test.YtoimgcjbcbhclaaGreatDoorAz9
import Derived.Test.YtoimgcjbcbhclaaGreatDoorAz7
import Derived.Test.YtoimgcjbcbhclaaGreatDoorAz10
import Derived.Laws.IdiomRangeMap
import Derived.Maps.RangeRun
set_option maxRecDepth 100000
set_option maxHeartbeats 0
set_option linter.all false
namespace Go.Proofs.YtoimgcjbcbhclaaGreatDoor
open Go.RowKit Go.Proofs.Tryz
def sg2 {s:LW}{x:Sg}(h:SA 2 s=some x):2<=x.str/\x.str<=7:=by
 unfold SA at h
 cases an:Xx s with
 | none=>rw[an] at h;cases h
 | some y=>
  rw[an] at h;have aA:=zalbc an;have hy:y=x/\(y.parts==2)=true:=by
   simp only[Option.filter] at h
   split at h
   ·exact⟨zalbo h,by assumption⟩
   ·
    cases h
  obtain⟨rfl,ae⟩:=hy;simp only[YU,zalas,zalcw,zalfb] at aA
  rcases aA with rfl|rfl|rfl|rfl|rfl|rfl|rfl|rfl|rfl|rfl|rfl|rfl|rfl|rfl <;> first|decide | (exact absurd ae MK)
def abq {c:Ctx}{w aj:LK}{i d:Nat}(x:Sg)(a7:Ol c aj i d)(bv:Ap c.R w.heap.size w aj)(ak:i+1<c.l.length) :
  Ol c ((aj.setCell (LD c.R 1) (LJ ((i:Int)+1))).alloc (.cells #[LQ x.tx,LJ x.kd,LJ x.parts,LJ x.str] 189)).drew (i+1) d/\Ap c.R w.heap.size w ((aj.setCell (LD c.R 1) (LJ ((i:Int)+1))).alloc (.cells #[LQ x.tx,LJ x.kd,LJ x.parts,LJ x.str] 189)).drew /\
  ((aj.setCell (LD c.R 1) (LJ ((i:Int)+1))).alloc (.cells #[LQ x.tx,LJ x.kd,LJ x.parts,LJ x.str] 189)).drew.heap[aj.heap.size]? = some (.cells #[LQ x.tx,LJ x.kd,LJ x.parts,LJ x.str] 189):=by
 obtain⟨E,O⟩:=stepped a7 bv ak;refine⟨(E.alloc _).drew,(O.alloc O.size _).drew,?_⟩;have:=LP (aj.setCell (LD c.R 1) (LJ ((i:Int)+1))) (.cells #[LQ x.tx,LJ x.kd,LJ x.parts,LJ x.str] 189);rw[zales] at this;exact this
section
variable {c:Ctx} {F:OQ}
include c F
def agX (c':Does c 303 NV (Rt c.l F))(w:LK)(d i:Nat)(r:PR Tr)(du:SA 1 (fx c.l i)=none)(W:Rt c.l F d i=r)(ay:r≠.out)(h:Ol c w i d):MC 292 #[Nz c] w (OV c w d (NV w.heap.size) r):=by
 have go:=hide du;clear du;have A{G}(h:G:=by
 have aF:=hide W;have bb:=hide ay;clear h W ay;go_enter func292,ntmps292;have ag:=hide (UU c 1 w i d cO.out);rw[go.out] at ag;simp only[ad4,aiq,Option.isSome] at ag;go_wp2_with fail;refine NJ ?_;rintro e aj ⟨rfl,jV⟩;have mE:=hide (fG.out.next (Ap.of jV));have j':=hide (cO.out.later jV);have A{G}(h:G:=by
 cases T:Rt c.l F d i with
 | out=>
  rw[T] at aF;exact absurd aF.out.symm bb.out
 | bad er p=>
  have ag:=hide (c' (aj.alloc (.cells #[U7,LJ 0,LJ 0,LJ 0] 189)) d i _ rfl (by rw[T];nofun) oN.out)
  rw[T] at ag aF;clear T;have A{G}(h:G:=by
  exact⟨rfl,O3 aF.out.symm (pG.out.next aa)⟩):=LG h;exact U8
 | ok dg bH=>
  have ag:=hide (c' (aj.alloc (.cells #[U7,LJ 0,LJ 0,LJ 0] 189)) d i _ rfl (by rw[T];nofun) oN.out)
  rw[T] at ag aF;clear T;go_wp2_with fail;refine NJ ?_;have A{G}(h:G:=by
  have b7:=hide (pG.out.next aa);have cd:=hide aY;have dO:=hide (TD eH pG.out.size);go_wp2;go_ret;exact RF aF.out.symm ⟨ep,rfl,dO.out⟩ cd.out b7.out):=LG h;exact ad6):=LG h;exact aAa):=LG h;exact TL
def agY (ai:FC c F)(w:LK)(d i:Nat)(x:Sg)(r:PR Tr)(du:SA 1 (fx c.l i)=some x)(W:((MO c.l F.sg d (i+1)).bind λt az=>PR.ok (.mk x.kd LH 0 [t]) az)=r)(ay:r≠.out)(h:Ol c w i d):MC 292 #[Nz c] w (OV c w d (NV w.heap.size) r):=by
 have iv:=Po c.R 292;have go:=hide du;have ak:=Y2 h.base.ends h.lt du;have bm:=h.base.len;clear du;have A{G}(h:G:=by
 have aF:=hide W;have bb:=hide ay;clear h W ay;go_enter func292,ntmps292;have ag:=hide (UU c 1 w i d cO.out);rw[go.out] at ag;simp only[ad4,sgV,Option.isSome] at ag;go_wp2_with fail;refine NJ ?_;rintro e aj ⟨rfl,jV⟩;have mE:=hide (fG.out.next (Ap.of jV));have j':=hide (cO.out.later jV);have eU:=j'.out.c1;have rY:=j'.out.fz;have ed:=j'.out.SB;obtain⟨jk,m8,t1⟩:=abq x j'.out mE.out ak;have ea:=hide jk;have jP:=hide m8;have ih:=hide t1;have sT:Hid (c.R<aj.heap.size):=ed;clear t1
 cases T:MO c.l F.sg d (i+1) with
 | out=>
  exact Qe
 | bad er p=>
  have A{G}(h:G:=by
  have A{G}(h:G:=by
  have A{G}(h:G:=by
  intro e w' ae;obtain⟨rfl,aa⟩:=ae;exact⟨rfl,O3 aF.out.symm (jP.out.next aa)⟩):=LG h;exact aAV):=LG h;exact alF):=LG h;exact aBM
 | ok t j=>
  have A{G}(h:G:=by
  have A{G}(h:G:=by
  have A{G}(h:G:=by
  have A{G}(h:G:=by
  have b7:=hide (jP.out.next aa);have cd:=hide aY;have dO:=hide (TD eH jP.out.size);have f':=hide ((aa.block _ (lt_of_heap ih.out) (by have:=Lu sT;omega)).trans ih.out)
  refine U.out _ _ f'.out (λ_=>?_);clear U K;refine UK 6 λK U=>?_;go_simp;have dw:=hide ((zalaa w1 (.cells #[LC ep] 22) _ (lt_of_heap f'.out)).trans f'.out);refine U.out _ _ dw.out (λ_=>?_);clear U K;refine UK 7 λK U=>?_;go_simp;refine cm (Oi x.kd LH (.slice (some (LD w1.heap.size 0)) 1 1) (w1.alloc (.cells #[LC ep] 22)) ⟨_,_,_,rfl⟩) ?_;rintro e d0 ⟨rfl,rfl⟩
  have iJ:=hide ((zalaa (w1.alloc (.cells #[LC ep] 22)) (MB x.kd LH 0 (.slice (some (LD w1.heap.size 0)) 1 1)) _ (lt_of_heap dw.out)).trans dw.out);refine U.out _ _ iJ.out (λ_=>?_);clear U K;refine wh 8 (LC (w1.alloc (.cells #[LC ep] 22)).heap.size) iJ.out ?_;refine XY ?_;go_wp2;go_ret;obtain⟨bZ,cf,cx⟩:=made cd.out b7.out (LU.cons dO.out LU.nil) (by simp[maxLen]) #[LC ep] rfl 1 rfl x.kd LH (w1.heap.size+1) rfl;exact RF aF.out.symm bZ.nv cf cx):=LG h;exact ad6):=LG h;exact aAV):=LG h;exact zsz):=LG h;exact aBM):=LG h;exact TL
def aiT (ai:FC c F)(c':Does c 303 NV (Rt c.l F)):Does c 292 NV (QS c.l F):=by
 intro w d i r W ay h;unfold QS at W
 cases hg:SA 1 (fx c.l i) with
 | none=>rw[hg] at W;exact agX c' w d i r hg W ay h
 | some x=>rw[hg] at W;exact agY ai w d i x r hg W ay h
end
def aoI {c:Ctx}{F:OQ}(ai:FC c F)(aN:∃ k,VW c.l k F)(b:Int)(w:LK)(d i:Nat)(r:PR Tr)(W:UO c.l F b d i=r)(ay:r≠.out)(h:Ol c w i d):MC 281 #[Nz c,LJ b] w (OV c w d (NV w.heap.size) r):=by
 have cG:=hide h.base.ends;have cQ:=hide h.base.len;have gV:=hide aN;have nu:=hide ai;clear aN;have A{G}(h:G:=by
 have a1:=hide h.SB;unfold UO at W;have aF:=hide W;have bb:=hide ay;clear h W ay;go_enter func281,ntmps281
 cases T:F.sg d i with
 | out=>
  exact Qe
 | bad er p=>
  have ag:=hide (ai.sg w d i _ rfl (by rw[T];nofun) cO.out)
  exact Ze
 | ok dg bH=>
  have ag:=hide (ai.sg w d i _ rfl (by rw[T];nofun) cO.out)
  have A{G}(h:G:=by
  have A{G}(h:G:=by
  have A{G}(h:G:=by
  clear aa;go_wp2_with fail
  go_loopw [5] (λv wr=>∃ k t j p,v=LC p/\OY c.l F b d k t j=r/\Ol c wr j d/\Ap c.R w.heap.size w wr/\Nj (From w.heap.size) wr t p) (λ_ wr=>c.l.length - nxt c wr)
  case atStart=>exact⟨F.fuel,dg,bH,ep,rfl,aF.out,cd.out,b7.out,dO.out⟩
  case round=>
   obtain⟨k,t,j,bq,rfl,ac,aY,dq,hT⟩:=hrel
   cases k with
   | zero=>exact absurd ac.symm bb.out
   | succ k=>
    have bX:=hide aY;have nK:=hide aY;have bR:=hide dq;have fw:=hide hT;have hj:=aY.lt;have bm:=Lu cQ;unfold OY at ac
    cases du:SA 2 (fx c.l j) with
    | none=>
     rw[du] at ac;have aG:=hide ac;have go:=hide du;clear ac du;have ag:=hide (UU c 2 wr j d bX.out);rw[go.out] at ag;simp only[ad4,aiq,Option.isSome] at ag;have A{G}(h:G:=by
     have A{G}(h:G:=by
     replace fw:=hide (QE fw.out (Ap.of (O4.alloc Nh (.cells #[U7,LJ 0,LJ 0,LJ 0] 189))) a1.out);go_wp2;go_ret;exact RF aG.out.symm ⟨bq,rfl,fw.out⟩ oN.out pG.out):=LG h;exact aAa):=LG h;exact aun
    | some x=>
     rw[du] at ac
     dsimp only at ac
     have go:=hide du;have ak:=Y2 cG.out hj du;obtain⟨m8,Ky⟩:=sg2 du;clear du
     by_cases dE:x.str<b
     ·rw[zalak dE] at ac;have aG:=hide ac;clear ac;have ag:=hide (UU c 2 wr j d bX.out);rw[go.out] at ag;simp only[ad4,sgV,Option.isSome] at ag;have A{G}(h:G:=by
      have A{G}(h:G:=by
      replace fw:=hide (QE fw.out (Ap.of (O4.alloc Nh (.cells #[LQ x.tx,LJ x.kd,LJ x.parts,LJ x.str] 189))) a1.out);go_wp2;go_ret;exact RF aG.out.symm ⟨bq,rfl,fw.out⟩ oN.out pG.out):=LG h;exact aBA):=LG h;exact aun
     ·rw[zalah dE] at ac;have aG:=hide ac;clear ac;have ag:=hide (UU c 2 wr j d bX.out);rw[go.out] at ag;simp only[ad4,sgV,Option.isSome] at ag;have A{G}(h:G:=by
      have eU:=j'.out.c1;have rY:=j'.out.fz;have ed:=j'.out.SB;obtain⟨jk,H6,t1⟩:=abq x j'.out mE.out ak;have ea:=hide jk;have jP:=hide H6;have ih:=hide t1;have sT:Hid (c.R<aj.heap.size):=ed;replace fw:Hid (Nj (From w.heap.size) (((aj.setCell (LD c.R 1) (LJ ((j:Int)+1))).alloc (.cells #[LQ x.tx,LJ x.kd,LJ x.parts,LJ x.str] 189)).drew) t bq):=QE (c:=c) fw.out ⟨rfl,rfl,rfl,by simp,λk N Ho=>by
       show ((aj.setCell (LD c.R 1) (LJ ((j:Int)+1))).alloc (.cells #[LQ x.tx,LJ x.kd,LJ x.parts,LJ x.str] 189)).heap[k]? = _
       rw[zalaa _ _ k (by simpa using N),zalap aj (LD c.R 1) _ k Ho]⟩ a1.out
      clear t1
      cases T:F.pr (x.str+1) d (j+1) with
      | out=>
       exact atO
      | bad er p=>
       have A{G}(h:G:=by
       rw[T] at ag aG;simp only[Oc] at aG;have A{G}(h:G:=by
       intro e w' ae;obtain⟨rfl,aa⟩:=ae;exact⟨rfl,O3 aG.out.symm (jP.out.next aa)⟩):=LG h;exact aAi):=LG h;exact aBt
      | ok u a8=>
       have A{G}(h:G:=by
       have hR:j+1<a8:=by
        obtain⟨jl,cA⟩:=Lu gV;exact((cA.pr (x.str+1) d (j+1) ak).2 u a8 T).1
       rw[T] at ag aG;simp only[bind_ok] at aG;have A{G}(h:G:=by
       have A{G}(h:G:=by
       have b7:=hide (jP.out.next aa);have cd:=hide aY;have hi:=aY.lt;replace fw:=hide (Zg fw.out aa a1.out jP.out.size eH);have f':=hide ((aa.block _ (lt_of_heap ih.out) (by have:=Lu sT;omega)).trans ih.out)
       clear aa;refine U.out _ _ f'.out (λ_=>?_);clear U K;refine UK 8 λK U=>?_;go_simp;have dw:=hide ((zalaa w1 (.cells #[LC bq,LC ep] 22) _ (lt_of_heap f'.out)).trans f'.out);refine U.out _ _ dw.out (λ_=>?_);clear U K;refine UK 9 λK U=>?_;go_simp;refine cm (Oi x.kd LH (.slice (some (LD w1.heap.size 0)) 2 2) (w1.alloc (.cells #[LC bq,LC ep] 22)) ⟨_,_,_,rfl⟩) ?_;rintro e d0 ⟨rfl,rfl⟩
       have iJ:=hide ((zalaa (w1.alloc (.cells #[LC bq,LC ep] 22)) (MB x.kd LH 0 (.slice (some (LD w1.heap.size 0)) 2 2)) _ (lt_of_heap dw.out)).trans dw.out);refine U.out _ _ iJ.out (λ_=>?_);clear U K;refine wh 10 (LC (w1.alloc (.cells #[LC bq,LC ep] 22)).heap.size) iJ.out ?_;refine XY ?_;obtain⟨bZ,cf,cx⟩:=made cd.out b7.out fw.out (by simp[maxLen]) #[LC bq,LC ep] rfl 2 rfl x.kd LH (w1.heap.size+1) rfl;obtain⟨qU,j0,ix⟩:=bZ.nv;have gL:qU=w1.heap.size+1:=by simpa[LC] using j0.symm
       subst gL;have fL:=hide ix;have f4:=hide cf;have hL:=hide cx;clear j0;go_wp2
       go_roundw
       case rel=>exact⟨k,.mk x.kd LH 0 [t,u],a8,w1.heap.size+1,rfl,aG.out,f4.out,hL.out,fL.out⟩
       case measure=>rw[TG f4.out,TG nK.out];omega):=LG h;exact ad6):=LG h;exact aAi):=LG h;exact aBt):=LG h;exact aun):=LG h;exact auU):=LG h;exact ad6):=LG h;exact WC):=LG h;exact TL
def PU {α β:Type}{r:PR α}{f:α->Nat->PR β}{y:β}{j:Nat}(h:r.bind f=.ok y j):∃ x i,r=.ok x i/\f x i=.ok y j:=by
 cases r with
 | ok x i=>exact⟨x,i,rfl,h⟩
 | bad er p=>cases h
 | out=>cases h
def afW {s:LW}:Oq s≠15:=by
 unfold Oq Np
 cases an:hds.find? (λe=>decide (s=e.1)) with
 | none=>decide
 | some e=>
  have aA:=zalbc an;simp only[hds,zalas,zalcw,zalfb] at aA
  rcases aA with rfl|rfl|rfl|rfl|rfl|rfl|rfl|rfl <;> decide
def ag0 {l:List Tk}{F:OQ}{kd:Int}{s:LW}{d i j:Nat}{t:Tr}(h:PI l F kd s d i=.ok t j):t.kd=kd:=by
 unfold PI at h;have A{G}(h:G:=by
 cases h;rfl):=LG h;exact aio
def akh {l:List Tk}{F:OQ}{d q i j:Nat}{t:Tr}(h:VH l F d q i=.ok t j):t.kd≠15:=by
 unfold VH at h
 split at h
 ·unfold UA at h;obtain⟨_,_,_,h⟩:=PU h
  split at h
  ·
   cases h
  ·split at h
   ·exact atJ
   ·obtain⟨_,_,_,h⟩:=PU h
    cases h;exact afW
 ·unfold VF at h;have A{G}(h:G:=by
  rw[ag0 h];decide):=LG h;exact aio
 ·unfold MV at h;have A{G}(h:G:=by
  cases h
  show (6:Int)≠15
  decide):=LG h;exact aio
 ·obtain⟨_,_,_,h⟩:=PU h
  cases h;decide
 ·unfold Qp at h;have A{G}(h:G:=by
  split at h
  ·obtain⟨_,_,_,h⟩:=PU h
   cases h;exact afW
  ·
   cases h;exact afW):=LG h;exact aio
 ·unfold Pj at h;exact atJ
 ·unfold Qm at h
  split at h
  ·exact atJ
  ·obtain⟨_,_,_,h⟩:=PU h
   cases h;exact afW
 ·unfold Qy at h;have A{G}(h:G:=by
  have A{G}(h:G:=by
  split at h
  ·
   cases h
  ·
   cases h
   show (12:Int)≠15
   decide):=LG h;exact aio):=LG h;exact aio
def aip (l:List Tk):∀ k,ZK (fns l k):=by
 intro k
 cases k with
 | zero=>intro d i t j h;cases h
 | succ k=>
  intro d i t j h eX;have cH:O1 l (fns l k) d i=.ok t j:=h;unfold O1 at cH
  split at cH
  ·exact absurd eX (akh cH)
  ·exact aza
def ag1 {c:Ctx}{F:OQ}(ai:FC c F)(aN:∃ k,VW c.l k F):Does c 170 NV (Qy c.l F):=by
 intro w d i r W ay h;unfold Qy at W
 cases aA:MG c.l Uu i with
 | out=>rw[aA] at W;exact absurd W.symm ay
 | bad er p=>rw[aA,Oc] at W;subst W;exact aGO w d i h er p aA
 | ok x a6=>
  rw[aA,bind_ok] at W
  cases D:MV c.l F d a6 with
  | out=>rw[D] at W;exact absurd W.symm ay
  | bad er p=>rw[D,Oc] at W;subst W;exact aGN ai aN w d i a6 h aA er p D
  | ok b az=>
   rw[D,bind_ok] at W;unfold QX at W
   by_cases am:fx c.l az=Qv
   ·rw[zalak am,zalfL] at W
    cases O:MG c.l NZ (az+1) with
    | out=>rw[O] at W;exact absurd W.symm ay
    | bad er p=>rw[O,Oc] at W;subst W;exact aav ai aN w d i a6 h aA b az D am er p (zalad O)
    | ok gA aX=>
     rw[O,bind_ok,zalfL] at W
     cases ao:nameP c.l aX with
     | out=>rw[ao] at W;exact absurd W.symm ay
     | bad er p=>rw[ao,Oc] at W;subst W;exact aav ai aN w d i a6 h aA b az D am er p (zalal ⟨aX,O,zalad ao⟩)
     | ok s ca=>
      rw[ao,bind_ok,zalfL] at W
      cases aM:MG c.l OX ca with
      | out=>rw[aM] at W;exact absurd W.symm ay
      | bad er p=>rw[aM,Oc] at W;subst W;exact aav ai aN w d i a6 h aA b az D am er p (zalal ⟨aX,O,zalal ⟨s,ca,ao,zalad aM⟩⟩)
      | ok IJ gi=>
       rw[aM,bind_ok,zalfL] at W
       cases bw:MV c.l F d gi with
       | out=>rw[bw] at W;exact absurd W.symm ay
       | bad er p=>rw[bw,Oc] at W;subst W;exact aav ai aN w d i a6 h aA b az D am er p (zalal ⟨aX,O,zalal ⟨s,ca,ao,zalal ⟨gi,aM,bw⟩⟩⟩)
       | ok a' ff=>
        rw[bw,bind_ok,bind_ok] at W;unfold Oh at W
        by_cases an:fx c.l ff=Ox
        ·rw[zalak an,zalfL] at W
         cases h6:MV c.l F d (ff+1) with
         | out=>rw[h6] at W;exact absurd W.symm ay
         | bad er p=>rw[h6,Oc] at W;subst W;exact aiW ai aN w d i a6 h aA b az D am aX O s ca ao gi aM a' ff bw an er p h6
         | ok cV my=>
          rw[h6,bind_ok,bind_ok,zalah MP] at W;subst W;exact arS ai aN w d i a6 h aA b az D am aX O s ca ao gi aM a' ff bw an cV my h6
        ·rw[zalah an,bind_ok,zalah MP] at W;subst W;exact aoL ai aN w d i a6 h aA b az D am aX O s ca ao gi aM a' ff bw an
   ·rw[zalah am,bind_ok] at W;unfold Oh at W
    by_cases an:fx c.l az=Ox
    ·rw[zalak an,zalfL] at W
     cases h6:MV c.l F d (az+1) with
     | out=>rw[h6] at W;exact absurd W.symm ay
     | bad er p=>rw[h6,Oc] at W;subst W;exact amm ai aN w d i a6 h aA b az D am an er p h6
     | ok cV my=>
      rw[h6,bind_ok,bind_ok,zalah MP] at W;subst W;exact avQ ai aN w d i a6 h aA b az D am an cV my h6
    ·rw[zalah an,bind_ok,zalak MP] at W;subst W;exact arR ai aN w d i a6 h aA b az D am an
def aEE:TM 163:=λ_ _=>by kernel_rfl
def aEF:TM 164:=λ_ _=>by kernel_rfl
def aEG:TM 165:=λ_ _=>by kernel_rfl
def aEH:TM 166:=λ_ _=>by kernel_rfl
def aEI:TM 167:=λ_ _=>by kernel_rfl
def aEJ:TM 168:=λ_ _=>by kernel_rfl
def aEK:TM 169:=λ_ _=>by kernel_rfl
def aEL:TM 170:=λ_ _=>by kernel_rfl
def aEM {s:LW}{q:Nat}(h:Np PG s=some q):q<8:=by
 unfold Np at h
 cases an:PG.find? (λe=>decide (s=e.1)) with
 | none=>rw[an] at h;cases h
 | some e=>
  rw[an] at h;have aA:=zalbc an;simp only[zalgj,zalbw] at h;subst h;simp only[PG,zalas,zalcw,zalfb] at aA
  rcases aA with rfl|rfl|rfl|rfl|rfl|rfl|rfl|rfl|rfl|rfl|rfl|rfl <;> decide
def aEN {c:Ctx}{w:LK}{d:Nat}{r:PR Tr}{e:Ending}{w':LK}(h:OV c w d (EV w.heap.size) r e w'):OV c w d (NV w.heap.size) r e w':=by
 cases r with
 | ok x j=>
  obtain⟨⟨v,E,O⟩,ao,aM⟩:=h;exact⟨⟨v,E,O.nv⟩,ao,aM⟩
 | bad er p=>exact h
 | out=>exact h
def aci {c:Ctx}{F:OQ}(ai:FC c F)(aN:∃ k,VW c.l k F)(U:ZK F):Does c 176 NV (O1 c.l F):=by
 intro w d i r W ay h;unfold O1 at W
 cases ac:Np PG (fx c.l i) with
 | none=>rw[ac] at W;exact arL ai w d i r W ay ac h
 | some q=>
  rw[ac] at W;have aC:=aEM ac;have lI:(MJ c.l i).kd≠6:=λh6=>by
   have:fx c.l i=LH:=by unfold fx;rw[h6];rfl
   have aJ:Np PG LH=none:=by decide
   rw[this,aJ] at ac;cases ac
  have dp:q=0\/q=1\/q=2\/q=3\/q=4\/q=5\/q=6\/q=7:=LM
  rcases dp with rfl|rfl|rfl|rfl|rfl|rfl|rfl|rfl
  ·exact Vj 163 aEE w d i r ay 0 ac rfl (λL aO=>aoK ai L d i r lI W ay aO) h
  ·exact Vj 164 aEF w d i r ay 1 ac rfl (λL aO=>aoH ai aN U L d i r W ay aO) h
  ·exact Vj 165 aEG w d i r ay 2 ac rfl (λL aO=>(QA ai aN L d i r W ay aO).mono λe w' ae=>aEN ae) h
  ·exact Vj 166 aEH w d i r ay 3 ac rfl (λL aO=>empty_any L d i r W ay aO) h
  ·exact Vj 167 aEI w d i r ay 4 ac rfl (λL aO=>aiU ai L d i r lI W ay aO) h
  ·exact Vj 168 aEJ w d i r ay 5 ac rfl (λL aO=>(Yb ai L d i r lI W ay aO).mono λe w' ae=>aEN ae) h
  ·exact Vj 169 aEK w d i r ay 6 ac rfl (λL aO=>aiV ai L d i r lI W ay aO) h
  ·exact Vj 170 aEL w d i r ay 7 ac rfl (λL aO=>ag1 ai aN L d i r W ay aO) h
def aov (c:Ctx)(a3:Ends c.l):∀ k,FC c (fns c.l k):=by
 intro k
 induction k with
 | zero=>exact⟨λ_ _ _ r W ay _=>absurd W.symm ay,λ_ _ _ r W ay _=>absurd W.symm ay,λ_ _ _ _ _ _ r W ay _=>absurd W.symm ay,λ_ _ _ r W ay _=>absurd W.symm ay⟩
 | succ k aU=>
  have aN:∃ q,VW c.l q (fns c.l k):=⟨k,aij a3 k⟩;exact⟨aci aU aN (aip c.l k),amj aU,λb _ _ w d i r W ay h=>aoI aU aN b w d i r W ay h,aiT aU (aml aU aN (aip c.l k))⟩
def aos (B:Nat)(t:Tr)(p:Nat)(w:LK)(h:Nj (From B) w t p)(am:t.count<=90000) :
  MC 44 #[LC p] w λe w'=>e=MN (LJ (t.count:Int))/\LX w w':=by
 have iv:=aaS;have av:Nj (λx=>x≠w.heap.size) (w.alloc (.cells #[LJ 0] 3)) t p:=
  Nj.later (I:=λx=>x≠w.heap.size) (λb _ ab=>zalaa w _ b ab) _ _ (Nj.mono (λb _ ab=>by omega) _ _ h)
 have gc:Cnt w.heap.size 0 (w.alloc (.cells #[LJ 0] 3)):=⟨LP _ _⟩;have ag:=hide (walk_any w.heap.size t.count t Nh p 0 _ av gc LM);clear h am;go_enter func44,ntmps44;go_wp2_with fail;refine NJ ?_;rintro e w1 ⟨rfl,eU,fo⟩;have c0:w1.cell? (LD w.heap.size 0)=some (LJ (((0+t.count:Nat)):Int)):=by rw[cell_of eU.blk];rfl
 rw[zalda] at c0;have aV:Hid (LX w w1):=(O4.alloc Nh (.cells #[LJ 0] 3)).trans ((fo.mono MP).below Nh);go_wp2;go_ret;exact⟨rfl,aV.out⟩
inductive PaR where
 | ok (t:Tr)
 | at (er:Int) (p:Nat)
 | bare
abbrev KK:Nat:=24100
def UM (aj bi:List LW)(s:LW):PaR:=
 if 3000<s.size then .bare
 else match Pn aj bi s (MH O8 s 0) [] with
  | .bad er p=>.at er p
  | .ok l=>match PZ l (fns l KK) with
   | .bad er p=>.at er p
   | .ok t _=>if 1500<t.count then .bare else .ok t
   | .out=>.bare
def YW (r:PaR)(w:LK)(e:Ending)(w':LK):Prop:=
 match r with
 | .ok t=>∃ p,e=MN (.tuple #[LC p,.nilIface])/\Nj (From w.heap.size) w' t p/\LX w w'
 | .at er pl=>∃ b,e=MN (.tuple #[.pointer none,.iface 144 (Mc b 0)])/\w'.heap[b]? = some (NK #[LJ er,LJ (pl:Int)] 145)/\w.heap.size<=b/\LX w w'
 | .bare=>e=MN (.tuple #[.pointer none,.iface 31 (LJ 4)])/\LX w w'
def aot {aj bi:List LW}{s:LW}{k:Nat}{kd n:Int}{tx:LW}{e:Nat}(h:Oe aj bi s k=.tok kd tx n e):kd≠6:=by
 unfold Oe at h
 split at h
 ·unfold QG at h
  split at h
  ·
   cases h;decide
  ·split at h
   ·
    cases h
   ·
    cases h;decide
 ·split at h
  ·unfold rdNum at h
   split at h
   ·
    cases h
   ·split at h
    ·
     cases h
    ·split at h
     ·
      cases h
     ·
      cases h;decide
  ·split at h
   ·unfold rdStr at h
    split at h
    ·split at h
     ·
      cases h
     ·
      cases h;decide
    ·
     cases h
   ·unfold RG at h
    split at h
    ·
     cases h;decide
    ·
     cases h
def al7 (aj bi:List LW)(s:LW)(hQ:∀ g ∈ bi,1<=g.size):∀ m i au l,s.size - i=m->i<=s.size->Pn aj bi s i au=.ok l ->
  ∃ pu,l=au++pu++[⟨6,⟨#[]⟩,0,s.size⟩]/\(∀ t ∈ pu,t.kd≠6)/\pu.length<=s.size - i:=by
 intro m
 induction m using Nat.strongRecOn with
 | ind m aU=>
  intro i au l aA ak h
  by_cases aC:i<s.size
  ·
   cases T:Oe aj bi s i with
   | bad er p=>rw[Tc aj bi s i au er p aC T] at h;cases h
   | tok kd tx n e=>
    have A{G}(h:G:=by
    obtain⟨pu,E,O,ao⟩:=aU (s.size - MH O8 s e) LM (MH O8 s e) _ l rfl dE h;refine⟨⟨kd,tx,n,i⟩::pu,by rw[E];simp,λt aH=>?_,by simp;omega⟩
    rcases zalas.1 aH with rfl|aH
    ·exact aot T
    ·exact O t aH):=LG h;exact auw
  ·rw[UG aj bi s i au aC] at h;exact⟨[],by cases h;simp,λt aH=>absurd aH MP,by simp⟩
def Zm {aj bi:List LW}{s:LW}(hQ:∀ g ∈ bi,1<=g.size){l:List Tk}(h:Pn aj bi s (MH O8 s 0) []=.ok l):Ends l/\0<l.length/\l.length<=s.size+1:=by
 obtain⟨pu,E,O,ao⟩:=al7 aj bi s hQ _ (MH O8 s 0) [] l rfl (QV O8 s 0 (zalae _)) h;rw[zalbq] at E;subst E;refine⟨λi ak=>?_,by simp,by simp;omega⟩
 rw[zalab,zalbm] at ak;unfold MJ;rw[zalay,zalab,zalbm]
 by_cases o7:i<pu.length
 ·rw[zalfm o7,zalai o7];constructor
  ·intro h6;exact absurd h6 (O _ (zalao o7))
  ·intro h6;omega
 ·have n8:i=pu.length:=LM;subst n8;rw[zalds Nh,Nat.sub_self];simp
section
variable {l:List Tk} {k:Nat} {F:OQ} (ai:VW l k F)
include l k F ai
def ZI (N:8 * l.length+3<k):∀ n au i,i<l.length->l.length - i<n->Oa l F n au i≠.out:=by
 intro n
 induction n with
 | zero=>intro au i ak av;omega
 | succ n aU=>
  intro au i ak av;unfold Oa
  split
  ·nofun
  ·have aD:=Pm (l:=l) (d:=0) ((ai.st (0+1) i ak).imp (q':=True) (λ_=>by omega))
   cases T:MO l F.st 0 i with
   | out=>exact absurd T (aD.1 trivial)
   | bad er p=>rw[PR.bind];nofun
   | ok t j=>
    have:=aD.2 t j T;exact aU _ j this.2 LM
def ZJ:∀ n au i ts j,i<l.length->Oa l F n au i=.ok ts j->j<l.length:=by
 intro n
 induction n with
 | zero=>intro au i ts j _ h;cases h
 | succ n aU=>
  intro au i ts j ak h;unfold Oa at h
  split at h
  ·
   cases h;exact ak
  ·obtain⟨t,bH,E,h⟩:=PU h;exact aU _ bH _ _ ((Pm (l:=l) (d:=0) (ai.st (0+1) i ak)).2 t bH E).2 h
end
def Wh {l:List Tk}(a3:Ends l)(aJ:0<l.length)(ab:l.length<=3001):PZ l (fns l KK)≠.out/\∀ t j,PZ l (fns l KK)=.ok t j->j<l.length:=by
 have ai:=aij a3 KK;have E:=ZI ai (by unfold KK;omega) (fns l KK).fuel [] 0 aJ (by rw[ai.fuel];unfold KK;omega)
 unfold PZ;constructor
 ·
  cases T:Oa l (fns l KK) (fns l KK).fuel [] 0 with
  | out=>exact absurd T E
  | bad er p=>nofun
  | ok ts j=>nofun
 ·intro t j h;obtain⟨ts,bH,O,h⟩:=PU h;cases h;exact ZJ ai _ _ _ _ _ aJ O
def aa2 {B:Nat}{w:LK}{g n cap:Nat}{ps:List Nat}(h:w.ownsRow B 22 1 (.slice (some (LD g 0)) n cap) n (ps.map LC)):∀ j u,(ps.map LC)[j]? = some u->w.cell? (((LD g 0):Addr).add j)=some u:=ayF
def af7 (bf:List Nat):∀ u ∈ bf.map LC,u.oneCell'=true:=by
 intro u aS;obtain⟨q,_,rfl⟩:=zalcn.1 aS;rfl
def aoF (w:LK)(p:Nat){B:Nat}(bA:B<=w.heap.size):(w.alloc (.cells #[LC p] 22)).ownsRow B 22 1 (.slice (some (LD w.heap.size 0)) 1 1) 1 [LC p]:=⟨rfl,zalal ⟨w.heap.size,1,#[LC p],rfl,bA,LP _ _,Nh,by decide,rfl,rfl⟩⟩
def amf (l:List Ad)(k:Nat)(N:k<l.length):Ad.Nv (l.take (k+1))=Ad.Nv (l.take k)++(l[k]).N9:=by
 rw[zalac N,Vu,Ad.Nv,Ad.Nv,zalba]
def abf {I:Nat->Prop}:∀ (m:Nat) (t:Ad),t.cnt<=m->∀ (w:LK),MZ I w t->t.cnt<=90000 ->
  MC 25 #[LC t.p] w λe w'=>(∃ v,e=MN v/\w'.ownsRow w.heap.size 22 1 v t.N9.length (t.N9.map LC))/\LX w w':=by
 intro m
 induction m with
 | zero=>intro t aH;have:=Ud t;omega
 | succ m aU=>
  intro t aH w hT eO;obtain⟨a6,b4,bL,bM,bP⟩:=zalbl info22;obtain⟨_,bF,_,_,v0,dR,hrow,_⟩:=hT.cells;have hlen:(t.ks.map Ad.p).length=t.ks.length:=zalag _;obtain⟨eq,uc,aS⟩:=NH hrow;subst aS;rw[hlen] at dR;have h5:=OA t;have ux:=hide (P9 t);have kH:=hide hT.parts;have fa:=hide hrow;have i4:=hide aU;have HLEN:=hide hlen;have gw:t.ks.length<=90000:=by have E:=P8 t.ks;omega
  have uE:Hid (∀ k (N:k<t.ks.length),(t.ks[k]).cnt<=m/\Ad.cnts (t.ks.take k)+(t.ks[k]).cnt<=90000):=λk N=>by
   have E:Ad.cnts t.ks=Ad.cnts (t.ks.take k)+Ad.cnts (t.ks.drop k):=by rw[<-Vw,zalcd]
   rw[zalbs N,Ad.cnts] at E;omega
  generalize t.p=p at dR bF ux ⊢
  clear aU aH eO hlen h5;go_enter func25,ntmps25;go_wp2_with fail
  go_loopw [3,15] (λo i wr=>∃ (k:Nat),k<=t.ks.length/\i=LJ k/\wr.ownsRow w.heap.size 22 1 o (p::Ad.Nv (t.ks.take k)).length ((p::Ad.Nv (t.ks.take k)).map LC)/\LX w wr) (λ_ i _=>t.ks.length - (intOf i).toNat)
  case atStart=>exact⟨0,zalae _,rfl,by simpa[Ad.Nv] using aoF w p Nh,Qn⟩
  case round=>
   obtain⟨k,N,rfl,hown,hbel⟩:=hrel;have HOWN:=hide hown;have cZ:=hide hbel;obtain⟨aQ,cc,rfl⟩:=NH hown
   by_cases aC:k<t.ks.length
   ·obtain⟨g,cap,a0,hcell⟩:=OB fa.out (by have:=Lu HLEN;omega)
    simp only[zalcb] at a0;obtain⟨rfl,ze,rfl⟩:=a0;clear ze;have iu:k<(t.ks.map Ad.p).length:=by rw[HLEN.out];exact aC
    have de:g<w.heap.size:=(Me fa.out g rfl).1;obtain⟨q,ac⟩:∃ q,q=(t.ks[k]).p:=⟨_,rfl⟩;have dU:wr.cell? (LD g k)=some (LC q):=by
     rw[cZ.out.cell (p:=(LD g k)) de,hcell k iu,zalcx,ac]
    have yn:=Lu uE k aC;have ag:=hide (i4.out t.ks[k] yn.1 wr (MZ.later (λb _ ab=>cZ.out.block b ab) _ (Lu kH _ (zalao aC))) LM);have co:=hide (amf t.ks k aC);rw[<-ac] at ag;have eY:(k:Int)<(t.ks.length:Int):=LM;have hD:(p::Ad.Nv (t.ks.take k)).length+(t.ks[k]).N9.length<=90001:=by rw[zalbf,Ad.WM,Ad.Qk];omega
    have gx:0<(t.ks[k]).N9.length:=by rw[Ad.Qk];exact Ud _
    generalize (t.ks[k]).N9=bQ at ag co hD gx
    obtain⟨mD,zi⟩:∃ mD,mD=p::Ad.Nv (t.ks.take k):=⟨_,rfl⟩;rw[<-zi] at HOWN hD ⊢;have xj:=hide zi;have cS:g<wr.heap.size:=zalau de cZ.out.size;clear hcell ac yn zi iu;go_wp2_with fail;refine NJ ?_;rintro e w2 ⟨⟨v,rfl,hown2⟩,a5⟩;have oM:Hid (w2.ownsRow w.heap.size 22 1 (.slice aQ mD.length cc) mD.length (mD.map LC)):=L8 (I:=λ_=>True) (λb _ ab=>a5.block b ab) (λ_ _=>trivial) HOWN.out;obtain⟨dn,cap2,rfl,jc,yu⟩:=hown2.form gx;have A{G}(h:G:=by
    go_wp2_with (at_builtin;refine wpList_append_lies _ rfl _ _ 46 rfl w.heap.size 22 a6 Pe 1 8 zalbk b4 bL bM bP rfl MK _ _ _ rfl oM.out (LD dn 0) bQ.length cap2 (bQ.map LC) rfl MP (aa2 w4.out) (af7 bQ) gx (by unfold maxLen;omega) LM hz2' _ rfl ?_)
    have A{G}(h:G:=by
    go_roundw
    case rel=>exact⟨k+1,by omega,by go_num,by rw[co.out,<-zalcq,<-xj.out,zalab,zalam];exact h2.out,bV.out⟩
    case measure=>simp[intOf];omega):=LG h;exact aCg):=LG h;exact aBx
   ·have cA:k=t.ks.length:=LM;subst cA;go_wp2;go_ret;have h:=Lu HOWN;rw[zalaq] at h;rw[ux.out];refine⟨⟨_,rfl,?_⟩,cZ.out⟩
    show wr.ownsRow w.heap.size 22 1 (.slice aQ (p::Ad.Nv (t.ks.take t.ks.length)).length cc) _ _
    rw[zalaq];exact h
section
open Go.ChangeMaps (setBlock)
def uns:List (LW × Int):=[(Z8,32),(SG,33),(SH,34)]
def WL:Array MapEntry:=mapOf (NY uns)
def asI (x:LW):(Np uns x).map (λk=>k)=(SA 1 x).map (·.kd):=by
 unfold Np uns
 by_cases E:x=Z8
 ·subst E;rfl
 ·by_cases O:x=SG
  ·subst O;rfl
  ·by_cases ao:x=SH
   ·subst ao;rfl
   ·have aW:SA 1 x=none:=by
     cases W:SA 1 x with
     | none=>rfl
     | some s=>
      unfold SA at W;rw[zaldu] at W;obtain⟨bC,dM⟩:=W;unfold Xx at bC;have iE:x=s.tx:=by simpa using zaldw bC
      have oq:=zalbc bC;have zA:s.parts=1:=by simpa using dM
      have key:∀ s ∈ YU,s.parts=1->s.tx=Z8\/s.tx=SG\/s.tx=SH:=by decide +kernel
      rcases key s oq zA with h|h|h
      ·exact absurd (iE.trans h) E
      ·exact absurd (iE.trans h) O
      ·exact absurd (iE.trans h) ao
    rw[aW];simp[E,O,ao]
def ao2 (L:LK):∃ bZ cf:Array MapEntry,
  (Instr.makeMap 89 none).run prog L=.ok (.map (some L.heap.size)) (L.alloc (.map #[] 0))
  /\ (Instr.mapUpdate 89 (.map (some L.heap.size)) (LQ Z8) (LJ 32)).run prog (L.alloc (.map #[] 0))=.ok () (L.alloc (.map bZ 1))
  /\ (Instr.mapUpdate 89 (.map (some L.heap.size)) (LQ SG) (LJ 33)).run prog (L.alloc (.map bZ 1))=.ok () (L.alloc (.map cf 2))
  /\ (Instr.mapUpdate 89 (.map (some L.heap.size)) (LQ SH) (LJ 34)).run prog (L.alloc (.map cf 2))=.ok () (L.alloc (.map WL 3))
  /\ (Instr.range 89 (.map (some L.heap.size))).run prog (L.alloc (.map WL 3))=.ok (Mc (L.heap.size+1) 0) ((L.alloc (.map WL 3)).alloc (.mapIter (some L.heap.size) 3 #[] 3)):=by
 refine⟨mapOf (NY (uns.take 1)),mapOf (NY (uns.take 2)),mkMap 89 L,?_,?_,?_,?_⟩
 ·exact NU 89 3 L [] Z8 _ 0 _ _ rfl rfl rfl zalbj rfl
 ·exact NU 89 3 L (NY (uns.take 1)) SG _ 1 _ _ rfl rfl rfl zalbj (by decide +kernel)
 ·exact NU 89 3 L (NY (uns.take 2)) SH _ 2 _ _ rfl rfl rfl zalbj (by decide +kernel)
 ·have:=run_range_map (P:=prog) (L.alloc (.map WL 3)) 89 9 3 L.heap.size WL 3 zalbj (LP _ _);rw[zalhk] at this;exact this
structure Itr (M:Nat)(seen:Array Nat)(L:LK):Prop where
 it:L.heap[M+1]? = some (.mapIter (some M) 3 seen 3)
 mp:L.heap[M]? = some (.map WL 3)
def amD (seen:Array Nat)(e:MapEntry)(he:e ∈ (leftOf WL seen).toList):(leftOf WL (seen.push e.born)).size<(leftOf WL seen).size:=by
 have E:leftOf WL (seen.push e.born)=(leftOf WL seen).filter (λx=>!(x.born==e.born)):=by
  unfold leftOf;rw[Array.filter_filter]
  congr 1
  funext x
  rw[Array.contains_push]
  cases (x.born==e.born) <;> cases seen.contains x.born <;> rfl
 rw[E]
 generalize leftOf WL seen=ah at he
 have O:(ah.filter (λx=>!(x.born==e.born))).toList=ah.toList.filter (λx=>!(x.born==e.born)):=zalgu;have ao:(ah.toList.filter (λx=>!(x.born==e.born))).length<ah.toList.length:=List.length_filter_lt_length_iff_exists.2 ⟨e,he,by simp⟩;rw[<-O] at ao;rw[zalek,zalek] at ao;exact ao
def ar0 {e:MapEntry}(h:e ∈ WL.toList):(e.key=LQ Z8/\e.val=LJ 32)\/(e.key=LQ SG/\e.val=LJ 33)\/(e.key=LQ SH/\e.val=LJ 34):=by
 have:WL.toList=[⟨LQ Z8,LJ 32,0⟩,⟨LQ SG,LJ 33,1⟩,⟨LQ SH,LJ 34,2⟩]:=rfl;rw[this] at h
 rcases zalas.1 h with rfl|h
 ·exact zalad ⟨rfl,rfl⟩
 rcases zalas.1 h with rfl|h
 ·exact zalal (zalad ⟨rfl,rfl⟩)
 rcases zalas.1 h with rfl|h
 ·exact zalal (zalal ⟨rfl,rfl⟩)
 cases h
def abz {seen:Array Nat}{e:MapEntry}(h:e ∈ (leftOf WL seen).toList):e ∈ WL.toList/\seen.contains e.born=false:=by
 unfold leftOf at h;rw[zalgu,zalcc] at h;exact⟨h.1,by simpa using h.2⟩
def ao3 {M:Nat}{seen:Array Nat}{L:LK}(h:Itr M seen L)(eD:TypeId) :
  ((leftOf WL seen).size=0/\(Instr.next (Mc (M+1) 0) false eD).run prog L=.ok (.tuple #[L9 false]) L) \/
  ∃ e ∈ (leftOf WL seen).toList,∃ X:LK,(Instr.next (Mc (M+1) 0) false eD).run prog L=.ok (.tuple #[L9 true,e.key,e.val]) X
   /\ (Instr.entry (Mc (M+1) 0)).run prog X=.ok (.tuple #[e.key,e.val]) X/\Itr M (seen.push e.born) X/\(∀ k,k≠M+1->X.heap[k]? = L.heap[k]?)/\X.os=L.os/\X.tape=L.tape/\X.output=L.output/\X.heap.size=L.heap.size:=by
 rcases run_next_at (P:=prog) L eD (M+1) M 3 3 seen WL 3 h.it h.mp (by decide +kernel) Nh with a2|⟨e,he,w1,hw,T⟩
 ·exact zalad a2
 ·refine zalal ⟨e,he,_,T,?_⟩;have ab:M+1<L.heap.size:=lt_of_heap h.it;have a9:∀ k,(setBlock w1 (M+1) (.mapIter (some M) 3 (seen.push e.born) 3)).heap[k]? = if k=M+1 then some (.mapIter (some M) 3 (seen.push e.born) 3) else L.heap[k]?:=by
   intro k
   rcases hw with rfl|rfl <;>
   ·unfold setBlock
    by_cases N:k=M+1
    ·subst N;simp[ab]
    ·rw[zalah N];simp[zalfi N] <;> rfl
  have cz:Itr M (seen.push e.born) (setBlock w1 (M+1) (.mapIter (some M) 3 (seen.push e.born) 3)):=⟨by rw[a9,zalak rfl],by rw[a9,zalah LM];exact h.mp⟩
  refine⟨run_entry_at _ (M+1) M 3 seen WL 3 e cz.it cz.mp (abz he).1 (by decide +kernel),cz,λk N=>by rw[a9,zalah N],?_,?_,?_,?_⟩
  ·rcases hw with rfl|rfl <;> rfl
  ·rcases hw with rfl|rfl <;> rfl
  ·rcases hw with rfl|rfl <;> rfl
  ·rcases hw with rfl|rfl <;> simp[setBlock]
end
def Ob {B B':Nat}{w:LK}{v:LY}{l:List LW}(h:Na B w v l)(bA:B'<=B):Na B' w v l:=ax3
abbrev ax4 (b:Nat):LY:=.func (.func 255) #[] #[Mc b 0]
def ax5:TM 255:=λ_ _=>by kernel_rfl
def ax6 (b B:Nat):∀ (m:Nat) (t:Tr),t.count<=m->∀ (p:Nat) (l:List LW) (w:LK),Nj (λx=>x<B/\x≠b) w t p->afG b B l w->l.length+t.count<=90000 ->
  MC 31 #[LC p,ax4 b] w λe w'=>e=MN (.tuple #[])/\afG b B (l++vw t) w'/\Ap b B w w':=by
 intro m
 induction m with
 | zero=>
  exact anP
 | succ m aU=>
  intro t aH p l w hT i9 eO;obtain⟨u,ps,hblk,hrow,hG,bd⟩:=hT.WT;have hlen:=LU.length _ _ bd;have yW:p<B/\p≠b:=by
   cases t with
   | mk kd tx kt ks=>rw[Nj] at hT;exact hT.1
  have A{G}(h:G:=by
  obtain⟨_,_,_,dR,_⟩:=node_cells hblk;obtain⟨eq,uc,aS⟩:=NH hrow;subst aS;have fW:=ax5;have iq:∀ L:LK,(binOp .eql 54 (ax4 b) .nilFunc).run prog L=.ok (L9 false) L:=λL=>by kernel_rfl
  have ag:=hide (alk i9 hT LM);have kH:=hide bd;have fa:=hide hrow;have pZ:=hide hG;have A{G}(h:G:=by
  have ju:=hide dR;have sN:=hide (lt_of_heap hblk);have rm:=hide yW;have HLEN:=hide hlen;have mL:=hide (asv t);have pU:Hid ((ownVar t).length<=1):=by show _<=_;unfold ownVar;split <;> simp
  clear hG aU g6 aH eO hblk dR yW hlen
  cases af:MF t with
  | true=>
   rw[af] at ag mL;clear af;have A{G}(h:G:=by
   have nw:=hide gd;have b7:=hide fo;go_wp2_with fail;exact Ug (v:=.tuple #[]) ⟨rfl,by rw[mL.out];simpa using nw.out,b7.out⟩):=LG h;exact aqd
  | false=>
   rw[af] at ag mL;clear af;have A{G}(h:G:=by
   have hv:=(fo.cell (p:=(LD p 3)) rm.out.1 rm.out.2).trans ju.out;rw[HLEN.out] at hv;have vX:p<w1.heap.size:=zalau sN.out fo.size;have nw:=hide gd;have b7:=hide fo;go_wp2_with fail
   go_loopw [23] (λi wr=>∃ k:Nat,k<=t.kids.length/\i=LJ k/\afG b B (l++ownVar t++WO (t.kids.take k)) wr/\Ap b B w wr) (λi _=>t.kids.length - (intOf i).toNat)
   case atStart=>exact⟨0,zalae _,rfl,by simpa[WO] using nw.out,b7.out⟩
   case round=>
    have A{G}(h:G:=by
    by_cases aC:k<t.kids.length
    ·obtain⟨g,cap,a0,hcell⟩:=OB fa.out (by rw[HLEN.out];omega)
     have A{G}(h:G:=by
     obtain⟨iu,mq⟩:=LU.get _ _ kH.out k aC;have g2:=Lu pZ g rfl;have dU:wr.cell? (LD g k)=some (LC ps[k]):=by
      rw[eP.out.cell (p:=(LD g k)) g2.1 g2.2];exact hcell k iu
     have oa:Nj (λx=>x<B/\x≠b) wr t.kids[k] ps[k]:=Nj.later (λx af ab=>eP.out.block x af.1 af.2) _ _ mq;have de:g<wr.heap.size:=zalau (Me fa.out g rfl).1 eP.out.size;have jh:=S9 t.kids k aC;have t0:=aaQ t.kids k aC;have qN:=VX (t.kids.take k);have E:=Lu lr;have O:=Lu re;have ao:=Lu hX;have aM:=Lu pU;have A{G}(h:G:=by
     have ag:=hide (i4.out t.kids[k] LM ps[k] _ wr oa ic.out (by rw[zalab,zalab];omega))
     have nY:=hide t0;have A{G}(h:G:=by
     clear hcell jh E O ao aM htot ac t0 qN;go_wp2_with fail;refine NJ ?_;rintro e w2 ⟨rfl,db,cI⟩;have b9:=hide db;have bR:=hide (eP.out.trans cI);clear dU;go_wp2
     go_roundw
     case rel=>exact⟨k+1,by omega,by go_num,by rw[nY.out,<-zalax];exact b9.out,bR.out⟩
     case measure=>simp[intOf];omega):=LG h;exact atz):=LG h;exact aqe):=LG h;exact Tf
    ·have cq:k=t.kids.length:=LM;subst cq;go_wp2
     go_end0
     refine⟨rfl,?_,eP.out⟩;have h:=Lu ic;rw[zalaq] at h;rw[mL.out,<-zalax];exact h):=LG h;exact aqf):=LG h;exact aqd):=LG h;exact aqg):=LG h;exact adW
def alm {p n c:Nat}{a:Option Addr}{w:LK}(am:w.cell? (LD p 3)=some (.slice a n c)):MC 257 #[LC p] w λe w'=>e=MN (.slice a n c)/\w'=w:=by
 go_enter func257,ntmps257;go_wp2;go_ret;exact⟨rfl,rfl⟩
def RV (t:Tr):List LW:=NI (WO t.kids)
def afH (t:Tr)(p:Nat)(w:LK)(h:VA w t p)(am:t.count<=80000) :
  MC 194 #[LC p] w λe w'=>(∃ u,e=MN u/\Na w.heap.size w' u (RV t))/\LX w w':=by
 have aN:Nj (λx=>x<w.heap.size) w t p:=Nj.mono (λb _ ab=>ab) _ _ h;obtain⟨ni,tZ⟩:∃ ni,ni=w.alloc (.cells #[QJ] 38):=⟨_,rfl⟩;have mn:LX w ni:=by rw[tZ];exact Qn
 have jH:ni.heap.size=w.heap.size+1:=by rw[tZ];simp
 have G7:afG w.heap.size (w.heap.size+1) [] ni:=⟨by omega,by omega,_,by rw[tZ];exact LP _ _,Ql _ _⟩
 have A{G}(h:G:=by
 obtain⟨u,ps,hblk,hrow,hG,bd⟩:=aN.WT;have hlen:=LU.length _ _ bd;obtain⟨eq,uc,aS⟩:=NH hrow;subst aS;obtain⟨_,_,_,dR,_⟩:=node_cells hblk;have dN:=hide (alm (w:=ni) (p:=p) ((zalar (w:=w) (a:=(LD p 3)) (mn.block p (lt_of_heap hblk))).trans dR));rw[hlen] at dN;have fa:=hide hrow;have kH:=hide bd;have gC:=hide mn;have E5:=hide jH;have D8:=hide G7;have lr:=hide g6;have z7:=hide am;have HLEN:=hide hlen;have fW:=ax5
 have gw:t.kids.length<=100000:=by have:=NG t.kids;omega
 clear h hG hblk dR g6 am hlen jH;go_enter func194,ntmps194;go_wp2_with fail;rw[<-tZ];refine cm dN.out ?_;rintro e w1 ⟨rfl,rfl⟩;clear tZ;go_wp2_with fail
 go_loopw [11] (λi wr=>∃ k:Nat,k<=t.kids.length/\i=LJ k/\afG w.heap.size (w.heap.size+1) (WO (t.kids.take k)) wr/\Ap w.heap.size (w.heap.size+1) w1 wr) (λi _=>t.kids.length - (intOf i).toNat)
 case atStart=>exact⟨0,zalae _,rfl,by simpa[WO] using D8.out,Ap.refl _ _ _⟩
 case round=>
  have A{G}(h:G:=by
  by_cases aC:k<t.kids.length
  ·obtain⟨g,cap,a0,hcell⟩:=OB fa.out (by rw[HLEN.out];omega)
   have A{G}(h:G:=by
   obtain⟨iu,mq⟩:=LU.get _ _ kH.out k aC;have de:g<w.heap.size:=(Me fa.out g rfl).1;have dU:wr.cell? (LD g k)=some (LC ps[k]):=by
    rw[eP.out.cell (p:=(LD g k)) (by show g<_;omega) (by show g≠_;omega),zalar (w:=w) (a:=(LD g k)) (gC.out.block g de)];exact hcell k iu
   have oa:Nj (λx=>x<w.heap.size+1/\x≠w.heap.size) wr t.kids[k] ps[k]:=
    Nj.mono (λx af _=>⟨by have E:x<w.heap.size:=af;omega,by have E:x<w.heap.size:=af;omega⟩) _ _ (Nj.later (I:=λx=>x<w.heap.size) (λx af ab=>(eP.out.block x (by have E:x<w.heap.size:=af;omega) (by have E:x<w.heap.size:=af;omega)).trans (gC.out.block x af)) _ _ mq)
   have Kc:g<wr.heap.size:=by have:=eP.out.size;have:=Lu E5;omega
   have jh:=S9 t.kids k aC;have t0:=aaQ t.kids k aC;have qN:=VX (t.kids.take k);have E:=Lu lr;have ao:=Lu z7;have A{G}(h:G:=by
   have ag:=hide (ax6 w.heap.size (w.heap.size+1) (t.kids[k]).count t.kids[k] Nh ps[k] _ wr oa ic.out LM);have nY:=hide t0;obtain⟨q,ac⟩:∃ q,q=ps[k]:=⟨_,rfl⟩;rw[<-ac] at dU ag;have eY:(k:Int)<(t.kids.length:Int):=LM;clear hcell jh E ao htot ac t0 qN;go_wp2_with fail;refine NJ ?_;rintro e w2 ⟨rfl,db,cI⟩;have b9:=hide db;have bR:=hide (eP.out.trans cI);clear dU;go_wp2
   go_roundw
   case rel=>exact⟨k+1,by omega,by go_num,by rw[nY.out];exact b9.out,bR.out⟩
   case measure=>simp[intOf];omega):=LG h;exact aqe):=LG h;exact Tf
  ·have cq:k=t.kids.length:=LM;subst cq;have hg:=Lu ic;rw[zalaq] at hg;obtain⟨_,b5,v,D,hown⟩:=hg;obtain⟨aQ,cc,rfl⟩:=LZ hown;have c0:wr.cell? (LD w.heap.size 0)=some (.slice aQ (WO t.kids).length cc):=by rw[cell_of D];rfl
   have gs:=lt_of_heap D;have cB:Hid (LX w wr):=gC.out.trans ((eP.out.mono LM).below Nh);have mx:=VX t.kids;have ag:=hide (afE (WO t.kids) _ wr hown (by have:=Lu lr;have:=Lu z7;omega))
   clear D mx;go_wp2_with fail;refine NJ ?_;rintro e w2 ⟨⟨u,rfl,T⟩,a5⟩;obtain⟨lY,pD,rfl⟩:=LZ T;have bX:=hide T;have bj:=hide (cB.out.trans (a5.mono cB.out.size));go_wp2;go_ret;exact⟨⟨_,rfl,Ob bX.out cB.out.size⟩,bj.out⟩):=LG h;exact aqf):=LG h;exact adW
def adX {P:Program}{w:LK}(base:Nat)(t eD e:TypeId)(i:TypeInfo)(size:Nat)(aH:P.underlying t=some (.slice e))(ak:P.info? e=some i)
  (v:LY) (n:Nat) (bQ:List LY) (hown:w.ownsRow base e size v n bQ) (ad:Option Addr) (k:Nat) :
  (Builtin.append_ #[t,t] eD #[v,.slice ad 0 k]).run P w=.ok v w:=ax7
def Rx {P:Program}{w:LK}{ops:Array Oper}{rest:List Oper}{o:Oper}{a:Act}{Q:Exit->Act->LK->Prop}(m3:o.guard=none)(s x:Operand)(t:TypeId)
  (ay:o.op=.call { callee:=.builtin .append,args:=#[s,x],argTypes:=#[t,t] })
  (base ww:Nat) (e:TypeId) (i:TypeInfo) (z:LY) (bytes:Nat) (aH:P.underlying t=some (.slice e)) (ak:P.info? e=some i) (b5:i.zero=some z)
  (hsize:i.size=1) (mZ:i.bytes=bytes) (po:z.cells.size=1)
  (v:LY) (n:Nat) (bQ:List LY) (W:a.eval s=v) (hown:w.ownsRow base e 1 v n bQ)
  (v2:LY) (m:Nat) (news:List LY) (af:a.eval x=v2) (hown2:w.ownsRow ww e 1 v2 m news) (E:∀ u ∈ news,u.oneCell'=true)
  (vp:n+m<=maxLen) (hbytes:(n+m) * bytes<=140737488355328) (hbase:base<=w.heap.size)
  (h:∀ b0 w',w'.ownsRow base e 1 b0 (n+m) (bQ++news)->w.grownBy w' v.ownBlock->wpList P ops Q rest (a.put o.dst b0) w'):wpList P ops Q (o::rest) a w:=by
 rcases Nat.eq_zero_or_pos m with rfl|aA
 ·have A{G}(h:G:=by
  refine wpList_plain m3 λK U=>?_;have A{G}(h:G:=by
  exact U _ _ N):=LG h;exact ax8):=LG h;exact ax9
 ·obtain⟨g,cap,rfl,_,_⟩:=hown2.form aA;refine wpList_append_lies w m3 s x t ay base e i z 1 bytes aH ak b5 hsize mZ po MK v n bQ W hown (LD g 0) m cap news af hown2.1 (λj u aT=>?_) E aA vp hbytes hbase _ rfl (λdJ cap' w' a b _ _=>h _ _ a b);exact aya
def namesT (t:Tr)(body:Bool):List LW:=NI ((if body then RV t else [])++(Tj t).map Tr.tx++(O0 t).map Tr.tx)
def Xp (t:Tr):(Tj t).length<=t.kids.length:=zalci _ _
def Rk (t:Tr):(O0 t).length<=t.kids.length:=zalci _ _
def VD (t:Tr):(RV t).length<=Tr.counts t.kids:=zalan (Qs _) (VX _)
def acI (t:Tr)(p:Nat)(body:Bool)(w:LK)(h:VA w t p)(am:t.count<=20000) :
  MC 113 #[LC p,L9 body] w λe w'=>(∃ u,e=MN u/\Na w.heap.size w' u (namesT t body))/\LX w w':=by
 obtain⟨a6,b4,bL,bM,bP⟩:=zalbl info9;have A{G}(h:G:=by
 have A{G}(h:G:=by
 unfold namesT;obtain⟨F,ai⟩:∃ F,F=(Tj t).map Tr.tx:=⟨_,rfl⟩;have JX:F.length<=20000:=by rw[ai,zalag];omega
 obtain⟨G,i9⟩:∃ G,G=(O0 t).map Tr.tx:=⟨_,rfl⟩;have JY:G.length<=20000:=by rw[i9,zalag];omega
 rw[<-ai,<-i9];have rc:=hide ai;have D':=hide i9;clear ai i9
 cases body with
 | true=>
  have jr:=hide (afH t p w h LM);clear h;simp only[zaleh];obtain⟨V,e6⟩:∃ V,V=RV t:=⟨_,rfl⟩;have B7:V.length<=20000:=by rw[e6];omega
  rw[<-e6] at jr ⊢;clear e6 g6 mx;have A{G}(h:G:=by
  go_wp2_with fail;refine cm jr.out ?_;rintro e w1 ⟨⟨u1,rfl,g4⟩,bz⟩;obtain⟨fM,c1,rfl⟩:=LZ g4;have ba:=hide bz;have dO:=hide (l9.out.later bz);have nU:=hide g4;have ag:=hide (acL t p w1 dO.out LM);exact ayb):=LG h;exact ayc
 | false=>
  refine aln ?_;obtain⟨V,e6⟩:∃ V:List LW,V=[]:=⟨_,rfl⟩;have B7:V.length<=20000:=by rw[e6];simp
  have ba:Hid (LX w w):=O4;have dO:Hid (VA w t p):=h;have nU:Hid (Na w.heap.size w QJ V):=by rw[e6];exact Ql _ _
  have uJ:Hid (∀ l,l=[]++F++G->l=V++F++G):=λl ab=>by rw[ab,e6]
  rw[Lu uJ _ rfl];clear h e6 g6 mx;have A{G}(h:G:=by
  have ag:=hide (acL t p w dO.out LM);exact ayb):=LG h;exact ayc):=LG h;exact ayd):=LG h;exact adW
def cell_lt {w:LK}{b o:Nat}{v:LY}(h:w.cell? (LD b o)=some v):b<w.heap.size:=axj
def Md {w X:LK}{b o:Nat}{v:LY}(D:LX w X)(h:w.cell? (LD b o)=some v):X.cell? (LD b o)=some v:=
 (zalar (w:=w) (a:=(LD b o)) (D.block b (cell_lt h))).trans h
abbrev ZA:LW:=⟨#[101,118,97,108]⟩
def MW (t:Tr):Bool:=(t.kd==1||t.kd==6)&&decide (t.tx=Nq)
def ZB (t:Tr)(p:Nat)(w:LK)(h:VA w t p):MC 118 #[LC p] w λe w'=>e=MN (L9 (MW t))/\w'=w:=by
 obtain⟨bF,c0,c1,_⟩:=h.cells;clear h;unfold MW
 generalize t.kd=kd at c0
 generalize t.tx=tx at c1
 by_cases O:tx=Nq
 ·have a4:=RX (b:=Nq) rfl O;rw[zalaz O];exact axk
 ·have a4:=RY (b:=Nq) rfl O;rw[zalaw O];exact axk
def need (kd:Int):Nat:=if kd=5\/kd=37\/kd=9 then 2 else if kd=13\/kd=24\/kd=34\/kd=35 then 1 else 0
def ar (kd:Int)(n:Nat):Nat:=if need kd<=n then 0 else 1
mutual
def Tr.ill:Tr->Nat
 | .mk kd _ _ ks=>ar kd ks.length+Tr.Vo ks
def Tr.Vo:List Tr->Nat
 | []=>0
 | t::ts=>t.ill+Tr.Vo ts
end
def O6 (kd:Int)(tx:LW)(n:Int)(ks:List Tr):(Tr.mk kd tx n ks).ill=ar kd ks.length+Tr.Vo ks:=by rw[Tr.ill]
def anG (kd:Int):need kd<=2:=by
 unfold need
 split
 ·omega
 ·split <;> omega
def aaO (kd:Int)(n:Nat)(h:2<=n):ar kd n=0:=by
 unfold ar;rw[zalak (zalan (anG kd) h)]
def afx {kd:Int}(h:need kd=0)(n:Nat):ar kd n=0:=by unfold ar;rw[h,zalak (zalae _)]
def NQ:Tr.Vo []=0:=by rw[Tr.Vo]
def Ns (t:Tr)(ts:List Tr):Tr.Vo (t::ts)=t.ill+Tr.Vo ts:=by rw[Tr.Vo]
def WW:∀ (ts ci:List Tr),Tr.Vo (ts++ci)=Tr.Vo ts+Tr.Vo ci
 | [],ci=>by rw[zalbq,NQ,zalda]
 | t::ts,ci=>by rw[zalcq,Ns,Ns,WW ts ci,zalen]
def afy (t:Tr):(Qg t).ill=t.ill:=by
 unfold Qg
 split
 ·rw[O6,O6]
 ·rfl
def anH {k:Int}{x:LW}{s:Sg}(h:SA k x=some s):s ∈ YU/\s.parts=k:=by
 unfold SA at h;have E:=zaldu.1 h;exact⟨zalbc E.1,by simpa using E.2⟩
def ap1 {x:LW}{s:Sg}(h:SA 0 x=some s):ar s.kd 0=0:=by
 have E:=anH h;have O:∀ s ∈ YU,s.parts=0->ar s.kd 0=0:=by decide +kernel
 exact O s E.1 E.2
def ap2 {x:LW}{s:Sg}(h:SA 1 x=some s):ar s.kd 1=0:=by
 have E:=anH h;have O:∀ s ∈ YU,s.parts=1->ar s.kd 1=0:=by decide +kernel
 exact O s E.1 E.2
def ajF {x:LW}{q:Nat}(h:Np PG x=some q)(ac:q≠5)(n:Nat):ar (Oq x) n=0:=by
 refine afx ?_ n;unfold Np at h
 cases an:PG.find? (λe=>decide (x=e.1)) with
 | none=>rw[an] at h;cases h
 | some e=>
  rw[an] at h;have E:=zalbc an;have ao:x=e.1:=by simpa using zaldw an
  have O:∀ e ∈ PG,e.2≠5->need (Oq e.1)=0:=by decide +kernel
  rw[ao];refine O e E ?_;cases h;exact ac
def axP {l:List Tk}{i q:Nat}(h:Np PG (fx l i)=some q):fx l i=(MJ l i).tx:=by
 unfold fx at h ⊢
 split
 ·rfl
 ·rename_i av
  rw[zalah av] at h;exact absurd h (by rw[show Np PG LH=none from by decide +kernel];nofun)
section
variable {l:List Tk}
def Kw (_:Nat)(r:PR Tr):Prop:=∀ t j,r=.ok t j->t.ill<=0
def SI {f:Nat->Nat->PR Tr}{d i:Nat}(h:Kw i (f (d+1) i)):Kw i (MO l f d i):=by
 unfold MO
 split
 ·intro t j e;cases e
 ·exact h
def afz {shut:LW}{begins:Nat->Bool}{part:Nat->PR Tr}(ae:∀ i,Kw i (part i)):∀ k au i t j,O5 l shut begins part k au i=.ok t j->Tr.Vo t<=Tr.Vo au:=by
 intro k
 induction k with
 | zero=>intro au i t j h;cases h
 | succ k aU=>
  intro au i t j h;unfold O5 at h
  split at h
  ·
   cases h
  ·obtain⟨u,az,E,h⟩:=binds h;have:=ae i u az E
   split at h
   ·
    cases h;rw[WW,Ns,NQ];first|omega | (simp[ar,need] <;> omega) | (simp[ar,need] at * <;> omega)
   ·obtain⟨_,aX,O,h⟩:=binds h;have ao:=N8 O;have aM:=aU _ _ _ _ h;rw[WW,Ns,NQ] at aM;exact afA
def adR {opn shut:LW}{begins:Nat->Bool}{part:Nat->PR Tr}(ae:∀ i,Kw i (part i)){k i j:Nat}{t:List Tr}(h:TP l opn shut begins part k i=.ok t j):Tr.Vo t<=0:=by
 unfold TP at h;obtain⟨_,az,E,h⟩:=binds h;have O:=N8 E
 split at h
 ·
  cases h;rw[NQ];first|omega | (simp[ar,need] <;> omega) | (simp[ar,need] at * <;> omega)
 ·have:=afz ae _ _ _ _ _ h;rw[NQ] at this;exact afA
structure FKw (F:OQ):Prop where
 st:∀ d i,Kw i (F.st d i)
 vl:∀ d i,Kw i (F.vl d i)
 pr:∀ b d i,Kw i (F.pr b d i)
 sg:∀ d i,Kw i (F.sg d i)
variable {F:OQ} (ai:FKw F)
include ai
def adS {d:Nat}:∀ k au i t j,NM l F d k au i=.ok t j->Tr.Vo t<=Tr.Vo au:=by
 intro k
 induction k with
 | zero=>intro au i t j h;cases h
 | succ k aU=>
  intro au i t j h;unfold NM at h;exact axQ
def WX {d i j:Nat}{t:Tr}(h:MV l F d i=.ok t j):t.ill<=0:=by
 unfold MV at h;obtain⟨_,az,E,h⟩:=binds h;obtain⟨ts,aX,O,h⟩:=binds h;cases h;have ao:=N8 E;have aM:=adS ai _ _ _ _ _ O;rw[NQ] at aM;rw[O6];first|omega | (simp[ar,need] <;> omega) | (simp[ar,need] at * <;> omega)
omit ai in
theorem anI (i:Nat):Kw i (Qw l i):=by
 intro t j h;unfold Qw at h;obtain⟨_,az,E,h⟩:=binds h;cases h;have:=Q7 E;rw[O6,NQ];first|omega | (simp[ar,need] <;> omega) | (simp[ar,need] at * <;> omega)
omit ai in
theorem alc {i j:Nat}{t:Tr}(h:Qc l F i=.ok t j):t.ill<=0:=by
 unfold Qc at h;obtain⟨ts,az,E,h⟩:=binds h;cases h;have:=adR anI E;rw[O6];first|omega | (simp[ar,need] <;> omega) | (simp[ar,need] at * <;> omega)
section
variable (d i:Nat)
include d i
def atr:Kw i (Y1 l F d i):=SI (ai.vl _ _)
def ap3:Kw i (Rq l F d i):=by
 intro t j h;unfold Rq at h;obtain⟨_,az,E,h⟩:=binds h;obtain⟨_,aX,O,h⟩:=binds h;obtain⟨u,ca,ao,h⟩:=binds h;cases h;have aW:=Q7 E;have a4:=N8 O;have bO:=SI (l:=l) (ai.vl _ _) u _ ao;rw[O6,Ns,NQ];first|omega | (simp[ar,need] <;> omega) | (simp[ar,need] at * <;> omega)
def aaP:Kw i (Px l F d i):=by
 have A{G}(h:G:=by
 cases h;have aW:=N8 E;have a4:=SI (l:=l) (ai.vl _ _) _ _ O;have bO:=N8 ao
 first|omega | (simp[ar,need] <;> omega) | (simp[ar,need] at * <;> omega)):=LG h;exact atn
def ald:Kw i (RP l F d i):=by
 intro t j h;unfold RP at h;obtain⟨ts,az,E,h⟩:=binds h;cases h;have:=adR (ap3 ai d) E;rw[O6];first|omega | (simp[ar,need] <;> omega) | (simp[ar,need] at * <;> omega)
end
def adT {kd:Int}{s:LW}{d i j:Nat}{t:Tr}(h:PI l F kd s d i=.ok t j):t.ill<=0:=by
 unfold PI at h;obtain⟨ps,az,E,h⟩:=binds h;obtain⟨b,aX,O,h⟩:=binds h;cases h;have aW:=alc E;have a4:=WX ai O;rw[O6,Ns,Ns,NQ,afy,aaO _ _ MP];omega
def ale (d i:Nat):Kw i (RQ l F d i):=by
 intro t j h;unfold RQ at h;obtain⟨_,az,E,h⟩:=binds h;have aW:=N8 E
 split at h
 ·obtain⟨_,aX,O,h⟩:=binds h;have a4:=Q7 O;have:=adT ai h;exact afA
 ·have:=adT ai h;exact afA
def ap4 (d i:Nat):Kw i (VF l F d i):=by
 intro t j h;unfold VF at h;obtain⟨_,az,E,h⟩:=binds h;obtain⟨_,aX,O,h⟩:=binds h;have aW:=N8 E;have a4:=Q7 O;have:=adT ai h;exact afA
def anJ (d i:Nat):Kw i (Qx l F d i):=by
 unfold Qx
 split
 ·exact aaP ai d i
 ·exact ald ai d i
 ·exact ale ai d i
 ·split
  ·rename_i du;intro t j h;cases h;have aJ:=ap1 du;rw[O6,NQ];show ar _ 0+0<=0;omega
  ·split
   ·exact att
   ·split
    ·exact att
    ·split
     ·exact att
     ·intro t j h;cases h
def adU {d:Nat}:∀ k u i t j,Py l F d k u i=.ok t j->t.ill<=u.ill:=by
 intro k
 induction k with
 | zero=>intro u i t j h;cases h
 | succ k aU=>
  intro u i t j h;unfold Py at h
  split at h
  ·obtain⟨s,az,E,h⟩:=binds h;have aW:=Q7 E;have a4:=aU _ _ _ _ h;rw[O6,Ns,NQ] at a4;have Hm:∀ n,ar 36 n=0:=afx MK;rw[Hm] at a4;omega
  ·split at h
   ·obtain⟨ts,az,E,h⟩:=binds h;have aW:=adR (atr ai d) E;have a4:=aU _ _ _ _ h;rw[O6,Ns] at a4;have Hl:∀ n,ar 35 (n+1)=0:=(λn=>by simp[ar,need]);rw[zalbf,Hl] at a4;omega
   ·exact ap5
def anK (d i:Nat):Kw i (Rt l F d i):=by
 intro t j h;unfold Rt at h;obtain⟨u,az,E,h⟩:=binds h;have aW:=anJ ai d i u az E;have a4:=adU ai _ _ _ _ _ h;exact afA
def alf (d i:Nat):Kw i (QS l F d i):=by
 unfold QS
 split
 ·rename_i du
  intro t j h;obtain⟨u,az,E,h⟩:=binds h;cases h;have:=SI (l:=l) (ai.sg _ _) u _ E;have aJ:=ap2 du;rw[O6,Ns,NQ];show ar _ 1+_<=0;omega
 ·exact anK ai d i
def afB {b:Int}{d:Nat}:∀ k u i t j,OY l F b d k u i=.ok t j->t.ill<=u.ill:=by
 intro k
 induction k with
 | zero=>intro u i t j h;cases h
 | succ k aU=>
  intro u i t j h;unfold OY at h
  split at h
  ·exact ap5
  ·rename_i du
   split at h
   ·exact ap5
   ·obtain⟨v,az,E,h⟩:=binds h;have aW:=ai.pr _ _ _ v az E;have a4:=aU _ _ _ _ h;rw[O6,Ns,Ns,NQ,aaO _ _ MP] at a4;omega
def ap6 (b:Int)(d i:Nat):Kw i (UO l F b d i):=by
 intro t j h;unfold UO at h;obtain⟨u,az,E,h⟩:=binds h;have aW:=ai.sg _ _ u az E;have a4:=afB ai _ _ _ _ _ h;exact afA
def anL (d i:Nat):Kw i (Ru l F d i):=by
 have A{G}(h:G:=by
 split at h
 ·split at h
  ·obtain⟨v,aX,O,h⟩:=binds h;cases h;have a4:=SI (l:=l) (ai.vl _ _) v _ O;rw[O6,Ns,Ns,NQ];first|omega | (simp[ar,need] <;> omega) | (simp[ar,need] at * <;> omega)
  ·
   cases h
 ·
  cases h;exact aW):=LG h;exact ato
def ap7 (d q i:Nat)(ac:Np PG (fx l i)=some q):Kw i (VH l F d q i):=by
 rw[axP ac] at ac;intro t j h;unfold VH at h
 split at h
 ·unfold UA at h;obtain⟨s,az,E,h⟩:=binds h;have aW:=Q7 E
  split at h
  ·
   cases h
  ·split at h
   ·obtain⟨v,aX,O,h⟩:=binds h;obtain⟨_,ca,ao,h⟩:=binds h;cases h;have a4:=SI (l:=l) (ai.vl _ _) v _ O;have bO:=N8 ao;rw[O6,Ns,NQ,ajF ac MK];omega
   ·obtain⟨_,ca,ao,h⟩:=binds h;cases h;have bO:=N8 ao;rw[O6,NQ,ajF ac MK];omega
 ·exact ap4 ai d i t j h
 ·have:=WX ai h;first|omega | (simp[ar,need] <;> omega) | (simp[ar,need] at * <;> omega)
 ·obtain⟨_,ca,ao,h⟩:=binds h;cases h;have bO:=N8 ao;rw[O6,NQ];first|omega | (simp[ar,need] <;> omega) | (simp[ar,need] at * <;> omega)
 ·unfold Qp at h;have A{G}(h:G:=by
  have aW:=aaP ai d _ v az E;have a4:=SI (l:=l) (ai.st _ _) s _ O
  split at h
  ·obtain⟨e9,ca,ao,h⟩:=binds h;cases h;have bO:=SI (l:=l) (ai.st _ _) e9 _ ao;rw[O6,Ns,Ns,Ns,NQ,aaO _ _ MP];omega
  ·
   cases h;rw[O6,Ns,Ns,NQ,aaO _ _ MP];omega):=LG h;exact ak7
 ·unfold Pj at h;have A{G}(h:G:=by
  cases h;have aW:=aaP ai d _ v az E;have a4:=SI (l:=l) (ai.st _ _) s _ O;rw[O6,Ns,Ns,NQ,aaO _ _ MP];omega):=LG h;exact ak7
 ·unfold Qm at h
  split at h
  ·have A{G}(h:G:=by
   cases h;have aW:=SI (l:=l) (ai.vl _ _) v _ E;have a4:=N8 O;rw[O6,Ns,NQ,ajF ac MK];omega):=LG h;exact anM
  ·obtain⟨_,aX,O,h⟩:=binds h;cases h;have a4:=N8 O;rw[O6,NQ,ajF ac MK];omega
 ·have A{G}(h:G:=by
  have dH:=N8 aJ;have aW:=WX ai E;have a4:Tr.Vo c<=0:=by
   unfold QX at O
   split at O
   ·have A{G}(h:G:=by
    cases O;have:=N8 fc;have:=Q7 dn;have:=N8 hv;have:=WX ai iM;rw[Ns,O6,Ns,NQ];first|omega | (simp[ar,need] <;> omega) | (simp[ar,need] at * <;> omega)):=LG h;exact atp
   ·
    cases O;rw[NQ];first|omega | (simp[ar,need] <;> omega) | (simp[ar,need] at * <;> omega)
  have bO:Tr.Vo f<=0:=by
   unfold Oh at ao
   split at ao
   ·obtain⟨cw,e0,iM,ao⟩:=binds ao;cases ao;have:=WX ai iM;rw[Ns,O6,Ns,NQ];first|omega | (simp[ar,need] <;> omega) | (simp[ar,need] at * <;> omega)
   ·
    cases ao;rw[NQ];first|omega | (simp[ar,need] <;> omega) | (simp[ar,need] at * <;> omega)
  split at h
  ·
   cases h
  ·
   cases h;rw[O6,Ns,WW];first|omega | (simp[ar,need] <;> omega) | (simp[ar,need] at * <;> omega)):=LG h;exact atq
def adV (d i:Nat):Kw i (O1 l F d i):=by
 unfold O1
 split
 ·rename_i q ac
  exact ap7 ai d _ i ac
 ·intro t j h;unfold VG at h;have A{G}(h:G:=by
  cases h;have aW:=SI (l:=l) (ai.vl _ _) v _ E;have a4:=N8 O;rw[O6,Ns,NQ];first|omega | (simp[ar,need] <;> omega) | (simp[ar,need] at * <;> omega)):=LG h;exact anM
omit ai in
theorem atu:∀ k,FKw (fns l k):=by
 intro k
 induction k with
 | zero=>exact⟨λ_ _ _ _ h=>by (cases h),λ_ _ _ _ h=>by (cases h),λ_ _ _ _ _ h=>by (cases h),λ_ _ _ _ h=>by (cases h)⟩
 | succ k aU=>exact⟨adV aU,anL aU,ap6 aU,alf aU⟩
def afC:∀ k au i t j,Oa l F k au i=.ok t j->Tr.Vo t<=Tr.Vo au:=by
 intro k
 induction k with
 | zero=>intro au i t j h;cases h
 | succ k aU=>
  intro au i t j h;unfold Oa at h;exact axQ
def ap8 {t:Tr}{j:Nat}(h:PZ l F=.ok t j):t.ill<=0:=by
 unfold PZ at h;obtain⟨ts,az,E,h⟩:=binds h;cases h;have:=afC ai _ _ _ _ _ E;rw[NQ] at this;rw[afy,O6];first|omega | (simp[ar,need] <;> omega) | (simp[ar,need] at * <;> omega)
end
def afD:∀ (ks:List Tr),Tr.Vo ks=0->∀ k ∈ ks,k.ill=0
 | [],_=>λk N=>absurd N MP
 | t::ts,h=>λk N=>by
  rw[Ns] at h
  rcases zalas.1 N with rfl|N
  ·omega
  ·exact afD ts LM k N
def adF (t:Tr)(h:t.ill=0):need t.kd<=t.kids.length/\∀ k ∈ t.kids,k.ill=0:=by
 cases t with
 | mk kd tx n ks=>
  rw[O6] at h;refine⟨?_,afD ks LM⟩;have E:ar kd ks.length=0:=LM;unfold ar at E
  split at E
  ·assumption
  ·omega
def anN {l:List Tk}{t:Tr}{j k:Nat}(h:PZ l (fns l k)=.ok t j):t.ill=0:=by
 have E:t.ill<=0:=ap8 (atu k) h;exact Nat.le_zero.1 E
def alg {aj bi:List LW}{s:LW}{t:Tr}(h:UM aj bi s=.ok t):t.ill=0:=by
 unfold UM at h
 split at h
 ·
  cases h
 ·split at h
  ·
   cases h
  ·rename_i l _
   cases ae:PZ l (fns l KK) with
   | out=>rw[ae] at h;cases h
   | bad er p=>rw[ae] at h;cases h
   | ok gl j=>
    rw[ae] at h;simp only at h
    split at h
    ·
     cases h
    ·
     cases h;exact anN ae
def ceT (t:Tr):Bool:=t.kd==35&&(match t.kids with|k::_=>k.kd==23&&decide (k.tx=ZA) | []=>false)
mutual
def Yo:Tr->Bool
 | .mk kd tx n ks=>ceT (.mk kd tx n ks)||(if MF (.mk kd tx n ks) then false else VT ks)
def VT:List Tr->Bool
 | []=>false
 | t::ts=>Yo t||VT ts
end
def Vm (t:Tr):Bool:=ceT t||VT t.kids
def atf (t:Tr):Yo t=(ceT t||(if MF t then false else VT t.kids)):=by
 cases t with
 | mk kd tx n ks=>rw[Yo];rfl
def MZ.first {I:Nat->Prop}{w:LK}{a k:Ad}{ks:List Ad}(h:MZ I w a)(N:a.ks=k::ks):∃ g cap,w.cell? (LD a.p 3)=some (.slice (some (LD g 0)) (ks.length+1) cap)/\g<w.heap.size/\w.cell? (LD g 0)=some (LC k.p)/\MZ I w k:=by
 obtain⟨_,_,_,_,v,c3,T,_⟩:=h.cells;rw[N] at T;obtain⟨g,cap,rfl,am⟩:=OB T MP;refine⟨g,cap,?_,(Me T g rfl).1,?_,h.parts k (by rw[N];simp)⟩
 ·rw[c3];simp
 ·have:=am 0 MP;simpa using this
def abW {I:Nat->Prop}{t:Ad}{w:LK}(aH:MZ I w t)(N:t.kd=35->t.ks≠[]) :
  MC 73 #[LC t.p] w λe w'=>e=MN (L9 (ceT t.tr))/\w'=w:=by
 obtain⟨_,bF,c0,_,_⟩:=aH.cells;obtain⟨aW,_,bO⟩:=t.NC;unfold ceT;rw[aW,bO];obtain⟨p,ae⟩:∃ p,p=t.p:=⟨_,rfl⟩
 cases lD:(t.kd==35) with
 | false=>
  rw[zalei];rw[<-ae] at bF c0 ⊢
  generalize t.kd=kd at c0 lD
  clear ae N aW bO;exact apQ
 | true=>
  have av:=N (by simpa using lD)
  cases bd:t.ks with
  | nil=>exact absurd bd av
  | cons k ks=>
   obtain⟨g,cap,c3,hg,ct,bv⟩:=aH.first bd
   obtain⟨_,eZ,k0,a9,_⟩:=bv.cells;obtain⟨f1,gp,_⟩:=k.NC;rw[zalbb];simp only;rw[f1,gp];rw[<-ae] at bF c0 c3 ⊢;obtain⟨q,ac⟩:∃ q,q=k.p:=⟨_,rfl⟩;rw[<-ac] at eZ k0 a9 ct
   generalize t.kd=kd at c0 lD
   generalize k.kd=jl at k0
   generalize k.tx=wj at a9
   generalize ks.length=n at c3
   have hm:(0:Int)<(((n+1:Nat)):Int):=LM;clear ae N aW bO f1 gp ac bd av
   cases hx:(jl==23) with
   | false=>
    exact apQ
   | true=>
    by_cases af:wj=ZA
    ·have a4:=RX (b:=ZA) rfl af;rw[zalaz af];clear af;exact apQ
    ·have a4:=RY (b:=ZA) rfl af;rw[zalaw af];clear af;exact apQ
def ah7 (t:Tr)(p:Nat)(w:LK)(h:VA w t p):MC 74 #[LC p] w λe w'=>e=MN (L9 (MF t))/\w'=w:=by
 obtain⟨bF,c0,_,_⟩:=h.cells;clear h;unfold MF
 generalize t.kd=kd at c0
 cases ao:(kd==5)
 all_goals
  go_enter func74,ntmps74;go_wp2;go_ret;exact⟨rfl,rfl⟩
structure Evs (aZ aI root:Nat)(b:Bool)(w:LK):Prop where
 found:w.heap[aZ]? = some (NK #[L9 b] 4)
 word:w.heap[aI]? = some (NK #[LC root] 22)
 node:Cl w root
def evF (root:Nat)(b:Bool)(t:Ad):Bool × Bool:=(b||ceT t.tr,decide (t.p=root) || !MF t.tr)
def ah8 {aZ aI root:Nat}{b:Bool}{t:Ad}{I:Nat->Prop}{w:LK}(a3:Evs aZ aI root b w)(aH:MZ I w t)(N:t.kd=35->t.ks≠[])(cz:∀ x,I x->x≠aZ)(d':aI≠aZ)(tT:root≠aZ) :
  MC 72 #[LC t.p,Mc aZ 0,Mc aI 0] w λe w'=>e=MN (L9 (evF root b t).2)/\w'=w.setCell (LD aZ 0) (L9 (evF root b t).1):=by
 have f0:w.cell? (LD aZ 0)=some (L9 b):=by rw[cell_of a3.found];rfl
 have F8:=Ny a3.found 0;have lA:=lt_of_heap a3.found;have oF:=hide (abW aH N);obtain⟨w1,c9⟩:∃ w1,w1=w.setCell (LD aZ 0) (L9 (b||ceT t.tr)):=⟨_,rfl⟩;have eb:∀ x,x≠aZ->w1.heap[x]? = w.heap[x]?:=λx af=>by rw[c9];exact zalap w (LD aZ 0) _ x af
 have mw:MZ I w1 t:=MZ.later (λx af _=>eb x (cz x af)) _ aH;have rf:=hide (ah7 t.tr t.p w1 (Nj.nt mw.nat));have e1:w1.cell? (LD aI 0)=some (LC root):=by rw[cell_of (by rw[eb aI d'];exact a3.word)];rfl
 have g4:Cl w1 root:=by
  obtain⟨bl,eD,am⟩:=a3.node;exact⟨bl,eD,by rw[eb root tT];exact am⟩
 have ac:(binOp .eql 22 (LC t.p) (LC root)).run prog w1=.ok (L9 (decide (t.p=root))) w1:=by
  simp only[binOp];simp[adD mw.cl g4]
 have ey:aI<w1.heap.size:=by rw[c9];simpa using lt_of_heap a3.word
 unfold evF;simp only
 generalize ceT t.tr=c at oF c9
 generalize MF t.tr=gq at rf
 generalize decide (t.p=root)=eqr at ac
 generalize t.p=p at oF rf ac
 have jm:w.cell? (LD aI 0)=some (LC root):=by rw[cell_of a3.word];rfl
 have vS:=lt_of_heap a3.word;clear N cz tT eb
 cases b with
 | true=>
  rw[zalco] at c9 ⊢;subst c9
  cases eqr with
  | true=>
   go_enter func72,ntmps72;go_wp2;go_ret;exact⟨rfl,rfl⟩
  | false=>
   go_enter func72,ntmps72;go_wp2_with fail;refine cm rf.out ?_;rintro e w2 ⟨rfl,rfl⟩;go_wp2;go_ret;exact⟨by cases gq <;> rfl,rfl⟩
 | false=>
  rw[zalbn] at c9 ⊢;subst c9
  cases eqr with
  | true=>
   go_enter func72,ntmps72;go_wp2_with fail;refine cm oF.out ?_;rintro e w2 ⟨rfl,rfl⟩;go_wp2;go_ret;exact⟨rfl,rfl⟩
  | false=>
   go_enter func72,ntmps72;go_wp2_with fail;refine cm oF.out ?_;rintro e w2 ⟨rfl,rfl⟩;go_wp2_with fail;refine cm rf.out ?_;rintro e aq ⟨rfl,rfl⟩;go_wp2;go_ret;exact⟨by cases gq <;> rfl,rfl⟩
mutual
def atg (root:Nat):∀ (t:Ad) (b:Bool),root ∉ t.N9->wk (evF root) b t=(b||Yo t.tr)
 | .mk p kd tx n ks,b,h=>by
  rw[Ad.N9,zalas,not_or] at h;rw[wk,Ad.tr,Yo];have ae:decide ((Ad.mk p kd tx n ks).p=root)=false:=zalaw (λe=>h.1 e.symm);simp only[evF,ae,zalbn];rw[Ad.tr]
  cases MF (.mk kd tx n (Ad.U4 ks)) with
  | true=>simp
  | false=>
   simp only[Bool.not_false,zaleh,zalct,zalfg];rw[adE root ks _ h.2,zalfs]
def adE (root:Nat):∀ (ts:List Ad) (b:Bool),root ∉ Ad.Nv ts->VP (evF root) b ts=(b||VT (Ad.U4 ts))
 | [],b,_=>by rw[VP,Ad.U4,VT,zalfr]
 | t::ts,b,h=>by
  rw[Ad.Nv,zalat,not_or] at h;rw[VP,atg root t b h.1,adE root ts _ h.2,Ad.U4,VT,zalfs]
end
def anu (t:Ad)(b:Bool)(h:t.N9.Nodup):wk (evF t.p) b t=(b||Vm t.tr):=by
 cases t with
 | mk p kd tx n ks=>
  rw[Ad.N9,zalgk] at h;have O:evF p b (.mk p kd tx n ks)=(b||ceT (Ad.mk p kd tx n ks).tr,true):=by
   unfold evF;rw[show (Ad.mk p kd tx n ks).p=p from rfl,zalaz rfl,zalco]
  rw[show (Ad.mk p kd tx n ks).p=p from rfl,wk,O];simp only[zaleh];rw[adE p ks _ h.1,Vm,zalfs,Ad.tr];rfl
def afm {t:Ad}(h:t.tr.ill=0):t.kd=35->t.ks≠[]:=by
 intro N e;have E:=(adF _ h).1;obtain⟨aW,_,bO⟩:=t.NC;rw[aW,bO,e,N] at E;exact absurd E MK
def Ot {t:Ad}(h:t.tr.ill=0):∀ k ∈ t.ks,k.tr.ill=0:=by
 intro k N;refine(adF _ h).2 _ ?_;rw[t.NC.2.2];exact zalcj N
def aFv:TM 72:=λ_ _=>by kernel_rfl
def ak1 {I:Nat->Prop}(t:Ad)(w:LK)(aH:MZ I w t)(aD:t.N9.Nodup)(ak:t.tr.ill=0)(am:t.cnt<=90000) :
  MC 28 #[LC t.p] w λe w'=>e=MN (L9 (Vm t.tr))/\LX w w':=by
 obtain⟨w2,bW⟩:∃ w2,w2=(w.alloc (.cells #[LC t.p] 22)).alloc (.cells #[L9 false] 4):=⟨_,rfl⟩;have a5:LX w w2:=by
  rw[bW];exact Qn.alloc MP _
 have dV:w2.heap.size=w.heap.size+2:=by rw[bW];simp
 have aW:(w.alloc (.cells #[LC t.p] 22)).heap.size=w.heap.size+1:=by simp
 obtain⟨_,bF,_⟩:=aH.cells;have gZ:MZ (λb=>b<w.heap.size+2/\b≠w.heap.size+1) w2 t:=
  MZ.later (I:=λb=>b<w.heap.size+2/\b≠w.heap.size+1) (λb D ab=>a5.block b ab) _ (MZ.mono (λb _ ab=>⟨by omega,by omega⟩) _ aH)
 have aN:Evs (w.heap.size+1) w.heap.size t.p false w2:=by
  refine⟨?_,?_,gZ.cl⟩
  ·rw[bW,<-aW];exact LP _ _
  ·rw[bW,zalaa _ _ _ MP];exact LP _ _
 have ag:=hide (anv 72 (Mc (w.heap.size+1) 0) (Mc w.heap.size 0) (λb=>b<w.heap.size+2/\b≠w.heap.size+1) (Ap (w.heap.size+1) (w.heap.size+2)) (Evs (w.heap.size+1) w.heap.size t.p) (evF t.p) (λ_ ts=>∀ x ∈ ts,x.tr.ill=0) aFv (λL=>by kernel_rfl)
  (λ_ _ _ h k=>h.trans k) (λw w' h=>⟨λb D _=>h.block b D.1 D.2,h.size⟩)
  (λb x ts h y hy=>by
   rcases zalat.1 hy with hy|hy
   ·split at hy
    ·exact Ot (h x MP) y hy
    ·
     cases hy
   ·exact h y (by simp[hy]))
  (λb x ts w' h cz bv=>by
   refine(ah8 cz bv (afm (h x MP)) (λy hy=>hy.2) LM LM).mono ?_;rintro e aq ⟨rfl,rfl⟩;refine⟨rfl,⟨by rw[heap_set cz.found];rfl,?_,?_⟩,Ap.setCell (R:=w.heap.size+1) (Ap.refl _ _ _) (p:=(LD (w.heap.size+1) 0)) (zalal rfl) _⟩
   ·rw[zalap _ (LD (w.heap.size+1) 0) _ _ MP];exact cz.word
   ·obtain⟨bl,eD,ed⟩:=cz.node;exact⟨bl,eD,by rw[zalap _ (LD (w.heap.size+1) 0) _ _ (by show t.p≠w.heap.size+1;omega)];exact ed⟩)
  t.cnt t Nh am [] false w2 (λx af=>by rw[zalaf.1 af];exact ak) aN gZ)
 rw[anu t false aD,zalbn] at ag
 generalize Vm t.tr=ev at ag
 generalize t.p=p at ag bW
 have bj:=hide a5;rw[bW] at ag;have f6:=hide bW;clear dV aW aD am ak bF bW;go_enter func28,ntmps28;go_wp2_with fail;refine NJ ?_;rintro e aq ⟨rfl,hn,_,da⟩;have hw:aq.cell? (LD (w.heap.size+1) 0)=some (L9 ev):=by rw[cell_of hn.found];rfl
 rw[<-f6.out] at da;have bV:Hid (LX w aq):=bj.out.trans ((da.mono LM).below LM);go_wp2;go_ret;exact⟨rfl,bV.out⟩
structure Sc where
 own:Int
 nms:List LW
 opn:Bool
def Qb:List Sc->LW->Bool->Int × Bool
 | [],_,b=>(-1,b)
 | c::l,s,b=>if hasB c.nms s then (c.own,b) else Qb l s (b && !c.opn)
abbrev UN (o:Int)(nv:LY)(op:Bool)(iB:LY):Obj:=NK #[LJ o,nv,L9 op,iB] 182
abbrev MX (b:Nat):LY:=Mc b 0
def VU (I:Nat->Prop)(w:LK):LY->List Sc->Prop
 | v,[]=>v=.pointer none
 | v,c::l=>∃ b nv iB,v=MX b/\I b/\w.heap[b]? = some (UN c.own nv c.opn iB)/\Na 0 w nv c.nms/\(∀ g,nv.ownBlock=some g->I g)/\c.nms.length<=100000/\(∀ eJ,iB=MX eJ->eJ<b)/\VU I w iB l
def VU.later {I:Nat->Prop}{w w':LK}(W:Pq I w w'):∀ (l:List Sc) (v:LY),VU I w v l->VU I w' v l
 | [],_,h=>h
 | c::l,v,h=>by
  obtain⟨b,nv,iB,E,O,ao,aM,bw,h6,h7,dp⟩:=h;exact⟨b,nv,iB,E,O,by rw[W b O (lt_of_heap ao)];exact ao,L8 W bw aM,bw,h6,h7,VU.later W l iB dp⟩
def VU.mono {I J:Nat->Prop}{w:LK}(c7:∀ b,I b->b<w.heap.size->J b):∀ (l:List Sc) (v:LY),VU I w v l->VU J w v l
 | [],_,h=>h
 | c::l,v,h=>by
  obtain⟨b,nv,iB,E,O,ao,aM,bw,h6,h7,dp⟩:=h;exact⟨b,nv,iB,E,c7 b O (lt_of_heap ao),ao,aM,λg hg=>c7 g (bw g hg) (Me aM g hg).1,h6,h7,VU.mono c7 l iB dp⟩
def VU.form {I:Nat->Prop}{w:LK}{l:List Sc}{v:LY}(h:VU I w v l):v=Pe\/∃ b,v=MX b/\b<w.heap.size:=by
 cases l with
 | nil=>exact zalad h
 | cons c l=>
  obtain⟨b,nv,iB,E,_,ao,_⟩:=h;exact zalal ⟨b,E,lt_of_heap ao⟩
def apd:LY->Nat
 | .pointer (some a)=>a.block+1
 | _=>0
def ape {I:Nat->Prop}(l:List Sc)(s:LW)(v:LY)(w:LK)(h:VU I w v l) :
  MC 123 #[v,LQ s] w λe w'=>e=MN (.tuple #[LJ (Qb l s true).1,L9 (Qb l s true).2])/\w'=w:=by
 have fh:=hide h
 rcases h.form with a0|⟨jA,a0,_⟩ <;> subst a0 <;> clear h
 all_goals
  go_enter func123,ntmps123;go_wp2_with fail
  go_loopw [0,5] (λu x wr=>wr=w/\∃ (r:List Sc) (b:Bool),x=L9 b/\VU I w u r/\Qb r s b=Qb l s true) (λu _ _=>apd u)
  case atStart=>exact⟨rfl,l,true,rfl,fh.out,rfl⟩
  case round=>
   obtain⟨rfl,r,b,rfl,rX,k1⟩:=hrel
   cases r with
   | nil=>
    have aS:_=Value.pointer none:=rX;subst aS;have lh:=hide k1;clear k1;go_wp2_with fail;exact Ug (v:=.tuple #[LJ (-1),L9 b]) ⟨by rw[<-lh.out];rfl,rfl⟩
   | cons c r=>
    obtain⟨bT,nv,iB,rfl,cz,D,av,_,ab,hlow,T⟩:=rX;have c0:wr.cell? (LD bT 0)=some (LJ c.own):=by rw[cell_of D];rfl
    have c1:wr.cell? (LD bT 1)=some nv:=by rw[cell_of D];rfl
    have c2:wr.cell? (LD bT 2)=some (L9 c.opn):=by rw[cell_of D];rfl
    have c3:wr.cell? (LD bT 3)=some iB:=by rw[cell_of D];rfl
    have gs:=lt_of_heap D;have ag:=hide (Tn c.nms s nv wr av ab);obtain⟨dF,dG,rfl⟩:=LZ av;have lh:=hide k1;have bo:=hide T;have Ep:=hide hlow;have m2:=T.form;rw[Qb] at lh
    generalize c.own=own at c0 lh
    generalize c.opn=opn at c2 lh
    clear D ab hlow k1 cz
    cases a2:hasB c.nms s with
    | true=>
     rw[a2] at ag lh;clear a2;go_wp2_with fail;refine cm ag.out ?_;rintro e w2 ⟨rfl,rfl⟩;go_wp2_with fail;exact Ug (v:=.tuple #[LJ own,L9 b]) ⟨by rw[<-lh.out];rfl,rfl⟩
    | false=>
     rw[a2] at ag lh;clear a2;go_wp2_with fail;refine cm ag.out ?_;rintro e w2 ⟨rfl,rfl⟩
     rcases m2 with an|⟨a',an,_⟩ <;> subst an <;> cases b
     all_goals
      go_wp2
      go_roundw
      case rel=>exact⟨trivial,r,_,rfl,bo.out,by simpa using lh.out⟩
      case measure=>first | (simp[apd];done) | (have dt:=Lu Ep _ rfl;simp[apd];omega)
abbrev Pv (v:LY)(st:Bool):LY:=.agg #[v,L9 st]
def Ur (aQ:Option Addr)(st:Bool)(o:Int)(dF:Option Addr)(kt dG:Nat)(op:Bool)(Ir:Option Addr)(w:LK) :
  MC 124 #[Pv (.pointer aQ) st,.agg #[LJ o,.slice dF kt dG,L9 op,.pointer Ir]] w λe w'=>
   (e=MN (Pv (MX (w.heap.size+1)) st)/\w'.heap[w.heap.size+1]? = some (UN o (.slice dF kt dG) op (.pointer aQ)))/\LX w w':=by
 go_enter func124,ntmps124;go_wp2_with fail;have aW:(w.alloc (.cells #[MX (w.heap.size+1),L9 st] 112)).heap.size=w.heap.size+1:=by simp
 refine Ug (v:=Pv (MX (w.heap.size+1)) st) ⟨⟨rfl,?_⟩,(Qn.alloc MP _).alloc OM _⟩;rw[zalaa _ _ _ MP];have h:=LP (w.alloc (.cells #[MX (w.heap.size+1),L9 st] 112)) (UN o (.slice dF kt dG) op (.pointer aQ));rw[aW] at h;exact h
def aaG {B:Nat}(ts:List Tr)(v:LY)(w:LK)(h:U5 B w v ts)(ab:ts.length<=90000) :
  MC 125 #[v] w λe w'=>(∃ u,e=MN u/\Na w.heap.size w' u (ts.map Tr.tx))/\LX w w':=by
 have A{G}(h:G:=by
 go_enter func125,ntmps125;exact axV):=LG h;exact asK
abbrev Us:=Int × Int × Bool
def usC (u:Us):List LY:=[LJ u.1,LJ u.2.1,L9 u.2.2]
def Ph (l:List Us):List LY:=l.flatMap usC
def afd (l:List Us):(Ph l).length=l.length * 3:=by
 induction l with
 | nil=>rfl
 | cons u l aU=>
  have:Ph (u::l)=usC u++Ph l:=rfl;rw[this,zalab,aU,zalbf];simp[usC];omega
def WQ (a b:List Us):Ph (a++b)=Ph a++Ph b:=List.flatMap_append
abbrev Nr:LW:=⟨#[97,114,103,117,109,101,110,116,115]⟩
def Rh (f:Tr->Nat->List Sc->Bool->List Us):List Tr->Nat->List Sc->Bool->List Us
 | [],_,_,_=>[]
 | t::ts,no,ch,st=>f t no ch st++Rh f ts (no+t.count) ch st
def ak2 (t pr b6:Tr)(no:Nat)(ch:List Sc)(st:Bool):List Sc:=
 ⟨no,(pr.kids.map Tr.tx++[Nr])++namesT b6 true,!(st||MW b6)&&Vm b6⟩::(if t.kd==37 then ⟨no,[t.tx],false⟩::ch else ch)
def tl:Nat->Tr->Nat->List Sc->Bool->List Us
 | 0,_,_,_,_=>[]
 | m+1,t,no,ch,st=>
  if t.kd=23 then ((no:Int),(Qb ch t.tx true).1,(Qb ch t.tx true).2)::Rh (tl m) t.kids (no+1) ch (st||MW t)
  else if t.kd=1 then Rh (tl m) t.kids (no+1) (⟨no,(O0 t).map Tr.tx,false⟩::ch) (st||MW t)
  else if t.kd=6 then Rh (tl m) t.kids (no+1) (⟨no,namesT t false,false⟩::ch) (st||MW t)
  else if t.kd=13 then Rh (tl m) t.kids (no+1) (⟨no,[t.tx],false⟩::ch) (st||MW t)
  else if t.kd=9 then match t.kids with
   | k0::a9::_=>tl m k0 (no+1) ch (st||MW t)++tl m a9 (no+1+k0.count) (⟨0,[],true⟩::ch) (st||MW t)
   | _=>[]
  else if t.kd=5\/t.kd=37 then match t.kids with
   | pr::b6::_=>Rh (tl m) b6.kids (no+1+pr.count+1) (ak2 t pr b6 no ch (st||MW t)) (st||MW t||MW b6)
   | _=>[]
  else if t.kd=40 then []
  else Rh (tl m) t.kids (no+1) ch (st||MW t)
def aks (f:Tr->Nat->List Sc->Bool->List Us):∀ (a b:List Tr) (no:Nat) (ch:List Sc) (st:Bool),Rh f (a++b) no ch st=Rh f a no ch st++Rh f b (no+Tr.counts a) ch st
 | [],b,no,ch,st=>by rw[MQ];rfl
 | t::a,b,no,ch,st=>by
  rw[zalcq,Rh,Rh,aks f a b,L6,zalax,zalen]
def abP (f:Tr->Nat->List Sc->Bool->List Us)(l:List Tr)(k:Nat)(N:k<l.length)(no:Nat)(ch:List Sc)(st:Bool):Rh f (l.take (k+1)) no ch st=Rh f (l.take k) no ch st++f l[k] (no+Tr.counts (l.take k)) ch st:=by
 rw[zalac N,aks];simp[Rh]
structure Fm (I:Nat->Prop)(w w':LK):Prop where
 os:w'.os=w.os
 tape:w'.tape=w.tape
 output:w'.output=w.output
 size:w.heap.size<=w'.heap.size
 stay:Pq I w w'
def Fm.trans {I:Nat->Prop}{a b c:LK}(h:Fm I a b)(k:Fm I b c):Fm I a c:=
 ⟨k.os.trans h.os,k.tape.trans h.tape,k.output.trans h.output,zalan h.size k.size,λx af ab=>(k.stay x af (zalau ab h.size)).trans (h.stay x af ab)⟩
def Fm.of {I:Nat->Prop}{w w':LK}(h:LX w w'):Fm I w w':=⟨h.os,h.tape,h.output,h.size,λb _ ab=>h.block b ab⟩
def Fm.less {I J:Nat->Prop}{w w':LK}(h:Fm J w w')(cz:∀ b,I b->J b):Fm I w w':=⟨h.os,h.tape,h.output,h.size,λb D ab=>h.stay b (cz b D) ab⟩
def Fm.refl (I:Nat->Prop)(w:LK):Fm I w w:=⟨rfl,rfl,rfl,Nh,λ_ _ _=>rfl⟩
section
variable {I:Nat->Prop} {w w':LK} (h:Fm I w w')
include I w w' h
def Fm.cell {b o:Nat}(cz:I b)(ab:b<w.heap.size):w'.cell? (LD b o)=w.cell? (LD b o):=zalar (w:=w) (a:=(LD b o)) (h.stay b cz ab)
def Cl.fm {p:Nat}(cz:I p)(ae:Cl w p):Cl w' p:=by
 obtain⟨bl,t,am⟩:=ae;exact⟨bl,t,by rw[h.stay p cz (lt_of_heap am)];exact am⟩
end
structure TW (I:Nat->Prop)(tb aw:Nat)(aK:List Nat)(ah:List Us)(w:LK):Prop where
 blk:∃ v,w.heap[tb]? = some (NK #[.map (some aw),v] 108)/\w.ownsRow 0 56 3 v ah.length (Ph ah)/\(∀ b,I b->v.ownBlock≠some b)/\v.ownBlock≠some tb
 map:w.heap[aw]? = some (.map (N7 (Ro aK)) aK.length)
 imb:I aw
 ne:∀ b,I b->b<w.heap.size/\b≠tb
 cl:∀ p ∈ aK,I p/\Cl w p
 nd:aK.Nodup
section
variable {I:Nat->Prop} {tb aw:Nat} {aK:List Nat} {ah:List Us} {w w':LK} (h:TW I tb aw aK ah w) (D:LX w w')
include I tb aw aK ah w w' h D
def TW.later:TW I tb aw aK ah w':=by
 obtain⟨⟨v,E,O,ao,aM⟩,bw,h6,h7,dp,dt⟩:=h;exact⟨⟨v,by rw[D.block tb (lt_of_heap E)];exact E,L8 (I:=λ_=>True) (Below.stay D) (λ_ _=>trivial) O,ao,aM⟩,by rw[D.block aw (lt_of_heap bw)];exact bw,h6,λb eG=>⟨zalau (h7 b eG).1 D.size,(h7 b eG).2⟩,λp ae=>⟨(dp p ae).1,Cl.fm (Fm.of D) (dp p ae).1 (dp p ae).2⟩,dt⟩
def TW.more:TW (λb=>I b\/(w.heap.size<=b/\b<w'.heap.size)) tb aw aK ah w':=by
 obtain⟨⟨v,E,O,ao,aM⟩,bw,h6,h7,dp,dt⟩:=h.later D;obtain⟨⟨b0,a9,bD,b8,e0⟩,_⟩:=h;have a0:b0=v:=by
  rw[D.block tb (lt_of_heap a9),a9] at E;simpa using E
 subst a0;refine⟨⟨b0,E,O,λb eG e=>?_,aM⟩,bw,zalad h6,λb eG=>?_,λp ae=>⟨zalad (dp p ae).1,(dp p ae).2⟩,dt⟩
 ·rcases eG with eG|eG
  ·exact ao b eG e
  ·have:=(Me bD b e).1;omega
 ·rcases eG with eG|eG
  ·exact h7 b eG
  ·have:=lt_of_heap a9;exact⟨eG.2,by omega⟩
end
def TW.less {I J:Nat->Prop}{tb aw:Nat}{aK:List Nat}{ah ij:List Us}{w w':LK}(h:TW J tb aw aK ij w')(aJ:TW I tb aw aK ah w)(cz:∀ b,I b->J b):TW I tb aw aK ij w':=by
 obtain⟨⟨v,E,O,ao,aM⟩,bw,h6,h7,dp,dt⟩:=h;exact⟨⟨v,E,O,λb D=>ao b (cz b D),aM⟩,bw,aJ.imb,λb D=>h7 b (cz b D),λp ae=>⟨(aJ.cl p ae).1,(dp p ae).2⟩,dt⟩
def apm (m:Nat):Prop:=∀ (a:Ad),a.cnt<=m->∀ (I:Nat->Prop) (tb aw:Nat) (aK aL post:List Nat) (ah:List Us) (v:LY) (ch:List Sc) (st:Bool) (w:LK),
 aK=aL++(a.N9++post)->TW I tb aw aK ah w->MZ I w a->a.tr.ill=0->VU I w v ch->ah.length+a.cnt<=20000 ->
 MC 68 #[MX tb,LC a.p,Pv v st] w λe w'=>e=MN (.tuple #[])/\TW I tb aw aK (ah++tl m a.tr aL.length ch st) w'/\Fm I w w'
def Xv {f:Tr->Nat->List Sc->Bool->List Us}(an:∀ t no ch st,(f t no ch st).length<=t.count):∀ (ts:List Tr) (no:Nat) (ch:List Sc) (st:Bool),(Rh f ts no ch st).length<=Tr.counts ts
 | [],_,_,_=>zalae _
 | t::ts,no,ch,st=>by
  rw[Rh,zalab,L6];have E:=an t no ch st;have O:=Xv an ts (no+t.count) ch st;omega
def Ou (t:Tr):t.count=1+Tr.counts t.kids:=by cases t with|mk kd tx kt ks=>exact count_mk _ _ _ _
def WR:∀ (m:Nat) (t:Tr) (no:Nat) (ch:List Sc) (st:Bool),(tl m t no ch st).length<=t.count
 | 0,_,_,_,_=>zalae _
 | m+1,t,no,ch,st=>by
  have aU:=Xv (f:=tl m) (WR m);have am:=Ou t;rw[tl]
  split
  ·have:=aU t.kids (no+1) ch (st||MW t);rw[zalbf];omega
  split
  ·have:=aU t.kids (no+1) (⟨no,(O0 t).map Tr.tx,false⟩::ch) (st||MW t);omega
  split
  ·have:=aU t.kids (no+1) (⟨no,namesT t false,false⟩::ch) (st||MW t);omega
  split
  ·have:=aU t.kids (no+1) (⟨no,[t.tx],false⟩::ch) (st||MW t);omega
  split
  ·split
   ·rename_i k0 a9 ks N
    rw[N,L6,L6] at am;have E:=WR m k0 (no+1) ch (st||MW t);have O:=WR m a9 (no+1+k0.count) (⟨0,[],true⟩::ch) (st||MW t);rw[zalab];omega
   ·exact zalae _
  split
  ·split
   ·rename_i pr b6 ks N
    rw[N,L6,L6] at am;have E:=aU b6.kids (no+1+pr.count+1) (ak2 t pr b6 no ch (st||MW t)) (st||MW t||MW b6);have O:=Ou b6;omega
   ·exact zalae _
  split
  ·exact zalae _
  ·have:=aU t.kids (no+1) ch (st||MW t);omega
def VU.ptr {I:Nat->Prop}{w:LK}{l:List Sc}{v:LY}(h:VU I w v l):∃ aQ,v=.pointer aQ:=by
 rcases h.form with h|⟨b,h,_⟩ <;> exact⟨_,h⟩
def Zu (l:List Ad)(k:Nat)(N:k<l.length):Ad.cnts (l.take k)+(l[k]).cnt<=Ad.cnts l:=by
 have E:Ad.cnts l=Ad.cnts (l.take k)+Ad.cnts (l.drop k):=by rw[<-Vw,zalcd]
 rw[zalbs N,Ad.cnts] at E;omega
def Xe (l:List Ad):Tr.counts (l.map Ad.tr)=Ad.cnts l:=by rw[<-Yh,Ad.adx]
def Xn {m:Nat}(ce:apm m)(al:List Ad)(aA:∀ k ∈ al,k.cnt<=m)(I:Nat->Prop)(tb aw:Nat)(aK aL post:List Nat)(ah:List Us)(v:LY)(ch:List Sc)(st:Bool)(kv:LY)(w:LK)
  (bv:aK=aL++(Ad.Nv al++post)) (aO:TW I tb aw aK ah w) (av:∀ k ∈ al,MZ I w k) (ak:∀ k ∈ al,k.tr.ill=0) (eR:VU I w v ch) (T:w.ownsRow 0 22 1 kv (al.map Ad.p).length ((al.map Ad.p).map LC)) (CW:∀ g,kv.ownBlock=some g->I g) (ab:ah.length+Ad.cnts al<=20000) :
  MC 127 #[MX tb,kv,Pv v st] w λe w'=>e=MN (.tuple #[])/\TW I tb aw aK (ah++Rh (tl m) (al.map Ad.tr) aL.length ch st) w'/\Fm I w w':=by
 obtain⟨aQ,rfl⟩:=eR.ptr;obtain⟨dj,cY,e7⟩:=LZ T;rw[zalag] at e7;subst e7;obtain⟨w1,c9⟩:∃ w1,w1=w.alloc (.cells #[.pointer aQ,L9 st] 112):=⟨_,rfl⟩;have bz:LX w w1:=by rw[c9];exact Qn
 have eB:w1.heap.size=w.heap.size+1:=by rw[c9];simp
 have g3:w1.heap[w.heap.size]? = some (NK #[.pointer aQ,L9 st] 112):=by rw[c9];exact LP _ _
 have A{G}(h:G:=by
 have fB:TW J tb aw aK ah w1:=by rw[c7];exact aO.more bz
 have BT:J w.heap.size:=by rw[c7];exact zalal ⟨Nh,by omega⟩
 have eH:∀ k ∈ al,MZ J w1 k:=λk N=>MZ.later (λb _ ab=>bz.block b ab) _ (MZ.mono (λb D _=>eM b D) _ (av k N));have Gt:VU J w1 (.pointer aQ) ch:=VU.later (λb _ ab=>bz.block b ab) _ _ (VU.mono (λb D _=>eM b D) _ _ eR);have hlen:al.length<=20000:=by have:=P8 al;omega
 have dQ:=hide ce;have hZ:=hide aA;have bS:=hide bv;have eu:=hide aO;have p5:=hide fB;have dO:=hide eH;have eE:=hide ak;have es:=hide Gt;have bo:=hide T;have pZ:=hide (λg hg=>eM g (CW g hg));have cQ:=hide ab;have ba:=hide bz;have rm:=hide g3;have z9:=hide BT;have z8:=hide eM;have Fo:=hide c9;clear aA bv av eH ak CW ab g3 BT eM eB c7 c9;go_enter func127,ntmps127;go_wp2_with fail;rw[<-Fo.out]
 go_loopw [10] (λi wr=>∃ k:Nat,k<=al.length/\i=LJ k/\TW J tb aw aK (ah++Rh (tl m) ((al.take k).map Ad.tr) aL.length ch st) wr/\Fm J w1 wr) (λi _=>al.length - (intOf i).toNat)
 case atStart=>exact⟨0,zalae _,rfl,by simpa[Rh] using p5.out,Fm.refl _ _⟩
 case round=>
  have A{G}(h:G:=by
  clear hg
  by_cases aC:k<al.length
  ·obtain⟨g,cap,a0,hcell⟩:=OB bo.out (by rw[zalag];omega)
   simp only[zalcb] at a0;obtain⟨rfl,ze,rfl⟩:=a0;clear ze;have Hr:(al.map Ad.p).length=al.length:=zalag _;have iu:k<(al.map Ad.p).length:=LM;have g2:=Lu pZ g rfl;have de:=(Me bo.out g rfl).1;have yw:g<w1.heap.size:=zalau de ba.out.size;obtain⟨q,ac⟩:∃ q,q=(al[k]).p:=⟨_,rfl⟩;have dU:wr.cell? (LD g k)=some (LC q):=by
    rw[eP.out.cell g2 yw,ba.out.cell (p:=(LD g k)) de,hcell k iu,zalcx,ac]
   have bF:=lt_of_heap rm.out;have bq:wr.cell? (LD w.heap.size 0)=some (.pointer aQ):=by rw[eP.out.cell z9.out bF,cell_of rm.out];rfl
   have ep:wr.cell? (LD w.heap.size 1)=some (L9 st):=by rw[eP.out.cell z9.out bF,cell_of rm.out];rfl
   have hpl2:w.heap.size<wr.heap.size:=zalau bF eP.out.size;have n7:g<wr.heap.size:=zalau yw eP.out.size;have hmem:=zalao aC;have vJ:=Zu al k aC;have iU:=Xv (f:=tl m) (WR m) ((al.take k).map Ad.tr) aL.length ch st;rw[Xe] at iU;have BS:=Lu cQ;have gZ:aK=(aL++Ad.Nv (al.take k))++((al[k]).N9++(Ad.Nv (al.drop (k+1))++post)):=by
    rw[bS.out];exact ayG
   have eR:=Lu dQ (al[k]) (Lu hZ _ hmem) J tb aw aK _ _ _ (.pointer aQ) ch st wr gZ ic.out (MZ.later eP.out.stay _ (Lu dO _ hmem)) (Lu eE _ hmem) (VU.later eP.out.stay _ _ es.out) (by rw[zalab];omega)
   rw[<-ac] at eR;have ag:=hide eR;have A{G}(h:G:=by
   have jh:=abP (tl m) (al.map Ad.tr) k (by rw[zalag];exact aC) aL.length ch st
   rw[zalcx,<-pd,<-zaldl,<-zaldl] at jh;have co:=hide jh;have eY:(k:Int)<(al.length:Int):=LM;clear hcell ac bF hmem vJ iU BS gZ pd jh Hr yw de g2 iu;go_wp2_with fail;refine NJ ?_;rintro e w2 ⟨rfl,bW,hh⟩;have b9:=hide bW;have bR:=hide (eP.out.trans hh);clear dU bq ep;go_wp2
   go_roundw
   case rel=>exact⟨k+1,by omega,by go_num,by rw[co.out,<-zalax];exact b9.out,bR.out⟩
   case measure=>simp[intOf];omega):=LG h;exact aB8
  ·have cq:k=al.length:=LM;subst cq;go_wp2
   go_end0
   have E:=Lu ic;rw[zalaq] at E;exact⟨rfl,E.less eu.out z8.out,(Fm.of ba.out).trans (eP.out.less z8.out)⟩):=LG h;exact aqf):=LG h;exact aBH
def MZ.anw {I:Nat->Prop}{w:LK}{a k bD:Ad}{ks:List Ad}(h:MZ I w a)(N:a.ks=k::bD::ks):∃ g cap,w.cell? (LD a.p 3)=some (.slice (some (LD g 0)) (ks.length+2) cap)/\g<w.heap.size/\w.cell? (LD g 0)=some (LC k.p)/\w.cell? (LD g 1)=some (LC bD.p)/\I g:=by
 obtain⟨_,_,_,_,v,c3,T,ak⟩:=h.cells;rw[N] at T;obtain⟨g,cap,rfl,am⟩:=OB T MP;refine⟨g,cap,?_,(Me T g rfl).1,?_,?_,ak g rfl⟩
 ·rw[c3];simp
 ·have:=am 0 MP;simpa using this
 ·have:=am 1 MP;simpa using this
def apR {aL post:List Nat}{p:Nat}{r:List Nat}(h:(aL++((p::r)++post)).Nodup):(aL++((p::r)++post)).idxOf p=aL.length:=by
 have ae:p ∉ aL:=by
  rw[zaldy] at h;exact λaA=>h.2.2 p aA p MP rfl
 rw[List.idxOf_append,zalah ae];simp
def TW.num {I:Nat->Prop}{tb aw:Nat}{aK aL post:List Nat}{ah:List Us}{w X:LK}{a:Ad}(h:TW I tb aw aK ah w)(bv:aK=aL++(a.N9++post))(aB:Fm I w X) :
  (Instr.lookup 44 (.map (some aw)) (LC a.p) false).run prog X=.ok (LJ (aL.length:Int)) X:=by
 have aA:a.p ∈ aK:=by rw[bv,P9];simp
 have E:=XQ aw aK.length (Ro aK) a.p X (by rw[aB.stay aw h.imb (h.ne aw h.imb).1];exact h.map) (Cl.fm aB (h.cl _ aA).1 (h.cl _ aA).2) (λe he=>Cl.fm aB (h.cl _ (Uh he)).1 (h.cl _ (Uh he)).2)
 exact axm
def TW.word {I:Nat->Prop}{tb aw:Nat}{aK:List Nat}{ah:List Us}{w:LK}(h:TW I tb aw aK ah w):w.cell? (LD tb 0)=some (.map (some aw))/\tb<w.heap.size:=by
 obtain⟨⟨v,E,_⟩,_⟩:=h;exact⟨by rw[cell_of E];rfl,lt_of_heap E⟩
section
variable {P:Program} {bU:Region.Mode} {ops:Array Oper} {Q:Exit->Act->LK->Prop} {S:LK->Prop} {b:Nat}
def PS (P:Program)(bU:Region.Mode)(ops:Array Oper)(Q:Exit->Act->LK->Prop)(S:LK->Prop)(b:Nat):Nat->Array Bool->Act->LK->Prop
 | 0,listed,a,w=>Region.ready bU ops listed=[]/\Q .normal a w
 | n+1,listed,a,w=>(Region.ready bU ops listed=[]->Q .normal a w)/\∀ i ∈ Region.ready bU ops listed,wpOp P ops Q i (λik w'=>((listed.setIfInBounds i true).getD b false=false->S w')/\PS P bU ops Q S b n (listed.setIfInBounds i true) ik w') a w
def abL:∀ (n:Nat) (listed:Array Bool) (a:Act) (w:LK),PS P bU ops Q S b n listed a w->wpAny P bU ops Q n listed a w
 | 0,_,_,_,h=>h
 | n+1,_,_,_,h=>⟨h.1,λi ak=>wpOp_mono (λik w' cH=>abL n _ ik w' cH.2) (h.2 i ak)⟩
def ar7 {i:Nat}{dy be:Oper}{v:LY}(ak:ops[i]? = some dy)(fp:ops[b]? = some be)(hsel:∀ (j:Nat) (o:Oper) bl c,ops[j]? = some o->o.op≠.select bl c)
  (c':∀ c a w,Q (.panic c) (a.put dy.dst v) w->Q (.panic c) a w) (jF:i≠b) (hw:∃ e ∈ be.after,Region.binds bU e=true/\e.on=i) :
  ∀ (n:Nat) (listed:Array Bool) (a:Act) (w:LK),listed.getD b false=false ->
   (∀ j oj,ops[j]? = some oj->j≠i->listed.getD j true=false->(∀ e ∈ oj.after,Region.binds bU e=true->e.on≠i)->dy.apart ops oj=true) ->
   i ∈ Region.ready bU ops listed->YieldsIf P ops S dy v a->S w ->
   PS P bU ops Q S b n (listed.setIfInBounds i true) (a.put dy.dst v) w->PS P bU ops Q S b (n+1) listed a w:=by
 have A{G}(h:G:=by
 induction n with
 | zero=>
  intro listed a w ge _ T hy eb H;exact ayM
 | succ n aU=>
  intro listed a w ge hfree T hy eb H;refine⟨λh=>(by rw[h] at T;cases T),λj aT=>?_⟩
  by_cases hC:j=i
  ·subst hC;exact hy.wpOp ak eb ⟨λ_=>eb,H⟩
  ·obtain⟨hjun,oj,ob,hall⟩:=zalhp.1 aT;have hnot:=waits (j:=j) (oj:=oj) T hall;have tJ:j≠b:=λe=>by
    subst e;rw[fp] at ob;cases ob;obtain⟨e,he,D,GY⟩:=hw;exact hnot e he D GY
   have A{G}(h:G:=by
   have lF:S w':=ao.2.1 (by rw[zaldr false tJ,zaldr false jF];exact ge)
   refine⟨λ_=>lF,aU (listed.setIfInBounds j true) ik w' (by rw[zaldr false tJ];exact ge) (λm qT aA tO v5 eA=>hfree m qT aA tO ?_ eA) (zalgg T (zalfi hC)) ao.1 lF ?_⟩
   ·exact atK
   ·rw[zalel _ _ hC];exact ao.2.2):=LG h;exact aup):=LG h;exact aAZ
def ahB {i:Nat}{dy:Oper}{v:LY}(ak:ops[i]? = some dy)(hsel:∀ (j:Nat) (o:Oper) bl c,ops[j]? = some o->o.op≠.select bl c)
  (c':∀ c a w,Q (.panic c) (a.put dy.dst v) w->Q (.panic c) a w) (jF:i≠b) :
  ∀ (n:Nat) (listed:Array Bool) (a:Act) (w:LK),
   (∀ j oj,ops[j]? = some oj->j≠i->listed.getD j true=false->(∀ e ∈ oj.after,Region.binds bU e=true->e.on≠i)->dy.apart ops oj=true) ->
   i ∈ Region.ready bU ops listed->YieldsIf P ops (λ_=>True) dy v a->(listed.getD b false=false->S w) ->
   PS P bU ops Q S b n (listed.setIfInBounds i true) (a.put dy.dst v) w->PS P bU ops Q S b (n+1) listed a w:=by
 have waits:∀ {listed:Array Bool} {oj:Oper},i ∈ Region.ready bU ops listed->(∀ e ∈ oj.after,Region.binds bU e=true->listed.getD e.on false=true)->∀ e ∈ oj.after,Region.binds bU e=true->e.on≠i:=by
  intro listed oj T hall e he D k1;exact aA0
 intro n
 induction n with
 | zero=>
  intro listed a w _ T hy eb H;refine⟨λh=>(by rw[h] at T;cases T),λj aT=>?_⟩
  by_cases hC:j=i
  ·subst hC;exact hy.wpOp ak trivial ⟨λh=>eb (by rw[zaldr false jF] at h;exact h),H⟩
  ·have aA:=zalgg aT hC;rw[H.1] at aA;cases aA
 | succ n aU=>
  intro listed a w hfree T hy eb H;refine⟨λh=>(by rw[h] at T;cases T),λj aT=>?_⟩
  by_cases hC:j=i
  ·subst hC;exact hy.wpOp ak trivial ⟨λh=>eb (by rw[zaldr false jF] at h;exact h),H⟩
  ·obtain⟨hjun,oj,ob,hall⟩:=zalhp.1 aT;have hnot:=waits (oj:=oj) T hall;have A{G}(h:G:=by
   have lF:(listed.setIfInBounds j true).getD b false=false->S w':=λh=>ao.2.1 (by rw[zalel _ _ (zalfi hC),zaldr false jF];exact h)
   refine⟨lF,aU (listed.setIfInBounds j true) ik w' (λm qT aA tO v5 eA=>hfree m qT aA tO ?_ eA) (zalgg T (zalfi hC)) ao.1 lF ?_⟩
   ·exact atK
   ·rw[zalel _ _ hC];exact ao.2.2):=LG h;exact aup
def uh {dy:Oper}{n:Nat}{listed:Array Bool}{a:Act}{w:LK}(i:Nat)(v:LY)(eb:S w)
  (h:PS P bU ops Q S b n (listed.setIfInBounds i true) (a.put dy.dst v) w) (ak:ops[i]? = some dy:=by rfl) (c':∀ c a w,Q (.panic c) (a.put dy.dst v) w->Q (.panic c) a w:=by exact λ_ _ _ h=>h)
  (W:Region.noSelect ops=true:=by kernel_rfl) (an:Region.free bU ops listed i=true:=by kernel_rfl) (T:(Region.ready bU ops listed).contains i=true:=by kernel_rfl)
  (jF:i≠b:=by decide) (hy:YieldsIf P ops (λ_=>True) dy v a:=by exact zalad ⟨by kernel_rfl,λ_ _=>by go_simp⟩):PS P bU ops Q S b (n+1) listed a w:=
 ahB ak (zalfe W) c' jF n listed a w (zalfy ak an) (by simpa using T) hy (λ_=>eb) h
def uz {dy:Oper}{n:Nat}{listed:Array Bool}{a:Act}{w:LK}(i:Nat)(v:LY)
  (h:PS P bU ops Q S b n (listed.setIfInBounds i true) (a.put dy.dst v) w) (ak:ops[i]? = some dy:=by rfl) (c':∀ c a w,Q (.panic c) (a.put dy.dst v) w->Q (.panic c) a w:=by exact λ_ _ _ h=>h)
  (W:Region.noSelect ops=true:=by kernel_rfl) (an:Region.free bU ops listed i=true:=by kernel_rfl) (T:(Region.ready bU ops listed).contains i=true:=by kernel_rfl)
  (jF:i≠b:=by decide) (ab:listed.getD b false=true:=by kernel_rfl) (hy:YieldsIf P ops (λ_=>True) dy v a:=by exact zalad ⟨by kernel_rfl,λ_ _=>by go_simp⟩):PS P bU ops Q S b (n+1) listed a w:=
 ahB ak (zalfe W) c' jF n listed a w (zalfy ak an) (by simpa using T) hy (λe=>by rw[ab] at e;cases e) h
def ug {dy be:Oper}{n:Nat}{listed:Array Bool}{a:Act}{w:LK}(i:Nat)(v:LY)(ak:ops[i]? = some dy)(hy:YieldsIf P ops S dy v a)(eb:S w)
  (h:PS P bU ops Q S b n (listed.setIfInBounds i true) (a.put dy.dst v) w) (c':∀ c a w,Q (.panic c) (a.put dy.dst v) w->Q (.panic c) a w:=by exact λ_ _ _ h=>h) (fp:ops[b]? = some be:=by rfl)
  (W:Region.noSelect ops=true:=by kernel_rfl) (an:Region.free bU ops listed i=true:=by kernel_rfl) (T:(Region.ready bU ops listed).contains i=true:=by kernel_rfl)
  (jF:i≠b:=by decide) (hw:(be.after.any λe=>Region.binds bU e&&e.on==i)=true:=by kernel_rfl) (ge:listed.getD b false=false:=by kernel_rfl):PS P bU ops Q S b (n+1) listed a w:=by
 refine ar7 ak fp (zalfe W) c' jF ?_ n listed a w ge (zalfy ak an) (by simpa using T) hy eb h;obtain⟨e,he,O⟩:=Array.any_eq_true'.1 hw;exact⟨e,he,by simpa using O⟩
def uop {o:Oper}{i:Nat}{a:Act}{w:LK}{K:Act->LK->Prop}(ay:ops[i]? = some o)(h:if Region.wanted o (yielded ops a.tmps)=true then Oper.wp P o a w K Q else K (a.put o.dst undef) w):wpOp P ops Q i K a w:=by
 unfold wpOp;simp only[ay]
 split
 ·rename_i hw;rw[zalak hw] at h;exact .inl h
 ·rename_i hw;rw[zalah hw] at h;exact h
def Qh {o:Oper}{n:Nat}{listed:Array Bool}{a:Act}{w:LK}(i:Nat)
  (h:∀ fI:Act->LK->Prop,Shut (∀ a w,((listed.setIfInBounds i true).getD b false=false->S w)->PS P bU ops Q S b n (listed.setIfInBounds i true) a w->fI a w)->if Region.wanted o (yielded ops a.tmps)=true then Oper.wp P o a w fI Q else fI (a.put o.dst undef) w)
  (ay:ops[i]? = some o:=by rfl) (T:Region.ready bU ops listed=[i]:=by kernel_rfl):PS P bU ops Q S b (n+1) listed a w:=by
 refine⟨λaJ=>(by rw[T] at aJ;cases aJ),λj aT=>?_⟩
 rw[T] at aT;obtain rfl:=zalaf.1 aT;exact uop ay (h _ λa w E O=>⟨E,O⟩)
def uq2 {o lU:Oper}{n:Nat}{listed:Array Bool}{a:Act}{w:LK}(i j:Nat)
  (h:∀ fI:Act->LK->Prop,Shut (∀ a w,((listed.setIfInBounds i true).getD b false=false->S w)->PS P bU ops Q S b n (listed.setIfInBounds i true) a w->fI a w)->if Region.wanted o (yielded ops a.tmps)=true then Oper.wp P o a w fI Q else fI (a.put o.dst undef) w)
  (cH:∀ fI:Act->LK->Prop,Shut (∀ a w,((listed.setIfInBounds j true).getD b false=false->S w)->PS P bU ops Q S b n (listed.setIfInBounds j true) a w->fI a w)->if Region.wanted lU (yielded ops a.tmps)=true then Oper.wp P lU a w fI Q else fI (a.put lU.dst undef) w)
  (ay:ops[i]? = some o:=by rfl) (yQ:ops[j]? = some lU:=by rfl) (T:Region.ready bU ops listed=[i,j]:=by kernel_rfl):PS P bU ops Q S b (n+1) listed a w:=by
 refine⟨λaJ=>(by rw[T] at aJ;cases aJ),λm aA=>?_⟩
 rw[T] at aA
 rcases zalas.1 aA with rfl|aA
 ·exact uop ay (h _ λa w E O=>⟨E,O⟩)
 ·obtain rfl:=zalaf.1 aA;exact uop yQ (cH _ λa w E O=>⟨E,O⟩)
def UW {listed:Array Bool}{a:Act}{w:LK}(T:Region.ready bU ops listed=[])(h:Q .normal a w):∀ n,PS P bU ops Q S b n listed a w
 | 0=>⟨T,h⟩
 | _+1=>⟨λ_=>h,by rw[T];simp⟩
def MR {id:Nat}{a:Act}{w:LK}(b:Nat)(S:LK->Prop)(aA:P.follows .mixedOrders=true)(h:PS P .any ops Q S b ops.size (Array.replicate ops.size false) a w.drew):(Code.region id ops true).wp P Q a w:=
 zalfp aA (abL _ _ _ _ h)
def RU {P:Program}{w:LK}{ops:Array Oper}{o:Oper}{a:Act}{K:Act->LK->Prop}{Q:Exit->Act->LK->Prop}{fF:Prop}(m3:o.guard=none)(s x:Operand)(t:TypeId)
  (ay:o.op=.call { callee:=.builtin .append,args:=#[s,x],argTypes:=#[t,t] })
  (base ww:Nat) (e:TypeId) (i:TypeInfo) (z:LY) (bytes:Nat) (aH:P.underlying t=some (.slice e)) (ak:P.info? e=some i) (b5:i.zero=some z)
  (hsize:i.size=1) (mZ:i.bytes=bytes) (po:z.cells.size=1)
  (v:LY) (n:Nat) (bQ:List LY) (W:a.eval s=v) (hown:w.ownsRow base e 1 v n bQ)
  (v2:LY) (m:Nat) (news:List LY) (af:a.eval x=v2) (hown2:w.ownsRow ww e 1 v2 m news) (E:∀ u ∈ news,u.oneCell'=true)
  (vp:n+m<=maxLen) (hbytes:(n+m) * bytes<=140737488355328) (hbase:base<=w.heap.size)
  (h:∀ b0 w',w'.ownsRow base e 1 b0 (n+m) (bQ++news)->w.grownBy w' v.ownBlock->K (a.put o.dst b0) w'):if Region.wanted o (yielded ops a.tmps)=true then Oper.wp P o a w K Q else fF:=by
 rcases Nat.eq_zero_or_pos m with rfl|aA
 ·have hw:Region.wanted o (yielded ops a.tmps)=true:=by simp[Region.wanted,m3]
  rw[zalak hw];have A{G}(h:G:=by
  have A{G}(h:G:=by
  exact N):=LG h;exact ax8):=LG h;exact ax9
 ·obtain⟨g,cap,rfl,_,_⟩:=hown2.form aA;refine step_append_lies w m3 s x t ay base e i z 1 bytes aH ak b5 hsize mZ po MK v n bQ W hown (LD g 0) m cap news af hown2.1 (λj u aT=>?_) E aA vp hbytes hbase _ rfl (λdJ cap' w' a b _ _=>h _ _ a b);exact aya
def Qu {w:LK}{b k o:Nat}(h:k≠b)(v:LY):(w.setCell (LD b o) v).heap[k]? = w.heap[k]?:=zalap w (LD b o) v k h
structure FnK (w:LK)(p tb aw no:Nat)(kd:Int)(tx:LW)(cn bC:Nat)(dk ev:Bool)(P aR:List LW):Prop where
 c0:w.cell? (LD p 0)=some (LJ kd)
 c1:w.cell? (LD p 1)=some (LQ tx)
 kids:∃ g n cap,2<=n/\w.cell? (LD p 3)=some (.slice (some (LD g 0)) n cap)/\w.cell? (LD g 0)=some (LC cn)/\w.cell? (LD g 1)=some (LC bC)
 word:w.cell? (LD tb 0)=some (.map (some aw))
 num:∀ X,LX w X->(Instr.lookup 44 (.map (some aw)) (LC p) false).run prog X=.ok (LJ (no:Int)) X
 st:∀ X,LX w X->MC 118 #[LC bC] X λe w'=>e=MN (L9 dk)/\w'=X
 tx:∃ eq uc,w.cell? (LD cn 3)=some (.slice eq P.length uc)/\∀ X,LX w X->MC 125 #[.slice eq P.length uc] X λe w'=>(∃ u,e=MN u/\Na X.heap.size w' u P)/\LX X w'
 nm:∀ X,LX w X->MC 113 #[LC bC,L9 true] X λe w'=>(∃ u,e=MN u/\Na X.heap.size w' u aR)/\LX X w'
 ev:∀ X,LX w X->MC 28 #[LC bC] X λe w'=>e=MN (L9 ev)/\LX X w'
 lp:P.length<=20000
 ln:aR.length<=70000
def Lam (w w':LK)(aQ:Option Addr)(no:Nat)(kd:Int)(tx:LW)(b:Nat)(v:LY):Prop:=
 ((kd==37)=false/\v=.pointer aQ)\/((kd==37)=true/\∃ a' nv,v=MX a'/\w.heap.size<=a'/\a'<b/\w'.heap[a']? = some (UN no nv false (.pointer aQ))/\Na w.heap.size w' nv [tx])
def XR (w:LK)(aQ:Option Addr)(no:Nat)(kd:Int)(tx:LW)(iF op:Bool)(l:List LW)(e:Ending)(w':LK):Prop:=
 (∃ b nv v,e=MN (Pv (MX b) iF)/\w.heap.size<=b/\w'.heap[b]? = some (UN no nv op v)/\Na w.heap.size w' nv l/\Lam w w' aQ no kd tx b v)/\LX w w'
def aFx (w:LK)(p tb aw no cn bC:Nat)(tx:LW)(dk ev:Bool)(P aR:List LW)(aQ:Option Addr)(h:FnK w p tb aw no 5 tx cn bC dk ev P aR) :
  MC 128 #[MX tb,LC p,Pv (.pointer aQ) true] w (XR w aQ no 5 tx true false ((P++[Nr])++aR)):=by
 have A{G}(h:G:=by
 have A{G}(h:G:=by
 have A{G}(h:G:=by
 have cv:w1.heap[w.heap.size]? = some (NK #[.pointer aQ,L9 true] 112):=by rw[c9];exact qG
 have A{G}(h:G:=by
 have iX:w1.cell? (LD w.heap.size 1)=some (L9 true):=by rw[cell_of cv];rfl
 have A{G}(h:G:=by
 have ht:=hide cg;have A{G}(h:G:=by
 clear en jA bT;exact axn):=LG h;exact zsp):=LG h;exact azG):=LG h;exact axp):=LG h;exact axq):=LG h;exact axr):=LG h;exact zsv
def axt (w:LK)(p tb aw no cn bC:Nat)(tx:LW)(ev:Bool)(P aR:List LW)(aQ:Option Addr)(h:FnK w p tb aw no 5 tx cn bC true ev P aR) :
  MC 128 #[MX tb,LC p,Pv (.pointer aQ) false] w (XR w aQ no 5 tx true false ((P++[Nr])++aR)):=by
 have A{G}(h:G:=by
 have ht:=hide cg;have A{G}(h:G:=by
 have A{G}(h:G:=by
 clear k8 gR;exact axn):=LG h;exact apS):=LG h;exact zsp):=LG h;exact zse
