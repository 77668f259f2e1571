import Derived.Test.YtoimgcjbcbhclaaGreatDoorAz5
import Derived.Deep.MidRow
import Derived.Laws.AppendOwnNone
set_option maxRecDepth 100000
set_option maxHeartbeats 0
set_option linter.all false
namespace Go.Proofs.YtoimgcjbcbhclaaGreatDoor
open Go.RowKit Go.Proofs.Tryz
def UH {c:Ctx}{F:OQ}(w:LK)(d i:Nat)(ay:Qc c.l F i≠.out)(h:Ol c w i d):MC 245 #[Nz c] w (OV c w d (NV w.heap.size) (Qc c.l F i)):=
 aiP (F:=F) w d i _ rfl ay h
section
variable {c:Ctx} {F:OQ} (ai:FC c F) (aN:∃ k,VW c.l k F) (U:ZK F)
include c F ai aN U
def aoH:Does c 164 NV (VF c.l F):=by
 intro w d i r W ay h;have A{G}(h:G:=by
 have a1:=hide h.SB;unfold VF PI at W;have aF:=hide W;have bb:=hide ay;clear h W ay;go_enter func164,ntmps164
 cases T:MG c.l MI i with
 | out=>
  exact Qe
 | bad er p=>
  have ag:=hide (NR c MI w i d cO.out MK);exact Ze
 | ok dg bH=>
  have ag:=hide (NR c MI w i d cO.out MK);have A{G}(h:G:=by
  have A{G}(h:G:=by
  cases T:nameP c.l bH with
  | out=>
   exact Qe
  | bad er p=>
   have ag:=hide (name_any c w1 bH d cd.out);exact aoh
  | ok gA a8=>
   have ag:=hide (name_any c w1 bH d cd.out);have A{G}(h:G:=by
   have A{G}(h:G:=by
   cases T:Qc c.l F a8 with
   | out=>
    exact Qe
   | bad er p=>
    have ag:=hide (UH (F:=F) w2 d a8 (by rw[T];nofun) bX.out)
    exact aog
   | ok x3 eI=>
    have ag:=hide (UH (F:=F) w2 d a8 (by rw[T];nofun) bX.out)
    have A{G}(h:G:=by
    have A{G}(h:G:=by
    have jN:=hide (Nj.mono (J:=λb=>w.heap.size<=b/\b<aq.heap.size) (λ_ D ab=>⟨D,ab⟩) _ _ gU.out)
    cases T:MV c.l F d eI with
    | out=>
     exact Qe
    | bad er p=>
     exact ayw
    | ok tb Dp=>
     have cy:=hide (Vr U T);have ag:=hide (QA ai aN aq d eI _ rfl (by rw[T];nofun) f5.out)
     have A{G}(h:G:=by
     intro e fP ae;obtain⟨⟨ss,rfl,av⟩,aY,aa⟩:=ae;have q1:=hide (b1.out.next aa);have nL:=hide aY;have A{G}(h:G:=by
     have ag:=hide (Oi 5 gA (.slice (some (LD ax.heap.size 0)) 2 2) (ax.alloc (.cells #[LC mA,LC ku] 22)) ⟨_,_,_,rfl⟩);have A{G}(h:G:=by
     obtain⟨bZ,cf,cx⟩:=made fi.out dh.out (LU.pair (I:=From w.heap.size) jN.out j9.out) (by simp[maxLen]) #[LC mA,LC ku] rfl 2 rfl 5 gA (ax.heap.size+1) rfl;exact RF aF.out.symm bZ.nv cf cx):=LG h;exact Y8):=LG h;exact aAo):=LG h;exact WC):=LG h;exact auy):=LG h;exact WC):=LG h;exact auK):=LG h;exact WC):=LG h;exact af5):=LG h;exact WC):=LG h;exact TL
def aiR:Does c 173 NV (RQ c.l F):=by
 intro w d i r W ay h;have A{G}(h:G:=by
 have a1:=hide h.SB;unfold RQ PI at W;have aF:=hide W;have bb:=hide ay;clear h W ay;go_enter func173,ntmps173
 cases T:MG c.l MI i with
 | out=>
  exact Qe
 | bad er p=>
  have ag:=hide (NR c MI w i d cO.out MK);exact Ze
 | ok dg bH=>
  have ag:=hide (NR c MI w i d cO.out MK);have A{G}(h:G:=by
  have A{G}(h:G:=by
  have ag:=hide (Ya c w1 bH d cd.out)
  cases D:isName c.l bH with
  | true=>
   rw[D] at ag aF;rw[zalak rfl] at aF;clear D;go_wp2_with fail;refine NJ ?_;rintro e fY ⟨rfl,jU⟩;have kD:=hide (b7.out.next (Ap.of jU));have et:=hide (cd.out.later jU)
   cases T:nameP c.l bH with
   | out=>
    exact Qe
   | bad er p=>
    have ag:=hide (name_any c fY bH d et.out);exact avC
   | ok gA a8=>
    have ag:=hide (name_any c fY bH d et.out);have A{G}(h:G:=by
    intro e w2 ae;obtain⟨⟨v2,rfl,rfl⟩,aY,aa⟩:=ae;have bR:=hide (kD.out.next aa);have bX:=hide aY
    cases T:Qc c.l F a8 with
    | out=>
     exact Qe
    | bad er p=>
     have ag:=hide (UH (F:=F) w2 d a8 (by rw[T];nofun) bX.out)
     exact aog
    | ok x3 eI=>
     have ag:=hide (UH (F:=F) w2 d a8 (by rw[T];nofun) bX.out)
     have A{G}(h:G:=by
     have A{G}(h:G:=by
     have jN:=hide (Nj.mono (J:=λb=>w.heap.size<=b/\b<aq.heap.size) (λ_ D ab=>⟨D,ab⟩) _ _ gU.out)
     cases T:MV c.l F d eI with
     | out=>
      exact Qe
     | bad er p=>
      exact ayw
     | ok tb Dp=>
      have cy:=hide (Vr U T);have ag:=hide (QA ai aN aq d eI _ rfl (by rw[T];nofun) f5.out)
      have A{G}(h:G:=by
      intro e fP ae;obtain⟨⟨ss,rfl,av⟩,aY,aa⟩:=ae;have q1:=hide (b1.out.next aa);have nL:=hide aY;have Ev:=hide a1.out;have A{G}(h:G:=by
      have ag:=hide (Oi 37 gA (.slice (some (LD ax.heap.size 0)) 2 2) (ax.alloc (.cells #[LC mA,LC ku] 22)) ⟨_,_,_,rfl⟩);have A{G}(h:G:=by
      obtain⟨bZ,cf,cx⟩:=made fi.out dh.out (LU.pair (I:=From w.heap.size) jN.out j9.out) (by simp[maxLen]) #[LC mA,LC ku] rfl 2 rfl 37 gA (ax.heap.size+1) rfl;exact RF aF.out.symm bZ.nv cf cx):=LG h;exact Y8):=LG h;exact aAo):=LG h;exact WC):=LG h;exact auy):=LG h;exact WC):=LG h;exact WC
  | false=>
   rw[D] at ag aF;rw[zalah MK] at aF;clear D;go_wp2_with fail;refine NJ ?_;rintro e fY ⟨rfl,jU⟩;have kD:=hide (b7.out.next (Ap.of jU));have et:=hide (cd.out.later jU)
   cases T:Qc c.l F bH with
   | out=>
    exact Qe
   | bad er p=>
    have ag:=hide (UH (F:=F) fY d bH (by rw[T];nofun) et.out)
    exact avC
   | ok gA a8=>
    have ag:=hide (UH (F:=F) fY d bH (by rw[T];nofun) et.out)
    have A{G}(h:G:=by
    intro e w2 ae;obtain⟨⟨v2,rfl,iC,rfl,gy⟩,aY,aa⟩:=ae;have bR:=hide (kD.out.next aa);have bX:=hide aY;have fw:=hide (TD gy kD.out.size);have jN:=hide (Nj.mono (J:=λb=>w.heap.size<=b/\b<w2.heap.size) (λ_ D ab=>⟨D,ab⟩) _ _ fw.out)
    cases T:MV c.l F d a8 with
    | out=>
     exact Qe
    | bad er p=>
     have ag:=hide (QA ai aN w2 d a8 _ rfl (by rw[T];nofun) bX.out)
     exact aog
    | ok tb Dp=>
     have cy:=hide (Vr U T);have ag:=hide (QA ai aN w2 d a8 _ rfl (by rw[T];nofun) bX.out)
     have A{G}(h:G:=by
     intro e fP ae;obtain⟨⟨ss,rfl,av⟩,aY,aa⟩:=ae;have q1:=hide (bR.out.next aa);have nL:=hide aY;have Ev:=hide a1.out;replace jN:=hide (Nj.later (λb D _=>aa.block b D.2 (by have E:=Lu a1;have O:=D.1;omega)) _ _ jN.out)
     have ag:=hide (aa1 w2.heap.size tb ss fP av cy.out);go_wp2_with fail;refine NJ ?_;rintro e ax ⟨rfl,lH,g0⟩;have dh:=hide (q1.out.trans ((Ap.of g0).mono bR.out.size));have fi:=hide (nL.out.ap g0 bX.out.base.size);replace jN:=hide (Nj.later (λb D _=>g0.block b D.2) _ _ jN.out);obtain⟨ku,rfl,ge⟩:=lH.nv;have j9:=hide (Nj.mono (J:=λb=>From w.heap.size b/\w2.heap.size<=b) (λ_ D _=>⟨zalan bR.out.size D,D⟩) _ _ ge)
     have ag:=hide (Oi 37 LH (.slice (some (LD ax.heap.size 0)) 2 2) (ax.alloc (.cells #[LC iC,LC ku] 22)) ⟨_,_,_,rfl⟩);have A{G}(h:G:=by
     obtain⟨bZ,cf,cx⟩:=made fi.out dh.out (LU.pair (I:=From w.heap.size) jN.out j9.out) (by simp[maxLen]) #[LC iC,LC ku] rfl 2 rfl 37 LH (ax.heap.size+1) rfl;exact RF aF.out.symm bZ.nv cf cx):=LG h;exact Y8):=LG h;exact WC):=LG h;exact WC):=LG h;exact af5):=LG h;exact WC):=LG h;exact TL
end
def akf {c:Ctx}{w L:LK}{j d:Nat}(a7:Ol c L j d)(bv:Ap c.R w.heap.size w L)(kd:Int)(tx:LW)(n:Int)(q:Nat)(ac:q=L.heap.size) :
  NV w.heap.size (L.alloc (MB kd tx n QJ)) (.mk kd tx n []) (LC q)/\Ol c (L.alloc (MB kd tx n QJ)) j d/\Ap c.R w.heap.size w (L.alloc (MB kd tx n QJ)):=by
 subst ac;exact⟨(EV.new (KV.nil _ _) bv.size kd tx n).nv,a7.alloc _,bv.alloc bv.size _⟩
def stepped {c:Ctx}{w L:LK}{i d:Nat}(a7:Ol c L i d)(bv:Ap c.R w.heap.size w L)(aT:i+1<c.l.length) :
  Ol c (L.setCell (LD c.R 1) (LJ ((i:Int)+1))) (i+1) d/\Ap c.R w.heap.size w (L.setCell (LD c.R 1) (LJ ((i:Int)+1))):=
 ⟨a7.go2 (i+1) aT LM,bv.setCell (p:=(LD c.R 1)) (zalal rfl) _⟩
def aev {c:Ctx}(f:Nat)(fW:TM f)(w:LK)(d i:Nat)(r:PR Tr)(ay:r≠.out)(q:Nat)(ac:Np PV (fx c.l i)=some q)(an:ae7 q=f)(ae:∀ L,Ol c L i d->MC f #[Nz c] L (OV c L d (NV L.heap.size) r))(h:Ol c w i d) :
  MC 311 #[Nz c] w (OV c w d (NV w.heap.size) r):=by
 have cQ:Hid (∀ L:LK,Ol c L i d->(Instr.lookup 201 (.map (some c.mV)) (LQ (fx c.l i)) true).run prog L=.ok (.tuple #[.func (.func f) #[Mc c.R 0] #[],L9 true]) L):=λL aO=>by
  have:=acX c (fx c.l i) L aO.base.vals;rw[ac] at this;simp only[aEn,an] at this;exact this
 have A{G}(h:G:=by
 have bk:=hide ae;have bb:=hide ay;clear h ay ac an ae;go_enter func311,ntmps311;go_wp2_with fail;refine zle ?_;refine zls ?_;refine wg 3 (.map (some c.mV)) rfl (zalad ⟨by kernel_rfl,λL aO=>by have a2:=Ol.c5 aO;go_simp⟩) cO.out.drew ?_
 exact aDR):=LG h;exact TL
def arM {c:Ctx}(w:LK)(d i:Nat)(x:Sg)(ac:Np PV (fx c.l i)=none)(du:SA 0 (fx c.l i)=some x)(h:Ol c w i d):MC 311 #[Nz c] w (OV c w d (NV w.heap.size) (.ok (.mk x.kd LH 0 []) (i+1))):=by
 have A{G}(h:G:=by
 clear ac;have A{G}(h:G:=by
 have bm:=h.base.len;have go:=hide du;have jL:=hide (Y2 h.base.ends h.lt du);clear du;have br{G}(h:G:=by
 have A{G}(h:G:=by
 have ag:=hide (UU c 0 fY i d et.out);rw[go.out] at ag;simp only[ad4,sgV,Option.isSome] at ag;go_wp2_with fail;refine NJ ?_;rintro e aj ⟨rfl,jV⟩;have mE:=hide (kD.out.next (Ap.of jV));have j':=hide (et.out.later jV);have A{G}(h:G:=by
 have ph:(aj.alloc (.cells #[LQ x.tx,LJ x.kd,LJ x.parts,LJ x.str] 189)).heap[aj.heap.size]? = some (.cells #[LQ x.tx,LJ x.kd,LJ x.parts,LJ x.str] 189):=LP _ _;have kN:=hide ph;clear ph;have ag:=hide (QC c (aj.alloc (.cells #[LQ x.tx,LJ x.kd,LJ x.parts,LJ x.str] 189)) i d oN.out);have br{G}(h:G:=by
 have ak:=Lu jL;obtain⟨km,jH⟩:=stepped nM.out oA.out ak;have cy:=hide (akf (km.alloc (.cells #[LJ (MJ c.l i).kd,LQ (MJ c.l i).tx,LJ (MJ c.l i).n,LJ ((MJ c.l i).pl:Int)] 138)) (jH.alloc jH.size (.cells #[LJ (MJ c.l i).kd,LQ (MJ c.l i).tx,LJ (MJ c.l i).n,LJ ((MJ c.l i).pl:Int)] 138)) x.kd LH 0 (wt.heap.size+1) MP);have ag:=hide (Oi x.kd LH QJ (wt.alloc (.cells #[LJ (MJ c.l i).kd,LQ (MJ c.l i).tx,LJ (MJ c.l i).n,LJ ((MJ c.l i).pl:Int)] 138)) ⟨_,_,_,rfl⟩);exact arp):=LG h;exact ztp):=LG h;exact aBA):=LG h;exact azW):=LG h;exact azy):=LG h;exact TL):=LG h;exact ait
section
variable {c:Ctx} (w:LK) (d i:Nat) (ac:Np PV (fx c.l i)=none) (du:SA 0 (fx c.l i)=none)
include c w d i ac du
def arN (N:(MJ c.l i).kd=1)(h:Ol c w i d):MC 311 #[Nz c] w (OV c w d (NV w.heap.size) (.ok (.mk 23 (MJ c.l i).tx 0 []) (i+1))):=by
 have A{G}(h:G:=by
 clear ac;have A{G}(h:G:=by
 have A{G}(h:G:=by
 have bT:((MJ c.l i).kd==1)=true:=by rw[N];decide
 have il:((MJ c.l i).kd==4)=false:=by rw[N];decide
 have cV:((MJ c.l i).kd==3)=false:=by rw[N];decide
 clear N;have A{G}(h:G:=by
 have ak:=Lu jL;obtain⟨km,jH⟩:=stepped nM.out oA.out ak;have cy:=hide (akf (km.alloc (.cells #[LJ (MJ c.l i).kd,LQ (MJ c.l i).tx,LJ (MJ c.l i).n,LJ ((MJ c.l i).pl:Int)] 138)) (jH.alloc jH.size (.cells #[LJ (MJ c.l i).kd,LQ (MJ c.l i).tx,LJ (MJ c.l i).n,LJ ((MJ c.l i).pl:Int)] 138)) 23 (MJ c.l i).tx 0 (wt.heap.size+1) MP);have ag:=hide (Oi 23 (MJ c.l i).tx QJ (wt.alloc (.cells #[LJ (MJ c.l i).kd,LQ (MJ c.l i).tx,LJ (MJ c.l i).n,LJ ((MJ c.l i).pl:Int)] 138)) ⟨_,_,_,rfl⟩);exact arp):=LG h;exact zsg):=LG h;exact auM):=LG h;exact TL):=LG h;exact ait
def avK (N:(MJ c.l i).kd=4)(h:Ol c w i d):MC 311 #[Nz c] w (OV c w d (NV w.heap.size) (.ok (.mk 18 (MJ c.l i).tx 0 []) (i+1))):=by
 have A{G}(h:G:=by
 clear ac;have A{G}(h:G:=by
 have A{G}(h:G:=by
 have bT:((MJ c.l i).kd==1)=false:=by rw[N];decide
 have il:((MJ c.l i).kd==4)=true:=by rw[N];decide
 have cV:((MJ c.l i).kd==3)=false:=by rw[N];decide
 clear N;have A{G}(h:G:=by
 have ak:=Lu jL;obtain⟨km,jH⟩:=stepped nM.out oA.out ak;have cy:=hide (akf (km.alloc (.cells #[LJ (MJ c.l i).kd,LQ (MJ c.l i).tx,LJ (MJ c.l i).n,LJ ((MJ c.l i).pl:Int)] 138)) (jH.alloc jH.size (.cells #[LJ (MJ c.l i).kd,LQ (MJ c.l i).tx,LJ (MJ c.l i).n,LJ ((MJ c.l i).pl:Int)] 138)) 18 (MJ c.l i).tx 0 (wt.heap.size+1) MP);have ag:=hide (Oi 18 (MJ c.l i).tx QJ (wt.alloc (.cells #[LJ (MJ c.l i).kd,LQ (MJ c.l i).tx,LJ (MJ c.l i).n,LJ ((MJ c.l i).pl:Int)] 138)) ⟨_,_,_,rfl⟩);exact arp):=LG h;exact zsg):=LG h;exact auM):=LG h;exact TL):=LG h;exact ait
def avL (N:(MJ c.l i).kd=3)(h:Ol c w i d):MC 311 #[Nz c] w (OV c w d (NV w.heap.size) (.ok (.mk 17 LH (MJ c.l i).n []) (i+1))):=by
 have A{G}(h:G:=by
 clear ac;have A{G}(h:G:=by
 have A{G}(h:G:=by
 have bT:((MJ c.l i).kd==1)=false:=by rw[N];decide
 have il:((MJ c.l i).kd==4)=false:=by rw[N];decide
 have cV:((MJ c.l i).kd==3)=true:=by rw[N];decide
 clear N;have A{G}(h:G:=by
 have ak:=Lu jL;obtain⟨km,jH⟩:=stepped nM.out oA.out ak;have cy:=hide (akf (km.alloc (.cells #[LJ (MJ c.l i).kd,LQ (MJ c.l i).tx,LJ (MJ c.l i).n,LJ ((MJ c.l i).pl:Int)] 138)) (jH.alloc jH.size (.cells #[LJ (MJ c.l i).kd,LQ (MJ c.l i).tx,LJ (MJ c.l i).n,LJ ((MJ c.l i).pl:Int)] 138)) 17 LH (MJ c.l i).n (wt.heap.size+1) MP);have ag:=hide (Oi 17 LH QJ (wt.alloc (.cells #[LJ (MJ c.l i).kd,LQ (MJ c.l i).tx,LJ (MJ c.l i).n,LJ ((MJ c.l i).pl:Int)] 138)) ⟨_,_,_,rfl⟩);exact arp):=LG h;exact zsg):=LG h;exact auM):=LG h;exact TL):=LG h;exact ait
def avM (E:(MJ c.l i).kd≠1)(aM:(MJ c.l i).kd≠4)(ao:(MJ c.l i).kd≠3)(h:Ol c w i d):MC 311 #[Nz c] w (OV c w d (NV w.heap.size) (.bad 3 (MJ c.l i).pl)):=by
 have A{G}(h:G:=by
 clear ac;have A{G}(h:G:=by
 have bm:=h.base.len;have go:=hide du;clear du;have bT:((MJ c.l i).kd==1)=false:=zalaj.2 E;have il:((MJ c.l i).kd==4)=false:=zalaj.2 aM;have cV:((MJ c.l i).kd==3)=false:=zalaj.2 ao;clear E ao aM;have A{G}(h:G:=by
 have A{G}(h:G:=by
 have ag:=hide (UE c 3 (wt.alloc (.cells #[LJ (MJ c.l i).kd,LQ (MJ c.l i).tx,LJ (MJ c.l i).n,LJ ((MJ c.l i).pl:Int)] 138)) i d AG.out);go_wp2_with fail;refine NJ ?_;rintro e gm ⟨rfl,mX⟩;exact⟨rfl,O3 rfl (uy.out.next (Ap.of mX))⟩):=LG h;exact aA5):=LG h;exact zsg):=LG h;exact TL):=LG h;exact ait
end
def aEz:TM 171:=λ_ _=>by kernel_rfl
def aEA:TM 172:=λ_ _=>by kernel_rfl
def aEB:TM 173:=λ_ _=>by kernel_rfl
def aEC {s:LW}{q:Nat}(h:Np PV s=some q):q<3:=by
 unfold Np at h
 cases an:PV.find? (λe=>decide (s=e.1)) with
 | none=>rw[an] at h;cases h
 | some e=>
  rw[an] at h;have aA:=zalbc an;simp only[zalgj,zalbw] at h;subst h;simp only[PV,zalas,zalcw,zalfb] at aA
  rcases aA with rfl|rfl|rfl <;> decide
def adf {c:Ctx}{F:OQ}(ai:FC c F)(aN:∃ k,VW c.l k F)(U:ZK F):Does c 311 NV (Qx c.l F):=by
 intro w d i r W ay h;unfold Qx at W
 cases ac:Np PV (fx c.l i) with
 | some q=>
  have aC:=aEC ac;have ao:q=0\/q=1\/q=2:=LM;rw[ac] at W
  rcases ao with rfl|rfl|rfl
  ·exact aev 171 aEz w d i r ay 0 ac rfl (λL aO=>Zp ai L d i r W ay aO) h
  ·exact aev 172 aEA w d i r ay 1 ac rfl (λL aO=>aiQ ai aN L d i r W ay aO) h
  ·exact aev 173 aEB w d i r ay 2 ac rfl (λL aO=>aiR ai aN U L d i r W ay aO) h
 | none=>
  rw[ac] at W;simp only at W
  cases hg:SA 0 (fx c.l i) with
  | some x=>
   rw[hg] at W;subst W;exact arM w d i x ac hg h
  | none=>
   rw[hg] at W;simp only at W
   by_cases E:(MJ c.l i).kd=1
   ·rw[zalak E] at W;subst W;exact arN w d i ac hg E h
   ·by_cases aM:(MJ c.l i).kd=4
    ·rw[zalah E,zalak aM] at W;subst W;exact avK w d i ac hg aM h
    ·by_cases ao:(MJ c.l i).kd=3
     ·rw[zalah E,zalah aM,zalak ao] at W;subst W;exact avL w d i ac hg ao h
     ·rw[zalah E,zalah aM,zalah ao] at W;subst W;exact avM w d i ac hg E aM ao h
def Yb {c:Ctx}{F:OQ}(ai:FC c F)(w:LK)(d i:Nat)(r:PR Tr)(N:(MJ c.l i).kd≠6)(W:Pj c.l F d i=r)(ay:r≠.out)(h:Ol c w i d):MC 168 #[Nz c] w (OV c w d (EV w.heap.size) r):=by
 have iv:=Po c.R 176;have jM:=hide N;clear N;have A{G}(h:G:=by
 have a1:=hide h.SB;unfold Pj at W;have aF:=hide W;have bb:=hide ay;clear h W ay;go_enter func168,ntmps168;have ag:=hide (af8 c w i d cO.out jM.out);go_wp2_with fail;refine NJ ?_;rintro e wk ⟨rfl,y2,qq⟩;have rt:=hide y2;have q2:=hide (fG.out.next qq)
 cases T:Px c.l F d (i+1) with
 | out=>
  exact Qe
 | bad er p=>
  have ag:=hide (Zp ai wk d (i+1) _ rfl (by rw[T];nofun) rt.out)
  exact ayO
 | ok dg bH=>
  have ag:=hide (Zp ai wk d (i+1) _ rfl (by rw[T];nofun) rt.out)
  have A{G}(h:G:=by
  have A{G}(h:G:=by
  have b7:=hide (q2.out.next aa);have cd:=hide aY;have dO:=hide (TD eH q2.out.size)
  cases T:MO c.l F.st d bH with
  | out=>
   exact Qe
  | bad er p=>
   have ag:=hide (ZO ai w1 d bH cd.out (by rw[T];nofun))
   exact aoh
  | ok gA a8=>
   have ag:=hide (ZO ai w1 d bH cd.out (by rw[T];nofun))
   have A{G}(h:G:=by
   intro e w2 ae;obtain⟨⟨v2,rfl,iC,rfl,gy⟩,aY,aa⟩:=ae;have bR:=hide (b7.out.next aa);have bX:=hide aY;replace dO:=hide (Zg dO.out aa a1.out b7.out.size gy);have ag:=hide (Oi (Oq (MJ c.l i).tx) LH (.slice (some (LD w2.heap.size 0)) 2 2) (w2.alloc (.cells #[LC ep,LC iC] 22)) ⟨_,_,_,rfl⟩);have A{G}(h:G:=by
   obtain⟨bZ,cf,cx⟩:=made bX.out bR.out dO.out (by simp[maxLen]) #[LC ep,LC iC] rfl 2 rfl (Oq (MJ c.l i).tx) LH (w2.heap.size+1) rfl;exact RF aF.out.symm bZ cf cx):=LG h;exact Y8):=LG h;exact WC):=LG h;exact ad6):=LG h;exact WC):=LG h;exact TL
def aGM {b:Nat}{w1:LK}{v0 v1 v2 v3:LY}(bq:w1.heap[b]? = some (.cells #[v0,v1,v2,v3] 138)):aiS b w1 v0 v1 v2 v3:=
 ⟨by rw[cell_of bq];rfl,by rw[cell_of bq];rfl,by rw[cell_of bq];rfl,by rw[cell_of bq];rfl,Ny bq,lt_of_heap bq⟩
def amj {c:Ctx}{F:OQ}(ai:FC c F):Does c 243 NV (Ru c.l F):=by
 have iv:=Po c.R 243;intro w d i r W ay h;have A{G}(h:G:=by
 have a1:=hide h.SB;unfold Ru at W;have aF:=hide W;have bb:=hide ay;clear h W ay;go_enter func243,ntmps243;have ag:=hide (QC c w i d cO.out);unfold tkV at ag;go_wp2_with fail;refine NJ ?_;rintro e wt ⟨rfl,rW⟩;have oA:=hide (fG.out.next (Ap.of rW));have nM:=hide (cO.out.later rW);have A{G}(h:G:=by
 have pX:Hid ((wt.alloc (.cells #[LJ (MJ c.l i).kd,LQ (MJ c.l i).tx,LJ (MJ c.l i).n,LJ ((MJ c.l i).pl:Int)] 138)).heap[wt.heap.size]? = some (.cells #[LJ (MJ c.l i).kd,LQ (MJ c.l i).tx,LJ (MJ c.l i).n,LJ ((MJ c.l i).pl:Int)] 138)):=LP _ _;have sT:Hid (c.R<wt.heap.size):=zalau a1.out oA.out.size
 cases T:F.pr 2 d i with
 | out=>
  exact Qe
 | bad er p=>
  have A{G}(h:G:=by
  rw[T] at ag aF;simp only[Oc] at aF;clear T;have A{G}(h:G:=by
  exact⟨rfl,O3 aF.out.symm (uy.out.next aa)⟩):=LG h;exact U8):=LG h;exact aBL
 | ok dg bH=>
  have A{G}(h:G:=by
  have A{G}(h:G:=by
  have A{G}(h:G:=by
  have b7:=hide (uy.out.next aa);have cd:=hide aY;have dO:=hide (TD eH uy.out.size);replace pX:=hide ((aa.block _ (lt_of_heap pX.out) (by have:=Lu sT;omega)).trans pX.out)
  have ag:=hide (QD c w1 bH d cd.out);go_wp2_with fail;refine NJ ?_;rintro e cT ⟨rfl,vG⟩;have wF:=hide (b7.out.next (Ap.of vG));have AH:=hide (cd.out.later vG);replace dO:=hide (QE dO.out (Ap.of vG) a1.out);replace pX:=hide ((vG.block _ (lt_of_heap pX.out)).trans pX.out)
  by_cases af:fx c.l bH=Xr
  ·rw[zalak af] at aF;have qc:((fx c.l bH).toList==[61])=true:=RX (b:=Xr) rfl af;have Ez:Hid (MG c.l Xr bH=.ok () (bH+1)):=by
    show _=_
    unfold MG;rw[zalak af]
   clear af;obtain⟨u1,bf,za,_,_⟩:=dO.out.opens;obtain⟨By,_,_,_,_⟩:=node_cells za;clear za
   by_cases hx:dg.kd=23
   ·have FM:(dg.kd != 23)=false:=by rw[hx];rfl
    rw[zalak (zalad hx)] at aF;clear hx;exact aC4
   ·have FM:(dg.kd != 23)=true:=zaleg.2 hx
    by_cases rL:dg.kd=36
    ·have FN:(dg.kd != 36)=false:=by rw[rL];rfl
     rw[zalak (zalal rL)] at aF;clear hx rL;exact aC4
    ·have FN:(dg.kd != 36)=true:=zaleg.2 rL;rw[zalah (λa2=>a2.elim hx rL)] at aF;clear hx rL;obtain⟨cg,ky,gl,lX,tf,tlt⟩:=aGM pX.out;have ag:=hide (abp c 1 (MJ c.l i) cT);unfold tkV at ag;go_wp2_with fail;refine NJ ?_;rintro e gm ⟨rfl,mX⟩;exact⟨rfl,O3 aF.out.symm (wF.out.next (Ap.of mX))⟩
  ·rw[zalah af] at aF;have qc:((fx c.l bH).toList==[61])=false:=RY (b:=Xr) rfl af;clear af;go_wp2;go_ret;exact RF aF.out.symm ⟨ep,rfl,dO.out⟩ AH.out wF.out):=LG h;exact ad6):=LG h;exact WC):=LG h;exact aBL):=LG h;exact aA5):=LG h;exact TL
def amk (l:List Tk)(F:OQ)(d i:Nat):Qp l F d i=(Pj l F d i).bind λn aX=>
  if fx l aX=VE then (MO l F.st d (aX+1)).bind λe9 ca=>.ok (.mk n.kd n.tx n.n (n.kids++[e9])) ca else .ok n aX:=by
 unfold Qp Pj
 cases Px l F d (i+1) with
 | out=>rfl
 | bad er p=>rfl
 | ok v az=>
  simp only[bind_ok]
  cases MO l F.st d az with
  | out=>rfl
  | bad er p=>rfl
  | ok s aX=>rfl
def agZ {l:List Tk}{F:OQ}{d i j:Nat}{t:Tr}(h:Pj l F d i=.ok t j):t.kids.length=2:=by
 unfold Pj at h
 cases E:Px l F d (i+1) with
 | out=>rw[E] at h;cases h
 | bad er p=>rw[E] at h;cases h
 | ok v az=>
  rw[E,bind_ok] at h
  cases O:MO l F.st d az with
  | out=>rw[O] at h;cases h
  | bad er p=>rw[O] at h;cases h
  | ok s aX=>rw[O,bind_ok] at h;cases h;rfl
def aiU {c:Ctx}{F:OQ}(ai:FC c F)(w:LK)(d i:Nat)(r:PR Tr)(N:(MJ c.l i).kd≠6)(W:Qp c.l F d i=r)(ay:r≠.out)(h:Ol c w i d):MC 167 #[Nz c] w (OV c w d (NV w.heap.size) r):=by
 have iv:=Po c.R 176;have jM:=hide N;have A{G}(h:G:=by
 rw[amk] at W;clear N;have A{G}(h:G:=by
 have a1:=hide h.SB;have aF:=hide W;have bb:=hide ay;clear h W ay;go_enter func167,ntmps167
 cases T:Pj c.l F d i with
 | out=>
  exact Qe
 | bad er p=>
  have ag:=hide (Yb ai w d i _ jM.out rfl (by rw[T];nofun) cO.out)
  exact Ze
 | ok dg bH=>
  have fv:=hide (agZ T);have ag:=hide (Yb ai w d i _ jM.out rfl (by rw[T];nofun) cO.out)
  have A{G}(h:G:=by
  have A{G}(h:G:=by
  have dO:=hide (EV.mono eH fG.out.size);obtain⟨bq,u0,wm,rfl,lL⟩:=dO.out.opens;have bI:=hide lL
  by_cases af:fx c.l bH=VE
  ·rw[zalak af] at aF;have ag:=hide (RD c VE w1 bH d cd.out af MK);clear af;go_wp2_with fail;refine NJ ?_;rintro e w2 ⟨rfl,bG,cI⟩;have bX:=hide bG;have bR:=hide (b7.out.next cI);replace bI:=hide (Open.later bI.out cI a1.out);have A{G}(h:G:=by
   cases T:MO c.l F.st d (bH+1) with
   | out=>
    exact Qe
   | bad er p=>
    have ag:=hide (ZO ai w2.drew d (bH+1) bX.out.drew (by rw[T];nofun))
    have A{G}(h:G:=by
    refine zlb ?_;refine wt 5 (Nz c) ?_;refine wt 6 (Nz c) ?_;refine wt 7 (.func (.func 176) #[Nz c] #[]) ?_;refine wr2 4 8 (λK U=>?_) λK U=>?_
    ·go_simp;refine Qd ?_;clear U K;refine O7 8 λK U=>?_;go_simp;exact ay8
    ·go_simp;exact ay8):=LG h;exact alF
   | ok jJ hV=>
    have ag:=hide (ZO ai w2.drew d (bH+1) bX.out.drew (by rw[T];nofun))
    have A{G}(h:G:=by
    refine WG (H:=λax bu=>Ap c.R w2.heap.size w2 ax/\Ol c ax hV d/\Nj (From w2.heap.size) ax jJ bu) (G:=?G1) (λez=>?_) ?_;rotate_left
    ·refine zlb ?_;refine wt 5 (Nz c) ?_;refine wt 6 (Nz c) ?_;refine wt 7 (.func (.func 176) #[Nz c] #[]) ?_;refine wr2 4 8 (λK U=>?_) λK U=>?_
     ·go_simp;refine Qd ?_;clear U K;refine O7 8 λK U=>?_;have A{G}(h:G:=by
      have cW:=((Ap.refl c.R w2.heap.size w2).drew).next aa;have fb:Hid (Ap c.R w2.heap.size w2 ax/\Ol c ax hV d/\Nj (From w2.heap.size) ax jJ bu):=⟨cW,aY,fd⟩;exact avc):=LG h;go_simp;exact af6
     ·have A{G}(h:G:=by
      have cW:=((Ap.refl c.R w2.heap.size w2).drew).next aa;have fb:Hid (Ap c.R w2.heap.size w2 ax/\Ol c ax hV d/\Nj (From w2.heap.size) ax jJ bu):=⟨cW,aY,fd⟩;exact avd):=LG h;go_simp;exact af6
    intro ax bu dC;obtain⟨cW,aY,fd⟩:=dC;have dh:=hide (bR.out.next cW);have fi:=hide aY;have b':=hide (Open.later bI.out cW a1.out);have g7:=hide (Open.apart bI.out bR.out.size cW a1.out (LU.cons fd LU.nil));obtain⟨dW,dX,d3⟩:=b'.out.cell;have hlen:=LU.length _ _ b'.out.kids;have hown:=b'.out.row;rw[hlen] at hown;have HOWN:=hide hown;have bK:=dh.out.size;have ex:dg.kids.length<=3:=by rw[fv.out];decide
    clear hlen;refine O7 10 λK U=>?_;refine step_append_lies _ rfl _ _ 46 rfl w.heap.size 22 a6 Pe 1 8 zalbk b4 bL bM bP rfl MK _ _ _ rfl (HOWN.out.alloc _) (LD ax.heap.size 0) 1 1 [LC bu] rfl rfl (OT ax bu _ rfl) (one_one bu) MK (by unfold maxLen;omega) LM OM (ax.heap.size+1) MP ?_
    intro g cap aq hown3 dD dc _;refine U _ _ ?_;clear U K;have cD:=hide (XH b'.out g7.out fi.out dh.out dl.out hown3 dD dc);have df:aq.cell? (LD bq 3)=ax.cell? (LD bq 3)/\aq.frozen? (LD bq 3)=ax.frozen? (LD bq 3):=aoc
    obtain⟨ek,el⟩:=df;rw[dW] at ek;rw[dX 3] at el;clear dc;refine wt 11 (LC bq) ?_;refine wt 12 (Mc bq 3) ?_;refine O7 13 λK U=>?_;go_simp;refine U _ _ ?_;clear U K ek el dW dX d3;refine zalec Nw ?_ _;go_simp;obtain⟨bZ,cf,cx⟩:=Lu cD;have fL:=hide bZ;have f4:=hide cf;have hL:=hide cx;go_wp2;go_ret;exact RF aF.out.symm fL.out.nv f4.out hL.out):=LG h;exact zsz):=LG h;exact ab5
  ·rw[zalah af] at aF;have ag:=hide (Sr c VE w1 bH d cd.out af);clear af;go_wp2_with fail;refine NJ ?_;rintro e w2 ⟨rfl,a5⟩;have bX:=hide (cd.out.later a5);have bR:=hide (b7.out.next (Ap.of a5));replace bI:=hide (Open.later bI.out (Ap.of a5) a1.out);go_wp2;go_ret;exact RF aF.out.symm bI.out.ev.nv bX.out bR.out):=LG h;exact auL):=LG h;exact WC):=LG h;exact TL):=LG h;exact alN
def aoJ {c:Ctx}{b:Nat}{w1 cu:LK}{i d:Nat}{v0 v1 v2 v3:LY}(h:Ol c w1 i d)(gK:c.lo<=b)(ep:w1.heap[b]? = some Ri)
  (aO:cu=(((w1.setCell (LD b 0) v0).setCell (LD b 1) v1).setCell (LD b 2) v2).setCell (LD b 3) v3) :
  Ol c cu i d/\Below b w1 cu/\aiS b cu v0 v1 v2 v3:=by
 have bA:Below b w1 cu:=by
  rw[aO];exact((((zalbd _ w1).setCell (p:=(LD b 0)) Nh v0).setCell (p:=(LD b 1)) Nh v1).setCell (p:=(LD b 2)) Nh v2).setCell (p:=(LD b 3)) Nh v3
 refine⟨h.ap bA gK,bA,c160 ?_⟩;rw[aO];exact aED ep v0 v1 v2 v3
section
variable {c:Ctx} (w:LK) (d i:Nat)
include c w d i
def arO (N:(MJ c.l i).kd=1)(h:Ol c w i d):MC 312 #[Nz c] w λe w'=>e=MN (L9 true)/\LX w w':=by
 have cO:=hide h;have bT:((MJ c.l i).kd==1)=true:=by rw[N];decide
 have cV:((MJ c.l i).kd==3)=false:=by rw[N];decide
 have il:((MJ c.l i).kd==4)=false:=by rw[N];decide
 exact avy
def avN (N:(MJ c.l i).kd=3)(h:Ol c w i d):MC 312 #[Nz c] w λe w'=>e=MN (L9 true)/\LX w w':=by
 have cO:=hide h;have bT:((MJ c.l i).kd==1)=false:=by rw[N];decide
 have cV:((MJ c.l i).kd==3)=true:=by rw[N];decide
 have il:((MJ c.l i).kd==4)=false:=by rw[N];decide
 exact avy
def avO (N:(MJ c.l i).kd=4)(h:Ol c w i d):MC 312 #[Nz c] w λe w'=>e=MN (L9 true)/\LX w w':=by
 have cO:=hide h;have bT:((MJ c.l i).kd==1)=false:=by rw[N];decide
 have cV:((MJ c.l i).kd==3)=false:=by rw[N];decide
 have il:((MJ c.l i).kd==4)=true:=by rw[N];decide
 exact avy
end
section
variable {c:Ctx} (w:LK) (d i:Nat) (E:(MJ c.l i).kd≠1) (ao:(MJ c.l i).kd≠3) (aM:(MJ c.l i).kd≠4)
include c w d i E ao aM
def avP (q:Nat)(ac:Np PV (fx c.l i)=some q)(h:Ol c w i d):MC 312 #[Nz c] w λe w'=>e=MN (L9 true)/\LX w w':=by
 have A{G}(h:G:=by
 have cQ:Hid (∀ L:LK,Ol c L i d->(Instr.lookup 201 (.map (some c.mV)) (LQ (fx c.l i)) true).run prog L=.ok (.tuple #[.func (.func (ae7 q)) #[Mc c.R 0] #[],L9 true]) L):=λL aO=>az1
 clear h E ao aM ac;have A{G}(h:G:=by
 refine wg 6 (.tuple #[.func (.func (ae7 q)) #[Mc c.R 0] #[],L9 true]) rfl (zalad ⟨by kernel_rfl,λL aO=>by have a2:=cQ.out L aO;go_simp⟩) et.out ?_
 refine wh 7 (.tuple #[.func (.func (ae7 q)) #[Mc c.R 0] #[],L9 true]) et.out ?_;refine wh 8 (.func (.func (ae7 q)) #[Mc c.R 0] #[]) et.out ?_;refine wh 9 (L9 true) et.out ?_;refine wh 10 (.func (.func (ae7 q)) #[Mc c.R 0] #[]) et.out ?_;refine wh 11 (L9 true) et.out ?_;refine XY ?_;go_wp2;go_ret;exact⟨rfl,pH.out⟩):=LG h;exact at6):=LG h;exact auk
def arP (ac:Np PV (fx c.l i)=none)(du:Xx (fx c.l i)=none)(h:Ol c w i d):MC 312 #[Nz c] w λe w'=>e=MN (L9 false)/\LX w w':=by
 have A{G}(h:G:=by
 have A{G}(h:G:=by
 have wY:Hid (∀ L:LK,Ol c L i d->(Instr.lookup 199 (.map (some c.mS)) (LQ (fx c.l i)) true).run prog L=.ok (.tuple #[.agg #[U7,LJ 0,LJ 0,LJ 0],L9 false]) L):=λL aO=>by
  have:=V6 c (fx c.l i) L aO.base.signs;rw[du] at this;exact this
 clear h E ao aM ac du;have A{G}(h:G:=by
 have A{G}(h:G:=by
 refine wpAnyH_ready (rs:=[5,10]) Nw MP (AllReadyH.cons rfl (λK U=>?_) (AllReadyH.cons rfl (λK U=>?_) AllReadyH.nil))
 ·have A{G}(h:G:=by
  have A{G}(h:G:=by
  refine aq8 ?_;refine UK 11 λK U=>?_;go_simp;have bX:=hide (cd.out.alloc (.cells #[U7,LJ 0,LJ 0,LJ 0] 189));have f6:=hide (ba.out.alloc ba.out.size (.cells #[U7,LJ 0,LJ 0,LJ 0] 189));exact ayT):=LG h;exact aBW):=LG h;go_simp;exact aBk
 ·have A{G}(h:G:=by
  have A{G}(h:G:=by
  refine UK 11 λK U=>?_;go_simp;clear lV e8 lW ui j5 SB;obtain⟨cu,hA⟩:∃ cu,cu=(((w1.setCell (LD fY.heap.size 0) (U7)).setCell (LD fY.heap.size 1) (LJ 0)).setCell (LD fY.heap.size 2) (LJ 0)).setCell (LD fY.heap.size 3) (LJ 0):=⟨_,rfl⟩;obtain⟨bG,a5,⟨gP,iX,e9,ot,lb,qX⟩⟩:=aoJ (v0:=U7) (v1:=LJ 0) (v2:=LJ 0) (v3:=LJ 0) cd.out dl.out rz.out hA;have bX:=hide bG;have f6:=hide (ba.out.trans (a5.mono pH.out.size));rw[<-hA];clear hA;exact ayT):=LG h;exact aBW):=LG h;go_simp;exact aAs):=LG h;exact aAz):=LG h;exact at6):=LG h;exact ait):=LG h;exact auk
def arQ (x:Sg)(ac:Np PV (fx c.l i)=none)(du:Xx (fx c.l i)=some x)(h:Ol c w i d):MC 312 #[Nz c] w λe w'=>e=MN (L9 (decide (x.parts<2)))/\LX w w':=by
 have A{G}(h:G:=by
 have A{G}(h:G:=by
 have wY:Hid (∀ L:LK,Ol c L i d->(Instr.lookup 199 (.map (some c.mS)) (LQ (fx c.l i)) true).run prog L=.ok (.tuple #[.agg #[LQ x.tx,LJ x.kd,LJ x.parts,LJ x.str],L9 true]) L):=λL aO=>by
  have:=V6 c (fx c.l i) L aO.base.signs;rw[du] at this;exact this
 clear h E ao aM ac du;have A{G}(h:G:=by
 have A{G}(h:G:=by
 refine wpAnyH_ready (rs:=[5,10]) Nw MP (AllReadyH.cons rfl (λK U=>?_) (AllReadyH.cons rfl (λK U=>?_) AllReadyH.nil))
 ·have A{G}(h:G:=by
  have A{G}(h:G:=by
  refine aq8 ?_;refine UK 11 λK U=>?_;go_simp;have bX:=hide (cd.out.alloc (.cells #[LQ x.tx,LJ x.kd,LJ x.parts,LJ x.str] 189));have f6:=hide (ba.out.alloc ba.out.size (.cells #[LQ x.tx,LJ x.kd,LJ x.parts,LJ x.str] 189));exact ayR):=LG h;exact aBI):=LG h;go_simp;exact aBk
 ·have A{G}(h:G:=by
  have A{G}(h:G:=by
  refine UK 11 λK U=>?_;go_simp;clear lV e8 lW ui j5 SB;obtain⟨cu,hA⟩:∃ cu,cu=(((w1.setCell (LD fY.heap.size 0) (LQ x.tx)).setCell (LD fY.heap.size 1) (LJ x.kd)).setCell (LD fY.heap.size 2) (LJ x.parts)).setCell (LD fY.heap.size 3) (LJ x.str):=⟨_,rfl⟩;obtain⟨bG,a5,⟨gP,iX,e9,ot,lb,qX⟩⟩:=aoJ (v0:=LQ x.tx) (v1:=LJ x.kd) (v2:=LJ x.parts) (v3:=LJ x.str) cd.out dl.out rz.out hA;have bX:=hide bG;have f6:=hide (ba.out.trans (a5.mono pH.out.size));rw[<-hA];clear hA;exact ayR):=LG h;exact aBI):=LG h;go_simp;exact aAs):=LG h;exact aAz):=LG h;exact at6):=LG h;exact ait):=LG h;exact auk
end
def af9 (c:Ctx):Asks c 312 (isVal c.l):=by
 intro w d i h;unfold isVal
 by_cases E:(MJ c.l i).kd=1
 ·rw[E];exact arO w d i E h
 ·by_cases ao:(MJ c.l i).kd=3
  ·rw[ao];exact avN w d i ao h
  ·by_cases aM:(MJ c.l i).kd=4
   ·rw[aM];exact avO w d i aM h
   ·rw[zalaj.2 E,zalaj.2 ao,zalaj.2 aM];simp only[zalbn]
    cases ac:Np PV (fx c.l i) with
    | some q=>exact avP w d i E ao aM q ac h
    | none=>
     cases du:Xx (fx c.l i) with
     | none=>exact arP w d i E ao aM ac du h
     | some x=>
      have af:=arQ w d i E ao aM x ac du h
      cases ae:decide (x.parts<2) with
      | true=>rw[ae] at af;simpa[Option.filter,ae] using af
      | false=>rw[ae] at af;simpa[Option.filter,ae] using af
def aDI {c:Ctx}{w w1:LK}{j d:Nat}{t:Tr}{p:Nat}{u:LY}{ps:List Nat}(eS:Open w.heap.size w1 t p u ps)(a7:Ol c w1 j d)(bv:Ap c.R w.heap.size w w1)(gK:c.lo<=w.heap.size) :
  EV w.heap.size (w1.setCell (LD p 3) u) (.mk t.kd t.tx t.n (t.kids++[])) (LC p)/\Ol c (w1.setCell (LD p 3) u) j d/\Ap c.R w.heap.size w (w1.setCell (LD p 3) u):=by
 have hset:∀ b,b≠p->(w1.setCell (LD p 3) u).heap[b]? = w1.heap[b]?:=λb D=>zalap w1 (LD p 3) _ b D;have bA:Below w.heap.size w1 (w1.setCell (LD p 3) u):=O4.setCell (p:=(LD p 3)) eS.low _;refine⟨?_,a7.ap bA gK,bv.trans (Ap.of bA)⟩;rw[zalba];refine⟨p,u,ps,rfl,eS.low,by rw[heap_set eS.blk];rfl,?_,eS.own,LU.later (λb D _=>hset b D.2.1) _ _ eS.kids⟩
 exact L8 (I:=λb=>b≠p) (λb D _=>hset b D) (λg hg e=>eS.own (by rw[hg,e])) eS.row
def aDJ {c:Ctx}{w w1 aq:LK}{j d:Nat}{t:Tr}{ci:List Tr}{p g cap m:Nat}{u:LY}{ps bf:List Nat}(eS:Open w.heap.size w1 t p u ps)(af:LU (λb=>w.heap.size<=b/\b≠p/\u.ownBlock≠some b) w1 (t.kids++ci) (ps++bf))(a7:Ol c w1 j d)(bv:Ap c.R w.heap.size w w1)(gK:c.lo<=w.heap.size)
  (hown:aq.ownsRow w.heap.size 22 1 (.slice (some (LD g 0)) m cap) m (ps.map LC++bf.map LC)) (aA:m=ps.length+bf.length) (cS:w1.grownBy aq u.ownBlock) (hg:u.ownBlock=some g\/g=w1.heap.size) :
  EV w.heap.size (aq.setCell (LD p 3) (.slice (some (LD g 0)) m cap)) (.mk t.kd t.tx t.n (t.kids++ci)) (LC p) /\
  Ol c (aq.setCell (LD p 3) (.slice (some (LD g 0)) m cap)) j d /\
  Ap c.R w.heap.size w (aq.setCell (LD p 3) (.slice (some (LD g 0)) m cap)):=by
 have hrow:∀ k,u.ownBlock=some k->w.heap.size<=k:=λk N=>(Me eS.row k N).2;have hgrow:Below w.heap.size w1 aq:=(zalbd w.heap.size w1).grown cS bv.size hrow;have hset:Below w.heap.size w1 (aq.setCell (LD p 3) (.slice (some (LD g 0)) m cap)):=hgrow.setCell (p:=(LD p 3)) eS.low _;refine⟨?_,a7.ap hset gK,bv.trans (Ap.of hset)⟩;exact aeb eS.low eS.blk eS.own af (by rw[zalam];exact hown) (by rw[aA,zalab]) cS hg
def aBE:TM 312:=λ_ _=>by kernel_rfl
def aBF:TM 313:=λ_ _=>by kernel_rfl
def LV.many {B:Nat}{w:LK}{ts:List Tr}{v:LY}(h:LV B w ts v)(d':ts≠[]):∃ g cap bf,v=.slice (some (LD g 0)) ts.length cap/\bf.length=ts.length/\LU (From B) w ts bf/\(∀ j u,(bf.map LC)[j]? = some u->w.cell? (((LD g 0):Addr).add j)=some u):=by
 obtain⟨⟨bf,T,N⟩,_,_⟩:=h;have ab:=LU.length _ _ N;have ae:0<bf.length:=by rw[ab];exact List.length_pos_iff.2 d'
 obtain⟨g,cap,a0,am⟩:=OB T ae;refine⟨g,cap,bf,by rw[a0,ab],ab,LU.mono (λb D _=>D.1) _ _ N,λj u aT=>?_⟩;rw[Addr.add_mid,zalda];rw[zalbx] at aT
 cases ac:bf[j]? with
 | none=>rw[ac] at aT;cases aT
 | some q=>
  rw[ac] at aT;obtain⟨aC,he⟩:=zalcy.1 ac;rw[am j aC,he];exact aT
def arj (bf:List Nat):∀ u ∈ bf.map LC,u.oneCell'=true:=by
 intro u aS;obtain⟨q,_,rfl⟩:=zalcn.1 aS;rfl
def Open.cap {B:Nat}{w:LK}{t:Tr}{p:Nat}{eq:Option Addr}{n uc:Nat}{ps:List Nat}(h:Open B w t p (.slice eq n uc) ps)(ae:0<t.kids.length):n<=uc/\∃ g,eq=some (LD g 0):=by
 have ab:=LU.length _ _ h.kids
 rcases h.row.2 with av|⟨g,cap,cj,a0,_,_,E,_⟩
 ·omega
 ·simp only[zalcb] at a0;obtain⟨rfl,rfl,rfl⟩:=a0;exact⟨E,g,rfl⟩
def aml {c:Ctx}{F:OQ}(ai:FC c F)(aN:∃ k,VW c.l k F)(U:ZK F):Does c 303 NV (Rt c.l F):=by
 have iv:=Po c.R 312;have CG:=Po c.R 313;intro w d i r W ay h;have dl:=hide h.base.size;have cG:=hide h.base.ends;have cQ:=hide h.base.len;obtain⟨a6,b4,bL,bM,bP⟩:=zalbl info22;have gV:=hide aN;have nu:=hide ai;have A{G}(h:G:=by
 have a1:=hide h.SB;unfold Rt at W;have aF:=hide W;have bb:=hide ay;clear h W ay;go_enter func303,ntmps303
 cases T:Qx c.l F d i with
 | out=>
  exact Qe
 | bad er p=>
  have ag:=hide (adf ai aN U w d i _ rfl (by rw[T];nofun) cO.out)
  exact Ze
 | ok dg bH=>
  have ag:=hide (adf ai aN U w d i _ rfl (by rw[T];nofun) cO.out)
  have A{G}(h:G:=by
  have A{G}(h:G:=by
  have A{G}(h:G:=by
  clear aa;clear aN U;go_wp2_with fail
  go_loopw [3] (λv wr=>∃ k t j p,v=LC p/\Py c.l F d k t j=r/\Ol c wr j d/\Ap c.R w.heap.size w wr/\Nj (From w.heap.size) wr t p) (λ_ wr=>c.l.length - nxt c wr)
  case atStart=>exact⟨F.fuel,dg,bH,ep,rfl,aF.out,cd.out,b7.out,dO.out⟩
  case round=>
   obtain⟨k,t,j,bq,rfl,ac,aY,dq,hT⟩:=hrel
   cases k with
   | zero=>exact absurd ac.symm bb.out
   | succ k=>
    have E4:=hide aY;have nK:=hide aY;have DP:=hide dq;have nE:=hide hT;have hj:=aY.lt;have bm:=Lu cQ;unfold Py at ac;have aF:=hide ac;have ag:=hide (QD c wr j d aY);clear ac
    by_cases af:fx c.l j=afn
    ·rw[zalak af] at aF;have qc:((fx c.l j).toList==[46])=true:=RX (b:=afn) rfl af;have ak:=Sj cG.out hj af MK;clear af;have A{G}(h:G:=by
     have eU:=ig.out.c1;have rY:=ig.out.fz;have ed:=ig.out.SB;obtain⟨km,jH⟩:=stepped ig.out iH.out ak;have AF:=hide km;have zS:=hide jH;replace nE:=hide (QE (c:=c) nE.out (Ap.setCell (R:=c.R) (Ap.refl _ _ _) (p:=(LD c.R 1)) (zalal rfl) (LJ ((j:Int)+1))) a1.out)
     cases T:nameP c.l (j+1) with
     | out=>
      exact Qe
     | bad er p=>
      have ag:=hide (name_any c (cT.setCell (LD c.R 1) (LJ ((j:Int)+1))) (j+1) d AF.out);rw[T] at ag aF;simp only[Oc] at aF;clear T;have A{G}(h:G:=by
      exact⟨rfl,O3 aF.out.symm (zS.out.next aa)⟩):=LG h;exact U8
     | ok gA a8=>
      have hR:=((Sl (q:=True) cG.out ak).2 _ _ T).1;have ag:=hide (name_any c (cT.setCell (LD c.R 1) (LJ ((j:Int)+1))) (j+1) d AF.out);have A{G}(h:G:=by
      intro e w2 ae;obtain⟨⟨v2,rfl,rfl⟩,aY,aa⟩:=ae;have bR:=hide (zS.out.next aa);have bX:=hide aY;replace nE:=hide (QE nE.out aa a1.out);clear aa;have hlt2:=bX.out.lt;have ag:=hide (Oi 36 gA (.slice (some (LD w2.heap.size 0)) 1 1) (w2.alloc (.cells #[LC bq] 22)) ⟨_,_,_,rfl⟩);go_wp2_with fail;refine NJ ?_;rintro e d0 ⟨rfl,rfl⟩;obtain⟨bZ,cf,cx⟩:=made bX.out bR.out (LU.cons nE.out LU.nil) (by simp[maxLen]) #[LC bq] rfl 1 rfl 36 gA (w2.heap.size+1) rfl;obtain⟨qU,j0,ix⟩:=bZ.nv
      have gL:qU=w2.heap.size+1:=by simpa[LC] using j0.symm
      subst gL;have fL:=hide ix;have f4:=hide cf;have hL:=hide cx;clear j0;go_wp2
      go_roundw
      case rel=>exact⟨k,.mk 36 gA 0 [t],a8,w2.heap.size+1,by simp,aF.out,f4.out,hL.out,fL.out⟩
      case measure=>rw[TG f4.out,TG nK.out];omega):=LG h;exact WC):=LG h;exact aum
    ·rw[zalah af] at aF;have qc:((fx c.l j).toList==[46])=false:=RY (b:=afn) rfl af;clear af
     by_cases hy:fx c.l j=NZ
     ·rw[zalak hy] at aF;have FQ:((fx c.l j).toList==[40])=true:=RX (b:=NZ) rfl hy;clear hy;have A{G}(h:G:=by
      have ag:=hide (Oi 35 LH (.slice (some (LD cT.heap.size 0)) 1 1) (cT.alloc (.cells #[LC bq] 22)) ⟨_,_,_,rfl⟩);go_wp2_with fail;refine NJ ?_;rintro e zJ ⟨rfl,rfl⟩;obtain⟨bZ,cf,cx⟩:=made ig.out iH.out (LU.cons nE.out LU.nil) (by simp[maxLen]) #[LC bq] rfl 1 rfl 35 LH (cT.heap.size+1) rfl;obtain⟨cg,gg⟩:∃ cg:Tr,cg=.mk 35 LH 0 [t]:=⟨_,rfl⟩;rw[<-gg] at bZ;have fv:Hid (cg.kids.length=1):=by
       show _=_
       rw[gg];rfl
      have ht:=hide gg;obtain⟨gz,u0,wm,gL,lL⟩:=bZ.opens;have iT:gz=cT.heap.size+1:=by simpa[LC] using gL.symm
      rw[iT] at lL;have bI:=hide lL;have iI:=hide cf;have jp:=hide cx;clear gL gg;obtain⟨d0,j2⟩:∃ d0,d0=(cT.alloc (.cells #[LC bq] 22)).alloc (MB 35 LH 0 (.slice (some (LD cT.heap.size 0)) 1 1)):=⟨_,rfl⟩;rw[<-j2] at bI iI jp;rw[<-iT] at bI;rw[show (cT.alloc (.cells #[LC bq] 22)).heap.size=gz by rw[iT];simp,<-j2]
      clear j2 iT;have A{G}(h:G:=by
      obtain⟨jl,cA⟩:=Lu gV
      cases T:TP c.l NZ OX (isVal c.l) (Y1 c.l F d) F.fuel j with
      | out=>
       exact Qe
      | bad er p=>
       have A{G}(h:G:=by
       have A{G}(h:G:=by
       refine zln ?_;refine aCt ?_;refine wr2 4 10 (λK U=>?_) λK U=>?_
       ·go_simp;refine Qd ?_;clear U K;refine O7 10 λK U=>?_;go_simp;exact ars
       ·go_simp;exact ars):=LG h;exact alF):=LG h;exact aBD
      | ok ci a8=>
       have A{G}(h:G:=by
       have hR:=((Yr (q:=False) cG.out hj MK MK (λh=>h.elim) (λbH _ E=>aao cA E (λh=>h.elim))).2 _ _ T).1;have A{G}(h:G:=by
       refine zln ?_;refine aCt ?_;refine wr2 4 10 (λK U=>?_) λK U=>?_
       ·go_simp;refine Qd ?_;clear U K;refine O7 10 λK U=>?_;have A{G}(h:G:=by
        clear aa;exact aDH):=LG h;go_simp;exact aAO
       ·have A{G}(h:G:=by
        clear aa;refine U _ _ ?_;clear U K;refine O7 4 λK U=>?_;go_simp;exact aDH):=LG h;go_simp;exact aAO):=LG h;exact zsz):=LG h;exact aBD):=LG h;exact ab5):=LG h;exact aum
     ·rw[zalah hy] at aF;have FQ:((fx c.l j).toList==[40])=false:=RY (b:=NZ) rfl hy;clear hy;have A{G}(h:G:=by
      go_wp2;go_ret;exact RF aF.out.symm ⟨bq,rfl,nE.out⟩ ig.out iH.out):=LG h;exact aum):=LG h;exact auU):=LG h;exact ad6):=LG h;exact WC):=LG h;exact TL
