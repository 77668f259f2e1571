import Derived.Test.YtoimgcjbcbhclaaGreatDoorAz5
import Derived.LaidEql
import Derived.Deep.MidRow
import Derived.Laws.AppendOwnNone
set_option maxRecDepth 100000
set_option maxHeartbeats 0
set_option linter.all false
namespace Go.Proofs.YtoimgcjbcbhclaaGreatDoor
open Go.RowKit Go.Proofs.Tryz
def Vj {c:Ctx}(f:Nat)(fW:TM f)(w:LK)(d i:Nat)(r:PR Tr)(ay:r≠.out)(q:Nat)(ac:Np PG (fx c.l i)=some q)(an:asY q=f)(ae:∀ L,Ol c L i d->MC f #[Nz c] L (OV c L d (NV L.heap.size) r))(h:Ol c w i d) :
  MC 176 #[Nz c] w (OV c w d (NV w.heap.size) r):=by
 have cQ:Hid (∀ L:LK,Ol c L i d->(Instr.lookup 201 (.map (some c.mT)) (LQ (fx c.l i)) true).run prog L=.ok (.tuple #[.func (.func f) #[Mc c.R 0] #[],L9 true]) L):=λL aO=>by
  have:=acY c (fx c.l i) L aO.base.awT;rw[ac] at this;simp only[aEm,an] at this;exact this
 have A{G}(h:G:=by
 have bk:=hide ae;have bb:=hide ay;clear h ay ac an ae;have A{G}(h:G:=by
 refine wg 3 (.map (some c.mT)) rfl (zalad ⟨by kernel_rfl,λL aO=>by have a2:=Ol.c4 aO;go_simp⟩) cO.out.drew ?_
 exact aDR):=LG h;exact aB4):=LG h;exact TL
def arL {c:Ctx}{F:OQ}(ai:FC c F)(w:LK)(d i:Nat)(r:PR Tr)(W:VG c.l F d i=r)(ay:r≠.out)(ac:Np PG (fx c.l i)=none)(h:Ol c w i d):MC 176 #[Nz c] w (OV c w d (NV w.heap.size) r):=by
 have iv:=Po c.R 243;have cQ:Hid (∀ L:LK,Ol c L i d->(Instr.lookup 201 (.map (some c.mT)) (LQ (fx c.l i)) true).run prog L=.ok (.tuple #[.nilFunc,L9 false]) L):=λL aO=>by
  have:=acY c (fx c.l i) L aO.base.awT;rw[ac] at this;exact this
 clear ac;have A{G}(h:G:=by
 have a1:=hide h.SB;unfold VG at W;have aF:=hide W;have bb:=hide ay;clear h W ay;have A{G}(h:G:=by
 refine wg 3 (.map (some c.mT)) rfl (zalad ⟨by kernel_rfl,λL aO=>by have a2:=Ol.c4 aO;go_simp⟩) cO.out.drew ?_
 have A{G}(h:G:=by
 cases T:MO c.l F.vl d i with
 | out=>
  exact Qe
 | bad er p=>
  have ag:=hide (Uk ai fY d i et.out (by rw[T];nofun))
  exact avC
 | ok dg bH=>
  have ag:=hide (Uk ai fY d i et.out (by rw[T];nofun))
  have A{G}(h:G:=by
  have A{G}(h:G:=by
  have b7:=hide (kD.out.next aa);have cd:=hide aY;have dO:=hide (TD eH kD.out.size)
  cases T:MG c.l Nb bH with
  | out=>
   exact Qe
  | bad er p=>
   have ag:=hide (NR c Nb w1 bH d cd.out MK);exact aoh
  | ok gA a8=>
   have ag:=hide (NR c Nb w1 bH d cd.out MK);have A{G}(h:G:=by
   have A{G}(h:G:=by
   replace dO:=hide (QE dO.out aa a1.out);have ag:=hide (Oi 15 LH (.slice (some (LD w2.heap.size 0)) 1 1) (w2.alloc (.cells #[LC ep] 22)) ⟨_,_,_,rfl⟩);have A{G}(h:G:=by
   obtain⟨bZ,cf,cx⟩:=made bX.out bR.out (LU.cons dO.out LU.nil) (by simp[maxLen]) #[LC ep] rfl 1 rfl 15 LH (w2.heap.size+1) rfl;exact RF aF.out.symm bZ.nv cf cx):=LG h;exact Y8):=LG h;exact auK):=LG h;exact WC):=LG h;exact ad6):=LG h;exact WC):=LG h;exact azW):=LG h;exact aB4):=LG h;exact TL
def LU.get {I:Nat->Prop}{w:LK}:∀ (ts:List Tr) (ps:List Nat),LU I w ts ps->∀ k,(N:k<ts.length)->∃ ae:k<ps.length,Nj I w ts[k] ps[k]
 | [],_,_,k,N=>absurd N MP
 | t::ts,ps,h,k,N=>by
  obtain⟨p,d8,rfl,E,O⟩:=h.parts
  cases k with
  | zero=>exact⟨by simp,E⟩
  | succ k=>
   obtain⟨ae,av⟩:=LU.get ts d8 O k (by simpa using N);exact⟨by simpa using ae,by simpa using av⟩
def QK.get {I:Nat->Prop}{w:LK}:∀ (ts:List Tr) (ps:List Nat),QK I w ts ps->∀ k,(N:k<ts.length)->∃ ae:k<ps.length,Nj I w ts[k] ps[k]
 | [],_,_,k,N=>absurd N MP
 | t::ts,ps,h,k,N=>by
  obtain⟨p,d8,rfl,E,O⟩:=h
  cases k with
  | zero=>exact⟨by simp,E⟩
  | succ k=>
   obtain⟨ae,av⟩:=QK.get ts d8 O k (by simpa using N);exact⟨by simpa using ae,by simpa using av⟩
def S9:∀ (ts:List Tr) (k:Nat) (N:k<ts.length),Tr.counts (ts.take (k+1))=Tr.counts (ts.take k)+(ts[k]).count
 | [],k,N=>absurd N MP
 | t::ts,0,_=>by simp[L6,MQ]
 | t::ts,k+1,N=>by
  have:=S9 ts k (by simpa using N);simp only[List.take_succ_cons,L6,zalev];omega
def TU (ts:List Tr)(k:Nat)(N:k<ts.length):(ts[k]).count<=Tr.counts ts:=by
 have E:=S9 ts k N;have O:Tr.counts ts=Tr.counts (ts.take (k+1))+Tr.counts (ts.drop (k+1)):=by rw[<-Rw,zalcd]
 omega
def Xq (t:Tr):1<=t.count:=by cases t with|mk kd tx n ks=>rw[count_mk];omega
def NG:∀ (ts:List Tr),ts.length<=Tr.counts ts
 | []=>by simp
 | t::ts=>by
  have E:=Xq t;have O:=NG ts;rw[L6,zalbf];omega
abbrev aE8 (b:Nat):LY:=.func (.func 104) #[] #[Mc b 0]
def ajn (v:LY)(b:Nat)(n:Int)(w:LK)(am:w.cell? (LD b 0)=some (LJ n))(an:∀ o,w.frozen? (LD b o)=false)(av:0<=n)(gy:n<=100000) :
  MC 104 #[v,Mc b 0] w λe w'=>e=MN (L9 true)/\w'=w.setCell (LD b 0) (LJ (n+1)):=by
 go_enter func104,ntmps104;go_wp2;go_ret;exact⟨rfl,rfl⟩
def Nj.WT {I:Nat->Prop}{w:LK}{t:Tr}{p:Nat}(h:Nj I w t p):∃ u ps,w.heap[p]? = some (MB t.kd t.tx t.n u)/\w.ownsRow 0 22 1 u ps.length (ps.map LC)/\(∀ g,u.ownBlock=some g->I g)/\LU I w t.kids ps:=by
 cases t with
 | mk kd tx n ks=>
  rw[Nj] at h;obtain⟨_,u,ps,E,O,ao⟩:=h;exact⟨u,ps,E,O.1,O.2,LU.mono (λb D _=>D.1) _ _ ao⟩
structure Cnt (b:Nat)(n:Nat)(w:LK):Prop where
 blk:w.heap[b]? = some (NK #[LJ (n:Int)] 3)
def Cnt.set {b n:Nat}{w:LK}(h:Cnt b n w)(m:Nat){v:Int}(a0:v=(m:Int)):Cnt b m (w.setCell (LD b 0) (LJ v)):=⟨by rw[heap_set h.blk,a0];rfl⟩
def aG9:TM 104:=λ_ _=>by kernel_rfl
def walk_any (b:Nat):∀ (m:Nat) (t:Tr),t.count<=m->∀ (p n:Nat) (w:LK),Nj (λx=>x≠b) w t p->Cnt b n w->n+t.count<=100000 ->
  MC 31 #[LC p,aE8 b] w λe w'=>e=MN (.tuple #[])/\Cnt b (n+t.count) w'/\Ap b w.heap.size w w':=by
 intro m
 induction m with
 | zero=>
  exact anP
 | succ m aU=>
  intro t aH p n w hT gc eO;obtain⟨u,ps,hblk,hrow,hG,bd⟩:=hT.WT;have hlen:=LU.length _ _ bd;have g3:p≠b:=by
   cases t with
   | mk kd tx kt ks=>rw[Nj] at hT;exact hT.1
  have A{G}(h:G:=by
  obtain⟨_,_,_,dR,_⟩:=node_cells hblk;obtain⟨eq,uc,aS⟩:=NH hrow;subst aS;have c0:w.cell? (LD b 0)=some (LJ (n:Int)):=by rw[cell_of gc.blk];rfl
  have dx:=Ny gc.blk;have fW:=aG9;have iq:∀ L:LK,(binOp .eql 54 (aE8 b) .nilFunc).run prog L=.ok (L9 false) L:=λL=>by kernel_rfl
  have ag:=hide (ajn (LC p) b (n:Int) w c0 dx LM LM);have lf:=hide gc;have kH:=hide bd;have fa:=hide hrow;have pZ:=hide hG;have A{G}(h:G:=by
  have HA:¬ b=p:=λe=>g3 e.symm;have hv:(w.setCell (LD b 0) (LJ ((n:Int)+1))).cell? (LD p 3)=some (.slice eq ps.length uc):=by
   rw[zalar (w:=w) (zalap w (LD b 0) _ p g3)];exact dR
  rw[hlen] at hv;have kG:=hide hv;clear c0 dx hG aU g6 aH eO hblk dR g3 HA hv;have dc:=Lu kG;go_enter func31,ntmps31;have A{G}(h:G:=by
  go_loopw [23] (λi wr=>∃ k:Nat,k<=t.kids.length/\i=LJ k/\Cnt b (n+1+Tr.counts (t.kids.take k)) wr/\Ap b w.heap.size w wr) (λi _=>t.kids.length - (intOf i).toNat)
  case atStart=>exact⟨0,zalae _,rfl,by simpa[MQ] using lf.out.set (n+1) LM,Ap.setCell (R:=b) (Ap.refl _ _ _) (p:=(LD b 0)) (zalal rfl) _⟩
  case round=>
   obtain⟨k,N,rfl,gc,dq⟩:=hrel;have uE:=hide gc;have eP:=hide dq
   by_cases aC:k<t.kids.length
   ·obtain⟨g,cap,a0,hcell⟩:=OB fa.out LM;have A{G}(h:G:=by
    obtain⟨iu,mq⟩:=LU.get _ _ kH.out k aC;have g2:g≠b:=Lu pZ g rfl;have de:g<w.heap.size:=(Me fa.out g rfl).1;have dU:wr.cell? (LD g k)=some (LC ps[k]):=by
     rw[eP.out.cell (p:=(LD g k)) de g2];exact hcell k iu
    have oa:Nj (λx=>x≠b) wr t.kids[k] ps[k]:=Nj.later (λx af ab=>eP.out.block x ab af) _ _ mq;have dE:=TU t.kids k aC;have jh:=S9 t.kids k aC;have E:=Lu lr;have O:=Lu re;have ao:=Lu hX;have A{G}(h:G:=by
    have ag:=hide (i4.out t.kids[k] LM ps[k] (n+1+Tr.counts (t.kids.take k)) wr oa uE.out LM);have co:=hide jh;have A{G}(h:G:=by
    clear hcell dE jh E O ao htot ac;go_wp2_with fail;refine NJ ?_;rintro e w2 ⟨rfl,db,cI⟩;have b9:=hide db;have bR:=hide (eP.out.next cI);clear dU;go_wp2
    go_roundw
    case rel=>exact⟨k+1,by omega,by go_num,by rw[co.out];have:=Lu b9;rw[zalen] at this;exact this,bR.out⟩
    case measure=>simp[intOf];omega):=LG h;exact atz):=LG h;exact aqe):=LG h;exact Tf
   ·have cq:k=t.kids.length:=LM;subst cq;go_wp2
    go_end0
    refine⟨rfl,?_,eP.out⟩;have:=Lu uE;rw[zalaq] at this;rw[lr.out,<-zalen];exact this):=LG h;exact Xw):=LG h;exact aqg):=LG h;exact adW
abbrev Na (B:Nat)(w:LK)(v:LY)(l:List LW):Prop:=w.ownsRow B 9 1 v l.length (l.map Value.string)
def info9:(prog.info? 9).map (λi=>(i.zero,i.size,i.bytes))=some (some (LQ ByteArray.empty),1,16):=by kernel_rfl
def LZ {w:LK}{B e sz n:Nat}{v:LY}{bQ:List LY}(h:w.ownsRow B e sz v n bQ):∃ a cap,v=.slice a n cap:=by
 rcases h.2 with ⟨rfl,rfl⟩|⟨g,cap,cj,rfl,_⟩
 ·exact⟨none,0,rfl⟩
 ·exact⟨_,cap,rfl⟩
def Ql (B:Nat)(w:LK):Na B w QJ []:=⟨rfl,zalad ⟨rfl,rfl⟩⟩
def VI {B:Nat}{w:LK}{v:LY}{l:List LW}(h:Na B w v l)(k:Nat)(N:k<l.length):∃ g cap,v=.slice (some (LD g 0)) l.length cap/\g<w.heap.size/\B<=g/\w.cell? (LD g k)=some (LQ l[k]):=by
 obtain⟨g,cap,rfl,_,_⟩:=h.form LM;have E:=Me h g rfl;refine⟨g,cap,rfl,E.1,E.2,?_⟩;rw[h.cellAt k LM];simp[N]
def SY (l:List LW):∀ u ∈ l.map Value.string,u.oneCell'=true:=by
 intro u aS;obtain⟨p,_,rfl⟩:=zalcn.1 aS;rfl
def Vy (w:LK)(s:LW)(H:Nat)(h:w.heap.size=H):∀ j u,[Value.string s][j]? = some u->(w.alloc (.cells #[LQ s] 9)).cell? (((LD H 0):Addr).add j)=some u:=by
 subst h;intro j u aT
 match j with
 | 0=>
  simp only[zalfw,zalbw] at aT;subst aT
  show (w.alloc (.cells #[LQ s] 9)).cell? (LD w.heap.size (0+0))=_
  rw[cell_of (LP w (.cells #[LQ s] 9))];rfl
 | n+1=>simp at aT
def YS (s:LW):∀ u ∈ [Value.string s],u.oneCell'=true:=by
 intro u aS;rw[zalaf.1 aS];rfl
def hasB (l:List LW)(s:LW):Bool:=l.any (λx=>decide (s=x))
def Ui {l:List LW}{s:LW}:hasB l s=true↔s ∈ l:=by simp[hasB]
def aap {l:List LW}{s:LW}:hasB l s=false↔s ∉ l:=by rw[<-Ui];simp
def OD (l:List LW)(s:LW):List LW:=if hasB l s then l else l++[s]
def NI (l:List LW):List LW:=l.foldl OD []
section
variable {B:Nat} (l:List LW) (s:LW) (v:LY) (w:LK) (h:Na B w v l) (ab:l.length<=100000)
include B l s v w h ab
def alh :
  MC 218 #[v,LQ s] w λe w'=>(∃ k:Int,e=MN (LJ k)/\decide (0<=k)=hasB l s)/\w'=w:=by
 obtain⟨va,ck,rfl⟩:=LZ h;have bo:=hide h;clear h;go_enter func218,ntmps218;go_wp2_with fail
 go_loopw [8] (λi wr=>∃ k:Nat,k<=l.length/\i=LJ k/\s ∉ l.take k/\wr=w) (λi _=>l.length - (intOf i).toNat)
 case atStart=>exact⟨0,zalae _,rfl,by simp,rfl⟩
 case round=>
  obtain⟨k,N,rfl,hE,rfl⟩:=hrel;have h1:=hide hE;clear hE
  by_cases aC:k<l.length
  ·obtain⟨g,cap,a0,hg,_,am⟩:=VI bo.out k aC;have A{G}(h:G:=by
   have A{G}(h:G:=by
   clear af
   by_cases he:s=x
   ·subst he;go_wp2;go_ret;refine⟨⟨k,rfl,?_⟩,rfl⟩;rw[zalaz LM,eq_comm,Ui,cy.out];exact zalao _
   ·have d':=Wv he;have cG:=hide he;clear he;go_wp2
    go_roundw
    case rel=>
     refine⟨k+1,by omega,by go_num,?_,trivial⟩;rw[zalac aC];intro aA
     rcases zalat.1 aA with aA|aA
     ·exact Lu h1 aA
     ·exact Lu cG (by rw[cy.out];exact zalaf.1 aA)
    case measure=>simp[intOf];omega):=LG h;exact atv):=LG h;exact Tf
  ·have cA:k=l.length:=LM;subst cA;go_wp2;go_ret;refine⟨⟨-1,rfl,?_⟩,rfl⟩;have h:=Lu h1;rw[zalaq] at h;rw[aap.2 h];rfl
def Tn :
  MC 132 #[v,LQ s] w λe w'=>e=MN (L9 (hasB l s))/\w'=w:=by
 have ag:=hide (alh l s v w h ab);clear h;go_enter func132,ntmps132;go_wp2_with fail;refine NJ ?_;rintro e w1 ⟨⟨k,rfl,N⟩,rfl⟩;have dN:=hide N;clear N;go_wp2;go_ret;exact⟨Oy dN.out,rfl⟩
end
def take_snoc' {α:Type}(l:List α)(k:Nat)(N:k<l.length):l.take (k+1)=l.take k++[l[k]]:=zalac N
def acF (l:List LW)(k:Nat)(N:k<l.length):NI (l.take (k+1))=OD (NI (l.take k)) l[k]:=by
 rw[take_snoc' l k N,NI,zalby];rfl
def Qs (l:List LW):(NI l).length<=l.length:=by
 have:∀ (l au:List LW),(l.foldl OD au).length<=au.length+l.length:=by
  intro l
  induction l with
  | nil=>intro au;simp
  | cons x l aU=>
   intro au;have h:=aU (OD au x);have O:(OD au x).length<=au.length+1:=by unfold OD;split <;> simp
   simp only[zalcp,zalbf];omega
 simpa[NI] using this l []
def afE {B:Nat}(l:List LW)(v:LY)(w:LK)(h:Na B w v l)(ab:l.length<=90000) :
  MC 197 #[v] w λe w'=>(∃ u,e=MN u/\Na w.heap.size w' u (NI l))/\LX w w':=by
 obtain⟨a6,b4,bL,bM,bP⟩:=zalbl info9;obtain⟨va,ck,rfl⟩:=LZ h;have bo:=hide h;clear h;go_enter func197,ntmps197;go_wp2_with fail
 go_loopw [3,8] (λo i wr=>∃ k:Nat,k<=l.length/\i=LJ k/\Na w.heap.size wr o (NI (l.take k))/\LX w wr) (λ_ i _=>l.length - (intOf i).toNat)
 case atStart=>exact⟨0,zalae _,rfl,Ql _ _,O4⟩
 case round=>
  obtain⟨k,N,rfl,hown,hbel⟩:=hrel;have HOWN:=hide hown;have cZ:=hide hbel;obtain⟨aQ,cc,rfl⟩:=LZ hown
  by_cases aC:k<l.length
  ·obtain⟨g,cap,a0,hg,_,am⟩:=VI bo.out k aC;have A{G}(h:G:=by
   have A{G}(h:G:=by
   have hd:wr.cell? (LD g k)=some (LQ x):=by rw[cZ.out.cell (p:=(LD g k)) hg];exact am
   have sL:=hide (acF l k aC);have m6:=Qs (l.take k);rw[zalbe] at m6;obtain⟨ah,bm⟩:∃ ah,ah=NI (l.take k):=⟨_,rfl⟩;rw[<-bm] at m6;have cQ:=hide bm;have l':Hid (Na w.heap.size wr (.slice aQ ah.length cc) ah):=by
    have h:=Lu HOWN;rw[<-bm] at h;exact h
   rw[<-bm];have Gz:ah.length<=k:=LM;have ag:=hide (Tn ah x _ wr l'.out LM);have cS:g<wr.heap.size:=zalau hg cZ.out.size;have bK:=cZ.out.size;clear af am hg bm m6
   cases a2:hasB ah x with
   | true=>
    have A{G}(h:G:=by
    go_wp2
    go_roundw
    case rel=>
     refine⟨k+1,by omega,by go_num,?_,cZ.out⟩;rw[sL.out,<-cQ.out,<-cy.out,OD,zalak fh.out];exact Lu l'
    case measure=>simp[intOf];omega):=LG h;exact ap9
   | false=>
    have A{G}(h:G:=by
    go_wp2_with (at_builtin;refine wpList_append_lies _ rfl _ _ 38 rfl w.heap.size 9 a6 (LQ ByteArray.empty) 1 16 zalde b4 bL bM bP rfl MK _ _ _ rfl (l'.out.alloc _) (LD w2.heap.size 0) 1 1 [LQ x] rfl rfl (Vy w2 x _ rfl) (YS x) MK (by unfold maxLen;omega) LM OM (w2.heap.size+1) MP ?_)
    have A{G}(h:G:=by
    go_roundw
    case rel=>
     refine⟨k+1,by omega,by go_num,?_,bV.out⟩;rw[sL.out,<-cQ.out,<-cy.out,OD,zalah (by rw[fh.out];decide)]
     have h:=Lu h2;refine aac ?_;refine adC ?_;exact h
    case measure=>simp[intOf];omega):=LG h;exact axR):=LG h;exact ap9):=LG h;exact atv):=LG h;exact Tf
  ·have cA:k=l.length:=LM;subst cA;go_wp2;go_ret;refine⟨⟨_,rfl,?_⟩,cZ.out⟩;exact aqa
abbrev VA (w:LK)(t:Tr)(p:Nat):Prop:=Nj (λ_=>True) w t p
def U5 (B:Nat)(w:LK)(v:LY)(ts:List Tr):Prop:=∃ ps:List Nat,w.ownsRow B 22 1 v ps.length (ps.map LC)/\QK (λ_=>True) w ts ps
def Below.stay {I:Nat->Prop}{w w':LK}(h:LX w w'):Pq I w w':=λb _ ab=>h.block b ab
def Nj.nt {I:Nat->Prop}{w:LK}{t:Tr}{p:Nat}(h:Nj I w t p):VA w t p:=Nj.mono (λ_ _ _=>trivial) _ _ h
def VA.later {w w':LK}{t:Tr}{p:Nat}(h:VA w t p)(D:LX w w'):VA w' t p:=Nj.later (Below.stay D) _ _ h
def U5.later {B:Nat}{w w':LK}{v:LY}{ts:List Tr}(h:U5 B w v ts)(D:LX w w'):U5 B w' v ts:=axS
def Na.later {B:Nat}{w w':LK}{v:LY}{l:List LW}(h:Na B w v l)(D:LX w w'):Na B w' v l:=L8 (I:=λ_=>True) (Below.stay D) (λ_ _=>trivial) h
def U5.form {B:Nat}{w:LK}{v:LY}{ts:List Tr}(h:U5 B w v ts):∃ a cap,v=.slice a ts.length cap:=by
 obtain⟨ps,E,O⟩:=h;rw[<-QK.length _ _ O];exact NH E
def U5.nil (B:Nat)(w:LK):U5 B w QJ []:=⟨[],⟨rfl,zalad ⟨rfl,rfl⟩⟩,QK.nil⟩
def U5.cell {B:Nat}{w:LK}{v:LY}{ts:List Tr}(h:U5 B w v ts)(k:Nat)(N:k<ts.length):∃ g cap p,v=.slice (some (LD g 0)) ts.length cap/\g<w.heap.size/\w.cell? (LD g k)=some (LC p)/\VA w ts[k] p:=axT
def VA.cells {w:LK}{t:Tr}{p:Nat}(h:VA w t p):p<w.heap.size/\w.cell? (LD p 0)=some (LJ t.kd)/\w.cell? (LD p 1)=some (LQ t.tx)/\∃ u,w.cell? (LD p 3)=some u/\U5 0 w u t.kids:=axU
def VR (w:LK)(q:Nat)(H:Nat)(h:w.heap.size=H):∀ j u,[LC q][j]? = some u->(w.alloc (.cells #[LC q] 22)).cell? (((LD H 0):Addr).add j)=some u:=by
 subst h;intro j u aT
 match j with
 | 0=>
  simp only[zalfw,zalbw] at aT;subst aT
  show (w.alloc (.cells #[LC q] 22)).cell? (LD w.heap.size (0+0))=_
  rw[cell_of (LP w (.cells #[LC q] 22))];rfl
 | n+1=>simp at aT
def Yk (q:Nat):∀ u ∈ [LC q],u.oneCell'=true:=by
 intro u aS;rw[zalaf.1 aS];rfl
def acK {B:Nat}(ts:List Tr)(v:LY)(w:LK)(h:U5 B w v ts)(ab:ts.length<=90000) :
  MC 195 #[v] w λe w'=>(∃ u,e=MN u/\Na w.heap.size w' u (ts.map Tr.tx))/\LX w w':=by
 have A{G}(h:G:=by
 go_enter func195,ntmps195;exact axV):=LG h;exact asK
def anO (t:Tr)(p:Nat)(w:LK)(h:VA w t p):MC 257 #[LC p] w λe w'=>(∃ u,e=MN u/\U5 0 w u t.kids)/\w'=w:=by
 obtain⟨bF,_,_,u,c3,T⟩:=h.cells;exact axW
abbrev fnV (F:Nat):LY:=.func (.func F) #[] #[]
def Yt (F:Nat)(f:Tr->Bool)(fW:TM F)
  (ai:∀ t p L,VA L t p->MC F #[LC p] L λe w'=>e=MN (L9 (f t))/\w'=L)
  (t:Tr) (p:Nat) (w:LK) (h:VA w t p) (ab:t.kids.length<=90000) :
  MC 214 #[LC p,fnV F] w λe w'=>(∃ u,e=MN u/\U5 w.heap.size w' u (t.kids.filter f))/\LX w w':=by
 obtain⟨a6,b4,bL,bM,bP⟩:=zalbl info22;have dN:=hide (anO t p w h);have A{G}(h:G:=by
 go_loopw [5,11] (λo i wr=>∃ (k:Nat) (bf:List Nat),k<=ts.length/\i=LJ k/\wr.ownsRow w1.heap.size 22 1 o bf.length (bf.map LC)/\QK (λ_=>True) w1 ((ts.take k).filter f) bf/\LX w1 wr) (λ_ i _=>ts.length - (intOf i).toNat)
 case atStart=>exact⟨0,[],zalae _,rfl,⟨rfl,zalad ⟨rfl,rfl⟩⟩,QK.nil,O4⟩
 case round=>
  have A{G}(h:G:=by
  have cZ:=hide hbel;obtain⟨aQ,cc,rfl⟩:=NH hown;have eZ:=QK.length _ _ hE
  by_cases aC:k<ts.length
  ·obtain⟨g,cap,q,a0,hg,dZ,hm⟩:=bo.out.cell k aC;have A{G}(h:G:=by
   have A{G}(h:G:=by
   have ag:=hide (Lu bN ts[k] q wr (hm.later cZ.out));exact axX):=LG h;exact axY):=LG h;exact Tf
  ·exact axZ):=LG h;exact aqb):=LG h;exact ax0
def atw:TM 258:=λ_ _=>by kernel_rfl
def atx:TM 215:=λ_ _=>by kernel_rfl
def Uz (t:Tr):Bool:=t.kd==5
def Rn (t:Tr):Bool:=t.kd==3||t.kd==4
def MF (t:Tr):Bool:=t.kd==5||t.kd==37
section
variable (t:Tr) (p:Nat) (w:LK) (h:VA w t p)
include t p w h
def XU:MC 258 #[LC p] w λe w'=>e=MN (L9 (Uz t))/\w'=w:=by
 obtain⟨bF,c0,_,_⟩:=h.cells;clear h;go_enter func258,ntmps258;go_wp2;go_ret;exact⟨rfl,rfl⟩
def Y4:MC 215 #[LC p] w λe w'=>e=MN (L9 (Rn t))/\w'=w:=by
 obtain⟨bF,c0,_,_⟩:=h.cells;clear h;unfold Rn
 generalize t.kd=kd at c0
 cases ao:(kd==3)
 all_goals
  go_enter func215,ntmps215;go_wp2;go_ret;exact⟨rfl,rfl⟩
def ali:MC 256 #[LC p] w λe w'=>e=MN (L9 (MF t))/\w'=w:=by
 obtain⟨bF,c0,_,_⟩:=h.cells;clear h;unfold MF
 generalize t.kd=kd at c0
 cases ao:(kd==5)
 all_goals
  go_enter func256,ntmps256;go_wp2;go_ret;exact⟨rfl,rfl⟩
end
def Tj (t:Tr):List Tr:=t.kids.filter Uz
def O0 (t:Tr):List Tr:=t.kids.filter Rn
section
variable (t:Tr) (p:Nat) (w:LK) (h:VA w t p) (ab:t.kids.length<=90000)
include t p w h ab
def acL :
  MC 196 #[LC p] w λe w'=>(∃ u,e=MN u/\U5 w.heap.size w' u (Tj t))/\LX w w':=by
 have ag:=hide (Yt 258 Uz atw XU t p w h ab);clear h;go_enter func196,ntmps196;exact aqc
def afF :
  MC 126 #[LC p] w λe w'=>(∃ u,e=MN u/\U5 w.heap.size w' u (O0 t))/\LX w w':=by
 have ag:=hide (Yt 215 Rn atx Y4 t p w h ab);clear h;go_enter func126,ntmps126;exact aqc
end
inductive Ad where
 | mk (p:Nat) (kd:Int) (tx:LW) (n:Int) (ks:List Ad)
def Ad.p:Ad->Nat | .mk p _ _ _ _=>p
def Ad.kd:Ad->Int | .mk _ kd _ _ _=>kd
def Ad.tx:Ad->LW | .mk _ _ tx _ _=>tx
def Ad.ks:Ad->List Ad | .mk _ _ _ _ ks=>ks
mutual
def Ad.tr:Ad->Tr
 | .mk _ kd tx n ks=>.mk kd tx n (Ad.U4 ks)
def Ad.U4:List Ad->List Tr
 | []=>[]
 | a::al=>a.tr::Ad.U4 al
end
mutual
def Ad.N9:Ad->List Nat
 | .mk p _ _ _ ks=>p::Ad.Nv ks
def Ad.Nv:List Ad->List Nat
 | []=>[]
 | a::al=>a.N9++Ad.Nv al
end
mutual
def MZ (I:Nat->Prop)(w:LK):Ad->Prop
 | .mk p kd tx n ks=>Nj I w (.mk kd tx n (Ad.U4 ks)) p/\I p/\(∃ v,w.heap[p]? = some (MB kd tx n v)/\ahQ I w v (ks.map Ad.p))/\OU I w ks
def OU (I:Nat->Prop)(w:LK):List Ad->Prop
 | []=>True
 | a::al=>MZ I w a/\OU I w al
end
def OU.mem {I:Nat->Prop}{w:LK}:∀ (al:List Ad),OU I w al->∀ a ∈ al,MZ I w a
 | [],_,_,h=>absurd h MP
 | x::al,h,a,aa=>by
  rw[OU] at h
  rcases zalas.1 aa with rfl|aa
  ·exact h.1
  ·exact OU.mem al h.2 a aa
mutual
def MZ.later {I:Nat->Prop}{w w':LK}(W:Pq I w w'):∀ a:Ad,MZ I w a->MZ I w' a
 | .mk p kd tx n ks,h=>by
  rw[MZ] at h ⊢;obtain⟨av,ae,⟨v,D,T⟩,N⟩:=h;exact⟨Nj.later W _ _ av,ae,⟨v,by rw[W p ae (lt_of_heap D)];exact D,L8 W T.2 T.1,T.2⟩,OU.later W ks N⟩
def OU.later {I:Nat->Prop}{w w':LK}(W:Pq I w w'):∀ al:List Ad,OU I w al->OU I w' al
 | [],_=>by rw[OU];trivial
 | a::al,h=>by
  rw[OU] at h ⊢;exact⟨MZ.later W a h.1,OU.later W al h.2⟩
end
mutual
def MZ.mono {I J:Nat->Prop}{w:LK}(c7:∀ b,I b->b<w.heap.size->J b):∀ a:Ad,MZ I w a->MZ J w a
 | .mk p kd tx n ks,h=>by
  rw[MZ] at h ⊢;obtain⟨av,ae,⟨v,D,T⟩,N⟩:=h;exact⟨Nj.mono c7 _ _ av,c7 p ae (lt_of_heap D),⟨v,D,T.1,λg hg=>c7 g (T.2 g hg) (Me T.1 g hg).1⟩,OU.mono c7 ks N⟩
def OU.mono {I J:Nat->Prop}{w:LK}(c7:∀ b,I b->b<w.heap.size->J b):∀ al:List Ad,OU I w al->OU J w al
 | [],_=>by rw[OU];trivial
 | a::al,h=>by
  rw[OU] at h ⊢;exact⟨MZ.mono c7 a h.1,OU.mono c7 al h.2⟩
end
def Yh:∀ al:List Ad,Ad.U4 al=al.map Ad.tr
 | []=>by rw[Ad.U4];rfl
 | a::al=>by rw[Ad.U4,Yh al];rfl
def Ad.NC (a:Ad):a.tr.kd=a.kd/\a.tr.tx=a.tx/\a.tr.kids=a.ks.map Ad.tr:=by
 cases a with
 | mk p kd tx n ks=>rw[Ad.tr,Yh];exact⟨rfl,rfl,rfl⟩
def MZ.parts {I:Nat->Prop}{w:LK}{a:Ad}(h:MZ I w a):∀ k ∈ a.ks,MZ I w k:=by
 cases a with
 | mk p kd tx n ks=>rw[MZ] at h;exact OU.mem ks h.2.2.2
mutual
def Nj.ad {I:Nat->Prop}{w:LK}:∀ (t:Tr) (p:Nat),Nj I w t p->∃ a:Ad,a.tr=t/\a.p=p/\MZ I w a/\a.N9.Nodup/\∀ b ∈ a.N9,I b
 | .mk kd tx n ks,p,h=>by
  have av:=h;rw[Nj] at h;obtain⟨ae,v,ps,D,T,N⟩:=h;obtain⟨al,E,O,ao,aM,bw⟩:=LU.N9 ks ps N;refine⟨.mk p kd tx n al,by rw[Ad.tr,Yh,E],rfl,?_,?_,?_⟩
  ·rw[MZ,O,Yh,E];exact⟨av,ae,⟨v,D,T⟩,OU.mono (λb D _=>D.1) al ao⟩
  ·rw[Ad.N9,zalgk];exact⟨λaA=>(bw p aA).2 rfl,aM⟩
  ·rw[Ad.N9];intro b D
   rcases zalas.1 D with rfl|D
   ·exact ae
   ·exact(bw b D).1
def LU.N9 {I:Nat->Prop}{w:LK}:∀ (ts:List Tr) (ps:List Nat),LU I w ts ps->∃ al:List Ad,al.map Ad.tr=ts/\al.map Ad.p=ps/\OU I w al/\(Ad.Nv al).Nodup/\∀ b ∈ Ad.Nv al,I b
 | [],ps,h=>by
  rw[LU] at h;subst h;exact⟨[],rfl,rfl,by rw[OU];trivial,by rw[Ad.Nv];exact List.nodup_nil,by rw[Ad.Nv];intro b D;cases D⟩
 | t::ts,ps,h=>by
  rw[LU] at h;obtain⟨p,d8,M,rfl,E,O⟩:=h;obtain⟨a,fM,fS,en,mg,oS⟩:=Nj.ad t p E;obtain⟨al,bT,a',cV,il,oT⟩:=LU.N9 ts d8 O;refine⟨a::al,by rw[zalbb,fM,bT],by rw[zalbb,fS,a'],?_,?_,?_⟩
  ·rw[OU];exact⟨MZ.mono (λb D _=>D.1) a en,OU.mono (λb D _=>D.1) al cV⟩
  ·rw[Ad.Nv,zaldy];refine⟨mg,il,λx af y hy e=>?_⟩;have dp:=(oS x af).2;have dt:=(oT y hy).2;omega
  ·rw[Ad.Nv];intro b D
   rcases zalat.1 D with D|D
   ·exact(oS b D).1
   ·exact(oT b D).1
end
section
variable {I:Nat->Prop} {w:LK} {a:Ad} (h:MZ I w a)
include I w a h
def MZ.cells:I a.p/\a.p<w.heap.size/\w.cell? (LD a.p 0)=some (LJ a.kd)/\w.cell? (LD a.p 1)=some (LQ a.tx) /\
  ∃ v,w.cell? (LD a.p 3)=some v/\ahQ I w v (a.ks.map Ad.p):=by
 cases a with
 | mk p kd tx n ks=>
  rw[MZ] at h;obtain⟨_,ae,⟨v,D,T⟩,_⟩:=h;obtain⟨c0,c1,_,c3,_⟩:=node_cells D;exact⟨ae,lt_of_heap D,c0,c1,v,c3,T⟩
def MZ.nat:Nj I w a.tr a.p:=by
 cases a with
 | mk p kd tx n ks=>rw[MZ] at h;rw[Ad.tr];exact h.1
end
mutual
def Ad.cnt:Ad->Nat
 | .mk _ _ _ _ ks=>1+Ad.cnts ks
def Ad.cnts:List Ad->Nat
 | []=>0
 | a::al=>a.cnt+Ad.cnts al
end
mutual
def Ad.ND:∀ a:Ad,a.tr.count=a.cnt
 | .mk p kd tx n ks=>by rw[Ad.tr,count_mk,Ad.cnt,Ad.adx ks]
def Ad.adx:∀ al:List Ad,Tr.counts (Ad.U4 al)=Ad.cnts al
 | []=>by rw[Ad.U4,Ad.cnts,MQ]
 | a::al=>by rw[Ad.U4,L6,Ad.cnts,Ad.ND a,Ad.adx al]
end
mutual
def Ad.Qk:∀ a:Ad,a.N9.length=a.cnt
 | .mk p kd tx n ks=>by rw[Ad.N9,zalbf,Ad.WM ks,Ad.cnt,Nat.add_comm]
def Ad.WM:∀ al:List Ad,(Ad.Nv al).length=Ad.cnts al
 | []=>by rw[Ad.Nv,Ad.cnts];rfl
 | a::al=>by rw[Ad.Nv,zalab,Ad.Qk a,Ad.WM al,Ad.cnts]
end
def Vu:∀ a b:List Ad,Ad.Nv (a++b)=Ad.Nv a++Ad.Nv b
 | [],b=>by rw[Ad.Nv];rfl
 | x::a,b=>by rw[zalcq,Ad.Nv,Ad.Nv,Vu a b,zalax]
def Vw:∀ a b:List Ad,Ad.cnts (a++b)=Ad.cnts a+Ad.cnts b
 | [],b=>by rw[Ad.cnts,zalbq,zalda]
 | x::a,b=>by rw[zalcq,Ad.cnts,Ad.cnts,Vw a b,zalen]
def Ud (a:Ad):1<=a.cnt:=by cases a with|mk p kd tx n ks=>rw[Ad.cnt];omega
def P8:∀ al:List Ad,al.length<=Ad.cnts al
 | []=>zalae _
 | a::al=>by
  have E:=Ud a;have O:=P8 al;rw[Ad.cnts,zalbf];omega
def UJ:∀ (al:List Ad) (a:Ad),a ∈ al->a.cnt<=Ad.cnts al
 | [],_,h=>absurd h MP
 | x::al,a,h=>by
  rw[Ad.cnts]
  rcases zalas.1 h with rfl|h
  ·omega
  ·have:=UJ al a h;omega
def OA (a:Ad):a.cnt=1+Ad.cnts a.ks:=by cases a with|mk p kd tx n ks=>rw[Ad.cnt];rfl
def P9 (a:Ad):a.N9=a.p::Ad.Nv a.ks:=by cases a with|mk p kd tx n ks=>rw[Ad.N9];rfl
mutual
def wk {α:Type}(f:α->Ad->α × Bool):α->Ad->α
 | a,.mk p kd tx n ks=>if (f a (.mk p kd tx n ks)).2 then VP f (f a (.mk p kd tx n ks)).1 ks else (f a (.mk p kd tx n ks)).1
def VP {α:Type}(f:α->Ad->α × Bool):α->List Ad->α
 | a,[]=>a
 | a,k::ks=>VP f (wk f a k) ks
end
def aDC {α:Type}(f:α->Ad->α × Bool)(a:α)(t:Ad):wk f a t=if (f a t).2 then VP f (f a t).1 t.ks else (f a t).1:=by
 cases t with
 | mk p kd tx n ks=>rw[wk];rfl
def akv {α:Type}(f:α->Ad->α × Bool):∀ (l m:List Ad) (a:α),VP f a (l++m)=VP f (VP f a l) m
 | [],m,a=>by rw[zalbq,VP]
 | k::l,m,a=>by rw[zalcq,VP,VP,akv f l m]
def aod {α:Type}(f:α->Ad->α × Bool)(l:List Ad)(a:α)(k:Nat)(N:k<l.length):VP f a (l.take (k+1))=wk f (VP f a (l.take k)) l[k]:=by
 rw[zalac N,akv,VP,VP]
def ajx {α:Type}(F:Nat)(x:LY)(I:Nat->Prop)(hM:LK->LK->Prop)(jQ:α->LK->Prop)(f:α->Ad->α × Bool)(P:α->List Ad->Prop)
  (fW:TM F) (iq:∀ L:LK,(binOp .eql 54 (.func (.func F) #[] #[x]) .nilFunc).run prog L=.ok (L9 false) L)
  (tW:∀ a b c,hM a b->hM b c->hM a c) (sb:∀ w w',hM w w'->Pq I w w'/\w.heap.size<=w'.heap.size)
  (fT:∀ a t ts,P a (t::ts)->P (f a t).1 ((if (f a t).2 then t.ks else [])++ts))
  (bB:∀ a t ts w,P a (t::ts)->jQ a w->MZ I w t->MC F #[LC t.p,x] w λe w'=>e=MN (L9 (f a t).2)/\jQ (f a t).1 w'/\hM w w') :
  ∀ (m:Nat) (t:Ad),t.cnt<=m->m<=90000->∀ (ts:List Ad) (a:α) (w:LK),P a (t::ts)->jQ a w->MZ I w t ->
   MC 31 #[LC t.p,.func (.func F) #[] #[x]] w λe w'=>e=MN (.tuple #[])/\jQ (wk f a t) w'/\P (wk f a t) ts/\hM w w':=avo
def anv {α:Type}(F:Nat)(x y:LY)(I:Nat->Prop)(hM:LK->LK->Prop)(jQ:α->LK->Prop)(f:α->Ad->α × Bool)(P:α->List Ad->Prop)
  (fW:TM F) (iq:∀ L:LK,(binOp .eql 54 (.func (.func F) #[] #[x,y]) .nilFunc).run prog L=.ok (L9 false) L)
  (tW:∀ a b c,hM a b->hM b c->hM a c) (sb:∀ w w',hM w w'->Pq I w w'/\w.heap.size<=w'.heap.size)
  (fT:∀ a t ts,P a (t::ts)->P (f a t).1 ((if (f a t).2 then t.ks else [])++ts))
  (bB:∀ a t ts w,P a (t::ts)->jQ a w->MZ I w t->MC F #[LC t.p,x,y] w λe w'=>e=MN (L9 (f a t).2)/\jQ (f a t).1 w'/\hM w w') :
  ∀ (m:Nat) (t:Ad),t.cnt<=m->m<=90000->∀ (ts:List Ad) (a:α) (w:LK),P a (t::ts)->jQ a w->MZ I w t ->
   MC 31 #[LC t.p,.func (.func F) #[] #[x,y]] w λe w'=>e=MN (.tuple #[])/\jQ (wk f a t) w'/\P (wk f a t) ts/\hM w w':=avo
def mkP (e:(Nat × LY) × Nat):MapEntry:={ key:=LC e.1.1,val:=e.1.2,born:=e.2 }
def N7 (l:List (Nat × LY)):Array MapEntry:=((l.zipIdx).map mkP).toArray
def Cl (L:LK)(p:Nat):Prop:=∃ bl t,L.heap[p]? = some (NK bl t)
def aGG (L:LK):(sizeOf 49).run prog L=.ok 4 L:=by kernel_rfl
def adD {L:LK}{p q:Nat}(ae:Cl L p)(ac:Cl L q):(Op.equal 22 (LC p) (LC q)).run prog L=.ok (decide (p=q)) L:=by
 obtain⟨vm,pA,aa⟩:=ae;obtain⟨eK,tb,D⟩:=ac;have h22:=zalhg
 show (Op.equalIn (9999+1) 22 (LC p) (LC q)).run prog L=_
 rw[Op.equalIn,zalbu,zalcl h22 L];simp only[zalcm,zalbu,aGG]
 by_cases h:p=q
 ·subst h;rw[zalaz rfl];exact run_sameAddr_same _ _
 ·rw[zalaw h];exact run_sameAddr_other L (a:=(LD p 0)) (b:=(LD q 0)) (λe=>h (by cases e;rfl)) aa D
def agd {L:LK}{p:Nat}(ae:Cl L p):∀ (l:List (Nat × LY)) (n i:Nat),(∀ e ∈ l,Cl L e.1) ->
  ∃ o,(Instr.findAsking 22 (LC p) ((l.zipIdx n).map mkP) i).run prog L=.ok o L/\o.map (·.2)=(l.find? (λe=>decide (p=e.1))).map (·.2)
 | [],_,_,_=>⟨none,rfl,rfl⟩
 | e::l,n,i,h=>by
  have E:=adD ae (h e MP);simp only[zalfz,zalbb,Instr.findAsking,mkP,zalbu,E,zalcm,zalck]
  cases aD:decide (p=e.1)
  ·simp only[zalct,zalfg];exact agd ae l (n+1) (i+1) (λe he=>h e (by simp[he]))
  ·exact⟨some (i,e.2),rfl,rfl⟩
def ajT {L:LK}{p:Nat}(ae:Cl L p)(l:List (Nat × LY))(h:∀ e ∈ l,Cl L e.1) :
  ∃ o,(Instr.findKey 22 (LC p) (N7 l).toList).run prog L=.ok o L/\o.map (·.2)=(l.find? (λe=>decide (p=e.1))).map (·.2):=by
 have h22:=zalhg
 cases l with
 | nil=>
  refine⟨none,?_,rfl⟩;unfold Instr.findKey;rw[zalbu,zalcl h22 L];rfl
 | cons e l=>
  obtain⟨o,E,O⟩:=agd ae (e::l) 0 0 h;refine⟨o,?_,O⟩;unfold Instr.findKey;rw[zalbu,zalcl h22 L];simp only[zalcm,N7];exact E
def XQ (m k:Nat)(l:List (Nat × LY))(p:Nat)(L:LK)(aA:L.heap[m]? = some (.map (N7 l) k))(ae:Cl L p)(ab:∀ e ∈ l,Cl L e.1) :
  (Instr.lookup 44 (.map (some m)) (LC p) false).run prog L=.ok (((l.find? (λe=>decide (p=e.1))).map (·.2)).getD (LJ 0)) L:=by
 obtain⟨o,ao,O⟩:=ajT ae l ab;have h22:=zalhg;have xF:=underlying44;have b5:(zeroValue 3).run prog L=.ok (LJ 0) L:=by kernel_rfl
 unfold Instr.lookup;rw[zalbu,zalcl xF L];have A{G}(h:G:=by
 have hg:(getObj m).run prog L=.ok (.map (N7 l) k) L:=by simp[getObj,Sem.run,aA]
 simp only[zalcm,zalbu,hg,Sem.run_pure,dU,ao]
 cases o with
 | none=>
  cases an:l.find? (λe=>decide (p=e.1)) with
  | none=>simp[b5]
  | some x=>rw[an] at O;simp at O
 | some y=>
  cases an:l.find? (λe=>decide (p=e.1)) with
  | none=>rw[an] at O;simp at O
  | some x=>rw[an] at O;simp at O;simp[O]):=LG h;exact aCr
def al0 (l:List (Nat × LY))(k:Nat)(v:LY):(N7 l).push { key:=LC k,val:=v,born:=l.length }=N7 (l++[(k,v)]):=by
 unfold N7;rw[zalfj,zalam];simp[mkP,List.zipIdx]
def aa9 (m:Nat)(l:List (Nat × LY))(p:Nat)(v:LY)(L:LK)(aA:L.heap[m]? = some (.map (N7 l) l.length))(ae:Cl L p)(ab:∀ e ∈ l,Cl L e.1)(av:l.find? (λe=>decide (p=e.1))=none) :
  (Instr.mapUpdate 44 (.map (some m)) (LC p) v).run prog L=.ok () (NS L m (.map (N7 (l++[(p,v)])) (l.length+1))):=by
 obtain⟨o,ao,O⟩:=ajT ae l ab;have h22:=zalhg;have xF:=underlying44;have A{G}(h:G:=by
 have A{G}(h:G:=by
 have hg:(getObj m).run prog L=.ok (.map (N7 l) l.length) L:=by simp[getObj,Sem.run,aA]
 unfold Instr.mapUpdate;rw[zalbu,zalcl xF L];simp only[zalcm,zalbu,hg,dU,ao];rw[al0];simp[setObj,Sem.run,aA,NS]):=LG h;exact aCr):=LG h;exact auT
def arw (l:List (Nat × LY)):(N7 l).size=l.length:=by simp[N7]
def Ro (l:List Nat):List (Nat × LY):=l.zipIdx.map λe=>(e.1,LJ (e.2:Int))
def YE (l:List Nat):(Ro l).length=l.length:=by simp[Ro]
def ac1 (l:List Nat)(p:Nat):Ro (l++[p])=Ro l++[(p,LJ (l.length:Int))]:=by
 simp[Ro,zalfj,List.zipIdx]
def Uh {l:List Nat}{e:Nat × LY}(h:e ∈ Ro l):e.1 ∈ l:=by
 unfold Ro at h;obtain⟨x,af,rfl⟩:=zalcn.1 h;obtain⟨dg,gA⟩:=x;have:=List.mem_zipIdx af;simp only;rw[this.2.2];exact zalao _
def agr (p:Nat):∀ (l:List Nat) (n:Nat),p ∈ l->(((l.zipIdx n).map λe=>(e.1,Value.int .i64 (e.2:Int))).find? (λe=>decide (p=e.1))).map (·.2)=some (LJ ((n+l.idxOf p:Nat):Int))
 | [],_,h=>absurd h MP
 | x::l,n,h=>by
  rw[zalfz,zalbb,zalck,List.idxOf_cons]
  by_cases af:p=x
  ·subst af;simp
  ·have O:p ∈ l:=by exact(zalas.1 h).resolve_left af
   have ao:(x==p)=false:=zalaj.2 (zalfi af);simp only[zalaw af,ao];rw[agr p l (n+1) O];simp only[cond_false]
   congr 3
   omega
def acS {p:Nat}{l:List Nat}(h:p ∈ l):(((Ro l).find? (λe=>decide (p=e.1))).map (·.2)).getD (LJ 0)=LJ ((l.idxOf p:Nat):Int):=by
 unfold Ro;rw[agr p l 0 h,zalda];rfl
def ac2 {p:Nat}{l:List Nat}(h:p ∉ l):(Ro l).find? (λe=>decide (p=e.1))=none:=by
 rw[zalet];intro e he;have:=Uh he;simp only[zaldx];rintro rfl;exact h this
structure Nms (aw aI:Nat)(l:List Nat)(w:LK):Prop where
 word:w.heap[aI]? = some (NK #[.map (some aw)] 44)
 map:w.heap[aw]? = some (.map (N7 (Ro l)) l.length)
 old:∀ p ∈ l,Cl w p
def nmF (l:List Nat)(t:Ad):List Nat × Bool:=(l++[t.p],true)
mutual
def asz:∀ (t:Ad) (l:List Nat),wk nmF l t=l++t.N9
 | .mk p kd tx n ks,l=>by
  rw[wk,Ad.N9];simp only[nmF,zaleh];rw[show (Ad.mk p kd tx n ks).p=p from rfl,aok ks,zalax];rfl
def aok:∀ (ts:List Ad) (l:List Nat),VP nmF l ts=l++Ad.Nv ts
 | [],l=>by rw[VP,Ad.Nv,zalba]
 | t::ts,l=>by rw[VP,asz t,aok ts,Ad.Nv,zalax]
end
def MZ.cl {I:Nat->Prop}{w:LK}{a:Ad}(h:MZ I w a):Cl w a.p:=by
 cases a with
 | mk p kd tx n ks=>
  rw[MZ] at h;obtain⟨_,_,⟨v,D,_⟩,_⟩:=h;exact⟨_,_,D⟩
def ags {aw aI:Nat}{l:List Nat}{t:Ad}{I:Nat->Prop}{w:LK}(aN:Nms aw aI l w)(aH:MZ I w t)(ae:t.p ∉ l) :
  MC 67 #[LC t.p,Mc aI 0] w λe w'=>e=MN (L9 true)/\w'=NS w aw (.map (N7 (Ro (l++[t.p]))) (l.length+1)):=by
 have hw:w.cell? (LD aI 0)=some (.map (some aw)):=by rw[cell_of aN.word];rfl
 have aS:=aa9 aw (Ro l) t.p (LJ (l.length:Int)) w (by rw[YE];exact aN.map) aH.cl (λe he=>aN.old _ (Uh he)) (ac2 ae)
 rw[YE,<-ac1] at aS;have ab:(Builtin.len_ #[44] 3 #[.map (some aw)]).run prog w=.ok (LJ (l.length:Int)) w:=by
  simp[Builtin.len_,getObj,Sem.run,aN.map,arw,YE,goInt]
 obtain⟨p,bE⟩:∃ p,p=t.p:=⟨_,rfl⟩;rw[<-bE] at aS ⊢;clear ae bE;go_enter func67,ntmps67;go_wp2;go_ret;exact⟨rfl,rfl⟩
def Cl.set {w:LK}{m p:Nat}{o:Obj}{al:Array MapEntry}{k:Nat}(h:Cl w p)(aA:w.heap[m]? = some (.map al k)):Cl (NS w m o) p:=by
 obtain⟨bl,t,am⟩:=h;refine⟨bl,t,?_⟩;rw[OH (λe=>by rw[e,aA] at am;cases am)]
 exact am
def Nms.next {aw aI:Nat}{l:List Nat}{p:Nat}{w:LK}(h:Nms aw aI l w)(ae:Cl w p)(d':aI≠aw):Nms aw aI (l++[p]) (NS w aw (.map (N7 (Ro (l++[p]))) (l.length+1))):=by
 refine⟨by rw[OH d'];exact h.word,by rw[TY (lt_of_heap h.map),zalab];rfl,λq ac=>?_⟩
 rcases zalat.1 ac with ac|ac
 ·exact(h.old q ac).set h.map
 ·rw[zalaf.1 ac];exact ae.set h.map
def ac3 {m B:Nat}(w:LK)(o:Obj):Ap m B w (NS w m o):=⟨rfl,rfl,rfl,by rw[Td];exact Nh,λk _ N=>OH N⟩
def aGI:TM 67:=λ_ _=>by kernel_rfl
def X6 {I:Nat->Prop}(t:Ad)(w:LK)(aH:MZ I w t)(aD:t.N9.Nodup)(am:t.cnt<=90000) :
  MC 24 #[LC t.p] w λe w'=>(∃ aw,e=MN (.map (some aw))/\w.heap.size<=aw/\w'.heap[aw]? = some (.map (N7 (Ro t.N9)) t.N9.length))/\LX w w':=by
 obtain⟨w2,bW⟩:∃ w2,w2=(w.alloc (.map #[] 0)).alloc (.cells #[.map (some w.heap.size)] 44):=⟨_,rfl⟩;have a5:LX w w2:=by
  rw[bW];exact Qn.alloc MP _
 have dV:w2.heap.size=w.heap.size+2:=by rw[bW];simp
 have aW:(w.alloc (.map #[] 0)).heap.size=w.heap.size+1:=by simp
 have aN:Nms w.heap.size (w.heap.size+1) [] w2:=by
  refine⟨?_,?_,λp ae=>absurd ae MP⟩
  ·rw[bW,<-aW];exact LP _ _
  ·rw[bW,zalaa _ _ _ MP];exact LP _ _
 have ag:=hide (ajx 67 (Mc (w.heap.size+1) 0) (λb=>b<w.heap.size+2/\b≠w.heap.size) (Ap w.heap.size (w.heap.size+2)) (Nms w.heap.size (w.heap.size+1)) nmF (λl ts=>(l++Ad.Nv ts).Nodup) aGI (λL=>by kernel_rfl)
  (λ_ _ _ h k=>h.trans k) (λw w' h=>⟨λb D _=>h.block b D.1 D.2,h.size⟩)
  (λl t ts h=>by
   simp only[nmF,zaleh];rw[Ad.Nv,P9] at h;rw[Vu];simpa using h)
  (λl t ts w' h cz bv=>by
   have ae:t.p ∉ l:=by
    rw[Ad.Nv,P9,zaldy] at h;exact λaA=>h.2.2 _ aA _ MP rfl
   refine(ags cz bv ae).mono ?_;rintro e aq ⟨rfl,rfl⟩;exact⟨rfl,cz.next bv.cl LM,ac3 _ _⟩)
  t.cnt t Nh am [] [] w2 (by rw[zalbq,Ad.Nv,Ad.Nv,zalba];exact aD) aN
  (MZ.later (I:=λb=>b<w.heap.size+2/\b≠w.heap.size) (λb D ab=>a5.block b ab) _ (MZ.mono (λb _ ab=>⟨by omega,by omega⟩) _ aH)))
 rw[asz,zalbq] at ag;obtain⟨p,ae⟩:∃ p,p=t.p:=⟨_,rfl⟩;rw[<-ae] at ag ⊢;have bj:=hide a5;have dw:=hide dV;rw[bW] at ag;have f6:=hide bW;have r5:=mkMap 44;clear dV aW aD am ae bW;go_enter func24,ntmps24;go_wp2_with fail;refine NJ ?_;rintro e aq ⟨rfl,hn,_,da⟩;have hw:aq.cell? (LD (w.heap.size+1) 0)=some (.map (some w.heap.size)):=by rw[cell_of hn.word];rfl
 have hZ:=hide hn.map;rw[<-f6.out] at da;have bV:Hid (LX w aq):=bj.out.trans ((da.mono LM).below Nh);go_wp2;go_ret;exact⟨⟨_,rfl,Nh,hZ.out⟩,bV.out⟩
structure PC where
 P:Nat
 l:List Tk
 tb:Nat
 cap:Nat
 lo:Nat
def PC.tv (c:PC):LY:=.slice (some (LD c.tb 0)) c.l.length c.cap
abbrev NW (c:PC):LY:=Mc c.P 0
structure PB (c:PC)(w:LK):Prop where
 ends:Ends c.l
 tokens:∃ cj,w.heap[c.tb]? = some (NK cj 167)/\c.l.length<=c.cap/\c.cap<=maxLen/\cj.size=c.cap * 4/\cj.toList.take (c.l.length * 4)=OI c.l
 ntb:c.tb≠c.P
 len:c.l.length<=3001
 old:c.tb<c.lo/\c.P<c.lo
 size:c.lo<=w.heap.size
def PB.later {c:PC}{B:Nat}{w w':LK}(h:PB c w)(aa:Ap c.P B w w')(bA:c.lo<=B):PB c w':=by
 obtain⟨aJ,⟨cj,E,xD⟩,O,ao,aM,bw⟩:=h;exact⟨aJ,⟨cj,by rw[aa.block _ LM O];exact E,xD⟩,O,ao,aM,zalan bw aa.size⟩
def aE1 (c:PC)(i:Nat)(er pl:Int):Obj:=NK #[c.tv,LJ (i:Int),LJ er,LJ pl] 166
structure Ps (c:PC)(w:LK)(i:Nat)(er pl:Int):Prop where
 base:PB c w
 blk:w.heap[c.P]? = some (aE1 c i er pl)
 lt:i<c.l.length
def Ps.later {c:PC}{w w':LK}{i:Nat}{er pl:Int}(h:Ps c w i er pl)(aa:LX w w'):Ps c w' i er pl:=
 ⟨h.base.later (Ap.of aa) h.base.size,by rw[aa.block _ (lt_of_heap h.blk)];exact h.blk,h.lt⟩
section
variable {c:PC} {w:LK} {i:Nat} {er pl:Int} (h:Ps c w i er pl)
include c w i er pl h
def Ps.SB:c.P<w.heap.size:=lt_of_heap h.blk
def Ps.c0:w.cell? (LD c.P 0)=some (.slice (some (LD c.tb 0)) c.l.length c.cap):=by rw[cell_of h.blk];rfl
def Ps.c1:w.cell? (LD c.P 1)=some (LJ (i:Int)):=by rw[cell_of h.blk];rfl
def Ps.c2:w.cell? (LD c.P 2)=some (LJ er):=by rw[cell_of h.blk];rfl
def Ps.c3:w.cell? (LD c.P 3)=some (LJ pl):=by rw[cell_of h.blk];rfl
def Ps.fz (o:Nat):w.frozen? (LD c.P o)=false:=Ny h.blk o
end
section
variable {c:PC} {w:LK}
include c w
def PB.tok (h:PB c w)(i j:Nat)(ak:i<c.l.length)(aT:j<4):w.cell? (LD c.tb (i * 4+j))=(Uf (MJ c.l i))[j]?:=ayZ
def PB.tlt (h:PB c w):c.tb<w.heap.size:=by
 obtain⟨cj,D,_⟩:=h.tokens;exact lt_of_heap D
def Ps.toks {i:Nat}{er pl:Int}(h:Ps c w i er pl) :
  w.cell? (LD c.tb (i * 4))=some (LJ (MJ c.l i).kd)/\w.cell? (LD c.tb (i * 4+1))=some (LQ (MJ c.l i).tx)/\w.cell? (LD c.tb (i * 4+2))=some (LJ (MJ c.l i).n)/\w.cell? (LD c.tb (i * 4+3))=some (LJ ((MJ c.l i).pl:Int)):=
 ⟨h.base.tok i 0 h.lt MK,h.base.tok i 1 h.lt MK,h.base.tok i 2 h.lt MK,h.base.tok i 3 h.lt MK⟩
def Ps.step {i j:Nat}{er pl:Int}(h:Ps c w i er pl)(aT:j<c.l.length):Ps c (w.setCell (LD c.P 1) (LJ (j:Int))) j er pl:=
 ⟨h.base.later ((Ap.refl c.P c.lo w).setCell (p:=(LD c.P 1)) (zalal rfl) _) Nh,by rw[heap_set h.blk];rfl,aT⟩
end
section
variable {c:PC} {w:LK} {i:Nat} {er pl:Int} (h:Ps c w i er pl)
include c w i er pl h
def Ps.fault (e p:Int):Ps c ((w.setCell (LD c.P 2) (LJ e)).setCell (LD c.P 3) (LJ p)) i e p:=
 ⟨h.base.later (((Ap.refl c.P c.lo w).setCell (p:=(LD c.P 2)) (zalal rfl) _).setCell (p:=(LD c.P 3)) (zalal rfl) _) Nh,by rw[heap_set (heap_set h.blk _)];rfl,h.lt⟩
def Ps.drew:Ps c w.drew i er pl:=h.later O4.drew
def Ps.alloc (o:Obj):Ps c (w.alloc o) i er pl:=h.later (O4.alloc Nh o)
end
def Xl (c:PC)(w:LK)(er pl:Int)(Z:LY->Prop)(e:Ending)(w':LK):Prop:=
 (∃ v,e=MN v/\Z v)/\(∃ j,Ps c w' j er pl)/\er≠0/\Ap c.P w.heap.size w w'
def Oj {α:Type}(c:PC)(w:LK)(aR:LK->α->LY->Prop)(Z:LY->Prop)(r:PR α)(e:Ending)(w':LK):Prop:=
 match r with
 | .ok x j=>(∃ v,e=MN v/\aR w' x v)/\Ps c w' j 0 (-1)/\Ap c.P w.heap.size w w'
 | .bad er pl=>Xl c w er (pl:Int) Z e w'
 | .out=>True
abbrev ZN (v:LY):Prop:=∃ q,v=LC q
abbrev ZU (v:LY):Prop:=v=.tuple #[]
abbrev ZT (v:LY):Prop:=∃ s,v=LQ s
abbrev ZL (v:LY):Prop:=∃ a n k,v=.slice a n k
section
variable (c:PC) (w:LK) (i:Nat)
include c w i
def UD (er pl:Int)(h:Ps c w i er pl) :
  MC 110 #[NW c] w λe w'=>e=MN (L9 (er==0))/\w'=w:=by
 have c2:=h.c2;clear h;go_enter func110,ntmps110;go_wp2;go_ret;exact⟨rfl,rfl⟩
def QI (dH:Int)(he:dH≠0)(h:Ps c w i 0 (-1)) :
  MC 184 #[NW c,LJ dH] w (Xl c w dH ((MJ c.l i).pl:Int) ZN):=by
 have ag:=hide (UD c w i 0 (-1) h);have aJ:w.cell? (LD c.P 0)=_:=h.c0;have E:w.cell? (LD c.P 1)=_:=h.c1;have O:w.cell? (LD c.P 2)=_:=h.c2;have ao:w.cell? (LD c.P 3)=_:=h.c3;have gp:w.frozen? (LD c.P 2)=false:=h.fz 2;have dR:w.frozen? (LD c.P 3)=false:=h.fz 3;have b8:w.cell? (LD c.tb (i * 4+3))=_:=h.toks.2.2.2;have aC:(i:Int)<(c.l.length:Int):=by have:=h.lt;omega
 have a7:=h.SB;have bk:=hide h;clear h;go_enter func184,ntmps184;have A{G}(h:G:=by
 go_region
 go_wp2;go_ret;refine⟨⟨_,rfl,_,rfl⟩,⟨i,(bk.out.fault dH _).alloc _ |>.drew⟩,he,?_⟩;exact((((Ap.refl c.P w1.heap.size w1).setCell (p:=(LD c.P 2)) (zalal rfl) _).setCell (p:=(LD c.P 3)) (zalal rfl) _).alloc MP _).drew):=LG h;exact Xw
def adk (er pl dH:Int)(he:er≠0)(h:Ps c w i er pl) :
  MC 184 #[NW c,LJ dH] w (Xl c w er pl ZN):=by
 have A{G}(h:G:=by
 have bk:=hide h;go_enter func184,ntmps184;exact avA):=LG h;exact an8
def adl (er pl:Int)(he:er≠0)(s:LW)(h:Ps c w i er pl) :
  MC 185 #[NW c,LQ s] w λe w'=>e=MN (L9 false)/\LX w w':=by
 have aJ:=h.c0;have E:=h.c1;have A{G}(h:G:=by
 have a7:=h.SB;have ce:=h.base.tlt;have am:=λo=>UD c (w.alloc o).drew i er pl (h.alloc o).drew;rw[zalaj.2 he] at am;have ag:=hide am;clear h am;exact alW):=LG h;exact aua
end
def ao1 {l:List Tk}{i:Nat}{s:LW}(W:s≠LH):fx l i=s↔((MJ l i).kd=2\/(MJ l i).kd=5)/\(MJ l i).tx=s:=by
 unfold fx
 by_cases h:(MJ l i).kd=2\/(MJ l i).kd=5
 ·rw[zalak (by simpa using h)];exact⟨λe=>⟨h,e⟩,λe=>e.2⟩
 ·rw[zalah (by simpa using h)];exact⟨λe=>absurd e.symm W,λe=>absurd e.1 h⟩
section
variable (c:PC) (w:LK) (i:Nat)
include c w i
def NP (s:LW)(W:s≠LH)(h:Ps c w i 0 (-1)) :
  MC 185 #[NW c,LQ s] w λe w'=>e=MN (L9 (decide (fx c.l i=s)))/\LX w w':=by
 have aJ:=h.c0;have E:=h.c1;have A{G}(h:G:=by
 have a7:=h.SB;have ce:=h.base.tlt;have ag:=hide (λo=>UD c (w.alloc o).drew i 0 (-1) (h.alloc o).drew);have bN:=hide (ao1 (l:=c.l) (i:=i) W);clear h
 generalize MJ c.l i=t at k0 a9 bD b8 bN
 by_cases O:t.kd=2
 ·have a':(t.kd==2)=true:=zalbz.2 O
  by_cases aH:t.tx=s
  ·have bt:=agU aH;have aD:decide (fx c.l i=s)=true:=zalaz (bN.out.2 ⟨zalad O,aH⟩);rw[aD];clear aD aH O;exact alW
  ·have bt:=Wv aH;have aD:decide (fx c.l i=s)=false:=zalaw λe=>aH (bN.out.1 e).2;rw[aD];clear aD aH O;exact alW
 ·have a':(t.kd==2)=false:=zalaj.2 O
  by_cases bw:t.kd=5
  ·have oT:(t.kd==5)=true:=zalbz.2 bw
   by_cases aH:t.tx=s
   ·have bt:=agU aH;have aD:decide (fx c.l i=s)=true:=zalaz (bN.out.2 ⟨zalal bw,aH⟩);rw[aD];clear aD aH O bw;exact alW
   ·have bt:=Wv aH;have aD:decide (fx c.l i=s)=false:=zalaw λe=>aH (bN.out.1 e).2;rw[aD];clear aD aH O bw;exact alW
  ·have oT:(t.kd==5)=false:=zalaj.2 bw;have aD:decide (fx c.l i=s)=false:=zalaw λe=>by have:=(bN.out.1 e).1;omega
   rw[aD];clear aD O bw;exact alW):=LG h;exact aua
def UF (er pl:Int)(he:er≠0)(s:LW)(h:Ps c w i er pl) :
  MC 187 #[NW c,LQ s] w λe w'=>e=MN (L9 false)/\LX w w':=by
 have ag:=hide (adl c w i er pl he s h);go_enter func187,ntmps187;go_wp2_with fail;refine NJ ?_;exact atM
def OZ (s:LW)(W:s≠LH)(an:¬ fx c.l i=s)(h:Ps c w i 0 (-1)) :
  MC 187 #[NW c,LQ s] w λe w'=>e=MN (L9 false)/\LX w w':=by
 have am:=NP c w i s W h;rw[zalaw an] at am;have ag:=hide am;clear an;go_enter func187,ntmps187;go_wp2_with fail;refine NJ ?_;exact atM
def OG (s:LW)(W:s≠LH)(an:fx c.l i=s)(h:Ps c w i 0 (-1)) :
  MC 187 #[NW c,LQ s] w λe w'=>e=MN (L9 true)/\Ps c w' (i+1) 0 (-1)/\Ap c.P w.heap.size w w':=by
 have am:=NP c w i s W h;rw[zalaz an] at am;have ab:=Sj h.base.ends h.lt an W;have k3:=h.base.len;have ag:=hide am;have bk:=hide h;clear h an;go_enter func187,ntmps187;go_wp2_with fail;refine NJ ?_;rintro e w1 ⟨rfl,D⟩;have ae:=bk.out.later D;have E:=ae.c1;have f1:=ae.fz 1;have aV:=hide D;have cD:=hide ae;go_wp2;go_ret;have av:((i:Int)+1)=(((i+1:Nat)):Int):=LM;exact⟨rfl,by rw[av];exact cD.out.step ab,(Ap.of aV.out).trans ((Ap.refl c.P _ w1).setCell (p:=(LD c.P 1)) (zalal rfl) _)⟩
end
def ppU {c:PC}{w w':LK}{i:Nat}(h:Ps c w' i 0 (-1))(aa:Ap c.P w.heap.size w w'):Oj c w (λ_ (_:Unit) v=>ZU v) ZU (.ok () i) (MN (.tuple #[])) w':=⟨⟨_,rfl,rfl⟩,h,aa⟩
section
variable (c:PC) (w:LK) (i:Nat)
include c w i
def P5 (er pl:Int)(he:er≠0)(s:LW)(h:Ps c w i er pl) :
  MC 192 #[NW c,LQ s] w λe w'=>e=MN (.tuple #[])/\w'=w:=by
 have A{G}(h:G:=by
 go_enter func192,ntmps192;have A{G}(h:G:=by
 go_end0
 exact⟨rfl,rfl⟩):=LG h;exact Xw):=LG h;exact an8
def O9 (s:LW)(W:s≠LH)(h:Ps c w i 0 (-1)) :
  MC 192 #[NW c,LQ s] w (Oj c w (λ_ (_:Unit) v=>ZU v) ZU (MG c.l s i)):=by
 have ag:=hide (UD c w i 0 (-1) h)
 by_cases an:fx c.l i=s
 ·have aA:MG c.l s i=.ok () (i+1):=by unfold MG;rw[zalak an]
  rw[aA];have b9:=hide (OG c w i s W an h);clear h aA an;go_enter func192,ntmps192;have A{G}(h:G:=by
  refine Ul ?_;rintro e w2 ⟨rfl,ae,aa⟩;have bk:=hide ae;have bS:=hide aa;clear ae;go_wp2
  go_end0
  exact ppU bk.out bS.out):=LG h;exact Xw
 ·have aA:MG c.l s i=.bad 3 (MJ c.l i).pl:=by unfold MG Qo;rw[zalah an]
  rw[aA];have b9:=hide (OZ c w i s W an h);have bk:=hide h;clear h aA an;go_enter func192,ntmps192;have A{G}(h:G:=by
  refine Ul ?_;rintro e w2 ⟨rfl,D⟩;have cK:=hide (QI c w2 i 3 MK (bk.out.later D));have aV:=hide D;go_wp2_with fail;refine WB ?_;rintro e aq ⟨⟨v,rfl,q,rfl⟩,ae,he,aa⟩;have dr:=hide ae;have bS:=hide ((Ap.of (R:=c.P) aV.out).next aa);clear ae;go_wp2
  go_end0
  exact⟨⟨_,rfl,rfl⟩,dr.out,by decide,bS.out⟩):=LG h;exact Xw
def ai5 (er pl:Int)(he:er≠0)(h:Ps c w i er pl) :
  MC 188 #[NW c] w λe w'=>e=MN (U7)/\w'=w:=by
 have A{G}(h:G:=by
 go_enter func188,ntmps188;have A{G}(h:G:=by
 go_ret;exact⟨rfl,rfl⟩):=LG h;exact Xw):=LG h;exact an8
end
abbrev NT (_:LK)(x:LW)(v:LY):Prop:=v=LQ x
def RJ (c:PC)(w:LK)(i:Nat)(h:Ps c w i 0 (-1)) :
  MC 188 #[NW c] w (Oj c w NT ZT (nameP c.l i)):=by
 have ag:=hide (UD c w i 0 (-1) h);have aJ:=h.c0;have E:=h.c1;have f1:=h.fz 1;have A{G}(h:G:=by
 have k3:=h.base.len;have a7:=h.SB;have ce:=h.base.tlt;have bk:=hide h;have d':=h.base.ntb
 by_cases N:(MJ c.l i).kd=1
 ·have aA:nameP c.l i=.ok (MJ c.l i).tx (i+1):=by unfold nameP;rw[zalak N]
  rw[aA];have ab:i+1<c.l.length:=Q8 h.base.ends h.lt (by rw[N];decide)
  rw[N] at k0;clear h aA N
  generalize MJ c.l i=t at k0 a9 bD b8
  go_enter func188,ntmps188;have A{G}(h:G:=by
  go_region
  go_wp2_with fail;have bZ:(w1.setCell (LD c.P 1) (LJ ((i:Int)+1))).cell? (LD c.tb (i * 4+1))=some (LQ t.tx):=by
   rw[zalar (w:=w1) (zalap w1 (LD c.P 1) _ c.tb d')];exact a9
  go_region
  go_wp2;go_ret;have av:((i:Int)+1)=(((i+1:Nat)):Int):=LM;refine⟨⟨_,rfl,rfl⟩,?_,?_⟩
  ·rw[av];exact(bk.out.step ab).drew.drew
  ·exact(((Ap.refl c.P _ w1).setCell (p:=(LD c.P 1)) (zalal rfl) _).drew).drew):=LG h;exact Xw
 ·have aA:nameP c.l i=.bad 3 (MJ c.l i).pl:=by unfold nameP Qo;rw[zalah N]
  rw[aA];have bT:((MJ c.l i).kd != 1)=true:=by rw[zaleg];exact N
  have cK:=hide (QI c w.drew i 3 MK h.drew);clear h aA N;go_enter func188,ntmps188;have A{G}(h:G:=by
  go_region
  go_wp2_with fail;refine WB ?_;rintro e aq ⟨⟨v,rfl,q,rfl⟩,ae,he,aa⟩;have dr:=hide ae;have bS:=hide (Ap.next (Ap.refl c.P w1.heap.size w1).drew aa);clear ae;go_wp2;go_ret;exact⟨⟨_,rfl,_,rfl⟩,dr.out,by decide,bS.out⟩):=LG h;exact Xw):=LG h;exact aua
def Ps.ap {c:PC}{B:Nat}{w w':LK}{i:Nat}{er pl:Int}(h:Ps c w i er pl)(aa:Below B w w')(bA:c.lo<=B):Ps c w' i er pl:=
 ⟨h.base.later (Ap.of aa) bA,by rw[aa.block _ (by have:=h.base.old;omega)];exact h.blk,h.lt⟩
def Yz {R B:Nat}{w w':LK}{t u:Tr}{p q:Nat}(h:NV B w t (LC p))(aa:Ap R w.heap.size w w')(a7:R<B)(bA:B<=w.heap.size)(O:Nj (From w.heap.size) w' u q):LU (λb=>B<=b) w' [t,u] [p,q]:=by
 obtain⟨ia,e,ae⟩:=h;have aW:p=ia:=by simpa[LC] using e
 subst aW;exact LU.pair (I:=λb=>B<=b) (M:=w.heap.size) (Nj.later (I:=λb=>B<=b/\b<w.heap.size) (Pq.Tq aa a7 λ_ h=>h.1) _ _ (Nj.mono (λ_ D ab=>⟨D,ab⟩) _ _ ae)) (Nj.mono (λ_ D _=>⟨zalan bA D,D⟩) _ _ O)
def aje {R B:Nat}{X:Nat->Prop}{w w':LK}{t:Tr}{p:Nat}{ts:List Tr}{ps:List Nat}(h:NV B w t (LC p))(aa:Ap R w.heap.size w w')(a7:R<B)(bA:B<=w.heap.size)(O:LU (λb=>w.heap.size<=b/\X b) w' ts ps):LU (λb=>B<=b) w' ([t]++ts) ([p]++ps):=by
 obtain⟨ia,e,ae⟩:=h;have aW:p=ia:=by simpa[LC] using e
 subst aW;exact LU.append (I:=λb=>B<=b) (M:=w.heap.size) _ _ (LU.mono (λ_ D _=>⟨zalan bA D.1,D.1⟩) _ _ O) (LU.cons (Nj.later (I:=λb=>B<=b/\b<w.heap.size) (Pq.Tq aa a7 λ_ h=>h.1) _ _ (Nj.mono (λ_ D ab=>⟨D,ab⟩) _ _ ae)) LU.nil)
def abG {R B:Nat}{w w1:LK}{ts:List Tr}{v:LY}{t:Tr}{p:Nat}(N:KV B w ts v)(bA:B<=w.heap.size)(aa:Ap R w.heap.size w w1)(a7:R<B)(av:Nj (From w.heap.size) w1 t p) :
  ∃ ps,w1.ownsRow B 22 1 v ps.length (ps.map LC)/\LU (λb=>B<=b/\v.ownBlock≠some b) w1 ts ps/\LU (λb=>B<=b/\v.ownBlock≠some b) w1 (ts++[t]) (ps++[p]):=by
 have hown:=N.own;obtain⟨ps,T,W⟩:=N;have E:=LU.later (I:=λb=>(B<=b/\v.ownBlock≠some b)/\b<w.heap.size) (Pq.Tq aa a7 λ_ h=>h.1.1) _ _ (LU.mono (λb D ab=>⟨D,ab⟩) _ _ W);exact aEh
def Vp {B:Nat}{w:LK}{ts:List Tr}{ps:List Nat}(h:LU (λb=>B<=b) w ts ps)(bA:B<=w.heap.size)(ab:ps.length<=maxLen)(bl:Array LY)(am:bl.toList=ps.map LC)(n:Nat)(av:n=ps.length)(kd:Int)(tx:LW)(z:Int)(q:Nat)(ac:q=w.heap.size+1) :
  EV B ((w.alloc (.cells bl 22)).alloc (MB kd tx z (.slice (some (LD w.heap.size 0)) n n))) (.mk kd tx z ts) (LC q):=by
 subst av ac;have:=EV.new (KV.row h bA ab bl am) OM kd tx z;simpa using this
def aE2 {B:Nat}{w:LK}{ts:List Tr}{v:LY}(h:KV B w ts v)(bA:B<=w.heap.size)(kd:Int)(tx:LW)(z:Int):EV B (w.alloc (MB kd tx z v)) (.mk kd tx z ts) (LC w.heap.size):=EV.new h bA kd tx z
section
variable (c:PC) (w:LK) (i:Nat) (er pl l4:Int) (he:er≠0) (h:Ps c w i er pl)
include c w i er pl l4 he h
def Yf :
  MC 193 #[NW c,LJ l4] w (Xl c w er pl ZN):=by
 have A{G}(h:G:=by
 have bk:=hide h;go_enter func193,ntmps193;exact avA):=LG h;exact an8
def aag :
  MC 191 #[NW c,LJ l4] w (Xl c w er pl ZN):=by
 have A{G}(h:G:=by
 have bk:=hide h;go_enter func191,ntmps191;exact avA):=LG h;exact an8
end
def V4:Array LY:=(lvls.map Value.string).toArray
structure ZW (c:PC)(F:OQ):Prop where
 st:∀ w d i r,d<=30->r=MO c.l F.st d i->r≠.out->Ps c w i 0 (-1)->MC 111 #[NW c,LJ ((d:Int)+1)] w (Oj c w (NV w.heap.size) ZN r)
 vl:∀ w d i r,d<=30->r=MO c.l F.vl d i->r≠.out->Ps c w i 0 (-1)->MC 193 #[NW c,LJ ((d:Int)+1)] w (Oj c w (NV w.heap.size) ZN r)
 pr:∀ w d i r g,d<=30->r=F.pr 2 d i->r≠.out->Ps c w i 0 (-1)->w.heap[g]? = some (NK V4 9)->g≠c.P->MC 254 #[NW c,LJ (d:Int),.slice (some (LD g 0)) 6 6] w (Oj c w (NV w.heap.size) ZN r)
 sg:∀ w d i r,d<=30->r=F.sg d i->r≠.out->Ps c w i 0 (-1)->MC 288 #[NW c,LJ (d:Int)] w (Oj c w (NV w.heap.size) ZN r)
def ahq {c:PC}{w w1:LK}{er pl:Int}{Z:LY->Prop}{e:Ending}{w':LK}(aa:Ap c.P w.heap.size w w1)(h:Xl c w1 er pl Z e w'):Xl c w er pl Z e w':=⟨h.1,h.2.1,h.2.2.1,aa.next h.2.2.2⟩
section
variable {c:PC} {F:OQ} (ai:ZW c F) (w:LK) (d i:Nat) (r:PR Tr) (aD:d<=30)
include c F ai w d i r aD
def Uy (W:r=MO c.l F.st d i)(ay:r≠.out)(h:Ps c w i 0 (-1)) :
  MC 191 #[NW c,LJ (d:Int)] w (Oj c w (NV w.heap.size) ZN r):=by
 have ag:=hide (UD c w i 0 (-1) h);have b9:=hide (ai.st w d i r aD W ay h);have bb:=hide ay;clear h W ay;go_enter func191,ntmps191;have A{G}(h:G:=by
 refine Ul ?_;intro e w2 ae
 cases r with
 | out=>exact absurd rfl bb.out
 | ok t j=>
  obtain⟨⟨v,rfl,a0⟩,bE,aa⟩:=ae;obtain⟨q,rfl,av⟩:=a0;have nk:=hide av;have ib:=hide bE;have iG:=hide aa;exact avi
 | bad er pl=>
  obtain⟨⟨v,rfl,q,rfl⟩,bE,he,aa⟩:=ae;have ib:=hide bE;have iG:=hide aa;exact avl):=LG h;exact Xw
def acT (W:r=Px c.l F d i)(ay:r≠.out)(h:Ps c w i 0 (-1)) :
  MC 190 #[NW c,LJ (d:Int)] w (Oj c w (NV w.heap.size) ZN r):=by
 unfold Px at W;have ag:=hide (O9 c w i NZ MK h);have a1:=hide h.SB;have aF:=hide W;have bb:=hide ay;have bN:=hide ai;clear h W ay;go_enter func190,ntmps190;go_wp2_with fail;refine NJ ?_;intro e w1 ae
 cases T:MG c.l NZ i with
 | out=>rw[T] at aF;exact absurd aF.out bb.out
 | bad er pl=>
  rw[T] at ae aF;have ac:r=.bad er pl:=Lu aF;subst ac;obtain⟨⟨v,rfl,rfl⟩,⟨j,bE⟩,he,aa⟩:=ae;have bS:=hide aa;have b9:=hide (Yf c w1 j er pl ((d:Int)+1) he bE);clear T bE;go_wp2_with fail;refine Ul ?_;rintro e w2 ⟨⟨v,rfl,q,rfl⟩,⟨a8,df⟩,_,cI⟩;exact ayv
 | ok dg bH=>
  rw[T] at ae aF;have ac:r=(MO c.l F.vl d bH).bind λt aX=>(MG c.l OX aX).bind λ_ ca=>.ok t ca:=Lu aF;obtain⟨⟨v,rfl,rfl⟩,bE,aa⟩:=ae;have bS:=hide aa;have aG:=hide ac;have cU:=hide bE;clear T bE ac
  cases bG:MO c.l F.vl d bH with
  | out=>rw[bG] at aG;exact absurd aG.out bb.out
  | bad er pl=>
   have b9:=hide (bN.out.vl w1 d bH _ aD bG.symm (by nofun) cU.out);rw[bG] at aG;have ac:r=.bad er pl:=Lu aG;subst ac;clear bG;go_wp2_with fail;refine Ul ?_;rintro e w2 ⟨⟨v,rfl,q,rfl⟩,⟨a8,df⟩,he,cI⟩;exact ayv
  | ok t a8=>
   have b9:=hide (bN.out.vl w1 d bH _ aD bG.symm (by nofun) cU.out);rw[bG] at aG;have ac:r=(MG c.l OX a8).bind λ_ ca=>.ok t ca:=Lu aG;have bY:=hide ac;clear bG ac;go_wp2_with fail;refine Ul ?_;rintro e w2 ⟨⟨v,rfl,q,rfl,av⟩,df,cI⟩;have bR:=hide (bS.out.next cI);have b3:=hide av;have mf:=hide bS.out.size;have cK:=hide (O9 c w2 a8 OX MK df);go_wp2_with fail;refine WB ?_;intro e aq ae
   cases d6:MG c.l OX a8 with
   | out=>rw[d6] at bY;exact absurd bY.out bb.out
   | bad er pl=>
    rw[d6] at ae bY;have ac:r=.bad er pl:=Lu bY;subst ac;obtain⟨⟨v,rfl,rfl⟩,bE,he,aa⟩:=ae;have b1:=hide (bR.out.next aa);have dr:=hide bE;clear d6 bE;go_wp2;go_ret;exact⟨⟨_,rfl,q,rfl⟩,dr.out,he,b1.out⟩
   | ok x3 eI=>
    rw[d6] at ae bY;have ac:r=.ok t eI:=Lu bY;subst ac;obtain⟨⟨v,rfl,rfl⟩,bE,aa⟩:=ae;have b1:=hide (bR.out.next aa);have dr:=hide bE;have gU:Hid (Nj (λb=>w.heap.size<=b) aq t q):=Nj.mono (λb D _=>zalan mf.out D) _ _ (Nj.later (Pq.Tq aa (B:=w1.heap.size) (by have E:=Lu a1;have O:=Lu mf;omega) λ_ h=>h) _ _ b3.out)
    clear d6 bE;go_wp2;go_ret;exact⟨⟨_,rfl,q,rfl,gU.out⟩,dr.out,b1.out⟩
end
def aji (L:LK)(gj iA:Obj):NS (L.alloc gj) L.heap.size iA=L.alloc iA:=by
 have h:(L.heap.push gj).setIfInBounds L.heap.size iA=L.heap.push iA:=by
  apply Array.ext MP;intro k E O;simp only[Array.size_setIfInBounds,Array.size_push] at E;rw[Array.getElem_setIfInBounds (by simpa using E)]
  by_cases N:L.heap.size=k
  ·subst N;simp
  ·rw[zalah N,Array.getElem_push_lt LM,Array.getElem_push_lt LM]
 unfold NS World.alloc;simp only[h]
def NU (cE fF:TypeId)(L:LK)(l:List (LW × LY))(s:LW)(v:LY)(k:Nat)(m kp:Array MapEntry)(N:k=l.length)(aA:m=mapOf l)(Ht:kp=mapOf (l++[(s,v)]))(ce:prog.underlying cE=some (.map 9 fF))(av:l.find? (λe=>decide (s=e.1))=none) :
  (Instr.mapUpdate cE (.map (some L.heap.size)) (LQ s) v).run prog (L.alloc (.map m k))=.ok () (L.alloc (.map kp (k+1))):=by
 subst N aA Ht;rw[Wj cE fF L.heap.size l s v _ ce (LP _ _) av,aji]
def ahA (cE fF:TypeId)(m k:Nat)(l:List (LW × LY))(s:LW)(z:LY)(L:LK)(ce:prog.underlying cE=some (.map 9 fF))(aA:L.heap[m]? = some (.map (mapOf l) k))(b5:(zeroValue fF).run prog L=.ok z L) :
  (Instr.lookup cE (.map (some m)) (LQ s) false).run prog L=.ok (((l.find? (λe=>decide (s=e.1))).map (·.2)).getD z) L:=aDV
def NY (l:List (LW × Int)):List (LW × LY):=l.map λe=>(e.1,LJ e.2)
def SX (g k:Nat)(l:List (LW × Int))(s:LW)(L:LK)(aA:L.heap[g]? = some (.map (mapOf (NY l)) k)) :
  (Instr.lookup 89 (.map (some g)) (LQ s) false).run prog L=.ok (LJ ((Np l s).getD 0)) L:=by
 rw[ahA 89 3 g k _ s (LJ 0) L zalbj aA Nw];unfold NY Np;rw[zalfk];simp only[zalex]
 cases l.find? (λe=>decide (s=e.1)) <;> rfl
def alz (L:LK):∃ bZ cf cx kq:Array MapEntry,
  (Instr.makeMap 89 none).run prog L=.ok (.map (some L.heap.size)) (L.alloc (.map #[] 0))
  /\ (Instr.mapUpdate 89 (.map (some L.heap.size)) (LQ ajC) (LJ 19)).run prog (L.alloc (.map #[] 0))=.ok () (L.alloc (.map bZ 1))
  /\ (Instr.mapUpdate 89 (.map (some L.heap.size)) (LQ adG) (LJ 20)).run prog (L.alloc (.map bZ 1))=.ok () (L.alloc (.map cf 2))
  /\ (Instr.mapUpdate 89 (.map (some L.heap.size)) (LQ ajD) (LJ 21)).run prog (L.alloc (.map cf 2))=.ok () (L.alloc (.map cx 3))
  /\ (Instr.mapUpdate 89 (.map (some L.heap.size)) (LQ adH) (LJ 22)).run prog (L.alloc (.map cx 3))=.ok () (L.alloc (.map kq 4))
  /\ ∀ s,(Instr.lookup 89 (.map (some L.heap.size)) (LQ s) false).run prog (L.alloc (.map kq 4))=.ok (LJ (abm s)) (L.alloc (.map kq 4)):=by
 refine⟨mapOf (NY (lits.take 1)),mapOf (NY (lits.take 2)),mapOf (NY (lits.take 3)),mapOf (NY lits),mkMap 89 L,?_,?_,?_,?_,?_⟩
 ·exact NU 89 3 L [] ajC _ 0 _ _ rfl rfl rfl zalbj rfl
 ·exact NU 89 3 L (NY (lits.take 1)) adG _ 1 _ _ rfl rfl rfl zalbj (by decide +kernel)
 ·exact NU 89 3 L (NY (lits.take 2)) ajD _ 2 _ _ rfl rfl rfl zalbj (by decide +kernel)
 ·exact NU 89 3 L (NY (lits.take 3)) adH _ 3 _ _ rfl rfl rfl zalbj (by decide +kernel)
 ·intro s;exact SX L.heap.size 4 lits s _ (LP _ _)
def ao4 (L:LK):∃ bZ cf cx kq sn so lR:Array MapEntry,
  (Instr.makeMap 89 none).run prog L=.ok (.map (some L.heap.size)) (L.alloc (.map #[] 0))
  /\ (Instr.mapUpdate 89 (.map (some L.heap.size)) (LQ tOr) (LJ 25)).run prog (L.alloc (.map #[] 0))=.ok () (L.alloc (.map bZ 1))
  /\ (Instr.mapUpdate 89 (.map (some L.heap.size)) (LQ adI) (LJ 26)).run prog (L.alloc (.map bZ 1))=.ok () (L.alloc (.map cf 2))
  /\ (Instr.mapUpdate 89 (.map (some L.heap.size)) (LQ Yp) (LJ 27)).run prog (L.alloc (.map cf 2))=.ok () (L.alloc (.map cx 3))
  /\ (Instr.mapUpdate 89 (.map (some L.heap.size)) (LQ Yq) (LJ 28)).run prog (L.alloc (.map cx 3))=.ok () (L.alloc (.map kq 4))
  /\ (Instr.mapUpdate 89 (.map (some L.heap.size)) (LQ aaH) (LJ 29)).run prog (L.alloc (.map kq 4))=.ok () (L.alloc (.map sn 5))
  /\ (Instr.mapUpdate 89 (.map (some L.heap.size)) (LQ abZ) (LJ 30)).run prog (L.alloc (.map sn 5))=.ok () (L.alloc (.map so 6))
  /\ (Instr.mapUpdate 89 (.map (some L.heap.size)) (LQ adJ) (LJ 31)).run prog (L.alloc (.map so 6))=.ok () (L.alloc (.map lR 7))
  /\ ∀ s,(Instr.lookup 89 (.map (some L.heap.size)) (LQ s) false).run prog (L.alloc (.map lR 7))=.ok (LJ (opK s)) (L.alloc (.map lR 7)):=by
 refine⟨mapOf (NY (ops.take 1)),mapOf (NY (ops.take 2)),mapOf (NY (ops.take 3)),mapOf (NY (ops.take 4)),mapOf (NY (ops.take 5)),mapOf (NY (ops.take 6)),mapOf (NY ops),mkMap 89 L,?_,?_,?_,?_,?_,?_,?_,?_⟩
 ·exact NU 89 3 L [] tOr _ 0 _ _ rfl rfl rfl zalbj rfl
 ·exact NU 89 3 L (NY (ops.take 1)) adI _ 1 _ _ rfl rfl rfl zalbj (by decide +kernel)
 ·exact NU 89 3 L (NY (ops.take 2)) Yp _ 2 _ _ rfl rfl rfl zalbj (by decide +kernel)
 ·exact NU 89 3 L (NY (ops.take 3)) Yq _ 3 _ _ rfl rfl rfl zalbj (by decide +kernel)
 ·exact NU 89 3 L (NY (ops.take 4)) aaH _ 4 _ _ rfl rfl rfl zalbj (by decide +kernel)
 ·exact NU 89 3 L (NY (ops.take 5)) abZ _ 5 _ _ rfl rfl rfl zalbj (by decide +kernel)
 ·exact NU 89 3 L (NY (ops.take 6)) adJ _ 6 _ _ rfl rfl rfl zalbj (by decide +kernel)
 ·intro s;exact SX L.heap.size 7 ops s _ (LP _ _)
def ownVar (t:Tr):List LW:=if t.kd==2 then [t.tx] else []
mutual
def vw:Tr->List LW
 | .mk kd tx _ ks=>(if kd==2 then [tx] else [])++(if kd==5||kd==37 then [] else WO ks)
def WO:List Tr->List LW
 | []=>[]
 | t::ts=>vw t++WO ts
end
def asv (t:Tr):vw t=ownVar t++(if MF t then [] else WO t.kids):=by
 cases t with
 | mk kd tx n ks=>rw[vw];rfl
def ajG:∀ a b:List Tr,WO (a++b)=WO a++WO b
 | [],b=>by simp[WO]
 | t::a,b=>by simp[WO,ajG a b]
def aaQ (ts:List Tr)(k:Nat)(N:k<ts.length):WO (ts.take (k+1))=WO (ts.take k)++vw ts[k]:=by
 rw[zalac N,ajG];simp[WO]
mutual
def aty:∀ t:Tr,(vw t).length<=t.count
 | .mk kd tx n ks=>by
  have h:=VX ks;rw[vw,count_mk]
  split <;> split <;> simp <;> omega
def VX:∀ ts:List Tr,(WO ts).length<=Tr.counts ts
 | []=>by simp[WO]
 | t::ts=>by
  have E:=aty t;have O:=VX ts;rw[WO,L6];simp;omega
end
structure afG (b B:Nat)(l:List LW)(w:LK):Prop where
 lt:b<B
 sz:B<=w.heap.size
 own:∃ v,w.heap[b]? = some (NK #[v] 38)/\Na B w v l
def alj {b B g cap n:Nat}{l:List LW}{s:LW}{wd aq:LK}{v:LY}(aC:b<B)(bK:B<=wd.heap.size)(D:wd.heap[b]? = some (NK #[v] 38))(hown:wd.ownsRow B 9 1 v l.length (l.map Value.string))(av:n=l.length+1)
  (hown3:aq.ownsRow B 9 1 (.slice (some (LD g 0)) n cap) n (l.map Value.string++[LQ s])) (cS:(wd.alloc (.cells #[LQ s] 9)).grownBy aq v.ownBlock) :
  afG b B (l++[s]) (aq.setCell (LD b 0) (.slice (some (LD g 0)) n cap))/\Ap b B wd (aq.setCell (LD b 0) (.slice (some (LD g 0)) n cap)):=by
 subst av;have fp:∀ k,v.ownBlock=some k->B<=k:=λk N=>(Me hown k N).2;have dq:Ap b B wd (aq.setCell (LD b 0) (.slice (some (LD g 0)) (l.length+1) cap)):=(((Ap.refl b B wd).alloc bK _).grown cS OM fp).setCell (p:=(LD b 0)) (zalal rfl) _;have ao:aq.heap[b]? = some (NK #[v] 38):=by
  rw[cS.block b OM (λe=>by have:=fp b e.symm;omega),zalaa _ _ _ LM]
  exact D
 have J':B<=g:=(Me hown3 g rfl).2;refine⟨⟨aC,zalan bK dq.size,_,by rw[heap_set ao];rfl,?_⟩,dq⟩
 refine aac ?_;rw[show (l++[s]).length=l.length+1 by simp,zalam];exact L8 (I:=λx=>x=g) (λx af _=>zalap aq (LD b 0) _ x (by have E:x=g:=af;show x≠b;omega)) (λy hy=>by simpa[Value.ownBlock] using hy.symm) hown3
def ax1 {G goal:Prop}(E:G->goal)(O:G):goal:=E O
def alk {b B p:Nat}{l:List LW}{t:Tr}{w:LK}(i9:afG b B l w)(av:Nj (λx=>x<B/\x≠b) w t p)(ab:l.length<=100000) :
  MC 255 #[LC p,Mc b 0] w λe w'=>e=MN (L9 (!MF t))/\afG b B (l++ownVar t) w'/\Ap b B w w':=by
 obtain⟨a6,b4,bL,bM,bP⟩:=zalbl info9;have yW:p<B/\p≠b:=by
  cases t with
  | mk kd tx kt ks=>rw[Nj] at av;exact av.1
 have jv:∀ L,Ap b B w L->Hid (MC 256 #[LC p] L λe w'=>e=MN (L9 (MF t))/\w'=L):=λL aO=>ali t p L (Nj.nt (Nj.later (λx af _=>aO.block x af.1 af.2) _ _ av));obtain⟨bF,c0,c1,_⟩:=(Nj.nt av).cells;have D7:=hide i9;obtain⟨vD,Gs,v,D,hown⟩:=i9;obtain⟨va,ck,rfl⟩:=LZ hown;have ct:w.cell? (LD b 0)=some (.slice va l.length ck):=by rw[cell_of D];rfl
 have dx:=Ny D 0;have gs:=lt_of_heap D;have HOWN:=hide hown;have aV:=hide D;obtain⟨tx,eC⟩:∃ tx,tx=t.tx:=⟨_,rfl⟩;obtain⟨kd,fD⟩:∃ kd,kd=t.kd:=⟨_,rfl⟩;obtain⟨aZ,vL⟩:∃ aZ,aZ=MF t:=⟨_,rfl⟩;rw[<-eC] at c1;rw[<-fD] at c0;rw[<-vL];have pW:Hid (ownVar t=if kd==2 then [tx] else []):=by rw[eC,fD];rfl
 rw[pW.out];simp only[<-vL] at jv;clear D eC fD vL
 cases N:(kd==2) with
 | false=>
  have ag:=jv w (Ap.refl _ _ _);go_enter func255,ntmps255;go_wp2_with fail;refine NJ ?_;rintro e w2 ⟨rfl,rfl⟩;go_wp2;go_ret;exact⟨rfl,by simpa using D7.out,Ap.refl _ _ _⟩
 | true=>
  go_enter func255,ntmps255;go_wp2_with fail;refine ax1 (G:=?G1) (λez=>?_) ?_;rotate_left
  ·refine zln ?_;refine wt 1 (LC p) ?_;refine wt 2 (LC p) ?_;refine wt 3 (Mc p 1) ?_;refine wr2 0 4 (λK U=>?_) (λK U=>?_)
   ·go_simp;refine Qd ?_;clear U K;refine O7 4 λK U=>?_;go_simp;refine Qd ?_;clear U K;refine O7 5 λK U=>?_;go_simp;refine Qd ?_;clear U K;refine Pz (listed':=tf 6 2) Nw rfl ?_;exact ez
   ·go_simp;refine Qd ?_;clear U K;refine wr2 0 5 (λK U=>?_) (λK U=>?_)
    ·go_simp;refine Qd ?_;clear U K;refine O7 5 λK U=>?_;go_simp;exact ax2
    ·go_simp;refine Qd ?_;clear U K;refine O7 0 λK U=>?_;go_simp;exact ax2
  ·refine O7 6 λK U=>?_;refine step_append_lies _ rfl _ _ 38 rfl B 9 a6 (LQ ByteArray.empty) 1 16 zalde b4 bL bM bP rfl MK _ _ _ rfl ((HOWN.out:World.ownsRow w.drew B 9 1 _ _ _).alloc _) (LD w.heap.size 0) 1 1 [LQ tx] rfl rfl (Vy w.drew tx _ rfl) (YS tx) MK (by unfold maxLen;omega) LM OM (w.heap.size+1) MP ?_
   intro g cap aq hown3 dD _ _;refine U _ _ ?_;clear U K;have Ea:=hide (alj (wd:=w.drew) vD Gs aV.out HOWN.out rfl hown3 dD);have ao:aq.heap[b]? = w.heap[b]?:=(dD.block b OM (λe=>by have:=(Me HOWN.out b e.symm).2;omega)).trans (zalaa w.drew _ b gs)
   have dH:aq.cell? (LD b 0)=some (.slice va l.length ck):=(zalar (w:=w) ao).trans ct;have kW:aq.frozen? (LD b 0)=false:=(zalef (w:=w) ao).trans dx;have he:b<aq.heap.size:=lt_of_heap (ao.trans aV.out);clear ao ct dx;refine O7 7 λK U=>?_;go_simp;refine Qd ?_;clear U K dH kW he;refine aad ?_;obtain⟨jc,cI⟩:=Lu Ea;obtain⟨L,aO⟩:∃ L,L=aq.setCell (LD b 0) (.slice (some (LD g 0)) (l.length+1) cap):=⟨_,rfl⟩;rw[<-aO] at jc cI ⊢;have pN:=hide jc;have bR:=hide ((Ap.refl b B w).drew.trans cI)
   clear aO c0 c1;have ag:=jv L bR.out;go_wp2_with fail;refine NJ ?_;rintro e w2 ⟨rfl,rfl⟩;go_wp2;go_ret;exact⟨rfl,pN.out,bR.out⟩
