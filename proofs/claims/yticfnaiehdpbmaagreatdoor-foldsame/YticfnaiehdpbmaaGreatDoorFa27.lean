import Derived.Test.YticfnaiehdpbmaaGreatDoorFa25
import Derived.Test.YticfnaiehdpbmaaGreatDoorFa26
import Derived.LaidHandle
import Derived.Stop.LaidErr
import Derived.Test.YticfnaiehdpbmaaGreatDoorFa24
set_option maxRecDepth 100000
set_option maxHeartbeats 0
set_option linter.all false
namespace Go.Proofs.YticfnaiehdpbmaaGreatDoor
open Go.RowKit Go.Proofs.Tryz
namespace Hp
structure Cx (w0:Pe)(mb af:Nat)(ab:List Nat)(es:Px)(eb:Addr):Prop where
 b:Bs w0 mb af ab es
 st:kA w0 mb es eb
 tb:Wj w0
 gl:Gl w0
structure QQ (f:Nat)(N:Int)(p:Pl)(σ:St):Prop where
 q:Q f N p σ
 bd:N<=99000000+10 * σ.steps
structure FC (w0:Pe)(mb af:Nat)(ab:List Nat)(es:Px)(F:Fx)(f:Nat):Prop where
 v:∀ {N d p σ},QQ f N p σ->Nk 0 d.2->Ux w0 mb af ab es σ d p (F.v d p σ)
 s:∀ {N d p l σ L},QQ f N p σ->Nk 1 d.2->(Qk d.2=true->K4 σ.M p.scope d.2.tx)->Lg σ l->(∀ b,L=some b->mb<=b)->Yz w0 mb af ab es σ d p L l (F.s d p l σ)
section
variable {I:Pe} {r H:Nat} {z:List Nat} {M:Px} {aN:Addr} {w:Pe} {σ g:St} {k aD:Int} {i:Fx} {f:Nat} {a:Pl} {b:Nd} {q:Option Va} {W:Option Nat} {v:Va} {m:Er} {aL:Oc}
section
variable (h:QQ f k a σ)
include h
theorem QQ.next (c:VO k σ ((v,.no),g)):QQ f k a g:=⟨h.q.next c,by have:=h.bd;have:=c.ex.st;dsimp only at this;omega⟩
theorem QQ.iZ (c:SO k σ ((aL,.no,q),g)):QQ f k a g:=⟨h.q.iZ c,by have:=h.bd;have:=c.ex.st;dsimp only at this;omega⟩
theorem QQ.nx (c:Nx aD σ g)(d:aD<=99000000+10 * σ.steps):QQ f aD a g:=⟨h.q.nx c,by rw[c.st];exact d⟩
end
theorem QQ.step (h:QQ (f+1) k a σ)(c:¬ 20000<σ.step.steps):QQ f (k - 10000) a σ.step:=⟨h.q.step c,by have:=h.bd;show k - 10000<=99000000+10 * ((σ.steps+1:Nat):Int);omega⟩
theorem Iv.sz (h:Iv k σ)(j:k<=99000000+10 * σ.steps)(ay:σ.steps<=20001):Sz 400000000 σ:=by
 obtain⟨bz,c,d⟩:=h.pz;exact c.up O9
theorem Eo.le (h:Eo σ m):σ.steps<=20001:=by
 cases m with
 | no=>exact gF h
 | stop=>exact im h
 | Yq v=>exact gF h.1
 | ir=>exact h.elim
theorem QQ.sz (h:QQ f k a σ):Sz 400000000 σ:=h.q.iv.sz h.bd (by have:=h.q.st;omega)
theorem VO.sz {c:(Va × Er) × St}(h:VO k σ c)(d:k<=99000000+10 * σ.steps):Sz 400000000 c.2:=h.iv.sz (by have:=h.ex.st;omega) h.er.le
theorem vB {e:Nat}{c:Mo}{v:Va}(h:Gv e v)(l:e<=400000000):(c.hu v).size<=3000/\(-1000000000<=v.n/\v.n<=1000000000):=by
 have j:-1000000000<=v.n/\v.n<=1000000000:=by
  by_cases d:v.k=5
  ·have:=h.r d;omega
  ·exact h.n d
 refine⟨?_,j⟩;unfold Mo.hu
 split
 ·decide
 split
 ·decide
 split
 ·split <;> decide
 split
 ·have:=Lib.itoa_length_le v.n O9 O9
  show (List.toArray _).size<=3000
  rw[jK];omega
 split
 ·exact h.s
 split
 ·split <;> decide
 ·decide
theorem aBC (j:Cx I r H z M aN)(R:FI i f)(L:FC I r H z M i f)(h:QQ (f+1) k a σ)(F:Nk 0 b.2)
  (a8:b.2.kd=35->∀ D u d,Ms I r H z D σ.step->PX z D u b->QQ f (k - 10000) a σ.step->Pq 263 #[O5 r,O5 u.p,Qy a d] D (P5 I r H z M D (YH i b a σ.step))):Ux I r H z M σ b a (YR i b a σ):=by
 intro be u d A B;have ay:=j.st.XO;have C:=h.q.st
 by_cases c:σ.steps<20000
 ·have l:=h.step (show ¬ 20000<σ.steps+1 by omega);have ah:=l.sz;have bh:=l.bd
  by_cases aI:b.2.kd=17
  ·rw[q3 c aI];exact iA j.st A B aI C c a d
  by_cases aJ:b.2.kd=18
  ·rw[si c aJ];exact ape j.st A B aJ C c a d
  by_cases aW:b.2.kd=19
  ·rw[sj c aW];exact alI j.st A B aW C c a d
  by_cases aS:b.2.kd=20
  ·rw[rW c aS];exact NA j.st A B aS C c a d
  by_cases aV:b.2.kd=21
  ·rw[sa c aV];exact alJ j.st A B aV C c a d
  by_cases aK:b.2.kd=23
  ·rw[tu c aK];exact Z8 j.st A B aK C c a d λD p s=>R1 j.b p ah O9 s a d
  by_cases aO:b.2.kd=24
  ·have O:=(F.Yc O9).1;have o:=F.pq O9;rw[tc c aO];refine LW j.st A B aO C c a d λD p s=>?_
   by_cases ad:(Pg b 0).2.kd=36
   ·have n:n0 i b a σ.step=n7 i (Pg b 0) (Pg b 1) a σ.step:=fL ad;rw[n];have N:=(O.Yc O9).1;have E:=(R.v l.q N).1;refine acv ay p s o.2 a d ad (O.lQ O9) (L.v l N) (λaj g X=>?_) (λaj g aZ aG X am=>?_) (bD:=400000000) O9
    ·rw[X] at E;exact L.v (l.next E) o.1
    ·rw[X] at E;have e:=(R.v (l.next E).q o.1).1;rw[am] at e;exact e.sz (l.next E).bd
   ·have n:n0 i b a σ.step=ui i (Pg b 0) (Pg b 1) a σ.step:=fK ad;rw[n];have U:=l.q.iv.look (Pg b 0) a;have N:=l.nx U (by have:=h.bd;show k - 10000+1<=99000000+10 * ((σ.steps+1:Nat):Int);omega)
    refine acw ay j.b j.st.et p s o.2 a d ad (L.v N o.1) ah (λaj g X=>?_) O9;have e:=(R.v N.q o.1).1;rw[X] at e;exact e.sz N.bd
  by_cases au:b.2.kd=25
  ·have O:=(F.Yc O9).1;have o:=F.pq O9;rw[qy c au];refine asC j.st A B au C c a d λD p s=>N0 ay p s o.2 au a d (L.v l O) λaj g X=>?_;have E:=(R.v l.q O).1;rw[X] at E;exact L.v (l.next E) o.1
  by_cases aF:b.2.kd=26
  ·have O:=(F.Yc O9).1;have o:=F.pq O9;rw[ru c aF];refine Ng j.st A B aF C c a d λD p s=>aoY ay p s o.2 aF a d (L.v l O) λaj g X=>?_;have E:=(R.v l.q O).1;rw[X] at E;exact L.v (l.next E) o.1
  by_cases a7:27<=b.2.kd/\b.2.kd<=31
  ·have o:=F.pq O9;have n:=F.qt a7;have e:∀ D,Ms I r H z D σ.step->PX z D u b->Pq 259 #[O5 r,O5 u.p,Qy a d] D (P5 I r H z M D (YQ i b a σ.step)):=λD p s=>by
    refine Mu ay j.b j.tb p s o.2 a d (λac=>QQ f (k - 10000) a ac) l (λN aG ac T=>⟨L.v T (n N aG),λv g X=>?_⟩) (λaj aZ g X=>?_)
    ·have E:=(R.v T.q (n N aG)).1;rw[X] at E;exact T.next E
    ·have U:=rU R (QB b) [] l.q n (λ_ h=>by cases h);rw[X] at U;have am:=(U.iv.sz (by have:=U.ex.st;dsimp only at this ⊢;omega) U.er.le).go.sm.o
     have a1:=vB (c:=g.M) (U.va aj gf) am;have aU:=vB (c:=g.M) (U.va aZ (gE _ gf)) am;exact⟨a1.2,aU.2,by omega,by omega⟩
   obtain t|t|t|t|t:b.2.kd=27\/b.2.kd=28\/b.2.kd=29\/b.2.kd=30\/b.2.kd=31:=O9
   ·rw[r5 c t];exact Oe j.st A B t C c a d e
   ·rw[qQ c t];exact alH j.st A B t C c a d e
   ·rw[rJ c t];exact apa j.st A B t C c a d e
   ·rw[rD c t];exact P3 j.st A B t C c a d e
   ·rw[r0 c t];exact apc j.st A B t C c a d e
  by_cases aX:b.2.kd=32
  ·rw[qF c aX];exact Mf j.st A B aX C c a d λD p s=>UX ay p s (F.lQ O9) a d (L.v l (F.Yc O9).1)
  by_cases aY:b.2.kd=33
  ·rw[ri c aY];exact Mg j.st A B aY C c a d λD p s=>W2 ay p s (F.lQ O9) a d (L.v l (F.Yc O9).1) ah O9
  by_cases aQ:b.2.kd=34
  ·have O:=(F.Yc O9).1;rw[tE c aQ];refine ag3 j.st A B aQ C c a d λD p s=>asl ay p s (F.lQ O9) a d (L.v l O) (λt=>O.lQ O9) (λt=>L.v l (O.Yc O9).1) ah ?_ O9;intro t aL g X;obtain⟨o,ai,ak,_⟩:=qc R l.q (d:=Pg (Pg b 0) 0) (O.Yc O9).1;rw[X] at o ai ak;exact o.sz (by have:=ai.st;dsimp only at this ⊢;omega) ak.le
  by_cases aC:b.2.kd=35
  ·rw[sV c aC];exact Z7 j.st A B aC C c a d λD p s=>a8 aC D u d p s l
  by_cases ad:b.2.kd=36
  ·rw[uP c ad];refine RA j.st A B ad C c a d λD p s=>ase ay p s (F.lQ O9) a d (L.v l (F.Yc O9).1) (λaL g X=>?_) (bD:=400000000) O9;obtain⟨o,ai,ak,_⟩:=qc R l.q (d:=Pg b 0) (F.Yc O9).1;rw[X] at o ai ak;exact o.sz (by have:=ai.st;dsimp only at this ⊢;omega) ak.le
  by_cases ax:b.2.kd=37
  ·rw[sK c ax];refine ag6 j.st A B ax C c a d λD p s=>?_;obtain⟨bc,a6,bf,ba,e⟩:=p;obtain⟨_,_,_,_,_,N,_,_⟩:=(F.jP ax).sh;refine(ar0 j.b e ah s (by rw[N];rfl) O9 a d l.q.po.some).mono ?_
   rintro m aG ⟨rfl,aU,a1,am,n⟩;exact⟨rfl,⟨_,_,_,_,am⟩,n.jn e⟩
  by_cases ap:b.2.kd=38
  ·obtain⟨o,ai⟩:=F.obj ap;rw[vm c ap];refine OZ j.st A B ap C c a d λD p s=>?_;have a6:=l.q.iv.Qj (e:=0) O9;refine ao3 ay p ah O9 s O9 (λt am=>(o t am).2) a d (λac=>QQ f (k - 9999+(ac.steps - σ.step.steps)) a ac/\σ.step.steps<=ac.steps) ⟨l.nx (a6.up (by show _<=k - 9999+((σ.step.steps:Int) - σ.step.steps);omega)) (by have:=h.bd;show k - 9999+((σ.step.steps:Int) - σ.step.steps)<=99000000+10 * ((σ.steps+1:Nat):Int);omega),Qp⟩ (λt am ac T=>⟨L.v T.1 (o t am).1,λv g X=>?_⟩)
   obtain⟨E,aG⟩:=R.v T.1.q (o t am).1;rw[X] at E aG
   dsimp only at aG
   have a1:=E.iv.put E.va σ.step.M.objs.length t.2.tx false;have bf:=T.2;have ba:=h.bd;have M:(g.Rj σ.step.M.objs.length t.2.tx v false).steps=g.steps:=rfl;have bc:σ.step.steps=σ.steps+1:=rfl;refine⟨E.sz T.1.bd,⟨(T.1.next E).q.nx (a1.up ?_),?_⟩,by rw[M];omega⟩
   all_goals
    rw[M];omega
  rw[qN c O9];exact ajl j.st A B O9 C c a d
 ·rw[vC c];exact alF j.st A B C O9 a d
theorem gX.x {bz:Nat}{j:Array Px}{c:Er × St}(p:PU w W q)(h:Pq bz j w (gX I r H z M w c)):Pq bz j w (om I r H z M W w ((c.1,q),c.2)):=by
 refine h.mono ?_;rintro m s ⟨o,l,d⟩;exact⟨o,l,d.up,p.fR d⟩
theorem yX {c:Tr}(h:Fg c):c.fJ.length=2:=by
 obtain⟨_,_,_,_,_,rfl,_,_⟩:=h.sh;rfl
theorem Z.cq (h:Z f k a σ aL (.Yq v) q):Nx (k+2) σ ((σ.gq a.scope (-1) (own b)).hi σ.gg b.2.tx 0 v)/\Q f (k+2) { a with scope:=σ.gg } ((σ.gq a.scope (-1) (own b)).hi σ.gg b.2.tx 0 v):=by
 have A{G}(h:G:=by
 exact⟨c.up O9,by rw[c.st];exact d.fu,by rw[c.st];exact d.st,c.iv.up O9,t⟩):=O6 h;exact BM
theorem asV (j:FI i f)(h:Z f k a σ aL m q)(p:Nk 1 (Pg b 0).2)(o:Qk (Pg b 0).2=false):VA i b a aL m q σ=((aL,m,q),σ)\/σ.steps<(VA i b a aL m q σ).2.steps:=by
 unfold VA
 split
 ·unfold WR
  cases m with
  | Yq v=>
   obtain⟨d,c⟩:=h.cq (b:=b);exact .inr (j.s c p (λm=>by rw[o] at m;cases m) (h.la.up d.ex)).2
  | _=>exact .inl rfl
 ·by_cases d:m=.stop
  ·subst d;exact .inl rfl
  ·right;have c:=(j.s (h.q d) p (λm=>by rw[o] at m;cases m) h.la).2
   have t{G}(h:G:=by
   cases s with
   | no=>
    simp only
    split <;> exact c
   | _=>exact c):=O6 h;exact GX
theorem TO (t:Cx I r H z M aN)(ac:FI i f)(B:FC I r H z M i f)(h:QQ (f+1) k a σ)(be:Nk 1 b.2)(a8:Lg σ q)(ai:∀ N,W=some N->r<=N):Yz I r H z M σ b a W q (jp i f b a q σ):=by
 intro bm u E F R;have ay:=t.st.XO;have O:=h.q.st
 by_cases p:σ.steps<20000
 ·have d:=h.step (show ¬ 20000<σ.steps+1 by omega);have aZ:=d.sz;have bo:=d.bd;have bh:=h.bd;have ak:Lg σ.step q:=a8;have bj:σ.step.steps=σ.steps+1:=rfl
  cases be.sk with
  | decl c U am=>
   by_cases T:b.2.kd=2
   ·rw[ti p T]
    by_cases ap:b.2.fJ.length=0
    ·rw[fL ap];exact ZR t.st E F T O p a R λC l o s=>gX.x s (Of l o ap a (LA W))
    ·rw[fK ap];have aI:(Pg b 0) ∈ QB b:=B2
     have A:=(ac.v d.q (am _ aI)).1;refine ZR t.st E F T O p a R λC l o s=>gX.x s (ae6 ay l o O9 a (LA W) (B.v d (am _ aI)) t.b t.st.et aZ (λaX g X=>?_) O9);rw[X] at A;exact A.sz d.bd
   ·have ap:∀ C,Ms I r H z C σ.step->PX z C u b->PU C W q->Pq 109 #[O5 r,O5 u.p,Qy a (LA W)] C (om I r H z M W C (((k0 b a (U8 i (QB b) a σ.step)).1,q),(k0 b a (U8 i (QB b) a σ.step)).2)):=λC l o s=>by
     have A:=xe ac d.q am;refine gX.x s (T3 ay l o U a (LA W) (λaW c=>B.v d (am aW c)) (λaX g X=>?_) (c8:=400000000) O9);rw[X] at A;exact A.sz d.bd
    rcases c with j|j|j
    ·exact absurd j T
    ·rw[wV p j];exact ae8 t.st E F j O p a R ap
    ·rw[zp p j];exact acB t.st E F j O p a R ap
  | func c=>rw[o4 p O9];exact ZT t.st E F O9 O p a R
  | empty c=>rw[o4 p O9];exact ZT t.st E F O9 O p a R
  | gw c T=>
   rw[sA p c];obtain⟨aj,aF,aS⟩:=d.q.iv.block T d.q.po;have aV:QQ f (k - 10000+5000) (Qu b a σ.step).1 (Qu b a σ.step).2:=⟨⟨by rw[aj.st];exact d.q.fu,by rw[aj.st];exact d.q.st,aj.iv,aF⟩,by rw[aj.st];omega⟩
   refine acD t.st E F c O p a R (λC l o=>?_) (λC bf l aO o s=>?_) (ac:=(Qu b a σ.step).1) (aD:=(Qu b a σ.step).2)
   ·obtain⟨bc,a7,bn,ba,aJ⟩:=l;refine(axd t.b aJ aZ o T.ct O9 (λj c=>(yX (pL T j c))) a (LA W) d.q.po.some).mono ?_;rintro m aY ⟨rfl,a1,a6,aC,ap⟩;exact⟨rfl,⟨_,_,_,_,aC⟩,ap.jn aJ⟩
   ·refine GN ay l aO o ?_ _ s (λad ax=>QQ f (k - 10000+5000) (Qu b a σ.step).1 ad/\Lg ad ax/\∀ j ∈ QB b,Qk j.2=true->K4 ad.M (Qu b a σ.step).1.scope j.2.tx) ⟨aV,ak.up aj.ex,aS⟩ (λj c ad ax hP=>?_)
    ·have:=T.ct;have:=Si b.2;rw[RU];omega
    ·obtain⟨ah,aK,aG⟩:=hP;have gk:=T.ks _ (QZ c);refine⟨B.s ah gk (aG j c) aK ai,λaL aQ g X=>?_⟩;have D:=(ac.s ah.q gk (aG j c) aK).1;rw[X] at D;exact⟨ah.iZ D,D.la,λj c bN=>D.ex.k4 _ _ (aG j c bN)⟩
  | l0 c U L ah au aK=>
   rw[tQ p c];have A:=(ac.v d.q L).1;refine agZ t.st E F c O p a R λC l o s=>?_
   rcases U with j|j
   ·refine asu ay l o j a s (B.v d L) λaX g X=>?_;rw[X] at A;exact B.s (d.next A) ah (λm=>by rw[au] at m;cases m) (ak.up A.ex) ai
   ·obtain⟨aG,T⟩:=aK j;refine asv ay l o j a s (B.v d L) λaX g X=>?_;rw[X] at A;exact⟨B.s (d.next A) ah (λm=>by rw[au] at m;cases m) (ak.up A.ex) ai,B.s (d.next A) aG (λm=>by rw[T] at m;cases m) (ak.up A.ex) ai⟩
  | loop c U L ah au=>
   rcases c with c|c
   ·rw[uD p c];refine acA t.st E F c O p a R λC l o s=>?_;refine Su ay l o U a s f (λj ad ax=>QQ f (k - 10000) a ad/\20001<ad.steps+j/\Lg ad ax) ⟨d,d.q.fu,ak⟩ (λad ax hP=>by have:=hP.1.q.st;have:=hP.2.1;omega) (λj ad ax hP=>?_)
    obtain⟨ap,aF,aC⟩:=hP;obtain⟨A,aY⟩:=ac.v ap.q L;refine⟨B.v ap L,λv g X _=>?_⟩;rw[X] at A aY;have T:=ap.next A;obtain⟨D,aS⟩:=ac.s T.q ah (λm=>by rw[au] at m;cases m) (aC.up A.ex)
    refine⟨B.s T ah (λm=>by rw[au] at m;cases m) (aC.up A.ex) ai,λaL aQ a6 a1=>?_⟩
    rw[a1] at D aS;exact⟨T.iZ D,by dsimp only at aY aS;omega,D.la⟩
   ·rw[ue p c];obtain⟨ap,aF,aC,_⟩:=qc ac d.q (d:=Pg b 0) L;refine aeb t.st E F c O p a R λC l o s=>Nq ay l o U a s (B.v d L) (λaL g X=>?_) (cL:=400000000) O9;rw[X] at ap aF aC;have aY:=aF.st
    dsimp only at aY
    have aj:=ap.gq a.scope aL (-2);have T{G}(h:G:=by
    have aV:QQ f (k - 10000+1) { a with scope:=g.gg } (g.gq a.scope aL (-2)):=⟨⟨by have:=d.q.fu;show 20001<g.steps+f;omega,by rw[aj.st];exact aC,aj.iv,aS⟩,by rw[aj.st];dsimp only;omega⟩
    exact⟨B.s aV ah (λm=>by rw[au] at m;cases m) ((ak.up aF).up aj.ex) ai,ap.sz (by dsimp only;omega) aC.le,(d.q.po.up aF).some⟩):=O6 h;exact D3
  | hU c U am=>
   rw[tV p c];exact abI t.st E F c O p a R λC bf l o aO=>CB l o U aO a (LA W) (λaW c=>B.v d (am aW c))
  | one c U L=>
   rcases c with c|c
   ·rw[tw p c];exact acC t.st E F c O p a R λC l o s=>gX.x s (OA ay l o U a (LA W) (B.v d L))
   ·rw[sB p c];refine aec t.st E F c O p a R λC l o s=>?_
    cases W with
    | none=>
     cases q with
     | none=>exact Oz ay l o U a (B.v d L)
     | some v=>exact s.elim
    | some N=>
     cases q with
     | none=>exact s.elim
     | some v=>exact OI ay l o U a s (ai N rfl) (B.v d L)
  | lc c U L a6 am=>
   rw[vj p c];have D:=(ac.s d.q L (λm=>by rw[a6] at m;cases m) ak).1
   obtain⟨a7,aI⟩:∃ a7,b.2.fJ.length=a7+1:=⟨b.2.fJ.length - 1,by omega⟩;refine ae7 t.st E F c O p a R λC l o s=>R7 ay l o aI O9 O9 a s (B.s d L (λm=>by rw[a6] at m;cases m) ak ai) (λaL m q σ=>∃ aD:Int,Z f aD a σ aL m q/\aD+2<=99000000+10 * σ.steps) (λaL m aQ g X=>?_) (λj c aL m q σ hP=>?_)
   ·rw[X] at D;have aS:=D.ex.st
    dsimp only at aS
    exact⟨k - 10000,⟨by have:=d.q.fu;omega,D.iv,d.q.po.up D.ex,D.er,D.va,D.la⟩,by omega⟩
   ·obtain⟨aD,T,ba⟩:=hP;obtain⟨bq,aY,gk,aF⟩:=am j c;refine⟨λC ap bn l o s a1=>⟨λ_=>?_,λ_=>?_⟩,λbc aC aQ g X=>?_⟩
    ·refine O0 t.st t.b l o aY a aL a1 s (cL:=400000000) O9 λx aJ=>?_;subst aJ;obtain⟨aC,bc⟩:=T.cq (b:=j);have ap:=(T.q P7).iv.gq a.scope (-1) (own j);have bn:=(T.q P7).st;refine⟨T.iv.sz O9 O9,T.po.some,ap.iv.sz (by rw[ap.st];omega) (by rw[ap.st];omega),B.s ⟨bc,by rw[aC.st];omega⟩ gk (λm=>by rw[aF] at m;cases m) (T.la.up aC.ex) ai⟩
    ·refine ao5 t.st l o aY a aL a1 s λap=>?_;exact B.s ⟨T.q ap,by omega⟩ gk (λm=>by rw[aF] at m;cases m) T.la ai
    ·have aC:=asV ac T gk aF;have ap:SO (aD+2) σ (VA i j a aL m q σ):=by
      unfold VA
      split
      ·exact Eb ac T gk aF
      ·exact Cz ac T gk aF
     rw[X] at aC ap
     rcases aC with aC|aC
     ·
      cases aC;exact⟨aD,T,ba⟩
     ·have aS:=ap.ex.st
      dsimp only at aS aC
      exact⟨aD+2,⟨by have:=T.fu;omega,ap.iv,T.po.up ap.ex,ap.er,ap.va,ap.la⟩,by omega⟩
 ·rw[ya p];exact Zs t.st E F O O9 a R
variable {d:St}{s:Pl}{l:Px}{aG:List Ad}{T:List Nd}{o:List Va}
theorem yA (E:Cx I r H z M aN)(F:FI i f)(O:FC I r H z M i f)(h:QQ f k a σ)(A:∀ c ∈ T,Nk 1 c.2)(U:∀ c ∈ T,Qk c.2=true->K4 σ.M a.scope c.2.tx)(C:Lg σ q)(N:∀ e,W=some e->r<=e)(S:T.length<=1000000)(D:Ms I r H z w σ)(n:TY 0 w l aG)(P:UW z w aG T)(R:PU w W q) :
  Pq 28 #[O5 r,l,Qy a (LA W)] w (QG I r H z M W w (SG i a T q σ)):=by
 refine GN E.st.XO D n P S a R (λd B=>QQ f k a d/\Lg d B/\∀ c ∈ T,Qk c.2=true->K4 d.M a.scope c.2.tx) ⟨h,C,U⟩ (λc e d B hP=>?_);obtain⟨p,u,t⟩:=hP;refine⟨O.s p (A c e) (t c e) u N,λaL L g n=>?_⟩;have j:=(F.s p.q (A c e) (t c e) u).1;rw[n] at j;exact⟨p.iZ j,j.la,λc e L=>j.ex.k4 _ _ (t c e L)⟩
theorem vG (h:Bk b.2):(QB b).length<=1000000:=by
 have:=h.ct;have:=Si b.2;rw[RU];omega
theorem LI (h:Q f k a σ){c:Fu}(F:Fg c.d.2)(U:o.length<=1500)(D:∀ v ∈ o,Gv σ.M.objs.length v)(C:σ.fO≠40) :
  Nx (k+9000) { σ with fO:=σ.fO+1 } (S9 c.d ⟨σ.gg,σ.gg,c.fT⟩ o (St.gq { σ with fO:=σ.fO+1 } c.scope (-1) (own c.d)))/\Bk (Pg c.d 1).2 /\
  (∀ e ∈ QB (Pg c.d 1),Qk e.2=true->K4 (S9 c.d ⟨σ.gg,σ.gg,c.fT⟩ o (St.gq { σ with fO:=σ.fO+1 } c.scope (-1) (own c.d))).M σ.gg e.2.tx) /\
  Q f (k+9000) ⟨σ.gg,σ.gg,c.fT⟩ (S9 c.d ⟨σ.gg,σ.gg,c.fT⟩ o (St.gq { σ with fO:=σ.fO+1 } c.scope (-1) (own c.d))):=by
 have L:=h.call C;have p:=L.iv.gq c.scope (-1) (own c.d);have O:∀ v ∈ o,Gv (St.gq { σ with fO:=σ.fO+1 } c.scope (-1) (own c.d)).M.objs.length v:=D;have E:=uL { σ with fO:=σ.fO+1 } c.scope (own c.d);have A:Po ⟨σ.gg,σ.gg,c.fT⟩ (St.gq { σ with fO:=σ.fO+1 } c.scope (-1) (own c.d)):=
  ⟨by show (0:Int)<=(σ.M.Pz.length:Int);omega,by show (σ.M.Pz.length:Int)<_;simp[St.gq,Mo.scope];omega⟩
 obtain⟨t,R,B⟩:=p.iv.body (d:=c.d) (p:=⟨σ.gg,σ.gg,c.fT⟩) F A E U O;have j:=(p.trans t).up (N':=k+9000) O9;exact⟨j,R,B,by rw[j.st];exact h.fu,by rw[j.st];exact h.st,j.iv,A.up t.ex⟩
theorem apm (A:Cx I r H z M aN)(L:FI i f)(ai:FC I r H z M i f)(h:QQ f k a σ)(aj:k+9000<=99000000+10 * σ.steps){c:Fu}(e:Fg c.d.2)(ak:0<=c.scope/\c.scope<σ.M.Pz.length)(n:o.length<=1500)(N:∀ v ∈ o,Gv σ.M.objs.length v)(U:Ms I r H z w σ)(S:UZ w l o){O:Ad}(ad:PX z w O c.d) :
  Pq 301 #[O5 r,.agg #[O5 O.p,O3 c.scope,Pv c.fT],l] w (P5 I r H z M w (WG i c o σ)):=by
 obtain⟨aI,aC,aJ,aF,X⟩:=U;have j:Bk (Pg c.d 1).2/\(Pg c.d 0).2.fJ.length<=8:=by
  obtain⟨aK,aQ,aO,P,p,E,ay,R⟩:=e.sh;have ah:(Pg c.d 0).2=P:=by rw[Yb,E];rfl
  have ac:(Pg c.d 1).2=p:=by rw[Yb,E];rfl
  have F:p ∈ c.d.2.fJ:=by rw[E];exact gE _ gf
  have am:Nk 4 p:=⟨R,by have:=ZC F;have:=e.ct;omega,(td e.nb).1 p F⟩
  rw[ah,ac];refine⟨am.bk O9,?_⟩
  cases ay with
  | mG _ n=>exact n
 refine aw3 A.b A.tb X h.sz O9 h.q.iv.ca ad (yX e) e.ct j.2 (λE p=>yX (pL j.1 E p)) (Po.some (p:=⟨c.scope,0,false⟩) ak) S n (d:=fun σ=>SG i ⟨σ.gg,σ.gg,c.fT⟩ (QB (Pg c.d 1)) none (S9 c.d ⟨σ.gg,σ.gg,c.fT⟩ o (σ.gq c.scope (-1) (own c.d)))) (λu=>?_) (λu p F E ap au ax=>?_)
 ·obtain⟨C,_,B,t⟩:=LI h.q e n N u;have p:=qm L (QB (Pg c.d 1)) (o:=none) t (λb D=>j.1.ks _ (QZ D)) B (λ_ m=>by cases m);exact(C.ex.trans p.ex).ca
 ·obtain⟨C,_,B,t⟩:=LI h.q e n N u;exact yA A L ai ⟨t,by rw[C.st];exact aj⟩ (λb D=>j.1.ks _ (QZ D)) B (λ_ m=>by cases m) (λ_ m=>by cases m) (vG j.1) ap au ax trivial (W:=none)
theorem CI {n:Py}{p:Bool}{c:Tr}(h:j0 n p=some c):Bk c:=by
 unfold j0 at h
 split at h
 ·rename_i t j
  split at h
  ·rename_i e
   cases h;exact(w6 j e).bk O9
  ·
   cases h
 ·
  cases h
theorem XS (h:Q f k a σ){c:Tr}(E:Bk c)(j:jr (none,c) a σ=some (s,d)):Nx (k+9000) σ (PI (none,c) s d).2/\Q f (k+9000) (PI (none,c) s d).1 (PI (none,c) s d).2/\∀ A ∈ QB (none,c),Qk A.2=true->K4 (PI (none,c) s d).2.M (PI (none,c) s d).1.scope A.2.tx:=by
 have p:Nx (k+1) σ d/\Po s d:=by
  unfold jr at j
  split at j
  ·
   cases j
  ·simp only[hc] at j
   split at j
   ·
    cases j;exact⟨h.iv.gq _ _ _,by show (0:Int)<=(σ.M.Pz.length:Int);omega,by show (σ.M.Pz.length:Int)<_;simp[St.gq,Mo.scope];omega⟩
   ·
    cases j;exact⟨(Nx.refl h.iv).up O9,h.po⟩
 obtain⟨p,F⟩:=p;obtain⟨D,B,C⟩:=p.iv.HL (b:=(none,c)) E F;have t:=(p.trans D).up (N':=k+9000) O9;exact⟨t,⟨by rw[t.st];exact h.fu,by rw[t.st];exact h.st,t.iv,B⟩,C⟩
theorem aBF (j:FI i f)(h:Q f k a σ)(p:Py):VO (k+9000) σ (jV i p a σ):=by
 unfold jV
 split
 ·rename_i e c
  exact Gs j h (CI c)
 ·exact .f0 ((Nx.refl h.iv).up O9) h.st sq
section
variable (c:Cx I r H z M aN) (D:FI i f) (O:FC I r H z M i f) (h:QQ f k a σ) (aF:k+9000<=99000000+10 * σ.steps)
include c D O h aF
theorem asZ (ah:Ms I r H z w σ)(A:UZ w l o){U:Ad}(S:PX z w U b)(p:Option Addr) :
  Pq 300 #[O5 r,O5 U.p,Qy a p,l] w (P5 I r H z M w (XA i b.2 a o σ)):=by
 obtain⟨aO,aJ,aQ,aK,B⟩:=ah
 cases o with
 | nil=>exact apl B a p A
 | cons v o=>
  rw[asT]
  by_cases j:v.k≠4
  ·rw[fL j];exact alP B a p A j
  rw[fK j];have j:v.k=4:=O9
  have t:∀ u:Pl,Po u σ->(σ.fO≠40->(jV i v.s u { σ with fO:=σ.fO+1 }).2.fO=σ.fO+1)/\(σ.fO≠40->∀ e,j0 v.s u.fT=some e->∀ (R:Ad) s d,jr (none,e) u { σ with fO:=σ.fO+1 }=some (s,d)->∀ n l (L:Nat),r<=L->Ms I r H z n (PI (none,e) s d).2->TY 0 n l R.ks->UW z n R.ks (QB (none,e))->PU n (some L) (some vU)->Pq 28 #[O5 r,l,Qy (PI (none,e) s d).1 (LA (some L))] n (QG I r H z M (some L) n (SG i (PI (none,e) s d).1 (QB (none,e)) (some vU) (PI (none,e) s d).2))):=λu aj=>by
   have X:σ.fO≠40->Q f k u { σ with fO:=σ.fO+1 }:=λC=>⟨h.q.fu,h.q.st,(h.q.call C).iv,aj⟩;refine⟨λC=>(aBF D (X C) v.s).ex.ca,λC e ai R s d ak n l L ax ay aC aI ad=>?_⟩;have P:=CI ai;obtain⟨ap,ac,am⟩:=XS (X C) P ak;exact yA c D O ⟨ac,by rw[ap.st];exact aF⟩ (λb au=>P.ks _ (QZ au)) am (λ_ m=>by cases m;exact Wu _) (λau m=>by cases m;exact ax) (vG (b:=(none,e)) P) ay aC aI ad
  have N:Po ⟨1,0,false⟩ σ:=⟨by show (0:Int)<=1;omega,by show (1:Int)<_;have:=h.q.iv.lr;omega⟩
  by_cases F:b.2.kd=23
  ·by_cases C:b.2.tx=Vs
   ·have E:qC b.2 a=a:=fK (by simp[F,C]);rw[E];exact WP c.st.XO c.b c.gl B h.sz O9 h.q.iv.ca S F C a p h.q.po h.q.iv.lr A j (t a h.q.po).1 (t a h.q.po).2
   ·have E:qC b.2 a=⟨1,0,false⟩:=fL (.inr C);rw[E];exact S8 c.st.XO c.b c.gl B h.sz O9 h.q.iv.ca S F C a p h.q.po h.q.iv.lr A j (t _ N).1 (t _ N).2
  ·have E:qC b.2 a=⟨1,0,false⟩:=fL (.inl F);rw[E];exact axb c.st.XO c.b c.gl B h.sz O9 h.q.iv.ca S F a p h.q.po h.q.iv.lr A j (t _ N).1 (t _ N).2
theorem as1 (ap:Nk 0 b.2)(E:b.2.kd=35)(aI:Ms I r H z w σ){u:Ad}(aQ:PX z w u b)(R:Option Addr) :
  Pq 263 #[O5 r,O5 u.p,Qy a R] w (P5 I r H z M w (YH i b a σ)):=by
 obtain⟨aW,aV⟩:=ap.Kv E;have ah:∀ x ∈ QB b,Nk 0 x.2:=λx aJ=>aW _ (QZ aJ);have p:=rU D (QB b) [] h.q ah (λ_ h=>by cases h);have aj:∀ j A g,UD i a (QB b) [] σ=((j::A,.no),g)->QQ f k a g/\k+9000<=99000000+10 * g.steps/\Gv g.M.objs.length j/\(∀ v ∈ A,Gv g.M.objs.length v)/\A.length<=9:=λj A g X=>by
  rw[X] at p;have ax:=p.ex.st;have ak:=p.ln;have:=RU b;have:=h.bd
  dsimp only at ax ak
  refine⟨⟨⟨by have:=h.q.fu;omega,p.er,p.iv,h.q.po.up p.ex⟩,by omega⟩,by omega,p.va j gf,λv F=>p.va v (gE _ F),?_⟩
  simp at ak;omega
 refine aBB c.st.XO aI aQ ?_ aV a R (λai l B C L=>?_) (λj A g X au aK ai l B C=>?_) (λj A g X au aK ai l e B C L=>?_) (λj A g X au N ak ax=>?_)
 ·have N:=ap.sh
  cases ak:b.2 with
  | mk ax aO bz ay=>
   rw[ak] at N E
   cases N with
   | call _ _ _=>simp[Tr.fJ]
   | lit p=>simp only[Tr.kd] at E;omega
   | one p=>simp only[Tr.kd] at E;omega
   | two p=>simp only[Tr.kd] at E;omega
   | _=>cases E
 ·refine JS c.st.XO B C L (by rw[RU];omega) a R (λd=>QQ f k a d) h (λak ax d N=>⟨O.v N (ah ak ax),λv g X=>?_⟩)
  have F:=(D.v N.q (ah ak ax)).1;rw[X] at F;exact N.next F
 ·obtain⟨t,ac,am,ad,aC⟩:=aj _ _ _ X;have U:=t.sz;refine aw2 c.b c.tb B C O9 (λv F=>?_) (by have:=U.lg;omega)
  have:=vB (c:=g.M) (ad v F) U.go.sm.o;exact⟨⟨by omega,by omega⟩,this.1⟩
 ·obtain⟨t,ac,am,ad,aC⟩:=aj _ _ _ X;exact asZ c D O t ac B C L R
 ·obtain⟨t,ac,am,ad,aC⟩:=aj _ _ _ X;have U:=t.sz;have aX:0<=g.M.gn j.n/\g.M.gn j.n<3+g.Ri.length:=by
   unfold Mo.gn
   rcases SA g.M j.n with ⟨aS,_⟩|⟨n,x,_,aO,ay⟩
   ·rw[aS];exact⟨by decide,by show (0:Int)<_;omega⟩
   ·rw[ay];exact t.q.iv.gm.co x (gt aO)
  have aU:=U.fn;obtain⟨N,ak⟩:∃ N,g.Ri[(g.M.gn j.n - 3).toNat]? = some N:=⟨_,ga O9⟩;have ax:=t.q.iv.fn N (gt ak);exact⟨N,by omega,by omega,ak,λai l e B C L=>apm c D O t ac ax.1 ax.2 O9 ad B C L⟩
end
theorem uN (c:Cx I r H z M aN):∀ f,FC I r H z M (fx f) f
 | 0=>⟨λh _=>by have:=h.q.fu;have:=h.q.st;omega,λh _ _ _ _=>by have:=h.q.fu;have:=h.q.st;omega⟩
 | f+1=>⟨λh e=>aBC c (pO f) (uN c f) h e (λn _ _ p u A j=>as1 c (pO f) (uN c f) j (by have:=h.bd;have:=j.q.fu;show _ - 10000+9000<=99000000+10 * ((_+1:Nat):Int);omega) e n u A p),λh e _ B t=>TO c (pO f) (uN c f) h e B t⟩
theorem aBG {u:Ad}{b:Nd}(aJ:PX z w u b)(C:b.2.kd=1) :
  Pq 29 #[O5 u.p] w λm B=>B=w/\∃ l,m=PK l/\TY 0 w l u.ks:=by
 obtain⟨ua,D,A,X⟩:=aJ.ar;obtain⟨E,t,_⟩:=aJ.cells;rw[C] at t;obtain⟨F,e⟩:=xE u.p;rw[<-e] at A t E ⊢;obtain⟨bz,p⟩:=xE b.2.fJ.length;rw[<-p] at A X;clear e p;go_enter func29,ntmps29;go_wp2_with fail;exact Vm (v:=.slice ua bz D) ⟨rfl,_,rfl,X⟩
end
section
variable {M:Pe} {k l:Nat} {D:List Nat} {T z r q A:Px} {w w':Pe} {g:St} {aQ:Nat}
theorem KT (p:Mx M k l D z r q A w g)(f:Sz aQ g)(B:aQ+1<1000000000)(b:Py)(e:Int) :
  Pq 52 #[O5 k,Pj b,O3 e] w λm w'=>m=PK (.tuple #[])/\Mx M k l D z r q A w' (({ g with M:=g.M.Qj e }:St).Rj 0 b (UH g.M.objs.length) false)/\Ql Th k w w':=by
 have ah:=p.lt;have C:=(f2 w.heap.size w).drew;have t:=p.fH C;have a:w.drew.cell? (O7 k 11)=some (O3 0):=(t.hh.at_ 9 _ rfl).1;have au:Ql Th k w w.drew:=Ql.of C (P6 ah);have ac:Sz (aQ+1) ({ g with M:=g.M.Qj e }:St):=f.heap (ge _) (f.go.Qj e) rfl;have i:=wO t f O9 e
 have d:Hid (∀ L,Mx M k l D z r q A L { g with M:=g.M.Qj e }->Pq 56 #[O5 k,O3 0,Pj b,vA (UH g.M.objs.length),Pv false] L λm w'=>m=PK (U4 (({ g with M:=g.M.Qj e }:St).M.put 0 b (UH g.M.objs.length) false).1)/\Mx M k l D z r q A w' (({ g with M:=g.M.Qj e }:St).Rj 0 b (UH g.M.objs.length) false)/\Ql Th k L w'):=λL h=>ZQ h ac B 0 b (UH g.M.objs.length) false
 generalize U4 (({ g with M:=g.M.Qj e }:St).M.put 0 b (UH g.M.objs.length) false).1=aF at d
 generalize (({ g with M:=g.M.Qj e }:St).Rj 0 b (UH g.M.objs.length) false)=aD at d ⊢
 generalize ({ g with M:=g.M.Qj e }:St)=aG at i d
 obtain⟨aL,bA⟩:=xE (g.M.objs.length:Int);rw[<-bA] at i d;clear B bA;go_enter func52,ntmps52;have aC:Pn w w.drew:=RP.drew;refine Qq 14 (λL=>L.cell? (O7 k 11)=some (O3 0)) Qs ?_;refine up 0 k 0 a ?_;refine up 1 k 0 a ?_;refine up 2 k 0 a ?_;refine up 3 k 0 a ?_;refine up 4 k 0 a ?_;refine up 5 k 11 a ?_;refine uc 6 (O3 0) rfl (fM ⟨by kernel_rfl,λL W=>by have aO:=W;go_simp⟩) (a) ?_
 refine uh 7 (Pj b) (a) ?_;refine up 8 k 0 a ?_;refine up 9 k 0 a ?_;refine up 10 k 0 a ?_;refine uh 11 (O3 e) (a) ?_;refine Rl 12 λK c=>?_;go_simp;refine cm i ?_;rintro m s ⟨rfl,j,ai⟩;have F:s.cell? (O7 k 11)=some (O3 0):=(j.hh.at_ 9 _ rfl).1;refine c.out _ _ (λ_=>F) ?_;clear c K;have am:=au.trans ai;refine Rl 13 λK c=>?_;go_simp;refine cm (th aL s) ?_;rintro m aj ⟨rfl,E⟩;have H:=j.fH E;have o:aj.cell? (O7 k 11)=some (O3 0):=(H.hh.at_ 9 _ rfl).1
 refine c.out _ _ (λ_=>o) ?_;clear c K;have ap:=am.trans (Ql.of E (P6 j.lt));refine Rl 14 λK c=>?_;go_simp;refine cm (O4 d _ H) ?_;rintro m ax ⟨rfl,I,R⟩;refine ko c ?_;clear c K;have U:=ap.trans R;clear a F o;refine TQ ?_ _;go_simp;go_wp2
 go_end0
 exact⟨rfl,I,U⟩
variable {bI:Addr}
def Cc (M:Pe)(k l:Nat)(D:List Nat)(z r q A:Px)(w:Pe)(g:St)(b:Int)(c:Ending)(w':Pe):Prop:=
 c=PK (.tuple #[])/\∃ a,Mx M k l D z r q A a g/\Pn w a/\w'=a.setCell (O7 k 3) (O3 b)
theorem aBH (d:Mx M k l D z r q A w g):Pq 31 #[O5 k,QW] w (Cc M k l D z r q A w g 1):=by
 have I{G}(h:G:=by
 obtain⟨f,c⟩:=xE w.heap.size;have a:=d.fH b;have e:=Fb f p 123;go_enter func31,ntmps31;go_wp2_with fail;rw[<-o.out,<-c];clear c;refine cm e ?_;rintro m wz ⟨rfl,rfl⟩;have i:=a.lt;obtain⟨j,n⟩:=a.hh.at_ 1 _ rfl;go_wp2
 go_end0
 exact⟨rfl,_,a,b,rfl⟩):=O6 h;exact wR
theorem as3 (d:kA M k T bI)(t:Mx M k l D z r q A w g):Pq 31 #[O5 k,T] w (Cc M k l D z r q A w g 3):=by
 have I{G}(h:G:=by
 obtain⟨s,a⟩:=xE w.heap.size;have f:p.heap[s]? = some (PZ #[Ry] 122):=by rw[o.out,a];exact Ph _ _
 have e:=t.fH b;obtain⟨n,tf,m⟩:=p8 f;have j:=d.vn ⟨_,_,_,_,e⟩;have v:=B0 bI s p n (tf 0) m j;rw[d.is];clear f n tf m j;go_enter func31,ntmps31;go_wp2_with fail;rw[<-o.out,<-a];clear a;refine cm v ?_;rintro F wz ⟨rfl,i⟩;have c:=e.fH i;have B:=b.trans (i.mono (by have:=b.size;omega))
 have C:=c.lt;obtain⟨E,H⟩:=c.hh.at_ 1 _ rfl;go_wp2
 go_end0
 exact⟨rfl,_,c,B,rfl⟩):=O6 h;exact wR
theorem axe (aJ:Bs M k l D T)(ac:Wj M)(aN:kA M k T bI)(ah:Mx M k l D z r q A w g){v:Va}{s:Nat}(W:w.heap[s]? = some (PZ #[O3 v.k,O3 v.n,Pj v.s] 126))(aj:-9223372036854775808<=v.n/\v.n<=9223372036854775807) :
  Pq 31 #[O5 k,.iface 122 (PL s 0)] w λm w'=>m=PK (.tuple #[])/\∃ L,Mx M k l D z r q A L g/\Pn w L/\w'=(L.setCell (O7 k 3) (O3 2)).setCell (O7 k 4) (Pj (g.M.hu v)):=by
 have I{G}(h:G:=by
 obtain⟨aC,F⟩:=xH w.heap.size;have E:p.heap[aC]? = some (PZ #[Ry] 122):=by rw[o.out,F.out];exact Ph _ _
 have aY:=ah.fH b;have be:=Y W;obtain⟨ax,tf,ap⟩:=p8 E;have am:=aN.vn ⟨_,_,_,_,aY⟩;have a6:=Fj s aC p E ax (tf 0) ap am;have aD:Hid (∀ L,Mx M k l D z r q A L g->Pq 61 #[O5 k,vA v] L λm w'=>m=PK (Pj (g.M.hu v))/\Pn L w'):=λL h=>ux aJ ac ⟨_,_,_,_,h⟩ v aj;obtain⟨bo,au⟩:=xE (g.M.hu v);rw[<-au] at aD ⊢;clear E ax tf ap am ac aj W au;obtain⟨bj,bm,bn⟩:=v;go_enter func31,ntmps31;go_wp2_with fail;rw[<-o.out,<-F.out];refine cm a6 ?_;rintro m wz ⟨rfl,aF,a1⟩
 have C:Pn w wz:=b.trans (a1.mono (im F.out.symm));have H:=ah.fH C;have aI:=Y (fX (fQ C be.out));have a7:=Y (p8 aF);have bh:=H.lt;clear aF;go_wp2_with fail;refine UC 13 λa=>?_;refine iy ?_;refine uT ?_;refine uk 5 (a7.out.1) a ?_;refine up 6 s 0 a ?_;refine up 7 s 0 a ?_;refine jN 8 aI.out a ?_;refine Rl 9 λK c=>?_;go_simp;refine cm (O4 aD _ (H.fH a)) ?_;rintro m aK ⟨rfl,aW⟩;have d:Pn wz aK:=a.trans (aW.mono a.size);refine c.out _ _ (λ_=>d) ?_
 clear c K;have B:=H.fH d;have bf:=B.lt;have bc:=C.trans (d.mono C.size);obtain⟨aS,aZ⟩:=B.hh.at_ 1 _ rfl;obtain⟨aV,aG⟩:=B.hh.at_ 2 _ rfl;refine up 10 k 0 d ?_;refine up 11 k 2 d ?_;refine up 12 k 3 d ?_;refine uaZ 13 ?_;refine uz 14 (PL k 0) ?_;refine uz 15 (PL k 2) ?_;refine uz 16 (PL k 4) ?_;refine uaZ 17 ?_;refine TQ ?_ _;go_simp;clear aS aV aZ aG;go_wp2
 go_end0
 exact⟨rfl,_,B,bc,rfl⟩):=O6 h;exact wR
abbrev AU (a:Int)(g:St)(z r q A:Px)(l:Nat):List Px:=(mR g z r q A l).set 11 (O3 a)
structure My (t:Int)(w0:Pe)(mb af:Nat)(ab:List Nat)(aT aB az aM:Px)(w:Pe)(σ:St):Prop where
 bw:Below mb w0 w
 hh:Qx mb (AU t σ aT aB az aM af) w σ.M
 lg:w.ownsRow mb 9 1 aT σ.hq.length (σ.hq.map Value.string)
 se:w.ownsRow mb 54 2 aB σ.seen.length (σ.seen.flatMap l5)
 ow:w.ownsRow mb 3 1 az σ.Rx.length (σ.Rx.map (Value.int .i64))
 fu:∃ eh:List Ad,eh.length=σ.Ri.length/\w.ownsRow mb 211 3 aM σ.Ri.length ((eh.zip σ.Ri).flatMap pj)/\∀ (i:Nat) a f,eh[i]? = some a->σ.Ri[i]? = some f->PX ab w a f.d
variable {o:Int}
section
variable (h:My o M k l D z r q A w g)
include h
theorem My.lt:k<w.heap.size:=h.hh.lt
theorem My.fH (a:Pn w w'):My o M k l D z r q A w' g:=Fr
theorem My.heap {b:Mo}(c:Qx k (AU o g z r q A l) w' b)(a:Ql Th k w w'):My o M k l D z r q A w' { g with M:=b }:=BR
end
theorem Og (n:Bs M k l D T)(e:My o M k l D z r q A w g){d:Ad}{f:Nd}(s:PX D w d f) :
  Pq 51 #[O5 k,O5 d.p] w λp w'=>p=PK (O3 (own f))/\w'=w:=by
 have b:=yu n e.bw s;obtain⟨B,u⟩:=e.hh.at_ 5 _ rfl;have v:=e.lt;obtain⟨i,j⟩:=xE d.p;rw[<-j] at b ⊢;obtain⟨no,m⟩:=f;clear j
 cases no with
 | none=>
  have c:own (none,m) = -3:=rfl;exact Jw
 | some a=>
  have c:own (some a,m)=(a:Int):=rfl;exact Eu
theorem My.uq (h:My o M k l D z r q A w g)(x:Int){b:Pe}{a:Px}(p:w.grownBy b q.ownBlock)(t:b.ownsRow k 3 1 a (g.Rx.length+1) (g.Rx.map (Value.int .i64)++[O3 x]))
  (u:∀ c,a.ownBlock=some c->q.ownBlock=some c\/w.heap.size<=c) :
  My o M k l D z r a A (b.setCell (O7 k 8) a) { g with Rx:=g.Rx++[x] }/\SL k q A a A w (b.setCell (O7 k 8) a):=Lk
theorem Dn (b:My o M k l D z r q A w g)(d c x:Int)(s:g.Rx.length<=1000000000)
  (i:∀ f R,Qx k R f g.M->Pq 105 #[O5 k,O3 d,O3 c] f λa w'=>a=PK (O3 (g.M.Pz.length:Int))/\Qx k R w' (g.M.scope d c)/\Ql Th k f w') :
  Pq 50 #[O5 k,O3 d,O3 c,O3 x] w λa w'=>a=PK (O3 g.gg)/\∃ e,My o M k l D z r e A w' (g.gq d c x)/\SL k q A e A w w':=by
 have t{G}(h:G:=by
 show Pq 50 #[O5 k,O3 d,O3 c,O3 x] w λa w'=>a=PK (O3 (g.M.Pz.length:Int))/\∃ e,My o M k l D z r e A w' (g.gq d c x)/\SL k (.slice n m p) A e A w w'
 exact CQ):=O6 h;exact Js
theorem My.made (h:My o M k l D z r q A w g):Mx M k l D z r q A (w.setCell (O7 k 13) (O3 1)) g/\Ql [84] k w (w.setCell (O7 k 13) (O3 1)):=by
 obtain⟨u,a⟩:=h.hh.cell 11 (O3 1);obtain⟨p,i,m,t⟩:=h.fu;exact⟨⟨h.bw.trans a.below,u,PV h.lg a Pm,PV h.se a Pm,PV h.ow a Pm,p,i,PV m a Pm,λB c s e v=>(t B c s e v).kp (λf j n b d=>a.rest f j n b (by rcases d with rfl|rfl <;> decide))⟩,a⟩
def bare:St:=⟨⟨[],[]⟩,[],0,[],[],[],0⟩
theorem OJ (b:Below k M w)(a:w.heap[k]? = some (PZ #[Q8,Q8,Q8,O3 0,Qn,O3 0,Q8,.map (some l),Q8,Q8,O3 0,O3 0,O3 0,O3 0] 84)) :
  My 0 M k l D Q8 Q8 Q8 Q8 w bare:=
 ⟨b,⟨_,_,_,_,a,Tb.nil Pm,Tb.nil Pm⟩,iK _ _ _ _,iK _ _ _ _,iK _ _ _ _,[],rfl,iK _ _ _ _,λe c d h=>by simp at h⟩
theorem My.zero (h:My o M k l D z r q A w g):My o M k l D z r q A (w.setCell (O7 k 11) (O3 0)) g/\My o M k l D z r q A (w.setCell (O7 k 12) (O3 0)) g:=by
 obtain⟨v,t,u,B⟩:=h.fu;obtain⟨E,a⟩:=h.hh.cell 9 (O3 0);obtain⟨C,b⟩:=h.hh.cell 10 (O3 0);exact⟨⟨h.bw.trans a.below,E,PV h.lg a Pm,PV h.se a Pm,PV h.ow a Pm,v,t,PV u a Pm,λp d s i e=>(B p d s i e).kp (λj m n c f=>a.rest j m n c (by rcases f with rfl|rfl <;> decide))⟩,
  ⟨h.bw.trans b.below,C,PV h.lg b Pm,PV h.se b Pm,PV h.ow b Pm,v,t,PV u b Pm,λp d s i e=>(B p d s i e).kp (λj m n c f=>b.rest j m n c (by rcases f with rfl|rfl <;> decide))⟩⟩
mutual
theorem Tf.qu {f:Nat->Prop}{w:Pe}:∀ c:Ad,Tf f w c->∀ b ∈ c.VE,Cl w b
 | .mk n j p m i,h,b,a=>by
  rw[Tf] at h;obtain⟨_,_,⟨s,e,_⟩,d⟩:=h;rw[Ad.VE] at a
  rcases gP.1 a with rfl|a
  ·exact⟨_,_,e⟩
  ·exact RX.qu i d b a
theorem RX.qu {c:Nat->Prop}{w:Pe}:∀ T:List Ad,RX c w T->∀ b ∈ Ad.Ui T,Cl w b
 | [],_,b,a=>by rw[Ad.Ui] at a;cases a
 | d::T,h,b,a=>by
  rw[RX] at h;rw[Ad.Ui] at a
  rcases gU.1 a with a|a
  ·exact Tf.qu d h.1 b a
  ·exact RX.qu T h.2 b a
end
variable {u:Ad}
theorem EL (h:Tf (λ_=>True) w u):PX u.VE w u (some 0,u.tr):=⟨h,rfl,[],[],by simp,rfl⟩
theorem NR (h:Tf (λ_=>True) w u)(i:u.VE.Nodup)(e:w.cell? (O7 1 0)=some T)(a:Pn w w')(b:w'.heap[l]? = some (.map (X9 (Xw u.VE)) u.VE.length)):Bs w' w'.heap.size l u.VE T/\PX u.VE w' u (some 0,u.tr):=
 ⟨⟨rfl,b,λj d=>by
  obtain⟨f,o,c⟩:=Tf.qu u h j d;exact⟨f,o,fQ a c⟩,i,PN a e⟩,(EL h).kp (Kp.of a)⟩
def zG:St:={ bare with M:=bare.M.Qj 0 }
def yv:St:=zG.gq (-1) 0 (-1)
def ns:St:=yv.gq 0 (-1) 0
def zL:St:=({ ns with M:=ns.M.Qj 1 }:St).Rj 0 XL (UH ns.M.objs.length) false
theorem Kp.of' {M w:Pe}{k l:Nat}{D:List Nat}{T:Px}(a:Bs M k l D T)(h:Below k M w):Kp M w:=Kp.of (h.mono (im a.sz))
theorem wS:bare.M.Small 9/\zG.M.Small 9/\yv.M.Small 9:=by
 refine⟨⟨by decide,by decide,by decide,by decide⟩,⟨by decide,by decide,by decide,by decide⟩,⟨by decide,by decide,by decide,by decide⟩⟩
theorem ahh (h:Tf (λ_=>True) w u)(aJ:u.VE.Nodup)(ah:u.kg<=90000)(aj:w.cell? (O7 1 0)=some T)
  (au:∀ b k l z r q A L,Mx b k l u.VE z r q A L ns->Pq 52 #[O5 k,Pj XL,O3 1] L λm w'=>m=PK (.tuple #[])/\Mx b k l u.VE z r q A w' zL/\Ql Th k L w')
  (aD:∀ b k l z r q A L,Mx b k l u.VE z r q A L zL->Pq 52 #[O5 k,Pj Vs,O3 2] L λm w'=>m=PK (.tuple #[])/\Mx b k l u.VE z r q A w' Q5/\Ql Th k L w') :
  Pq 27 #[O5 u.p] w λm w'=>∃ b k l q,m=PK (O5 k)/\Pn w b/\Bs b k l u.VE T/\Mx b k l u.VE Q8 Q8 q Q8 w' Q5:=by
 have ap:=MP u w h aJ ah;have br:Hid (∀ w' l,Pn w w'->w'.heap[l]? = some (.map (X9 (Xw u.VE)) u.VE.length)->Bs w' w'.heap.size l u.VE T/\PX u.VE w' u (some 0,u.tr)):=λ_ _ O db=>NR h aJ aj O db;have bo:=Y au;have bv:=Y aD;obtain⟨aF,am⟩:=xH u.p;rw[<-am.out] at ap ⊢;clear h aJ ah aj au aD;go_enter func27,ntmps27;go_wp2_with fail;refine cm ap ?_;rintro m b ⟨⟨l,rfl,_,db⟩,O⟩;obtain⟨s,a6⟩:=O4 br b l O db
 obtain⟨H,F⟩:=xH (b.alloc (.cells #[Q8,Q8,Q8,O3 0,Qn,O3 0,Q8,.map (some l),Q8,Q8,O3 0,O3 0,O3 0,O3 0] 84));obtain⟨k,f⟩:=xE b.heap.size;rw[<-f] at s;have W:My 0 b k l u.VE Q8 Q8 Q8 Q8 H bare:=OJ (by rw[F.out,f];exact QJ) (by rw[F.out,f];exact Ph _ _)
 have bh:Pq 49 #[O5 k,O3 0] H λm w'=>m=PK (O3 0)/\My 0 b k l u.VE Q8 Q8 Q8 Q8 w' zG/\Ql Th k H w':=(v7 W.hh wS.1 Pm 0).mono (by
  rintro m w' ⟨rfl,ad,ak⟩;exact⟨rfl,W.heap ad ak,ak⟩)
 clear db;go_wp2_with fail;rw[<-F.out,<-f];clear f;refine cm bh ?_;rintro m a1 ⟨rfl,B,bM⟩;have bm:=B.lt;obtain⟨aN,aY⟩:=B.hh.at_ 9 _ rfl;obtain⟨be,aC⟩:=xH (a1.setCell (O7 k 11) (O3 0));have t:=B.zero.1;rw[<-aC.out] at t;have bj:=t.lt;have aW:=(t.hh.at_ 9 _ rfl).1;have bf:Pq 50 #[O5 k,O3 (-1),O3 0,O3 (-1)] be λm w'=>m=PK (O3 0)/\∃ d,My 0 b k l u.VE Q8 Q8 d Q8 w' yv:=(Dn t (-1) 0 (-1) Pm λL R i=>At i wS.2.1 Pm (-1) 0 (.inl rfl) (.inr rfl)).mono (by
  rintro m w' ⟨rfl,d,ad,_⟩;exact⟨rfl,d,ad⟩)
 go_wp2_with (rw[<-aC.out])
 refine cm bf ?_;rintro m bc ⟨rfl,bG,C⟩;have bT:=C.lt;obtain⟨bx,bR⟩:=C.hh.at_ 10 _ rfl;obtain⟨ax,aI⟩:=xH (bc.setCell (O7 k 12) (O3 0));have p:=C.zero.2;rw[<-aI.out] at p;have bU:=p.lt;have bq:=Y (p.hh.at_ 10 _ rfl).1;have bn:Hid (∀ L,Pn ax L->Pq 51 #[O5 k,O5 aF] L λm w'=>m=PK (O3 0)/\w'=L):=λL i=>by
  have ac:=p.fH i;have aX:PX u.VE L u (some 0,u.tr):=a6.kp (Kp.of' s ac.bw);have:=Og s ac aX;rw[am.out];exact this
 have aV:Hid (∀ L,Pn ax L->Pq 50 #[O5 k,O3 0,O3 (-1),O3 0] L λm w'=>m=PK (O3 1)/\∃ d,My 0 b k l u.VE Q8 Q8 d Q8 w' ns):=λL i=>(Dn (p.fH i) 0 (-1) 0 Pm λL R i=>At i wS.2.2 Pm 0 (-1) (.inr rfl) (.inl rfl)).mono (by
  rintro m w' ⟨rfl,d,ad,_⟩;exact⟨rfl,d,ad⟩)
 clear aN aY aW bm bj
 go_wp2_with (rw[<-aI.out])
 refine UC 9 λa=>?_;refine iy ?_;refine up 3 k 0 a ?_;refine up 4 k 12 a ?_;refine uk 5 bq.out a ?_;refine up 6 k 0 a ?_;refine up 7 aF 0 a ?_;refine Rl 8 λK c=>?_;go_simp;refine cm (O4 bn _ a) ?_;rintro m bO ⟨rfl,rfl⟩;refine c.out _ _ (λ_=>a) ?_;clear c K;refine Rl 9 λK c=>?_;go_simp;refine cm (O4 aV _ a) ?_;rintro m a7 ⟨rfl,bK,E⟩;refine ko c ?_;clear c K;have bB:=E.lt;obtain⟨bu,aS⟩:=E.hh.at_ 11 _ rfl;have I:=E.made.1;refine uz 10 (PL k 0) ?_;refine uz 11 (PL k 13) ?_
 refine uaZ 12 ?_;refine TQ ?_ _;go_simp;obtain⟨bS,aG⟩:=xE (a7.setCell (O7 k 13) (O3 1));rw[<-aG] at I ⊢;clear aG bu aS;have bC:=I.lt;go_wp2_with fail;refine cm (O4 bo _ _ _ _ _ _ _ _ I) ?_;rintro m bE ⟨rfl,aK,bD⟩;go_wp2_with fail;refine cm (O4 bv _ _ _ _ _ _ _ _ aK) ?_;rintro m bL ⟨rfl,aZ,bF⟩;go_wp2_with fail;exact Vm (v:=O5 k) ⟨_,_,_,_,rfl,O,s,aZ⟩
theorem vD:Sz 10 ns:=by
 obtain⟨bz,a,c⟩:=E5.pz;have b:ns=ij:=rfl;rw[b];exact a.up (by have:ij.steps=0:=rfl;omega)
theorem aBM:Sz 12 zL:=by
 have a:Sz 11 ({ ns with M:=ns.M.Qj 1 }:St):=vD.heap (ge _) (vD.go.Qj 1) rfl;exact a.Rj 0 XL (UH ns.M.objs.length) false
theorem Q4 (h:Tf (λ_=>True) w u)(f:u.VE.Nodup)(c:u.kg<=90000)(d:w.cell? (O7 1 0)=some T) :
  Pq 27 #[O5 u.p] w λe w'=>∃ b k l q,e=PK (O5 k)/\Pn w b/\Bs b k l u.VE T/\Mx b k l u.VE Q8 Q8 q Q8 w' Q5:=
 ahh h f c d (λ_ _ _ _ _ _ _ _ a=>KT a vD Pm XL 1) (λ_ _ _ _ _ _ _ _ a=>KT a aBM Pm Vs 2)
variable {aC:Px}{ah:List Ad}
theorem axi (c:Cx M k l D T bI){o:Tr}(a:Bk o)(i:Ms M k l D w (QI (some 0,o) Q5).2)(X:TY 0 w aC ah)(p:UW D w ah (QB (some 0,o))) :
  Pq 28 #[O5 k,aC,Qy (QI (some 0,o) Q5).1 none] w (QG M k l D T none w (SG (fx 20002) (QI (some 0,o) Q5).1 (QB (some 0,o)) none (QI (some 0,o) Q5).2)):=by
 obtain⟨d,f,m⟩:=Zi.1.prog (d:=(some 0,o)) a Zi.2;have j:QQ 20002 9000 (QI (some 0,o) Q5).1 (QI (some 0,o) Q5).2:=⟨⟨by omega,by rw[d.st];decide,d.iv.up O9,f⟩,by omega⟩
 exact yA c (pO 20002) (uN c 20002) j (λn e=>a.ks _ (QZ e)) m (λ_ b=>by cases b) (λ_ b=>by cases b) (vG (b:=(some 0,o)) a) i X p (W:=none) (q:=none) trivial
def kE (c:List Py)(b:Nat)(g:St):St:=(c.take b).foldl (λg a=>if g.M.has 0 a then g else g.Rj 0 a vU true) g
theorem Cq (b:List Py)(a:Nat)(g:St)(c:a<b.length):kE b (a+1) g=if (kE b a g).M.has 0 b[a] then kE b a g else (kE b a g).Rj 0 b[a] vU true:=by
 unfold kE;exact rm
theorem Sz.kE (b:List Py):∀ (a:Nat) {g:St},Sz aQ g->a<=b.length->Sz (aQ+a) (kE b a g)
 | 0,_,h,_=>h
 | a+1,g,h,c=>by
  rw[Cq b a g O9]
  split
  ·exact(Sz.kE b a h O9).up O9
  ·exact(Sz.kE b a h O9).Rj _ _ _ _
def yH (b:Pl)(a:Nd)(g:St):St:=(f5 a b g).2.Rj 0 a.2.tx (f5 a b g).1 true
def ma (c:Pl)(b:List Nd)(a:Nat)(g:St):St:=(b.take a).foldl (λg a=>yH c a g) g
theorem EE (d:Pl)(a:List Nd)(b:Nat)(g:St)(c:b<a.length):ma d a (b+1) g=yH d a[b] (ma d a b g):=by
 unfold ma;exact rm
theorem Sz.ma (c:Pl)(b:List Nd):∀ (a:Nat) {g:St},Sz aQ g->a<=b.length->Sz (aQ+2 * a) (ma c b a g)
 | 0,_,h,_=>h
 | a+1,g,h,d=>by
  rw[EE c b a g O9];exact((Sz.ma c b a h O9).f5 _ _).Rj _ _ _ _
theorem alX (a:Nd)(g:St):QI a g=(⟨1,0,PO a.2⟩,ma ⟨1,0,PO a.2⟩ (Ul a) (Ul a).length (QS (Qd a.2) 1 (kE (Qv a.2) (Qv a.2).length g))):=by
 unfold QI ma kE;rw[gO,gO];rfl
theorem apo (E:Mx M k l D z r q A w g)(cD:Sz aQ g)(dQ:aQ+9000<1000000000){u:Ad}{d:Nd}(aJ:PX D w u d)(dM:d.2.count<=1500)(ak:∀ j ∈ Ul d,j.2.fJ.length=2) :
  Pq 30 #[O5 k,O5 u.p] w λm w'=>m=PK (Qy (QI d g).1 none)/\∃ cC,Mx M k l D z r q cC w' (QI d g).2/\SL k q A q cC w w':=by
 have cV:=E.lt;have bF:=alX d g;obtain⟨H,b0⟩:=xH (w.alloc (.cells #[O3 0,O3 0,Pv false,Ry] 73));have bL:Pn w H:=by rw[b0.out];exact QJ
 obtain⟨W,b1⟩:=xE w.heap.size;have cM:H.heap[W]? = some (PZ #[O3 0,O3 0,Pv false,Ry] 73):=by rw[b0.out,b1];exact Ph _ _
 have cG:w.heap.size<=W:=O9;have c9:=Si d.2;have aD:=aJ.kp (Kp.of bL);have dy:TV H d.2 u.p:=by rw[<-aD.tr];exact aD.at_.nat.nt
 have bM:=XR d.2 u.p H dy O9;have bD:=Y (λL (i:Kp H L)=>Uo d.2 u.p L (by rw[<-aD.tr];exact(Tf.kp i _ aD.at_).nat.nt))
 obtain⟨f,ba⟩:=xE (Qv d.2);obtain⟨s,hv⟩:=xE (Ul d);obtain⟨cw,bG⟩:=xE (Qd d.2);obtain⟨C,bO⟩:=xE (PO d.2);obtain⟨ah,b2⟩:=xE (u.ks.filter λj=>SH j.tr);have ci:UW D H ah s:=by rw[b2,hv];exact UW.filter SH _ _ aD.lT
 have dx:ah.length=s.length:=UW.len _ _ ci;have dS:s.length<=1500:=Lw
 have dL:cw.length<=1500:=by
  have cU:=hp Qk d.2.fJ;rw[bG];show (d.2.fJ.filter Qk).length<=_;omega
 have dP:f.length<=1500:=by
  have b{G}(h:G:=by
  rw[ba];omega):=O6 h;exact uR
 rw[<-ba] at bM;rw[<-bO] at bD;rw[<-ba,<-hv,<-bG,<-bO] at bF;rw[<-hv] at ak;obtain⟨dR,cK⟩:=xE (QI d g);rw[<-cK] at bF ⊢;obtain⟨dz,cZ⟩:=xH u.p;have de:=E.fH bL;have d2:=SL.of (o:=q) (f:=A) bL (P6 cV);have c8:=Y cM;have b9:=Y (λL (i:Tf (λ_=>True) L u)=>Yu u L i (by rw[aJ.ks];omega))
 rw[<-b2] at b9;have cr:=Y (λL a (i:Mx M k l D z r q A L a) (c:Kp H L) (e:Sz (aQ+1500) a)=>uI i e (aD.kp c) O9 O9 1);rw[<-bG] at cr;have cq:=Y bF;have dr:=Y ak;have cl:=Y cG;rw[<-cZ.out] at bM bD b9 cr ⊢;clear E cM bF cK ba hv bG bO b2 ak cG c9;go_enter func30,ntmps30;go_wp2_with fail;rw[<-b0.out,<-b1];clear b1;refine cm bM ?_;have b{G}(h:G:=by
 have cS:=Y (fQ aV c8.out);have dt:Kp H dZ:=Kp.of aV;go_wp2_with fail
 go_loopw [13] (λn wr=>∃ j:Nat,j<=f.length/\n=O3 j/\Mx M k l D z r q A wr (kE f j g)/\SL k q A q A w wr/\wr.heap[W]? = some (PZ #[O3 0,O3 0,Pv false,Ry] 73)/\SQ H.heap.size wr (.slice d4 f.length d1) f/\Kp H wr) (λn _=>f.length - (intOf n).toNat)
 case atStart=>exact⟨0,f3 _,rfl,d3,d0,cS.out,dg,dt⟩
 case round=>
  obtain⟨j,ai,rfl,aZ,bT,a7,cQ,bV⟩:=hrel;have ac:=aZ;have aK:=bT;have au:=Y a7;have aj:=bV;have bY:=aZ.lt;clear a7
  by_cases ax:j<f.length
  ·obtain⟨dq,da,B,b4,_,a1⟩:=Vg cQ j ax;have b{G}(h:G:=by
   have aW:(j:Int)<(f.length:Int):=O9;have F:=Cq f j g ax;obtain⟨x,E⟩:=xE (f[j]);rw[<-E] at a1 F;obtain⟨aF,ap⟩:=xE (kE f j g);rw[<-ap] at ac F;have bc:Sz (aQ+j) aF:=by rw[ap];exact Sz.kE f j cD O9
   have a6:=Y (λL (i:Pn wr L)=>Dz (ac.fH i).hh bc.go.sm O9 0 x);have bm:=Y (λL (i:Mx M k l D z r q A L aF)=>ZQ i bc O9 0 x vU true);have cB:=Y (ac.hh.at_ 10 _ rfl).1;obtain⟨bj,aY⟩:=xE (aF.M.has 0 x);rw[<-aY] at a6 F;have aG:=Y F;clear E ap aY F;go_wp2_with fail;clear a1 b4
   cases bj with
   | true=>
    have b{G}(h:G:=by
    refine uz 9 (Pv false) ?_;refine TQ ?_ _;go_simp;go_wp2_with fail;refine⟨⟨j+1,by omega,by go_num,?_,bK,bh.out,bf,aN⟩,by simp[intOf];omega⟩
    rw[aG.out,fL rfl];exact aI):=O6 h;exact FU
   | false=>
    have b{G}(h:G:=by
    refine uz 9 (Pv true) ?_;refine TQ ?_ _;go_simp;have cz:=Y (aI.hh.at_ 9 _ rfl).1;go_wp2_with fail;refine UC 9 λa=>?_;refine iy ?_;refine uT ?_;refine up 5 k 11 a ?_;refine uk 6 cz.out a ?_;refine uh 7 (Pj x) (a) ?_;refine uh 8 (.agg #[O3 0,O3 0,Qn]) (a) ?_;refine Rl 9 λK c=>?_;go_simp;refine cm (O4 bm _ (aI.fH a)) ?_;rintro m aS ⟨rfl,be,t⟩;refine ko c ?_;clear c K;have b7:=be;have cf:=(bK.trans (SL.of a (P6 cA))).Ya t;have cg:=Y (t.rest _ _ _ (fQ a bh.out) Pm)
    have bn:=PV (Qg bf a) t Pm;have cp:Kp H aS:=λN e m O p=>Ql.kp t N e m (Kp.of a N e m (aN N e m O p) p) p;refine TQ ?_ _;go_simp;go_wp2_with fail;refine⟨⟨j+1,by omega,by go_num,?_,cf,cg.out,bn,cp⟩,by simp[intOf];omega⟩
    rw[aG.out,fK P7];exact b7):=O6 h;exact FU):=O6 h;exact UM
  ·have b{G}(h:G:=by
   obtain⟨cy,cu⟩:=xE (kE f f.length g);rw[<-cu] at ac cq;have cL:Sz (aQ+1500) cy:=by rw[cu];exact(Sz.kE f f.length cD Qp).up O9
   have cJ:=O4 cr wr cy ac aj cL;obtain⟨a6,b6⟩:=xE (QS cw 1 cy);rw[<-b6] at cJ cq;have cR:Sz (aQ+3000) a6:=by show Sz _ _;rw[b6];exact(cL.lets cw 1).up O9
   have dD:=(ac.hh.at_ 11 _ rfl).1;clear cu b6;go_wp2_with fail;refine cm cJ ?_;rintro m I ⟨rfl,bu,b3⟩;have aI:=bu;have bK:=aK.Ya b3;have bh:=Y (b3.rest _ _ _ au.out Pm);have aN:Kp H I:=λN e m O p=>Ql.kp b3 N e m (aj N e m O p) p;have cA:=bu.lt;have dI:=Y (bu.hh.at_ 11 _ rfl).1;have cB:=Y (bu.hh.at_ 10 _ rfl).1;clear dD;go_wp2_with fail;refine mv (H:=λwz am=>Pn I wz/\wz.heap[am]? = some (PZ #[O3 1,O3 0,Pv C,Ry] 73)/\I.heap.size<=am) (G:=?GG) (λdJ=>?ways) ?rest
   case ways=>
    refine UC 12 λa=>?_;refine up 0 k 0 a ?_;refine up 1 k 0 a ?_;refine up 2 k 13 a ?_;refine uk 3 dI.out a ?_;refine up 4 k 0 a ?_;refine up 5 k 0 a ?_;refine up 6 k 12 a ?_;refine uk 7 cB.out a ?_;refine up 8 dz 0 a ?_;refine jS 9 11 (λK c=>?_) λK c=>?_
    ·go_simp;refine cm (O4 bD _ (λN e m O p=>Kp.of a N e m (aN N e m O p) p)) ?_;rintro m aY ⟨rfl,rfl⟩;refine c.out _ _ (λ_=>a) ?_;clear c K;refine uh 10 (.agg #[O3 1,O3 0,Pv C,Ry]) (a) ?_;refine Rl 11 λK c=>?_;go_simp;refine kG ?_;clear c K;exact BW
    ·go_simp;refine kG ?_;clear c K;refine Rl 9 λK c=>?_;go_simp;refine cm (O4 bD _ (λN e m O p=>Kp.of (QJ.drew) N e m (aN N e m O p) p)) ?_;rintro m aY ⟨rfl,rfl⟩;refine c.out _ _ (λ_=>QJ.drew) ?_;clear c K;refine uh 10 (.agg #[O3 1,O3 0,Pv C,Ry]) (QJ.drew) ?_;exact BW
   case rest=>
    rintro wz am ⟨bE,cO,cT⟩;have bR:=aI.fH bE;have dk:=bK.trans (SL.of bE (P6 cA));have di:=Y cO;have dj:=Y (fQ bE bh.out);have bU:Kp H wz:=λN e m O p=>Kp.of bE N e m (aN N e m O p) p;have dl:=bR.lt;have dO:am≠W:=λm=>by have:=fI bh.out;omega
    have d6:=O4 b9 wz (Tf.kp bU _ aD.at_);clear cO cT;have b{G}(h:G:=by
    go_wp2_with fail
    go_loopw [59] (λn wr=>∃ (j:Nat) (ch:Px),j<=ah.length/\n=O3 j/\Mx M k l D z r q ch wr (ma ⟨1,0,C⟩ s j a6)/\SL k q A q ch w wr/\wr.heap[am]? = some (PZ #[O3 1,O3 0,Pv C,Ry] 73)/\wr.heap[W]? = some (PZ #[O3 0,O3 0,Pv false,Ry] 73)/\Kp bB wr) (λn _=>ah.length - (intOf n).toNat)
    case atStart=>exact⟨0,_,f3 _,rfl,d9,d8,ea.out,d7.out,λ_ _ _ h _=>h⟩
    case round=>
     obtain⟨j,ch,ai,rfl,aZ,bT,cn,a7,bV⟩:=hrel;have b{G}(h:G:=by
     by_cases ax:j<ah.length
     ·obtain⟨dq,da,B,b4,a1,dN⟩:=(dp.kp aj).cell j ax;have b{G}(h:G:=by
      have b{G}(h:G:=by
      obtain⟨aF,ap⟩:=xE (ma ⟨1,0,C⟩ s j a6);rw[<-ap] at ac;have bc:Sz (aQ+3000+2 * j) aF:=by rw[ap];exact Sz.ma _ s j cR O9
      have ck:=O4 dr s[j] (gT _);have bo:=Y (λL (i:Pn wr L)=>q5 (ac.fH i) (bQ.kp (Kp.of i)) ck bc O9 ⟨1,0,C⟩ none);obtain⟨bS,bn⟩:=xE ((f5 s[j] ⟨1,0,C⟩ aF).1);obtain⟨bv,bm⟩:=xE ((f5 s[j] ⟨1,0,C⟩ aF).2);rw[<-bn,<-bm] at bo;have dG:Sz (aQ+3000+2 * j+1) bv:=by rw[bm];exact bc.f5 _ _
      have cP:=Y (λL dd (i:Mx M k l D z r q dd L bv)=>ZQ i dG O9 0 x bS true);have cx:bv.Rj 0 x bS true=ma ⟨1,0,C⟩ s (j+1) a6:=by
       rw[EE _ s j a6 dh,<-ap];unfold yH;rw[<-bm,<-bn,<-E]
      rw[cx] at cP;obtain⟨aG,cI⟩:=xE ((ah[j]).p);have bq:=bQ.gw;rw[<-cI] at a1 d5 aY bo bq;have dH:=Y bq;have dc:=Y aY;have cz:=Y (ac.hh.at_ 9 _ rfl).1;clear E ap ck bn bm cx cI bq aY;go_wp2_with fail;clear a1 b4;have a:Pn wr wr.drew:=RP.drew;have F:wr.drew.heap[am]? = some (PZ #[O3 1,O3 0,Pv C,Ry] 73)/\wr.drew.cell? (O7 aG 1)=some (Pj x)/\wr.drew.cell? (O7 k 11)=some (O3 0):=⟨fQ a bC.out,PN a dc.out,PN a cz.out⟩
      refine Qq 15 (λL=>L.heap[am]? = some (PZ #[O3 1,O3 0,Pv C,Ry] 73)/\L.cell? (O7 aG 1)=some (Pj x)/\L.cell? (O7 k 11)=some (O3 0)) Qs ?_;refine up 0 k 0 F ?_;refine up 1 k 0 F ?_;refine up 2 k 0 F ?_;refine up 3 k 0 F ?_;refine up 4 k 0 F ?_;refine up 5 k 11 F ?_;refine uc 6 (O3 0) rfl (fM ⟨by kernel_rfl,λL i=>by have aO:=i.2.2;go_simp⟩) (F) ?_
      refine up 7 aG 0 F ?_;refine up 8 aG 0 F ?_;refine up 9 aG 1 F ?_;refine uc 10 (Pj x) rfl (fM ⟨by kernel_rfl,λL i=>by have aO:=i.2.1;go_simp⟩) (F) ?_
      refine up 11 k 0 F ?_;refine up 12 aG 0 F ?_;refine uc 13 (.agg #[O3 1,O3 0,Pv C,Ry]) rfl (fM ⟨by kernel_rfl,λL i=>by have aO:=(fN i.1).1;have ad:=(fN i.1).2.1;have ak:=(fN i.1).2.2.1;have cU:=(fN i.1).2.2.2.1;go_simp⟩) (F) ?_
      refine Rl 14 λK c=>?_;go_simp;refine cm (O4 bo _ a) ?_;rintro m aS ⟨rfl,dF,be,t⟩;have bf:=ac.fH a;have br:=(t.jn (o:=none) bf).fR F.1 Pm;have bx:aS.cell? (O7 aG 1)=some (Pj x):=by
       obtain⟨e,O⟩:=O4 dH;exact(t.kp bf).YJ F.2.1 ⟨e,fQ a O⟩
      refine c.out _ _ (λ_=>⟨br,bx,(be.hh.at_ 9 _ rfl).1⟩) ?_;clear c K;have dK:=be.lt;have b7:=be;have cf:=(aK.trans (SL.of a (P6 bY))).trans t;have ds:=Y br;have cg:=Y ((t.jn (o:=none) bf).fR (fQ a au.out) Pm);have cp:Kp bB aS:=λN e m O p=>t.kp bf N e m (Kp.of a N e m (aj N e m O p) p) p;clear br bx;refine Rl 15 λK c=>?_;go_simp;refine cm (O4 cP _ _ b7) ?_;rintro m dm ⟨rfl,dn,bj⟩;refine ko c ?_;clear c K;have dB:=cf.Ya bj
      have dE:=Y (bj.rest _ _ _ ds.out Pm);have dA:=Y (bj.rest _ _ _ cg.out Pm);have dC:Kp bB dm:=λN e m O p=>Ql.kp bj N e m (cp N e m O p) p;clear F;refine TQ ?_ _;go_simp;go_wp2_with fail;exact⟨⟨j+1,dF,by omega,by go_num,dn,dB,dE.out,dA.out,dC⟩,by simp[intOf];omega⟩):=O6 h;exact II):=O6 h;exact UM
     ·have b{G}(h:G:=by
      obtain⟨aS,ck⟩:=xE ((((wr.setCell (O7 W 0) (O3 1)).setCell (O7 W 1) (O3 0)).setCell (O7 W 2) (Pv C)).setCell (O7 W 3) Ry);rw[<-ck];have dn:=lR au.out (O3 1) (O3 0) (Pv C) Ry;have F:k<=W:=by have:=O4 cl;omega
      have t:=UY au.out F (O3 1) (O3 0) (Pv C) Ry;have b{G}(h:G:=by
      refine Xp (v:=Qy ⟨1,0,C⟩ none) ?_;rw[cq.out];rw[dx] at bS;exact⟨rfl,_,bS,dm⟩):=O6 h;exact Dm):=O6 h;exact Lu):=O6 h;exact Ao):=O6 h;exact AV):=O6 h;exact tB):=O6 h;exact JM
structure Rw (w:Pe)(es:Px)(eb:Addr):Prop where
 is:es=.iface 359 (.pointer (some eb))
 qP:w.cell? (O7 1 0)=some es
 et:SY w
 tb:Wj w
 gl:Gl w
 lt:1<w.heap.size
theorem Rw.fH (h:Rw w T bI)(a:Pn w w'):Rw w' T bI:=
 ⟨h.is,PN a h.qP,VY h.et a (by have:=h.lt;omega),Lib.tabBelow_of_tabIs h.tb w' a,h.gl.fH a,by have:=a.size;have:=h.lt;omega⟩
theorem Rw.cx (h:Rw w T bI)(a:Bs w k l D T):Cx w k l D T bI:=
 ⟨a,⟨h.is,h.qP,h.et,by rw[<-a.sz];exact h.lt⟩,h.tb,h.gl⟩
def mf:Er->Int
 | .no=>1
 | .Yq _=>2
 | _=>3
def oq (a:Mo):Er->Py
 | .Yq b=>a.hu b
 | _=>O8
structure Fin (w0:Pe)(mb:Nat)(aT aB:Px)(c:Int)(x:Py)(σ:St)(w:Pe):Prop where
 bw:Below mb w0 w
 lt:mb<w.heap.size
 c2:w.cell? (O7 mb 2)=some aT
 c3:w.cell? (O7 mb 3)=some (O3 c)
 c4:w.cell? (O7 mb 4)=some (Pj x)
 c5:w.cell? (O7 mb 5)=some (O3 (σ.steps:Int))
 c6:w.cell? (O7 mb 6)=some aB
 lg:w.ownsRow mb 9 1 aT σ.hq.length (σ.hq.map Value.string)
 se:w.ownsRow mb 54 2 aB σ.seen.length (σ.seen.flatMap l5)
section
variable (b:Mx M k l D z r q A w g) (a:Int)
include b a
theorem rG:Fin M k z r a O8 g (w.setCell (O7 k 3) (O3 a)):=by
 obtain⟨h,c⟩:=b.hh.cell 1 (O3 a);exact DC
theorem zi (x:Py):Fin M k z r a x g ((w.setCell (O7 k 3) (O3 a)).setCell (O7 k 4) (Pj x)):=by
 obtain⟨f,d⟩:=b.hh.cell 1 (O3 a);obtain⟨h,e⟩:=f.cell 2 (Pj x);have c:=d.trans e;exact DC
end
theorem Eo.va {b:Er}{a:Va}(h:Eo g b)(d:b=.Yq a)(c:Sz 400000000 g):-9223372036854775808<=a.n/\a.n<=9223372036854775807:=by
 subst d;have:=(vB (c:=g.M) h.2 c.go.sm.o).2;omega
theorem axj (c:Cx M k l D T bI)(t:Ms M k l D w g){a:Er}(n:Eo g a)(s:Sz 400000000 g){d:Px}(f:X8 T w d a) :
  Pq 31 #[O5 k,d] w λe w'=>e=PK (.tuple #[])/\∃ z r,Fin M k z r (mf a) (oq g.M a) g w':=by
 obtain⟨z,r,q,A,i⟩:=t
 cases a with
 | no=>
  have j:d=QW:=f;subst j;refine(aBH i).mono ?_;rintro e w' ⟨rfl,m,b,_,rfl⟩;exact⟨rfl,z,r,rG b 1⟩
 | stop=>
  have j:d=T:=f;subst j;refine(as3 c.st i).mono ?_;rintro e w' ⟨rfl,m,b,_,rfl⟩;exact⟨rfl,z,r,rG b 3⟩
 | Yq B=>
  obtain⟨v,rfl,p⟩:=f;refine(axe c.b c.tb c.st i p (n.va rfl s)).mono ?_;rintro e w' ⟨rfl,m,b,_,rfl⟩;exact⟨rfl,z,r,zi b 2 _⟩
 | ir=>exact n.elim
def TS (w:Pe)(o:Tr)(a:Ending)(w':Pe):Prop:=Pn w w'/\match g5 o false false false with
 | some b=>a=PK (.tuple #[mn (.slice none 0 0) (.slice none 0 0) 0 0 ⟨#[]⟩,.iface 34 (O3 b)])
 | none=>∃ z r,a=PK (.tuple #[mn z r (mf (Rh o).1) (Rh o).2.steps (oq (Rh o).2.M (Rh o).1),.nilIface])/\w'.ownsRow w.heap.size 9 1 z (Rh o).2.hq.length ((Rh o).2.hq.map Value.string)/\w'.ownsRow w.heap.size 54 2 r (Rh o).2.seen.length ((Rh o).2.seen.flatMap l5)
theorem xU {o:Tr}(a:Bk o):Eo (Rh o).2 (Rh o).1/\Sz 400000000 (Rh o).2:=by
 have h:=aBN a;exact⟨h.er,h.iv.sz (by have:=h.ex.st;have b:Q5.steps=0:=rfl;show (9000:Int)<=_;omega) h.er.le⟩
theorem as7:Sz 100 Q5:=by
 obtain⟨bz,a,b⟩:=Zi.1.pz;exact a.up (by have:Q5.steps=0:=rfl;omega)
abbrev pm (w:Pe)(a:Nat)(x y b aC c:Px):Pe:=((((w.setCell (O7 a 0) x).setCell (O7 a 1) y).setCell (O7 a 2) b).setCell (O7 a 3) aC).setCell (O7 a 4) c
theorem Kc {a:Nat}{x y t aC v:Px}{o:TypeId}(h:w.heap[a]? = some (PZ #[x,y,t,aC,v] o))(b c d j e:Px):(pm w a b c d j e).heap[a]? = some (PZ #[b,c,d,j,e] o):=by
 have i{G}(h:G:=by
 have p:=hk _ a 3 _ o j f;have s:=hk _ a 4 _ o e p;exact s):=O6 h;exact uY
theorem It {b c:Nat}{u:Pe}(h:Below b u w)(a:b<=c)(x y d aC e:Px):Below b u (pm w c x y d aC e):=
 ((((h.setCell a x).setCell a y).setCell a d).setCell a aC).setCell a e
theorem s9 {a b c e d:Nat}{f:Px}{i:List Px}(h:w.ownsRow a c e f d i)(p:b<=a):w.ownsRow b c e f d i:=⟨h.1,by
 rcases h.2 with h|⟨t,s,n,v,j,m⟩
 ·exact .inl h
 ·exact .inr ⟨t,s,n,v,f9 p j,m⟩⟩
theorem qI {b c s a e d:Nat}{f:Px}{i:List Px}{o:TypeId}{p:Array Px}(h:w.ownsRow b a e f d i)(j:w.heap[c]? = some (PZ p o))(m:o≠a)(x:Px):(w.setCell (O7 c s) x).ownsRow b a e f d i:=
 ni h (λt=>by
  obtain⟨v,n⟩:=QM h t;exact RG j n m rfl) x
theorem Ea {e a c v t:Nat}{B:Px}{C:List Px}{o:TypeId}{x y H aC I:Px}(h:w.ownsRow e c v B t C)(f:w.heap[a]? = some (PZ #[x,y,H,aC,I] o))(b:o≠c)(d p s m E:Px):(pm w a d p s m E).ownsRow e c v B t C:=by
 have n:=hk w a 0 _ o d f;have i:=hk _ a 1 _ o p n;have j:=hk _ a 2 _ o s i;have F:=hk _ a 3 _ o m j;exact qI (qI (qI (qI (qI h f b _) n b _) i b _) j b _) F b _
theorem aEu (b9:Rw w T bI){u:Ad}(db:Tf (λ_=>True) w u)(bO:u.VE.Nodup)(bG:g5 u.tr false false false=none->Bk u.tr)(bn:u.tr.kd=1)(bM:u.tr.kr=0)(bQ:u.tr.count<=1500) :
  Pq 11 #[O5 u.p] w (TS w u.tr):=by
 obtain⟨H,aX⟩:=xH (w.alloc (.cells #[Q8,O3 0,Qn,O3 0,Q8] 29));have I:Pn w H:=by rw[aX.out];exact QJ
 obtain⟨i,aS⟩:=xE w.heap.size;have aZ:H.heap[i]? = some (PZ #[Q8,O3 0,Qn,O3 0,Q8] 29):=by rw[aX.out,aS];exact Ph _ _
 have bu:w.heap.size<=i:=O9;have aW:=Tf.kp (Kp.of I) _ db;have R:=A1 u.tr u.p false false H aW.nat.nt bM O9;have br:=Y aZ;have bv:=Y bu;have cp:=fI aZ
 cases C:g5 u.tr false false false with
 | some ai=>
  rw[C] at R;have aK:TS w u.tr=λm w'=>Pn w w'/\m=PK (.tuple #[mn Q8 Q8 0 0 ⟨#[]⟩,.iface 34 (O3 ai)]):=by
   unfold TS;rw[C]
  rw[aK];clear bO bG bn bM bQ aZ bu aW C aK cp;obtain⟨dr,aI⟩:=xE u.p;rw[<-aI] at R ⊢;clear aI;go_enter func11,ntmps11;go_wp2_with fail;rw[<-aX.out,<-aS];refine cm R ?_;rintro m aJ ⟨s,B⟩;have bE:m=PK (.iface 34 (O3 ai)):=s;subst bE;have ac:=I.trans (B.mono I.size);have aY:=Y (fQ B br.out);obtain⟨cV,cR,cZ,dc,dm,a,dt⟩:=hK (fQ B br.out);have c8:=a 0;have c9:=a 1;have da:=a 2;have dh:=a 3;have cO:=a 4;clear s a aS;go_wp2_with fail
  obtain⟨b1,E⟩:=xE (pm aJ i Q8 (O3 0) (Qn) (O3 0) Q8);have F:=Kc aY.out Q8 (O3 0) (Qn) (O3 0) Q8;have f:=It ac bv.out Q8 (O3 0) (Qn) (O3 0) Q8;unfold pm at E F f;rw[<-E] at F f;obtain⟨bx,bq,bo,bC,a7,_,_⟩:=hK F;rw[<-E];refine hf (v:=.tuple #[mn Q8 Q8 0 0 ⟨#[]⟩,.iface 34 (O3 ai)]) (by simp[results,results11,go_sem,bx,bq,bo,bC,a7]) rfl ?_;exact⟨f,rfl⟩
 | none=>
  rw[C] at R;have aG:=bG C;obtain⟨o,cQ⟩:=xE u.tr;have aK:TS w u.tr=λm w'=>Pn w w'/\∃ z r,m=PK (.tuple #[mn z r (mf (Rh u.tr).1) (Rh u.tr).2.steps (oq (Rh u.tr).2.M (Rh u.tr).1),QW])/\w'.ownsRow w.heap.size 9 1 z (Rh u.tr).2.hq.length ((Rh u.tr).2.hq.map Value.string)/\w'.ownsRow w.heap.size 54 2 r (Rh u.tr).2.seen.length ((Rh u.tr).2.seen.flatMap l5):=by
   unfold TS;rw[C]
  rw[aK];have ak:∀ j ∈ Ul ((some 0,u.tr):Nd),j.2.fJ.length=2:=λj cw=>by
   obtain⟨c7,a8,ad,dL,aO,c,_⟩:=(pL (b:=(some 0,u.tr)) aG j cw).sh;rw[c];rfl
  have b7:u.kg<=90000:=by rw[<-u.ye];omega
  have ci:=Y (λL (p:Pn H L)=>Q4 (Tf.kp (Kp.of p) _ aW) bO b7 ((b9.fH I).fH p).qP);have dy:=Y (λL (p:Pn w L) k l (aG:Bs L k l u.VE T)=>(b9.fH p).cx aG);have dz:=Y (λL (p:Kp H L)=>EL (Tf.kp p _ aW));obtain⟨cn,b3⟩:Eo (Rh u.tr).2 (Rh u.tr).1/\Sz 400000000 (Rh u.tr).2:=xU aG;obtain⟨dk,bf⟩:=xE (Rh u.tr);have cl:=Y (λL (aV:PX u.VE L u (some 0,u.tr))=>aBG aV bn)
  have bD:=Y (λL d k l q (c:Mx d k l u.VE Q8 Q8 q Q8 L Q5) (aV:PX u.VE L u (some 0,u.tr))=>apo c as7 Pm aV bQ ak);have bB:=Y (λL d k l aC (p:Cx d k l u.VE T bI) (bm:Ms d k l u.VE L (QI (some 0,u.tr) Q5).2) (X:TY 0 L aC u.ks) (aV:PX u.VE L u (some 0,u.tr))=>axi p aG bm X aV.lT);obtain⟨be,bc⟩:=xE (QI (some 0,u.tr) Q5);obtain⟨bj,bR⟩:=xE (SG (fx 20002) be.1 (QB (some 0,u.tr)) none be.2);have cJ:dk=(bj.1.2.1,bj.2):=by rw[bf,bR,bc];rfl
  rw[<-bf] at cn b3 ⊢;rw[<-bc] at bD bB;rw[<-bR] at bB;subst cJ;obtain⟨dr,aI⟩:=xE u.p;rw[<-aI] at R ci cl bD ⊢;clear bO bG bn bM bQ aZ bu aW C aK cp aI ak b7 bf bc bR cQ;go_enter func11,ntmps11;go_wp2_with fail;rw[<-aX.out,<-aS];refine cm R ?_;rintro m aJ ⟨s,B⟩;have bE:m=PK QW:=s;subst bE;have ac:=I.trans (B.mono I.size);have aY:=Y (fQ B br.out);have cG:=O4 ci aJ B;have dd:Kp H aJ:=Kp.of B;clear s aS;go_wp2_with fail;refine cm cG ?_
  rintro m aN ⟨d,k,l,q,rfl,t,a1,bF⟩;have cL:Pn d aN:=by unfold Pn;rw[a1.sz];exact bF.bw
  have cI:Pn aJ aN:=t.trans (cL.mono t.size);have cr:=O4 dy d (ac.trans (t.mono ac.size)) k l a1;have di:Kp H aN:=λN e m O s=>Kp.of cI N e m (dd N e m O s) s;have bV:=O4 dz aN di;have bS:Hid (w.heap.size<k):=by show _<_;rw[<-a1.sz];have:=fI aY.out;have:=t.size;have:=O4 bv;omega
  have dg:Hid (Pn w d/\d.heap[i]? = some (PZ #[Q8,O3 0,Qn,O3 0,Q8] 29)/\d.heap.size=k):=⟨ac.trans (t.mono ac.size),fQ t aY.out,a1.sz⟩;have cx:=O4 cl aN bV;go_wp2_with fail;refine cm cx ?_;rintro m dE ⟨rfl,aC,rfl,b0⟩;obtain⟨ua,uc,cK⟩:=b0.form;subst cK;have cA:=O4 bD _ d k l q bF bV;go_wp2_with fail;refine cm cA ?_;rintro m cY ⟨rfl,dA,dq,dj⟩;have b2:=dj.kp bF;have cD:=bV.kp b2;have cz:=b0.kp b2;have cB:=O4 bB cY d k l _ cr ⟨_,_,_,_,dq⟩ cz cD
  obtain⟨⟨dM,dD,dN⟩,dB⟩:=be;go_wp2_with fail;refine cm cB ?_;rintro m b4 ⟨⟨dJ,rfl,cP⟩,bm,_,_⟩;obtain⟨⟨de,ai,dC⟩,a6⟩:=bj;obtain⟨cM,⟨dn,on,dp⟩⟩:=de;obtain⟨b1,E⟩:=xE (b4.alloc (.cells #[Pv cM,O3 dn,O3 on,Pj dp] 67));have f:Pn b4 b1:=by rw[E];exact QJ
  have ds:=axj cr (bm.fH f) cn b3 (cP.fH f);have dx:=Y E;clear E;go_wp2_with fail;rw[<-dx.out];refine cm ds ?_;rintro m cg ⟨rfl,z,r,b⟩;obtain⟨au,am,cq⟩:=PW b.lg;obtain⟨aj,aD,cf⟩:=PW b.se;obtain⟨ax,ch⟩:=xE a6.hq.length;obtain⟨ap,bZ⟩:=xE a6.seen.length;rw[<-ch] at cq;rw[<-bZ] at cf;subst cq cf;clear ch bZ;obtain⟨t,bK,ck⟩:=O4 dg;have bY:i<k:=by rw[<-ck];exact fI bK
  have bT:=(b.bw.block i bY).trans bK;have dl:Pn w cg:=t.trans (b.bw.mono (by have:=O4 bS;omega))
  obtain⟨cV,cR,cZ,dc,dm,a,dt⟩:=hK bT;have c8:=a 0;have c9:=a 1;have da:=a 2;have dh:=a 3;have cO:=a 4;have dH:=b.c2;have cS:=b.c3;have cT:=b.c4;have cU:=b.c5;have dI:=b.c6;have dF:=b.lt;have dG:i≠k:=O9;have bU:=Y bT;have cC:=s9 b.lg (show w.heap.size<=k by have:=O4 bS;omega)
  have cy:=s9 b.se (show w.heap.size<=k by have:=O4 bS;omega)
  obtain⟨U,b6⟩:=xH (mf ai);obtain⟨W,bW⟩:=xH (oq a6.M ai);obtain⟨aF,cu⟩:=xH ((a6.steps:Int):Int);rw[<-b6.out] at cS;rw[<-bW.out] at cT;rw[<-cu.out] at cU;clear bK ck bT a bY;go_wp2_with fail;obtain⟨dK,bL⟩:=xE (pm cg i (.slice au ax am) (O3 U) (Pj W) (O3 aF) (.slice aj ap aD));have F:=Kc bU.out (.slice au ax am) (O3 U) (Pj W) (O3 aF) (.slice aj ap aD);have f:=It dl bv.out (.slice au ax am) (O3 U) (Pj W) (O3 aF) (.slice aj ap aD)
  have ba:=Ea cC bU.out Pm (.slice au ax am) (O3 U) (Pj W) (O3 aF) (.slice aj ap aD);have bh:=Ea cy bU.out Pm (.slice au ax am) (O3 U) (Pj W) (O3 aF) (.slice aj ap aD);unfold pm at bL F f ba bh;rw[<-bL] at F f ba bh;rw[<-bL];obtain⟨bx,bq,bo,bC,a7,_,_⟩:=hK F;refine hf (v:=.tuple #[mn (.slice au ax am) (.slice aj ap aD) U aF W,QW]) (by simp[results,results11,go_sem,bx,bq,bo,bC,a7]) rfl ?_;exact⟨f,_,_,by rw[b6.out,bW.out,cu.out],ba,bh⟩
end
end Hp
section
open Go.ChangeShapes Go.WideShapes Go.ChangeAt Go.WideMaps Go.WideElems Go.RowKit
theorem ON : Tryz.prog.globalNamed "errors.errorType" = some 0 := by kernel_rfl
theorem Ki : Tryz.prog.globalNamed "sloppyscope/run.errStopped" = some 1 := by kernel_rfl
theorem W4 : Tryz.prog.globalNamed "internal/strconv.uint64pow10" = some 8 := by kernel_rfl
theorem aH2:(Tryz.prog.globals[1]?).map (·.type)=some 31:=by kernel_rfl
theorem T6:(Tryz.prog.globals[8]?).map (·.type)=some 341:=by kernel_rfl
theorem aH3 : (Tryz.prog.cutTypes.find? (·.1 == "internal/reflectlite.rtype")).map (·.2) = some 215 := by kernel_rfl
theorem pD:((List.range 393).filter λa=>Tryz.prog.rowNamed a [101,114,114,111,114])=[31]:=by kernel_rfl
theorem NG:Tryz.prog.types.size=393:=by kernel_rfl
theorem atf:Tryz.prog.cellsOf 320=1:=by kernel_rfl
theorem PF:Tryz.prog.cellsOf 341=20:=by kernel_rfl
theorem Pf:Tryz.prog.cellsOf 361=1:=by kernel_rfl
theorem Il : "*" ++ "errors.errorString" = "*errors.errorString" := by decide
theorem P0 (a : TypeId) (h : Tryz.prog.typeName? 3 a = some "*errors.errorString") : a = 359 :=
 typeName_ptr_named (nm := "errors.errorString") (by rw [Il]; kernel_rfl) (by kernel_rfl) (by decide) a (by rw [Il]; exact h)
theorem axm:(Rows.laid_internal_strconv_uint64pow10:DataW Unit)=Lib.tabData .u64 Lib.pow10Tab:=rfl
theorem al3:∀ a,a<19->(Ru.getD a ByteArray.empty).size<=3:=by decide +kernel
theorem aot {a : World} (h : handlesMet Tryz.prog [("errors.errorType", Rows.laid_errors_errorType)] a) : Hp.SY a := by
 obtain⟨j,n,k,e,d,f,g,c⟩:=h _ (gc.2 rfl);have m:j=[101,114,114,111,114]:=(gQ e).symm;subst m;obtain rfl:=gQ (aH3.symm.trans d);have b:k ∈ (List.range 393).filter λl=>Tryz.prog.rowNamed l [101,114,114,111,114]:=ls.2 ⟨nh.2 (by rw[<-NG];exact f),g⟩
 rw[pD] at b;obtain rfl:=gc.1 b;have i:typeHandle Tryz.prog 31=.pointer (some ⟨13,31,none⟩):=by kernel_rfl
 rw[i] at c;simpa using World.var?_cell ON c 0
theorem ZF {f:String}{i:DataW Unit}{n:List (String × DataW Unit)}{d:World}(h:laidMet Tryz.prog ((f,i)::n) d):∃ b c a e g,Tryz.prog.globalNamed f=some b/\(Tryz.prog.globals[b]?).map (·.type)=some c/\d.var? Tryz.prog f=some a/\DataW.trod (λ_=>()) Tryz.prog d 0 (λ_=>true) false e c a.toList=some (i,g):=by
 obtain⟨o,⟨b,c,a,e,g,p,m,j,k,l,_⟩,_⟩:=h;exact⟨b,c,a,e,g,m,j,k,l⟩
theorem re {a:Array Value}{b:List Value}(h:a.toList=b):a=b.toArray:=by
 obtain⟨c⟩:=a;exact zalco List.toArray h
abbrev aH4 : List (String × DataW Unit) -> List (String × DataW Unit) := λa => ("sloppyscope/lex.words", Rows.laid_sloppyscope_lex_words) :: ("sloppyscope/lex.signs", Rows.laid_sloppyscope_lex_signs) :: ("sloppyscope/tree.signs", Rows.laid_sloppyscope_tree_signs) :: ("sloppyscope/tree.heads", Rows.laid_sloppyscope_tree_heads) :: a
section
variable {a:World} {b:List (String × DataW Unit)}
include a b
theorem M1 (h:laidMet Tryz.prog (aH4 b) a):Hp.Gl a:=by
 obtain⟨U,ak,L,ah,O,B,t,A,z⟩:=ZF h;obtain⟨P,ai,M,X,aj,s,E,C,H⟩:=ZF h.tail;obtain⟨R,am,I,ac,S,v,q,r,o⟩:=ZF h.tail.tail;obtain⟨W,ap,N,ad,T,n,w,g,F⟩:=ZF h.tail.tail.tail;obtain rfl:=gQ (HY.symm.trans B);obtain rfl:=gQ (K1.symm.trans s);obtain rfl:=gQ (JB.symm.trans v);obtain rfl:=gQ (Hs.symm.trans n);obtain rfl:=gQ (aBP.symm.trans t)
 obtain rfl:=gQ (aBQ.symm.trans E);obtain rfl:=gQ (axn.symm.trans q);obtain rfl:=gQ (axo.symm.trans w);have m:=re (ZU DX rfl z);have l:=re (ZU FY rfl H);have k:=re (VM o);have p:=re (R5 F);obtain⟨u0,c,e⟩:=Wv HY A;obtain⟨u1,i,j⟩:=Wv K1 C;obtain⟨u2,D,f⟩:=Wv JB r;obtain⟨u3,d,u⟩:=Wv Hs g
 exact⟨⟨al4,To,al3,⟨u0,c,by rw[e,m];rfl⟩,⟨u1,i,by rw[j,l];rfl⟩⟩,⟨⟨u3,d,by rw[u,p]⟩,⟨u2,D,by rw[f,k]⟩⟩⟩
theorem azU (h : laidMet Tryz.prog (("internal/strconv.uint64pow10", Rows.laid_internal_strconv_uint64pow10) :: b) a) : Hp.Wj a := by
 obtain⟨i,l,g,k,j,f,d,e,c⟩:=ZF h;obtain rfl:=gQ (W4.symm.trans f);obtain rfl:=gQ (T6.symm.trans d);rw[axm] at c;unfold Hp.Wj Lib.TabIs;rw[e,<-Lib.cells_of_tab Tryz.underlying341 Tryz.underlying320 atf PF c]
theorem avX (h : laidMet Tryz.prog (("sloppyscope/run.errStopped", Rows.laid_sloppyscope_run_errStopped) :: b) a) : ∃ e : Addr, a.cell? ⟨1, 0, none⟩ = some (.iface 359 (.pointer (some e))) := by
 obtain⟨c,f,d,_⟩:=laid_sentinel h Ki aH2 Tryz.underlying31 P0 Tryz.underlying359 Tryz.underlying361 rfl rfl zaldl Pf ji;exact⟨c,by simpa using World.var?_cell Ki d 0⟩
end
theorem aEy {a:World}(g:Hp.Wj a)(e:Hp.SY a)(d:Hp.Gl a)(c:∃ b:Addr,a.cell? ⟨1,0,none⟩=some (.iface 359 (.pointer (some b)))):∃ f b,Hp.Rw a f b:=by
 obtain⟨b,c⟩:=c;exact⟨_,b,rfl,c,e,g,d,by have:=d.li.lt;omega⟩
end
namespace Hp
section
section
variable {a:Tr} {c:Pe} {d:Ending} {b:Pe}
include a c d b
theorem Yg (h:TS c a d b)(g:g5 a false false false=none):Pn c b/\∃ f e,d=PK (.tuple #[mn f e (mf (Rh a).1) (Rh a).2.steps (oq (Rh a).2.M (Rh a).1),QW])/\b.ownsRow c.heap.size 9 1 f (Rh a).2.hq.length ((Rh a).2.hq.map Value.string)/\b.ownsRow c.heap.size 54 2 e (Rh a).2.seen.length ((Rh a).2.seen.flatMap l5):=by
 unfold TS at h;rw[g] at h;exact h
theorem Ox {e:Int}(h:TS c a d b)(f:g5 a false false false=some e):Pn c b/\d=PK (.tuple #[mn Q8 Q8 0 0 ⟨#[]⟩,.iface 34 (O3 e)]):=by
 unfold TS at h;rw[f] at h;exact h
end
end
theorem akZ {a:Tr}(h:l7 a):a.count=1:=by
 rcases h with ⟨b,rfl⟩|⟨c,_,_,rfl⟩|⟨d,_,rfl⟩
 ·
  cases b <;> decide
 all_goals
  rw[Tr.count,PY]
theorem DJ:∀ (i:Nat) (a:Tr),a.count<=i->(PG a).count<=a.count
 | 0,a,h=>by have:=Zr a;omega
 | i+1,a,h=>by
  have f:∀ c:List Tr,(∀ b ∈ c,(PG b).count<=b.count)->Tr.f1 (c.map PG)<=Tr.f1 c:=λc=>by
   induction c with
   | nil=>intro _;exact g9 _
   | cons k p l=>
    intro h;rw[gW,PS,PS];have m:=h k gf;have d:=l λb f=>h b (gE _ f);omega
  have j:∀ b ∈ a.fJ,(PG b).count<=b.count:=λb e=>DJ i b (by have:=y1 e;omega)
  have n:a.count=1+Tr.f1 a.fJ:=by cases a with|mk o r q c=>exact fW _ _ _ _
  rcases qU a with g|⟨_,d|d,_⟩
  ·rw[g,fW];have:=f a.fJ j;omega
  ·rw[akZ d];omega
  ·obtain⟨b,e,g⟩:=hy.1 d;rw[<-g];have m:=j b e;have k:=y1 e;omega
section
variable {b7:Px} {k f:Pe} {b6:Addr}
theorem LP (n:Rw k b7 b6){a:Tr}{c:Nat}{g:Nat->Prop}(b:TW 9 a)(e:a.count<=1500)(m:Qa g k a c):Pq 11 #[O5 c] k (TS k a):=by
 obtain⟨d,rfl,rfl,l,i,_⟩:=Qa.ad a c m;exact aEu n (Tf.mono (λ_ _ _=>trivial) _ l) i (λj=>(⟨b,e,sb _ _ _ _ j⟩:Nk 9 d.tr).bk O9) (by generalize d.tr=a at b;cases b;rfl) b.kr e
theorem J3 {i:Tr}{k:Pe}{b:Ending}{f:Pe}(h:TS k i b f):Pn k f/\∃ e q d c p g m r x n,b=PK (.tuple #[mn (.slice e q d) (.slice c p g) m r x,n]):=by
 unfold TS at h;refine⟨h.1,?_⟩
 cases a:g5 i false false false with
 | some j=>rw[a] at h;exact⟨_,_,_,_,_,_,_,_,_,_,h.2⟩
 | none=>
  rw[a] at h;obtain⟨_,t,s,o,j,l⟩:=h;obtain⟨e,d,rfl⟩:=PW j;obtain⟨c,g,rfl⟩:=PW l;exact⟨_,_,_,_,_,_,_,_,_,_,o⟩
theorem aq4 {a:Tr}(e:TW 9 a)(l:a.count<=1500)(j:g5 a false false false=none):mf (Rh a).1=3\/(mf (Rh (PG a)).1=mf (Rh a).1/\mf (Rh a).1≠3/\oq (Rh (PG a)).2.M (Rh (PG a)).1=oq (Rh a).2.M (Rh a).1/\(Rh (PG a)).2.hq=(Rh a).2.hq/\(Rh (PG a)).2.steps<=(Rh a).2.steps):=by
 have i:Bk a:=(⟨e,l,sb _ _ _ _ j⟩:Nk 9 a).bk O9;have d:=(xU i).1
 rcases Ty e with h|⟨g,b⟩
 ·left;rw[h];rfl
 ·
  cases c:(Rh a).1 with
  | stop=>left;rfl
  | ir=>rw[c] at d;exact d.elim
  | no=>right;rw[g,c];exact⟨rfl,by decide,by rw[b.m],b.l,b.s⟩
  | Yq m=>right;rw[g,c];exact⟨rfl,by intro h;exact absurd h (by simp[mf]),by rw[b.m],b.l,b.s⟩
theorem ak0 (a1:Py)(L:Rw k b7 b6)(bO:VQ k)(bN:∀ a,Pn k a->Pq 24 #[] a λc f=>c=PK (Pv true)/\Pn a f):Pq 8 #[Pj a1] k λc f=>c=PK (Pv true)/\Pn k f:=by
 have ad:=LC RH Ru a1 k L.gl.li Xb L.gl.ta;have be:=Y bN;clear bN
 cases I:TD RH Ru a1 with
 | ok b=>
  rw[I] at ad;have a6:=ad;have H:TW 9 b:=xl Xb I;have T:=(Zu I).2;have B:(PG b).count<=1500:=f9 (DJ _ b (g9 _)) T;have bq:=Tz H;have cE:=Y (λa m q (t:Pn k a) (j:Qa q a b m)=>wF b.count b (g9 _) O9 H m a (Qa.mono (λ_ _ _=>trivial) _ _ j) (bO.fH t) (L.fH t).tb)
  have bS:=Y (λa m q (t:Pn k a) (j:Qa q a (PG b) m)=>wF (PG b).count (PG b) (g9 _) O9 bq m a (Qa.mono (λ_ _ _=>trivial) _ _ j) (bO.fH t) (L.fH t).tb);rw[BB] at bS;have cr:=Y (λa m E q l (j:Qa q a (PG b) m) (p:Qa l a (PG b) E)=>aq5 q l (PG b).count (PG b) (g9 _) O9 m E a j p);have cB:=Y (λa m q (t:Pn k a) (j:Qa q a b m)=>LP (L.fH t) H T j);have bY:=Y (λa m q (t:Pn k a) (j:Qa q a (PG b) m)=>LP (L.fH t) bq B j)
  have cp:=Y (Ba (c:=false) (b:=false) (d:=false) _ (g9 b.count) H);have b9:=Y (aq4 H T);have ch:=Y (λ(r:g5 b false false false=none)=>(xU ((⟨H,T,sb _ _ _ _ r⟩:Nk 9 b).bk O9)).2);clear I T B
  cases r:g5 b false false false with
  | some p=>
   have l:=Y r
   generalize PG b=v at *
   clear r;have N{G}(h:G:=by
   obtain⟨ax,rfl⟩:=Ox a8 l.out;obtain⟨F,u⟩:=xE (O.alloc (.cells #[Q8,O3 0,Qn,O3 0,Q8] 29));have b3{G}(h:G:=by
   have bj:=Y u;clear u;go_wp2_with fail;rw[<-bj.out];refine cm (O4 bY F E _ w b2.out) ?_;intro c ap au;obtain⟨A,e,aW,d,g,o,i,n,s,x,ci,rfl⟩:=J3 au;have U:=w.trans (A.mono w.size);go_wp2;go_ret;exact⟨rfl,U.alloc U.size _⟩):=O6 h;exact GZ):=O6 h;exact yq
  | none=>
   have B:=O4 cp r;have bI:=O4 b9 r;have cl:=O4 ch r;obtain⟨n,ac⟩:=xE (mf (Rh b).1);obtain⟨x,X⟩:=xE (oq (Rh b).2.M (Rh b).1);obtain⟨s,j⟩:=xE ((Rh b).2.steps);obtain⟨p,P⟩:=xE ((Rh b).2.hq);have bM:p.length<=1000000000:=by have:=cl.lg;rw[P];omega
   have bn:Hid (∀ a c f,TS a b c f->Pn a f/\∃ e d g o i,c=PK (.tuple #[mn (.slice e p.length d) (.slice g o i) n s x,QW])/\SQ a.heap.size f (.slice e p.length d) p):=λa c f h=>by
    obtain⟨S,bA,bz,z,l,aF⟩:=Yg h r;obtain⟨g,i,rfl⟩:=PW aF;rw[<-ac,<-X,<-j] at z;rw[<-P] at l;obtain⟨e,d,rfl⟩:=PW l;exact⟨S,e,d,g,_,i,z,l⟩
   rw[<-ac,<-X,<-j,<-P] at bI
   generalize PG b=v at *
   rcases bI with l|l
   ·have M:Hid (∀ a c f,TS a v c f->Pn a f/\∃ e aW d g o i n s x,c=PK (.tuple #[mn (.slice e aW d) (.slice g o i) n s x,QW])):=λa c f h=>by
     obtain⟨S,e,aW,d,g,o,i,n,s,x,ci,rfl⟩:=J3 h;obtain⟨_,bA,bz,z,_⟩:=Yg h B;have l:=z;simp at l;rw[l.2];exact⟨S,_,_,_,_,_,_,_,_,_,rfl⟩
    clear ac X j P B r bM;have ah:n=3:=l;subst ah;have N{G}(h:G:=by
    obtain⟨ax,e,d,g,o,i,rfl,b0⟩:=O4 bn _ _ _ a8;obtain⟨F,u⟩:=xE (O.alloc (.cells #[.slice e p.length d,O3 3,Pj x,O3 s,.slice g o i] 29));have bi:F.heap[O.heap.size]? = some (PZ #[.slice e p.length d,O3 3,Pj x,O3 s,.slice g o i] 29):=by rw[u];exact Ph _ _
    have N{G}(h:G:=by
    obtain⟨A,aj,ay,ai,aD,l5,aY,bE,R,bF,rfl⟩:=O4 M _ _ _ au;have U:=w.trans (A.mono w.size);obtain⟨aI,aG,aJ,aL,aV,_,aZ⟩:=hK (fQ A bZ.out);go_wp2;go_ret;exact⟨rfl,U.alloc U.size _⟩):=O6 h;exact AX):=O6 h;exact yq
   ·obtain⟨bE,aN⟩:=xE (mf (Rh v).1);obtain⟨bF,aK⟩:=xE (oq (Rh v).2.M (Rh v).1);obtain⟨R,aU⟩:=xE ((Rh v).2.steps);obtain⟨aQ,aO⟩:=xE ((Rh v).2.hq);have M:∀ a c f,TS a v c f->Pn a f/\∃ e d g o i,c=PK (.tuple #[mn (.slice e aQ.length d) (.slice g o i) bE R bF,QW])/\SQ a.heap.size f (.slice e aQ.length d) aQ:=λa c f h=>by
     obtain⟨S,bA,bz,z,l,aF⟩:=Yg h B;obtain⟨g,i,rfl⟩:=PW aF;rw[<-aN,<-aK,<-aU] at z;rw[<-aO] at l;obtain⟨e,d,rfl⟩:=PW l;exact⟨S,e,d,g,_,i,z,l⟩
    rw[<-aN,<-aK,<-aU,<-aO] at l;clear ac X j P B r aN aK aU aO;obtain⟨bB,bx,bH,bL,cn⟩:=l;rw[bB,bH,bL] at M;have cM:(n==3)=false:=jx.2 λx=>bx (iH x);have cO:(n==n)=true:=lB _;have cP:(x.toList==x.toList)=true:=lB _;have cK:(R:Int)<=(s:Int):=O9;clear bB bx bH bL cn;have M:=Y M;have N{G}(h:G:=by
    obtain⟨ax,e,d,g,o,i,rfl,b0⟩:=O4 bn _ _ _ a8;obtain⟨F,u⟩:=xE (O.alloc (.cells #[.slice e p.length d,O3 n,Pj x,O3 s,.slice g o i] 29));have bi:F.heap[O.heap.size]? = some (PZ #[.slice e p.length d,O3 n,Pj x,O3 s,.slice g o i] 29):=by rw[u];exact Ph _ _
    have N{G}(h:G:=by
    obtain⟨A,aj,ai,aD,l5,aY,rfl,b8⟩:=O4 M _ _ _ au;obtain⟨aS,ah⟩:=xE (ap.alloc (.cells #[.slice aj p.length ai,O3 n,Pj x,O3 R,.slice aD l5 aY] 29));have aX:aS.heap[ap.heap.size]? = some (PZ #[.slice aj p.length ai,O3 n,Pj x,O3 R,.slice aD l5 aY] 29):=by rw[ah];exact Ph _ _
    have bQ:Pn ap aS:=by rw[ah];exact QJ
    have aC:=A.trans (bQ.mono A.size);have br:=w.trans (aC.mono w.size);have bu:=Y (fQ aC bZ.out);have cg:=Y aX;have ck:=avV (d:=0) (f:=0) p (.slice e p.length d) (.slice aj p.length ai) aS (Qg cI aC) (s9 (Qg b8 bQ) (f3 _)) bM;have cq:=Y ah;obtain⟨aI,aG,aJ,aL,aV,_,aZ⟩:=hK bu.out;obtain⟨bG,bD,bC,bK,bo,_,bv⟩:=hK aX;clear ah aX
    go_wp2_with (rw[<-cq.out])
    refine cm ck ?_;rintro c cL ⟨rfl,ay⟩;have cf:=br.trans (ay.mono br.size);clear aI aG aJ aL aV aZ bG bD bC bK bo bv;obtain⟨aI,aG,aJ,aL,aV,_,aZ⟩:=hK (fQ ay bu.out);obtain⟨bG,bD,bC,bK,bo,_,bv⟩:=hK (fQ ay cg.out);go_wp2;go_ret;exact⟨rfl,cf⟩):=O6 h;exact AX):=O6 h;exact yq
 | _=>
  rw[I] at ad;have a6:=ad;clear I;go_enter func8,ntmps8;go_wp2_with fail;refine cm a6 ?_;rintro c bf ⟨rfl,a7⟩;have D:=a7;go_wp2_with fail;refine cm (O4 be bf D) ?_;rintro c bh ⟨rfl,ak⟩;have C:=D.trans (ak.mono D.size);go_wp2_with fail;refine cm (O4 be bh C) ?_;rintro c bR ⟨rfl,am⟩;have W:=C.trans (am.mono C.size);go_wp2;go_ret;exact⟨rfl,W⟩
end
end Hp
section
open Go.ChangeShapes Go.WideShapes Go.ChangeAt Go.WideMaps Go.WideElems Go.RowKit
theorem CY : Tryz.prog.globalNamed "sloppyscope/fold.literals" = some 5 := by kernel_rfl
theorem aH0:(Tryz.prog.globals[5]?).map (·.type)=some 289:=by kernel_rfl
theorem BL:Tryz.prog.cellsOf 245=3:=by kernel_rfl
theorem Mc:Tryz.prog.cellsOf 289=18:=by kernel_rfl
theorem Pk {a:List Value}(i:a.length=3){c d e:Value}(f:(a.drop 0).take 1=[c])(g:(a.drop 1).take 1=[d])(b:(a.drop 2).take 1=[e]):a=[c,d,e]:=by
 match a,i with
 | [x,y,j],_=>simp at f g b;rw[f,g,b]
def yD (a:Int)(b c:List UInt8):DataW Unit:=.agg [.lit (.int .i64 a),.lit (.string b),.lit (.string c)]
def Id:List (Int × List UInt8 × List UInt8):=Hp.xj.map λa=>(a.1,a.2.1.data.toList,a.2.2.data.toList)
section
variable {g:World} {fuel:Nat} {a:List Value}
include g fuel a
theorem aH1 {d:Int}{n o:List UInt8}{s:List MemPlace}(h:DataW.trod (λ_=>()) Tryz.prog g 0 (λ_=>true) false fuel 245 a=some (yD d n o,s)) :
  a=[.int .i64 d,.string (ofBytes n),.string (ofBytes o)]:=by
 obtain⟨A,z,_,b,l,t,c⟩:=mz Tryz.underlying245 h;simp only[io,yD,iW] at b;rw[BL] at l;obtain⟨w,r⟩:=XP b.1 0 _ rfl;obtain⟨v,p⟩:=XP b.1 1 _ rfl;obtain⟨u,q⟩:=XP b.1 2 _ rfl;have m:=c 0 _ rfl;have j:=c 1 _ rfl;have k:=c 2 _ rfl;rw[r] at m;rw[p] at j;rw[q] at k;have i:(a.drop 0).take (Tryz.prog.cellsOf 3)=_:=rS m;have e:(a.drop 1).take (Tryz.prog.cellsOf 9)=_:=iP j;have f:(a.drop 2).take (Tryz.prog.cellsOf 9)=_:=iP k
 rw[xx] at i;rw[ji] at e f;exact Pk l i e f
theorem Nh {n:List MemPlace}(h:DataW.trod (λ_=>()) Tryz.prog g 0 (λ_=>true) false fuel 289 a=some (.agg (Id.map λd=>yD d.1 d.2.1 d.2.2),n)):a=Hp.rO.toList:=by
 obtain⟨r,q,_,f,i,p,l⟩:=DataW.trod_array Tryz.underlying289 h;simp only[io,iW] at f;rw[Mc] at i;have m:a=(Id.map λd=>[Value.int .i64 d.1,Value.string (ofBytes d.2.1),.string (ofBytes d.2.2)]).flatten:=by
  refine ZE 3 Pm _ a ?_ (by rw[i];rfl) ?_
  ·intro c b;obtain⟨d,_,rfl⟩:=hy.1 b;rfl
  ·intro e c;rw[gu] at c;have k:e<6:=c;have b:=l e k;rw[BL] at b;have j{G}(h:G:=by
   rw[aH1 b,j6]):=O6 h;exact yS
 rw[m];rfl
end
theorem Sq {a : World} {j : List (String × DataW Unit)} (h : laidMet Tryz.prog (("sloppyscope/fold.literals", Rows.laid_sloppyscope_fold_literals) :: j) a) : Hp.VQ a := by
 obtain⟨l,o,k,n,m,i,f,g,e⟩:=ZF h;obtain rfl:=gQ (CY.symm.trans i);obtain rfl:=gQ (aH0.symm.trans f);have d:=re (Nh e);obtain⟨u0,b,c⟩:=Wv CY g;exact⟨u0,b,by rw[c,d]⟩
theorem aiG (d:ByteArray){a:World}{j:Value}{i:Addr}(h:Hp.Rw a j i)(c:Hp.VQ a):Pq 8 #[.string d] a λg e=>g=PK (Pv true)/\Pn a e:=
 Hp.ak0 d h c λf b=>akN f (h.fH b).gl.li (h.fH b).gl.ta (h.fH b).tb (c.fH b)
