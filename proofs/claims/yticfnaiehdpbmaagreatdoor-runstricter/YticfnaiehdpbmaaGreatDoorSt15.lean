import Derived.Test.YticfnaiehdpbmaaGreatDoorSt13
import Derived.Test.YticfnaiehdpbmaaGreatDoorSt14
set_option maxRecDepth 100000
set_option maxHeartbeats 8000000
set_option linter.all false
namespace Go.Proofs.YticfnaiehdpbmaaGreatDoor
open Go.RowKit Go.Proofs.Tryz
namespace Hp
structure Cx (w0:Og)(mb af:Nat)(O:List Nat)(es:Ot)(eb:Addr):Prop where
 b:Bs w0 mb af O es
 st:Stp w0 mb es eb
 tb:Y1 w0
 gl:Gl w0
structure QQ (f:Nat)(N:Int)(p:Pl)(σ:St):Prop where
 q:Q f N p σ
 bd:N<=99000000+10 * σ.steps
structure FC (w0:Og)(mb af:Nat)(O:List Nat)(es:Ot)(F:Fx)(f:Nat):Prop where
 v:∀ {N d p σ},QQ f N p σ->Nk 0 d.2->Tt w0 mb af O es σ d p (F.v d p σ)
 s:∀ {N d p l σ L},QQ f N p σ->Nk 1 d.2->(Pj d.2=true->K4 σ.M p.scope d.2.tx)->Lg σ l->(∀ b,L=some b->mb<=b)->Xq w0 mb af O es σ d p L l (F.s d p l σ)
section
variable {L:Og} {t J:Nat} {A:List Nat} {M:Ot} {aL:Addr} {w:Og} {σ σ1:St} {m aD:Int} {F:Fx} {j:Nat} {p:Pl} {d:Nd} {l:Option Va} {Y:Option Nat} {v:Va} {e:Er} {o:Oc}
section
variable (h:QQ j m p σ)
include h
def QQ.next (a:VO m σ ((v,.no),σ1)):QQ j m p σ1:=⟨h.q.next a,by have:=h.bd;have:=a.ex.st;dsimp only at this;omega⟩
def QQ.nexts (a:SO m σ ((o,.no,l),σ1)):QQ j m p σ1:=⟨h.q.nexts a,by have:=h.bd;have:=a.ex.st;dsimp only at this;omega⟩
def QQ.nx (a:Nx aD σ σ1)(b:aD<=99000000+10 * σ.steps):QQ j aD p σ1:=⟨h.q.nx a,by rw[a.st];exact b⟩
end
def QQ.step (h:QQ (j+1) m p σ)(a:¬ 20000<σ.step.steps):QQ j (m - 10000) p σ.step:=⟨h.q.step a,by have:=h.bd;show m - 10000<=99000000+10 * ((σ.steps+1:Nat):Int);omega⟩
def Iv.sz (h:Iv m σ)(k:m<=99000000+10 * σ.steps)(ab:σ.steps<=20001):Sz 400000000 σ:=by
 obtain⟨n,f,g⟩:=h.pz;exact f.up Oe
def Eo.le (h:Eo σ e):σ.steps<=20001:=by
 cases e with
 | no=>exact Nat.le_succ_of_le h
 | stop=>exact Nat.le_of_eq h
 | X8 v=>exact Nat.le_succ_of_le h.1
 | mis=>exact h.elim
def QQ.sz (h:QQ j m p σ):Sz 400000000 σ:=h.q.iv.sz h.bd (by have:=h.q.st;omega)
def VO.sz {a:(Va × Er) × St}(h:VO m σ a)(b:m<=99000000+10 * σ.steps):Sz 400000000 a.2:=h.iv.sz (by have:=h.ex.st;omega) h.er.le
def ae4 {c:Nat}{a:Mo}{v:Va}(h:Gv c v)(g:c<=400000000):(a.shw v).size<=3000/\(-1000000000<=v.n/\v.n<=1000000000):=by
 have f:-1000000000<=v.n/\v.n<=1000000000:=by
  by_cases b:v.k=5
  ·have:=h.r b;omega
  ·exact h.n b
 refine⟨?_,f⟩;unfold Mo.shw
 split
 ·decide
 split
 ·decide
 split
 ·split <;> decide
 split
 ·have:=Lib.itoa_length_le v.n Oe Oe
  show (List.toArray _).size<=3000
  rw[List.size_toArray];omega
 split
 ·exact h.s
 split
 ·split <;> decide
 ·decide
def axg (k:Cx L t J A M aL)(R:FI F j)(N:FC L t J A M F j)(h:QQ (j+1) m p σ)(I:Nk 0 d.2)
  (a8:d.2.kd=35->∀ E a g,Ms L t J A E σ.step->OJ A E a d->QQ j (m - 10000) p σ.step->Oq 263 #[N7 t,N7 a.p,PD p g] E (OQ L t J A M E (XF F d p σ.step))):Tt L t J A M σ d p (YB F d p σ):=by
 intro ba a g B C;have ab:=k.st.WC;have D:=h.q.st
 by_cases f:σ.steps<20000
 ·have q:=h.step (show ¬ 20000<σ.steps+1 by omega);have X:=q.sz;have bi:=q.bd
  by_cases aM:d.2.kd=17
  ·rw[akx f aM];exact value_num k.st B C aM D f p g
  by_cases aN:d.2.kd=18
  ·rw[ag8 f aN];exact amu k.st B C aN D f p g
  by_cases aQ:d.2.kd=19
  ·rw[aky f aQ];exact ai5 k.st B C aQ D f p g
  by_cases aR:d.2.kd=20
  ·rw[akz f aR];exact agS k.st B C aR D f p g
  by_cases aS:d.2.kd=21
  ·rw[akA f aS];exact ai6 k.st B C aS D f p g
  by_cases aG:d.2.kd=23
  ·rw[akB f aG];exact ai1 k.st B C aG D f p g λE r u=>awg k.b r X Oe u p g
  by_cases aH:d.2.kd=24
  ·have O:=(I.Xb Oe).1;have s:=I.ajd Oe;rw[akC f aH];refine aeS k.st B C aH D f p g λE r u=>?_
   by_cases W:(Oa d 0).2.kd=36
   ·have aj:aeA F d p σ.step=aeI F (Oa d 0) (Oa d 1) p σ.step:=if_pos W;rw[aj];have ak:=(O.Xb Oe).1;have H:=(R.v q.q ak).1;refine aaR ab r u s.2 p g W (O.one1 Oe) (N.v q ak) (λae σ1 aa=>?_) (λae σ1 aX aW aa aJ=>?_) (N:=400000000) Oe
    ·rw[aa] at H;exact N.v (q.next H) s.1
    ·rw[aa] at H;have ah:=(R.v (q.next H).q s.1).1;rw[aJ] at ah;exact ah.sz (q.next H).bd
   ·have aj:aeA F d p σ.step=asE F (Oa d 0) (Oa d 1) p σ.step:=if_neg W;rw[aj];have U:=q.q.iv.look (Oa d 0) p;have ak:=q.nx U (by have:=h.bd;show m - 10000+1<=99000000+10 * ((σ.steps+1:Nat):Int);omega)
    refine aaS ab k.b k.st.et r u s.2 p g W (N.v ak s.1) X (λae σ1 aa=>?_) Oe;have ah:=(R.v ak.q s.1).1;rw[aa] at ah;exact ah.sz ak.bd
  by_cases aw:d.2.kd=25
  ·have O:=(I.Xb Oe).1;have s:=I.ajd Oe;rw[akD f aw];refine aph k.st B C aw D f p g λE r u=>amb ab r u s.2 aw p g (N.v q O) λae σ1 aa=>?_;have H:=(R.v q.q O).1;rw[aa] at H;exact N.v (q.next H) s.1
  by_cases aE:d.2.kd=26
  ·have O:=(I.Xb Oe).1;have s:=I.ajd Oe;rw[akE f aE];refine amn k.st B C aE D f p g λE r u=>amc ab r u s.2 aE p g (N.v q O) λae σ1 aa=>?_;have H:=(R.v q.q O).1;rw[aa] at H;exact N.v (q.next H) s.1
  by_cases a7:27<=d.2.kd/\d.2.kd<=31
  ·have s:=I.ajd Oe;have aj:=I.adL a7;have ah:∀ E,Ms L t J A E σ.step->OJ A E a d->Oq 259 #[N7 t,N7 a.p,PD p g] E (OQ L t J A M E (YF F d p σ.step)):=λE r u=>by
    refine awC ab k.b k.tb r u s.2 p g (λV=>QQ j (m - 10000) p V) q (λaJ aW V T=>⟨N.v T (aj aJ aW),λv σ1 aa=>?_⟩) (λae aX σ1 aa=>?_)
    ·have H:=(R.v T.q (aj aJ aW)).1;rw[aa] at H;exact T.next H
    ·have U:=ab7 R (Px d) [] q.q aj (λ_ h=>by cases h);rw[aa] at U;have ak:=(U.iv.sz (by have:=U.ex.st;dsimp only at this ⊢;omega) U.er.le).go.sm.o
     have a6:=ae4 (a:=σ1.M) (U.va ae List.mem_cons_self) ak;have a1:=ae4 (a:=σ1.M) (U.va aX (List.mem_cons_of_mem _ List.mem_cons_self)) ak;exact⟨a6.2,a1.2,by omega,by omega⟩
   obtain z|z|z|z|z:d.2.kd=27\/d.2.kd=28\/d.2.kd=29\/d.2.kd=30\/d.2.kd=31:=Oe
   ·rw[akF f z];exact ai2 k.st B C z D f p g ah
   ·rw[akG f z];exact ai3 k.st B C z D f p g ah
   ·rw[akH f z];exact amo k.st B C z D f p g ah
   ·rw[akI f z];exact amq k.st B C z D f p g ah
   ·rw[akJ f z];exact amr k.st B C z D f p g ah
  by_cases aU:d.2.kd=32
  ·rw[akK f aU];exact ams k.st B C aU D f p g λE r u=>aA9 ab r u (I.one1 Oe) p g (N.v q (I.Xb Oe).1)
  by_cases aV:d.2.kd=33
  ·rw[akL f aV];exact aeT k.st B C aV D f p g λE r u=>ao2 ab r u (I.one1 Oe) p g (N.v q (I.Xb Oe).1) X Oe
  by_cases aI:d.2.kd=34
  ·have O:=(I.Xb Oe).1;rw[akM f aI];refine aeU k.st B C aI D f p g λE r u=>ao1 ab r u (I.one1 Oe) p g (N.v q O) (λz=>O.one1 Oe) (λz=>N.v q (O.Xb Oe).1) X ?_ Oe;intro z o σ1 aa;have⟨s,ad,ag,_⟩:=aal R q.q (d:=Oa (Oa d 0) 0) (O.Xb Oe).1;rw[aa] at s ad ag;exact s.sz (by have:=ad.st;dsimp only at this ⊢;omega) ag.le
  by_cases aq:d.2.kd=35
  ·rw[akN f aq];exact ai4 k.st B C aq D f p g λE r u=>a8 aq E a g r u q
  by_cases W:d.2.kd=36
  ·rw[akO f W];refine aeV k.st B C W D f p g λE r u=>aoX ab r u (I.one1 Oe) p g (N.v q (I.Xb Oe).1) (λo σ1 aa=>?_) (N:=400000000) Oe;have⟨s,ad,ag,_⟩:=aal R q.q (d:=Oa d 0) (I.Xb Oe).1;rw[aa] at s ad ag;exact s.sz (by have:=ad.st;dsimp only at this ⊢;omega) ag.le
  by_cases au:d.2.kd=37
  ·rw[akP f au];refine aeX k.st B C au D f p g λE r u=>?_;obtain⟨bh,bc,bb,be,ah⟩:=r;obtain⟨_,_,_,_,_,aJ,_,_⟩:=(I.lam au).sh;refine(aoL k.b ah X u (by rw[aJ];rfl) Oe p g q.q.po.some).mono ?_
   rintro e aW ⟨rfl,a1,a6,ak,aj⟩;exact⟨rfl,⟨_,_,_,_,ak⟩,aj.frL ah⟩
  by_cases av:d.2.kd=38
  ·have⟨s,ad⟩:=I.obj av;rw[akQ f av];refine aeW k.st B C av D f p g λE r u=>?_;have ak:=q.q.iv.OY (c:=0) Oe;refine amh ab r X Oe u Oe (λz ah=>(s z ah).2) p g (λV=>QQ j (m - 9999+(V.steps - σ.step.steps)) p V/\σ.step.steps<=V.steps) ⟨q.nx (ak.up (by show _<=m - 9999+((σ.step.steps:Int) - σ.step.steps);omega)) (by have:=h.bd;show m - 9999+((σ.step.steps:Int) - σ.step.steps)<=99000000+10 * ((σ.steps+1:Nat):Int);omega),Pg⟩ (λz ah V T=>⟨N.v T.1 (s z ah).1,λv σ1 aa=>?_⟩)
   have⟨H,aj⟩:=R.v T.1.q (s z ah).1;rw[aa] at H aj
   dsimp only at aj
   have aJ:=H.iv.put H.va σ.step.M.objs.length z.2.tx false;have a6:=T.2;have aW:=h.bd;have M:(σ1.Qx σ.step.M.objs.length z.2.tx v false).steps=σ1.steps:=rfl;have a1:σ.step.steps=σ.steps+1:=rfl;refine⟨H.sz T.1.bd,⟨(T.1.next H).q.nx (aJ.up ?_),?_⟩,by rw[M];omega⟩
   all_goals
    rw[M];omega
  rw[akR f Oe];exact agT k.st B C Oe D f p g
 ·rw[ae5 f];exact ai0 k.st B C D Oe p g
def EPost.x {n:Nat}{k:Array Ot}{f:Er × St}(s:OE w Y l)(h:Oq n k w (EPost L t J A M w f)):Oq n k w (Zy L t J A M Y w ((f.1,l),f.2)):=by
 refine h.mono ?_;rintro e u ⟨r,q,g⟩;exact⟨r,q,g.up,s.keep g⟩
def aje {a:Tr}(h:Fg a):a.kids.length=2:=by
 obtain⟨_,_,_,_,_,rfl,_,_⟩:=h.sh;rfl
def Z.cq (h:Z j m p σ o (.X8 v) l):Nx (m+2) σ ((σ.opn p.scope (-1) (own d)).dec σ.top d.2.tx 0 v)/\Q j (m+2) { p with scope:=σ.top } ((σ.opn p.scope (-1) (own d)).dec σ.top d.2.tx 0 v):=by
 have z:=N8 (∀{G}(h:G:=by
 exact⟨f4.up Oe,by rw[f4.st];exact ag.fu,by rw[f4.st];exact ag.st,f4.iv.up Oe,ky⟩),G);exact aCR
def apA (f:FI F j)(h:Z j m p σ o e l)(q:Nk 1 (Oa d 0).2)(g:Pj (Oa d 0).2=false):UU F d p o e l σ=((o,e,l),σ)\/σ.steps<(UU F d p o e l σ).2.steps:=by
 unfold UU
 split
 ·unfold XJ
  cases e with
  | X8 v=>
   have⟨u,s⟩:=h.cq (d:=d);exact .inr (f.s s q (λe=>by rw[g] at e;cases e) (h.la.up u.ex)).2
  | _=>exact .inl rfl
 ·by_cases ao:e=.stop
  ·subst ao;exact .inl rfl
  ·right;have hw:=(f.s (h.q ao) q (λe=>by rw[g] at e;cases e) h.la).2
   have z:=N8 (∀{G}(h:G:=by
   cases aw with
   | no=>
    simp only
    split <;> exact hw
   | _=>exact hw),G);exact aCS
def axh (B:Cx L t J A M aL)(X:FI F j)(E:FC L t J A M F j)(h:QQ (j+1) m p σ)(ba:Nk 1 d.2)(bc:Lg σ l)(ag:∀ b,Y=some b->t<=b):Xq L t J A M σ d p Y l (stF F j d p l σ):=by
 intro bi a N O U;have ab:=B.st.WC;have T:=h.q.st
 by_cases s:σ.steps<20000
 ·have g:=h.step (show ¬ 20000<σ.steps+1 by omega);have aW:=g.sz;have bm:=g.bd;have be:=h.bd;have ak:Lg σ.step l:=bc;have bh:σ.step.steps=σ.steps+1:=rfl
  cases ba.sk with
  | decl f W aj=>
   by_cases V:d.2.kd=2
   ·rw[atd s V]
    by_cases aq:d.2.kids.length=0
    ·rw[if_pos aq];exact YM B.st N O V T s p U λH q r u=>EPost.x u (aeN q r aq p (LA Y))
    ·rw[if_neg aq];have aH:(Oa d 0) ∈ Px d:=aCT
     have D:=(X.v g.q (aj _ aH)).1;refine YM B.st N O V T s p U λH q r u=>EPost.x u (ac9 ab q r Oe p (LA Y) (E.v g (aj _ aH)) B.b B.st.et aW (λaU σ1 aa=>?_) Oe);rw[aa] at D;exact D.sz g.bd
   ·have aq:∀ H,Ms L t J A H σ.step->OJ A H a d->OE H Y l->Oq 109 #[N7 t,N7 a.p,PD p (LA Y)] H (Zy L t J A M Y H (((Zx d p (Tq F (Px d) p σ.step)).1,l),(Zx d p (Tq F (Px d) p σ.step)).2)):=λH q r u=>by
     have D:=ajf X g.q aj;refine EPost.x u (asO ab q r W p (LA Y) (λaS f=>E.v g (aj aS f)) (λaU σ1 aa=>?_) (N:=400000000) Oe);rw[aa] at D;exact D.sz g.bd
    rcases f with k|k|k
    ·exact absurd k V
    ·rw[axi s k];exact adb B.st N O k T s p U aq
    ·rw[axj s k];exact aaX B.st N O k T s p U aq
  | func f=>rw[adQ s Oe];exact YN B.st N O Oe T s p U
  | empty f=>rw[adQ s Oe];exact YN B.st N O Oe T s p U
  | blk f V=>
   rw[ate s f];have⟨ah,aG,aN⟩:=g.q.iv.block V g.q.po;have aR:QQ j (m - 10000+5000) (Ph d p σ.step).1 (Ph d p σ.step).2:=⟨⟨by rw[ah.st];exact g.q.fu,by rw[ah.st];exact g.q.st,ah.iv,aG⟩,by rw[ah.st];omega⟩
   refine aaZ B.st N O f T s p U (λH q r=>?_) (λH bb q aM r u=>?_) (E:=(Ph d p σ.step).1) (I:=(Ph d p σ.step).2)
   ·obtain⟨bj,a7,a6,a8,aI⟩:=q;refine(atf B.b aI aW r V.ct Oe (λk f=>(aje (Y5 V k f))) p (LA Y) g.q.po.some).mono ?_;rintro e aV ⟨rfl,aX,a1,aw,aq⟩;exact⟨rfl,⟨_,_,_,_,aw⟩,aq.frL aI⟩
   ·refine Zz ab q aM r ?_ _ u (λae au=>QQ j (m - 10000+5000) (Ph d p σ.step).1 ae/\Lg ae au/\∀ k ∈ Px d,Pj k.2=true->K4 ae.M (Ph d p σ.step).1.scope k.2.tx) ⟨aR,ak.up ah.ex,aN⟩ (λk f ae au hP=>?_)
    ·have:=V.ct;have:=QO d.2;rw[RG];omega
    ·obtain⟨ad,aJ,aE⟩:=hP;have gk:=V.ks _ (Qh f);refine⟨E.s ad gk (aE k f) aJ ag,λo aQ σ1 aa=>?_⟩;have I:=(X.s ad.q gk (aE k f) aJ).1;rw[aa] at I;exact⟨ad.nexts I,I.la,λk f az=>I.ex.k4 _ _ (aE k f az)⟩
  | sif f W R ad av aJ=>
   rw[atg s f];have D:=(X.v g.q R).1;refine aeR B.st N O f T s p U λH q r u=>?_
   rcases W with k|k
   ·refine ao8 ab q r k p u (E.v g R) λaU σ1 aa=>?_;rw[aa] at D;exact E.s (g.next D) ad (λe=>by rw[av] at e;cases e) (ak.up D.ex) ag
   ·have⟨aE,V⟩:=aJ k;refine apa ab q r k p u (E.v g R) λaU σ1 aa=>?_;rw[aa] at D;exact⟨E.s (g.next D) ad (λe=>by rw[av] at e;cases e) (ak.up D.ex) ag,E.s (g.next D) aE (λe=>by rw[V] at e;cases e) (ak.up D.ex) ag⟩
  | loop f W R ad av=>
   rcases f with f|f
   ·rw[ath s f];refine aaW B.st N O f T s p U λH q r u=>?_;refine apd ab q r W p u j (λk ae au=>QQ j (m - 10000) p ae/\20001<ae.steps+k/\Lg ae au) ⟨g,g.q.fu,ak⟩ (λae au hP=>by have:=hP.1.q.st;have:=hP.2.1;omega) (λk ae au hP=>?_)
    obtain⟨V,aw,aq⟩:=hP;have⟨D,aV⟩:=X.v V.q R;refine⟨E.v V R,λv σ1 aa _=>?_⟩;rw[aa] at D aV;have aG:=V.next D;have⟨I,aN⟩:=X.s aG.q ad (λe=>by rw[av] at e;cases e) (aq.up D.ex)
    refine⟨E.s aG ad (λe=>by rw[av] at e;cases e) (aq.up D.ex) ag,λo aQ a1 aX=>?_⟩
    rw[aX] at I aN;exact⟨aG.nexts I,by dsimp only at aV aN;omega,I.la⟩
   ·rw[ati s f];have⟨V,aw,aq,_⟩:=aal X g.q (d:=Oa d 0) R;refine abZ B.st N O f T s p U λH q r u=>awK ab q r W p u (E.v g R) (λo σ1 aa=>?_) (ba:=400000000) Oe;rw[aa] at V aw aq;have aG:=aw.st
    dsimp only at aG
    have ah:=V.opn p.scope o (-2);have z:=N8 (∀{G}(h:G:=by
    have aR:QQ j (m - 10000+1) { p with scope:=σ1.top } (σ1.opn p.scope o (-2)):=⟨⟨by have:=g.q.fu;show 20001<σ1.steps+j;omega,by rw[ah.st];exact aq,ah.iv,ky⟩,by rw[ah.st];dsimp only;omega⟩
    exact⟨E.s aR ad (λe=>by rw[av] at e;cases e) ((ak.up aw).up ah.ex) ag,V.sz (by dsimp only;omega) aq.le,(g.q.po.up aw).some⟩),G);exact aCU
  | give f W aj=>
   rw[akS s f];exact aak B.st N O f T s p U λH bb q r aM=>adM q r W aM p (LA Y) (λaS f=>E.v g (aj aS f))
  | one f W R=>
   rcases f with f|f
   ·rw[apB s f];exact aaY B.st N O f T s p U λH q r u=>EPost.x u (aeM ab q r W p (LA Y) (E.v g R))
   ·rw[ag9 s f];refine ab1 B.st N O f T s p U λH q r u=>?_
    cases Y with
    | none=>
     cases l with
     | none=>exact aaT ab q r W p (E.v g R)
     | some v=>exact u.elim
    | some b=>
     cases l with
     | none=>exact u.elim
     | some v=>exact aaU ab q r W p u (ag b rfl) (E.v g R)
  | atm f W R a1 aj=>
   rw[auY s f];have I:=(X.s g.q R (λe=>by rw[a1] at e;cases e) ak).1
   obtain⟨a6,aH⟩:∃ a6,d.2.kids.length=a6+1:=⟨d.2.kids.length - 1,by omega⟩;refine ada B.st N O f T s p U λH q r u=>aBU ab q r aH Oe Oe p u (E.s g R (λe=>by rw[a1] at e;cases e) ak ag) (λo e l σ=>∃ aD:Int,Z j aD p σ o e l/\aD+2<=99000000+10 * σ.steps) (λo e aQ σ1 aa=>?_) (λk f o e l σ hP=>?_)
   ·rw[aa] at I;have aN:=I.ex.st
    dsimp only at aN
    exact⟨m - 10000,⟨by have:=g.q.fu;omega,I.iv,g.q.po.up I.ex,I.er,I.va,I.la⟩,by omega⟩
   ·obtain⟨aD,V,a7⟩:=hP;have⟨bn,aV,gk,aG⟩:=aj k f;refine⟨λH aq bj q r u aX=>⟨λ_=>?_,λ_=>?_⟩,λa8 aw aQ σ1 aa=>?_⟩
    ·refine asW B.st B.b q r aV p o aX u (ba:=400000000) Oe λx aI=>?_;subst aI;have⟨aw,a8⟩:=V.cq (d:=k);have aq:=(V.q OW).iv.opn p.scope (-1) (own k);have bj:=(V.q OW).st;refine⟨V.iv.sz Oe Oe,V.po.some,aq.iv.sz (by rw[aq.st];omega) (by rw[aq.st];omega),E.s ⟨a8,by rw[aw.st];omega⟩ gk (λe=>by rw[aG] at e;cases e) (V.la.up aw.ex) ag⟩
    ·refine amj B.st q r aV p o aX u λaq=>?_;exact E.s ⟨V.q aq,by omega⟩ gk (λe=>by rw[aG] at e;cases e) V.la ag
    ·have aw:=apA X V gk aG;have aq:SO (aD+2) σ (UU F k p o e l σ):=by
      unfold UU
      split
      ·exact apC X V gk aG
      ·exact apD X V gk aG
     rw[aa] at aw aq
     rcases aw with aw|aw
     ·
      cases aw;exact⟨aD,V,a7⟩
     ·have aN:=aq.ex.st
      dsimp only at aN aw
      exact⟨aD+2,⟨by have:=V.fu;omega,aq.iv,V.po.up aq.ex,aq.er,aq.va,aq.la⟩,by omega⟩
 ·rw[ae6 s];exact abX B.st N O T Oe p U
variable {g:St}{u:Pl}{k:Ot}{aE:List Ad}{T:List Nd}{q:List Va}
def ae7 (D:Cx L t J A M aL)(C:FI F j)(H:FC L t J A M F j)(h:QQ j m p σ)(z:∀ a ∈ T,Nk 1 a.2)(R:∀ a ∈ T,Pj a.2=true->K4 σ.M p.scope a.2.tx)(S:Lg σ l)(I:∀ b,Y=some b->t<=b)(P:T.length<=1000000)(B:Ms L t J A w σ)(f:RZ 0 w k aE)(N:Uc A w aE T)(O:OE w Y l) :
  Oq 28 #[N7 t,k,PD p (LA Y)] w (PL L t J A M Y w (Qm F p T l σ)):=by
 refine Zz D.st.WC B f N P p O (λg r=>QQ j m p g/\Lg g r/\∀ a ∈ T,Pj a.2=true->K4 g.M p.scope a.2.tx) ⟨h,S,R⟩ (λa b g r hP=>?_);obtain⟨i,s,n⟩:=hP;refine⟨H.s i (z a b) (n a b) s I,λo E σ1 f=>?_⟩;have c:=(C.s i.q (z a b) (n a b) s).1;rw[f] at c;exact⟨i.nexts c,c.la,λa b E=>c.ex.k4 _ _ (n a b E)⟩
def ajg (h:Bk d.2):(Px d).length<=1000000:=by
 have:=h.ct;have:=QO d.2;rw[RG];omega
def akT (h:Q j m p σ){f:Fu}(U:Fg f.d.2)(R:q.length<=1500)(E:∀ v ∈ q,Gv σ.M.objs.length v)(D:σ.calls≠40) :
  Nx (m+9000) { σ with calls:=σ.calls+1 } (QB f.d ⟨σ.top,σ.top,f.strict⟩ q (St.opn { σ with calls:=σ.calls+1 } f.scope (-1) (own f.d)))/\Bk (Oa f.d 1).2 /\
  (∀ r ∈ Px (Oa f.d 1),Pj r.2=true->K4 (QB f.d ⟨σ.top,σ.top,f.strict⟩ q (St.opn { σ with calls:=σ.calls+1 } f.scope (-1) (own f.d))).M σ.top r.2.tx) /\
  Q j (m+9000) ⟨σ.top,σ.top,f.strict⟩ (QB f.d ⟨σ.top,σ.top,f.strict⟩ q (St.opn { σ with calls:=σ.calls+1 } f.scope (-1) (own f.d))):=by
 have I:=h.call D;have s:=I.iv.opn f.scope (-1) (own f.d);have N:∀ v ∈ q,Gv (St.opn { σ with calls:=σ.calls+1 } f.scope (-1) (own f.d)).M.objs.length v:=E;have H:=ae8 { σ with calls:=σ.calls+1 } f.scope (own f.d);have B:Po ⟨σ.top,σ.top,f.strict⟩ (St.opn { σ with calls:=σ.calls+1 } f.scope (-1) (own f.d)):=
  ⟨by show (0:Int)<=(σ.M.Ov.length:Int);omega,by show (σ.M.Ov.length:Int)<_;simp[St.opn,Mo.scope];omega⟩
 have⟨z,O,C⟩:=s.iv.body (d:=f.d) (p:=⟨σ.top,σ.top,f.strict⟩) U B H R N;have r:=(s.trans z).up (N':=m+9000) Oe;exact⟨r,O,C,by rw[r.st];exact h.fu,by rw[r.st];exact h.st,r.iv,B.up z.ex⟩
def amA (s:Cx L t J A M aL)(H:FI F j)(ad:FC L t J A M F j)(h:QQ j m p σ)(ae:m+9000<=99000000+10 * σ.steps){a:Fu}(b:Fg a.d.2)(ag:0<=a.scope/\a.scope<σ.M.Ov.length)(f:q.length<=1500)(I:∀ v ∈ q,Gv σ.M.objs.length v)(S:Ms L t J A w σ)(U:Ue w k q){N:Ad}(X:OJ A w N a.d) :
  Oq 301 #[N7 t,.agg #[N7 N.p,NY a.scope,Om a.strict],k] w (OQ L t J A M w (VE F a q σ)):=by
 obtain⟨aG,aw,av,az,V⟩:=S;have c:Bk (Oa a.d 1).2/\(Oa a.d 0).2.kids.length<=8:=by
  obtain⟨aH,aJ,aI,P,i,D,au,O⟩:=b.sh;have R:(Oa a.d 0).2=P:=by rw[V3,D];rfl
  have W:(Oa a.d 1).2=i:=by rw[V3,D];rfl
  have E:i ∈ a.d.2.kids:=by rw[D];exact List.mem_cons_of_mem _ List.mem_cons_self
  have ah:Nk 4 i:=⟨O,by have:=Yv E;have:=b.ct;omega,(ZB b.nb).1 i E⟩
  rw[R,W];refine⟨ah.bk Oe,?_⟩
  cases au with
  | aly _ f=>exact f
 refine as4 s.b s.tb V h.sz Oe h.q.iv.ca X (aje b) b.ct c.2 (λD i=>aje (Y5 c.1 D i)) (Po.some (p:=⟨a.scope,0,false⟩) ag) U f (g:=fun σ=>Qm F ⟨σ.top,σ.top,a.strict⟩ (Px (Oa a.d 1)) none (QB a.d ⟨σ.top,σ.top,a.strict⟩ q (σ.opn a.scope (-1) (own a.d)))) (λr=>?_) (λr i E D ak aj aq=>?_)
 ·have⟨B,_,z,n⟩:=akT h.q b f I r;have i:=aam H (Px (Oa a.d 1)) (l:=none) n (λd C=>c.1.ks _ (Qh C)) z (λ_ e=>by cases e);exact(B.ex.trans i.ex).ca
 ·have⟨B,_,z,n⟩:=akT h.q b f I r;exact ae7 s H ad ⟨n,by rw[B.st];exact ae⟩ (λd C=>c.1.ks _ (Qh C)) z (λ_ e=>by cases e) (λ_ e=>by cases e) (ajg c.1) ak aj aq trivial (Y:=none)
def apE {f:Ou}{i:Bool}{a:Tr}(h:evT f i=some a):Bk a:=by
 unfold evT at h
 split at h
 ·rename_i n c
  split at h
  ·rename_i b
   cases h;exact(XO c b).bk Oe
  ·
   cases h
 ·
  cases h
def axk (h:Q j m p σ){f:Tr}(E:Bk f)(r:evQ (none,f) p σ=some (u,g)):Nx (m+9000) σ (OB (none,f) u g).2/\Q j (m+9000) (OB (none,f) u g).1 (OB (none,f) u g).2/\∀ B ∈ Px (none,f),Pj B.2=true->K4 (OB (none,f) u g).2.M (OB (none,f) u g).1.scope B.2.tx:=by
 have z:Nx (m+1) σ g/\Po u g:=by
  unfold evQ at r
  split at r
  ·
   cases r
  ·simp only[Option.some.injEq] at r
   split at r
   ·
    cases r;exact⟨h.iv.opn _ _ _,by show (0:Int)<=(σ.M.Ov.length:Int);omega,by show (σ.M.Ov.length:Int)<_;simp[St.opn,Mo.scope];omega⟩
   ·
    cases r;exact⟨(Nx.refl h.iv).up Oe,h.po⟩
 obtain⟨z,I⟩:=z;have⟨D,H,C⟩:=z.iv.auZ (d:=(none,f)) E I;have s:=(z.trans D).up (N':=m+9000) Oe;exact⟨s,⟨by rw[s.st];exact h.fu,by rw[s.st];exact h.st,s.iv,H⟩,C⟩
def axl (r:FI F j)(h:Q j m p σ)(s:Ou):VO (m+9000) σ (evB F s p σ):=by
 unfold evB
 split
 ·rename_i z f
  exact adR r h (apE f)
 ·exact .bad ((Nx.refl h.iv).up Oe) h.st smS
section
variable (f:Cx L t J A M aL) (E:FI F j) (O:FC L t J A M F j) (h:QQ j m p σ) (aw:m+9000<=99000000+10 * σ.steps)
include f E O h aw
def apF (X:Ms L t J A w σ)(s:Ue w k q){S:Ad}(R:OJ A w S d)(i:Option Addr) :
  Oq 300 #[N7 t,N7 S.p,PD p i,k] w (OQ L t J A M w (Ya F d.2 p q σ)):=by
 obtain⟨aJ,aH,aG,aI,z⟩:=X
 cases q with
 | nil=>exact amz z p i s
 | cons v q=>
  rw[apy]
  by_cases b:v.k≠4
  ·rw[if_pos b];exact ajc z p i s b
  rw[if_neg b];have b:v.k=4:=Oe
  have n:∀ r:Pl,Po r σ->(σ.calls≠40->(evB F v.s r { σ with calls:=σ.calls+1 }).2.calls=σ.calls+1)/\(σ.calls≠40->∀ a,evT v.s r.strict=some a->∀ (P:Ad) u g,evQ (none,a) r { σ with calls:=σ.calls+1 }=some (u,g)->∀ c k (H:Nat),t<=H->Ms L t J A c (OB (none,a) u g).2->RZ 0 c k P.ks->Uc A c P.ks (Px (none,a))->OE c (some H) (some vU)->Oq 28 #[N7 t,k,PD (OB (none,a) u g).1 (LA (some H))] c (PL L t J A M (some H) c (Qm F (OB (none,a) u g).1 (Px (none,a)) (some vU) (OB (none,a) u g).2))):=λr ae=>by
   have U:σ.calls≠40->Q j m r { σ with calls:=σ.calls+1 }:=λB=>⟨h.q.fu,h.q.st,(h.q.call B).iv,ae⟩;refine⟨λB=>(axl E (U B) v.s).ex.ca,λB a ad P u g ag c k H aq av au az V=>?_⟩;have N:=apE ad;have⟨aj,W,ah⟩:=axk (U B) N ag;exact ae7 f E O ⟨W,by rw[aj.st];exact aw⟩ (λd ak=>N.ks _ (Qh ak)) ah (λ_ e=>by cases e;exact Vs _) (λak e=>by cases e;exact aq) (ajg (d:=(none,a)) N) av au az V
  have I:Po ⟨1,0,false⟩ σ:=⟨by show (0:Int)<=1;omega,by show (1:Int)<_;have:=h.q.iv.lr;omega⟩
  by_cases D:d.2.kd=23
  ·by_cases B:d.2.tx=RH
   ·have C:evP d.2 p=p:=if_neg (by simp[D,B]);rw[C];exact ag7 f.st.WC f.b f.gl z h.sz Oe h.q.iv.ca R D B p i h.q.po h.q.iv.lr s b (n p h.q.po).1 (n p h.q.po).2
   ·have C:evP d.2 p=⟨1,0,false⟩:=if_pos (.inr B);rw[C];exact atc f.st.WC f.b f.gl z h.sz Oe h.q.iv.ca R D B p i h.q.po h.q.iv.lr s b (n _ I).1 (n _ I).2
  ·have C:evP d.2 p=⟨1,0,false⟩:=if_pos (.inl D);rw[C];exact atb f.st.WC f.b f.gl z h.sz Oe h.q.iv.ca R D p i h.q.po h.q.iv.lr s b (n _ I).1 (n _ I).2
def apG (ak:Nk 0 d.2)(H:d.2.kd=35)(aH:Ms L t J A w σ){a:Ad}(aN:OJ A w a d)(R:Option Addr) :
  Oq 263 #[N7 t,N7 a.p,PD p R] w (OQ L t J A M w (XF F d p σ)):=by
 have⟨aS,aR⟩:=ak.au0 H;have ad:∀ x ∈ Px d,Nk 0 x.2:=λx aI=>aS _ (Qh aI);have s:=ab7 E (Px d) [] h.q ad (λ_ h=>by cases h);have ag:∀ r B σ1,Tn F p (Px d) [] σ=((r::B,.no),σ1)->QQ j m p σ1/\m+9000<=99000000+10 * σ1.steps/\Gv σ1.M.objs.length r/\(∀ v ∈ B,Gv σ1.M.objs.length v)/\B.length<=9:=λr B σ1 aa=>by
  rw[aa] at s;have ah:=s.ex.st;have W:=s.ln;have:=RG d;have:=h.bd
  dsimp only at ah W
  refine⟨⟨⟨by have:=h.q.fu;omega,s.er,s.iv,h.q.po.up s.ex⟩,by omega⟩,by omega,s.va r List.mem_cons_self,λv I=>s.va v (List.mem_cons_of_mem _ I),?_⟩
  simp at W;omega
 refine axf f.st.WC aH aN ?_ aR p R (λae k D C N=>?_) (λr B σ1 aa au aJ ae k D C=>?_) (λr B σ1 aa au aJ ae k c D C N=>?_) (λr B σ1 aa au W ah aq=>?_)
 ·have W:=ak.sh
  cases ah:d.2 with
  | mk aq aM n aG=>
   rw[ah] at W H
   cases W with
   | call _ _ _=>simp[Tr.kids]
   | lit s=>simp only[Tr.kd] at H;omega
   | one s=>simp only[Tr.kd] at H;omega
   | two s=>simp only[Tr.kd] at H;omega
   | _=>cases H
 ·refine agL f.st.WC D C N (by rw[RG];omega) p R (λg=>QQ j m p g) h (λah aq g W=>⟨O.v W (ad ah aq),λv σ1 aa=>?_⟩)
  have I:=(E.v W.q (ad ah aq)).1;rw[aa] at I;exact W.next I
 ·obtain⟨z,V,aj,X,av⟩:=ag _ _ _ aa;have U:=z.sz;refine as3 f.b f.tb D C Oe (λv I=>?_) (by have:=U.lg;omega)
  have:=ae4 (a:=σ1.M) (X v I) U.go.sm.o;exact⟨⟨by omega,by omega⟩,this.1⟩
 ·obtain⟨z,V,aj,X,av⟩:=ag _ _ _ aa;exact apF f E O z V D C N R
 ·obtain⟨z,V,aj,X,av⟩:=ag _ _ _ aa;have U:=z.sz;have aV:0<=σ1.M.codeOf r.n/\σ1.M.codeOf r.n<3+σ1.Qg.length:=by
   unfold Mo.codeOf
   rcases QG σ1.M r.n with ⟨aG,_⟩|⟨i,x,_,aM,aQ⟩
   ·rw[aG];exact⟨by decide,by show (0:Int)<_;omega⟩
   ·rw[aQ];exact z.q.iv.gm.co x (List.mem_of_getElem? aM)
  have aU:=U.fn;obtain⟨W,aq⟩:∃ W,σ1.Qg[(σ1.M.codeOf r.n - 3).toNat]? = some W:=⟨_,List.getElem?_eq_getElem Oe⟩;have ah:=z.q.iv.fn W (List.mem_of_getElem? aq);exact⟨W,by omega,by omega,aq,λae k c D C N=>amA f E O z V ah.1 ah.2 Oe X D C N⟩
end
def ae9 (a:Cx L t J A M aL):∀ j,FC L t J A M (fx j) j
 | 0=>⟨λh _=>by have:=h.q.fu;have:=h.q.st;omega,λh _ _ _ _=>by have:=h.q.fu;have:=h.q.st;omega⟩
 | j+1=>⟨λh b=>axg a (ab8 j) (ae9 a j) h b (λf _ _ i n s c=>apG a (ab8 j) (ae9 a j) c (by have:=h.bd;have:=c.q.fu;show _ - 10000+9000<=99000000+10 * ((_+1:Nat):Int);omega) b f n s i),λh b _ z r=>axh a (ab8 j) (ae9 a j) h b z r⟩
def axm {a:Ad}{d:Nd}(hd:OJ A w a d)(r:d.2.kd=1) :
  Oq 29 #[N7 a.p] w λe n=>n=w/\∃ k,e=OA k/\RZ 0 w k a.ks:=by
 obtain⟨s,z,i,aa⟩:=hd.ar;obtain⟨C,f,_⟩:=hd.cells;rw[r] at f;have⟨D,b⟩:=xE a.p;rw[<-b] at i f C ⊢;have⟨B,c⟩:=xE d.2.kids.length;rw[<-c] at i aa;clear b c;go_enter func29,ntmps29;go_wp2_with fail;exact UC (v:=.slice s B z) ⟨rfl,_,rfl,aa⟩
end
section
variable {w0:Og} {mb af:Nat} {B:List Nat} {H s r g u:Ot} {w w':Og} {σ:St} {ad:Nat}
def apH (t:Mx w0 mb af B s r g u w σ)(l:Sz ad σ)(E:ad+1<1000000000)(f:Ou)(c:Int) :
  Oq 52 #[N7 mb,Oj f,NY c] w λe w'=>e=OA (.tuple #[])/\Mx w0 mb af B s r g u w' (({ σ with M:=σ.M.OY c }:St).Qx 0 f (SQ σ.M.objs.length) false)/\O8 Th mb w w':=by
 have V:=t.lt;have F:=(Below.refl w.heap.size w).drew;have C:=t.later F;have d:w.drew.cell? (N9 mb 11)=some (NY 0):=(C.hh.at_ 9 _ rfl).1;have ah:O8 Th mb w w.drew:=O8.of F (OO V);have T:Sz (ad+1) ({ σ with M:=σ.M.OY c }:St):=l.heap (Nat.le_succ _) (l.go.OY c) rfl;have m:=aaf C l Oe c
 have k:Hid (∀ X,Mx w0 mb af B s r g u X { σ with M:=σ.M.OY c }->Oq 56 #[N7 mb,NY 0,Oj f,vA (SQ σ.M.objs.length),Om false] X λe w'=>e=OA (TT (({ σ with M:=σ.M.OY c }:St).M.put 0 f (SQ σ.M.objs.length) false).1)/\Mx w0 mb af B s r g u w' (({ σ with M:=σ.M.OY c }:St).Qx 0 f (SQ σ.M.objs.length) false)/\O8 Th mb X w'):=λX h=>YL h T E 0 f (SQ σ.M.objs.length) false
 generalize TT (({ σ with M:=σ.M.OY c }:St).M.put 0 f (SQ σ.M.objs.length) false).1=au at k
 generalize (({ σ with M:=σ.M.OY c }:St).Qx 0 f (SQ σ.M.objs.length) false)=aq at k ⊢
 generalize ({ σ with M:=σ.M.OY c }:St)=av at m k
 have⟨o,aO⟩:=xE (σ.M.objs.length:Int);rw[<-aO] at m k;clear E aO;go_enter func52,ntmps52;have ak:Oo w w.drew:=QI.drew;refine Qs 14 (λX=>X.cell? (N9 mb 11)=some (NY 0)) Pe ?_;refine up 0 mb 0 d ?_;refine up 1 mb 0 d ?_;refine up 2 mb 0 d ?_;refine up 3 mb 0 d ?_;refine up 4 mb 0 d ?_;refine up 5 mb 11 d ?_;refine uc 6 (NY 0) rfl (Or.inl ⟨by kernel_rfl,λX R=>by have h0:=R;go_simp⟩) d ?_
 refine uh 7 (Oj f) d ?_;refine up 8 mb 0 d ?_;refine up 9 mb 0 d ?_;refine up 10 mb 0 d ?_;refine uh 11 (NY c) d ?_;refine PS 12 λK D=>?_;go_simp;refine cm m ?_;rintro e z ⟨rfl,p,W⟩;have L:z.cell? (N9 mb 11)=some (NY 0):=(p.hh.at_ 9 _ rfl).1;refine D.out _ _ (λ_=>L) ?_;clear D K;have ae:=ah.trans W;refine PS 13 λK D=>?_;go_simp;refine cm (aa9 o z) ?_;rintro e Y ⟨rfl,I⟩;have J:=p.later I;have q:Y.cell? (N9 mb 11)=some (NY 0):=(J.hh.at_ 9 _ rfl).1
 refine D.out _ _ (λ_=>q) ?_;clear D K;have ag:=ae.trans (O8.of I (OO p.lt));refine PS 14 λK D=>?_;go_simp;refine cm (NZ k _ J) ?_;rintro e aj ⟨rfl,M,N⟩;refine ko D ?_;clear D K;have O:=ag.trans N;clear d L q;refine RY ?_ _;go_simp;go_wp2
 go_end0
 exact⟨rfl,M,O⟩
variable {aI:Addr}
def aCV (w0:Og)(mb af:Nat)(B:List Nat)(s r g u:Ot)(w:Og)(σ:St)(b:Int)(c:Ending)(w':Og):Prop:=
 c=OA (.tuple #[])/\∃ a,Mx w0 mb af B s r g u a σ/\Oo w a/\w'=a.setCell (N9 mb 3) (NY b)
def axn (d:Mx w0 mb af B s r g u w σ):Oq 31 #[N7 mb,Qd] w (aCV w0 mb af B s r g u w σ 1):=by
 have z:=N8 (∀{G}(h:G:=by
 have⟨f,c⟩:=xE w.heap.size;have b:=d.later aE;have e:=anq f w2 123;go_enter func31,ntmps31;go_wp2_with fail;rw[<-bo.out,<-c];clear c;refine cm e ?_;rintro l wz ⟨rfl,rfl⟩;have i:=b.lt;obtain⟨j,o⟩:=b.hh.at_ 1 _ rfl;go_wp2
 go_end0
 exact⟨rfl,_,b,aE,rfl⟩),G);exact axo
def apI (e:Stp w0 mb H aI)(q:Mx w0 mb af B s r g u w σ):Oq 31 #[N7 mb,H] w (aCV w0 mb af B s r g u w σ 3):=by
 have z:=N8 (∀{G}(h:G:=by
 have⟨p,b⟩:=xE w.heap.size;have i:w2.heap[p]? = some (OM #[QS] 122):=by rw[bo.out,b];exact Oi _ _
 have f:=q.later aE;have⟨o,tf,d⟩:=aaj i;have l:=e.ety ⟨_,_,_,_,f⟩;have t:=afV aI p w2 o (tf 0) d l;rw[e.is];clear i o tf d l;go_enter func31,ntmps31;go_wp2_with fail;rw[<-bo.out,<-b];clear b;refine cm t ?_;rintro E wz ⟨rfl,j⟩;have c:=f.later j;have v:=aE.trans (j.mono (by have:=aE.size;omega))
 have A:=c.lt;obtain⟨D,F⟩:=c.hh.at_ 1 _ rfl;go_wp2
 go_end0
 exact⟨rfl,_,c,v,rfl⟩),G);exact axo
def atj (au:Bs w0 mb af B H)(N:Y1 w0)(aw:Stp w0 mb H aI)(O:Mx w0 mb af B s r g u w σ){v:Va}{f:Nat}(M:w.heap[f]? = some (OM #[NY v.k,NY v.n,Oj v.s] 126))(T:-9223372036854775808<=v.n/\v.n<=9223372036854775807) :
  Oq 31 #[N7 mb,.iface 122 (Oy f 0)] w λe w'=>e=OA (.tuple #[])/\∃ X,Mx w0 mb af B s r g u X σ/\Oo w X/\w'=(X.setCell (N9 mb 3) (NY 2)).setCell (N9 mb 4) (Oj (σ.M.shw v)):=by
 have z:=N8 (∀{G}(h:G:=by
 have⟨Y,I⟩:=xH w.heap.size;have q:w2.heap[Y]? = some (OM #[QS] 122):=by rw[bo.out,I.out];exact Oi _ _
 have aJ:=O.later aE;have aV:=hide M;have⟨W,tf,J⟩:=aaj q;have V:=aw.ety ⟨_,_,_,_,aJ⟩;have aN:=aj3 f Y w2 q W (tf 0) J V;have L:Hid (∀ X,Mx w0 mb af B s r g u X σ->Oq 61 #[N7 mb,vA v] X λe w'=>e=OA (Oj (σ.M.shw v))/\Oo X w'):=λX h=>aeK au N ⟨_,_,_,_,h⟩ v T;have⟨a8,ag⟩:=xE (σ.M.shw v);rw[<-ag] at L ⊢;clear q W tf J V N T M ag;obtain⟨a6,a1,a7⟩:=v;go_enter func31,ntmps31;go_wp2_with fail;rw[<-bo.out,<-I.out];refine cm aN ?_;rintro e wz ⟨rfl,ah,aM⟩
 have p:Oo w wz:=aE.trans (aM.mono (Nat.le_of_eq I.out.symm));have t:=O.later p;have aj:=hide (cells3 (stays p aV.out));have aU:=hide (aaj ah);have aX:=t.lt;clear ah;go_wp2_with fail;refine S9 13 λae=>?_;have z:=N8 (∀{G}(h:G:=by
 refine up 3 mb 0 ae ?_;refine up 4 mb 0 ae ?_;refine uk 5 (aU.out.1) ae ?_;refine up 6 f 0 ae ?_;refine up 7 f 0 ae ?_;refine uk3 8 aj.out ae ?_;refine PS 9 λK D=>?_;go_simp;refine cm (NZ L _ (t.later ae)) ?_;rintro e av ⟨rfl,aH⟩;have d:Oo wz av:=ae.trans (aH.mono ae.size);refine D.out _ _ (λ_=>d) ?_;clear D K;have l:=t.later d;have aW:=l.lt;have aQ:=p.trans (d.mono p.size);obtain⟨aD,aL⟩:=l.hh.at_ 1 _ rfl;obtain⟨aG,aq⟩:=l.hh.at_ 2 _ rfl;refine up 10 mb 0 d ?_;refine up 11 mb 2 d ?_
 refine up 12 mb 3 d ?_;refine PS 13 λK D=>?_;go_simp;refine ko D ?_;clear D K;refine uz 14 (Oy mb 0) ?_;refine uz 15 (Oy mb 2) ?_;refine uz 16 (Oy mb 4) ?_;refine PS 17 λK D=>?_;go_simp;refine ko D ?_;clear D K;refine RY ?_ _;go_simp;clear aD aG aL aq;go_wp2
 go_end0
 exact⟨rfl,_,l,aQ,rfl⟩),G);exact TI),G);exact axo
abbrev mRt (a:Int)(σ:St)(s r g u:Ot)(af:Nat):List Ot:=(mR σ s r g u af).set 11 (NY a)
structure My (t:Int)(w0:Og)(mb af:Nat)(O:List Nat)(aT aB aA aK:Ot)(w:Og)(σ:St):Prop where
 bw:Below mb w0 w
 hh:Pz mb (mRt t σ aT aB aA aK af) w σ.M
 lg:w.ownsRow mb 9 1 aT σ.log.length (σ.log.map Value.string)
 se:w.ownsRow mb 54 2 aB σ.seen.length (σ.seen.flatMap sn2)
 ow:w.ownsRow mb 3 1 aA σ.Qw.length (σ.Qw.map (Value.int .i64))
 fu:∃ d9:List Ad,d9.length=σ.Qg.length/\w.ownsRow mb 211 3 aK σ.Qg.length ((d9.zip σ.Qg).flatMap fn3)/\∀ (i:Nat) a f,d9[i]? = some a->σ.Qg[i]? = some f->OJ O w a f.d
variable {t:Int}
section
variable (h:My t w0 mb af B s r g u w σ)
include h
def My.lt:mb<w.heap.size:=h.hh.lt
def My.later (A:Oo w w'):My t w0 mb af B s r g u w' σ:=aB1
def My.heap {b:Mo}(hh:Pz mb (mRt t σ s r g u af) w' b)(aF:O8 Th mb w w'):My t w0 mb af B s r g u w' { σ with M:=b }:=aB2
end
def atl (f:Bs w0 mb af B H)(b:My t w0 mb af B s r g u w σ){a:Ad}{c:Nd}(j:OJ B w a c) :
  Oq 51 #[N7 mb,N7 a.p] w λi w'=>i=OA (NY (own c))/\w'=w:=by
 have hl:=ae3 f b.bw j;obtain⟨m,n⟩:=b.hh.at_ 5 _ rfl;have l:=b.lt;have⟨p,d⟩:=xE a.p;rw[<-d] at hl ⊢;obtain⟨no,e⟩:=c;clear d
 cases no with
 | none=>
  have aw:own (none,e) = -3:=rfl;exact aCD
 | some k=>
  have aw:own (some k,e)=(k:Int):=rfl;exact aCE
def My.aki (h:My t w0 mb af B s r g u w σ)(x:Int){aq:Og}{Vr:Ot}(hg:w.grownBy aq g.ownBlock)(aO:aq.ownsRow mb 3 1 Vr (σ.Qw.length+1) (σ.Qw.map (Value.int .i64)++[NY x]))
  (ag:∀ q,Vr.ownBlock=some q->g.ownBlock=some q\/w.heap.size<=q) :
  My t w0 mb af B s r Vr u (aq.setCell (N9 mb 8) Vr) { σ with Qw:=σ.Qw++[x] }/\Q9 mb g u Vr u w (aq.setCell (N9 mb 8) Vr):=aCF
def apJ (ac:My t w0 mb af B s r g u w σ)(b a x:Int)(hl:σ.Qw.length<=1000000000)
  (iW:∀ f R,Pz mb R f σ.M->Oq 105 #[N7 mb,NY b,NY a] f λe w'=>e=OA (NY (σ.M.Ov.length:Int))/\Pz mb R w' (σ.M.scope b a)/\O8 Th mb f w') :
  Oq 50 #[N7 mb,NY b,NY a,NY x] w λe w'=>e=OA (NY σ.top)/\∃ d,My t w0 mb af B s r d u w' (σ.opn b a x)/\Q9 mb g u d u w w':=by
 have z:=N8 (∀{G}(h:G:=by
 show Oq 50 #[N7 mb,NY b,NY a,NY x] w λe w'=>e=OA (NY (σ.M.Ov.length:Int))/\∃ d,My t w0 mb af B s r d u w' (σ.opn b a x)/\Q9 mb (.slice aC n iJ) u d u w w'
 exact aCG),G);exact aCH
def My.made (h:My t w0 mb af B s r g u w σ):Mx w0 mb af B s r g u (w.setCell (N9 mb 13) (NY 1)) σ/\O8 [84] mb w (w.setCell (N9 mb 13) (NY 1)):=by
 have⟨p,a⟩:=h.hh.cell 11 (NY 1);obtain⟨k,i,l,o⟩:=h.fu;exact⟨⟨h.bw.trans a.below,p,OH h.lg a Ol,OH h.se a Ol,OH h.ow a Ol,k,i,OH l a Ol,λv c n e q=>(o v c n e q).kp (λf j m b d=>a.rest f j m b (by rcases d with rfl|rfl <;> decide))⟩,a⟩
def bare:St:=⟨⟨[],[]⟩,[],0,[],[],[],0⟩
def apL (b:Below mb w0 w)(a:w.heap[mb]? = some (OM #[Qv,Qv,Qv,NY 0,Pm,NY 0,Qv,.map (some af),Qv,Qv,NY 0,NY 0,NY 0,NY 0] 84)) :
  My 0 w0 mb af B Qv Qv Qv Qv w bare:=
 ⟨b,⟨_,_,_,_,a,Tb.nil Ol,Tb.nil Ol⟩,World.ownsRow_nil _ _ _ _,World.ownsRow_nil _ _ _ _,World.ownsRow_nil _ _ _ _,[],rfl,World.ownsRow_nil _ _ _ _,λe c d h=>by simp at h⟩
def My.zero (h:My t w0 mb af B s r g u w σ):My t w0 mb af B s r g u (w.setCell (N9 mb 11) (NY 0)) σ/\My t w0 mb af B s r g u (w.setCell (N9 mb 12) (NY 0)) σ:=by
 obtain⟨p,o,q,v⟩:=h.fu;have⟨A,a⟩:=h.hh.cell 9 (NY 0);have⟨z,b⟩:=h.hh.cell 10 (NY 0);exact⟨⟨h.bw.trans a.below,A,OH h.lg a Ol,OH h.se a Ol,OH h.ow a Ol,p,o,OH q a Ol,λm d n i e=>(v m d n i e).kp (λj k l c f=>a.rest j k l c (by rcases f with rfl|rfl <;> decide))⟩,
  ⟨h.bw.trans b.below,z,OH h.lg b Ol,OH h.se b Ol,OH h.ow b Ol,p,o,OH q b Ol,λm d n i e=>(v m d n i e).kp (λj k l c f=>b.rest j k l c (by rcases f with rfl|rfl <;> decide))⟩⟩
mutual
def Ri.cls {f:Nat->Prop}{w:Og}:∀ c:Ad,Ri f w c->∀ b ∈ c.UY,Cl w b
 | .mk l j m k i,h,b,a=>by
  rw[Ri] at h;obtain⟨_,_,⟨n,d,_⟩,e⟩:=h;rw[Ad.UY] at a
  rcases List.mem_cons.1 a with rfl|a
  ·exact⟨_,_,d⟩
  ·exact QM.cls i e b a
def QM.cls {c:Nat->Prop}{w:Og}:∀ H:List Ad,QM c w H->∀ b ∈ Ad.SL H,Cl w b
 | [],_,b,a=>by rw[Ad.SL] at a;cases a
 | d::H,h,b,a=>by
  rw[QM] at h;rw[Ad.SL] at a
  rcases List.mem_append.1 a with a|a
  ·exact Ri.cls d h.1 b a
  ·exact QM.cls H h.2 b a
end
variable {a:Ad}
def akU (h:Ri (λ_=>True) w a):OJ a.UY w a (some 0,a.tr):=⟨h,rfl,[],[],by simp,rfl⟩
def axr (h:Ri (λ_=>True) w a)(j:a.UY.Nodup)(f:w.cell? (N9 1 0)=some H)(b:Oo w w')(c:w'.heap[af]? = some (.map (W9 (V9 a.UY)) a.UY.length)):Bs w' w'.heap.size af a.UY H/\OJ a.UY w' a (some 0,a.tr):=
 ⟨⟨rfl,c,λk d=>by
  have⟨i,t,e⟩:=Ri.cls a h k d;exact⟨i,t,stays b e⟩,j,OT b f⟩,(akU h).kp (Kp.of b)⟩
def st1:St:={ bare with M:=bare.M.OY 0 }
def st2:St:=st1.opn (-1) 0 (-1)
def st3:St:=st2.opn 0 (-1) 0
def st4:St:=({ st3 with M:=st3.M.OY 1 }:St).Qx 0 UM (SQ st3.M.objs.length) false
def Kp.of' {w0 w:Og}{mb af:Nat}{B:List Nat}{H:Ot}(b:Bs w0 mb af B H)(h:Below mb w0 w):Kp w0 w:=Kp.of (h.mono (Nat.le_of_eq b.sz))
def ab9:bare.M.Small 9/\st1.M.Small 9/\st2.M.Small 9:=by
 refine⟨⟨by decide,by decide,by decide,by decide⟩,⟨by decide,by decide,by decide,by decide⟩,⟨by decide,by decide,by decide,by decide⟩⟩
def afa (h:Ri (λ_=>True) w a)(hd:a.UY.Nodup)(V:a.cnt<=90000)(W:w.cell? (N9 1 0)=some H)
  (ag:∀ d mb af s r g u X,Mx d mb af a.UY s r g u X st3->Oq 52 #[N7 mb,Oj UM,NY 1] X λe w'=>e=OA (.tuple #[])/\Mx d mb af a.UY s r g u w' st4/\O8 Th mb X w')
  (au:∀ d mb af s r g u X,Mx d mb af a.UY s r g u X st4->Oq 52 #[N7 mb,Oj RH,NY 2] X λe w'=>e=OA (.tuple #[])/\Mx d mb af a.UY s r g u w' Qb/\O8 Th mb X w') :
  Oq 27 #[N7 a.p] w λe w'=>∃ d mb af g,e=OA (N7 mb)/\Oo w d/\Bs d mb af a.UY H/\Mx d mb af a.UY Qv Qv g Qv w' Qb:=by
 have aj:=aji a w h hd V;have bi:Hid (∀ w' af,Oo w w'->w'.heap[af]? = some (.map (W9 (V9 a.UY)) a.UY.length)->Bs w' w'.heap.size af a.UY H/\OJ a.UY w' a (some 0,a.tr)):=λ_ _ A aR=>axr h hd W A aR;have bb:=hide ag;have bh:=hide au;have⟨aw,Y⟩:=xH a.p;rw[<-Y.out] at aj ⊢;clear h hd V W ag au;go_enter func27,ntmps27;go_wp2_with fail;refine cm aj ?_;rintro e d ⟨⟨af,rfl,_,aR⟩,A⟩;have⟨p,aU⟩:=NZ bi d af A aR
 have⟨N,M⟩:=xH (d.alloc (.cells #[Qv,Qv,Qv,NY 0,Pm,NY 0,Qv,.map (some af),Qv,Qv,NY 0,NY 0,NY 0,NY 0] 84));have⟨mb,l⟩:=xE d.heap.size;rw[<-l] at p;have T:My 0 d mb af a.UY Qv Qv Qv Qv N bare:=apL (by rw[M.out,l];exact PE) (by rw[M.out,l];exact Oi _ _)
 have a6:Oq 49 #[N7 mb,NY 0] N λe w'=>e=OA (NY 0)/\My 0 d mb af a.UY Qv Qv Qv Qv w' st1/\O8 Th mb N w':=(abK T.hh ab9.1 Ol 0).mono (by
  rintro e w' ⟨rfl,h1,U⟩;exact⟨rfl,T.heap h1 U,U⟩)
 clear aR;go_wp2_with fail;rw[<-M.out,<-l];clear l;refine cm a6 ?_;rintro e aQ ⟨rfl,I,bx⟩;have a7:=I.lt;obtain⟨aG,aL⟩:=I.hh.at_ 9 _ rfl;have⟨aW,aq⟩:=xH (aQ.setCell (N9 mb 11) (NY 0));have q:=I.zero.1;rw[<-aq.out] at q;have a8:=q.lt;have aM:=(q.hh.at_ 9 _ rfl).1;have a1:Oq 50 #[N7 mb,NY (-1),NY 0,NY (-1)] aW λe w'=>e=OA (NY 0)/\∃ f,My 0 d mb af a.UY Qv Qv f Qv w' st2:=(apJ q (-1) 0 (-1) Ol λX R ak=>aez ak ab9.2.1 Ol (-1) 0 (.inl rfl) (.inr rfl)).mono (by
  rintro e w' ⟨rfl,f,h1,_⟩;exact⟨rfl,f,h1⟩)
 go_wp2_with (rw[<-aq.out])
 refine cm a1 ?_;rintro e aX ⟨rfl,bv,J⟩;have bB:=J.lt;obtain⟨bE,bA⟩:=J.hh.at_ 10 _ rfl;have⟨ah,av⟩:=xH (aX.setCell (N9 mb 12) (NY 0));have m:=J.zero.2;rw[<-av.out] at m;have bD:=m.lt;have bc:=hide (m.hh.at_ 10 _ rfl).1;have ba:Hid (∀ X,Oo ah X->Oq 51 #[N7 mb,N7 aw] X λe w'=>e=OA (NY 0)/\w'=X):=λX ak=>by
  have L:=m.later ak;have O:OJ a.UY X a (some 0,a.tr):=aU.kp (Kp.of' p L.bw);have:=atl p L O;rw[Y.out];exact this
 have aJ:Hid (∀ X,Oo ah X->Oq 50 #[N7 mb,NY 0,NY (-1),NY 0] X λe w'=>e=OA (NY 1)/\∃ f,My 0 d mb af a.UY Qv Qv f Qv w' st3):=λX ak=>(apJ (m.later ak) 0 (-1) 0 Ol λX R ak=>aez ak ab9.2.2 Ol 0 (-1) (.inr rfl) (.inl rfl)).mono (by
  rintro e w' ⟨rfl,f,h1,_⟩;exact⟨rfl,f,h1⟩)
 clear aG aL aM a7 a8
 go_wp2_with (rw[<-av.out])
 refine S9 9 λae=>?_;have z:=N8 (∀{G}(h:G:=by
 refine up 3 mb 0 ae ?_;refine up 4 mb 12 ae ?_;refine uk 5 bc.out ae ?_;refine up 6 mb 0 ae ?_;refine up 7 aw 0 ae ?_;refine PS 8 λK D=>?_;go_simp;refine cm (NZ ba _ ae) ?_;rintro e bz ⟨rfl,rfl⟩;refine D.out _ _ (λ_=>ae) ?_;clear D K;refine PS 9 λK D=>?_;go_simp;refine cm (NZ aJ _ ae) ?_;rintro e aV ⟨rfl,br,L⟩;refine ko D ?_;clear D K;have bj:=L.lt;obtain⟨be,aH⟩:=L.hh.at_ 11 _ rfl;have O:=L.made.1;refine uz 10 (Oy mb 0) ?_;refine uz 11 (Oy mb 13) ?_;refine PS 12 λK D=>?_;go_simp;refine ko D ?_
 clear D K;refine RY ?_ _;go_simp;have⟨bC,aD⟩:=xE (aV.setCell (N9 mb 13) (NY 1));rw[<-aD] at O ⊢;clear aD be aH;have bm:=O.lt;go_wp2_with fail;refine cm (NZ bb _ _ _ _ _ _ _ _ O) ?_;rintro e bo ⟨rfl,aE,bn⟩;go_wp2_with fail;refine cm (NZ bh _ _ _ _ _ _ _ _ aE) ?_;rintro e bu ⟨rfl,aN,bq⟩;go_wp2_with fail;exact UC (v:=N7 mb) ⟨_,_,_,_,rfl,A,p,aN⟩),G);exact TI
def ajj:Sz 10 st3:=by
 obtain⟨n,d,f⟩:=akV.pz;have e:st3=base0:=rfl;rw[e];exact d.up (by have:base0.steps=0:=rfl;omega)
def axt:Sz 12 st4:=by
 have b:Sz 11 ({ st3 with M:=st3.M.OY 1 }:St):=ajj.heap (Nat.le_succ _) (ajj.go.OY 1) rfl;exact b.Qx 0 UM (SQ st3.M.objs.length) false
def acd (h:Ri (λ_=>True) w a)(i:a.UY.Nodup)(d:a.cnt<=90000)(e:w.cell? (N9 1 0)=some H) :
  Oq 27 #[N7 a.p] w λf w'=>∃ c mb af g,f=OA (N7 mb)/\Oo w c/\Bs c mb af a.UY H/\Mx c mb af a.UY Qv Qv g Qv w' Qb:=
 afa h i d e (λ_ _ _ _ _ _ _ _ b=>apH b ajj Ol UM 1) (λ_ _ _ _ _ _ _ _ b=>apH b axt Ol RH 2)
variable {J:Ot}{cZ:List Ad}
def atp (f:Cx w0 mb af B H aI){t:Tr}(d:Bk t)(m:Ms w0 mb af B w (Pq (some 0,t) Qb).2)(aa:RZ 0 w J cZ)(z:Uc B w cZ (Px (some 0,t))) :
  Oq 28 #[N7 mb,J,PD (Pq (some 0,t) Qb).1 none] w (PL w0 mb af B H none w (Qm (fx 20002) (Pq (some 0,t) Qb).1 (Px (some 0,t)) none (Pq (some 0,t) Qb).2)):=by
 have⟨j,l,q⟩:=Ye.1.prog (d:=(some 0,t)) d Ye.2;have p:QQ 20002 9000 (Pq (some 0,t) Qb).1 (Pq (some 0,t) Qb).2:=⟨⟨by omega,by rw[j.st];decide,j.iv.up Oe,l⟩,by omega⟩
 exact ae7 f (ab8 20002) (ae9 f 20002) p (λA k=>d.ks _ (Qh k)) q (λ_ e=>by cases e) (λ_ e=>by cases e) (ajg (d:=(some 0,t)) d) m aa z (Y:=none) (l:=none) trivial
def pvF (d:List Ou)(c:Nat)(σ:St):St:=(d.take c).foldl (fun σ b=>if σ.M.has 0 b then σ else σ.Qx 0 b vU true) σ
def aha (c:List Ou)(b:Nat)(σ:St)(hl:b<c.length):pvF c (b+1) σ=if (pvF c b σ).M.has 0 c[b] then pvF c b σ else (pvF c b σ).Qx 0 c[b] vU true:=by
 unfold pvF;exact apl
def Sz.pvF (e:List Ou):∀ (d:Nat) {σ:St},Sz ad σ->d<=e.length->Sz (ad+d) (pvF e d σ)
 | 0,_,h,_=>h
 | d+1,σ,h,f=>by
  rw[aha e d σ Oe]
  split
  ·exact(Sz.pvF e d h Oe).up Oe
  ·exact(Sz.pvF e d h Oe).Qx _ _ _ _
def pfP (c:Pl)(b:Nd)(σ:St):St:=(mkFun b c σ).2.Qx 0 b.2.tx (mkFun b c σ).1 true
def pfF (d:Pl)(c:List Nd)(b:Nat)(σ:St):St:=(c.take b).foldl (fun σ b=>pfP d b σ) σ
def ahb (d:Pl)(b:List Nd)(c:Nat)(σ:St)(hl:c<b.length):pfF d b (c+1) σ=pfP d b[c] (pfF d b c σ):=by
 unfold pfF;exact apl
def Sz.pfF (d:Pl)(c:List Nd):∀ (b:Nat) {σ:St},Sz ad σ->b<=c.length->Sz (ad+2 * b) (pfF d c b σ)
 | 0,_,h,_=>h
 | b+1,σ,h,e=>by
  rw[ahb d c b σ Oe];exact((Sz.pfF d c b h Oe).mkFun _ _).Qx _ _ _ _
def ajk (b:Nd)(σ:St):Pq b σ=(⟨1,0,OU b.2⟩,pfF ⟨1,0,OU b.2⟩ (SX b) (SX b).length (PN (OZ b.2) 1 (pvF (Py b.2) (Py b.2).length σ))):=by
 unfold Pq pfF pvF;rw[List.take_length,List.take_length];rfl
def amC (ac:Mx w0 mb af B s r g u w σ)(bC:Sz ad σ)(cR:ad+9000<1000000000){a:Ad}{d:Nd}(hd:OJ B w a d)(cO:d.2.count<=1500)(U:∀ k ∈ SX d,k.2.kids.length=2) :
  Oq 30 #[N7 mb,N7 a.p] w λe w'=>e=OA (PD (Pq d σ).1 none)/\∃ bB,Mx w0 mb af B s r g bB w' (Pq d σ).2/\Q9 mb g u g bB w w':=by
 have bZ:=ac.lt;have aD:=ajk d σ;have⟨w2,aN⟩:=xH (w.alloc (.cells #[NY 0,NY 0,Om false,QS] 73));have aG:Oo w w2:=by rw[aN.out];exact PE
 have⟨q,aH⟩:=xE w.heap.size;have bL:w2.heap[q]? = some (OM #[NY 0,NY 0,Om false,QS] 73):=by rw[aN.out,aH];exact Oi _ _
 have bF:w.heap.size<=q:=Oe;have b4:=QO d.2;have L:=hd.kp (Kp.of aG);have ci:Ug w2 d.2 a.p:=by rw[<-L.tr];exact L.at_.nat.nt
 have aL:=WJ d.2 a.p w2 ci Oe;have aj:=hide (λX (ak:Kp w2 X)=>Td d.2 a.p X (by rw[<-L.tr];exact(Ri.kp ak _ L.at_).nat.nt))
 have⟨l,hl⟩:=xE (Py d.2);have⟨aW,hds⟩:=xE (SX d);have⟨bx,aE⟩:=xE (OZ d.2);have⟨st,aJ⟩:=xE (OU d.2);have⟨cZ,aV⟩:=xE (a.ks.filter λk=>TJ k.tr);have fw:Uc B w2 cZ aW:=by rw[aV,hds];exact Uc.filter TJ _ _ L.ndl
 have cf:cZ.length=aW.length:=Uc.len _ _ fw;have cV:aW.length<=1500:=aCh
 have cM:bx.length<=1500:=by
  have bX:=List.length_filter_le Pj d.2.kids;rw[aE];show (d.2.kids.filter Pj).length<=_;omega
 have cS:l.length<=1500:=by
  have z:=N8 (∀{G}(h:G:=by
  rw[hl];omega),G);exact as5
 rw[<-hl] at aL;rw[<-aJ] at aj;rw[<-hl,<-hds,<-aE,<-aJ] at aD;rw[<-hds] at U;have⟨cU,bI⟩:=xE (Pq d σ);rw[<-bI] at aD ⊢;have⟨cr,b2⟩:=xH a.p;have el:=ac.later aG;have cG:=Q9.of (o:=g) (f:=u) aG (OO bZ);have b3:=hide bL;have be:=hide (λX (ak:Ri (λ_=>True) X a)=>Xj a X ak (by rw[hd.ks];omega))
 rw[<-aV] at be;have bv:=hide (λX f (ak:Mx w0 mb af B s r g u X f) (D:Kp w2 X) (p:Sz (ad+1500) f)=>ae1 ak p (L.kp D) Oe Oe 1);rw[<-aE] at bv;have bq:=hide aD;have ce:=hide U;have bG:=hide bF;rw[<-b2.out] at aL aj be bv ⊢;clear ac bL aD bI hl hds aE aJ aV U bF b4;go_enter func30,ntmps30;go_wp2_with fail;rw[<-aN.out,<-aH];clear aH;refine cm aL ?_;have z:=N8 (∀{G}(h:G:=by
 have cH:=hide (stays bn b3.out);have ch:Kp w2 aq:=Kp.of bn;go_wp2_with fail
 go_loopw [13] (λi wr=>∃ k:Nat,k<=l.length/\i=NY k/\Mx w0 mb af B s r g u wr (pvF l k σ)/\Q9 mb g u g u w wr/\wr.heap[q]? = some (OM #[NY 0,NY 0,Om false,QS] 73)/\Q5 w2.heap.size wr (.slice va l.length du) l/\Kp w2 wr) (λi _=>l.length - (intOf i).toNat)
 case atStart=>exact⟨0,Nat.zero_le _,rfl,eF,cT,cH.out,iH,ch⟩
 case round=>
  obtain⟨k,E,rfl,jy,hZ,kY,kz,oT⟩:=hrel;have eS:=jy;have kK:=hZ;have bV:=hide kY;have jp:=oT;have h4:=jy.lt;clear kY
  by_cases aM:k<l.length
  ·have⟨b8,b5,am,a6,_,T⟩:=Uy kz k aM;have z:=N8 (∀{G}(h:G:=by
   have f:=aha l k σ aM;have⟨x,ac⟩:=xE (l[k]);rw[<-ac] at T f;have⟨M,I⟩:=xE (pvF l k σ);rw[<-I] at eS f;have Y:Sz (ad+k) M:=by rw[I];exact Sz.pvF l k bC Oe
   have B7:=hide (λX (ak:Oo wr X)=>auP (eS.later ak).hh Y.go.sm Oe 0 x);have ag:=hide (λX (ak:Mx w0 mb af B s r g u X M)=>YL ak Y Oe 0 x vU true);have r3:=hide (eS.hh.at_ 10 _ rfl).1;have⟨au,V⟩:=xE (M.M.has 0 x);rw[<-V] at B7 f;have N:=hide f;clear ac I V f;go_wp2_with fail;clear T a6
   cases au with
   | true=>
    refine S9 8 λae=>?_;have z:=N8 (∀{G}(h:G:=by
    have z:=N8 (∀{G}(h:G:=by
    refine uz 9 (Om false) ?_;refine RY ?_ _;go_simp;go_wp2_with fail;refine⟨⟨k+1,by omega,by go_num,?_,fD,gE.out,rd,kL⟩,by simp[intOf];omega⟩
    rw[N.out,if_pos rfl];exact f3),G);exact aC1),G);exact TI
   | false=>
    refine S9 8 λae=>?_;have z:=N8 (∀{G}(h:G:=by
    have z:=N8 (∀{G}(h:G:=by
    refine uz 9 (Om true) ?_;refine RY ?_ _;go_simp;have bA:=hide (f3.hh.at_ 9 _ rfl).1;go_wp2_with fail;refine S9 9 λae=>?_;have z:=N8 (∀{G}(h:G:=by
    refine up 3 mb 0 ae ?_;refine up 4 mb 0 ae ?_;refine up 5 mb 11 ae ?_;refine uk 6 bA.out ae ?_;refine uh 7 (Oj x) ae ?_;refine uh 8 (.agg #[NY 0,NY 0,Pm]) ae ?_;refine PS 9 λK D=>?_;go_simp;refine cm (NZ ag _ (f3.later ae)) ?_;rintro e O ⟨rfl,W,p⟩;refine ko D ?_;clear D K;have bb:=W;have ba:=(fD.trans (Q9.of ae (OO gz))).Xa p;have bh:=hide (p.rest _ _ _ (stays ae gE.out) Ol);have ah:=OH (OI rd ae) p Ol
    have bi:Kp w2 O:=λb c e A ao=>O8.kp p b c e (Kp.of ae b c e (kL b c e A ao) ao) ao;refine RY ?_ _;go_simp;go_wp2_with fail;refine⟨⟨k+1,by omega,by go_num,?_,ba,bh.out,ah,bi⟩,by simp[intOf];omega⟩
    rw[N.out,if_neg OW];exact bb),G);exact TI),G);exact aC1),G);exact TI),G);exact alS
  ·have z:=N8 (∀{G}(h:G:=by
   have⟨bz,bu⟩:=xE (pvF l l.length σ);rw[<-bu] at eS bq;have bK:Sz (ad+1500) bz:=by rw[bu];exact(Sz.pvF l l.length bC Pg).up Oe
   have bH:=NZ bv wr bz eS jp bK;have⟨V,a7⟩:=xE (PN bx 1 bz);rw[<-a7] at bH bq;have cn:Sz (ad+3000) V:=by show Sz _ _;rw[a7];exact(bK.lets bx 1).up Oe
   have cy:=(eS.hh.at_ 11 _ rfl).1;clear bu a7;go_wp2_with fail;refine cm bH ?_;rintro e bD ⟨rfl,ah,a1⟩;have f3:=ah;have fD:=kK.Xa a1;have gE:=hide (a1.rest _ _ _ bV.out Ol);have kL:Kp w2 bD:=λb c e A ao=>O8.kp a1 b c e (jp b c e A ao) ao;have gz:=ah.lt;have cD:=hide (ah.hh.at_ 11 _ rfl).1;have r3:=hide (ah.hh.at_ 10 _ rfl).1;clear cy;go_wp2_with fail;refine ace (H:=λwz bc=>Oo bD wz/\wz.heap[bc]? = some (OM #[NY 1,NY 0,Om st,QS] 73)/\bD.heap.size<=bc) (G:=?GG) (λdD=>?ways) ?rest
   case ways=>
    refine S9 12 λae=>?_;refine up 0 mb 0 ae ?_;refine up 1 mb 0 ae ?_;refine up 2 mb 13 ae ?_;refine uk 3 cD.out ae ?_;refine up 4 mb 0 ae ?_;refine up 5 mb 0 ae ?_;refine up 6 mb 12 ae ?_;refine uk 7 r3.out ae ?_;refine up 8 cr 0 ae ?_;refine uq2 9 11 (λK D=>?_) λK D=>?_
    ·go_simp;refine cm (NZ aj _ (λb c e A ao=>Kp.of ae b c e (kL b c e A ao) ao)) ?_;rintro e f ⟨rfl,rfl⟩;refine D.out _ _ (λ_=>ae) ?_;clear D K;refine uh 10 (.agg #[NY 1,NY 0,Om st,QS]) ae ?_;refine PS 11 λK D=>?_;go_simp;refine D.out _ _ (λ_=>PE.drew) ?_;clear D K;exact aC2
    ·go_simp;refine D.out _ _ (λ_=>PE.drew) ?_;clear D K;refine PS 9 λK D=>?_;go_simp;refine cm (NZ aj _ (λb c e A ao=>Kp.of (PE.drew) b c e (kL b c e A ao) ao)) ?_;rintro e f ⟨rfl,rfl⟩;refine D.out _ _ (λ_=>PE.drew) ?_;clear D K;refine uh 10 (.agg #[NY 1,NY 0,Om st,QS]) (PE.drew) ?_;exact aC2
   case rest=>
    rintro wz bc ⟨au,bN,bW⟩;have lQ:=f3.later au;have i':=fD.trans (Q9.of au (OO gz));have iP:=hide bN;have hs:=hide (stays au gE.out);have k8:Kp w2 wz:=λb c e A ao=>Kp.of au b c e (kL b c e A ao) ao;have nk:=lQ.lt;have cQ:bc≠q:=λe=>by have:=lt_of_heap gE.out;omega
    have fj:=NZ be wz (Ri.kp k8 _ L.at_);clear bN bW;have z:=N8 (∀{G}(h:G:=by
    go_wp2_with fail
    go_loopw [59] (λi wr=>∃ (k:Nat) (bo:Ot),k<=cZ.length/\i=NY k/\Mx w0 mb af B s r g bo wr (pfF ⟨1,0,st⟩ aW k V)/\Q9 mb g u g bo w wr/\wr.heap[bc]? = some (OM #[NY 1,NY 0,Om st,QS] 73)/\wr.heap[q]? = some (OM #[NY 0,NY 0,Om false,QS] 73)/\Kp d6 wr) (λi _=>cZ.length - (intOf i).toNat)
    case atStart=>exact⟨0,_,Nat.zero_le _,rfl,rf,p7,vn.out,nL.out,λ_ _ _ h _=>h⟩
    case round=>
     obtain⟨k,bo,E,rfl,jy,hZ,pQ,kY,oT⟩:=hrel;have z:=N8 (∀{G}(h:G:=by
     by_cases aM:k<cZ.length
     ·obtain⟨b8,b5,am,a6,T,cP⟩:=(A6.kp jp).cell k aM;have z:=N8 (∀{G}(h:G:=by
      have⟨M,I⟩:=xE (pfF ⟨1,0,st⟩ aW k V);rw[<-I] at eS;have Y:Sz (ad+3000+2 * k) M:=by rw[I];exact Sz.pfF _ aW k cn Oe
      have bJ:=NZ ce aW[k] (List.getElem_mem _);have aX:=hide (λX (ak:Oo wr X)=>Zv (eS.later ak) (oP.kp (Kp.of ak)) bJ Y Oe ⟨1,0,st⟩ none);have⟨bE,aQ⟩:=xE ((mkFun aW[k] ⟨1,0,st⟩ M).1);have⟨br,aw⟩:=xE ((mkFun aW[k] ⟨1,0,st⟩ M).2);rw[<-aQ,<-aw] at aX;have cB:Sz (ad+3000+2 * k+1) br:=by rw[aw];exact Y.mkFun _ _
      have bR:=hide (λX b7 (ak:Mx w0 mb af B s r g b7 X br)=>YL ak cB Oe 0 x bE true);have bO:br.Qx 0 x bE true=pfF ⟨1,0,st⟩ aW (k+1) V:=by
       rw[ahb _ aW k V bm,<-I];unfold pfP;rw[<-aw,<-aQ,<-ac]
      rw[bO] at bR;have⟨N,bP⟩:=xE ((cZ[k]).p);have a8:=oP.blk;rw[<-bP] at T ds c1 aX a8;have cC:=hide a8;have b6:=hide c1;have bA:=hide (eS.hh.at_ 9 _ rfl).1;clear ac I bJ aQ aw bO bP a8 c1;go_wp2_with fail;clear T a6;have ae:Oo wr wr.drew:=QI.drew;have f:wr.drew.heap[bc]? = some (OM #[NY 1,NY 0,Om st,QS] 73)/\wr.drew.cell? (N9 N 1)=some (Oj x)/\wr.drew.cell? (N9 mb 11)=some (NY 0):=⟨stays ae fL.out,OT ae b6.out,OT ae bA.out⟩
      refine Qs 15 (λX=>X.heap[bc]? = some (OM #[NY 1,NY 0,Om st,QS] 73)/\X.cell? (N9 N 1)=some (Oj x)/\X.cell? (N9 mb 11)=some (NY 0)) Pe ?_;refine up 0 mb 0 f ?_;refine up 1 mb 0 f ?_;refine up 2 mb 0 f ?_;refine up 3 mb 0 f ?_;refine up 4 mb 0 f ?_;refine up 5 mb 11 f ?_;refine uc 6 (NY 0) rfl (Or.inl ⟨by kernel_rfl,λX ak=>by have h0:=ak.2.2;go_simp⟩) f ?_
      refine up 7 N 0 f ?_;refine up 8 N 0 f ?_;refine up 9 N 1 f ?_;refine uc 10 (Oj x) rfl (Or.inl ⟨by kernel_rfl,λX ak=>by have h0:=ak.2.1;go_simp⟩) f ?_
      refine up 11 mb 0 f ?_;refine up 12 N 0 f ?_;refine uc 13 (.agg #[NY 1,NY 0,Om st,QS]) rfl (Or.inl ⟨by kernel_rfl,λX ak=>by have h0:=(cells4 ak.1).1;have h1:=(cells4 ak.1).2.1;have U:=(cells4 ak.1).2.2.1;have bX:=(cells4 ak.1).2.2.2.1;go_simp⟩) f ?_
      refine PS 14 λK D=>?_;go_simp;refine cm (NZ aX _ ae) ?_;rintro e O ⟨rfl,cz,W,p⟩;have ag:=eS.later ae;have bj:=(p.frL (L:=none) ag).keep f.1 Ol;have bQ:O.cell? (N9 N 1)=some (Oj x):=by
       have⟨c,A⟩:=NZ cC;exact(p.kp ag).XG f.2.1 ⟨c,stays ae A⟩
      refine D.out _ _ (λ_=>⟨bj,bQ,(W.hh.at_ 9 _ rfl).1⟩) ?_;clear D K;have cI:=W.lt;have bb:=W;have ba:=(kK.trans (Q9.of ae (OO h4))).trans p;have cw:=hide bj;have bh:=hide ((p.frL (L:=none) ag).keep (stays ae bV.out) Ol);have bi:Kp d6 O:=λb c e A ao=>p.kp ag b c e (Kp.of ae b c e (jp b c e A ao) ao) ao;clear bj bQ;refine PS 15 λK D=>?_;go_simp;refine cm (NZ bR _ _ bb) ?_;rintro e cl ⟨rfl,cq,av⟩;refine ko D ?_;clear D K;have cu:=ba.Xa av
      have cA:=hide (av.rest _ _ _ cw.out Ol);have cx:=hide (av.rest _ _ _ bh.out Ol);have cE:Kp d6 cl:=λb c e A ao=>O8.kp av b c e (bi b c e A ao) ao;clear f;refine RY ?_ _;go_simp;go_wp2_with fail;exact⟨⟨k+1,cz,by omega,by go_num,cq,cu,cA.out,cx.out,cE⟩,by simp[intOf];omega⟩),G);exact aC3
     ·have z:=N8 (∀{G}(h:G:=by
      have⟨O,ag⟩:=xE ((((wr.setCell (N9 q 0) (NY 1)).setCell (N9 q 1) (NY 0)).setCell (N9 q 2) (Om st)).setCell (N9 q 3) QS);rw[<-ag];have av:=aai bV.out (NY 1) (NY 0) (Om st) QS;have aw:mb<=q:=by have:=NZ bG;omega
      have p:=Ud bV.out aw (NY 1) (NY 0) (Om st) QS;have N:=kK.new p (UR bG.out _ _ _ _);have f:=eS.YC p Ol;rw[<-ag] at av N f;have⟨cK,b1,bU,ej,_,_⟩:=cells4 av;refine U8 (v:=PD ⟨1,0,st⟩ none) ?_;rw[bq.out];rw[cf] at f;exact⟨rfl,_,f,N⟩),G);exact aC4),G);exact aw9),G);exact aC5),G);exact as6),G);exact aCj
structure Rw (w:Og)(es:Ot)(eb:Addr):Prop where
 is:es=.iface 359 (.pointer (some eb))
 at1:w.cell? (N9 1 0)=some es
 et:Rj w
 tb:Y1 w
 gl:Gl w
 lt:1<w.heap.size
def Rw.later (h:Rw w H aI)(b:Oo w w'):Rw w' H aI:=
 ⟨h.is,OT b h.at1,Vd h.et b (by have:=h.lt;omega),Lib.tabBelow_of_tabIs h.tb w' b,h.gl.later b,by have:=b.size;have:=h.lt;omega⟩
def Rw.cx (h:Rw w H aI)(b:Bs w mb af B H):Cx w mb af B H aI:=
 ⟨b,⟨h.is,h.at1,h.et,by rw[<-b.sz];exact h.lt⟩,h.tb,h.gl⟩
def ad9:Er->Int
 | .no=>1
 | .X8 _=>2
 | _=>3
def afS (b:Mo):Er->Ou
 | .X8 c=>b.shw c
 | _=>Oh
structure Fin (w0:Og)(mb:Nat)(aT aB:Ot)(c:Int)(x:Ou)(σ:St)(w:Og):Prop where
 bw:Below mb w0 w
 lt:mb<w.heap.size
 c2:w.cell? (N9 mb 2)=some aT
 c3:w.cell? (N9 mb 3)=some (NY c)
 c4:w.cell? (N9 mb 4)=some (Oj x)
 c5:w.cell? (N9 mb 5)=some (NY (σ.steps:Int))
 c6:w.cell? (N9 mb 6)=some aB
 lg:w.ownsRow mb 9 1 aT σ.log.length (σ.log.map Value.string)
 se:w.ownsRow mb 54 2 aB σ.seen.length (σ.seen.flatMap sn2)
section
variable (ac:Mx w0 mb af B s r g u w σ) (b:Int)
include ac b
def fin1:Fin w0 mb s r b Oh σ (w.setCell (N9 mb 3) (NY b)):=by
 have⟨h,f⟩:=ac.hh.cell 1 (NY b);exact aC6
def fin2 (x:Ou):Fin w0 mb s r b x σ ((w.setCell (N9 mb 3) (NY b)).setCell (N9 mb 4) (Oj x)):=by
 have⟨e,d⟩:=ac.hh.cell 1 (NY b);have⟨h,c⟩:=e.cell 2 (Oj x);have f:=d.trans c;exact aC6
end
def Eo.va {c:Er}{b:Va}(h:Eo σ c)(e:c=.X8 b)(d:Sz 400000000 σ):-9223372036854775808<=b.n/\b.n<=9223372036854775807:=by
 subst e;have:=(ae4 (a:=σ.M) h.2 d.go.sm.o).2;omega
def atq (d:Cx w0 mb af B H aI)(p:Ms w0 mb af B w σ){b:Er}(m:Eo σ b)(o:Sz 400000000 σ){e:Ot}(j:WZ H w e b) :
  Oq 31 #[N7 mb,e] w λf w'=>f=OA (.tuple #[])/\∃ s r,Fin w0 mb s r (ad9 b) (afS σ.M b) σ w':=by
 obtain⟨s,r,g,u,k⟩:=p
 cases b with
 | no=>
  have i:e=Qd:=j;subst i;refine(axn k).mono ?_;rintro f w' ⟨rfl,l,c,_,rfl⟩;exact⟨rfl,s,r,fin1 c 1⟩
 | stop=>
  have i:e=H:=j;subst i;refine(apI d.st k).mono ?_;rintro f w' ⟨rfl,l,c,_,rfl⟩;exact⟨rfl,s,r,fin1 c 3⟩
 | X8 v=>
  obtain⟨q,rfl,n⟩:=j;refine(atj d.b d.tb d.st k n (m.va rfl o)).mono ?_;rintro f w' ⟨rfl,l,c,_,rfl⟩;exact⟨rfl,s,r,fin2 c 2 _⟩
 | mis=>exact m.elim
def TB (w:Og)(t:Tr)(b:Ending)(w':Og):Prop:=Oo w w'/\match chk t false false false with
 | some c=>b=OA (.tuple #[ZR (.slice none 0 0) (.slice none 0 0) 0 0 ⟨#[]⟩,.iface 34 (NY c)])
 | none=>∃ s r,b=OA (.tuple #[ZR s r (ad9 (Qr t).1) (Qr t).2.steps (afS (Qr t).2.M (Qr t).1),.nilIface])/\w'.ownsRow w.heap.size 9 1 s (Qr t).2.log.length ((Qr t).2.log.map Value.string)/\w'.ownsRow w.heap.size 54 2 r (Qr t).2.seen.length ((Qr t).2.seen.flatMap sn2)
def ahc {t:Tr}(b:Bk t):Eo (Qr t).2 (Qr t).1/\Sz 400000000 (Qr t).2:=by
 have h:=axu b;exact⟨h.er,h.iv.sz (by have:=h.ex.st;have c:Qb.steps=0:=rfl;show (9000:Int)<=_;omega) h.er.le⟩
def apM:Sz 100 Qb:=by
 obtain⟨n,d,e⟩:=Ye.1.pz;exact d.up (by have:Qb.steps=0:=rfl;omega)
abbrev acf (w:Og)(b:Nat)(x y c J d:Ot):Og:=((((w.setCell (N9 b 0) x).setCell (N9 b 1) y).setCell (N9 b 2) c).setCell (N9 b 3) J).setCell (N9 b 4) d
def aC7 {b:Nat}{x y f J j:Ot}{t:TypeId}(h:w.heap[b]? = some (OM #[x,y,f,J,j] t))(x' jC jm d c:Ot):(acf w b x' jC jm d c).heap[b]? = some (OM #[x',jC,jm,d,c] t):=by
 have z:=N8 (∀{G}(h:G:=by
 have e:=heap_setCell_same _ b 3 _ t d av;have i:=heap_setCell_same _ b 4 _ t c e;exact i),G);exact atn
def apN {c d:Nat}{a:Og}(h:Below c a w)(b:c<=d)(x y e J f:Ot):Below c a (acf w d x y e J f):=
 ((((h.setCell b x).setCell b y).setCell b e).setCell b J).setCell b f
def Yw {b c d f e:Nat}{i:Ot}{j:List Ot}(h:w.ownsRow b d f i e j)(m:c<=b):w.ownsRow c d f i e j:=⟨h.1,by
 rcases h.2 with h|⟨p,n,o,q,k,l⟩
 ·exact .inl h
 ·exact .inr ⟨p,n,o,q,Nat.le_trans m k,l⟩⟩
def ZC {c d o b f e:Nat}{i:Ot}{j:List Ot}{t:TypeId}{n:Array Ot}(h:w.ownsRow c b f i e j)(k:w.heap[d]? = some (OM n t))(l:t≠b)(x:Ot):(w.setCell (N9 d o) x).ownsRow c b f i e j:=
 ownsRow_setCell_other h (λp=>by
  have⟨q,m⟩:=PW h p;exact QA k m l rfl) x
def ahd {i b d q p:Nat}{v:Ot}{z:List Ot}{t:TypeId}{x y D J E:Ot}(h:w.ownsRow i d q v p z)(f:w.heap[b]? = some (OM #[x,y,D,J,E] t))(c:t≠d)(e n o l A:Ot):(acf w b e n o l A).ownsRow i d q v p z:=by
 have m:=heap_setCell_same w b 0 _ t e f;have j:=heap_setCell_same _ b 1 _ t n m;have k:=heap_setCell_same _ b 2 _ t o j;have C:=heap_setCell_same _ b 3 _ t l k;exact ZC (ZC (ZC (ZC (ZC h f c _) m c _) j c _) k c _) C c _
def ay8 (bO:Rw w H aI){a:Ad}(cy:Ri (λ_=>True) w a)(bn:a.UY.Nodup)(bi:chk a.tr false false false=none->Bk a.tr)(aW:a.tr.kd=1)(bh:a.tr.ill=0)(aM:a.tr.count<=1500) :
  Oq 11 #[N7 a.p] w (TB w a.tr):=by
 have⟨E,aw⟩:=xH (w.alloc (.cells #[Qv,NY 0,Pm,NY 0,Qv] 29));have F:Oo w E:=by rw[aw.out];exact PE
 have⟨m,ak⟩:=xE w.heap.size;have aE:E.heap[m]? = some (OM #[Qv,NY 0,Pm,NY 0,Qv] 29):=by rw[aw.out,ak];exact Oi _ _
 have a1:w.heap.size<=m:=Oe;have av:=Ri.kp (Kp.of F) _ cy;have I:=adx a.tr a.p false false E av.nat.nt bh Oe;have aX:=hide aE;have a7:=hide a1;have bW:=lt_of_heap aE
 cases A:chk a.tr false false false with
 | some O=>
  rw[A] at I;have ag:TB w a.tr=λe w'=>Oo w w'/\e=OA (.tuple #[ZR Qv Qv 0 0 ⟨#[]⟩,.iface 34 (NY O)]):=by
   unfold TB;rw[A]
  rw[ag];clear bn bi aW bh aM aE a1 av A ag bW;have⟨cY,ah⟩:=xE a.p;rw[<-ah] at I ⊢;clear ah;go_enter func11,ntmps11;go_wp2_with fail;rw[<-aw.out,<-ak];refine cm I ?_;rintro e aj ⟨p,z⟩;have be:e=OA (.iface 34 (NY O)):=p;subst be;have N:=F.trans (z.mono F.size);have aD:=hide (stays z aX.out);have⟨cC,cx,cD,cJ,cQ,f,c9⟩:=cells5 (stays z aX.out);have cG:=f 0;have cH:=f 1;have cI:=f 2;have cP:=f 3;have cq:=f 4;clear p f ak;go_wp2_with fail
  have⟨bH,C⟩:=xE (acf aj m Qv (NY 0) Pm (NY 0) Qv);have D:=aC7 aD.out Qv (NY 0) Pm (NY 0) Qv;have l:=apN N a7.out Qv (NY 0) Pm (NY 0) Qv;unfold acf at C D l;rw[<-C] at D l;have⟨a6,aU,aV,ba,bu,_,_⟩:=cells5 D;rw[<-C];refine bodyPost_ret (v:=.tuple #[ZR Qv Qv 0 0 ⟨#[]⟩,.iface 34 (NY O)]) (by simp[results,results11,go_sem,a6,aU,aV,ba,bu]) rfl ?_;exact⟨l,rfl⟩
 | none=>
  rw[A] at I;have ae:=bi A;have⟨t,cu⟩:=xE a.tr;have ag:TB w a.tr=λe w'=>Oo w w'/\∃ s r,e=OA (.tuple #[ZR s r (ad9 (Qr a.tr).1) (Qr a.tr).2.steps (afS (Qr a.tr).2.M (Qr a.tr).1),Qd])/\w'.ownsRow w.heap.size 9 1 s (Qr a.tr).2.log.length ((Qr a.tr).2.log.map Value.string)/\w'.ownsRow w.heap.size 54 2 r (Qr a.tr).2.seen.length ((Qr a.tr).2.seen.flatMap sn2):=by
   unfold TB;rw[A]
  rw[ag];have bF:∀ bo ∈ SX ((some 0,a.tr):Nd),bo.2.kids.length=2:=λbo b3=>by
   obtain⟨dw,dv,dk,dx,ds,cw,_⟩:=(Y5 (d:=(some 0,a.tr)) ae bo b3).sh;rw[cw];rfl
  have bN:a.cnt<=90000:=by rw[<-a.ad8];omega
  have bC:=hide (λd (o:Oo E d)=>acd (Ri.kp (Kp.of o) _ av) bn bN ((bO.later F).later o).at1);have da:=hide (λd (o:Oo w d) mb af (ae:Bs d mb af a.UY H)=>(bO.later o).cx ae);have db:=hide (λd (o:Kp E d)=>akU (Ri.kp o _ av));obtain⟨bV,bJ⟩:Eo (Qr a.tr).2 (Qr a.tr).1/\Sz 400000000 (Qr a.tr).2:=ahc ae;have⟨cL,aJ⟩:=xE (Qr a.tr);have bS:=hide (λd (au:OJ a.UY d a (some 0,a.tr))=>axm au aW)
  have bb:=hide (λd k mb af g (cw:Mx k mb af a.UY Qv Qv g Qv d Qb) (au:OJ a.UY d a (some 0,a.tr))=>amC cw apM Ol au aM bF);have a8:=hide (λd k mb af J (o:Cx k mb af a.UY H aI) (aS:Ms k mb af a.UY d (Pq (some 0,a.tr) Qb).2) (aa:RZ 0 d J a.ks) (au:OJ a.UY d a (some 0,a.tr))=>atp o ae aS aa au.ndl);have⟨bz,aN⟩:=xE (Pq (some 0,a.tr) Qb);have⟨aQ,br⟩:=xE (Qm (fx 20002) bz.1 (Px (some 0,a.tr)) none bz.2);have cj:cL=(aQ.1.2.1,aQ.2):=by rw[aJ,br,aN];rfl
  rw[<-aJ] at bV bJ ⊢;rw[<-aN] at bb a8;rw[<-br] at a8;subst cj;have⟨cY,ah⟩:=xE a.p;rw[<-ah] at I bC bS bb ⊢;clear bn bi aW bh aM aE a1 av A ag bW ah bF bN aJ aN br cu;go_enter func11,ntmps11;go_wp2_with fail;rw[<-aw.out,<-ak];refine cm I ?_;rintro e aj ⟨p,z⟩;have be:e=OA Qd:=p;subst be;have N:=F.trans (z.mono F.size);have aD:=hide (stays z aX.out);have cf:=NZ bC aj z;have cO:Kp E aj:=Kp.of z;clear p ak;go_wp2_with fail;refine cm cf ?_
  rintro e aq ⟨k,mb,af,g,rfl,q,aG,bc⟩;have cn:Oo k aq:=by unfold Oo;rw[aG.sz];exact bc.bw
  have ci:Oo aj aq:=q.trans (cn.mono q.size);have bX:=NZ da k (N.trans (q.mono N.size)) mb af aG;have cR:Kp E aq:=λb c e b2 p=>Kp.of ci b c e (cO b c e b2 p) p;have bA:=NZ db aq cR;have bq:Hid (w.heap.size<mb):=by show _<_;rw[<-aG.sz];have:=lt_of_heap aD.out;have:=q.size;have:=NZ a7;omega
  have cK:Hid (Oo w k/\k.heap[m]? = some (OM #[Qv,NY 0,Pm,NY 0,Qv] 29)/\k.heap.size=mb):=⟨N.trans (q.mono N.size),stays q aD.out,aG.sz⟩;have b5:=NZ bS aq bA;go_wp2_with fail;refine cm b5 ?_;rintro e dr ⟨rfl,J,rfl,bG⟩;obtain⟨dq,uc,cl⟩:=bG.form;subst cl;have ch:=NZ bb _ k mb af g bc bA;go_wp2_with fail;refine cm ch ?_;rintro e cE ⟨rfl,dc,cU,cS⟩;have bB:=cS.kp bc;have ce:=bA.kp bB;have b8:=bG.kp bB;have b6:=NZ a8 cE k mb af _ bX ⟨_,_,_,_,cU⟩ b8 ce
  obtain⟨⟨dg,df,dy⟩,de⟩:=bz;go_wp2_with fail;refine cm b6 ?_;rintro e bI ⟨⟨dt,rfl,cr⟩,aS,_,_⟩;obtain⟨⟨cM,O,dd⟩,aH⟩:=aQ;obtain⟨cp,⟨cV,on,cX⟩⟩:=cM;have⟨bH,C⟩:=xE (bI.alloc (.cells #[Om cp,NY cV,NY on,Oj cX] 67));have l:Oo bI bH:=by rw[C];exact PE
  have c7:=atq bX (aS.later l) bV bJ (cr.later l);have c8:=hide C;clear C;go_wp2_with fail;rw[<-c8.out];refine cm c7 ?_;rintro e bQ ⟨rfl,s,r,j⟩;have⟨U,R,bU⟩:=OG j.lg;have⟨T,Y,bP⟩:=OG j.se;have⟨V,bR⟩:=xE aH.log.length;have⟨W,bZ⟩:=xE aH.seen.length;rw[<-bR] at bU;rw[<-bZ] at bP;subst bU bP;clear bR bZ;have⟨q,bj,bL⟩:=NZ cK;have bE:m<mb:=by rw[<-bL];exact lt_of_heap bj
  have bx:=(j.bw.block m bE).trans bj;have cT:Oo w bQ:=q.trans (j.bw.mono (by have:=NZ bq;omega))
  have⟨cC,cx,cD,cJ,cQ,f,c9⟩:=cells5 bx;have cG:=f 0;have cH:=f 1;have cI:=f 2;have cP:=f 3;have cq:=f 4;have dm:=j.c2;have cz:=j.c3;have cA:=j.c4;have cB:=j.c5;have dn:=j.c6;have dj:=j.lt;have dp:m≠mb:=Oe;have bv:=hide bx;have b4:=Yw j.lg (show w.heap.size<=mb by have:=NZ bq;omega)
  have b7:=Yw j.se (show w.heap.size<=mb by have:=NZ bq;omega)
  have⟨L,bK⟩:=xH (ad9 O);have⟨M,bD⟩:=xH (afS aH.M O);have⟨X,b1⟩:=xH ((aH.steps:Int):Int);rw[<-bK.out] at cz;rw[<-bD.out] at cA;rw[<-b1.out] at cB;clear bj bL bx f bE;go_wp2_with fail;have⟨du,bm⟩:=xE (acf bQ m (.slice U V R) (NY L) (Oj M) (NY X) (.slice T W Y));have D:=aC7 bv.out (.slice U V R) (NY L) (Oj M) (NY X) (.slice T W Y);have l:=apN cT a7.out (.slice U V R) (NY L) (Oj M) (NY X) (.slice T W Y)
  have aL:=ahd b4 bv.out Ol (.slice U V R) (NY L) (Oj M) (NY X) (.slice T W Y);have aR:=ahd b7 bv.out Ol (.slice U V R) (NY L) (Oj M) (NY X) (.slice T W Y);unfold acf at bm D l aL aR;rw[<-bm] at D l aL aR;rw[<-bm];have⟨a6,aU,aV,ba,bu,_,_⟩:=cells5 D;refine bodyPost_ret (v:=.tuple #[ZR (.slice U V R) (.slice T W Y) L X M,Qd]) (by simp[results,results11,go_sem,a6,aU,aV,ba,bu]) rfl ?_;exact⟨l,_,_,by rw[bK.out,bD.out,b1.out],aL,aR⟩
end
section
variable {O:Ot} {a c:Og} {N:Addr}
def anm (l:Rw a O N){m:Ou}{d:Tr}{e:Nat}{f:Nat->Prop}(b:Qu O4 O0 m=.ok d)(k:PO f a d e):Oq 11 #[N7 e] a (TB a d):=by
 obtain⟨n,rfl,rfl,j,g,_⟩:=PO.ad d e k;exact ay8 l (Ri.mono (λ_ _ _=>trivial) _ j) g (λi=>(XO b i).bk Oe) (VQ b).1 (adr b) (VQ b).2
def avd:(Qr acV).1=.no/\(Qr acV).2.log=[⟨#[54]⟩]:=by
 have h:=ave;unfold auF at h
 split at h
 ·rename_i b
  exact⟨b,of_decide_eq_true h⟩
 ·
  cases h
section
variable {b:Tr} {d:Ending}
def VJ (h:TB a b d c)(g:chk b false false false=none):Oo a c/\∃ f e,d=OA (.tuple #[ZR f e (ad9 (Qr b).1) (Qr b).2.steps (afS (Qr b).2.M (Qr b).1),Qd])/\c.ownsRow a.heap.size 9 1 f (Qr b).2.log.length ((Qr b).2.log.map Value.string)/\c.ownsRow a.heap.size 54 2 e (Qr b).2.seen.length ((Qr b).2.seen.flatMap sn2):=by
 unfold TB at h;rw[g] at h;exact h
def Zg {e:Int}(h:TB a b d c)(f:chk b false false false=some e):Oo a c/\d=OA (.tuple #[ZR Qv Qv 0 0 ⟨#[]⟩,.iface 34 (NY e)]):=by
 unfold TB at h;rw[f] at h;exact h
end
def ay9 (l:Rw a O N):Oq 10 #[] a λf c=>f=OA (Om true)/\Oo a c:=by
 have z:=YT O4 O0 Ze a l.gl.li U4 l.gl.ta;rw[afT] at z;have HP:=hide (λr o (T:Oo a r) (b:PO (From a.heap.size) r acV o)=>anm (l.later T) afT b);obtain⟨e,j⟩:=avd;have⟨E,D⟩:=xH (Qr acV);rw[<-D.out] at e j;have ag:=hide e;have Y:=hide j;clear e j;go_enter func10,ntmps10;go_wp2_with fail;refine cm z ?_;rintro f ae ⟨o,rfl,b,i⟩;have W:=NZ HP ae o i b;clear b;go_wp2_with fail;refine cm W ?_;intro f q R;obtain⟨s,aq,ak,rfl,g,S⟩:=VJ R avf
 rw[<-D.out] at g ⊢;have⟨J,L⟩:=xE ((Qr acV).2.seen.length);have⟨I,b⟩:=xE (E.2.steps:Int);rw[ag.out,<-b];rw[Y.out] at g;have⟨B,t,H⟩:=OG S;rw[<-L] at H;have⟨m,k,ad⟩:=OG g;subst H ad;have⟨aj,P⟩:=xE (ad9 .no);have⟨A,w⟩:=xE (afS E.2.M .no);rw[<-w];have e:ad9 .no=1:=rfl;rw[e];have⟨d,p⟩:=xH (q.alloc (.cells #[.slice m 1 k,NY 1,Oj A,NY I,.slice B J t] 29))
 have F:d.heap[q.heap.size]? = some (OM #[.slice m 1 k,NY 1,Oj A,NY I,.slice B J t] 29):=by rw[p.out];exact Oi _ _
 have v:Oo q d:=by rw[p.out];exact PE
 have⟨u,n⟩:=xH (d.alloc (.cells #[Oj ⟨#[54]⟩] 9));have U:Oo d u:=by rw[n.out];exact PE
 have M:=v.trans (U.mono v.size);have C:=i.trans ((s.trans (M.mono s.size)).mono i.size);have ah:=aj2 [⟨#[54]⟩] (.slice m 1 k) (.slice (some (N9 d.heap.size 0)) 1 1) u (OI g M) (by rw[n.out];exact World.ownsRow_lit d #[Oj ⟨#[54]⟩] 1 Pg (by unfold maxLen;omega) rfl) Ol
 have⟨av,au,az,aD,aE,_,aG⟩:=cells5 F;clear L b P w e F
 go_wp2_with (first|rw[<-p.out] | rw[<-n.out])
 refine cm ah ?_;rintro f aw ⟨rfl,V⟩;have X:=C.trans (V.mono C.size);go_wp2;go_ret;exact⟨rfl,X⟩
end
mutual
def avc:∀ (e:Ad) (a:Bool),wk tyF a e=(a || !Tr.YR e.tr)
 | .mk g b d f c,a=>by
  rw[wk,Ad.tr,Tr.YR];simp only[tyF,if_true];rw[aq2 c]
  show ((a||tyB b d) || !Tr.afy (Ad.trs c))=(a || !(!(tyB b d)&&Tr.afy (Ad.trs c)))
  cases a <;> cases tyB b d <;> rfl
def aq2:∀ (b:List Ad) (a:Bool),wks tyF a b=(a || !Tr.afy (Ad.trs b))
 | [],a=>by rw[wks,Ad.trs,Tr.afy];cases a <;> rfl
 | c::b,a=>by
  rw[wks,avc c,aq2 b,Ad.trs,Tr.afy]
  cases a <;> cases Tr.YR c.tr <;> rfl
end
def aaA (a b:Ou)(c:Ou)(h:c.data.toList=a.data.toList++[32]):c++b=jk a b:=by
 apply ByteArray.ext;apply Array.toList_inj.1;simp[jk,h]
section
variable {b0:Ot} {d c:Og} {bZ:Addr}
def aFQ {l:Ou}{a:Tr}{b:Nat}{e:Nat->Prop}(g:Qu O4 O0 l=.ok a)(j:PO e d a b):Oq 17 #[N7 b] d λk c=>k=OA (Om (!Tr.YR a))/\Oo d c:=by
 obtain⟨f,rfl,rfl,i,m,_⟩:=PO.ad a b j;have h:=ajU f d i (by have:=(VQ g).2;rw[Ad.ad8] at this;omega)
 rw[avc,Bool.false_or] at h;exact h
def aaL {l:Tr}{g:Ending}(h:TB d l g c):Oo d c/\∃ k q i j s f o r x p,g=OA (.tuple #[ZR (.slice k q i) (.slice j s f) o r x,p]):=by
 cases e:chk l false false false with
 | none=>
  have⟨b,u,t,a,n,m⟩:=VJ h e;obtain⟨k,i,rfl⟩:=OG n;obtain⟨j,f,rfl⟩:=OG m;exact⟨b,_,_,_,_,_,_,_,_,_,_,a⟩
 | some m=>
  have⟨b,a⟩:=Zg h e;exact⟨b,_,_,_,_,_,_,_,_,_,_,a⟩
def aq3 {g:PaR}{a:Ending}(h:ZE g d a c):Oo d c/\∃ f b,a=OA (.tuple #[.pointer f,Om b]):=by
 unfold ZE at h
 split at h
 ·obtain⟨i,rfl,_,e⟩:=h;exact⟨e,_,_,rfl⟩
 ·exact⟨h.2,_,_,h.1⟩
abbrev aq4:Ou:=⟨#[39,117,115,101,32,115,116,114,105,99,116,39,59,32]⟩
abbrev ajV:Ou:=⟨#[39,117,115,101,32,115,108,111,112,112,121,39,59,32]⟩
def aq5 (g:Ou)(B:Rw d b0 bZ):Oq 5 #[Oj g] d λe c=>e=OA (Om true)/\Oo d c:=by
 by_cases b1:2000<g.size
 ·have bu:(2000:Int)<(g.size:Int):=Oe;go_enter func5,ntmps5;go_wp2;go_ret;exact⟨rfl,QI⟩
 ·have bu:¬ (2000:Int)<(g.size:Int):=Oe;have b2:¬ 9223372036854775807<14+g.size:=Oe;have L:=YT O4 O0 (jk Wh g) d B.gl.li U4 B.gl.ta;have H:=hide (λa (n:Oo d a)=>YT O4 O0 (jk U2 g) a (B.later n).gl.li U4 (B.later n).gl.ta);have xB:=hide (λa (n:Oo d a)=>ay9 (B.later n))
  cases o:Qu O4 O0 (jk Wh g) with
  | ok b=>
   rw[o] at L
   cases E:Qu O4 O0 (jk U2 g) with
   | ok aM=>
    rw[E] at H;have a8:=hide (λa O r (n:Oo d a) (v:Oo a O) (R:PO (From d.heap.size) a b r)=>anm (B.later (n.trans (v.mono n.size))) o (PO.later (Below.stay v) _ _ R));have aW:=hide (λa O Z r (aD:Oo d Z) (n:Oo d a) (v:Oo a O) (R:PO (From Z.heap.size) a aM r)=>anm (B.later (n.trans (v.mono n.size))) E (PO.later (Below.stay v) _ _ (PO.mono (J:=From d.heap.size) (λbC f _=>Nat.le_trans aD.size f) _ _ R)));have bf:=hide (λa r (R:PO (From d.heap.size) a b r)=>aFQ o R);obtain⟨m,rfl,rfl⟩:=aqX o E
    have aL:Hid (Tr.YR (stA m)=true->(Qr (stA m)).1=.no->(Qr (stB m)).1=.no/\∃ J,(Qr (stB m)).2=(Qr (stA m)).2.fu J):=λh1 U=>ayN h1 U;have aJ:Hid (chk (stA m) false false false=none->chk (stB m) false false false=none):=λh=>ayK h;have aQ:Hid (chk (stA m) false false false=none->Sz 400000000 (Qr (stA m)).2):=λh=>(ahc ((XO o h).bk Oe)).2;have⟨b,bm⟩:=xH (stA m);have⟨aM,bR⟩:=xH (stB m);rw[<-bm.out] at L a8 bf aL aJ aQ;rw[<-bR.out] at H aW aL aJ;clear o E
    go_enter func5,ntmps5;go_wp2_with fail;rw[aaA Wh g aq4 rfl];refine cm L ?_;rintro e N ⟨r,rfl,a1,S⟩;have j:=S;have bI:=a1;go_wp2_with fail;rw[aaA U2 g ajV rfl];refine cm (NZ H N j) ?_;rintro e w2 ⟨bc,rfl,bN,F⟩;have cq:=j.trans (F.mono j.size);have bH:=hide (PO.later (Below.stay F) _ _ bI);have bq:=hide (λO v=>NZ aW w2 O N bc j cq v bN);go_wp2_with fail;refine cm (NZ xB w2 cq) ?_;rintro e aq ⟨rfl,bn⟩;have dG:=cq.trans (bn.mono cq.size)
    have a7:=PO.later (Below.stay bn) _ _ bH.out;have aE:=NZ bf aq r a7
    cases V:Tr.YR b with
    | false=>
     rw[V] at aE;clear V;go_wp2_with fail;refine cm aE ?_;rintro e bD ⟨rfl,dc⟩;have iN:=dG.trans (dc.mono dG.size);go_wp2_with fail;refine cm (NZ xB bD iN) ?_;rintro e ce ⟨rfl,fm⟩;have f:=iN.trans (fm.mono iN.size);go_wp2;go_ret;exact⟨rfl,f⟩
    | true=>
     rw[V] at aE;have bo:=hide V;clear V;go_wp2_with fail;refine cm aE ?_;rintro e bD ⟨rfl,dc⟩;have iN:=dG.trans (dc.mono dG.size);have bO:=PO.later (Below.stay dc) _ _ a7;have aI:=NZ a8 bD bD r iN QI bO;have bS:=bn.trans (dc.mono bn.size);have BR:=hide bS
     cases s:chk b false false false with
     | some P=>
      have t:=hide s;clear s;go_wp2_with fail;refine cm aI ?_;intro e ce T;obtain⟨fm,rfl⟩:=Zg T t.out;have⟨ch,gn⟩:=xE (ce.alloc (.cells #[Qv,NY 0,Pm,NY 0,Qv] 29));have z:=N8 (∀{G}(h:G:=by
      have ad:=hide gn;clear gn;go_wp2_with fail;rw[<-ad.out];refine cm ig ?_;intro e q W;obtain⟨A,la,D,fy,g9,I,au,p,l,x,X,rfl⟩:=aaL W;have f:=ny.trans (A.mono ny.size);have⟨u,i⟩:=xE (q.alloc (.cells #[.slice la D fy,NY p,Oj x,NY l,.slice g9 I au] 29));have w:Oo q u:=by rw[i];exact PE
      have M:=f.trans (w.mono f.size);have ae:=hide i;clear i
      go_wp2_with (rw[<-ae.out])
      go_ret;exact⟨rfl,M⟩),G);exact ax7
     | none=>
      have aG:=NZ aJ s;have aD:=NZ aQ s;have⟨p,I⟩:=xE (ad9 (Qr b).1);have⟨x,aw⟩:=xE (afS (Qr b).2.M (Qr b).1);have⟨l,az⟩:=xE ((Qr b).2.steps:Int);have⟨f,X⟩:=xE ((Qr b).2.log);have⟨s2,P⟩:=xE ((Qr b).2.seen);have bK:f.length<=1000000000:=by have:=aD.lg;rw[X];omega
      have bh:s2.length<=1000000000:=by have:=aD.se;rw[P];omega
      have bb:Hid (∀ a e c,TB a b e c->Oo a c/\∃ la fy g9 au,e=OA (.tuple #[ZR (.slice la f.length fy) (.slice g9 s2.length au) p l x,Qd])/\Q5 a.heap.size c (.slice la f.length fy) f/\c.ownsRow a.heap.size 54 2 (.slice g9 s2.length au) s2.length (s2.flatMap sn2)):=λa e c h=>by
       have⟨h1,bB,bA,U,av,aN⟩:=VJ h s;rw[<-I,<-aw,<-az] at U;rw[<-X] at av;rw[<-P] at aN;exact aD5
      by_cases t:(Qr b).1=.no
      ·have bL:Hid (∀ a e c,TB a aM e c->Oo a c/\∃ la fy g9 au,e=OA (.tuple #[ZR (.slice la f.length fy) (.slice g9 s2.length au) p l x,Qd])/\Q5 a.heap.size c (.slice la f.length fy) f/\c.ownsRow a.heap.size 54 2 (.slice g9 s2.length au) s2.length (s2.flatMap sn2)):=λa e c h=>by
        have⟨h1,bB,bA,U,av,aN⟩:=VJ h aG;have⟨bj,J,aU⟩:=NZ aL bo.out t;rw[bj,aU] at U;rw[aU] at av aN;have bi:ad9 .no=p:=by rw[I,t]
        have bx:afS ((Qr b).2.fu J).M .no=x:=by rw[aw,t];rfl
        rw[bi,bx,show (((Qr b).2.fu J).steps:Int)=l from az.symm] at U;rw[show ((Qr b).2.fu J).log=f from X.symm] at av;rw[show ((Qr b).2.fu J).seen=s2 from P.symm] at aN;exact aD5
       have a6:p=1:=by rw[I,t];rfl
       clear s aG I aw az X P t;subst a6;go_wp2_with fail;refine cm aI ?_;intro e ce T;obtain⟨fm,la,fy,g9,au,rfl,br,bv⟩:=NZ bb _ _ _ T;have⟨ch,gn⟩:=xE (ce.alloc (.cells #[.slice la f.length fy,NY 1,Oj x,NY l,.slice g9 s2.length au] 29));have Y:ch.heap[ce.heap.size]? = some (OM #[.slice la f.length fy,NY 1,Oj x,NY l,.slice g9 s2.length au] 29):=by rw[gn];exact Oi _ _
       have z:=N8 (∀{G}(h:G:=by
       have bU:=Yw (OI br fh) (Nat.zero_le _);have bX:=Yw (OI bv fh) (Nat.zero_le _);have aH:=hide Y;have ad:=hide gn;clear gn Y;go_wp2_with fail;rw[<-ad.out];refine cm ig ?_;intro e q W;obtain⟨A,ag,ah,aj,ak,rfl,bW,bx⟩:=NZ bL _ _ _ W;have⟨u,i⟩:=xE (q.alloc (.cells #[.slice ag f.length ah,NY 1,Oj x,NY l,.slice aj s2.length ak] 29))
       have aU:u.heap[q.heap.size]? = some (OM #[.slice ag f.length ah,NY 1,Oj x,NY l,.slice aj s2.length ak] 29):=by rw[i];exact Oi _ _
       have w:Oo q u:=by rw[i];exact PE
       have D:=A.trans (w.mono A.size);have bj:=hide (stays D aH.out);have M:=ny.trans (D.mono ny.size);have bV:=axJ (B:=0) f s2 (.slice la f.length fy) (.slice g9 s2.length au) (.slice ag f.length ah) (.slice aj s2.length ak) 1 l x u (OI bU D) (Yw (OI bW w) (Nat.zero_le _)) (OI bX D) (Yw (OI bx w) (Nat.zero_le _)) bK bh;have ae:=hide i;have⟨aS,aR,aV,aX,ba,_,be⟩:=cells5 bj.out;have⟨bG,bE,bF,bJ,bP,_,bz⟩:=cells5 aU;clear i aU
       go_wp2_with (rw[<-ae.out])
       refine cm bV ?_;rintro e b3 ⟨rfl,bQ⟩;have bi:=M.trans (bQ.mono M.size);clear aS aR aV aX ba be bG bE bF bJ bP bz;go_wp2;go_ret;exact⟨rfl,bi⟩),G);exact ax7
      ·have a6:(p != 1)=true:=by
        rw[I]
        cases aU:(Qr b).1 with
        | no=>exact absurd aU t
        | _=>rfl
       clear s aG I aw az X P t;go_wp2_with fail;refine cm aI ?_;intro e ce T;obtain⟨fm,la,fy,g9,au,rfl,_,_⟩:=NZ bb _ _ _ T;have⟨ch,gn⟩:=xE (ce.alloc (.cells #[.slice la f.length fy,NY p,Oj x,NY l,.slice g9 s2.length au] 29));have Y:ch.heap[ce.heap.size]? = some (OM #[.slice la f.length fy,NY p,Oj x,NY l,.slice g9 s2.length au] 29):=by rw[gn];exact Oi _ _
       have z:=N8 (∀{G}(h:G:=by
       have aH:=hide Y;have ad:=hide gn;clear gn Y;go_wp2_with fail;rw[<-ad.out];refine cm ig ?_;intro e q W;obtain⟨A,ag,bi,ah,aj,bj,ak,br,bv,aU,bx,rfl⟩:=aaL W;have⟨u,i⟩:=xE (q.alloc (.cells #[.slice ag bi ah,NY br,Oj aU,NY bv,.slice aj bj ak] 29));have w:Oo q u:=by rw[i];exact PE
       have D:=A.trans (w.mono A.size);have M:=ny.trans (D.mono ny.size);have⟨aS,aR,aV,aX,ba,_,be⟩:=cells5 (stays D aH.out);have ae:=hide i;clear i
       go_wp2_with (rw[<-ae.out])
       go_ret;exact⟨rfl,M⟩),G);exact ax7
   | _=>
    rw[E] at H;clear o E;go_enter func5,ntmps5;go_wp2_with fail;rw[aaA Wh g aq4 rfl];refine cm L ?_;rintro e N ⟨r,rfl,a1,S⟩;have j:=S;go_wp2_with fail;rw[aaA U2 g ajV rfl];refine cm (NZ H N j) ?_;rintro e w2 ⟨rfl,F⟩;have cq:=j.trans (F.mono j.size);exact aDP
  | _=>
   rw[o] at L;clear o;go_enter func5,ntmps5;go_wp2_with fail;rw[aaA Wh g aq4 rfl];refine cm L ?_;rintro e N ⟨rfl,S⟩;have j:=S;go_wp2_with fail;rw[aaA U2 g ajV rfl];refine cm (NZ H N j) ?_;intro e w2 U;obtain⟨F,bc,bC,rfl⟩:=aq3 U;have cq:=j.trans (F.mono j.size);clear U;exact aDP
